/-
  Contracts: BestPieces, in the program and in the model.
-/
import Derived.Test.YthlclieifcbkjabT10
import Derived.Test.YthlclieifcbkjabU7
namespace Go.Proofs.Ythlclieifcbkjab
open Go.RowKit
set_option linter.unusedVariables false

def ordL (n : Nat) (xs : List Int) : List Int := sortN (fun a b => decide (cfP xs a b < 0)) n
noncomputable def beM (n : Nat) (xs : List Int) (a : Int) : Nat := takN (lef xs (ordL n xs) a) n
noncomputable def beB (n : Nat) (xs : List Int) (a : Int) : Bool := piesB n xs && (decide (0 ≤ a ∧ a ≤ 200000) && decide (lef xs (ordL n xs) a (beM n xs a) ≤ 0))
noncomputable def beL (n : Nat) (xs : List Int) (a : Int) : List Int := if beB n xs a then putA ((ordL n xs).take (beM n xs a)) else []
theorem be_no {n : Nat} {xs : List Int} {a : Int} (h : piesB n xs = false ∨ ¬ (0 ≤ a ∧ a ≤ 200000) ∨ ¬ lef xs (ordL n xs) a (beM n xs a) ≤ 0) : beB n xs a = false ∧ beL n xs a = [] := by
  have : beB n xs a = false := by
    unfold beB
    rcases h with h | h | h
    · rw [h]; rfl
    · rw [decide_eq_false h]; simp
    · rw [decide_eq_false h]; simp
  exact ⟨this, by unfold beL; rw [this]; rfl⟩
theorem be_yes {n : Nat} {xs : List Int} {a : Int} (h : piesB n xs = true) (h1 : 0 ≤ a ∧ a ≤ 200000) (h2 : lef xs (ordL n xs) a (beM n xs a) ≤ 0) : beB n xs a = true ∧ beL n xs a = putA ((ordL n xs).take (beM n xs a)) := by
  have : beB n xs a = true := by unfold beB; rw [h, decide_eq_true h1, decide_eq_true h2]; rfl
  exact ⟨this, by unfold beL; rw [this]; rfl⟩
theorem ordL_len (n : Nat) (xs : List Int) : (ordL n xs).length = n := sortN_len _ _
theorem putA_len (l : List Int) (hn : l.Nodup) : (putA l).length = l.length := by rw [putA_sort hn]; exact List.length_mergeSort _
theorem beL_len (n : Nat) (xs : List Int) (a : Int) : (beL n xs a).length ≤ 4000000 := by
  unfold beL
  split
  · rename_i h
    unfold beB at h
    simp only [Bool.and_eq_true] at h
    have := pies_true h.1
    rw [putA_len _ (take_nodup (show (ordL n xs).Nodup from sortN_nodup _ _) _), List.length_take, ordL_len]
    omega
  · simp

/-- What the walks want of the order, the numbers wanted and the pieces. -/
structure Take (n m : Nat) (xs S : List Int) (f : Nat → Int) : Prop where
  len : S.length = n
  le : m ≤ n
  pos : ∀ j, j < m → 0 < f j
  stop : m = n ∨ f m ≤ 0
  at_ : ∀ k, k < n → ∃ b : Nat, S.getD k 0 = (b : Int) ∧ b < n ∧ f (k + 1) = f k - xs.getD (b * 3) 0 ∧ 0 ≤ xs.getD (b * 3) 0 ∧ xs.getD (b * 3) 0 ≤ 10000
  box : ∀ k, k ≤ n → -200000 ≤ f k ∧ f k ≤ 200000
theorem take_of {n : Nat} {xs : List Int} {a : Int} (hp : piesB n xs = true) (ha : 0 ≤ a ∧ a ≤ 200000) : Take n (beM n xs a) xs (ordL n xs) (lef xs (ordL n xs) a) := by
  obtain ⟨n1, n2, hall⟩ := pies_true hp
  obtain ⟨t1, t2, t3⟩ := takN_is (lef xs (ordL n xs) a) n
  have at_ : ∀ k, k < n → ∃ b : Nat, (ordL n xs).getD k 0 = (b : Int) ∧ b < n ∧ lef xs (ordL n xs) a (k + 1) = lef xs (ordL n xs) a k - xs.getD (b * 3) 0 ∧ 0 ≤ xs.getD (b * 3) 0 ∧ xs.getD (b * 3) 0 ≤ 10000 := fun k hk => by
    obtain ⟨b, e, hb⟩ := sortN_at (fun a b => decide (cfP xs a b < 0)) n hk
    obtain ⟨u0, u1, _, _⟩ := pie_box hall hb
    refine ⟨b, e, hb, ?_, u0, u1⟩
    rw [lef, show (ordL n xs).getD k 0 = (b : Int) from e, Int.toNat_natCast]
  refine ⟨ordL_len n xs, t1, t2, t3, at_, fun k hk => ?_⟩
  have := lef_box xs (ordL n xs) a k (fun j hj => by
    obtain ⟨b, e, _, _, u0, u1⟩ := at_ j (by omega)
    rw [e, Int.toNat_natCast]
    exact ⟨u0, u1⟩)
  omega

set_option maxHeartbeats 8000000 in
set_option maxRecDepth 100000 in
theorem c_BestPieces (n : Nat) (xs : List Int) (v : Value) (a : Int) (w : World) (hl : n ≤ 1048576) (h : SeenP w v n xs) :
    Calls Try.prog 16 #[v, .int .i64 a] w (GivesRow2 w (beL n xs a) (beB n xs a)) := by
  obtain ⟨i0, hi0, hz0, hz1, hz2⟩ := info_parts int_info
  have HI := Lib.hid hi0
  have C1 : Hid (Calls Try.prog 9 #[v] w fun e w' => ∃ v', e = .returned (.tuple #[v', .bool (piesB n xs)]) ∧ Row w' w.heap.size v' (soL n xs) ∧ Below w.heap.size w w') := c_SortPieces n xs v w hl h
  by_cases hp : piesB n xs = true
  case neg =>
    have hp' : piesB n xs = false := by simpa using hp
    obtain ⟨e1, e2⟩ := be_no (a := a) (.inl hp')
    rw [e1, e2]
    rw [hp'] at C1
    obtain ⟨A, c, rfl, _, _, _⟩ := h
    clear hp hp' e1 e2 hi0
    go_enter Try.func16, Try.ntmps16
    go_wp2_with fail
    refine C1.out.mono ?_
    rintro e w1 ⟨ov, rfl, ho, hb1⟩
    have HO1 := Lib.hid ho
    have HB1 : Hid (Below w.heap.size w w1) := hb1
    clear ho hb1
    go_wp2
    go_ret2
    exact ⟨_, rfl, Row.nil _ _, HB1.out⟩
  case pos =>
  rw [hp] at C1
  by_cases ra : 0 ≤ a ∧ a ≤ 200000
  case neg =>
    obtain ⟨e1, e2⟩ := be_no (n := n) (xs := xs) (.inr (.inl ra))
    rw [e1, e2]
    have hd : decide (0 ≤ a ∧ a ≤ 200000) = false := decide_eq_false ra
    obtain ⟨A, c, rfl, _, _, _⟩ := h
    clear hp e1 e2 hi0
    by_cases h1 : a < 0
    · clear ra
      go_enter Try.func16, Try.ntmps16
      go_wp2_with fail
      refine C1.out.mono ?_
      rintro e w1 ⟨ov, rfl, ho, hb1⟩
      have HO1 := Lib.hid ho
      have HB1 : Hid (Below w.heap.size w w1) := hb1
      clear ho hb1
      go_wp2
      go_ret2
      exact ⟨_, rfl, Row.nil _ _, HB1.out⟩
    · have h2 : 200000 < a := by omega
      clear ra
      go_enter Try.func16, Try.ntmps16
      go_wp2_with fail
      refine C1.out.mono ?_
      rintro e w1 ⟨ov, rfl, ho, hb1⟩
      have HO1 := Lib.hid ho
      have HB1 : Hid (Below w.heap.size w w1) := hb1
      clear ho hb1
      go_wp2
      go_ret2
      exact ⟨_, rfl, Row.nil _ _, HB1.out⟩
  case pos =>
    have hd : decide (0 ≤ a ∧ a ≤ 200000) = true := decide_eq_true ra
    obtain ⟨n1, n2, hall⟩ := pies_true hp
    have HT0 := Lib.hid (take_of hp ra)
    have HY : Hid (lef xs (ordL n xs) a (beM n xs a) ≤ 0 → beB n xs a = true ∧ beL n xs a = putA ((ordL n xs).take (beM n xs a))) := fun h => be_yes hp ra h
    have HN : Hid (0 < lef xs (ordL n xs) a (beM n xs a) → beB n xs a = false ∧ beL n xs a = []) := fun h => be_no (.inr (.inr (by omega)))
    have HSO : Hid (soL n xs = ordL n xs) := by show _ = _; unfold soL ordL; rw [hp]; rfl
    have HND : Hid ((ordL n xs).Nodup) := sortN_nodup _ _
    have HF0 : Hid (lef xs (ordL n xs) a 0 = a) := rfl
    have CS : Hid (∀ u, Below w.heap.size w u → Calls Try.prog 23 #[v] u (GivesRow u (ordL n xs))) := fun u hu => c_sbSort n xs v u n2 (h.below hu) hall
    obtain ⟨A, c, rfl, _, _, hA⟩ := h
    obtain ⟨b, off, rfl, hb, hcc⟩ := hA (by omega)
    have E1 : Hid (∀ (j : Nat) (u : World), j < n → Below w.heap.size w u → u.cell? ⟨b, off + j * 3, none⟩ = some (.int .i64 (xs.getD (j * 3) 0))) := fun j u hj hu => by rw [hu.cell (p := ⟨b, off + j * 3, none⟩) hb]; exact hcc _ (by omega)
    clear hp hall hcc hA hi0
    generalize beL n xs a = BL at *
    generalize beB n xs a = BB at *
    generalize beM n xs a = m at *
    generalize lef xs (ordL n xs) a = f at *
    generalize ordL n xs = S at *
    have a0 : ¬ a < 0 := by omega
    have a1 : ¬ 200000 < a := by omega
    clear ra
    have HLS := Lib.hid HT0.out.len
    have hmn := HT0.out.le
    go_enter Try.func16, Try.ntmps16
    go_wp2_with fail
    refine C1.out.mono ?_
    rintro e w1 ⟨ov, rfl, ho, hb1⟩
    have HO1 := Lib.hid ho
    have HB1 : Hid (Below w.heap.size w w1) := hb1
    clear ho hb1
    rw [show soL n xs = S from HSO.out] at HO1
    have HO2 : Hid (Row w1 w.heap.size ov S) := HO1.out
    have HBo : Hid (Below w1.heap.size w1 w1) := Below.refl _ _
    clear HO1
    obtain ⟨og, oc, ohv, _, ogl⟩ := HO2.out.form (by rw [HLS.out]; omega)
    subst ohv
    have OC : Hid (∀ u, Below w1.heap.size w1 u → ∀ k, k < n → u.cell? ⟨og, k, none⟩ = some (.int .i64 (S.getD k 0))) := fun u hu k hk => by rw [hu.cell (p := ⟨og, k, none⟩) ogl]; exact HO2.out.cell k (by rw [HLS.out]; exact hk)
    rw [HLS.out]
    go_wp2_with fail
    go_loopw [1, 8, 28] (fun q bv i wr => ∃ k : Nat, k ≤ m ∧ i = .int .i64 k ∧ q = .int .i64 (f k) ∧ Row wr w1.heap.size bv (S.take k) ∧ Below w1.heap.size w1 wr) (fun _ _ i _ => m - (intOf i).toNat)
    case atStart => exact ⟨0, Nat.zero_le _, rfl, by rw [HF0.out], by rw [List.take_zero]; exact Row.nil _ _, Below.refl _ _⟩
    case round =>
      obtain ⟨k, hk, rfl, rfl, hr, hbw⟩ := hrel
      have HR := Lib.hid hr
      have HB := Lib.hid hbw
      clear hr hbw
      have sw := HB.out.size
      have LT : Hid ((S.take k).length ≤ 20) := by show _ ≤ _; rw [List.length_take, HLS.out]; omega
      have LA : Hid ((putA (S.take k)).length = (S.take k).length) := putA_len _ (take_nodup HND.out _)
      obtain ⟨f0, f1⟩ := HT0.out.box k (by omega)
      by_cases hlt : k < m
      · have fp := HT0.out.pos k hlt
        obtain ⟨b', eb, hb', hf, t0, t1⟩ := HT0.out.at_ k (by omega)
        have TS : Hid (S.take (k + 1) = S.take k ++ [(b' : Int)]) := by show _ = _; rw [take_snoc (by rw [HLS.out]; omega), eb]
        have o0 : wr.cell? ⟨og, k, none⟩ = some (.int .i64 b') := by rw [← eb]; exact OC.out wr HB.out k (by omega)
        have HBW : Hid (Below w.heap.size w wr) := HB1.out.trans (HB.out.mono HB1.out.size)
        have l0 := E1.out b' wr hb' HBW.out
        have HT : Hid (∀ u, Below w.heap.size w u → u.cell? ⟨b, off + b' * 3, none⟩ = some (.int .i64 (xs.getD (b' * 3) 0))) := fun u hu => E1.out b' u hb' hu
        have HF := Lib.hid hf
        obtain ⟨g0, g1⟩ := HT0.out.box (k + 1) (by omega)
        rw [hf] at g0 g1
        clear hf eb
        generalize xs.getD (b' * 3) 0 = t at *
        have b1 : (0 : Int) ≤ (k : Int) := by omega
        have b2 : (k : Int) < (n : Int) := by omega
        have b3 : (0 : Int) ≤ (b' : Int) := by omega
        have b4 : (b' : Int) < (n : Int) := by omega
        have fp' : ¬ f k ≤ 0 := by omega
        by_cases hdummy : True
        · clear hdummy
          go_wp2_with (at_builtin; refine wpList_append_src rfl _ _ 24 rfl (base := w1.heap.size) Try.underlying24 HI.out hz0 hz1 hz2 rfl (by decide) rfl (World.ownsRow.alloc HR.out _) rfl (src_one (x := b') (by simp)) ints_ones (by have := LT.out; unfold maxLen; omega) (by have := LT.out; omega) (by first | omega | (simp; omega)) ?_)
          intro v3 w3 hown3 hgrow3 _
          have R3 := Lib.hid (row_of2 (X := S.take k) (Y := [(b' : Int)]) hown3)
          rw [← TS.out] at R3
          have B3 : Hid (Below w1.heap.size w1 w3) := (HB.out.alloc sw _).grown hgrow3 (by first | omega | (simp; omega)) (fun g hg => (World.ownsRow.lt HR.out g hg).1)
          have l0' : w3.cell? ⟨b, off + b' * 3, none⟩ = some (.int .i64 t) := HT.out w3 (HB1.out.trans (B3.out.mono HB1.out.size))
          clear hown3 hgrow3
          go_wp2
          go_roundw
          case rel => exact ⟨k + 1, by omega, by go_num, by rw [HF.out], R3.out, B3.out⟩
          case measure => simp [intOf]; omega
        · exact absurd trivial hdummy
      · obtain rfl : k = m := by omega
        by_cases hkn : k < n
        · clear hlt
          have HBW : Hid (Below w.heap.size w wr) := HB1.out.trans (HB.out.mono HB1.out.size)
          obtain ⟨b', eb, hb', _, _, _⟩ := HT0.out.at_ k hkn
          have o0 : wr.cell? ⟨og, k, none⟩ = some (.int .i64 b') := by rw [← eb]; exact OC.out wr HB.out k hkn
          have hf : f k ≤ 0 := by have := HT0.out.stop; omega
          obtain ⟨g1, g2⟩ := HY.out hf
          have G1 := Lib.hid g1
          have G2 := Lib.hid g2
          have hf' : ¬ 0 < f k := by omega
          have b1 : (0 : Int) ≤ (k : Int) := by omega
          have b2 : (k : Int) < (n : Int) := by omega
          clear g1 g2 eb
          go_wp2_with fail
          refine (c_Sort (S.take k) _ w1.heap.size wr (by have := LT.out; omega) HR.out).mono ?_
          rintro e w5 ⟨rfl, hr5, hg5⟩
          rw [← putA_sort (take_nodup HND.out _)] at hr5
          have HR5 := Lib.hid (hr5.mono HB1.out.size)
          have HB5 : Hid (Below w.heap.size w w5) := HBW.out.grown hg5 HBW.out.size (fun g hg => Nat.le_trans HB1.out.size (World.ownsRow.lt HR.out g hg).1)
          clear hr5 hg5
          go_wp2
          go_ret2
          exact ⟨u8, by rw [G1.out]; rfl, by rw [G2.out]; exact HR5.out, HB5.out⟩
        · obtain rfl : k = n := by omega
          have HBW : Hid (Below w.heap.size w wr) := HB1.out.trans (HB.out.mono HB1.out.size)
          by_cases hf : f k ≤ 0
          · obtain ⟨g1, g2⟩ := HY.out hf
            have G1 := Lib.hid g1
            have G2 := Lib.hid g2
            have hf' : ¬ 0 < f k := by omega
            clear g1 g2
            go_wp2_with fail
            refine (c_Sort (S.take k) _ w1.heap.size wr (by have := LT.out; omega) HR.out).mono ?_
            rintro e w5 ⟨rfl, hr5, hg5⟩
            rw [← putA_sort (take_nodup HND.out _)] at hr5
            have HR5 := Lib.hid (hr5.mono HB1.out.size)
            have HB5 : Hid (Below w.heap.size w w5) := HBW.out.grown hg5 HBW.out.size (fun g hg => Nat.le_trans HB1.out.size (World.ownsRow.lt HR.out g hg).1)
            clear hr5 hg5
            go_wp2
            go_ret2
            exact ⟨u8, by rw [G1.out]; rfl, by rw [G2.out]; exact HR5.out, HB5.out⟩
          · obtain ⟨g1, g2⟩ := HN.out (by omega)
            have G1 := Lib.hid g1
            have G2 := Lib.hid g2
            have hf' : 0 < f k := by omega
            clear g1 g2
            go_wp2
            go_ret2
            exact ⟨.slice none 0 0, by rw [G1.out]; rfl, by rw [G2.out]; exact Row.nil _ _, HBW.out⟩

set_option maxHeartbeats 8000000 in
set_option maxRecDepth 100000 in
theorem c_BestPiecesS (n : Nat) (xs : List Int) (v : Value) (a : Int) (w : World) (hl : n ≤ 1048576) (h : SeenP w v n xs) :
    Calls Try.prog 15 #[v, .int .i64 a] w (GivesRow2 w (beL n xs a) (beB n xs a)) := by
  obtain ⟨i0, hi0, hz0, hz1, hz2⟩ := info_parts int_info
  have HI := Lib.hid hi0
  have C1 : Hid (Calls Try.prog 22 #[v] w fun e w' => e = .returned (.bool (piesB n xs)) ∧ Below w.heap.size w w') := c_sbList n xs v w hl h
  by_cases hp : piesB n xs = true
  case neg =>
    have hp' : piesB n xs = false := by simpa using hp
    obtain ⟨e1, e2⟩ := be_no (a := a) (.inl hp')
    rw [e1, e2]
    rw [hp'] at C1
    obtain ⟨A, c, rfl, _, _, _⟩ := h
    clear hp hp' e1 e2 hi0
    go_enter Try.func15, Try.ntmps15
    go_wp2_with fail
    refine C1.out.mono ?_
    rintro e w1 ⟨rfl, hb1⟩
    have HB1 : Hid (Below w.heap.size w w1) := hb1
    clear hb1
    go_wp2
    go_ret2
    exact ⟨_, rfl, Row.nil _ _, HB1.out⟩
  case pos =>
  rw [hp] at C1
  by_cases ra : 0 ≤ a ∧ a ≤ 200000
  case neg =>
    obtain ⟨e1, e2⟩ := be_no (n := n) (xs := xs) (.inr (.inl ra))
    rw [e1, e2]
    have hd : decide (0 ≤ a ∧ a ≤ 200000) = false := decide_eq_false ra
    obtain ⟨A, c, rfl, _, _, _⟩ := h
    clear hp e1 e2 hi0
    clear ra
    go_enter Try.func15, Try.ntmps15
    go_wp2_with fail
    refine C1.out.mono ?_
    rintro e w1 ⟨rfl, hb1⟩
    have HB1 : Hid (Below w.heap.size w w1) := hb1
    clear hb1
    go_wp2_with fail
    refine (c_l1In a 0 200000 w1).mono ?_
    rintro e w3 ⟨rfl, rfl⟩
    rw [hd]
    go_wp2
    go_ret2
    exact ⟨_, rfl, Row.nil _ _, HB1.out⟩
  case pos =>
    have hd : decide (0 ≤ a ∧ a ≤ 200000) = true := decide_eq_true ra
    obtain ⟨n1, n2, hall⟩ := pies_true hp
    have HT0 := Lib.hid (take_of hp ra)
    have HY : Hid (lef xs (ordL n xs) a (beM n xs a) ≤ 0 → beB n xs a = true ∧ beL n xs a = putA ((ordL n xs).take (beM n xs a))) := fun h => be_yes hp ra h
    have HN : Hid (0 < lef xs (ordL n xs) a (beM n xs a) → beB n xs a = false ∧ beL n xs a = []) := fun h => be_no (.inr (.inr (by omega)))
    have HSO : Hid (soL n xs = ordL n xs) := by show _ = _; unfold soL ordL; rw [hp]; rfl
    have HND : Hid ((ordL n xs).Nodup) := sortN_nodup _ _
    have HF0 : Hid (lef xs (ordL n xs) a 0 = a) := rfl
    have CS : Hid (∀ u, Below w.heap.size w u → Calls Try.prog 23 #[v] u (GivesRow u (ordL n xs))) := fun u hu => c_sbSort n xs v u n2 (h.below hu) hall
    obtain ⟨A, c, rfl, _, _, hA⟩ := h
    obtain ⟨b, off, rfl, hb, hcc⟩ := hA (by omega)
    have E1 : Hid (∀ (j : Nat) (u : World), j < n → Below w.heap.size w u → u.cell? ⟨b, off + j * 3, none⟩ = some (.int .i64 (xs.getD (j * 3) 0))) := fun j u hj hu => by rw [hu.cell (p := ⟨b, off + j * 3, none⟩) hb]; exact hcc _ (by omega)
    clear hp hall hcc hA hi0
    generalize beL n xs a = BL at *
    generalize beB n xs a = BB at *
    generalize beM n xs a = m at *
    generalize lef xs (ordL n xs) a = f at *
    generalize ordL n xs = S at *
    have a0 : ¬ a < 0 := by omega
    have a1 : ¬ 200000 < a := by omega
    clear ra
    have HLS := Lib.hid HT0.out.len
    have hmn := HT0.out.le
    go_enter Try.func15, Try.ntmps15
    go_wp2_with fail
    refine C1.out.mono ?_
    rintro e w1 ⟨rfl, hb1⟩
    have HB1 : Hid (Below w.heap.size w w1) := hb1
    clear hb1
    go_wp2_with fail
    refine (c_l1In a 0 200000 w1).mono ?_
    rintro e w3 ⟨rfl, rfl⟩
    rw [hd]
    go_wp2_with fail
    refine (CS.out w1 HB1.out).mono ?_
    rintro e w2 ⟨ov, rfl, ho, hb2⟩
    have HB2 : Hid (Below w.heap.size w w2) := HB1.out.trans (hb2.mono HB1.out.size)
    have HO2 : Hid (Row w2 w.heap.size ov S) := ho.mono HB1.out.size
    clear ho hb2
    obtain ⟨og, oc, ohv, _, ogl⟩ := HO2.out.form (by rw [HLS.out]; omega)
    subst ohv
    have OC : Hid (∀ u, Below w2.heap.size w2 u → ∀ k, k < n → u.cell? ⟨og, k, none⟩ = some (.int .i64 (S.getD k 0))) := fun u hu k hk => by rw [hu.cell (p := ⟨og, k, none⟩) ogl]; exact HO2.out.cell k (by rw [HLS.out]; exact hk)
    rw [HLS.out]
    go_wp2_with fail
    go_loopw [1, 6, 20] (fun q bv i wr => ∃ k : Nat, k ≤ m ∧ i = .int .i64 k ∧ q = .int .i64 (f k) ∧ Row wr w2.heap.size bv (putA (S.take k)) ∧ Below w2.heap.size w2 wr) (fun _ _ i _ => m - (intOf i).toNat)
    case atStart => exact ⟨0, Nat.zero_le _, rfl, by rw [HF0.out], by rw [List.take_zero]; exact Row.nil _ _, Below.refl _ _⟩
    case round =>
      obtain ⟨k, hk, rfl, rfl, hr, hbw⟩ := hrel
      have HR := Lib.hid hr
      have HB := Lib.hid hbw
      clear hr hbw
      have sw := HB.out.size
      have LT : Hid ((S.take k).length ≤ 20) := by show _ ≤ _; rw [List.length_take, HLS.out]; omega
      have LA : Hid ((putA (S.take k)).length = (S.take k).length) := putA_len _ (take_nodup HND.out _)
      obtain ⟨f0, f1⟩ := HT0.out.box k (by omega)
      by_cases hlt : k < m
      · have fp := HT0.out.pos k hlt
        obtain ⟨b', eb, hb', hf, t0, t1⟩ := HT0.out.at_ k (by omega)
        have TS : Hid (putA (S.take (k + 1)) = putI (putA (S.take k)) (b' : Int)) := by show _ = _; rw [take_snoc (by rw [HLS.out]; omega), eb, putA_snoc]
        have o0 : wr.cell? ⟨og, k, none⟩ = some (.int .i64 b') := by rw [← eb]; exact OC.out wr HB.out k (by omega)
        have HBW : Hid (Below w.heap.size w wr) := HB2.out.trans (HB.out.mono HB2.out.size)
        have l0 := E1.out b' wr hb' HBW.out
        have HT : Hid (∀ u, Below w.heap.size w u → u.cell? ⟨b, off + b' * 3, none⟩ = some (.int .i64 (xs.getD (b' * 3) 0))) := fun u hu => E1.out b' u hb' hu
        have HF := Lib.hid hf
        obtain ⟨g0, g1⟩ := HT0.out.box (k + 1) (by omega)
        rw [hf] at g0 g1
        clear hf eb
        generalize xs.getD (b' * 3) 0 = t at *
        have b1 : (0 : Int) ≤ (k : Int) := by omega
        have b2 : (k : Int) < (n : Int) := by omega
        have b3 : (0 : Int) ≤ (b' : Int) := by omega
        have b4 : (b' : Int) < (n : Int) := by omega
        have fp' : ¬ f k ≤ 0 := by omega
        by_cases hdummy : True
        · clear hdummy
          have C := Lib.hid (c_l1Put (putA (S.take k)) (b' : Int) _ w2.heap.size wr HR.out sw (by have := LT.out; have := LA.out; omega))
          rw [← TS.out] at C
          obtain ⟨PA, PC, hpv⟩ := HR.out.shape
          subst hpv
          go_wp2_with fail
          refine C.out.mono ?_
          rintro e w3 ⟨v3, rfl, hr3, hb3⟩
          have R3 := Lib.hid hr3
          have B3 : Hid (Below w2.heap.size w2 w3) := HB.out.trans (hb3.mono HB.out.size)
          clear hr3 hb3
          go_wp2
          go_roundw
          case rel => exact ⟨k + 1, by omega, by go_num, by rw [HF.out], R3.out, B3.out⟩
          case measure => simp [intOf]; omega
        · exact absurd trivial hdummy
      · obtain rfl : k = m := by omega
        by_cases hkn : k < n
        · clear hlt
          have HBW : Hid (Below w.heap.size w wr) := HB2.out.trans (HB.out.mono HB2.out.size)
          obtain ⟨b', eb, hb', _, _, _⟩ := HT0.out.at_ k hkn
          have o0 : wr.cell? ⟨og, k, none⟩ = some (.int .i64 b') := by rw [← eb]; exact OC.out wr HB.out k hkn
          have hf : f k ≤ 0 := by have := HT0.out.stop; omega
          obtain ⟨g1, g2⟩ := HY.out hf
          have G1 := Lib.hid g1
          have G2 := Lib.hid g2
          have hf' : ¬ 0 < f k := by omega
          have b1 : (0 : Int) ≤ (k : Int) := by omega
          have b2 : (k : Int) < (n : Int) := by omega
          clear g1 g2 eb
          go_wp2
          go_ret2
          exact ⟨u6, by rw [G1.out]; rfl, by rw [G2.out]; exact HR.out.mono HB2.out.size, HBW.out⟩
        · obtain rfl : k = n := by omega
          have HBW : Hid (Below w.heap.size w wr) := HB2.out.trans (HB.out.mono HB2.out.size)
          by_cases hf : f k ≤ 0
          · obtain ⟨g1, g2⟩ := HY.out hf
            have G1 := Lib.hid g1
            have G2 := Lib.hid g2
            have hf' : ¬ 0 < f k := by omega
            clear g1 g2
            go_wp2
            go_ret2
            exact ⟨u6, by rw [G1.out]; rfl, by rw [G2.out]; exact HR.out.mono HB2.out.size, HBW.out⟩
          · obtain ⟨g1, g2⟩ := HN.out (by omega)
            have G1 := Lib.hid g1
            have G2 := Lib.hid g2
            have hf' : 0 < f k := by omega
            clear g1 g2
            go_wp2
            go_ret2
            exact ⟨.slice none 0 0, by rw [G1.out]; rfl, by rw [G2.out]; exact Row.nil _ _, HBW.out⟩
end Go.Proofs.Ythlclieifcbkjab
