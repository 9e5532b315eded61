/-
  Contracts: the model's SortPieces.
-/
import Derived.Test.YthlclieifcbkjabT6
import Derived.Test.YthlclieifcbkjabAP
import Derived.Deep.RegionHeld3
import Derived.Deep.CutBlock
import Derived.Deep.DeepCutAuto
namespace Go.Proofs.Ythlclieifcbkjab
open Go.RowKit
set_option linter.unusedVariables false

/-- A list and a bool. -/
def GivesRow2 (w : World) (xs : List Int) (b : Bool) (e : Ending) (w' : World) : Prop := ∃ v, e = .returned (.tuple #[v, .bool b]) ∧ Row w' w.heap.size v xs ∧ Below w.heap.size w w'
theorem row_none (w : World) : (w.alloc (.cells #[] 3)).ownsRow w.heap.size 3 1 (.slice (some ⟨w.heap.size, 0, none⟩) 0 0) 0 (ints []) := by
  have := World.ownsRow_lit (base := w.heap.size) (e := 3) (size := 1) w #[] 0 (Nat.le_refl _) (by unfold maxLen; omega) (by simp)
  simpa [ints] using this

/-- What a list reads as, kept by new blocks. -/
theorem Src.alloc {w : World} {size m c : Nat} {A : Option Addr} {xs : List Value} (h : Src w size A m c xs) (o : Obj) : Src (w.alloc o) size A m c xs := by
  refine ⟨h.1, h.2.1, fun h0 => ?_⟩
  obtain ⟨ad, e, hc⟩ := h.2.2 h0
  refine ⟨ad, e, fun j u hu => ?_⟩
  have := hc j u hu
  rw [World.cell?_alloc_lt w o _ (by
    rcases Nat.lt_or_ge (ad.add j).block w.heap.size with hl | hg
    · exact hl
    · exfalso
      have e : w.heap[(ad.add j).block]? = none := Array.getElem?_eq_none hg
      simp [World.cell?, e] at this)]
  exact this

set_option maxHeartbeats 1000000 in
theorem c_l1Own (A : Option Addr) (m c : Nat) (xs : List Int) (w : World) (hl : xs.length ≤ 4000000) (hx : xs.length = m) (h : Src w 1 A m c (ints xs)) :
    Calls Try.prog 40 #[.slice A m c] w (GivesRow w xs) := by
  obtain ⟨i0, hi0, hz0, hz1, hz2⟩ := info_parts int_info
  have HI := Lib.hid hi0
  clear hi0
  have HN := Lib.hid (row_none w)
  have HS := Lib.hid (h.alloc (.cells #[] 3))
  have HX := Lib.hid hx
  have hm : m ≤ 4000000 := by omega
  clear h hx
  go_enter Try.func40, Try.ntmps40
  go_wp2_with (at_builtin; refine wpList_append_src rfl _ _ 24 rfl (base := w.heap.size) Try.underlying24 HI.out hz0 hz1 hz2 rfl (by decide) rfl HN.out rfl HS.out ints_ones ?c3 ?c4 ?c5 ?_)
  case c3 => unfold maxLen; omega
  case c4 => omega
  case c5 => simp
  intro v' w4 hown' hgrow _
  have R1 := Lib.hid (row_app (xs := []) (ys := xs) (n := m) (by have := HX.out; simp; omega) hown')
  rw [List.nil_append] at R1
  have R2 : Hid (Below w.heap.size w w4) := ((Below.refl _ _).alloc (Nat.le_refl _) _).grown hgrow (by simp) (fun g hg => by simp [Value.ownBlock] at hg; omega)
  clear hown' hgrow
  go_wp2
  go_ret
  exact ⟨_, rfl, R1.out, R2.out⟩

theorem soL_len (n : Nat) (xs : List Int) : (soL n xs).length ≤ 4000000 := by
  unfold soL
  split
  · rename_i h
    rw [sortN_len]
    have := pies_true h
    omega
  · simp
theorem sortN_succ (lt : Int → Int → Bool) (k : Nat) : sortN lt (k + 1) = ((sortN lt k).take (posR lt k (sortN lt k) k) ++ [(k : Int)]) ++ (sortN lt k).drop (posR lt k (sortN lt k) k) := by
  rw [sortN, insAt]
  simp

theorem src_below {w w' : World} {size m c : Nat} {A : Option Addr} {xs : List Value} (h : Src w size A m c xs) (hb : Below w.heap.size w w') : Src w' size A m c xs := by
  refine ⟨h.1, h.2.1, fun h0 => ?_⟩
  obtain ⟨ad, e, hc⟩ := h.2.2 h0
  refine ⟨ad, e, fun j u hu => ?_⟩
  have := hc j u hu
  rw [hb.cell (by
    rcases Nat.lt_or_ge (ad.add j).block w.heap.size with hl | hg
    · exact hl
    · exfalso
      have e : w.heap[(ad.add j).block]? = none := Array.getElem?_eq_none hg
      simp [World.cell?, e] at this)]
  exact this
theorem row_of3 {w : World} {B n : Nat} {v : Value} {X Z Y : List Int} (h : w.ownsRow B 3 1 v n ((ints X ++ ints Z) ++ ints Y)) : Row w B v ((X ++ Z) ++ Y) := by
  have hl := h.1
  have e : ints ((X ++ Z) ++ Y) = (ints X ++ ints Z) ++ ints Y := by simp [ints]
  rw [← e, ints_len, Nat.mul_one] at hl
  unfold Row
  rw [e, hl]
  exact h
theorem row_src {w : World} {B : Nat} {A : Option Addr} {k c : Nat} {xs : List Int} (hx : xs.length = k) (h : Row w B (.slice A k c) xs) :
    (A = none ∨ ∃ g, A = some ⟨g, 0, none⟩) ∧ k ≤ c ∧ ∀ q, q ≤ k → Src w 1 A q c (ints (xs.take q)) ∧ Src w 1 (if c = q then A else A.map fun a => a.add (q * 1)) (k - q) (c - q) (ints (xs.drop q)) := by
  have hx' : (ints xs).length = k := by rw [ints_len, hx]
  rcases h.2 with ⟨e, h0⟩ | ⟨g, cap, cur, e, _, _, hn, _⟩
  · injection e with e1 e2 e3
    subst e1 e2 e3
    have : xs = [] := List.eq_nil_of_length_eq_zero hx
    subst this
    refine ⟨.inl rfl, Nat.le_refl _, fun q hq => ?_⟩
    obtain rfl : q = 0 := by omega
    exact ⟨⟨rfl, fun _ => rfl, fun h => by omega⟩, ⟨rfl, fun _ => rfl, fun h => by omega⟩⟩
  · injection e with e1 e2 e3
    subst e1 e3
    rw [hx] at hn
    refine ⟨.inr ⟨g, rfl⟩, by omega, fun q hq => ⟨?_, ?_⟩⟩
    · refine src_cells 1 (by simp; omega) (fun e => by cases e) (fun h0 => ⟨g, 0, rfl, fun j hj => ?_⟩)
      have hj' : j < q := by simp at hj; omega
      have hr : Row w B (.slice (some ⟨g, 0, none⟩) xs.length c) xs := by rw [hx]; exact h
      rw [Nat.zero_add, hr.cell j (by omega)]
      congr 2
      simp [List.getD_eq_getElem?_getD, hj']
    · refine src_cells 1 (by simp; omega) (fun e => ?_) (fun h0 => ?_)
      · split at e
        · cases e
        · cases e
      · rw [if_neg (by omega)]
        refine ⟨g, q, by simp [addr_add], fun j hj => ?_⟩
        have hj' : j < k - q := by simp at hj; omega
        have hr : Row w B (.slice (some ⟨g, 0, none⟩) xs.length c) xs := by rw [hx]; exact h
        rw [hr.cell (q + j) (by omega)]
        congr 2
        simp [List.getD_eq_getElem?_getD]

set_option maxHeartbeats 4000000 in
theorem c_sbSort (n : Nat) (xs : List Int) (v : Value) (w : World) (hl : n ≤ 20) (h : SeenP w v n xs) (hp : pieAll n xs = true) :
    Calls Try.prog 23 #[v] w (GivesRow w (sortN (fun a b => decide (cfP xs a b < 0)) n)) := by
  obtain ⟨i0, hi0, hz0, hz1, hz2⟩ := info_parts int_info
  have HI := Lib.hid hi0
  obtain ⟨A, c, rfl, hm, hx, hA⟩ := h
  have E0 : Hid (∀ k : Nat, k < n → ∃ b off, A = some ⟨b, off, none⟩ ∧ b < w.heap.size ∧ ∀ j : Nat, j < n * 3 → w.cell? ⟨b, off + j, none⟩ = some (.int .i64 (xs.getD j 0))) := fun k hk => hA (by omega)
  have HX : Hid (∀ k : Nat, k < n → 0 ≤ xs.getD (k * 3) 0 ∧ xs.getD (k * 3) 0 ≤ 10000 ∧ 0 ≤ xs.getD (k * 3 + 1) 0 ∧ xs.getD (k * 3 + 1) 0 ≤ 10000000) := fun k hk => pie_box hp hk
  clear hA hi0 hm hx hp
  have HL : Hid (∀ k, (sortN (fun a b => decide (cfP xs a b < 0)) k).length = k) := sortN_len _
  have HSu : Hid (∀ k : Nat, sortN (fun a b => decide (cfP xs a b < 0)) (k + 1) = ((sortN (fun a b => decide (cfP xs a b < 0)) k).take (posR (fun a b => decide (cfP xs a b < 0)) k (sortN (fun a b => decide (cfP xs a b < 0)) k) k) ++ [(k : Int)]) ++ (sortN (fun a b => decide (cfP xs a b < 0)) k).drop (posR (fun a b => decide (cfP xs a b < 0)) k (sortN (fun a b => decide (cfP xs a b < 0)) k) k)) := sortN_succ _
  have HAt : Hid (∀ (i j : Nat), j < i → ∃ b : Nat, (sortN (fun a b => decide (cfP xs a b < 0)) i).getD j 0 = (b : Int) ∧ b < i ∧
      (richB (xs.getD (i * 3) 0) (xs.getD (i * 3 + 1) 0) (xs.getD (b * 3) 0) (xs.getD (b * 3 + 1) 0) = true → posR (fun a b => decide (cfP xs a b < 0)) i (sortN (fun a b => decide (cfP xs a b < 0)) i) (j + 1) = posR (fun a b => decide (cfP xs a b < 0)) i (sortN (fun a b => decide (cfP xs a b < 0)) i) j) ∧
      (richB (xs.getD (i * 3) 0) (xs.getD (i * 3 + 1) 0) (xs.getD (b * 3) 0) (xs.getD (b * 3 + 1) 0) = false → posR (fun a b => decide (cfP xs a b < 0)) i (sortN (fun a b => decide (cfP xs a b < 0)) i) (j + 1) = j + 1)) := fun i j hj => by
    obtain ⟨b, e, hb⟩ := sortN_at (fun a b => decide (cfP xs a b < 0)) i hj
    have ee : richB (xs.getD (i * 3) 0) (xs.getD (i * 3 + 1) 0) (xs.getD (b * 3) 0) (xs.getD (b * 3 + 1) 0) = decide (cfP xs i b < 0) := by rw [cfP_nat]; rfl
    refine ⟨b, e, hb, fun hr => ?_, fun hr => ?_⟩
    · rw [posR, e, if_pos (by rw [← ee]; exact hr)]
    · rw [posR, e, if_neg (by rw [← ee, hr]; simp)]
  have HP0 : Hid (∀ i : Nat, posR (fun a b => decide (cfP xs a b < 0)) i (sortN (fun a b => decide (cfP xs a b < 0)) i) 0 = 0) := fun i => rfl
  have HPl : Hid (∀ i k : Nat, posR (fun a b => decide (cfP xs a b < 0)) i (sortN (fun a b => decide (cfP xs a b < 0)) i) k ≤ k) := fun i k => posR_le _ _ _ k
  have HZ : Hid (sortN (fun a b => decide (cfP xs a b < 0)) 0 = []) := rfl
  obtain ⟨PR, hPR⟩ : ∃ PR : Nat → Nat → Nat, (fun (i j : Nat) => posR (fun a b => decide (cfP xs a b < 0)) i (sortN (fun a b => decide (cfP xs a b < 0)) i) j) = PR := ⟨_, rfl⟩
  have hPR' : ∀ i j : Nat, posR (fun a b => decide (cfP xs a b < 0)) i (sortN (fun a b => decide (cfP xs a b < 0)) i) j = PR i j := fun i j => by rw [← hPR]
  simp only [hPR'] at HSu HAt HP0 HPl
  clear hPR hPR'
  generalize sortN (fun a b => decide (cfP xs a b < 0)) = S at *
  go_enter Try.func23, Try.ntmps23
  go_wp2_with fail
  go_loopw [3, 9] (fun o i wr => ∃ k : Nat, k ≤ n ∧ i = .int .i64 k ∧ Row wr w.heap.size o (S k) ∧ (k = 0 → o = .slice none 0 0) ∧ Below w.heap.size w wr) (fun _ i _ => n - (intOf i).toNat)
  case atStart => exact ⟨0, Nat.zero_le _, rfl, by rw [HZ.out]; exact Row.nil _ _, fun _ => rfl, Below.refl _ _⟩
  case round =>
    obtain ⟨k, hk, rfl, hr, hn0, hbw⟩ := hrel
    have HR := Lib.hid hr
    have HB := Lib.hid hbw
    have HN0 := Lib.hid hn0
    clear hr hbw hn0
    by_cases hlt : k < n
    · obtain ⟨b, off, rfl, hb, hcc⟩ := E0.out k hlt
      have HCC : Hid (∀ (j : Nat) (u : World), Below w.heap.size w u → j < n * 3 → u.cell? ⟨b, off + j, none⟩ = some (.int .i64 (xs.getD j 0))) := fun j u hu hj => by rw [hu.cell (p := ⟨b, off + j, none⟩) hb]; exact hcc j hj
      have p0 := HCC.out (k * 3) wr HB.out (by omega)
      have p1 := HCC.out (k * 3 + 1) wr HB.out (by omega)
      have p2 := HCC.out (k * 3 + 2) wr HB.out (by omega)
      rw [← Nat.add_assoc] at p1 p2
      have HT := Lib.hid (HX.out k hlt)
      have HAk := Lib.hid (HAt.out k)
      have HSk := Lib.hid (HSu.out k)
      have HP0k := Lib.hid (HP0.out k)
      have HPlk := Lib.hid (HPl.out k k)
      have hlk := Lib.hid (HL.out k)
      clear hcc
      obtain ⟨OA, OC, hov⟩ : ∃ OA OC, u3 = .slice OA k OC := by
        obtain ⟨OA, OC, e⟩ := HR.out.shape
        rw [hlk.out] at e
        exact ⟨OA, OC, e⟩
      subst hov
      generalize xs.getD (k * 3) 0 = t at *
      generalize xs.getD (k * 3 + 1) 0 = m at *
      generalize xs.getD (k * 3 + 2) 0 = r at *
      have b1 : (0 : Int) ≤ (k : Int) := by omega
      have b2 : (k : Int) < (n : Int) := by omega
      have HBa : Hid (Below w.heap.size w (wr.alloc (.cells #[.int .i64 t, .int .i64 m, .int .i64 r] 40))) := HB.out.alloc HB.out.size _
      have HP1 : Hid (Box3 (wr.alloc (.cells #[.int .i64 t, .int .i64 m, .int .i64 r] 40)) wr.heap.size t m r) := Box3.new _ _ _ _ _
      have hba : Below wr.heap.size wr (wr.alloc (.cells #[.int .i64 t, .int .i64 m, .int .i64 r] 40)) := (Below.refl _ _).alloc (Nat.le_refl _) _
      have HR1 := Lib.hid (HR.out.below hba)
      clear hba
      go_upto_block 2 with fail
      generalize (wr.alloc (.cells #[.int .i64 t, .int .i64 m, .int .i64 r] 40)) = w1 at *
      go_cut [6] (fun j wx => ∃ q : Nat, q ≤ k ∧ j = .int .i64 q ∧ PR k k = q ∧ Below w1.heap.size w1 wx)
      case first =>
        go_wp2_with fail
        go_loopw [6] (fun j wq => ∃ q : Nat, q ≤ k ∧ j = .int .i64 q ∧ PR k k = PR k q ∧ Below w1.heap.size w1 wq) (fun j _ => (intOf j).toNat)
        case atStart => exact ⟨k, Nat.le_refl _, rfl, rfl, Below.refl _ _⟩
        case round =>
          obtain ⟨q, hq, rfl, hpr, hbq⟩ := hrel
          have HQ := Lib.hid hbq
          have HPR := Lib.hid hpr
          clear hbq hpr
          cases q with
          | zero =>
            go_wp2_with fail
            go_quiet (fail)
            go_wp2
            go_meet
            exact ⟨0, Nat.zero_le _, rfl, by rw [HPR.out, HP0k.out], below_draws HQ.out _⟩
          | succ q =>
            obtain ⟨b', eb, hb', e1, e0⟩ := HAk.out q (by omega)
            obtain ⟨g, gc, eg, gB, gw⟩ := HR1.out.form (by rw [hlk.out]; omega)
            obtain ⟨rfl, rfl⟩ : OA = some ⟨g, 0, none⟩ ∧ OC = gc := by
              rw [hlk.out] at eg
              simp at eg
              exact eg
            have HPq := Lib.hid (HP1.out.below HQ.out)
            have d0 := HPq.out.c0
            have d1 := HPq.out.c1
            have d2 := HPq.out.c2
            have HWq : Hid (Below w.heap.size w wr) := HBa.out.trans (HQ.out.mono HBa.out.size)
            have c0 := HCC.out (b' * 3) wr HWq.out (by omega)
            have c1 := HCC.out (b' * 3 + 1) wr HWq.out (by omega)
            have c2 := HCC.out (b' * 3 + 2) wr HWq.out (by omega)
            rw [← Nat.add_assoc] at c1 c2
            have o0 : wr.cell? ⟨g, q, none⟩ = some (.int .i64 b') := by
              have hr : Row wr w.heap.size (.slice (some ⟨g, 0, none⟩) (S k).length OC) (S k) := by rw [hlk.out]; exact HR1.out.below HQ.out
              rw [hr.cell q (by rw [hlk.out]; omega), eb]
            have lt0 := HPq.out.lt
            have lt1 : b < wr.heap.size := Nat.lt_of_lt_of_le hb HWq.out.size
            have lt2 : g < wr.heap.size := Nat.lt_of_lt_of_le gw HQ.out.size
            have HE1 := Lib.hid e1
            have HE0 := Lib.hid e0
            obtain ⟨u0, u1, k0, k1⟩ := HX.out b' (by omega)
            obtain ⟨t0, t1, m0, m1⟩ := HT.out
            clear e1 e0 eg eb gB
            generalize xs.getD (b' * 3) 0 = t' at *
            generalize xs.getD (b' * 3 + 1) 0 = m' at *
            generalize xs.getD (b' * 3 + 2) 0 = r' at *
            have C := Lib.hid (fun (u : World) => c_sbRicher t m r t' m' r' u t0 t1 m0 m1 u0 u1 k0 k1)
            clear t0 t1 m0 m1 u0 u1 k0 k1
            have i1 : (0 : Int) ≤ (q : Int) := by omega
            have i2 : (q : Int) < (k : Int) := by omega
            have i3 : (0 : Int) < ((q + 1 : Nat) : Int) := by omega
            have i4 : (0 : Int) ≤ (b' : Int) := by omega
            have i5 : (b' : Int) < (n : Int) := by omega
            have iw : IntKind.i64.wrap (((q : Nat) : Int) + 1 - 1) = (q : Int) := by rw [show ((q : Int) + 1 - 1) = (q : Int) by omega]; exact IntWalk.i64_in _ (by omega)
            go_wp2_with fail
            refine wp_region_grow (by kernel_rfl) (by kernel_rfl) ?_
            repeat (go_big_quiet_step ((go_at_call 39; exact grow_of (C.out _))))
            refine wpQuiet_nil ?_
            intro _ hw'
            obtain ⟨u, hw''⟩ := hw'
            subst hw''
            have hb2 := wOf_below wr u
            generalize wOf wr u = w2 at hb2 ⊢
            have HQ2 : Hid (Below w1.heap.size w1 w2) := HQ.out.trans (hb2.mono HQ.out.size)
            clear hb2 iw
            cases hri : richB t m t' m'
            · have G := Lib.hid (HE0.out hri)
              go_wp2
              go_meet
              exact ⟨q + 1, hq, rfl, by rw [HPR.out, G.out], HQ2.out⟩
            · have G := Lib.hid (HE1.out hri)
              go_wp2
              go_roundw
              case rel => exact ⟨q, by omega, by go_num, by rw [HPR.out, G.out], HQ2.out⟩
              case measure => simp [intOf]
      case rest =>
        obtain ⟨q, hq, rfl, hpr, hbq⟩ := hcut
        have HPR := Lib.hid hpr
        have HBc : Hid (Below w.heap.size w wc) := HBa.out.trans (hbq.mono HBa.out.size)
        have HRc := Lib.hid (HR1.out.below hbq)
        obtain ⟨hform, kc, hsrc⟩ := row_src (hlk.out) HRc.out
        obtain ⟨s1, s2⟩ := hsrc q hq
        have HS1 := Lib.hid s1
        have HS2 := Lib.hid s2
        clear hbq hpr hsrc s1 s2
        have q1 : (0 : Int) ≤ (q : Int) := by omega
        have q2 : (q : Int) ≤ (k : Int) := by omega
        have q3 : (q : Int) ≤ (OC : Int) := by omega
        have C1 : Hid (∀ u, Below wc.heap.size wc u → Calls Try.prog 40 #[.slice OA q OC] u (GivesRow u ((S k).take q))) := fun u hu => c_l1Own OA q OC _ u (by simp; omega) (by simp [hlk.out]; omega) (src_below HS1.out hu)
        have L1 : Hid (((S k).take q).length = q) := by show _ = _; simp [hlk.out]; omega
        have L2 : Hid (((S k).drop q).length = k - q) := by show _ = _; simp [hlk.out]
        have ES : Hid (((S k).take q ++ [(k : Int)]) ++ (S k).drop q = S (k + 1)) := by have := HSk.out; rw [HPR.out] at this; exact this.symm
        have KD : Hid (Below wc.heap.size wc wc.drew) := (Below.refl _ _).drew
        have KA : Hid (Below wc.heap.size wc (wc.alloc (.cells #[.int .i64 k] 3)).drew) := ((Below.refl _ _).alloc (Nat.le_refl _) _).drew
        generalize (S k).take q = X at *
        generalize (S k).drop q = Y at *
        have lk : k ≤ 20 := by omega
        have HQ2' : Hid (OA = none → Src wc 1 none (k - q) (OC - q) (ints Y)) := fun e => by have := HS2.out; rw [e] at this; simpa using this
        have HQ3' : Hid (∀ g, OA = some ⟨g, 0, none⟩ → OC = q → Src wc 1 (some ⟨g, 0, none⟩) 0 0 (ints Y)) := fun g e e' => by have := HS2.out; rw [e, if_pos e', e', Nat.sub_self, show k - q = 0 by omega] at this; exact this
        have HQ4' : Hid (∀ g, OA = some ⟨g, 0, none⟩ → ¬ OC = q → Src wc 1 (some ⟨g, q, none⟩) (k - q) (OC - q) (ints Y)) := fun g e e' => by have := HS2.out; rw [e, if_neg e'] at this; simpa [addr_add] using this
        clear HS2
        have HS2 : Hid ((OA = none ∧ Src wc 1 none (k - q) (OC - q) (ints Y)) ∨ (∃ g, OA = some ⟨g, 0, none⟩ ∧ k = q ∧ k = OC ∧ Src wc 1 (some ⟨g, 0, none⟩) 0 0 (ints Y)) ∨ (∃ g, OA = some ⟨g, 0, none⟩ ∧ ¬ OC = q ∧ Src wc 1 (some ⟨g, q, none⟩) (k - q) (OC - q) (ints Y))) := by
          rcases hform with e | ⟨g, e⟩
          · exact .inl ⟨e, HQ2'.out e⟩
          · by_cases e' : OC = q
            · exact .inr (.inl ⟨g, e, by omega, by omega, HQ3'.out g e e'⟩)
            · exact .inr (.inr ⟨g, e, e', HQ4'.out g e e'⟩)
        clear HQ2' HQ3' HQ4' hform HR HR1 HRc HN0
        rcases HS2.out with ⟨rfl, hs2⟩ | ⟨g, rfl, rfl, rfl, hs2⟩ | ⟨g, rfl, hcq, hs2⟩
        all_goals
          clear HS2
          have HS2 := Lib.hid hs2
          clear hs2
          go_wp2_with fail
          go_region_held3 (fun u => True) (trivial)
            (first
              | (refine step_append_src rfl _ _ 24 rfl Try.underlying24 HI.out hz0 hz1 hz2 rfl (by decide) (by rfl) R3.out (by rfl) (src_below HS2.out B3.out) ints_ones (by rw [L1.out]; unfold maxLen; omega) (by rw [L1.out]; omega) (B3.out.size) ?_; intro v4 w4 o4 g4 a4; have R4 := Lib.hid o4; have G4 := Lib.hid g4; clear o4 g4 a4)
              | (refine step_append_src rfl _ _ 24 rfl Try.underlying24 HI.out hz0 hz1 hz2 rfl (by decide) (by rfl) R2.out (by rfl) (src_one (x := k) K0.out) ints_ones (by rw [L1.out]; unfold maxLen; omega) (by rw [L1.out]; omega) (B2.out.size) ?_; intro v3 w3 o3 g3 a3; have R3 := Lib.hid (o3.mono (Nat.le_refl _)); have B3 : Hid (Below wc.heap.size wc w3) := B2.out.grown g3 B2.out.size (fun j hj => (World.ownsRow.lt R2.out j hj).1); clear o3 g3 a3)
              | (refine step_append_src rfl _ _ 24 rfl Try.underlying24 HI.out hz0 hz1 hz2 rfl (by decide) (by rfl) (World.ownsRow.alloc R2.out _) (by rfl) (src_one (x := k) (by simp)) ints_ones (by rw [L1.out]; unfold maxLen; omega) (by rw [L1.out]; omega) (by have := B2.out.size; simp; omega) ?_; intro v3 w3 o3 g3 a3; have R3 := Lib.hid (o3.mono (Nat.le_refl _)); have B3 : Hid (Below wc.heap.size wc w3) := (B2.out.alloc B2.out.size _).grown g3 (by have := B2.out.size; simp; omega) (fun j hj => (World.ownsRow.lt R2.out j hj).1); clear o3 g3 a3)
              | (go_at_call 40; (with_reducible refine (C1.out _ KD.out).mono ?_); rintro e w2 ⟨v2, rfl, hr2, hb2⟩; have R2 : Hid (Row w2 wc.heap.size v2 X) := hr2; have B2 : Hid (Below wc.heap.size wc w2) := KD.out.trans (hb2.mono KD.out.size); clear hr2 hb2)
              | (go_at_call 40; (with_reducible refine (C1.out _ KA.out).mono ?_); rintro e w2 ⟨v2, rfl, hr2, hb2⟩; have R2 : Hid (Row w2 wc.heap.size v2 X) := hr2.mono KA.out.size; have B2 : Hid (Below wc.heap.size wc w2) := KA.out.trans (hb2.mono KA.out.size); have K0 : Hid (w2.cell? ⟨wc.heap.size, 0, none⟩ = some (.int .i64 k)) := (hb2.cell (p := ⟨wc.heap.size, 0, none⟩) (by simp)).trans (by simp); clear hr2 hb2))
        all_goals
          have F := Lib.hid ((row_of3 R4.out).mono HBc.out.size)
          rw [ES.out] at F
          have B4 : Hid (Below wc.heap.size wc w4) := B3.out.grown G4.out B3.out.size (fun j hj => (World.ownsRow.lt R3.out j hj).1)
          have HB4 : Hid (Below w.heap.size w w4) := HBc.out.trans (B4.out.mono HBc.out.size)
          go_wp2
          go_roundw
          case rel => exact ⟨k + 1, by omega, by go_num, F.out, fun h => by omega, HB4.out⟩
          case measure => simp [intOf]; omega
    · obtain rfl : k = n := by omega
      go_wp2
      go_ret
      exact ⟨_, rfl, HR.out, HB.out⟩
set_option maxHeartbeats 2000000 in
theorem c_SortPiecesS (n : Nat) (xs : List Int) (v : Value) (w : World) (hl : n ≤ 1048576) (h : SeenP w v n xs) :
    Calls Try.prog 7 #[v] w (GivesRow2 w (soL n xs) (piesB n xs)) := by
  have HS := Lib.hid h
  have C1 := Lib.hid (c_sbList n xs v w hl h)
  have C2 : Hid (∀ u, Below w.heap.size w u → piesB n xs = true → Calls Try.prog 23 #[v] u (GivesRow u (sortN (fun a b => decide (cfP xs a b < 0)) n))) := fun u hu hp => by
    obtain ⟨n1, n2, ha⟩ := pies_true hp
    exact c_sbSort n xs v u n2 (HS.out.below hu) ha
  obtain ⟨A, c, rfl, _, _, _⟩ := h
  unfold soL
  cases hp : piesB n xs
  · rw [hp] at C1
    simp only [Bool.false_eq_true, if_false]
    clear C2 hp
    go_enter Try.func7, Try.ntmps7
    go_wp2_with fail
    refine C1.out.mono ?_
    rintro e w1 ⟨rfl, hb1⟩
    have HB1 := Lib.hid hb1
    clear hb1
    go_wp2
    go_ret2
    exact ⟨_, rfl, Row.nil _ _, HB1.out⟩
  · rw [hp] at C1
    have HP := Lib.hid hp
    simp only [if_true]
    clear hp
    generalize sortN (fun a b => decide (cfP xs a b < 0)) n = SN at *
    go_enter Try.func7, Try.ntmps7
    go_wp2_with fail
    refine C1.out.mono ?_
    rintro e w1 ⟨rfl, hb1⟩
    have HB1 := Lib.hid hb1
    clear hb1
    go_wp2_with fail
    refine (C2.out w1 HB1.out HP.out).mono ?_
    rintro e w2 ⟨v2, rfl, hr2, hb2⟩
    have HR2 := Lib.hid (hr2.mono HB1.out.size)
    have HB2 : Hid (Below w.heap.size w w2) := HB1.out.trans (hb2.mono HB1.out.size)
    clear hr2 hb2
    go_wp2
    go_ret2
    exact ⟨_, rfl, HR2.out, HB2.out⟩
end Go.Proofs.Ythlclieifcbkjab
