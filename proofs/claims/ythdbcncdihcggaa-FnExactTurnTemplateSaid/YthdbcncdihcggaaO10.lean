/-
  Contracts: TurnTemplate of the model.
-/
import Derived.Test.YthdbcncdihcggaaO9
import Derived.Test.YthdbcncdihcggaaAQ
namespace Go.Proofs.Ythdbcncdihcggaa
open Go.RowKit
set_option linter.unusedVariables false

theorem rowP_none (w : World) : (w.alloc (.cells #[] 64)).ownsRow w.heap.size 64 3 (.slice (some ⟨w.heap.size, 0, none⟩) 0 0) 0 (ints []) := by
  have := World.ownsRow_lit (base := w.heap.size) (e := 64) (size := 3) w #[] 0 (Nat.le_refl _) (by unfold maxLen; omega) (by simp)
  simpa [ints] using this
theorem rowP_of {w : World} {B n : Nat} {v : Value} {X Y : List Int} (h : w.ownsRow B 64 3 v n (ints X ++ ints Y)) : RowP w B v n (X ++ Y) := by
  unfold RowP
  rw [show ints (X ++ Y) = ints X ++ ints Y by simp [ints]]
  exact h
theorem src_three {w : World} {b : Nat} {x y z : Int} (h : Box3 w b x y z) : Src w 3 (some ⟨b, 0, none⟩) 1 1 (ints [x, y, z]) :=
  src_cells 3 rfl (fun e => by cases e) (fun _ => ⟨b, 0, rfl, fun k hk => by
    match k, hk with
    | 0, _ => simpa using h.c0
    | 1, _ => simpa using h.c1
    | 2, _ => simpa using h.c2⟩)
theorem Box3.grown {w w' : World} {b : Nat} {x y z : Int} {o : Option Nat} (h : Box3 w b x y z) (hg : w.grownBy w' o) (hne : o ≠ some b) : Box3 w' b x y z := by
  have e := hg.block b h.lt (fun e => hne (by first | exact e | exact e.symm))
  have k : ∀ j, w'.cell? ⟨b, j, none⟩ = w.cell? ⟨b, j, none⟩ := fun j => by simp only [World.cell?, e]
  exact ⟨Nat.lt_of_lt_of_le h.lt hg.size, by rw [k]; exact h.c0, by rw [k]; exact h.c1, by rw [k]; exact h.c2⟩
/-- A list of offsets cut at a place. -/
theorem rowP_src {w : World} {B : Nat} {A : Option Addr} {k c : Nat} {xs : List Int} (h : RowP w B (.slice A k c) k xs) :
    (A = none ∨ ∃ g, A = some ⟨g, 0, none⟩) ∧ k ≤ c ∧ ∀ q, q ≤ k → Src w 3 A q c (ints (xs.take (q * 3))) ∧ Src w 3 (if c = q then A else A.map fun a => a.add (q * 3)) (k - q) (c - q) (ints (xs.drop (q * 3))) := by
  have hl := h.len
  rcases h.2 with ⟨e, h0⟩ | ⟨g, cap, cur, e, _, _, hn, _⟩
  · injection e with e1 e2 e3
    subst e1 e2 e3
    have : xs = [] := List.eq_nil_of_length_eq_zero (by omega)
    subst this
    refine ⟨.inl rfl, Nat.le_refl _, fun q hq => ?_⟩
    obtain rfl : q = 0 := by omega
    exact ⟨⟨rfl, fun _ => rfl, fun h => by omega⟩, ⟨rfl, fun _ => rfl, fun h => by omega⟩⟩
  · injection e with e1 e2 e3
    subst e1 e3
    refine ⟨.inr ⟨g, rfl⟩, by omega, fun q hq => ⟨?_, ?_⟩⟩
    · refine src_cells 3 (by simp; omega) (fun e => by cases e) (fun h0 => ⟨g, 0, rfl, fun j hj => ?_⟩)
      have hj' : j < q * 3 := by simp at hj; omega
      rw [Nat.zero_add, h.cell j (by omega)]
      congr 2
      simp [List.getD_eq_getElem?_getD, hj']
    · refine src_cells 3 (by simp; omega) (fun e => ?_) (fun h0 => ?_)
      · split at e
        · cases e
        · cases e
      · rw [if_neg (by omega)]
        refine ⟨g, q * 3, by simp [addr_add], fun j hj => ?_⟩
        have hj' : j < k * 3 - q * 3 := by simp at hj; omega
        rw [h.cell (q * 3 + j) (by omega)]
        congr 2
        simp [List.getD_eq_getElem?_getD]
theorem sortN_succ (lt : Int → Int → Bool) (k : Nat) : sortN lt (k + 1) = ((sortN lt k).take (posR lt k (sortN lt k) k) ++ [(k : Int)]) ++ (sortN lt k).drop (posR lt k (sortN lt k) k) := by
  rw [sortN, insAt]
  simp

set_option maxHeartbeats 4000000 in
set_option maxRecDepth 100000 in
theorem c_TurnTemplateS (n : Nat) (xs : List Int) (v : Value) (w : World) (hl : n ≤ 1048576) (h : SeenP w v n xs) :
    Calls Try.prog 23 #[v] w (GivesP2 w (tuN n xs) (tuL n xs) (temB n xs)) := by
  have C1 := Lib.hid (c_slTemplate n xs v w hl h)
  obtain ⟨A, c, rfl, hm, hx, hA⟩ := h
  cases hp : temB n xs
  · rw [hp] at C1
    obtain ⟨e1, e2⟩ := tu_no hp
    rw [e1, e2]
    clear e1 e2 hp hA hm
    go_enter Try.func23, Try.ntmps23
    go_wp2_with fail
    refine C1.out.mono ?_
    rintro e w1 ⟨rfl, hb⟩
    have HB := Lib.hid hb
    clear hb
    go_wp2
    go_ret2
    exact ⟨_, rfl, RowP.nil _ _, HB.out⟩
  · rw [hp] at C1
    obtain ⟨e1, e2⟩ := tu_yes hp
    rw [e1, e2]
    obtain ⟨n1, n2, _⟩ := tem_true hp
    obtain ⟨b, off, rfl, hb, hc⟩ := hA (by omega)
    have E1 : Hid (∀ (u : World), Below w.heap.size w u → ∀ j : Nat, j < n * 3 → u.cell? ⟨b, off + j, none⟩ = some (.int .i64 (xs.getD j 0))) := fun u hu j hj => by rw [hu.cell (p := ⟨b, off + j, none⟩) hb]; exact hc j hj
    have HO : Hid (∀ k : Nat, k < n → -2 ≤ xs.getD (k * 3) 0 ∧ xs.getD (k * 3) 0 ≤ 2 ∧ -2 ≤ xs.getD (k * 3 + 1) 0 ∧ xs.getD (k * 3 + 1) 0 ≤ 2 ∧ 1 ≤ xs.getD (k * 3 + 2) 0 ∧ xs.getD (k * 3 + 2) 0 ≤ 2) := fun k hk => tem_off hp hk
    have HF : Hid (∀ k : Nat, tuF xs k = (- xs.getD (k * 3 + 1) 0, xs.getD (k * 3) 0, xs.getD (k * 3 + 2) 0)) := fun k => rfl
    have HL : Hid (∀ k, (sortN (fun a b => decide (tuC xs a b < 0)) k).length = k) := sortN_len _
    have HSu : Hid (∀ k : Nat, sortN (fun a b => decide (tuC xs a b < 0)) (k + 1) = ((sortN (fun a b => decide (tuC xs a b < 0)) k).take (posR (fun a b => decide (tuC xs a b < 0)) k (sortN (fun a b => decide (tuC xs a b < 0)) k) k) ++ [(k : Int)]) ++ (sortN (fun a b => decide (tuC xs a b < 0)) k).drop (posR (fun a b => decide (tuC xs a b < 0)) k (sortN (fun a b => decide (tuC xs a b < 0)) k) k)) := sortN_succ _
    have HAt : Hid (∀ (i j : Nat), j < i → ∃ b : Nat, (sortN (fun a b => decide (tuC xs a b < 0)) i).getD j 0 = (b : Int) ∧ b < i ∧
        (befB (tuF xs i).1 (tuF xs i).2.1 (tuF xs i).2.2 (tuF xs b).1 (tuF xs b).2.1 (tuF xs b).2.2 = true → posR (fun a b => decide (tuC xs a b < 0)) i (sortN (fun a b => decide (tuC xs a b < 0)) i) (j + 1) = posR (fun a b => decide (tuC xs a b < 0)) i (sortN (fun a b => decide (tuC xs a b < 0)) i) j) ∧
        (befB (tuF xs i).1 (tuF xs i).2.1 (tuF xs i).2.2 (tuF xs b).1 (tuF xs b).2.1 (tuF xs b).2.2 = false → posR (fun a b => decide (tuC xs a b < 0)) i (sortN (fun a b => decide (tuC xs a b < 0)) i) (j + 1) = j + 1)) := fun i j hj => by
      obtain ⟨b, e, hb⟩ := sortN_at (fun a b => decide (tuC xs a b < 0)) i hj
      have ee : befB (tuF xs i).1 (tuF xs i).2.1 (tuF xs i).2.2 (tuF xs b).1 (tuF xs b).2.1 (tuF xs b).2.2 = decide (tuC xs i b < 0) := by
        rw [Bool.eq_iff_iff, decide_eq_true_iff]
        exact (cmpO_neg _ _ _ _ _ _).symm
      refine ⟨b, e, hb, fun hr => ?_, fun hr => ?_⟩
      · rw [posR, e, if_pos (by rw [← ee]; exact hr)]
      · rw [posR, e, if_neg (by rw [← ee, hr]; simp)]
    have HP0 : Hid (∀ i : Nat, posR (fun a b => decide (tuC xs a b < 0)) i (sortN (fun a b => decide (tuC xs a b < 0)) i) 0 = 0) := fun i => rfl
    have HPl : Hid (∀ i k : Nat, posR (fun a b => decide (tuC xs a b < 0)) i (sortN (fun a b => decide (tuC xs a b < 0)) i) k ≤ k) := fun i k => posR_le _ _ _ k
    have HZ : Hid (sortN (fun a b => decide (tuC xs a b < 0)) 0 = []) := rfl
    obtain ⟨PR, hPR⟩ : ∃ PR : Nat → Nat → Nat, (fun (i j : Nat) => posR (fun a b => decide (tuC xs a b < 0)) i (sortN (fun a b => decide (tuC xs a b < 0)) i) j) = PR := ⟨_, rfl⟩
    have hPR' : ∀ i j : Nat, posR (fun a b => decide (tuC xs a b < 0)) i (sortN (fun a b => decide (tuC xs a b < 0)) i) j = PR i j := fun i j => by rw [← hPR]
    simp only [hPR'] at HSu HAt HP0 HPl
    clear hPR hPR' hA hc hp e1 e2 hm
    generalize sortN (fun a b => decide (tuC xs a b < 0)) = S at *
    obtain ⟨f, hf⟩ : ∃ f, tuF xs = f := ⟨_, rfl⟩
    rw [hf] at HF HAt ⊢
    clear hf
    obtain ⟨i0, hi0, hz0, hz1, hz2⟩ := info_parts offset_info
    have HI := Lib.hid hi0
    clear hi0
    go_enter Try.func23, Try.ntmps23
    go_wp2_with fail
    refine C1.out.mono ?_
    rintro e w1 ⟨rfl, hb1⟩
    have HB1 := Lib.hid hb1
    clear hb1
    go_wp2_with fail
    go_loopw [4, 13] (fun o i wr => ∃ k : Nat, k ≤ n ∧ i = .int .i64 k ∧ RowP wr w1.heap.size o k (triL f (S k)) ∧ (k = 0 → o = .slice none 0 0) ∧ Below w1.heap.size w1 wr) (fun _ i _ => n - (intOf i).toNat)
    case atStart => exact ⟨0, Nat.zero_le _, rfl, by rw [HZ.out]; exact RowP.nil _ _, fun _ => rfl, Below.refl _ _⟩
    case round =>
      obtain ⟨k, hk, rfl, hr, hn0, hbw⟩ := hrel
      have HR := Lib.hid hr
      have HB := Lib.hid hbw
      have HN0 := Lib.hid hn0
      clear hr hbw hn0
      have HW : Hid (Below w.heap.size w wr) := HB1.out.trans (HB.out.mono HB1.out.size)
      by_cases hlt : k < n
      · have q0 := E1.out wr HW.out (k * 3) (by omega)
        have q1 := E1.out wr HW.out (k * 3 + 1) (by omega)
        have q2 := E1.out wr HW.out (k * 3 + 2) (by omega)
        rw [← Nat.add_assoc] at q1 q2
        obtain ⟨l0, l1, l2, l3, l4, l5⟩ := HO.out k hlt
        have HFk := HF.out k
        have HAk := Lib.hid (HAt.out k)
        have HSk := Lib.hid (HSu.out k)
        have HP0k := Lib.hid (HP0.out k)
        have HPlk := Lib.hid (HPl.out k k)
        have hlk := Lib.hid (HL.out k)
        obtain ⟨OA, OC, hov⟩ : ∃ OA OC, u4 = .slice OA k OC := HR.out.shape
        subst hov
        have b1 : (0 : Int) ≤ (k : Int) := by omega
        have b2 : (k : Int) < (n : Int) := by omega
        generalize xs.getD (k * 3) 0 = t at *
        generalize xs.getD (k * 3 + 1) 0 = m at *
        generalize xs.getD (k * 3 + 2) 0 = r at *
        have iw : IntKind.i64.wrap (-m) = -m := IntWalk.i64_in _ (by omega)
        have HFK := Lib.hid HFk
        clear HFk
        have HBa : Hid (Below w1.heap.size w1 (wr.alloc (.cells #[.int .i64 (-m), .int .i64 t, .int .i64 r] 64))) := HB.out.alloc HB.out.size _
        have HP1 : Hid (Box3 (wr.alloc (.cells #[.int .i64 (-m), .int .i64 t, .int .i64 r] 64)) wr.heap.size (-m) t r) := Box3.new _ _ _ _ _
        have hba : Below wr.heap.size wr (wr.alloc (.cells #[.int .i64 (-m), .int .i64 t, .int .i64 r] 64)) := (Below.refl _ _).alloc (Nat.le_refl _) _
        have HR1 := Lib.hid (HR.out.below hba)
        clear hba
        go_upto_block 2 with fail
        generalize (wr.alloc (.cells #[.int .i64 (-m), .int .i64 t, .int .i64 r] 64)) = w2 at *
        go_cut [7] (fun j wx => ∃ q : Nat, q ≤ k ∧ j = .int .i64 q ∧ PR k k = q ∧ Below w2.heap.size w2 wx)
        case first =>
          go_wp2_with fail
          go_loopw [7] (fun j wq => ∃ q : Nat, q ≤ k ∧ j = .int .i64 q ∧ PR k k = PR k q ∧ Below w2.heap.size w2 wq) (fun j _ => (intOf j).toNat)
          case atStart => exact ⟨k, Nat.le_refl _, rfl, rfl, Below.refl _ _⟩
          case round =>
            obtain ⟨q, hq, rfl, hpr, hbq⟩ := hrel
            have HQ := Lib.hid hbq
            have HPR := Lib.hid hpr
            clear hbq hpr
            have HPq := Lib.hid (HP1.out.below HQ.out)
            have d0 := HPq.out.c0
            have d1 := HPq.out.c1
            have d2 := HPq.out.c2
            have d3 := HPq.out.lt
            cases q with
            | zero =>
              go_wp2_with fail
              go_quiet (fail)
              go_wp2
              go_meet
              exact ⟨0, Nat.zero_le _, rfl, by rw [HPR.out, HP0k.out], below_draws HQ.out _⟩
            | succ q =>
              obtain ⟨b', eb, hb', e1, e0⟩ := HAk.out q (by omega)
              obtain ⟨g, gc, eg, gB, gw⟩ := HR1.out.form (by omega)
              obtain ⟨rfl, rfl⟩ : OA = some ⟨g, 0, none⟩ ∧ OC = gc := by
                simp at eg
                exact eg
              have T0 := triL_at f (S k) (k := q) (by rw [hlk.out]; omega)
              rw [eb] at T0
              obtain ⟨z0, z1, z2⟩ := T0
              have HRq := Lib.hid (HR1.out.below HQ.out)
              have o0 := HRq.out.cell (q * 3) (by omega)
              have o1 := HRq.out.cell (q * 3 + 1) (by omega)
              have o2 := HRq.out.cell (q * 3 + 2) (by omega)
              rw [z0] at o0
              rw [z1] at o1
              rw [z2] at o2
              have lt2 : g < wr.heap.size := Nat.lt_of_lt_of_le gw HQ.out.size
              rw [HFK.out] at e1 e0
              have HE1 := Lib.hid e1
              have HE0 := Lib.hid e0
              clear e1 e0 eg eb gB z0 z1 z2
              generalize f b' = fb at *
              obtain ⟨t', m', r'⟩ := fb
              simp only at o0 o1 o2
              have C : Hid (∀ u, Calls Try.prog 57 #[.agg #[.int .i64 (-m), .int .i64 t, .int .i64 r], .agg #[.int .i64 t', .int .i64 m', .int .i64 r']] u fun e w' => e = .returned (.bool (befB (-m) t r t' m' r')) ∧ Below u.heap.size u w') := fun u => c_slBefore _ _ _ _ _ _ u
              have i1 : (0 : Int) ≤ (q : Int) := by omega
              have i2 : (q : Int) < (k : Int) := by omega
              have i3 : (0 : Int) < ((q + 1 : Nat) : Int) := by omega
              have iw2 : IntKind.i64.wrap (((q : Nat) : Int) + 1 - 1) = (q : Int) := by rw [show ((q : Int) + 1 - 1) = (q : Int) by omega]; exact IntWalk.i64_in _ (by omega)
              have HE1' : Hid (befB (-m) t r t' m' r' = true → PR k (q + 1) = PR k q) := HE1.out
              have HE0' : Hid (befB (-m) t r t' m' r' = false → PR k (q + 1) = q + 1) := HE0.out
              clear HE1 HE0
              generalize befB (-m) t r t' m' r' = bv at *
              go_wp2_with fail
              refine wp_region_grow (by kernel_rfl) (by kernel_rfl) ?_
              repeat (go_big_quiet_step ((go_at_call 57; exact grow_of (C.out _))))
              refine wpQuiet_nil ?_
              intro _ hw'
              obtain ⟨u, hw''⟩ := hw'
              subst hw''
              have hb2 := wOf_below wr u
              generalize wOf wr u = w5 at hb2 ⊢
              have HQ2 : Hid (Below w2.heap.size w2 w5) := HQ.out.trans (hb2.mono HQ.out.size)
              clear hb2 iw2
              cases bv
              · have G := Lib.hid (HE0'.out rfl)
                go_wp2
                go_meet
                exact ⟨q + 1, hq, rfl, by rw [HPR.out, G.out], HQ2.out⟩
              · have G := Lib.hid (HE1'.out rfl)
                go_wp2
                go_roundw
                case rel => exact ⟨q, by omega, by go_num, by rw [HPR.out, G.out], HQ2.out⟩
                case measure => simp [intOf]
        case rest =>
          obtain ⟨q, hq, rfl, hpr, hbq⟩ := hcut
          have HPR := Lib.hid hpr
          have HBc : Hid (Below w1.heap.size w1 wc) := HBa.out.trans (hbq.mono HBa.out.size)
          have HRc := Lib.hid (HR1.out.below hbq)
          have HPc := Lib.hid (HP1.out.below hbq)
          obtain ⟨hform, kc, hsrc⟩ := rowP_src HRc.out
          obtain ⟨s1, s2⟩ := hsrc q hq
          rw [triL_take] at s1
          rw [triL_drop] at s2
          have HS1 := Lib.hid s1
          have hs2' : OA = none ∨ ∃ g, OA = some ⟨g, 0, none⟩ := hform
          have q1 : (0 : Int) ≤ (q : Int) := by omega
          have q2 : (q : Int) ≤ (k : Int) := by omega
          have q3 : (q : Int) ≤ (OC : Int) := by omega
          have L1 : Hid ((triL f ((S k).take q)).length = q * 3) := by show _ = _; rw [triL_len, List.length_take, hlk.out, Nat.min_eq_left hq]
          have L2 : Hid ((triL f ((S k).drop q)).length = (k - q) * 3) := by show _ = _; rw [triL_len, List.length_drop, hlk.out]
          have ES : Hid ((triL f ((S k).take q) ++ [-m, t, r]) ++ triL f ((S k).drop q) = triL f (S (k + 1))) := by
            have := HSk.out
            rw [HPR.out] at this
            rw [this, triL_app, triL_app]
            congr 2
            unfold triL
            simp [HFK.out]
          have KE : Hid (∀ u, Below wc.heap.size wc u → u.cell? ⟨wr.heap.size, 0, none⟩ = some (.int .i64 (-m)) ∧ u.cell? ⟨wr.heap.size, 1, none⟩ = some (.int .i64 t) ∧ u.cell? ⟨wr.heap.size, 2, none⟩ = some (.int .i64 r)) := fun u hu => by
            have h1 := HPc.out.below hu
            exact ⟨h1.c0, h1.c1, h1.c2⟩
          generalize triL f ((S k).take q) = X at *
          generalize triL f ((S k).drop q) = Y at *
          have lk : k ≤ 12 := by omega
          have HS2 : Hid ((OA = none ∧ Src wc 3 none (k - q) (OC - q) (ints Y)) ∨ (∃ g, OA = some ⟨g, 0, none⟩ ∧ k = q ∧ k = OC ∧ Src wc 3 (some ⟨g, 0, none⟩) 0 0 (ints Y)) ∨ (∃ g, OA = some ⟨g, 0, none⟩ ∧ ¬ OC = q ∧ Src wc 3 (some ⟨g, q * 3, none⟩) (k - q) (OC - q) (ints Y))) := by
            rcases hform with e | ⟨g, e⟩
            · exact .inl ⟨e, by rw [e] at s2; simpa using s2⟩
            · by_cases e' : OC = q
              · exact .inr (.inl ⟨g, e, by omega, by omega, by rw [e, if_pos e', e', Nat.sub_self, show k - q = 0 by omega] at s2; exact s2⟩)
              · exact .inr (.inr ⟨g, e, e', by rw [e, if_neg e'] at s2; simpa [addr_add] using s2⟩)
          clear hform HR HR1 HRc HN0 s1 s2 hsrc hs2' hpr
          have HBq := Lib.hid hbq
          clear hbq
          have KD : Hid (Below wc.heap.size wc wc.drew) := (Below.refl _ _).drew
          have KA : Hid (∀ o, Below wc.heap.size wc (wc.alloc o).drew) := fun o => ((Below.refl _ _).alloc (Nat.le_refl _) _).drew
          have KAA : Hid (∀ o o', Below wc.heap.size wc ((wc.alloc o).alloc o').drew) := fun o o' => (((Below.refl _ _).alloc (Nat.le_refl _) _).alloc (by simp) _).drew
          have HN := Lib.hid (rowP_none wc)
          have HNB : Hid (((wc.alloc (.cells #[.int .i64 (-m), .int .i64 t, .int .i64 r] 64)).alloc (.cells #[] 64)).ownsRow wc.heap.size 64 3 (.slice (some ⟨wc.heap.size + 1, 0, none⟩) 0 0) 0 (ints [])) := by
            have := rowP_none (wc.alloc (.cells #[.int .i64 (-m), .int .i64 t, .int .i64 r] 64))
            simp at this
            exact World.ownsRow.mono this (by omega)
          have KX : Hid (∀ (u : World) T, Box3 (u.alloc (.cells #[.int .i64 (-m), .int .i64 t, .int .i64 r] T)) u.heap.size (-m) t r) := fun u T => Box3.new _ _ _ _ _
          rcases HS2.out with ⟨rfl, hs2⟩ | ⟨g, rfl, rfl, rfl, hs2⟩ | ⟨g, rfl, hcq, hs2⟩
          all_goals
            clear HS2
            have HS2 := Lib.hid hs2
            clear hs2
            go_wp2_with fail
            go_region_held3 (fun u => u.cell? ⟨wr.heap.size, 0, none⟩ = some (.int .i64 (-m)) ∧ u.cell? ⟨wr.heap.size, 1, none⟩ = some (.int .i64 t) ∧ u.cell? ⟨wr.heap.size, 2, none⟩ = some (.int .i64 r)) (first | with_reducible exact KE.out _ KD.out | with_reducible exact KE.out _ B5.out | with_reducible exact KE.out _ B4.out | with_reducible exact KE.out _ (B3.out.alloc B3.out.size _) | with_reducible exact KE.out _ B3.out | with_reducible exact KE.out _ (KA.out _) | with_reducible exact KE.out _ (KAA.out _ _))
              (first
                | (refine step_append_src rfl _ _ 25 rfl Try.underlying25 HI.out hz0 hz1 hz2 rfl (by decide) (by rfl) R4.out (by rfl) (src_below HS2.out B4.out) ints_ones (by unfold maxLen; omega) (by omega) B4.out.size ?_; intro v5 w5 o5 g5 a5; have R5 := Lib.hid (rowP_of o5); have B5 : Hid (Below wc.heap.size wc w5) := B4.out.grown g5 B4.out.size (fun j hj => (World.ownsRow.lt R4.out j hj).1); clear o5 g5 a5)
                | (refine step_append_src rfl _ _ 25 rfl Try.underlying25 HI.out hz0 hz1 hz2 rfl (by decide) (by rfl) (World.ownsRow.alloc R3.out _) (by rfl) (src_three (KX.out _ _)) ints_ones (by unfold maxLen; omega) (by omega) (by have := B3.out.size; simp; omega) ?_; intro v4 w4 o4 g4 a4; have R4 := Lib.hid (rowP_of o4); have B4 : Hid (Below wc.heap.size wc w4) := (B3.out.alloc B3.out.size _).grown g4 (by have := B3.out.size; simp; omega) (fun j hj => (World.ownsRow.lt R3.out j hj).1); clear o4 g4 a4)
                | (refine step_append_src rfl _ _ 25 rfl Try.underlying25 HI.out hz0 hz1 hz2 rfl (by decide) (by rfl) R3.out (by rfl) (src_three KX3.out) ints_ones (by unfold maxLen; omega) (by omega) B3.out.size ?_; intro v4 w4 o4 g4 a4; have R4 := Lib.hid (rowP_of o4); have B4 : Hid (Below wc.heap.size wc w4) := B3.out.grown g4 B3.out.size (fun j hj => (World.ownsRow.lt R3.out j hj).1); clear o4 g4 a4)
                | (refine step_append_src rfl _ _ 25 rfl Try.underlying25 HI.out hz0 hz1 hz2 rfl (by decide) (by rfl) HN.out (by rfl) (src_below HS1.out (KA.out _)) ints_ones (by unfold maxLen; omega) (by omega) (KA.out _).size ?_; intro v3 w3 o3 g3 a3; have R3 := Lib.hid (rowP_of (X := []) o3); have B3 : Hid (Below wc.heap.size wc w3) := (KA.out _).grown g3 (KA.out (.cells #[] 64)).size (fun j hj => by simp [Value.ownBlock] at hj; omega); clear o3 g3 a3)
                | (refine step_append_src rfl _ _ 25 rfl Try.underlying25 HI.out hz0 hz1 hz2 rfl (by decide) (by rfl) (World.ownsRow.alloc HN.out _) (by rfl) (src_below HS1.out (KAA.out _ _)) ints_ones (by unfold maxLen; omega) (by omega) (KAA.out _ _).size ?_; intro v3 w3 o3 g3 a3; have R3 := Lib.hid (rowP_of (X := []) o3); have B3 : Hid (Below wc.heap.size wc w3) := (KAA.out _ _).grown g3 (by first | (simp; omega) | simp) (fun j hj => by simp [Value.ownBlock] at hj; omega); have KX3 : Hid (Box3 w3 (wc.heap.size + 1) (-m) t r) := (by have := KX.out (wc.alloc (.cells #[] 64)) 64; simp at this; exact this.drew.grown g3 (by simp [Value.ownBlock])); clear o3 g3 a3)
                | (refine step_append_src rfl _ _ 25 rfl Try.underlying25 HI.out hz0 hz1 hz2 rfl (by decide) (by rfl) HNB.out (by rfl) (src_below HS1.out (KAA.out _ _)) ints_ones (by unfold maxLen; omega) (by omega) (KAA.out _ _).size ?_; intro v3 w3 o3 g3 a3; have R3 := Lib.hid (rowP_of (X := []) o3); have B3 : Hid (Below wc.heap.size wc w3) := (KAA.out _ _).grown g3 (by first | (simp; omega) | simp) (fun j hj => by simp [Value.ownBlock] at hj; omega); have KX3 : Hid (Box3 w3 wc.heap.size (-m) t r) := (by have := (KX.out wc 64).below ((Below.refl _ _).alloc (Nat.le_refl _) (.cells #[] 64)); exact this.drew.grown g3 (by simp [Value.ownBlock])); clear o3 g3 a3))
          all_goals
            obtain ⟨N5, hN5, hR5⟩ : ∃ N5, N5 = k + 1 ∧ RowP w5 wc.heap.size v5 N5 ((X ++ [-m, t, r]) ++ Y) := ⟨_, by omega, R5.out⟩
            subst hN5
            rw [ES.out] at hR5
            have F := Lib.hid (hR5.mono HBc.out.size)
            have HB5 : Hid (Below w1.heap.size w1 w5) := HBc.out.trans (B5.out.mono HBc.out.size)
            clear hR5 R5
            go_wp2
            go_roundw
            case rel => exact ⟨k + 1, by omega, by go_num, F.out, fun h => by omega, HB5.out⟩
            case measure => simp [intOf]; omega
      · obtain rfl : k = n := by omega
        have HR2 := Lib.hid (HR.out.mono HB1.out.size)
        go_wp2
        go_ret2
        exact ⟨_, rfl, HR2.out, HW.out⟩
end Go.Proofs.Ythdbcncdihcggaa
