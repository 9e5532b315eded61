/-
  Contracts: FieldsOfRule, in the program and in the model: the lists of fields.
-/
import Derived.Test.YthlclieifcbkjaaE13
import Derived.Test.YthlclieifcbkjaaE11
namespace Go.Proofs.Ythlclieifcbkjaa
open Go.RowKit
set_option linter.unusedVariables false

set_option maxHeartbeats 2000000 in
theorem c_Contains (n f : Nat) (xs : List Int) (v : Value) (w : World) (hl : n ≤ 39) (h0 : 0 < n) (h : SeenP w v n xs) :
    Calls Try.prog 48 #[v, .agg #[.int .i64 1, .int .i64 (f : Int)]] w fun e w' => e = .returned (.bool (hasF xs n f)) ∧ Below w.heap.size w w' := by
  have HB0 : Hid (Below w.heap.size w (w.alloc (.cells #[.int .i64 1, .int .i64 (f : Int)] 53))) := (Below.refl _ _).alloc (Nat.le_refl _) _
  have C := Lib.hid (c_Index n f xs v _ hl h0 (h.below HB0.out))
  obtain ⟨A, c, rfl, _, _, _⟩ := h
  generalize hasF xs n f = R at *
  go_enter Try.func48, Try.ntmps48
  go_wp2_with fail
  refine C.out.mono ?_
  rintro e w1 ⟨r, rfl, hr, hb1⟩
  have HB1 : Hid (Below w.heap.size w w1) := HB0.out.trans (hb1.mono HB0.out.size)
  have HR := Lib.hid hr
  clear hb1 hr
  go_wp2
  go_ret
  exact ⟨ret_bool HR.out, HB1.out⟩

set_option maxHeartbeats 4000000 in
set_option maxRecDepth 100000 in
theorem c_FieldsOfRule (n : Nat) (xs : List Int) (v : Value) (w : World) (hl : n ≤ 1048576) (h : SeenC w v n xs) :
    Calls Try.prog 21 #[v] w (GivesRow2 w (fieL n xs) (ruleB n xs)) := by
  obtain ⟨i0, hi0, hz0, hz1, hz2⟩ := info_parts int_info
  have HI := Lib.hid hi0
  have C1 := Lib.hid (c_IsRule n xs v w hl h.1 h.2)
  unfold fieL
  cases hr : ruleB n xs
  · rw [hr] at C1
    simp only [Bool.false_eq_true, if_false]
    obtain ⟨A, c, rfl, _, _, _⟩ := h.1
    clear hr h hi0
    go_enter Try.func21, Try.ntmps21
    go_wp2_with fail
    refine C1.out.mono ?_
    rintro e w1 ⟨rfl, hb1⟩
    have HB1 := Lib.hid hb1
    clear hb1
    go_wp2
    go_ret2
    exact ⟨_, rfl, Row.nil _ _, HB1.out⟩
  · rw [hr] at C1
    obtain ⟨n1, n2, _, _⟩ := rule_size hr
    have CC : Hid (∀ (f : Nat) (u : World), Below w.heap.size w u → Calls Try.prog 48 #[v, .agg #[.int .i64 1, .int .i64 (f : Int)]] u fun e w' => e = .returned (.bool (hasF xs n f)) ∧ Below u.heap.size u w') := fun f u hu => c_Contains n f xs v u n2 (by omega) (h.1.below hu)
    have EU : Hid (∀ f, fieU (hasF xs n) (f + 1) = fieU (hasF xs n) f ++ (if hasF xs n f then [(f : Int)] else [])) := fun f => rfl
    have EL : Hid (∀ f, (fieU (hasF xs n) f).length ≤ f) := fieU_len _
    have EZ : Hid (fieU (hasF xs n) 0 = []) := rfl
    obtain ⟨A, c, rfl, _, _, _⟩ := h.1
    simp only [if_true]
    clear hr h hi0
    generalize fieU (hasF xs n) = U at *
    generalize hasF xs n = H at *
    go_enter Try.func21, Try.ntmps21
    go_wp2_with fail
    refine C1.out.mono ?_
    rintro e w1 ⟨rfl, hb1⟩
    have HB1 : Hid (Below w.heap.size w w1) := hb1
    clear hb1
    go_wp2_with fail
    go_loopw [4, 9] (fun o i wr => ∃ f : Nat, f ≤ 5 ∧ i = .int .i64 f ∧ Row wr w.heap.size o (U f) ∧ Below w.heap.size w wr) (fun _ i _ => 5 - (intOf i).toNat)
    case atStart => exact ⟨0, by omega, rfl, by rw [EZ.out]; exact Row.nil _ _, HB1.out⟩
    case round =>
      obtain ⟨f, hf, rfl, hr, hbw⟩ := hrel
      have HR := Lib.hid hr
      have HB := Lib.hid hbw
      clear hr hbw
      by_cases hlt : f < 5
      · have C := Lib.hid (CC.out f wr HB.out)
        have EUf := Lib.hid (EU.out f)
        have ELf := EL.out f
        have b2 : (f : Int) < 5 := by omega
        go_wp2_with fail
        refine C.out.mono ?_
        rintro e w2 ⟨rfl, hb2⟩
        have HB2 : Hid (Below w.heap.size w w2) := HB.out.trans (hb2.mono HB.out.size)
        have HR2 := Lib.hid (HR.out.below hb2)
        clear hb2
        cases hh : H f
        · rw [hh] at EUf
          have G : Hid (U (f + 1) = U f) := by have := EUf.out; simpa [Hid] using this
          clear hh
          go_wp2
          go_roundw
          case rel => exact ⟨f + 1, by omega, by go_num, by rw [G.out]; exact HR2.out, HB2.out⟩
          case measure => simp [intOf]; omega
        · rw [hh] at EUf
          have G : Hid (U (f + 1) = U f ++ [(f : Int)]) := by have := EUf.out; simpa [Hid] using this
          have sw2 := HB2.out.size
          clear hh
          go_wp2_with (at_builtin; refine wpList_append_src rfl _ _ 33 rfl (base := w.heap.size) Try.underlying33 HI.out hz0 hz1 hz2 rfl (by decide) rfl (World.ownsRow.alloc HR2.out _) rfl (src_one (x := f) (by simp)) ints_ones (by unfold maxLen; omega) (by omega) (by first | omega | (simp; omega)) ?_)
          intro v3 w3 hown3 hgrow3 _
          have R3 := Lib.hid (row_of2 (X := U f) (Y := [(f : Int)]) hown3)
          have B3 : Hid (Below w.heap.size w w3) := (HB2.out.alloc sw2 _).grown hgrow3 (by first | omega | (simp; omega)) (fun g hg => (World.ownsRow.lt HR2.out g hg).1)
          clear hown3 hgrow3
          go_wp2
          go_roundw
          case rel => exact ⟨f + 1, by omega, by go_num, by rw [G.out]; exact R3.out, B3.out⟩
          case measure => simp [intOf]; omega
      · obtain rfl : f = 5 := by omega
        go_wp2
        go_ret2
        exact ⟨_, rfl, HR.out, HB.out⟩

set_option maxHeartbeats 4000000 in
set_option maxRecDepth 100000 in
theorem c_FieldsOfRuleS (n : Nat) (xs : List Int) (v : Value) (w : World) (hl : n ≤ 1048576) (h : SeenC w v n xs) :
    Calls Try.prog 20 #[v] w (GivesRow2 w (fieL n xs) (ruleB n xs)) := by
  have C1 := Lib.hid (c_ruGood n xs v w hl h.1)
  unfold fieL
  cases hr : ruleB n xs
  · rw [hr] at C1
    simp only [Bool.false_eq_true, if_false]
    obtain ⟨A, c, rfl, _, _, _⟩ := h.1
    clear hr h
    go_enter Try.func20, Try.ntmps20
    go_wp2_with fail
    refine C1.out.mono ?_
    rintro e w1 ⟨rfl, hb1⟩
    have HB1 := Lib.hid hb1
    clear hb1
    go_wp2
    go_ret2
    exact ⟨_, rfl, Row.nil _ _, HB1.out⟩
  · rw [hr] at C1
    obtain ⟨_, _, _, n1, n2, hp, _, _⟩ := rule_tree hr
    obtain ⟨b, off, c, rfl, hb, hcell⟩ := seen_cells h.1 (by omega)
    have E1 := Lib.hid hcell
    have ER : Hid (∀ k : Nat, k < n → xs.getD (k * 2) 0 = 1 → ∃ x : Nat, xs.getD (k * 2 + 1) 0 = (x : Int) ∧ putI (fieU (hasF xs k) 5) (x : Int) = fieU (hasF xs (k + 1)) 5) := fun k hk h1 => by
      have hpk := hp k hk
      rw [h1] at hpk
      have hv : 0 ≤ xs.getD (k * 2 + 1) 0 ∧ xs.getD (k * 2 + 1) 0 ≤ 4 := by
        unfold parB at hpk
        simpa using hpk
      obtain ⟨x, hx⟩ : ∃ x : Nat, xs.getD (k * 2 + 1) 0 = (x : Int) := ⟨(xs.getD (k * 2 + 1) 0).toNat, by omega⟩
      refine ⟨x, hx, ?_⟩
      rw [putI_fie _ (by omega)]
      refine fieU_congr (fun j _ => ?_)
      rw [hasF_succ, h1, hx]
      congr 1
      by_cases e : j = x
      · subst e; simp
      · rw [beq_eq_false_iff_ne.2 e, decide_eq_false (by omega)]
    have EN : Hid (∀ k : Nat, ¬ xs.getD (k * 2) 0 = 1 → fieU (hasF xs (k + 1)) 5 = fieU (hasF xs k) 5) := fun k h1 => fieU_congr (fun j _ => by rw [hasF_succ, decide_eq_false (fun h => h1 h.1), Bool.or_false])
    have EL : Hid (∀ k, (fieU (hasF xs k) 5).length ≤ 5) := fun k => fieU_len _ 5
    have EZ : Hid (fieU (hasF xs 0) 5 = []) := rfl
    simp only [if_true]
    clear hr h hp hcell
    obtain ⟨U, hU⟩ : ∃ U : Nat → List Int, (fun k => fieU (hasF xs k) 5) = U := ⟨_, rfl⟩
    have hU' : ∀ k, fieU (hasF xs k) 5 = U k := fun k => by rw [← hU]
    simp only [hU'] at ER EN EL EZ
    rw [hU']
    clear hU hU'
    go_enter Try.func20, Try.ntmps20
    go_wp2_with fail
    refine C1.out.mono ?_
    rintro e w1 ⟨rfl, hb1⟩
    have HB1 : Hid (Below w.heap.size w w1) := hb1
    clear hb1
    go_wp2_with fail
    go_loopw [4, 12] (fun o i wr => ∃ k : Nat, k ≤ n ∧ i = .int .i64 k ∧ Row wr w.heap.size o (U k) ∧ Below w.heap.size w wr) (fun _ i _ => n - (intOf i).toNat)
    case atStart => exact ⟨0, Nat.zero_le _, rfl, by rw [EZ.out]; exact Row.nil _ _, HB1.out⟩
    case round =>
      obtain ⟨k, hk, rfl, hr, hbw⟩ := hrel
      have HR := Lib.hid hr
      have HB := Lib.hid hbw
      clear hr hbw
      by_cases hlt : k < n
      · obtain ⟨q0, q1⟩ := E1.out wr HB.out k hlt
        have ERk := Lib.hid (ER.out k hlt)
        have ENk := Lib.hid (EN.out k)
        have ELk := EL.out k
        generalize xs.getD (k * 2) 0 = t at *
        generalize xs.getD (k * 2 + 1) 0 = m at *
        have b1 : (0 : Int) ≤ (k : Int) := by omega
        have b2 : (k : Int) < (n : Int) := by omega
        have sw := HB.out.size
        have hba : Below wr.heap.size wr (wr.alloc (.cells #[.int .i64 t, .int .i64 m] 53)) := (Below.refl _ _).alloc (Nat.le_refl _) _
        have HRa := Lib.hid (HR.out.below hba)
        have HBa : Hid (Below w.heap.size w (wr.alloc (.cells #[.int .i64 t, .int .i64 m] 53))) := HB.out.trans (hba.mono sw)
        clear hba
        by_cases ht : t = 1
        · obtain ⟨x, hx, hp⟩ := ERk.out ht
          have G := Lib.hid hp
          subst ht hx
          have C := Lib.hid (c_l1Put (U k) (x : Int) _ _ _ HRa.out HBa.out.size (by omega))
          rw [G.out] at C
          clear hp ERk ENk
          obtain ⟨OA, OC, hov⟩ := HR.out.shape
          subst hov
          go_wp2_with fail
          refine C.out.mono ?_
          rintro e w2 ⟨v2, rfl, hr2, hb2⟩
          have HR2 := Lib.hid hr2
          have HB2 : Hid (Below w.heap.size w w2) := HBa.out.trans (hb2.mono HBa.out.size)
          clear hr2 hb2
          go_wp2
          go_roundw
          case rel => exact ⟨k + 1, by omega, by go_num, HR2.out, HB2.out⟩
          case measure => simp [intOf]; omega
        · have G := Lib.hid (ENk.out ht)
          have ht' : (t == 1) = false := beq_eq_false_iff_ne.2 ht
          clear ht ERk ENk
          go_wp2
          go_roundw
          case rel => exact ⟨k + 1, by omega, by go_num, by rw [G.out]; exact HRa.out, HBa.out⟩
          case measure => simp [intOf]; omega
      · obtain rfl : k = n := by omega
        go_wp2
        go_ret2
        exact ⟨_, rfl, HR.out, HB.out⟩
end Go.Proofs.Ythlclieifcbkjaa
