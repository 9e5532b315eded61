/-
  Contracts: a number put into a rising list, in the model.
-/
import Derived.Test.YtfpjodoimfbadaaAQ
import Derived.BigQuiet
namespace Go.Proofs.Ytfpjodoimfbadaa
open Go.RowKit
set_option linter.unusedVariables false

/-- Where x comes in a rising list; the list with x. -/
def posL (ys : List Int) (x : Int) : Nat := (ys.takeWhile fun y => decide (y < x)).length
def putI (ys : List Int) (x : Int) : List Int := if posL ys x < ys.length ∧ ys.getD (posL ys x) 0 = x then ys else (ys.take (posL ys x) ++ [x]) ++ ys.drop (posL ys x)
theorem posL_le : ∀ (ys : List Int) (x : Int), posL ys x ≤ ys.length
  | [], x => Nat.le_refl _
  | y :: ys, x => by
    have := posL_le ys x
    unfold posL at *
    rw [List.takeWhile_cons]
    split <;> simp <;> omega
theorem posL_lt : ∀ (ys : List Int) (x : Int) {k : Nat}, k < posL ys x → ys.getD k 0 < x
  | [], x, k, h => by simp [posL] at h
  | y :: ys, x, k, h => by
    unfold posL at h
    rw [List.takeWhile_cons] at h
    split at h
    · rename_i hy
      cases k with
      | zero => simpa using hy
      | succ k =>
        have := posL_lt ys x (k := k) (by unfold posL; simp at h; omega)
        simpa using this
    · simp at h
theorem posL_at : ∀ (ys : List Int) (x : Int), posL ys x < ys.length → ¬ ys.getD (posL ys x) 0 < x
  | [], x, h => by simp [posL] at h
  | y :: ys, x, h => by
    unfold posL at h ⊢
    rw [List.takeWhile_cons] at h ⊢
    split at h
    · rename_i hy
      rw [if_pos hy]
      have := posL_at ys x (by unfold posL; simp at h; omega)
      unfold posL at this
      simpa using this
    · rename_i hy
      rw [if_neg hy]
      simpa using hy
theorem cut_forms {w : World} {B : Nat} {A : Option Addr} {L c q : Nat} {xs : List Int} (hx : xs.length = L) (hq : q ≤ L) (h : Row w B (.slice A L c) xs) :
    (A = none ∧ Src w 1 none (L - q) (c - q) (ints (xs.drop q))) ∨ (∃ g, A = some ⟨g, 0, none⟩ ∧ c = q ∧ Src w 1 (some ⟨g, 0, none⟩) 0 0 (ints (xs.drop q))) ∨ (∃ g, A = some ⟨g, 0, none⟩ ∧ ¬ c = q ∧ Src w 1 (some ⟨g, q, none⟩) (L - q) (c - q) (ints (xs.drop q))) := by
  obtain ⟨hform, kc, hsrc⟩ := row_src hx h
  obtain ⟨_, s2⟩ := hsrc q hq
  rcases hform with e | ⟨g, e⟩
  · subst e
    exact .inl ⟨rfl, by simpa using s2⟩
  · subst e
    by_cases e' : c = q
    · rw [if_pos e', e', Nat.sub_self, show L - q = 0 by omega] at s2
      exact .inr (.inl ⟨g, rfl, e', s2⟩)
    · rw [if_neg e'] at s2
      exact .inr (.inr ⟨g, rfl, e', by simpa [addr_add] using s2⟩)
/-- A list and a bool. -/
def GivesRow2 (w : World) (xs : List Int) (b : Bool) (e : Ending) (w' : World) : Prop := ∃ v, e = .returned (.tuple #[v, .bool b]) ∧ Row w' w.heap.size v xs ∧ Below w.heap.size w w'
def PutGives (w : World) (B : Nat) (ys : List Int) (e : Ending) (w' : World) : Prop := ∃ v, e = .returned v ∧ Row w' B v ys ∧ Below w.heap.size w w'

/-- A list of ints cut at a place, its block known. -/
theorem cut_some {w : World} {B g L c q : Nat} {xs : List Int} (hx : xs.length = L) (hq : q ≤ L) (h : Row w B (.slice (some ⟨g, 0, none⟩) L c) xs) :
    (c = q ∧ Src w 1 (some ⟨g, 0, none⟩) 0 0 (ints (xs.drop q))) ∨ (¬ c = q ∧ Src w 1 (some ⟨g, q, none⟩) (L - q) (c - q) (ints (xs.drop q))) := by
  rcases cut_forms hx hq h with ⟨e, _⟩ | ⟨g', e, h1, h2⟩ | ⟨g', e, h1, h2⟩
  · cases e
  · cases e; exact .inl ⟨h1, h2⟩
  · cases e; exact .inr ⟨h1, h2⟩
theorem row_of2 {w : World} {B n : Nat} {v : Value} {X Y : List Int} (h : w.ownsRow B 3 1 v n (ints X ++ ints Y)) : Row w B v (X ++ Y) := by
  have hl := h.1
  have e : ints (X ++ Y) = ints X ++ ints Y := by simp [ints]
  rw [← e, ints_len, Nat.mul_one] at hl
  unfold Row
  rw [e, hl]
  exact h

set_option maxHeartbeats 4000000 in
set_option maxRecDepth 100000 in
theorem c_l1Put (ys : List Int) (x : Int) (v : Value) (B : Nat) (w : World) (hr : Row w B v ys) (hB : B ≤ w.heap.size) (hl : ys.length ≤ 4000) :
    Calls Try.prog 21 #[v, .int .i64 x] w (PutGives w B (putI ys x)) := by
  obtain ⟨i0, hi0, hz0, hz1, hz2⟩ := info_parts int_info
  have HI := Lib.hid hi0
  have HR := Lib.hid hr
  obtain ⟨A, c, hv⟩ := hr.shape
  subst hv
  have HC : Hid (∀ k, k < ys.length → ∃ g, A = some ⟨g, 0, none⟩ ∧ w.cell? ⟨g, k, none⟩ = some (.int .i64 (ys.getD k 0))) := fun k hk => by
    obtain ⟨g, c', e, _, _⟩ := hr.form (by omega)
    simp at e
    obtain ⟨rfl, rfl⟩ := e
    exact ⟨g, rfl, hr.cell k hk⟩
  have HLt : Hid (∀ k, k < posL ys x → ys.getD k 0 < x) := fun k hk => posL_lt ys x hk
  have HGe : Hid (posL ys x < ys.length → ¬ ys.getD (posL ys x) 0 < x) := posL_at ys x
  have hP := posL_le ys x
  have HE : Hid (posL ys x < ys.length ∧ ys.getD (posL ys x) 0 = x → putI ys x = ys) := fun h => by unfold putI; rw [if_pos h]
  have HF : Hid (¬ (posL ys x < ys.length ∧ ys.getD (posL ys x) 0 = x) → putI ys x = (ys.take (posL ys x) ++ [x]) ++ ys.drop (posL ys x)) := fun h => by unfold putI; rw [if_neg h]
  generalize posL ys x = P at *
  generalize putI ys x = PI at *
  have HLn : Hid (∃ L, ys.length = L) := ⟨_, rfl⟩
  obtain ⟨L, hL⟩ := HLn.out
  have HLk := Lib.hid hL
  rw [hL] at HR HC HGe HE HF hP hl ⊢
  obtain ⟨kc, hsrc⟩ := (row_src hL HR.out).2
  have HS1 := Lib.hid (hsrc P hP).1
  have HS2 := Lib.hid (cut_forms hL hP HR.out)
  have kX : Hid ((ys.take P).length = P) := by show _ = _; rw [List.length_take, hL]; omega
  have kY : Hid ((ys.drop P).length = L - P) := by show _ = _; rw [List.length_drop, hL]
  clear hr hi0 hL hsrc HLn
  have p1 : (0 : Int) ≤ (P : Int) := by omega
  have p2 : (P : Int) ≤ (L : Int) := by omega
  have p3 : (P : Int) ≤ (c : Int) := by omega
  have p4 : (L : Int) ≤ 4000 := by omega
  -- the loop finds the place
  go_enter Try.func21, Try.ntmps21
  go_wp2_with fail
  go_loop [5] (fun i => ∃ k : Nat, k ≤ P ∧ i = .int .i64 k) (fun i => P - (intOf i).toNat)
  case atStart => exact ⟨0, Nat.zero_le _, rfl⟩
  case round =>
    obtain ⟨k, hk, rfl⟩ := hrel
    by_cases hlt : k < P
    · obtain ⟨g, rfl, q0⟩ := HC.out k (by omega)
      have hx := HLt.out k hlt
      generalize ys.getD k 0 = y at *
      have b1 : (0 : Int) ≤ (k : Int) := by omega
      have b2 : (k : Int) < (L : Int) := by omega
      go_wp2
      go_round
      case rel => exact ⟨k + 1, by omega, by go_num⟩
      case measure => simp [intOf]; omega
    · obtain rfl : k = P := by omega
      by_cases hkL : k < L
      · obtain ⟨g, rfl, q0⟩ := HC.out k hkL
        have hx := HGe.out hkL
        by_cases he : ys.getD k 0 = x
        · have HPI := Lib.hid (HE.out ⟨hkL, he⟩)
          rw [he] at q0
          have hx' : ¬ x < x := by omega
          clear hx he
          go_wp2
          go_ret
          exact ⟨_, rfl, by rw [HPI.out]; exact HR.out, Below.refl _ _⟩
        · have HPI := Lib.hid (HF.out (fun h => he h.2))
          have he' : (ys.getD k 0 == x) = false := beq_eq_false_iff_ne.2 he
          clear he HC HLt HGe HE HF
          have HF2 : Hid (¬ c = k ∧ Src w 1 (some ⟨g, k, none⟩) (L - k) (c - k) (ints (ys.drop k))) := by
            rcases cut_some HLk.out hP HR.out with ⟨h, _⟩ | h
            · omega
            · exact h
          clear HS2
          generalize ys.getD k 0 = y at *
          have b1 : (0 : Int) ≤ (k : Int) := by omega
          have b2 : (k : Int) < (L : Int) := by omega
          generalize ys.take k = X at *
          generalize ys.drop k = Y at *
          obtain ⟨hcq, hs2⟩ := HF2.out
          all_goals
            have HS2 := Lib.hid hs2
            clear hs2 HF2
            have HS1a := Lib.hid (HS1.out.alloc (.cells #[] 3))
            have HN := Lib.hid (row_noneA w)
            go_wp2_with (at_builtin; refine wpList_append_src rfl _ _ 25 rfl (base := w.heap.size) Try.underlying25 HI.out hz0 hz1 hz2 rfl (by decide) rfl HN.out rfl HS1a.out ints_ones (by first | (unfold maxLen; omega) | trivial) (by first | (omega) | trivial) (by first | (first | omega | (simp; omega) | simp) | trivial) ?_)
            intro v1 w1 hown1 hgrow1 _
            have R1 := Lib.hid (row_of2 (X := []) (Y := X) hown1)
            rw [List.nil_append] at R1
            have B1 : Hid (Below w.heap.size w w1) := ((Below.refl _ _).alloc (Nat.le_refl _) _).grown hgrow1 (by simp) (fun g hg => by simp [Value.ownBlock] at hg; omega)
            have sw1 := B1.out.size
            clear hown1 hgrow1
            go_wp2_with (at_builtin; refine wpList_append_src rfl _ _ 25 rfl (base := w.heap.size) Try.underlying25 HI.out hz0 hz1 hz2 rfl (by decide) rfl (World.ownsRow.alloc R1.out _) rfl (src_one (x := x) (by simp)) ints_ones (by first | (have := kX.out; unfold maxLen; omega) | trivial) (by first | (have := kX.out; omega) | trivial) (by first | (first | omega | (simp; omega)) | trivial) ?_)
            intro v2 w2 hown2 hgrow2 _
            have R2 := Lib.hid (row_of2 (X := X) (Y := [x]) hown2)
            have B2 : Hid (Below w.heap.size w w2) := (B1.out.alloc sw1 _).grown hgrow2 (by first | omega | (simp; omega)) (fun g hg => (World.ownsRow.lt R1.out g hg).1)
            have sw2 := B2.out.size
            have lX2 : Hid ((X ++ [x]).length ≤ 4001) := by show _ ≤ _; have := kX.out; rw [List.length_append, List.length_singleton]; omega
            clear hown2 hgrow2
            go_wp2_with (at_builtin; refine wpList_append_src rfl _ _ 25 rfl (base := w.heap.size) Try.underlying25 HI.out hz0 hz1 hz2 rfl (by decide) rfl R2.out rfl (src_below HS2.out B2.out) ints_ones (by first | (have := lX2.out; unfold maxLen; omega) | trivial) (by first | (have := lX2.out; omega) | trivial) (by first | (first | omega | (simp; omega)) | trivial) ?_)
            intro v3 w3 hown3 hgrow3 _
            have R3 := Lib.hid (row_of2 hown3)
            have B3 : Hid (Below w.heap.size w w3) := B2.out.grown hgrow3 (by first | omega | (simp; omega)) (fun g hg => (World.ownsRow.lt R2.out g hg).1)
            clear hown3 hgrow3
            go_wp2
            go_ret
            exact ⟨_, rfl, by rw [HPI.out]; exact R3.out.mono hB, B3.out⟩
      · obtain rfl : k = L := by omega
        have HPI := Lib.hid (HF.out (fun h => by omega))
        clear HC HLt HGe HE HF
        have nlt : ¬ (k : Int) < (k : Int) := by omega
        generalize ys.take k = X at *
        generalize ys.drop k = Y at *
        rcases HS2.out with ⟨rfl, hs2⟩ | ⟨g, rfl, rfl, hs2⟩ | ⟨g, rfl, hcq, hs2⟩
        all_goals
          clear HS2
          have HS2 := Lib.hid hs2
          clear hs2
          try rw [Nat.sub_self] at HS2
          have HS1a := Lib.hid (HS1.out.alloc (.cells #[] 3))
          have HN := Lib.hid (row_noneA w)
          go_wp2_with (at_builtin; refine wpList_append_src rfl _ _ 25 rfl (base := w.heap.size) Try.underlying25 HI.out hz0 hz1 hz2 rfl (by decide) rfl HN.out rfl HS1a.out ints_ones (by first | (unfold maxLen; omega) | trivial) (by first | (omega) | trivial) (by first | (first | omega | (simp; omega) | simp) | trivial) ?_)
          intro v1 w1 hown1 hgrow1 _
          have R1 := Lib.hid (row_of2 (X := []) (Y := X) hown1)
          rw [List.nil_append] at R1
          have B1 : Hid (Below w.heap.size w w1) := ((Below.refl _ _).alloc (Nat.le_refl _) _).grown hgrow1 (by simp) (fun g hg => by simp [Value.ownBlock] at hg; omega)
          have sw1 := B1.out.size
          clear hown1 hgrow1
          go_wp2_with (at_builtin; refine wpList_append_src rfl _ _ 25 rfl (base := w.heap.size) Try.underlying25 HI.out hz0 hz1 hz2 rfl (by decide) rfl (World.ownsRow.alloc R1.out _) rfl (src_one (x := x) (by simp)) ints_ones (by first | (have := kX.out; unfold maxLen; omega) | trivial) (by first | (have := kX.out; omega) | trivial) (by first | (first | omega | (simp; omega)) | trivial) ?_)
          intro v2 w2 hown2 hgrow2 _
          have R2 := Lib.hid (row_of2 (X := X) (Y := [x]) hown2)
          have B2 : Hid (Below w.heap.size w w2) := (B1.out.alloc sw1 _).grown hgrow2 (by first | omega | (simp; omega)) (fun g hg => (World.ownsRow.lt R1.out g hg).1)
          have sw2 := B2.out.size
          have lX2 : Hid ((X ++ [x]).length ≤ 4001) := by show _ ≤ _; have := kX.out; rw [List.length_append, List.length_singleton]; omega
          clear hown2 hgrow2
          go_wp2_with (at_builtin; refine wpList_append_src rfl _ _ 25 rfl (base := w.heap.size) Try.underlying25 HI.out hz0 hz1 hz2 rfl (by decide) rfl R2.out rfl (src_below HS2.out B2.out) ints_ones (by first | (have := lX2.out; unfold maxLen; omega) | trivial) (by first | (have := lX2.out; omega) | trivial) (by first | (first | omega | (simp; omega)) | trivial) ?_)
          intro v3 w3 hown3 hgrow3 _
          have R3 := Lib.hid (row_of2 hown3)
          have B3 : Hid (Below w.heap.size w w3) := B2.out.grown hgrow3 (by first | omega | (simp; omega)) (fun g hg => (World.ownsRow.lt R2.out g hg).1)
          clear hown3 hgrow3
          go_wp2
          go_ret
          exact ⟨_, rfl, by rw [HPI.out]; exact R3.out.mono hB, B3.out⟩

end Go.Proofs.Ytfpjodoimfbadaa
