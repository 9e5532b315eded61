/-
  Contracts over one part of a rule: valid parts, what a kind needs, how tightly it binds.
-/
import Derived.Test.YtdgkgnlilcbggaaDoorE1
import Derived.Test.YtdgkgnlilcbggaaDoorU1
namespace Go.Proofs.YtdgkgnlilcbggaaDoor
open Go.RowKit
set_option linter.unusedVariables false

def bindK (k : Int) : Int := if k ≤ 1 then 3 else if k ≤ 3 then 1 else if k ≤ 5 then 2 else 0

set_option maxHeartbeats 400000 in
theorem c_bindingOf (k : Int) (w : World) (h0 : 0 ≤ k) (h8 : k ≤ 8) : Calls Tryd.prog 22 #[.int .i64 k] w fun e w' => e = .returned (.int .i64 (bindK k)) ∧ w = w' := by
  rcases (show k = 0 ∨ k = 1 ∨ k = 2 ∨ k = 3 ∨ k = 4 ∨ k = 5 ∨ k = 6 ∨ k = 7 ∨ k = 8 by omega) with rfl | rfl | rfl | rfl | rfl | rfl | rfl | rfl | rfl
  all_goals
    go_enter Tryd.func22, Tryd.ntmps22
    go_wp2
    go_ret
    exact ⟨rfl, rfl⟩

set_option maxHeartbeats 400000 in
theorem c_countNeeds (k : Int) (w : World) (h0 : 0 ≤ k) (h8 : k ≤ 8) : Calls Tryd.prog 32 #[.int .i64 k] w fun e w' => e = .returned (.int .i64 (ndK k : Int)) ∧ w = w' := by
  have C := Lib.hid (c_bindingOf k w h0 h8)
  rcases (show k = 0 ∨ k = 1 ∨ k = 2 ∨ k = 3 ∨ k = 4 ∨ k = 5 ∨ k = 6 ∨ k = 7 ∨ k = 8 by omega) with rfl | rfl | rfl | rfl | rfl | rfl | rfl | rfl | rfl
  all_goals
    go_enter Tryd.func32, Tryd.ntmps32
    go_wp2_with fail
    refine C.out.mono ?_
    rintro e w1 ⟨rfl, rfl⟩
    simp only [bindK]
    go_wp2
    go_ret
    exact ⟨rfl, rfl⟩

set_option maxHeartbeats 400000 in
theorem c_isField (v : Int) (w : World) : Calls Tryd.prog 31 #[.int .i64 v] w fun e w' => e = .returned (.bool (decide (0 ≤ v ∧ v ≤ 4))) ∧ w = w' := by
  by_cases h : 0 ≤ v
  · go_enter Tryd.func31, Tryd.ntmps31
    go_wp2
    go_ret
    exact ⟨ret_bool (decide_eq_decide.2 (by omega)), rfl⟩
  · go_enter Tryd.func31, Tryd.ntmps31
    go_wp2
    go_ret
    exact ⟨ret_bool (by simp; omega), rfl⟩

set_option maxHeartbeats 400000 in
theorem c_isPart (k v : Int) (w : World) : Calls Tryd.prog 19 #[.agg #[.int .i64 k, .int .i64 v]] w fun e w' => e = .returned (.bool (parB k v)) ∧ Below w.heap.size w w' := by
  by_cases h0 : k = 0
  · subst h0
    by_cases h1 : 0 ≤ v
    · go_enter Tryd.func19, Tryd.ntmps19
      go_wp2
      go_ret
      exact ⟨ret_bool (by unfold parB; rw [if_pos rfl]; exact decide_eq_decide.2 (by omega)), by go_grown⟩
    · go_enter Tryd.func19, Tryd.ntmps19
      go_wp2
      go_ret
      exact ⟨ret_bool (by unfold parB; rw [if_pos rfl]; symm; exact decide_eq_false (by omega)), by go_grown⟩
  · by_cases h1 : k = 1
    · subst h1
      go_enter Tryd.func19, Tryd.ntmps19
      go_wp2_with fail
      refine (c_isField _ _).mono ?_
      rintro e w1 ⟨rfl, rfl⟩
      go_wp2
      go_ret
      exact ⟨ret_bool (by unfold parB; simp), by go_grown⟩
    · have e : parB k v = decide (2 ≤ k ∧ k ≤ 8 ∧ v = 0) := by unfold parB; rw [if_neg h0, if_neg h1]
      rw [e]
      clear e
      have g0 : (k == 0) = false := by simpa using h0
      have g1 : (k == 1) = false := by simpa using h1
      clear h0 h1
      by_cases h2 : 2 ≤ k
      · by_cases h3 : k ≤ 8
        · go_enter Tryd.func19, Tryd.ntmps19
          go_wp2
          go_ret
          exact ⟨ret_bool (by simp [h2, h3, BEq.beq]), by go_grown⟩
        · go_enter Tryd.func19, Tryd.ntmps19
          go_wp2
          go_ret
          exact ⟨ret_bool (by simp; omega), by go_grown⟩
      · go_enter Tryd.func19, Tryd.ntmps19
        go_wp2
        go_ret
        exact ⟨ret_bool (by simp; omega), by go_grown⟩

set_option maxHeartbeats 400000 in
theorem c_ruNeeds (k : Int) (w : World) : Calls Tryd.prog 25 #[.int .i64 k] w fun e w' => e = .returned (.int .i64 (ndK k : Int)) ∧ w = w' := by
  by_cases h1 : k ≤ 1
  · go_enter Tryd.func25, Tryd.ntmps25
    go_wp2
    go_ret
    exact ⟨ret_int (by unfold ndK; rw [if_pos h1]; rfl), rfl⟩
  · by_cases h2 : k ≤ 5
    · go_enter Tryd.func25, Tryd.ntmps25
      go_wp2
      go_ret
      exact ⟨ret_int (by unfold ndK; rw [if_neg (by omega), if_pos (by omega)]; rfl), rfl⟩
    · go_enter Tryd.func25, Tryd.ntmps25
      go_wp2
      go_ret
      exact ⟨ret_int (by unfold ndK; rw [if_neg (by omega), if_neg (by omega)]; rfl), rfl⟩

set_option maxHeartbeats 400000 in
theorem c_ruPart (k v : Int) (w : World) : Calls Tryd.prog 24 #[.agg #[.int .i64 k, .int .i64 v]] w fun e w' => e = .returned (.bool (parB k v)) ∧ Below w.heap.size w w' := by
  by_cases h0 : k = 0
  · subst h0
    go_enter Tryd.func24, Tryd.ntmps24
    go_wp2_with fail
    refine (c_l1In _ _ _ _).mono ?_
    rintro e w1 ⟨rfl, rfl⟩
    go_wp2
    go_ret
    exact ⟨ret_bool (by unfold parB; simp), by go_grown⟩
  · by_cases h1 : k = 1
    · subst h1
      go_enter Tryd.func24, Tryd.ntmps24
      go_wp2_with fail
      refine (c_l1In _ _ _ _).mono ?_
      rintro e w1 ⟨rfl, rfl⟩
      go_wp2
      go_ret
      exact ⟨ret_bool (by unfold parB; simp), by go_grown⟩
    · have e : parB k v = decide (2 ≤ k ∧ k ≤ 8 ∧ v = 0) := by unfold parB; rw [if_neg h0, if_neg h1]
      rw [e]
      clear e
      have g0 : (k == 0) = false := by simpa using h0
      have g1 : (k == 1) = false := by simpa using h1
      by_cases h2 : 2 ≤ k ∧ k ≤ 8
      · have d : decide (2 ≤ k ∧ k ≤ 8) = true := decide_eq_true h2
        go_enter Tryd.func24, Tryd.ntmps24
        go_wp2_with fail
        refine (c_l1In _ _ _ _).mono ?_
        rintro e w1 ⟨rfl, rfl⟩
        rw [d]
        go_wp2
        go_ret
        exact ⟨ret_bool (by by_cases hv : v = 0 <;> simp [hv] <;> omega), by go_grown⟩
      · have d : decide (2 ≤ k ∧ k ≤ 8) = false := decide_eq_false h2
        go_enter Tryd.func24, Tryd.ntmps24
        go_wp2_with fail
        refine (c_l1In _ _ _ _).mono ?_
        rintro e w1 ⟨rfl, rfl⟩
        rw [d]
        go_wp2
        go_ret
        exact ⟨ret_bool (by symm; exact decide_eq_false (by omega)), by go_grown⟩
end Go.Proofs.YtdgkgnlilcbggaaDoor
