/-
  Contracts of chapter 3 over one piece: valid pieces, greatest common divisors, fractions in lowest terms, rounded grades.
-/
import Derived.Test.YtmimilchldjkbaaDoorC4
import Derived.Lib.Hide
namespace Go.Proofs.YtmimilchldjkbaaDoor
open Go.RowKit
set_option linter.unusedVariables false

/-- A valid piece. -/
def pieB (t m r : Int) : Bool := decide (0 ≤ t ∧ t ≤ 10000 ∧ 0 ≤ m ∧ m ≤ 1000 * t ∧ 0 ≤ r ∧ r ≤ 4)
theorem pie_true {t m r : Int} (h : pieB t m r = true) : 0 ≤ t ∧ t ≤ 10000 ∧ 0 ≤ m ∧ m ≤ 1000 * t ∧ 0 ≤ r ∧ r ≤ 4 := of_decide_eq_true h

set_option maxHeartbeats 400000 in
theorem c_sbPiece (t m r : Int) (w : World) : Calls Tryd.prog 70 #[.agg #[.int .i64 t, .int .i64 m, .int .i64 r]] w fun e w' => e = .returned (.bool (pieB t m r)) ∧ Below w.heap.size w w' := by
  by_cases h : 0 ≤ t ∧ t ≤ 10000
  · obtain ⟨h1, h2⟩ := h
    go_enter Tryd.func70, Tryd.ntmps70
    go_wp2
    all_goals
      go_ret
      exact ⟨ret_bool (by unfold pieB; first | exact decide_eq_decide.2 (by omega) | (symm; exact decide_eq_false (by omega))), by go_grown⟩
  · have hn : pieB t m r = false := decide_eq_false (by omega)
    rw [hn]
    clear hn
    go_enter Tryd.func70, Tryd.ntmps70
    go_wp2
    all_goals first | (exfalso; omega) | (go_ret; exact ⟨rfl, by go_grown⟩)

set_option maxHeartbeats 400000 in
theorem c_IsPiece (t m r : Int) (w : World) : Calls Tryd.prog 141 #[.agg #[.int .i64 t, .int .i64 m, .int .i64 r]] w fun e w' => e = .returned (.bool (pieB t m r)) ∧ Below w.heap.size w w' := by
  by_cases h : 0 ≤ t ∧ t ≤ 10000
  · obtain ⟨h1, h2⟩ := h
    go_enter Tryd.func141, Tryd.ntmps141
    go_wp2
    all_goals
      go_ret
      exact ⟨ret_bool (by unfold pieB; first | exact decide_eq_decide.2 (by omega) | (symm; exact decide_eq_false (by omega))), by go_grown⟩
  · have hn : pieB t m r = false := decide_eq_false (by omega)
    rw [hn]
    clear hn
    go_enter Tryd.func141, Tryd.ntmps141
    go_wp2
    all_goals first | (exfalso; omega) | (go_ret; exact ⟨rfl, by go_grown⟩)

end Go.Proofs.YtmimilchldjkbaaDoor
