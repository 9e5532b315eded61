/-
  Contracts: how tightly a kind binds, and the names of the fields, in the model.
-/
import Derived.Test.YtdgkgnlilcbggaaDoorPB1
namespace Go.Proofs.YtdgkgnlilcbggaaDoor
open Go.RowKit
set_option linter.unusedVariables false
set_option linter.unusedSimpArgs false

set_option maxHeartbeats 400000 in
theorem c_ruLevel (k : Int) (w : World) : Calls Tryd.prog 28 #[.int .i64 k] w fun e w' => e = .returned (.int .i64 (bindK k)) ∧ w = w' := by
  by_cases h1 : k ≤ 1
  · have E : Hid (bindK k = 3) := by show _ = _; unfold bindK; rw [if_pos h1]
    rw [E.out]
    go_enter Tryd.func28, Tryd.ntmps28
    go_wp2
    go_ret
    exact ⟨rfl, rfl⟩
  · by_cases h3 : k ≤ 3
    · have E : Hid (bindK k = 1) := by show _ = _; unfold bindK; rw [if_neg h1, if_pos h3]
      rw [E.out]
      go_enter Tryd.func28, Tryd.ntmps28
      go_wp2
      go_ret
      exact ⟨rfl, rfl⟩
    · by_cases h5 : k ≤ 5
      · have E : Hid (bindK k = 2) := by show _ = _; unfold bindK; rw [if_neg h1, if_neg h3, if_pos h5]
        rw [E.out]
        go_enter Tryd.func28, Tryd.ntmps28
        go_wp2
        go_ret
        exact ⟨rfl, rfl⟩
      · have E : Hid (bindK k = 0) := by show _ = _; unfold bindK; rw [if_neg h1, if_neg h3, if_neg h5]
        rw [E.out]
        go_enter Tryd.func28, Tryd.ntmps28
        go_wp2
        go_ret
        exact ⟨rfl, rfl⟩

set_option maxHeartbeats 400000 in
theorem c_ruFields (w : World) : Calls Tryd.prog 30 #[] w fun e w' => ∃ g, e = .returned (.slice (some ⟨g, 0, none⟩) 5 5) ∧ g < w'.heap.size ∧ (∀ i : Nat, i < 5 → w'.cell? ⟨g, i, none⟩ = some (.string (fnm i))) ∧ Below w.heap.size w w' := by
  go_enter Tryd.func30, Tryd.ntmps30
  go_wp2
  go_ret
  refine ⟨w.heap.size, rfl, by simp, fun i hi => ?_, (Below.refl _ _).alloc (Nat.le_refl _) _⟩
  rcases (show i = 0 ∨ i = 1 ∨ i = 2 ∨ i = 3 ∨ i = 4 by omega) with rfl | rfl | rfl | rfl | rfl <;> simp [fnm]
end Go.Proofs.YtdgkgnlilcbggaaDoor
