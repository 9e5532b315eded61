/-
  Lists of edges found as they were marked; arguments that are lists of edges, opened.
-/
import Derived.Test.YthfmgclndokknaaZB
import Derived.Test.YthfmgclndokknaaOpenL
import Derived.Deep.Slices
namespace Go.Proofs.Ythfmgclndokknaa
open Go.ChangeShapes Go.WideShapes Go.ChangeAt Go.RowKit Go.Joins Go.Deep
set_option linter.unusedVariables false

set_option maxHeartbeats 2000000 in
theorem c_heldEdgeS (v : Value) (B n : Nat) (k0 : Int) (w : World) (hl : n ≤ 1048576) (hk1 : 0 ≤ k0) (hk2 : k0 ≤ 4000000) (h : RowP w B v n (marks k0 (n * 3))) :
    Calls Try.prog 18 #[v, .int .i64 k0] w fun e w' => e = .returned (.int .i64 (k0 + (n : Int) * 3)) ∧ w = w' := by
  by_cases h0 : n = 0
  · subst h0
    obtain ⟨A1, c1, rfl⟩ := h.shape
    clear h
    go_enter Try.func18, Try.ntmps18
    go_wp2
    go_rounds 1
    go_ret
    exact ⟨ret_int (by simp), rfl⟩
  · obtain ⟨g, c, rfl, _, _⟩ := h.form (by omega)
    have E1 : Hid (∀ j : Nat, j < n * 3 → w.cell? ⟨g, j, none⟩ = some (.int .i64 (k0 + (j : Int)))) := fun j hj => by rw [h.cell j hj, marks_getD _ _ _ hj]
    clear h h0
    go_enter Try.func18, Try.ntmps18
    go_wp2
    go_loop [1, 5] (fun q i => ∃ k : Nat, k ≤ n ∧ i = .int .i64 k ∧ q = .int .i64 (k0 + (k : Int) * 3)) (fun _ i => n - (intOf i).toNat)
    case atStart => exact ⟨0, Nat.zero_le _, rfl, by simp⟩
    case round =>
      obtain ⟨k, hk, rfl, rfl⟩ := hrel
      by_cases hlt : k < n
      · have p0 : w.cell? ⟨g, k * 3, none⟩ = some (.int .i64 (k0 + (k : Int) * 3)) := by rw [E1.out (k * 3) (by omega), show k0 + ((k * 3 : Nat) : Int) = k0 + (k : Int) * 3 by omega]
        have p1 : w.cell? ⟨g, k * 3 + 1, none⟩ = some (.int .i64 (k0 + (k : Int) * 3 + 1)) := by rw [E1.out (k * 3 + 1) (by omega), show k0 + ((k * 3 + 1 : Nat) : Int) = k0 + (k : Int) * 3 + 1 by omega]
        have p2 : w.cell? ⟨g, k * 3 + 2, none⟩ = some (.int .i64 (k0 + (k : Int) * 3 + 1 + 1)) := by rw [E1.out (k * 3 + 2) (by omega), show k0 + ((k * 3 + 2 : Nat) : Int) = k0 + (k : Int) * 3 + 1 + 1 by omega]
        have h1 : (k0 + (k : Int) * 3 != k0 + (k : Int) * 3) = false := by simp
        have h2 : (k0 + (k : Int) * 3 + 1 != k0 + (k : Int) * 3 + 1) = false := by simp
        have h3 : (k0 + (k : Int) * 3 + 1 + 1 != k0 + (k : Int) * 3 + 1 + 1) = false := by simp
        have b1 : (0 : Int) ≤ (k : Int) := by omega
        have b2 : (k : Int) < (n : Int) := by omega
        go_wp2
        go_round
        case rel => exact ⟨k + 1, by omega, by go_num, by rw [show (k0 + (k : Int) * 3 + 1 + 1 + 1) = k0 + ((k + 1 : Nat) : Int) * 3 by omega]⟩
        case measure => simp [intOf]; omega
      · obtain rfl : k = n := by omega
        go_wp2
        go_ret
        exact ⟨rfl, rfl⟩
end Go.Proofs.Ythfmgclndokknaa
