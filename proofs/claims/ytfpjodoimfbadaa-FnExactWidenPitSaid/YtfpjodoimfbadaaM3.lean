/-
  Contracts: two models compared; a list of numbers within bounds; a valid model, in the program and in the model of it.
-/
import Derived.Test.YtfpjodoimfbadaaM2
namespace Go.Proofs.Ytfpjodoimfbadaa
open Go.RowKit

def allB (hi : Int) (xs : List Int) : Bool := xs.all fun t => decide (0 ≤ t ∧ t ≤ hi)
theorem getD_mem {xs : List Int} {k : Nat} (hk : k < xs.length) : xs.getD k 0 ∈ xs := by
  rw [List.getD_eq_getElem?_getD, List.getElem?_eq_getElem hk]; exact List.getElem_mem hk
theorem all_false {hi : Int} {xs : List Int} {k : Nat} (hk : k < xs.length) (h : ¬ (0 ≤ xs.getD k 0 ∧ xs.getD k 0 ≤ hi)) : allB hi xs = false := by
  unfold allB
  rw [List.all_eq_false]
  exact ⟨_, getD_mem hk, by simpa using h⟩
theorem all_true {hi : Int} {xs : List Int} (h : ∀ k : Nat, k < xs.length → 0 ≤ xs.getD k 0 ∧ xs.getD k 0 ≤ hi) : allB hi xs = true := by
  unfold allB
  rw [List.all_eq_true]
  intro t ht
  obtain ⟨k, hk, rfl⟩ := List.mem_iff_getElem.1 ht
  have := h k hk
  rw [List.getD_eq_getElem?_getD, List.getElem?_eq_getElem hk] at this
  simpa using this
theorem all_at {hi : Int} {xs : List Int} (h : allB hi xs = true) {k : Nat} (hk : k < xs.length) : 0 ≤ xs.getD k 0 ∧ xs.getD k 0 ≤ hi := by
  unfold allB at h
  rw [List.all_eq_true] at h
  simpa using h _ (getD_mem hk)
def areB (n hi : Int) (xs : List Int) : Bool := decide ((xs.length : Int) = n) && allB hi xs

end Go.Proofs.Ytfpjodoimfbadaa
