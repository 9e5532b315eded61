/-
  Contracts: valid networks, in the program and in the model of it.
-/
import Derived.Test.YtfpjodoimfbadaaZB
import Derived.IntWalk
namespace Go.Proofs.Ytfpjodoimfbadaa
open Go.RowKit
set_option linter.unusedVariables false

def edgB (n f t c : Int) : Bool := decide (0 ≤ f ∧ f < n ∧ 0 ≤ t ∧ t < n ∧ 0 ≤ c ∧ c ≤ 1000000000)
theorem edg_mk {n f t c : Int} (h : 0 ≤ f ∧ f < n ∧ 0 ≤ t ∧ t < n ∧ 0 ≤ c ∧ c ≤ 1000000000) : edgB n f t c = true := decide_eq_true h
theorem edg_no {n f t c : Int} (h : ¬ (0 ≤ f ∧ f < n ∧ 0 ≤ t ∧ t < n ∧ 0 ≤ c ∧ c ≤ 1000000000)) : edgB n f t c = false := decide_eq_false h
theorem edg_true {n f t c : Int} (h : edgB n f t c = true) : 0 ≤ f ∧ f < n ∧ 0 ≤ t ∧ t < n ∧ 0 ≤ c ∧ c ≤ 1000000000 := of_decide_eq_true h
/-- The first k edges are valid. -/
def EdgTo (n : Int) (xs : List Int) (k : Nat) : Prop := ∀ j : Nat, j < k → edgB n (xs.getD (j * 3) 0) (xs.getD (j * 3 + 1) 0) (xs.getD (j * 3 + 2) 0) = true
def edgAll (n : Int) (m : Nat) (xs : List Int) : Bool := (List.range m).all fun j => edgB n (xs.getD (j * 3) 0) (xs.getD (j * 3 + 1) 0) (xs.getD (j * 3 + 2) 0)
theorem edgAll_true {n : Int} {m : Nat} {xs : List Int} (h : EdgTo n xs m) : edgAll n m xs = true := by
  unfold edgAll
  rw [List.all_eq_true]
  exact fun j hj => h j (List.mem_range.1 hj)
theorem edgAll_false {n : Int} {m : Nat} {xs : List Int} {k : Nat} (hk : k < m) (h : edgB n (xs.getD (k * 3) 0) (xs.getD (k * 3 + 1) 0) (xs.getD (k * 3 + 2) 0) = false) : edgAll n m xs = false := by
  unfold edgAll
  rw [List.all_eq_false]
  exact ⟨k, List.mem_range.2 hk, by show ¬ edgB _ _ _ _ = true; rw [h]; simp⟩
theorem edgAll_at {n : Int} {m : Nat} {xs : List Int} (h : edgAll n m xs = true) {k : Nat} (hk : k < m) : edgB n (xs.getD (k * 3) 0) (xs.getD (k * 3 + 1) 0) (xs.getD (k * 3 + 2) 0) = true := by
  unfold edgAll at h
  rw [List.all_eq_true] at h
  exact h k (List.mem_range.2 hk)
theorem EdgTo.zero (n : Int) (xs : List Int) : EdgTo n xs 0 := fun j hj => by omega
theorem EdgTo.succ {n : Int} {xs : List Int} {k : Nat} (h : EdgTo n xs k) (hk : edgB n (xs.getD (k * 3) 0) (xs.getD (k * 3 + 1) 0) (xs.getD (k * 3 + 2) 0) = true) : EdgTo n xs (k + 1) := fun j hj => by
  by_cases e : j = k
  · rw [e]; exact hk
  · exact h j (by omega)
/-- A network of n nodes and m edges. -/
def netB (n : Int) (m : Nat) (xs : List Int) : Bool := decide (2 ≤ n ∧ n ≤ 130 ∧ m ≤ 2000) && edgAll n m xs
/-- The same, with more edges. -/
def netW (n : Int) (m : Nat) (xs : List Int) : Bool := decide (2 ≤ n ∧ n ≤ 130 ∧ m ≤ 8000) && edgAll n m xs
theorem netW_true {n : Int} {m : Nat} {xs : List Int} (h : netW n m xs = true) : 2 ≤ n ∧ n ≤ 130 ∧ m ≤ 8000 ∧ edgAll n m xs = true := by
  unfold netW at h
  simp only [Bool.and_eq_true, decide_eq_true_eq] at h
  exact ⟨h.1.1, h.1.2.1, h.1.2.2, h.2⟩
theorem netW_mk {n : Int} {m : Nat} {xs : List Int} (h1 : 2 ≤ n) (h2 : n ≤ 130) (h3 : m ≤ 8000) (h4 : edgAll n m xs = true) : netW n m xs = true := by
  unfold netW
  rw [h4, decide_eq_true (show 2 ≤ n ∧ n ≤ 130 ∧ m ≤ 8000 from ⟨h1, h2, h3⟩)]
  rfl
theorem net_true {n : Int} {m : Nat} {xs : List Int} (h : netB n m xs = true) : 2 ≤ n ∧ n ≤ 130 ∧ m ≤ 2000 ∧ edgAll n m xs = true := by
  unfold netB at h
  simp only [Bool.and_eq_true, decide_eq_true_eq] at h
  exact ⟨h.1.1, h.1.2.1, h.1.2.2, h.2⟩
theorem netW_of {n : Int} {m : Nat} {xs : List Int} (h : netB n m xs = true) : netW n m xs = true := by
  obtain ⟨h1, h2, h3, h4⟩ := net_true h
  exact netW_mk h1 h2 (by omega) h4

end Go.Proofs.Ytfpjodoimfbadaa
