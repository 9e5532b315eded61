/-
  Fields of rules: plain facts.
-/
import Derived.Test.YthlclieifcbkjaaU3
namespace Go.Proofs.Ythlclieifcbkjaa
set_option linter.unusedVariables false

/-- Whether one of the first k parts is field f. -/
def hasF (xs : List Int) (k : Nat) (f : Nat) : Bool := (List.range k).any fun j => decide (xs.getD (j * 2) 0 = 1 ∧ xs.getD (j * 2 + 1) 0 = (f : Int))
theorem hasF_zero (xs : List Int) (f : Nat) : hasF xs 0 f = false := rfl
theorem hasF_succ (xs : List Int) (k f : Nat) : hasF xs (k + 1) f = (hasF xs k f || decide (xs.getD (k * 2) 0 = 1 ∧ xs.getD (k * 2 + 1) 0 = (f : Int))) := by
  unfold hasF
  rw [List.range_succ, List.any_append]
  simp
theorem hasF_true {xs : List Int} {n k f : Nat} (hk : k < n) (h : xs.getD (k * 2) 0 = 1 ∧ xs.getD (k * 2 + 1) 0 = (f : Int)) : hasF xs n f = true := by
  unfold hasF
  rw [List.any_eq_true]
  exact ⟨k, List.mem_range.2 hk, decide_eq_true h⟩
/-- The first f fields that are there. -/
def fieU (b : Nat → Bool) : Nat → List Int
  | 0 => []
  | f + 1 => fieU b f ++ (if b f then [(f : Int)] else [])
theorem fieU_len (b : Nat → Bool) : ∀ f, (fieU b f).length ≤ f
  | 0 => Nat.le_refl _
  | f + 1 => by
    have := fieU_len b f
    rw [fieU, List.length_append]
    split <;> simp <;> omega
/-- Where x comes in a rising list; the list with x. -/
def posL (ys : List Int) (x : Int) : Nat := (ys.takeWhile fun y => decide (y < x)).length
def putI (ys : List Int) (x : Int) : List Int := if posL ys x < ys.length ∧ ys.getD (posL ys x) 0 = x then ys else (ys.take (posL ys x) ++ [x]) ++ ys.drop (posL ys x)
theorem posL_le : ∀ (ys : List Int) (x : Int), posL ys x ≤ ys.length
  | [], x => Nat.le_refl _
  | y :: ys, x => by
    have := posL_le ys x
    unfold posL at *
    rw [List.takeWhile_cons]
    split <;> simp <;> omega
theorem posL_lt : ∀ (ys : List Int) (x : Int) {k : Nat}, k < posL ys x → ys.getD k 0 < x
  | [], x, k, h => by simp [posL] at h
  | y :: ys, x, k, h => by
    unfold posL at h
    rw [List.takeWhile_cons] at h
    split at h
    · rename_i hy
      cases k with
      | zero => simpa using hy
      | succ k =>
        have := posL_lt ys x (k := k) (by unfold posL; simp at h; omega)
        simpa using this
    · simp at h
theorem posL_at : ∀ (ys : List Int) (x : Int), posL ys x < ys.length → ¬ ys.getD (posL ys x) 0 < x
  | [], x, h => by simp [posL] at h
  | y :: ys, x, h => by
    unfold posL at h ⊢
    rw [List.takeWhile_cons] at h ⊢
    split at h
    · rename_i hy
      rw [if_pos hy]
      have := posL_at ys x (by unfold posL; simp at h; omega)
      unfold posL at this
      simpa using this
    · rename_i hy
      rw [if_neg hy]
      simpa using hy
theorem putI_fie (b : Nat → Bool) {x : Nat} (h : x < 5) : putI (fieU b 5) (x : Int) = fieU (fun f => b f || (f == x)) 5 := by
  have e : ∀ b' : Nat → Bool, fieU b' 5 = ((((([] ++ (if b' 0 then [((0 : Nat) : Int)] else [])) ++ (if b' 1 then [((1 : Nat) : Int)] else [])) ++ (if b' 2 then [((2 : Nat) : Int)] else [])) ++ (if b' 3 then [((3 : Nat) : Int)] else [])) ++ (if b' 4 then [((4 : Nat) : Int)] else [])) := fun b' => rfl
  rw [e, e]
  generalize b 0 = b0
  generalize b 1 = b1
  generalize b 2 = b2
  generalize b 3 = b3
  generalize b 4 = b4
  rcases (show x = 0 ∨ x = 1 ∨ x = 2 ∨ x = 3 ∨ x = 4 by omega) with rfl | rfl | rfl | rfl | rfl <;> cases b0 <;> cases b1 <;> cases b2 <;> cases b3 <;> cases b4 <;> decide
theorem fieU_congr {b b' : Nat → Bool} : ∀ {f : Nat}, (∀ j, j < f → b j = b' j) → fieU b f = fieU b' f
  | 0, _ => rfl
  | f + 1, h => by rw [fieU, fieU, fieU_congr (fun j hj => h j (by omega)), h f (by omega)]
def fieL (n : Nat) (xs : List Int) : List Int := if ruleB n xs then fieU (hasF xs n) 5 else []
theorem fieL_len (n : Nat) (xs : List Int) : (fieL n xs).length ≤ 4000000 := by
  unfold fieL
  split
  · have := fieU_len (hasF xs n) 5; omega
  · simp
end Go.Proofs.Ythlclieifcbkjaa
