/-
  The chosen places rise, and their sums: plain facts (without the program).
-/
import Derived.Test.YtfpjodoimfbadaaM7
namespace Go.Proofs.Ytfpjodoimfbadaa
open Go.RowKit
set_option linter.unusedVariables false

theorem getD_left (xs : List Int) (a : Int) {k : Nat} (h : k < xs.length) : (xs ++ [a]).getD k 0 = xs.getD k 0 := by
  simp [List.getD_eq_getElem?_getD, List.getElem?_append_left h]
theorem getD_last (xs : List Int) (a : Int) : (xs ++ [a]).getD xs.length 0 = a := by
  simp [List.getD_eq_getElem?_getD]
theorem prev_left (xs : List Int) (a : Int) : ∀ {k : Nat}, k ≤ xs.length → prevOf (xs ++ [a]) k = prevOf xs k
  | 0, _ => rfl
  | k + 1, h => by simp only [prevOf]; exact getD_left xs a (by omega)
theorem sel_ris (p : Int → Bool) : ∀ n : Nat, RisTo n (sel p n) (sel p n).length
  | 0 => fun j hj => by simp [sel] at hj
  | n + 1 => by
    have ih := sel_ris p n
    cases hp : p n
    · rw [sel_miss hp]
      intro j hj
      have := ih j hj
      omega
    · rw [sel_hit hp]
      intro j hj
      rw [List.length_append, List.length_singleton] at hj
      by_cases h : j < (sel p n).length
      · rw [prev_left _ _ (by omega), getD_left _ _ h]
        have := ih j h
        omega
      · obtain rfl : j = (sel p n).length := by omega
        rw [prev_left _ _ (Nat.le_refl _), getD_last]
        refine ⟨?_, by omega⟩
        cases hl : (sel p n).length with
        | zero => simp only [prevOf]; omega
        | succ m => simp only [prevOf]; exact (ih m (by omega)).2
theorem sel_risB (p : Int → Bool) {n : Nat} {N : Int} (h : N = n) : risB N (sel p n) = true := by subst h; exact ris_true (sel_ris p n)
theorem sel_sum (ts : List Int) (p : Int → Bool) : ∀ n : Nat, sumT ts (sel p n) = sumN (fun k => if p k then ts.getD k 0 else 0) n
  | 0 => rfl
  | n + 1 => by
    have ih := sel_sum ts p n
    rw [sumN_succ]
    cases hp : p n
    · rw [sel_miss hp, ih]; simp
    · rw [sel_hit hp]
      unfold sumT at ih ⊢
      rw [List.length_append, List.length_singleton, sumN_succ, ← ih]
      congr 1
      · exact sumN_congr fun k hk => by unfold tonF; rw [getD_left _ _ hk]
      · unfold tonF; rw [getD_last]; simp
end Go.Proofs.Ytfpjodoimfbadaa
