/-
  Sorting by insertion: what stands at a place; draws.
-/
import Derived.Test.YthdbcncdihcggaaT1
namespace Go.Proofs.Ythdbcncdihcggaa
open Go.RowKit
set_option linter.unusedVariables false

theorem grown_draws {a w : World} {r : Option Nat} (h : a.grownBy w r) (n : Nat) : a.grownBy (w.drewN n) r := ⟨h.os, h.tape, h.output, h.size, h.block⟩
theorem sortN_at (lt : Int → Int → Bool) : ∀ (i : Nat) {j : Nat}, j < i → ∃ b : Nat, (sortN lt i).getD j 0 = (b : Int) ∧ b < i
  | i + 1, j, h => by
    have hl := sortN_len lt i
    have hp := posR_le lt i (sortN lt i) i
    rw [List.getD_eq_getElem?_getD, sortN, insAt_get _ _ _ _ (by omega)]
    by_cases h1 : j < posR lt i (sortN lt i) i
    · rw [if_pos h1, ← List.getD_eq_getElem?_getD]
      obtain ⟨b, e, hb⟩ := sortN_at lt i (j := j) (by omega)
      exact ⟨b, e, by omega⟩
    · rw [if_neg h1]
      by_cases h2 : j = posR lt i (sortN lt i) i
      · rw [if_pos h2]; exact ⟨i, rfl, by omega⟩
      · rw [if_neg h2, ← List.getD_eq_getElem?_getD]
        obtain ⟨b, e, hb⟩ := sortN_at lt i (j := j - 1) (by omega)
        exact ⟨b, e, by omega⟩

end Go.Proofs.Ythdbcncdihcggaa
