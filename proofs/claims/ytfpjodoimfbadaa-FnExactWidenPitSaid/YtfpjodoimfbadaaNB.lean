/-
  Contracts: greatest closures inside, meets, what can come next, and blocks below, in the program.
-/
import Derived.Test.YtfpjodoimfbadaaNA
import Derived.Test.YtfpjodoimfbadaaNR
namespace Go.Proofs.Ytfpjodoimfbadaa
open Go.RowKit
set_option linter.unusedVariables false

theorem InN.mapped {N : Nat} {l : List Int} {k : Nat} (h : InN N l) (hk : k < l.length) : 0 ≤ l.getD k 0 ∧ l.getD k 0 < (N : Int) := h _ (getD_memN hk)

end Go.Proofs.Ytfpjodoimfbadaa
