/-
  Contracts: what can come next, blocks below, and arcs reduced, in the program.
-/
import Derived.Test.YtfpjodoimfbadaaNB
namespace Go.Proofs.Ytfpjodoimfbadaa
open Go.RowKit
set_option linter.unusedVariables false

theorem inL_one (i y : Int) : inL [i] y = (y == i) := by unfold inL; rw [Bool.eq_iff_iff]; simp

end Go.Proofs.Ytfpjodoimfbadaa
