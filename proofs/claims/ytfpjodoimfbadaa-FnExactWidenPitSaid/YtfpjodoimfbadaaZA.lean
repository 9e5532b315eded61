/-
  Contracts over one edge: copied, compared, valid, before another one.
-/
import Derived.Test.YtfpjodoimfbadaaC4
import Derived.Test.YtfpjodoimfbadaaC2
import Derived.Lib.Hide
namespace Go.Proofs.Ytfpjodoimfbadaa
open Go.RowKit
set_option linter.unusedVariables false

def cmpI (a b : Int) : Int := if a < b then -1 else if b < a then 1 else 0
theorem cmpI_neg (a b : Int) : (cmpI a b < 0) ↔ a < b := by unfold cmpI; split <;> (try split) <;> omega

end Go.Proofs.Ytfpjodoimfbadaa
