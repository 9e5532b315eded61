/-
  Contracts of the law's own helpers over lists of lists: found as marked.
-/
import Derived.Test.YtfpjodoimfbadaaR1
namespace Go.Proofs.Ytfpjodoimfbadaa
open Go.RowKit
set_option linter.unusedVariables false

end Go.Proofs.Ytfpjodoimfbadaa
