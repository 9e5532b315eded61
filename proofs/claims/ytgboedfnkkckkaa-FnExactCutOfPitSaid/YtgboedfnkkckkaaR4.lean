/-
  Contracts of the law's own helpers over lists of lists: found as marked.
-/
import Derived.Test.YtgboedfnkkckkaaR1
namespace Go.Proofs.Ytgboedfnkkckkaa
open Go.RowKit
set_option linter.unusedVariables false

end Go.Proofs.Ytgboedfnkkckkaa
