/-
  Contracts of the law's own helpers over lists of lists: found as marked.
-/
import Derived.Test.YtmkbjkmpincogaaR1
namespace Go.Proofs.Ytmkbjkmpincogaa
open Go.RowKit
set_option linter.unusedVariables false

end Go.Proofs.Ytmkbjkmpincogaa
