/-
  Contracts of the law's own helpers over lists of lists: found as marked.
-/
import Derived.Test.YthfmgclndokknaaR1
namespace Go.Proofs.Ythfmgclndokknaa
open Go.RowKit
set_option linter.unusedVariables false

end Go.Proofs.Ythfmgclndokknaa
