/-
  Contracts of the law's own helpers over lists of edges: lists copied, measured, compared and marked. A list of n edges is told by its 3 n numbers, one behind the other.
-/
import Derived.Test.YtfpjodoimfbadaaC6
import Derived.Test.YtfpjodoimfbadaaM1
import Derived.Test.YtfpjodoimfbadaaZA
import Derived.Test.YtfpjodoimfbadaaGrow
namespace Go.Proofs.Ytfpjodoimfbadaa
open Go.RowKit
set_option linter.unusedVariables false

end Go.Proofs.Ytfpjodoimfbadaa
