/-
  Contracts of the law's own helpers over lists of edges: lists copied, measured, compared and marked. A list of n edges is told by its 3 n numbers, one behind the other.
-/
import Derived.Test.YtlgbhemjckahhaaC6
import Derived.Test.YtlgbhemjckahhaaM1
import Derived.Test.YtlgbhemjckahhaaZA
import Derived.Test.YtlgbhemjckahhaaGrow
namespace Go.Proofs.Ytlgbhemjckahhaa
open Go.RowKit
set_option linter.unusedVariables false

end Go.Proofs.Ytlgbhemjckahhaa
