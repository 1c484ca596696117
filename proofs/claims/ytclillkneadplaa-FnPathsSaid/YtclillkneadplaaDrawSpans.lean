/- The contracts of chapter 4's draws: lists of spans. -/
import Derived.Test.YtclillkneadplaaDrawInts
import Derived.Test.YtclillkneadplaaDrawOwn
import Derived.Test.YtclillkneadplaaSpanPut
namespace Go.Proofs.Ytclillkneadplaa
open Go.ChangeShapes Go.WideShapes Go.ChangeAt Go.RowKit
set_option linter.unusedVariables false
end Go.Proofs.Ytclillkneadplaa
