/- The contracts of chapter 4's draws: lists of spans. -/
import Derived.Test.YtjobjjmeneddnaaDrawInts
import Derived.Test.YtjobjjmeneddnaaDrawOwn
import Derived.Test.YtjobjjmeneddnaaSpanPut
namespace Go.Proofs.Ytjobjjmeneddnaa
open Go.ChangeShapes Go.WideShapes Go.ChangeAt Go.RowKit
set_option linter.unusedVariables false
end Go.Proofs.Ytjobjjmeneddnaa
