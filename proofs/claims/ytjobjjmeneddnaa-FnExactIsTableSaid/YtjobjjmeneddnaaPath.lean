/- The program's chapter 14: DistancesTo, NextTo, PathTo, HasLoop (by import) and CountReaching. -/
import Derived.Test.YtjobjjmeneddnaaNextP
import Derived.Test.YtjobjjmeneddnaaPathP
import Derived.Test.YtjobjjmeneddnaaLoopP
namespace Go.Proofs.Ytjobjjmeneddnaa
open Go.ChangeShapes Go.WideShapes Go.ChangeAt Go.RowKit
set_option linter.unusedVariables false
end Go.Proofs.Ytjobjjmeneddnaa
