/- The contract of chapter 7's draw DrawLimitOf. -/
import Derived.Test.YtpaedbmdcbmpiaaDoorDrawAny2
namespace Go.Proofs.YtpaedbmdcbmpiaaDoor
open Go.ChangeShapes Go.WideShapes Go.ChangeAt Go.RowKit
set_option linter.unusedVariables false
end Go.Proofs.YtpaedbmdcbmpiaaDoor
