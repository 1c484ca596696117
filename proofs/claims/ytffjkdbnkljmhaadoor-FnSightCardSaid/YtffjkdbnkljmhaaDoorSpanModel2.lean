/- The contracts of the model's MeetSpans and CutSpans. -/
import Derived.Test.YtffjkdbnkljmhaaDoorSpanModel
import Derived.IntWalk
namespace Go.Proofs.YtffjkdbnkljmhaaDoor
open Go.ChangeShapes Go.WideShapes Go.ChangeAt Go.RowKit
set_option linter.unusedVariables false
end Go.Proofs.YtffjkdbnkljmhaaDoor
