/- Chapter 11's draws of contacts: l11Plan, l11Any, DrawCanSpeak. -/
import Derived.Test.YtclillkneadplaaDrawSpans
import Derived.Test.YtclillkneadplaaDrawSats
import Derived.Test.YtclillkneadplaaApart
import Derived.Test.YtclillkneadplaaSky
import Derived.Test.YtclillkneadplaaInts
namespace Go.Proofs.Ytclillkneadplaa
open Go.ChangeShapes Go.WideShapes Go.ChangeAt Go.RowKit
set_option linter.unusedVariables false
end Go.Proofs.Ytclillkneadplaa
