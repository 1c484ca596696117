/- Chapter 11's draws of contacts: l11Plan, l11Any, DrawCanSpeak. -/
import Derived.Test.YtjobjjmeneddnaaDrawSpans
import Derived.Test.YtjobjjmeneddnaaDrawSats
import Derived.Test.YtjobjjmeneddnaaApart
import Derived.Test.YtjobjjmeneddnaaSky
import Derived.Test.YtjobjjmeneddnaaInts
namespace Go.Proofs.Ytjobjjmeneddnaa
open Go.ChangeShapes Go.WideShapes Go.ChangeAt Go.RowKit
set_option linter.unusedVariables false
end Go.Proofs.Ytjobjjmeneddnaa
