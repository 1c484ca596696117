/- The program's sentinels: what errors.Is says of them, and what the row's list of variables gives. -/
import Derived.Test.YtffjkdbnkljmhaaDoorChecked
import Derived.WalkKit
import Derived.ProofKit
import Derived.Handy
import Derived.LaidEql
import Derived.Stop.Asserts
import Derived.Stop.LaidTwo
import Derived.RowKitTokens
import Derived.Lib.Hide
namespace Go.Proofs.YtffjkdbnkljmhaaDoor
open Go.RowKit Go.Extern.Stop Go.Stop Go.Extern
end Go.Proofs.YtffjkdbnkljmhaaDoor
