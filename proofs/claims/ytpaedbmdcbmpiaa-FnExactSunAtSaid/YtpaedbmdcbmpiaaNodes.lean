/- The nodes of a sky: NodesOf, IsSite, PlaneOf of both sides; the program's nodeIn and kindOf. IsSite and PlaneOf of both sides. -/
import Derived.Test.YtpaedbmdcbmpiaaChecked
import Derived.Test.YtpaedbmdcbmpiaaSky
import Derived.Test.YtpaedbmdcbmpiaaInts
import Derived.Handy
import Derived.Deep.RegionHeld3
import Derived.Deep.QuietTactic
import Derived.BigQuiet
namespace Go.Proofs.Ytpaedbmdcbmpiaa
open Go.ChangeShapes Go.WideShapes Go.ChangeAt Go.RowKit
set_option linter.unusedVariables false
/-- a call that answers a number, a Bool, a value, and makes memory of its own at most -/
def Num (w : World) (z : Int) (e : Ending) (w' : World) : Prop := e = .returned (.int .i64 z) ∧ Below w.heap.size w w'
def Tells (w : World) (b : Bool) (e : Ending) (w' : World) : Prop := e = .returned (.bool b) ∧ Below w.heap.size w w'
def Vals (w : World) (v : Value) (e : Ending) (w' : World) : Prop := e = .returned v ∧ Below w.heap.size w w'
/-- the plane of a node; whether it is a site -/
def planeOf (ls : List Sat4) (li : List Tri) (node : Int) : Int := if node < 0 then -1 else if node < ls.length then (ls.getD node.toNat default).p else if node < ls.length + li.length then (li.getD (node.toNat - ls.length) default).p else -1
def siteAt (ns ni : Nat) (node : Int) : Bool := decide ((ns : Int) ≤ node ∧ node < ns + ni)
end Go.Proofs.Ytpaedbmdcbmpiaa
namespace Go.Proofs.Ytpaedbmdcbmpiaa
open Go.ChangeShapes Go.WideShapes Go.ChangeAt Go.RowKit
set_option linter.unusedVariables false
/-- b says p (kept whole by the walk) -/
def SaysOf (b : Bool) (p : Prop) : Prop := b = true ↔ p
theorem SaysOf.t {p : Prop} (h : SaysOf true p) : p := h.1 rfl
theorem SaysOf.f {p : Prop} (h : SaysOf false p) : ¬ p := fun hp => by cases h.2 hp
end Go.Proofs.Ytpaedbmdcbmpiaa
