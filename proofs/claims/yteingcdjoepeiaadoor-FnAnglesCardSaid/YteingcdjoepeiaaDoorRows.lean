/-
  NARROWER THAN 'FOR EVERY INPUT', by the rows' own cells (each row's printed sentence says how): FnAngles: ifaces, laid · FnExactInArc: ifaces, laid · FnExactWidenArc: ifaces, laid · FnExactArcsMeet: ifaces, laid · FnExactMiddleOf: ifaces, laid.
  DERIVED. THE GIVEN ROWS OF THIS SEAT. 5 by the template 'for every input the law returns true; each argument reads behind the call as it read before'; 0 by the template 'total and deterministic' (their statements: YteingcdjoepeiaaDoorTotals.lean).
  GIVEN WITH THE SEED: the statements are not yours to turn. If you find one false, say at which input.
  Laid BY PROGRAM, IN A SANDBOX (cutbox-rows.mjs): the forced cells as the released guide's own fill.sh prints them over the translation 28927b5e254c8f19… (all of the seat's roots in one cut). By AI agents, Wed Nov 11 2026. No macro, syntax, notation, axiom, sorry.
-/
import Derived.Test.YteingcdjoepeiaaDoorChecked
import GoSem.Claim
import GoSem.ClaimJoined
import GoSem.ClaimMapViews
import Derived.JoinedTies
import Derived.KernelRfl
namespace Go.Proofs.YteingcdjoepeiaaDoor
/- THE CELL 'sum', in the pinned program and in every row, IS THE sha256 OF THE DUMP (.gsa) THAT YteingcdjoepeiaaDoorProg.lean LOADS. Nothing in Lean hashes anything: it is a label: what it is worth is what the hold of that sum in a sandbox is worth. -/
noncomputable def Tryd.pinned : Pinned := { name := "yteingcdjoepeiaadoor", sum := "28927b5e254c8f19ad3741bdb2fbc0a819c0b8a5f836958c34deb7e18446a104", checked := Tryd.checked }
namespace Rows
def none {H : Type} : Left H := { results := [], args := [] }

/- WHAT THE LISTED PACKAGE-LEVEL VARIABLES READ AS WHEN THE CALL BEGINS. Each datum BY PROGRAM (the guide's laid-datum.mjs) off the statement by which the dump's own 'gosem.cut.vars' lays the variable. In a bare row this is a premise. The card (YteingcdjoepeiaaDoorCards.lean) ties it to the program's text. -/
def laid_loop_example_g00599_impl_errNoAngle {H : Type} : DataW H := .iface "*errors.errorString" (.ptr (.agg [.lit (.string [116, 104, 101, 32, 119, 105, 100, 116, 104, 32, 111, 102, 32, 116, 104, 101, 32, 97, 114, 99, 32, 105, 115, 32, 98, 101, 108, 111, 119, 32, 48])]))
def laid_loop_example_g00599_impl_errTooWide {H : Type} : DataW H := .iface "*errors.errorString" (.ptr (.agg [.lit (.string [116, 104, 101, 32, 119, 105, 100, 116, 104, 32, 111, 102, 32, 116, 104, 101, 32, 97, 114, 99, 32, 105, 115, 32, 109, 111, 114, 101, 32, 116, 104, 97, 110, 32, 111, 110, 101, 32, 114, 111, 117, 110, 100])]))

/-- 'laws.FnAngles': WHATEVER THE INPUT: true; the input reads as it did. -/
def fnAnglesSpec : ChangeSpec := { name := "fnAngles", vars := ["loop.example/g00599/impl.errNoAngle", "loop.example/g00599/impl.errTooWide"], fn := fun _ => fun
  | [d, g1, g2] => { results := [.lit (.bool true)], args := [d], vars := [g1, g2] }
  | _ => none }
def fnAnglesRow : OpenClaim := { program := "yteingcdjoepeiaadoor", sum := "28927b5e254c8f19ad3741bdb2fbc0a819c0b8a5f836958c34deb7e18446a104", func := "loop.example/g00599/laws.FnAngles", spec := "fnAngles", inPlace := ["internal/reflectlite.TypeOf"], unfollowed := true, recurses := true, named := ["loop.example/g00599/impl.errNoAngle", "loop.example/g00599/impl.errTooWide"], ifaces := true, apart := false, laid := [("loop.example/g00599/impl.errNoAngle", laid_loop_example_g00599_impl_errNoAngle), ("loop.example/g00599/impl.errTooWide", laid_loop_example_g00599_impl_errTooWide)] }
def FnAnglesSaid : Prop := fnAnglesRow.holds Tryd.pinned (OpenSpec.ofChange fnAnglesSpec)

/-- ITS FALSE NEIGHBOUR: 'it returns false'. Refute it at one input. -/
def fnAnglesWrong : ChangeSpec := { name := "fnAngles", vars := ["loop.example/g00599/impl.errNoAngle", "loop.example/g00599/impl.errTooWide"], fn := fun _ => fun
  | [d, g1, g2] => { results := [.lit (.bool false)], args := [d], vars := [g1, g2] }
  | _ => none }
def FnAnglesWrongFalsely : Prop := fnAnglesRow.holds Tryd.pinned (OpenSpec.ofChange fnAnglesWrong)

/-- 'laws.FnExactInArc': WHATEVER THE INPUT: true; the input reads as it did. -/
def fnExactInArcSpec : ChangeSpec := { name := "fnExactInArc", vars := ["loop.example/g00599/impl.errTooWide", "loop.example/g00599/impl.errNoAngle"], fn := fun _ => fun
  | [d1, d2, g1, g2] => { results := [.lit (.bool true)], args := [d1, d2], vars := [g1, g2] }
  | _ => none }
def fnExactInArcRow : OpenClaim := { program := "yteingcdjoepeiaadoor", sum := "28927b5e254c8f19ad3741bdb2fbc0a819c0b8a5f836958c34deb7e18446a104", func := "loop.example/g00599/laws.FnExactInArc", spec := "fnExactInArc", inPlace := ["internal/reflectlite.TypeOf"], unfollowed := true, recurses := true, named := ["loop.example/g00599/impl.errTooWide", "loop.example/g00599/impl.errNoAngle"], ifaces := true, apart := false, laid := [("loop.example/g00599/impl.errNoAngle", laid_loop_example_g00599_impl_errNoAngle), ("loop.example/g00599/impl.errTooWide", laid_loop_example_g00599_impl_errTooWide)] }
def FnExactInArcSaid : Prop := fnExactInArcRow.holds Tryd.pinned (OpenSpec.ofChange fnExactInArcSpec)

/-- ITS FALSE NEIGHBOUR: 'it returns false'. Refute it at one input. -/
def fnExactInArcWrong : ChangeSpec := { name := "fnExactInArc", vars := ["loop.example/g00599/impl.errTooWide", "loop.example/g00599/impl.errNoAngle"], fn := fun _ => fun
  | [d1, d2, g1, g2] => { results := [.lit (.bool false)], args := [d1, d2], vars := [g1, g2] }
  | _ => none }
def FnExactInArcWrongFalsely : Prop := fnExactInArcRow.holds Tryd.pinned (OpenSpec.ofChange fnExactInArcWrong)

/-- 'laws.FnExactWidenArc': WHATEVER THE INPUT: true; the input reads as it did. -/
def fnExactWidenArcSpec : ChangeSpec := { name := "fnExactWidenArc", vars := ["loop.example/g00599/impl.errNoAngle", "loop.example/g00599/impl.errTooWide"], fn := fun _ => fun
  | [d1, d2, g1, g2] => { results := [.lit (.bool true)], args := [d1, d2], vars := [g1, g2] }
  | _ => none }
def fnExactWidenArcRow : OpenClaim := { program := "yteingcdjoepeiaadoor", sum := "28927b5e254c8f19ad3741bdb2fbc0a819c0b8a5f836958c34deb7e18446a104", func := "loop.example/g00599/laws.FnExactWidenArc", spec := "fnExactWidenArc", named := ["loop.example/g00599/impl.errNoAngle", "loop.example/g00599/impl.errTooWide"], ifaces := true, apart := false, laid := [("loop.example/g00599/impl.errNoAngle", laid_loop_example_g00599_impl_errNoAngle), ("loop.example/g00599/impl.errTooWide", laid_loop_example_g00599_impl_errTooWide)] }
def FnExactWidenArcSaid : Prop := fnExactWidenArcRow.holds Tryd.pinned (OpenSpec.ofChange fnExactWidenArcSpec)

/-- ITS FALSE NEIGHBOUR: 'it returns false'. Refute it at one input. -/
def fnExactWidenArcWrong : ChangeSpec := { name := "fnExactWidenArc", vars := ["loop.example/g00599/impl.errNoAngle", "loop.example/g00599/impl.errTooWide"], fn := fun _ => fun
  | [d1, d2, g1, g2] => { results := [.lit (.bool false)], args := [d1, d2], vars := [g1, g2] }
  | _ => none }
def FnExactWidenArcWrongFalsely : Prop := fnExactWidenArcRow.holds Tryd.pinned (OpenSpec.ofChange fnExactWidenArcWrong)

/-- 'laws.FnExactArcsMeet': WHATEVER THE INPUT: true; the input reads as it did. -/
def fnExactArcsMeetSpec : ChangeSpec := { name := "fnExactArcsMeet", vars := ["loop.example/g00599/impl.errTooWide", "loop.example/g00599/impl.errNoAngle"], fn := fun _ => fun
  | [d1, d2, g1, g2] => { results := [.lit (.bool true)], args := [d1, d2], vars := [g1, g2] }
  | _ => none }
def fnExactArcsMeetRow : OpenClaim := { program := "yteingcdjoepeiaadoor", sum := "28927b5e254c8f19ad3741bdb2fbc0a819c0b8a5f836958c34deb7e18446a104", func := "loop.example/g00599/laws.FnExactArcsMeet", spec := "fnExactArcsMeet", inPlace := ["internal/reflectlite.TypeOf"], unfollowed := true, recurses := true, named := ["loop.example/g00599/impl.errTooWide", "loop.example/g00599/impl.errNoAngle"], ifaces := true, apart := false, laid := [("loop.example/g00599/impl.errNoAngle", laid_loop_example_g00599_impl_errNoAngle), ("loop.example/g00599/impl.errTooWide", laid_loop_example_g00599_impl_errTooWide)] }
def FnExactArcsMeetSaid : Prop := fnExactArcsMeetRow.holds Tryd.pinned (OpenSpec.ofChange fnExactArcsMeetSpec)

/-- ITS FALSE NEIGHBOUR: 'it returns false'. Refute it at one input. -/
def fnExactArcsMeetWrong : ChangeSpec := { name := "fnExactArcsMeet", vars := ["loop.example/g00599/impl.errTooWide", "loop.example/g00599/impl.errNoAngle"], fn := fun _ => fun
  | [d1, d2, g1, g2] => { results := [.lit (.bool false)], args := [d1, d2], vars := [g1, g2] }
  | _ => none }
def FnExactArcsMeetWrongFalsely : Prop := fnExactArcsMeetRow.holds Tryd.pinned (OpenSpec.ofChange fnExactArcsMeetWrong)

/-- 'laws.FnExactMiddleOf': WHATEVER THE INPUT: true; the input reads as it did. -/
def fnExactMiddleOfSpec : ChangeSpec := { name := "fnExactMiddleOf", vars := ["loop.example/g00599/impl.errNoAngle", "loop.example/g00599/impl.errTooWide"], fn := fun _ => fun
  | [d, g1, g2] => { results := [.lit (.bool true)], args := [d], vars := [g1, g2] }
  | _ => none }
def fnExactMiddleOfRow : OpenClaim := { program := "yteingcdjoepeiaadoor", sum := "28927b5e254c8f19ad3741bdb2fbc0a819c0b8a5f836958c34deb7e18446a104", func := "loop.example/g00599/laws.FnExactMiddleOf", spec := "fnExactMiddleOf", named := ["loop.example/g00599/impl.errNoAngle", "loop.example/g00599/impl.errTooWide"], ifaces := true, apart := false, laid := [("loop.example/g00599/impl.errNoAngle", laid_loop_example_g00599_impl_errNoAngle), ("loop.example/g00599/impl.errTooWide", laid_loop_example_g00599_impl_errTooWide)] }
def FnExactMiddleOfSaid : Prop := fnExactMiddleOfRow.holds Tryd.pinned (OpenSpec.ofChange fnExactMiddleOfSpec)

/-- ITS FALSE NEIGHBOUR: 'it returns false'. Refute it at one input. -/
def fnExactMiddleOfWrong : ChangeSpec := { name := "fnExactMiddleOf", vars := ["loop.example/g00599/impl.errNoAngle", "loop.example/g00599/impl.errTooWide"], fn := fun _ => fun
  | [d, g1, g2] => { results := [.lit (.bool false)], args := [d], vars := [g1, g2] }
  | _ => none }
def FnExactMiddleOfWrongFalsely : Prop := fnExactMiddleOfRow.holds Tryd.pinned (OpenSpec.ofChange fnExactMiddleOfWrong)

/- THE SECOND FORM. 'bulk': how many values and letters a reading holds, each counted each time it is reached (what is shared counts as often as it is met; a slice's spare places count too). A statement '..UptoSaid' is the law's where the arguments, and the package variables that the reading takes, are together of bulk at most 1048576: NARROWER than '..Said'. Prove '..Said' where nothing that the law and all that it calls make is longer than what came in: it says more and counts as full. Else prove '..UptoSaid'. A law counts once. -/
mutual
def uptoBulk {H : Type} : DataW H → Nat
  | .lit (.string bytes) => bytes.length + 1
  | .lit _ => 1
  | .nil => 1
  | .ptr d => uptoBulk d + 1
  | .slice elems spare => uptoBulkAll elems + uptoBulkAll spare + 1
  | .agg parts => uptoBulkAll parts + 1
  | .iface _ d => uptoBulk d + 1
  | .map entries => uptoBulkEntries entries + 1
  | .held _ => 1
def uptoBulkAll {H : Type} : List (DataW H) → Nat
  | [] => 0
  | d :: r => uptoBulk d + uptoBulkAll r
def uptoBulkEntries {H : Type} : List (Lit × DataW H) → Nat
  | [] => 0
  | x :: r => uptoBulkEntry x + uptoBulkEntries r
def uptoBulkEntry {H : Type} : Lit × DataW H → Nat
  | (.string bytes, d) => bytes.length + uptoBulk d + 1
  | (_, d) => uptoBulk d + 1
 end
def uptoSmall : (H : Type) → List (DataW H) → Bool := fun _ ds => decide (uptoBulkAll ds ≤ 1048576)
def OpenSpec.upto (s : _root_.Go.ChangeSpec) : _root_.Go.OpenSpec := { _root_.Go.OpenSpec.ofChange s with cond := some uptoSmall }

/-- 'laws.FnAngles', WHERE WHAT IT READS IS OF BULK AT MOST 1048576: true; the input reads as it did. -/
def fnAnglesUptoRow : OpenClaim := { program := "yteingcdjoepeiaadoor", sum := "28927b5e254c8f19ad3741bdb2fbc0a819c0b8a5f836958c34deb7e18446a104", func := "loop.example/g00599/laws.FnAngles", spec := "fnAngles", inPlace := ["internal/reflectlite.TypeOf"], unfollowed := true, recurses := true, named := ["loop.example/g00599/impl.errNoAngle", "loop.example/g00599/impl.errTooWide"], ifaces := true, apart := false, laid := [("loop.example/g00599/impl.errNoAngle", laid_loop_example_g00599_impl_errNoAngle), ("loop.example/g00599/impl.errTooWide", laid_loop_example_g00599_impl_errTooWide)], narrowed := true }
def FnAnglesUptoSaid : Prop := fnAnglesUptoRow.holds Tryd.pinned (OpenSpec.upto fnAnglesSpec)

/-- 'laws.FnExactInArc', WHERE WHAT IT READS IS OF BULK AT MOST 1048576: true; the input reads as it did. -/
def fnExactInArcUptoRow : OpenClaim := { program := "yteingcdjoepeiaadoor", sum := "28927b5e254c8f19ad3741bdb2fbc0a819c0b8a5f836958c34deb7e18446a104", func := "loop.example/g00599/laws.FnExactInArc", spec := "fnExactInArc", inPlace := ["internal/reflectlite.TypeOf"], unfollowed := true, recurses := true, named := ["loop.example/g00599/impl.errTooWide", "loop.example/g00599/impl.errNoAngle"], ifaces := true, apart := false, laid := [("loop.example/g00599/impl.errNoAngle", laid_loop_example_g00599_impl_errNoAngle), ("loop.example/g00599/impl.errTooWide", laid_loop_example_g00599_impl_errTooWide)], narrowed := true }
def FnExactInArcUptoSaid : Prop := fnExactInArcUptoRow.holds Tryd.pinned (OpenSpec.upto fnExactInArcSpec)

/-- 'laws.FnExactWidenArc', WHERE WHAT IT READS IS OF BULK AT MOST 1048576: true; the input reads as it did. -/
def fnExactWidenArcUptoRow : OpenClaim := { program := "yteingcdjoepeiaadoor", sum := "28927b5e254c8f19ad3741bdb2fbc0a819c0b8a5f836958c34deb7e18446a104", func := "loop.example/g00599/laws.FnExactWidenArc", spec := "fnExactWidenArc", named := ["loop.example/g00599/impl.errNoAngle", "loop.example/g00599/impl.errTooWide"], ifaces := true, apart := false, laid := [("loop.example/g00599/impl.errNoAngle", laid_loop_example_g00599_impl_errNoAngle), ("loop.example/g00599/impl.errTooWide", laid_loop_example_g00599_impl_errTooWide)], narrowed := true }
def FnExactWidenArcUptoSaid : Prop := fnExactWidenArcUptoRow.holds Tryd.pinned (OpenSpec.upto fnExactWidenArcSpec)

/-- 'laws.FnExactArcsMeet', WHERE WHAT IT READS IS OF BULK AT MOST 1048576: true; the input reads as it did. -/
def fnExactArcsMeetUptoRow : OpenClaim := { program := "yteingcdjoepeiaadoor", sum := "28927b5e254c8f19ad3741bdb2fbc0a819c0b8a5f836958c34deb7e18446a104", func := "loop.example/g00599/laws.FnExactArcsMeet", spec := "fnExactArcsMeet", inPlace := ["internal/reflectlite.TypeOf"], unfollowed := true, recurses := true, named := ["loop.example/g00599/impl.errTooWide", "loop.example/g00599/impl.errNoAngle"], ifaces := true, apart := false, laid := [("loop.example/g00599/impl.errNoAngle", laid_loop_example_g00599_impl_errNoAngle), ("loop.example/g00599/impl.errTooWide", laid_loop_example_g00599_impl_errTooWide)], narrowed := true }
def FnExactArcsMeetUptoSaid : Prop := fnExactArcsMeetUptoRow.holds Tryd.pinned (OpenSpec.upto fnExactArcsMeetSpec)

/-- 'laws.FnExactMiddleOf', WHERE WHAT IT READS IS OF BULK AT MOST 1048576: true; the input reads as it did. -/
def fnExactMiddleOfUptoRow : OpenClaim := { program := "yteingcdjoepeiaadoor", sum := "28927b5e254c8f19ad3741bdb2fbc0a819c0b8a5f836958c34deb7e18446a104", func := "loop.example/g00599/laws.FnExactMiddleOf", spec := "fnExactMiddleOf", named := ["loop.example/g00599/impl.errNoAngle", "loop.example/g00599/impl.errTooWide"], ifaces := true, apart := false, laid := [("loop.example/g00599/impl.errNoAngle", laid_loop_example_g00599_impl_errNoAngle), ("loop.example/g00599/impl.errTooWide", laid_loop_example_g00599_impl_errTooWide)], narrowed := true }
def FnExactMiddleOfUptoSaid : Prop := fnExactMiddleOfUptoRow.holds Tryd.pinned (OpenSpec.upto fnExactMiddleOfSpec)

end Rows
end Go.Proofs.YteingcdjoepeiaaDoor
