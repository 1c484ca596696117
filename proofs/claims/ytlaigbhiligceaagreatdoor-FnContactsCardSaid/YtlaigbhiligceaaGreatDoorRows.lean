/-
  NARROWER THAN 'FOR EVERY INPUT', by the rows' own cells (each row's printed sentence says how): FnContacts: ifaces, laid · FnExactContactsOf: ifaces, laid · FnExactPlanOf: ifaces, laid.
  DERIVED. THE GIVEN ROWS OF THIS SEAT. 3 by the template 'for every input the law returns true; each argument reads behind the call as it read before'; 0 by the template 'total and deterministic' (their statements: YtlaigbhiligceaaGreatDoorTotals.lean).
  GIVEN WITH THE SEED: the statements are not yours to turn. If you find one false, say at which input.
  Laid BY PROGRAM, IN A SANDBOX (cutbox-rows.mjs): the forced cells as the released guide's own fill.sh prints them over the translation 68c21358a1982d7f… (all of the seat's roots in one cut). By AI agents, Wed Nov 11 2026. No macro, syntax, notation, axiom, sorry.
-/
import Derived.Test.YtlaigbhiligceaaGreatDoorChecked
import GoSem.Claim
import GoSem.ClaimJoined
import GoSem.ClaimMapViews
import Derived.JoinedTies
import Derived.KernelRfl
namespace Go.Proofs.YtlaigbhiligceaaGreatDoor
/- THE CELL 'sum', in the pinned program and in every row, IS THE sha256 OF THE DUMP (.gsa) THAT YtlaigbhiligceaaGreatDoorProg.lean LOADS. Nothing in Lean hashes anything: it is a label: what it is worth is what the hold of that sum in a sandbox is worth. -/
noncomputable def Tryz.pinned : Pinned := { name := "ytlaigbhiligceaagreatdoor", sum := "68c21358a1982d7f32ff9575dc2255e0bf3b2967c7f4cd31c4c58052b2fa3abf", checked := Tryz.checked }
namespace Rows
def none {H : Type} : Left H := { results := [], args := [] }

/- WHAT THE LISTED PACKAGE-LEVEL VARIABLES READ AS WHEN THE CALL BEGINS. Each datum BY PROGRAM (the guide's laid-datum.mjs) off the statement by which the dump's own 'gosem.cut.vars' lays the variable. In a bare row this is a premise. The card (YtlaigbhiligceaaGreatDoorCards.lean) ties it to the program's text. -/
def laid_errors_errorType {H : Type} : DataW H := .iface "internal/reflectlite.rtype" (.agg [.ptr (.lit (.string [101, 114, 114, 111, 114]))])
def laid_loop_example_g00599_impl_errNoAngle {H : Type} : DataW H := .iface "*errors.errorString" (.ptr (.agg [.lit (.string [116, 104, 101, 32, 119, 105, 100, 116, 104, 32, 111, 102, 32, 116, 104, 101, 32, 97, 114, 99, 32, 105, 115, 32, 98, 101, 108, 111, 119, 32, 48])]))
def laid_loop_example_g00599_impl_errTooWide {H : Type} : DataW H := .iface "*errors.errorString" (.ptr (.agg [.lit (.string [116, 104, 101, 32, 119, 105, 100, 116, 104, 32, 111, 102, 32, 116, 104, 101, 32, 97, 114, 99, 32, 105, 115, 32, 109, 111, 114, 101, 32, 116, 104, 97, 110, 32, 111, 110, 101, 32, 114, 111, 117, 110, 100])]))

/-- 'laws.FnContacts': WHATEVER THE INPUT: true; the input reads as it did. -/
def fnContactsSpec : ChangeSpec := { name := "fnContacts", vars := ["loop.example/g00599/impl.errNoAngle", "loop.example/g00599/impl.errTooWide"], fn := fun _ => fun
  | [d, g1, g2] => { results := [.lit (.bool true)], args := [d], vars := [g1, g2] }
  | _ => none }
def fnContactsRow : OpenClaim := { program := "ytlaigbhiligceaagreatdoor", sum := "68c21358a1982d7f32ff9575dc2255e0bf3b2967c7f4cd31c4c58052b2fa3abf", func := "loop.example/g00599/laws.FnContacts", spec := "fnContacts", inPlace := ["internal/reflectlite.TypeOf", "internal/reflectlite.ValueOf", "(internal/reflectlite.Value).Type", "(internal/reflectlite.Value).IsNil", "(internal/reflectlite.Value).Elem", "(internal/reflectlite.Value).Set"], unfollowed := true, recurses := true, named := ["loop.example/g00599/impl.errNoAngle", "loop.example/g00599/impl.errTooWide", "errors.errorType"], ifaces := true, apart := false, laid := [("errors.errorType", laid_errors_errorType), ("loop.example/g00599/impl.errNoAngle", laid_loop_example_g00599_impl_errNoAngle), ("loop.example/g00599/impl.errTooWide", laid_loop_example_g00599_impl_errTooWide)] }
def FnContactsSaid : Prop := fnContactsRow.holds Tryz.pinned (OpenSpec.ofChange fnContactsSpec)

/-- ITS FALSE NEIGHBOUR: 'it returns false'. Refute it at one input. -/
def fnContactsWrong : ChangeSpec := { name := "fnContacts", vars := ["loop.example/g00599/impl.errNoAngle", "loop.example/g00599/impl.errTooWide"], fn := fun _ => fun
  | [d, g1, g2] => { results := [.lit (.bool false)], args := [d], vars := [g1, g2] }
  | _ => none }
def FnContactsWrongFalsely : Prop := fnContactsRow.holds Tryz.pinned (OpenSpec.ofChange fnContactsWrong)

/-- 'laws.FnExactContactsOf': WHATEVER THE INPUT: true; the input reads as it did. -/
def fnExactContactsOfSpec : ChangeSpec := { name := "fnExactContactsOf", vars := ["loop.example/g00599/impl.errNoAngle", "loop.example/g00599/impl.errTooWide"], fn := fun _ => fun
  | [d1, d2, d3, d4, d5, g1, g2] => { results := [.lit (.bool true)], args := [d1, d2, d3, d4, d5], vars := [g1, g2] }
  | _ => none }
def fnExactContactsOfRow : OpenClaim := { program := "ytlaigbhiligceaagreatdoor", sum := "68c21358a1982d7f32ff9575dc2255e0bf3b2967c7f4cd31c4c58052b2fa3abf", func := "loop.example/g00599/laws.FnExactContactsOf", spec := "fnExactContactsOf", inPlace := ["internal/reflectlite.TypeOf"], unfollowed := true, recurses := true, named := ["loop.example/g00599/impl.errNoAngle", "loop.example/g00599/impl.errTooWide"], ifaces := true, apart := false, laid := [("loop.example/g00599/impl.errNoAngle", laid_loop_example_g00599_impl_errNoAngle), ("loop.example/g00599/impl.errTooWide", laid_loop_example_g00599_impl_errTooWide)] }
def FnExactContactsOfSaid : Prop := fnExactContactsOfRow.holds Tryz.pinned (OpenSpec.ofChange fnExactContactsOfSpec)

/-- ITS FALSE NEIGHBOUR: 'it returns false'. Refute it at one input. -/
def fnExactContactsOfWrong : ChangeSpec := { name := "fnExactContactsOf", vars := ["loop.example/g00599/impl.errNoAngle", "loop.example/g00599/impl.errTooWide"], fn := fun _ => fun
  | [d1, d2, d3, d4, d5, g1, g2] => { results := [.lit (.bool false)], args := [d1, d2, d3, d4, d5], vars := [g1, g2] }
  | _ => none }
def FnExactContactsOfWrongFalsely : Prop := fnExactContactsOfRow.holds Tryz.pinned (OpenSpec.ofChange fnExactContactsOfWrong)

/-- 'laws.FnExactPlanOf': WHATEVER THE INPUT: true; the input reads as it did. -/
def fnExactPlanOfSpec : ChangeSpec := { name := "fnExactPlanOf", vars := ["loop.example/g00599/impl.errNoAngle", "loop.example/g00599/impl.errTooWide"], fn := fun _ => fun
  | [d1, d2, d3, g1, g2] => { results := [.lit (.bool true)], args := [d1, d2, d3], vars := [g1, g2] }
  | _ => none }
def fnExactPlanOfRow : OpenClaim := { program := "ytlaigbhiligceaagreatdoor", sum := "68c21358a1982d7f32ff9575dc2255e0bf3b2967c7f4cd31c4c58052b2fa3abf", func := "loop.example/g00599/laws.FnExactPlanOf", spec := "fnExactPlanOf", inPlace := ["internal/reflectlite.TypeOf", "internal/reflectlite.ValueOf", "(internal/reflectlite.Value).Type", "(internal/reflectlite.Value).IsNil", "(internal/reflectlite.Value).Elem", "(internal/reflectlite.Value).Set"], unfollowed := true, recurses := true, named := ["loop.example/g00599/impl.errNoAngle", "loop.example/g00599/impl.errTooWide", "errors.errorType"], ifaces := true, apart := false, laid := [("errors.errorType", laid_errors_errorType), ("loop.example/g00599/impl.errNoAngle", laid_loop_example_g00599_impl_errNoAngle), ("loop.example/g00599/impl.errTooWide", laid_loop_example_g00599_impl_errTooWide)] }
def FnExactPlanOfSaid : Prop := fnExactPlanOfRow.holds Tryz.pinned (OpenSpec.ofChange fnExactPlanOfSpec)

/-- ITS FALSE NEIGHBOUR: 'it returns false'. Refute it at one input. -/
def fnExactPlanOfWrong : ChangeSpec := { name := "fnExactPlanOf", vars := ["loop.example/g00599/impl.errNoAngle", "loop.example/g00599/impl.errTooWide"], fn := fun _ => fun
  | [d1, d2, d3, g1, g2] => { results := [.lit (.bool false)], args := [d1, d2, d3], vars := [g1, g2] }
  | _ => none }
def FnExactPlanOfWrongFalsely : Prop := fnExactPlanOfRow.holds Tryz.pinned (OpenSpec.ofChange fnExactPlanOfWrong)

/- THE SECOND FORM. 'bulk': how many values and letters a reading holds, each counted each time it is reached (what is shared counts as often as it is met; a slice's spare places count too). A statement '..UptoSaid' is the law's where the arguments, and the package variables that the reading takes, are together of bulk at most 1048576: NARROWER than '..Said'. Prove '..Said' where nothing that the law and all that it calls make is longer than what came in: it says more and counts as full. Else prove '..UptoSaid'. A law counts once. -/
mutual
def uptoBulk {H : Type} : DataW H → Nat
  | .lit (.string bytes) => bytes.length + 1
  | .lit _ => 1
  | .nil => 1
  | .ptr d => uptoBulk d + 1
  | .slice elems spare => uptoBulkAll elems + uptoBulkAll spare + 1
  | .agg parts => uptoBulkAll parts + 1
  | .iface _ d => uptoBulk d + 1
  | .map entries => uptoBulkEntries entries + 1
  | .held _ => 1
def uptoBulkAll {H : Type} : List (DataW H) → Nat
  | [] => 0
  | d :: r => uptoBulk d + uptoBulkAll r
def uptoBulkEntries {H : Type} : List (Lit × DataW H) → Nat
  | [] => 0
  | x :: r => uptoBulkEntry x + uptoBulkEntries r
def uptoBulkEntry {H : Type} : Lit × DataW H → Nat
  | (.string bytes, d) => bytes.length + uptoBulk d + 1
  | (_, d) => uptoBulk d + 1
 end
def uptoSmall : (H : Type) → List (DataW H) → Bool := fun _ ds => decide (uptoBulkAll ds ≤ 1048576)
def OpenSpec.upto (s : _root_.Go.ChangeSpec) : _root_.Go.OpenSpec := { _root_.Go.OpenSpec.ofChange s with cond := some uptoSmall }

/-- 'laws.FnContacts', WHERE WHAT IT READS IS OF BULK AT MOST 1048576: true; the input reads as it did. -/
def fnContactsUptoRow : OpenClaim := { program := "ytlaigbhiligceaagreatdoor", sum := "68c21358a1982d7f32ff9575dc2255e0bf3b2967c7f4cd31c4c58052b2fa3abf", func := "loop.example/g00599/laws.FnContacts", spec := "fnContacts", inPlace := ["internal/reflectlite.TypeOf", "internal/reflectlite.ValueOf", "(internal/reflectlite.Value).Type", "(internal/reflectlite.Value).IsNil", "(internal/reflectlite.Value).Elem", "(internal/reflectlite.Value).Set"], unfollowed := true, recurses := true, named := ["loop.example/g00599/impl.errNoAngle", "loop.example/g00599/impl.errTooWide", "errors.errorType"], ifaces := true, apart := false, laid := [("errors.errorType", laid_errors_errorType), ("loop.example/g00599/impl.errNoAngle", laid_loop_example_g00599_impl_errNoAngle), ("loop.example/g00599/impl.errTooWide", laid_loop_example_g00599_impl_errTooWide)], narrowed := true }
def FnContactsUptoSaid : Prop := fnContactsUptoRow.holds Tryz.pinned (OpenSpec.upto fnContactsSpec)

/-- 'laws.FnExactContactsOf', WHERE WHAT IT READS IS OF BULK AT MOST 1048576: true; the input reads as it did. -/
def fnExactContactsOfUptoRow : OpenClaim := { program := "ytlaigbhiligceaagreatdoor", sum := "68c21358a1982d7f32ff9575dc2255e0bf3b2967c7f4cd31c4c58052b2fa3abf", func := "loop.example/g00599/laws.FnExactContactsOf", spec := "fnExactContactsOf", inPlace := ["internal/reflectlite.TypeOf"], unfollowed := true, recurses := true, named := ["loop.example/g00599/impl.errNoAngle", "loop.example/g00599/impl.errTooWide"], ifaces := true, apart := false, laid := [("loop.example/g00599/impl.errNoAngle", laid_loop_example_g00599_impl_errNoAngle), ("loop.example/g00599/impl.errTooWide", laid_loop_example_g00599_impl_errTooWide)], narrowed := true }
def FnExactContactsOfUptoSaid : Prop := fnExactContactsOfUptoRow.holds Tryz.pinned (OpenSpec.upto fnExactContactsOfSpec)

/-- 'laws.FnExactPlanOf', WHERE WHAT IT READS IS OF BULK AT MOST 1048576: true; the input reads as it did. -/
def fnExactPlanOfUptoRow : OpenClaim := { program := "ytlaigbhiligceaagreatdoor", sum := "68c21358a1982d7f32ff9575dc2255e0bf3b2967c7f4cd31c4c58052b2fa3abf", func := "loop.example/g00599/laws.FnExactPlanOf", spec := "fnExactPlanOf", inPlace := ["internal/reflectlite.TypeOf", "internal/reflectlite.ValueOf", "(internal/reflectlite.Value).Type", "(internal/reflectlite.Value).IsNil", "(internal/reflectlite.Value).Elem", "(internal/reflectlite.Value).Set"], unfollowed := true, recurses := true, named := ["loop.example/g00599/impl.errNoAngle", "loop.example/g00599/impl.errTooWide", "errors.errorType"], ifaces := true, apart := false, laid := [("errors.errorType", laid_errors_errorType), ("loop.example/g00599/impl.errNoAngle", laid_loop_example_g00599_impl_errNoAngle), ("loop.example/g00599/impl.errTooWide", laid_loop_example_g00599_impl_errTooWide)], narrowed := true }
def FnExactPlanOfUptoSaid : Prop := fnExactPlanOfUptoRow.holds Tryz.pinned (OpenSpec.upto fnExactPlanOfSpec)

end Rows
end Go.Proofs.YtlaigbhiligceaaGreatDoor
