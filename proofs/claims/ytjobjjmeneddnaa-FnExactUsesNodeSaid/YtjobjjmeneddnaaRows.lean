/-
  No cell of these rows narrows 'for every input' (looked for: loops, veiled, ifaces, maps, wideKeys, modest, calm, conditions, laid).
  DERIVED. THE GIVEN ROWS OF THIS SEAT. 7 by the template 'for every input the law returns true; each argument reads behind the call as it read before'; 0 by the template 'total and deterministic' (their statements: YtjobjjmeneddnaaTotals.lean).
  GIVEN WITH THE SEED: the statements are not yours to turn. If you find one false, say at which input.
  Laid BY PROGRAM, IN A SANDBOX (cutbox-rows.mjs): the forced cells as the released guide's own fill.sh prints them over the translation 6d79a6a8a8aff46a… (all of the seat's roots in one cut). By AI agents, Wed Nov 11 2026. No macro, syntax, notation, axiom, sorry.
-/
import Derived.Test.YtjobjjmeneddnaaChecked
import GoSem.Claim
import GoSem.ClaimJoined
import GoSem.ClaimMapViews
import Derived.JoinedTies
import Derived.KernelRfl
namespace Go.Proofs.Ytjobjjmeneddnaa
/- THE CELL 'sum', in the pinned program and in every row, IS THE sha256 OF THE DUMP (.gsa) THAT YtjobjjmeneddnaaProg.lean LOADS. Nothing in Lean hashes anything: it is a label: what it is worth is what the hold of that sum in a sandbox is worth. -/
noncomputable def Try.pinned : Pinned := { name := "ytjobjjmeneddnaa", sum := "6d79a6a8a8aff46ad2319b7d98c63e68a9b470b0cf83d8e7a6e444c7ce249e9b", checked := Try.checked }
namespace Rows
def none {H : Type} : Left H := { results := [], args := [] }

/-- 'laws.FnTables': WHATEVER THE INPUT: true; the input reads as it did. -/
def fnTablesSpec : ChangeSpec := { name := "fnTables", fn := fun _ => fun
  | [d] => { results := [.lit (.bool true)], args := [d] }
  | _ => none }
def fnTablesRow : OpenClaim := { program := "ytjobjjmeneddnaa", sum := "6d79a6a8a8aff46ad2319b7d98c63e68a9b470b0cf83d8e7a6e444c7ce249e9b", func := "loop.example/g00599/laws.FnTables", spec := "fnTables", unfollowed := true, recurses := true, apart := false }
def FnTablesSaid : Prop := fnTablesRow.holds Try.pinned (OpenSpec.ofChange fnTablesSpec)

/-- ITS FALSE NEIGHBOUR: 'it returns false'. Refute it at one input. -/
def fnTablesWrong : ChangeSpec := { name := "fnTables", fn := fun _ => fun
  | [d] => { results := [.lit (.bool false)], args := [d] }
  | _ => none }
def FnTablesWrongFalsely : Prop := fnTablesRow.holds Try.pinned (OpenSpec.ofChange fnTablesWrong)

/-- 'laws.FnExactTableOf': WHATEVER THE INPUT: true; the input reads as it did. -/
def fnExactTableOfSpec : ChangeSpec := { name := "fnExactTableOf", fn := fun _ => fun
  | [d1, d2, d3, d4] => { results := [.lit (.bool true)], args := [d1, d2, d3, d4] }
  | _ => none }
def fnExactTableOfRow : OpenClaim := { program := "ytjobjjmeneddnaa", sum := "6d79a6a8a8aff46ad2319b7d98c63e68a9b470b0cf83d8e7a6e444c7ce249e9b", func := "loop.example/g00599/laws.FnExactTableOf", spec := "fnExactTableOf", unfollowed := true, recurses := true, apart := false }
def FnExactTableOfSaid : Prop := fnExactTableOfRow.holds Try.pinned (OpenSpec.ofChange fnExactTableOfSpec)

/-- ITS FALSE NEIGHBOUR: 'it returns false'. Refute it at one input. -/
def fnExactTableOfWrong : ChangeSpec := { name := "fnExactTableOf", fn := fun _ => fun
  | [d1, d2, d3, d4] => { results := [.lit (.bool false)], args := [d1, d2, d3, d4] }
  | _ => none }
def FnExactTableOfWrongFalsely : Prop := fnExactTableOfRow.holds Try.pinned (OpenSpec.ofChange fnExactTableOfWrong)

/-- 'laws.FnExactIsTable': WHATEVER THE INPUT: true; the input reads as it did. -/
def fnExactIsTableSpec : ChangeSpec := { name := "fnExactIsTable", fn := fun _ => fun
  | [d1, d2, d3] => { results := [.lit (.bool true)], args := [d1, d2, d3] }
  | _ => none }
def fnExactIsTableRow : OpenClaim := { program := "ytjobjjmeneddnaa", sum := "6d79a6a8a8aff46ad2319b7d98c63e68a9b470b0cf83d8e7a6e444c7ce249e9b", func := "loop.example/g00599/laws.FnExactIsTable", spec := "fnExactIsTable", apart := false }
def FnExactIsTableSaid : Prop := fnExactIsTableRow.holds Try.pinned (OpenSpec.ofChange fnExactIsTableSpec)

/-- ITS FALSE NEIGHBOUR: 'it returns false'. Refute it at one input. -/
def fnExactIsTableWrong : ChangeSpec := { name := "fnExactIsTable", fn := fun _ => fun
  | [d1, d2, d3] => { results := [.lit (.bool false)], args := [d1, d2, d3] }
  | _ => none }
def FnExactIsTableWrongFalsely : Prop := fnExactIsTableRow.holds Try.pinned (OpenSpec.ofChange fnExactIsTableWrong)

/-- 'laws.FnExactIsDownhill': WHATEVER THE INPUT: true; the input reads as it did. -/
def fnExactIsDownhillSpec : ChangeSpec := { name := "fnExactIsDownhill", fn := fun _ => fun
  | [d] => { results := [.lit (.bool true)], args := [d] }
  | _ => none }
def fnExactIsDownhillRow : OpenClaim := { program := "ytjobjjmeneddnaa", sum := "6d79a6a8a8aff46ad2319b7d98c63e68a9b470b0cf83d8e7a6e444c7ce249e9b", func := "loop.example/g00599/laws.FnExactIsDownhill", spec := "fnExactIsDownhill", unfollowed := true, recurses := true, apart := false }
def FnExactIsDownhillSaid : Prop := fnExactIsDownhillRow.holds Try.pinned (OpenSpec.ofChange fnExactIsDownhillSpec)

/-- ITS FALSE NEIGHBOUR: 'it returns false'. Refute it at one input. -/
def fnExactIsDownhillWrong : ChangeSpec := { name := "fnExactIsDownhill", fn := fun _ => fun
  | [d] => { results := [.lit (.bool false)], args := [d] }
  | _ => none }
def FnExactIsDownhillWrongFalsely : Prop := fnExactIsDownhillRow.holds Try.pinned (OpenSpec.ofChange fnExactIsDownhillWrong)

/-- 'laws.FnExactEqualTables': WHATEVER THE INPUT: true; the input reads as it did. -/
def fnExactEqualTablesSpec : ChangeSpec := { name := "fnExactEqualTables", fn := fun _ => fun
  | [d1, d2] => { results := [.lit (.bool true)], args := [d1, d2] }
  | _ => none }
def fnExactEqualTablesRow : OpenClaim := { program := "ytjobjjmeneddnaa", sum := "6d79a6a8a8aff46ad2319b7d98c63e68a9b470b0cf83d8e7a6e444c7ce249e9b", func := "loop.example/g00599/laws.FnExactEqualTables", spec := "fnExactEqualTables", apart := false }
def FnExactEqualTablesSaid : Prop := fnExactEqualTablesRow.holds Try.pinned (OpenSpec.ofChange fnExactEqualTablesSpec)

/-- ITS FALSE NEIGHBOUR: 'it returns false'. Refute it at one input. -/
def fnExactEqualTablesWrong : ChangeSpec := { name := "fnExactEqualTables", fn := fun _ => fun
  | [d1, d2] => { results := [.lit (.bool false)], args := [d1, d2] }
  | _ => none }
def FnExactEqualTablesWrongFalsely : Prop := fnExactEqualTablesRow.holds Try.pinned (OpenSpec.ofChange fnExactEqualTablesWrong)

/-- 'laws.FnExactRouteOf': WHATEVER THE INPUT: true; the input reads as it did. -/
def fnExactRouteOfSpec : ChangeSpec := { name := "fnExactRouteOf", fn := fun _ => fun
  | [d1, d2] => { results := [.lit (.bool true)], args := [d1, d2] }
  | _ => none }
def fnExactRouteOfRow : OpenClaim := { program := "ytjobjjmeneddnaa", sum := "6d79a6a8a8aff46ad2319b7d98c63e68a9b470b0cf83d8e7a6e444c7ce249e9b", func := "loop.example/g00599/laws.FnExactRouteOf", spec := "fnExactRouteOf", unfollowed := true, recurses := true, apart := false }
def FnExactRouteOfSaid : Prop := fnExactRouteOfRow.holds Try.pinned (OpenSpec.ofChange fnExactRouteOfSpec)

/-- ITS FALSE NEIGHBOUR: 'it returns false'. Refute it at one input. -/
def fnExactRouteOfWrong : ChangeSpec := { name := "fnExactRouteOf", fn := fun _ => fun
  | [d1, d2] => { results := [.lit (.bool false)], args := [d1, d2] }
  | _ => none }
def FnExactRouteOfWrongFalsely : Prop := fnExactRouteOfRow.holds Try.pinned (OpenSpec.ofChange fnExactRouteOfWrong)

/-- 'laws.FnExactUsesNode': WHATEVER THE INPUT: true; the input reads as it did. -/
def fnExactUsesNodeSpec : ChangeSpec := { name := "fnExactUsesNode", fn := fun _ => fun
  | [d1, d2] => { results := [.lit (.bool true)], args := [d1, d2] }
  | _ => none }
def fnExactUsesNodeRow : OpenClaim := { program := "ytjobjjmeneddnaa", sum := "6d79a6a8a8aff46ad2319b7d98c63e68a9b470b0cf83d8e7a6e444c7ce249e9b", func := "loop.example/g00599/laws.FnExactUsesNode", spec := "fnExactUsesNode", unfollowed := true, recurses := true, apart := false }
def FnExactUsesNodeSaid : Prop := fnExactUsesNodeRow.holds Try.pinned (OpenSpec.ofChange fnExactUsesNodeSpec)

/-- ITS FALSE NEIGHBOUR: 'it returns false'. Refute it at one input. -/
def fnExactUsesNodeWrong : ChangeSpec := { name := "fnExactUsesNode", fn := fun _ => fun
  | [d1, d2] => { results := [.lit (.bool false)], args := [d1, d2] }
  | _ => none }
def FnExactUsesNodeWrongFalsely : Prop := fnExactUsesNodeRow.holds Try.pinned (OpenSpec.ofChange fnExactUsesNodeWrong)

/- THE SECOND FORM. 'bulk': how many values and letters a reading holds, each counted each time it is reached (what is shared counts as often as it is met; a slice's spare places count too). A statement '..UptoSaid' is the law's where the arguments, and the package variables that the reading takes, are together of bulk at most 1048576: NARROWER than '..Said'. Prove '..Said' where nothing that the law and all that it calls make is longer than what came in: it says more and counts as full. Else prove '..UptoSaid'. A law counts once. -/
mutual
def uptoBulk {H : Type} : DataW H → Nat
  | .lit (.string bytes) => bytes.length + 1
  | .lit _ => 1
  | .nil => 1
  | .ptr d => uptoBulk d + 1
  | .slice elems spare => uptoBulkAll elems + uptoBulkAll spare + 1
  | .agg parts => uptoBulkAll parts + 1
  | .iface _ d => uptoBulk d + 1
  | .map entries => uptoBulkEntries entries + 1
  | .held _ => 1
def uptoBulkAll {H : Type} : List (DataW H) → Nat
  | [] => 0
  | d :: r => uptoBulk d + uptoBulkAll r
def uptoBulkEntries {H : Type} : List (Lit × DataW H) → Nat
  | [] => 0
  | x :: r => uptoBulkEntry x + uptoBulkEntries r
def uptoBulkEntry {H : Type} : Lit × DataW H → Nat
  | (.string bytes, d) => bytes.length + uptoBulk d + 1
  | (_, d) => uptoBulk d + 1
 end
def uptoSmall : (H : Type) → List (DataW H) → Bool := fun _ ds => decide (uptoBulkAll ds ≤ 1048576)
def OpenSpec.upto (s : _root_.Go.ChangeSpec) : _root_.Go.OpenSpec := { _root_.Go.OpenSpec.ofChange s with cond := some uptoSmall }

/-- 'laws.FnTables', WHERE WHAT IT READS IS OF BULK AT MOST 1048576: true; the input reads as it did. -/
def fnTablesUptoRow : OpenClaim := { program := "ytjobjjmeneddnaa", sum := "6d79a6a8a8aff46ad2319b7d98c63e68a9b470b0cf83d8e7a6e444c7ce249e9b", func := "loop.example/g00599/laws.FnTables", spec := "fnTables", unfollowed := true, recurses := true, apart := false, narrowed := true }
def FnTablesUptoSaid : Prop := fnTablesUptoRow.holds Try.pinned (OpenSpec.upto fnTablesSpec)

/-- 'laws.FnExactTableOf', WHERE WHAT IT READS IS OF BULK AT MOST 1048576: true; the input reads as it did. -/
def fnExactTableOfUptoRow : OpenClaim := { program := "ytjobjjmeneddnaa", sum := "6d79a6a8a8aff46ad2319b7d98c63e68a9b470b0cf83d8e7a6e444c7ce249e9b", func := "loop.example/g00599/laws.FnExactTableOf", spec := "fnExactTableOf", unfollowed := true, recurses := true, apart := false, narrowed := true }
def FnExactTableOfUptoSaid : Prop := fnExactTableOfUptoRow.holds Try.pinned (OpenSpec.upto fnExactTableOfSpec)

/-- 'laws.FnExactIsTable', WHERE WHAT IT READS IS OF BULK AT MOST 1048576: true; the input reads as it did. -/
def fnExactIsTableUptoRow : OpenClaim := { program := "ytjobjjmeneddnaa", sum := "6d79a6a8a8aff46ad2319b7d98c63e68a9b470b0cf83d8e7a6e444c7ce249e9b", func := "loop.example/g00599/laws.FnExactIsTable", spec := "fnExactIsTable", apart := false, narrowed := true }
def FnExactIsTableUptoSaid : Prop := fnExactIsTableUptoRow.holds Try.pinned (OpenSpec.upto fnExactIsTableSpec)

/-- 'laws.FnExactIsDownhill', WHERE WHAT IT READS IS OF BULK AT MOST 1048576: true; the input reads as it did. -/
def fnExactIsDownhillUptoRow : OpenClaim := { program := "ytjobjjmeneddnaa", sum := "6d79a6a8a8aff46ad2319b7d98c63e68a9b470b0cf83d8e7a6e444c7ce249e9b", func := "loop.example/g00599/laws.FnExactIsDownhill", spec := "fnExactIsDownhill", unfollowed := true, recurses := true, apart := false, narrowed := true }
def FnExactIsDownhillUptoSaid : Prop := fnExactIsDownhillUptoRow.holds Try.pinned (OpenSpec.upto fnExactIsDownhillSpec)

/-- 'laws.FnExactEqualTables', WHERE WHAT IT READS IS OF BULK AT MOST 1048576: true; the input reads as it did. -/
def fnExactEqualTablesUptoRow : OpenClaim := { program := "ytjobjjmeneddnaa", sum := "6d79a6a8a8aff46ad2319b7d98c63e68a9b470b0cf83d8e7a6e444c7ce249e9b", func := "loop.example/g00599/laws.FnExactEqualTables", spec := "fnExactEqualTables", apart := false, narrowed := true }
def FnExactEqualTablesUptoSaid : Prop := fnExactEqualTablesUptoRow.holds Try.pinned (OpenSpec.upto fnExactEqualTablesSpec)

/-- 'laws.FnExactRouteOf', WHERE WHAT IT READS IS OF BULK AT MOST 1048576: true; the input reads as it did. -/
def fnExactRouteOfUptoRow : OpenClaim := { program := "ytjobjjmeneddnaa", sum := "6d79a6a8a8aff46ad2319b7d98c63e68a9b470b0cf83d8e7a6e444c7ce249e9b", func := "loop.example/g00599/laws.FnExactRouteOf", spec := "fnExactRouteOf", unfollowed := true, recurses := true, apart := false, narrowed := true }
def FnExactRouteOfUptoSaid : Prop := fnExactRouteOfUptoRow.holds Try.pinned (OpenSpec.upto fnExactRouteOfSpec)

/-- 'laws.FnExactUsesNode', WHERE WHAT IT READS IS OF BULK AT MOST 1048576: true; the input reads as it did. -/
def fnExactUsesNodeUptoRow : OpenClaim := { program := "ytjobjjmeneddnaa", sum := "6d79a6a8a8aff46ad2319b7d98c63e68a9b470b0cf83d8e7a6e444c7ce249e9b", func := "loop.example/g00599/laws.FnExactUsesNode", spec := "fnExactUsesNode", unfollowed := true, recurses := true, apart := false, narrowed := true }
def FnExactUsesNodeUptoSaid : Prop := fnExactUsesNodeUptoRow.holds Try.pinned (OpenSpec.upto fnExactUsesNodeSpec)

end Rows
end Go.Proofs.Ytjobjjmeneddnaa
