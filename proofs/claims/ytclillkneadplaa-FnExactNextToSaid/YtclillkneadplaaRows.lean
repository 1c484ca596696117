/-
  No cell of these rows narrows 'for every input' (looked for: loops, veiled, ifaces, maps, wideKeys, modest, calm, conditions, laid).
  DERIVED. THE GIVEN ROWS OF THIS SEAT. 6 by the template 'for every input the law returns true; each argument reads behind the call as it read before'; 0 by the template 'total and deterministic' (their statements: YtclillkneadplaaTotals.lean).
  GIVEN WITH THE SEED: the statements are not yours to turn. If you find one false, say at which input.
  Laid BY PROGRAM, IN A SANDBOX (cutbox-rows.mjs): the forced cells as the released guide's own fill.sh prints them over the translation d30ce355f280e420… (all of the seat's roots in one cut). By AI agents, Wed Nov 11 2026. No macro, syntax, notation, axiom, sorry.
-/
import Derived.Test.YtclillkneadplaaChecked
import GoSem.Claim
import GoSem.ClaimJoined
import GoSem.ClaimMapViews
import Derived.JoinedTies
import Derived.KernelRfl
namespace Go.Proofs.Ytclillkneadplaa
/- THE CELL 'sum', in the pinned program and in every row, IS THE sha256 OF THE DUMP (.gsa) THAT YtclillkneadplaaProg.lean LOADS. Nothing in Lean hashes anything: it is a label: what it is worth is what the hold of that sum in a sandbox is worth. -/
noncomputable def Try.pinned : Pinned := { name := "ytclillkneadplaa", sum := "d30ce355f280e42089f5022bb96293e636c76aeea5aa1aeb94276c30fa4dc7dd", checked := Try.checked }
namespace Rows
def none {H : Type} : Left H := { results := [], args := [] }

/-- 'laws.FnPaths': WHATEVER THE INPUT: true; the input reads as it did. -/
def fnPathsSpec : ChangeSpec := { name := "fnPaths", fn := fun _ => fun
  | [d] => { results := [.lit (.bool true)], args := [d] }
  | _ => none }
def fnPathsRow : OpenClaim := { program := "ytclillkneadplaa", sum := "d30ce355f280e42089f5022bb96293e636c76aeea5aa1aeb94276c30fa4dc7dd", func := "loop.example/g00599/laws.FnPaths", spec := "fnPaths", unfollowed := true, recurses := true, apart := false }
def FnPathsSaid : Prop := fnPathsRow.holds Try.pinned (OpenSpec.ofChange fnPathsSpec)

/-- ITS FALSE NEIGHBOUR: 'it returns false'. Refute it at one input. -/
def fnPathsWrong : ChangeSpec := { name := "fnPaths", fn := fun _ => fun
  | [d] => { results := [.lit (.bool false)], args := [d] }
  | _ => none }
def FnPathsWrongFalsely : Prop := fnPathsRow.holds Try.pinned (OpenSpec.ofChange fnPathsWrong)

/-- 'laws.FnExactDistancesTo': WHATEVER THE INPUT: true; the input reads as it did. -/
def fnExactDistancesToSpec : ChangeSpec := { name := "fnExactDistancesTo", fn := fun _ => fun
  | [d1, d2, d3, d4] => { results := [.lit (.bool true)], args := [d1, d2, d3, d4] }
  | _ => none }
def fnExactDistancesToRow : OpenClaim := { program := "ytclillkneadplaa", sum := "d30ce355f280e42089f5022bb96293e636c76aeea5aa1aeb94276c30fa4dc7dd", func := "loop.example/g00599/laws.FnExactDistancesTo", spec := "fnExactDistancesTo", unfollowed := true, recurses := true, apart := false }
def FnExactDistancesToSaid : Prop := fnExactDistancesToRow.holds Try.pinned (OpenSpec.ofChange fnExactDistancesToSpec)

/-- ITS FALSE NEIGHBOUR: 'it returns false'. Refute it at one input. -/
def fnExactDistancesToWrong : ChangeSpec := { name := "fnExactDistancesTo", fn := fun _ => fun
  | [d1, d2, d3, d4] => { results := [.lit (.bool false)], args := [d1, d2, d3, d4] }
  | _ => none }
def FnExactDistancesToWrongFalsely : Prop := fnExactDistancesToRow.holds Try.pinned (OpenSpec.ofChange fnExactDistancesToWrong)

/-- 'laws.FnExactNextTo': WHATEVER THE INPUT: true; the input reads as it did. -/
def fnExactNextToSpec : ChangeSpec := { name := "fnExactNextTo", fn := fun _ => fun
  | [d1, d2, d3, d4] => { results := [.lit (.bool true)], args := [d1, d2, d3, d4] }
  | _ => none }
def fnExactNextToRow : OpenClaim := { program := "ytclillkneadplaa", sum := "d30ce355f280e42089f5022bb96293e636c76aeea5aa1aeb94276c30fa4dc7dd", func := "loop.example/g00599/laws.FnExactNextTo", spec := "fnExactNextTo", unfollowed := true, recurses := true, apart := false }
def FnExactNextToSaid : Prop := fnExactNextToRow.holds Try.pinned (OpenSpec.ofChange fnExactNextToSpec)

/-- ITS FALSE NEIGHBOUR: 'it returns false'. Refute it at one input. -/
def fnExactNextToWrong : ChangeSpec := { name := "fnExactNextTo", fn := fun _ => fun
  | [d1, d2, d3, d4] => { results := [.lit (.bool false)], args := [d1, d2, d3, d4] }
  | _ => none }
def FnExactNextToWrongFalsely : Prop := fnExactNextToRow.holds Try.pinned (OpenSpec.ofChange fnExactNextToWrong)

/-- 'laws.FnExactPathTo': WHATEVER THE INPUT: true; the input reads as it did. -/
def fnExactPathToSpec : ChangeSpec := { name := "fnExactPathTo", fn := fun _ => fun
  | [d1, d2, d3] => { results := [.lit (.bool true)], args := [d1, d2, d3] }
  | _ => none }
def fnExactPathToRow : OpenClaim := { program := "ytclillkneadplaa", sum := "d30ce355f280e42089f5022bb96293e636c76aeea5aa1aeb94276c30fa4dc7dd", func := "loop.example/g00599/laws.FnExactPathTo", spec := "fnExactPathTo", unfollowed := true, recurses := true, apart := false }
def FnExactPathToSaid : Prop := fnExactPathToRow.holds Try.pinned (OpenSpec.ofChange fnExactPathToSpec)

/-- ITS FALSE NEIGHBOUR: 'it returns false'. Refute it at one input. -/
def fnExactPathToWrong : ChangeSpec := { name := "fnExactPathTo", fn := fun _ => fun
  | [d1, d2, d3] => { results := [.lit (.bool false)], args := [d1, d2, d3] }
  | _ => none }
def FnExactPathToWrongFalsely : Prop := fnExactPathToRow.holds Try.pinned (OpenSpec.ofChange fnExactPathToWrong)

/-- 'laws.FnExactHasLoop': WHATEVER THE INPUT: true; the input reads as it did. -/
def fnExactHasLoopSpec : ChangeSpec := { name := "fnExactHasLoop", fn := fun _ => fun
  | [d] => { results := [.lit (.bool true)], args := [d] }
  | _ => none }
def fnExactHasLoopRow : OpenClaim := { program := "ytclillkneadplaa", sum := "d30ce355f280e42089f5022bb96293e636c76aeea5aa1aeb94276c30fa4dc7dd", func := "loop.example/g00599/laws.FnExactHasLoop", spec := "fnExactHasLoop", unfollowed := true, recurses := true, apart := false }
def FnExactHasLoopSaid : Prop := fnExactHasLoopRow.holds Try.pinned (OpenSpec.ofChange fnExactHasLoopSpec)

/-- ITS FALSE NEIGHBOUR: 'it returns false'. Refute it at one input. -/
def fnExactHasLoopWrong : ChangeSpec := { name := "fnExactHasLoop", fn := fun _ => fun
  | [d] => { results := [.lit (.bool false)], args := [d] }
  | _ => none }
def FnExactHasLoopWrongFalsely : Prop := fnExactHasLoopRow.holds Try.pinned (OpenSpec.ofChange fnExactHasLoopWrong)

/-- 'laws.FnExactCountReaching': WHATEVER THE INPUT: true; the input reads as it did. -/
def fnExactCountReachingSpec : ChangeSpec := { name := "fnExactCountReaching", fn := fun _ => fun
  | [d] => { results := [.lit (.bool true)], args := [d] }
  | _ => none }
def fnExactCountReachingRow : OpenClaim := { program := "ytclillkneadplaa", sum := "d30ce355f280e42089f5022bb96293e636c76aeea5aa1aeb94276c30fa4dc7dd", func := "loop.example/g00599/laws.FnExactCountReaching", spec := "fnExactCountReaching", apart := false }
def FnExactCountReachingSaid : Prop := fnExactCountReachingRow.holds Try.pinned (OpenSpec.ofChange fnExactCountReachingSpec)

/-- ITS FALSE NEIGHBOUR: 'it returns false'. Refute it at one input. -/
def fnExactCountReachingWrong : ChangeSpec := { name := "fnExactCountReaching", fn := fun _ => fun
  | [d] => { results := [.lit (.bool false)], args := [d] }
  | _ => none }
def FnExactCountReachingWrongFalsely : Prop := fnExactCountReachingRow.holds Try.pinned (OpenSpec.ofChange fnExactCountReachingWrong)

/- THE SECOND FORM. 'bulk': how many values and letters a reading holds, each counted each time it is reached (what is shared counts as often as it is met; a slice's spare places count too). A statement '..UptoSaid' is the law's where the arguments, and the package variables that the reading takes, are together of bulk at most 1048576: NARROWER than '..Said'. Prove '..Said' where nothing that the law and all that it calls make is longer than what came in: it says more and counts as full. Else prove '..UptoSaid'. A law counts once. -/
mutual
def uptoBulk {H : Type} : DataW H → Nat
  | .lit (.string bytes) => bytes.length + 1
  | .lit _ => 1
  | .nil => 1
  | .ptr d => uptoBulk d + 1
  | .slice elems spare => uptoBulkAll elems + uptoBulkAll spare + 1
  | .agg parts => uptoBulkAll parts + 1
  | .iface _ d => uptoBulk d + 1
  | .map entries => uptoBulkEntries entries + 1
  | .held _ => 1
def uptoBulkAll {H : Type} : List (DataW H) → Nat
  | [] => 0
  | d :: r => uptoBulk d + uptoBulkAll r
def uptoBulkEntries {H : Type} : List (Lit × DataW H) → Nat
  | [] => 0
  | x :: r => uptoBulkEntry x + uptoBulkEntries r
def uptoBulkEntry {H : Type} : Lit × DataW H → Nat
  | (.string bytes, d) => bytes.length + uptoBulk d + 1
  | (_, d) => uptoBulk d + 1
 end
def uptoSmall : (H : Type) → List (DataW H) → Bool := fun _ ds => decide (uptoBulkAll ds ≤ 1048576)
def OpenSpec.upto (s : _root_.Go.ChangeSpec) : _root_.Go.OpenSpec := { _root_.Go.OpenSpec.ofChange s with cond := some uptoSmall }

/-- 'laws.FnPaths', WHERE WHAT IT READS IS OF BULK AT MOST 1048576: true; the input reads as it did. -/
def fnPathsUptoRow : OpenClaim := { program := "ytclillkneadplaa", sum := "d30ce355f280e42089f5022bb96293e636c76aeea5aa1aeb94276c30fa4dc7dd", func := "loop.example/g00599/laws.FnPaths", spec := "fnPaths", unfollowed := true, recurses := true, apart := false, narrowed := true }
def FnPathsUptoSaid : Prop := fnPathsUptoRow.holds Try.pinned (OpenSpec.upto fnPathsSpec)

/-- 'laws.FnExactDistancesTo', WHERE WHAT IT READS IS OF BULK AT MOST 1048576: true; the input reads as it did. -/
def fnExactDistancesToUptoRow : OpenClaim := { program := "ytclillkneadplaa", sum := "d30ce355f280e42089f5022bb96293e636c76aeea5aa1aeb94276c30fa4dc7dd", func := "loop.example/g00599/laws.FnExactDistancesTo", spec := "fnExactDistancesTo", unfollowed := true, recurses := true, apart := false, narrowed := true }
def FnExactDistancesToUptoSaid : Prop := fnExactDistancesToUptoRow.holds Try.pinned (OpenSpec.upto fnExactDistancesToSpec)

/-- 'laws.FnExactNextTo', WHERE WHAT IT READS IS OF BULK AT MOST 1048576: true; the input reads as it did. -/
def fnExactNextToUptoRow : OpenClaim := { program := "ytclillkneadplaa", sum := "d30ce355f280e42089f5022bb96293e636c76aeea5aa1aeb94276c30fa4dc7dd", func := "loop.example/g00599/laws.FnExactNextTo", spec := "fnExactNextTo", unfollowed := true, recurses := true, apart := false, narrowed := true }
def FnExactNextToUptoSaid : Prop := fnExactNextToUptoRow.holds Try.pinned (OpenSpec.upto fnExactNextToSpec)

/-- 'laws.FnExactPathTo', WHERE WHAT IT READS IS OF BULK AT MOST 1048576: true; the input reads as it did. -/
def fnExactPathToUptoRow : OpenClaim := { program := "ytclillkneadplaa", sum := "d30ce355f280e42089f5022bb96293e636c76aeea5aa1aeb94276c30fa4dc7dd", func := "loop.example/g00599/laws.FnExactPathTo", spec := "fnExactPathTo", unfollowed := true, recurses := true, apart := false, narrowed := true }
def FnExactPathToUptoSaid : Prop := fnExactPathToUptoRow.holds Try.pinned (OpenSpec.upto fnExactPathToSpec)

/-- 'laws.FnExactHasLoop', WHERE WHAT IT READS IS OF BULK AT MOST 1048576: true; the input reads as it did. -/
def fnExactHasLoopUptoRow : OpenClaim := { program := "ytclillkneadplaa", sum := "d30ce355f280e42089f5022bb96293e636c76aeea5aa1aeb94276c30fa4dc7dd", func := "loop.example/g00599/laws.FnExactHasLoop", spec := "fnExactHasLoop", unfollowed := true, recurses := true, apart := false, narrowed := true }
def FnExactHasLoopUptoSaid : Prop := fnExactHasLoopUptoRow.holds Try.pinned (OpenSpec.upto fnExactHasLoopSpec)

/-- 'laws.FnExactCountReaching', WHERE WHAT IT READS IS OF BULK AT MOST 1048576: true; the input reads as it did. -/
def fnExactCountReachingUptoRow : OpenClaim := { program := "ytclillkneadplaa", sum := "d30ce355f280e42089f5022bb96293e636c76aeea5aa1aeb94276c30fa4dc7dd", func := "loop.example/g00599/laws.FnExactCountReaching", spec := "fnExactCountReaching", apart := false, narrowed := true }
def FnExactCountReachingUptoSaid : Prop := fnExactCountReachingUptoRow.holds Try.pinned (OpenSpec.upto fnExactCountReachingSpec)

end Rows
end Go.Proofs.Ytclillkneadplaa
