/-
  No cell of these rows narrows 'for every input' (looked for: loops, veiled, ifaces, maps, wideKeys, modest, calm, conditions, laid).
  DERIVED. THE GIVEN ROWS OF THIS SEAT. 5 by the template 'for every input the law returns true; each argument reads behind the call as it read before'; 0 by the template 'total and deterministic' (their statements: YtfnhfpahdgbfgaaTotals.lean).
  GIVEN WITH THE SEED: the statements are not yours to turn. If you find one false, say at which input.
  Laid BY PROGRAM, IN A SANDBOX (cutbox-rows.mjs): the forced cells as the released guide's own fill.sh prints them over the translation fa14b52ceb3386f7… (all of the seat's roots in one cut). By AI agents, Wed Nov 11 2026. No macro, syntax, notation, axiom, sorry.
-/
import Derived.Test.YtfnhfpahdgbfgaaChecked
import GoSem.Claim
import GoSem.ClaimJoined
import GoSem.ClaimMapViews
import Derived.JoinedTies
import Derived.KernelRfl
namespace Go.Proofs.Ytfnhfpahdgbfgaa
/- THE CELL 'sum', in the pinned program and in every row, IS THE sha256 OF THE DUMP (.gsa) THAT YtfnhfpahdgbfgaaProg.lean LOADS. Nothing in Lean hashes anything: it is a label: what it is worth is what the hold of that sum in a sandbox is worth. -/
noncomputable def Try.pinned : Pinned := { name := "ytfnhfpahdgbfgaa", sum := "fa14b52ceb3386f703498688d7c0d27dd9b1d7609972fc05fc049e248aa86ff7", checked := Try.checked }
namespace Rows
def none {H : Type} : Left H := { results := [], args := [] }

/-- 'laws.FnGraphs': WHATEVER THE INPUT: true; the input reads as it did. -/
def fnGraphsSpec : ChangeSpec := { name := "fnGraphs", fn := fun _ => fun
  | [d] => { results := [.lit (.bool true)], args := [d] }
  | _ => none }
def fnGraphsRow : OpenClaim := { program := "ytfnhfpahdgbfgaa", sum := "fa14b52ceb3386f703498688d7c0d27dd9b1d7609972fc05fc049e248aa86ff7", func := "loop.example/g00599/laws.FnGraphs", spec := "fnGraphs", recurses := true, plainKeys := false, apart := false }
def FnGraphsSaid : Prop := fnGraphsRow.holds Try.pinned (OpenSpec.ofChange fnGraphsSpec)

/-- ITS FALSE NEIGHBOUR: 'it returns false'. Refute it at one input. -/
def fnGraphsWrong : ChangeSpec := { name := "fnGraphs", fn := fun _ => fun
  | [d] => { results := [.lit (.bool false)], args := [d] }
  | _ => none }
def FnGraphsWrongFalsely : Prop := fnGraphsRow.holds Try.pinned (OpenSpec.ofChange fnGraphsWrong)

/-- 'laws.FnExactLinksAt': WHATEVER THE INPUT: true; the input reads as it did. -/
def fnExactLinksAtSpec : ChangeSpec := { name := "fnExactLinksAt", fn := fun _ => fun
  | [d1, d2] => { results := [.lit (.bool true)], args := [d1, d2] }
  | _ => none }
def fnExactLinksAtRow : OpenClaim := { program := "ytfnhfpahdgbfgaa", sum := "fa14b52ceb3386f703498688d7c0d27dd9b1d7609972fc05fc049e248aa86ff7", func := "loop.example/g00599/laws.FnExactLinksAt", spec := "fnExactLinksAt", plainKeys := false, apart := false }
def FnExactLinksAtSaid : Prop := fnExactLinksAtRow.holds Try.pinned (OpenSpec.ofChange fnExactLinksAtSpec)

/-- ITS FALSE NEIGHBOUR: 'it returns false'. Refute it at one input. -/
def fnExactLinksAtWrong : ChangeSpec := { name := "fnExactLinksAt", fn := fun _ => fun
  | [d1, d2] => { results := [.lit (.bool false)], args := [d1, d2] }
  | _ => none }
def FnExactLinksAtWrongFalsely : Prop := fnExactLinksAtRow.holds Try.pinned (OpenSpec.ofChange fnExactLinksAtWrong)

/-- 'laws.FnExactSameLinks': WHATEVER THE INPUT: true; the input reads as it did. -/
def fnExactSameLinksSpec : ChangeSpec := { name := "fnExactSameLinks", fn := fun _ => fun
  | [d1, d2] => { results := [.lit (.bool true)], args := [d1, d2] }
  | _ => none }
def fnExactSameLinksRow : OpenClaim := { program := "ytfnhfpahdgbfgaa", sum := "fa14b52ceb3386f703498688d7c0d27dd9b1d7609972fc05fc049e248aa86ff7", func := "loop.example/g00599/laws.FnExactSameLinks", spec := "fnExactSameLinks", plainKeys := false, apart := false }
def FnExactSameLinksSaid : Prop := fnExactSameLinksRow.holds Try.pinned (OpenSpec.ofChange fnExactSameLinksSpec)

/-- ITS FALSE NEIGHBOUR: 'it returns false'. Refute it at one input. -/
def fnExactSameLinksWrong : ChangeSpec := { name := "fnExactSameLinks", fn := fun _ => fun
  | [d1, d2] => { results := [.lit (.bool false)], args := [d1, d2] }
  | _ => none }
def FnExactSameLinksWrongFalsely : Prop := fnExactSameLinksRow.holds Try.pinned (OpenSpec.ofChange fnExactSameLinksWrong)

/-- 'laws.FnExactPiecesOf': WHATEVER THE INPUT: true; the input reads as it did. -/
def fnExactPiecesOfSpec : ChangeSpec := { name := "fnExactPiecesOf", fn := fun _ => fun
  | [d1, d2, d3] => { results := [.lit (.bool true)], args := [d1, d2, d3] }
  | _ => none }
def fnExactPiecesOfRow : OpenClaim := { program := "ytfnhfpahdgbfgaa", sum := "fa14b52ceb3386f703498688d7c0d27dd9b1d7609972fc05fc049e248aa86ff7", func := "loop.example/g00599/laws.FnExactPiecesOf", spec := "fnExactPiecesOf", recurses := true, plainKeys := false, apart := false }
def FnExactPiecesOfSaid : Prop := fnExactPiecesOfRow.holds Try.pinned (OpenSpec.ofChange fnExactPiecesOfSpec)

/-- ITS FALSE NEIGHBOUR: 'it returns false'. Refute it at one input. -/
def fnExactPiecesOfWrong : ChangeSpec := { name := "fnExactPiecesOf", fn := fun _ => fun
  | [d1, d2, d3] => { results := [.lit (.bool false)], args := [d1, d2, d3] }
  | _ => none }
def FnExactPiecesOfWrongFalsely : Prop := fnExactPiecesOfRow.holds Try.pinned (OpenSpec.ofChange fnExactPiecesOfWrong)

/-- 'laws.FnExactNeighborsIn': WHATEVER THE INPUT: true; the input reads as it did. -/
def fnExactNeighborsInSpec : ChangeSpec := { name := "fnExactNeighborsIn", fn := fun _ => fun
  | [d1, d2] => { results := [.lit (.bool true)], args := [d1, d2] }
  | _ => none }
def fnExactNeighborsInRow : OpenClaim := { program := "ytfnhfpahdgbfgaa", sum := "fa14b52ceb3386f703498688d7c0d27dd9b1d7609972fc05fc049e248aa86ff7", func := "loop.example/g00599/laws.FnExactNeighborsIn", spec := "fnExactNeighborsIn", recurses := true, plainKeys := false, apart := false }
def FnExactNeighborsInSaid : Prop := fnExactNeighborsInRow.holds Try.pinned (OpenSpec.ofChange fnExactNeighborsInSpec)

/-- ITS FALSE NEIGHBOUR: 'it returns false'. Refute it at one input. -/
def fnExactNeighborsInWrong : ChangeSpec := { name := "fnExactNeighborsIn", fn := fun _ => fun
  | [d1, d2] => { results := [.lit (.bool false)], args := [d1, d2] }
  | _ => none }
def FnExactNeighborsInWrongFalsely : Prop := fnExactNeighborsInRow.holds Try.pinned (OpenSpec.ofChange fnExactNeighborsInWrong)

/- THE SECOND FORM. 'bulk': how many values and letters a reading holds, each counted each time it is reached (what is shared counts as often as it is met; a slice's spare places count too). A statement '..UptoSaid' is the law's where the arguments, and the package variables that the reading takes, are together of bulk at most 1048576: NARROWER than '..Said'. Prove '..Said' where nothing that the law and all that it calls make is longer than what came in: it says more and counts as full. Else prove '..UptoSaid'. A law counts once. -/
mutual
def uptoBulk {H : Type} : DataW H → Nat
  | .lit (.string bytes) => bytes.length + 1
  | .lit _ => 1
  | .nil => 1
  | .ptr d => uptoBulk d + 1
  | .slice elems spare => uptoBulkAll elems + uptoBulkAll spare + 1
  | .agg parts => uptoBulkAll parts + 1
  | .iface _ d => uptoBulk d + 1
  | .map entries => uptoBulkEntries entries + 1
  | .held _ => 1
def uptoBulkAll {H : Type} : List (DataW H) → Nat
  | [] => 0
  | d :: r => uptoBulk d + uptoBulkAll r
def uptoBulkEntries {H : Type} : List (Lit × DataW H) → Nat
  | [] => 0
  | x :: r => uptoBulkEntry x + uptoBulkEntries r
def uptoBulkEntry {H : Type} : Lit × DataW H → Nat
  | (.string bytes, d) => bytes.length + uptoBulk d + 1
  | (_, d) => uptoBulk d + 1
 end
def uptoSmall : (H : Type) → List (DataW H) → Bool := fun _ ds => decide (uptoBulkAll ds ≤ 1048576)
def OpenSpec.upto (s : _root_.Go.ChangeSpec) : _root_.Go.OpenSpec := { _root_.Go.OpenSpec.ofChange s with cond := some uptoSmall }

/-- 'laws.FnGraphs', WHERE WHAT IT READS IS OF BULK AT MOST 1048576: true; the input reads as it did. -/
def fnGraphsUptoRow : OpenClaim := { program := "ytfnhfpahdgbfgaa", sum := "fa14b52ceb3386f703498688d7c0d27dd9b1d7609972fc05fc049e248aa86ff7", func := "loop.example/g00599/laws.FnGraphs", spec := "fnGraphs", recurses := true, plainKeys := false, apart := false, narrowed := true }
def FnGraphsUptoSaid : Prop := fnGraphsUptoRow.holds Try.pinned (OpenSpec.upto fnGraphsSpec)

/-- 'laws.FnExactLinksAt', WHERE WHAT IT READS IS OF BULK AT MOST 1048576: true; the input reads as it did. -/
def fnExactLinksAtUptoRow : OpenClaim := { program := "ytfnhfpahdgbfgaa", sum := "fa14b52ceb3386f703498688d7c0d27dd9b1d7609972fc05fc049e248aa86ff7", func := "loop.example/g00599/laws.FnExactLinksAt", spec := "fnExactLinksAt", plainKeys := false, apart := false, narrowed := true }
def FnExactLinksAtUptoSaid : Prop := fnExactLinksAtUptoRow.holds Try.pinned (OpenSpec.upto fnExactLinksAtSpec)

/-- 'laws.FnExactSameLinks', WHERE WHAT IT READS IS OF BULK AT MOST 1048576: true; the input reads as it did. -/
def fnExactSameLinksUptoRow : OpenClaim := { program := "ytfnhfpahdgbfgaa", sum := "fa14b52ceb3386f703498688d7c0d27dd9b1d7609972fc05fc049e248aa86ff7", func := "loop.example/g00599/laws.FnExactSameLinks", spec := "fnExactSameLinks", plainKeys := false, apart := false, narrowed := true }
def FnExactSameLinksUptoSaid : Prop := fnExactSameLinksUptoRow.holds Try.pinned (OpenSpec.upto fnExactSameLinksSpec)

/-- 'laws.FnExactPiecesOf', WHERE WHAT IT READS IS OF BULK AT MOST 1048576: true; the input reads as it did. -/
def fnExactPiecesOfUptoRow : OpenClaim := { program := "ytfnhfpahdgbfgaa", sum := "fa14b52ceb3386f703498688d7c0d27dd9b1d7609972fc05fc049e248aa86ff7", func := "loop.example/g00599/laws.FnExactPiecesOf", spec := "fnExactPiecesOf", recurses := true, plainKeys := false, apart := false, narrowed := true }
def FnExactPiecesOfUptoSaid : Prop := fnExactPiecesOfUptoRow.holds Try.pinned (OpenSpec.upto fnExactPiecesOfSpec)

/-- 'laws.FnExactNeighborsIn', WHERE WHAT IT READS IS OF BULK AT MOST 1048576: true; the input reads as it did. -/
def fnExactNeighborsInUptoRow : OpenClaim := { program := "ytfnhfpahdgbfgaa", sum := "fa14b52ceb3386f703498688d7c0d27dd9b1d7609972fc05fc049e248aa86ff7", func := "loop.example/g00599/laws.FnExactNeighborsIn", spec := "fnExactNeighborsIn", recurses := true, plainKeys := false, apart := false, narrowed := true }
def FnExactNeighborsInUptoSaid : Prop := fnExactNeighborsInUptoRow.holds Try.pinned (OpenSpec.upto fnExactNeighborsInSpec)

end Rows
end Go.Proofs.Ytfnhfpahdgbfgaa
