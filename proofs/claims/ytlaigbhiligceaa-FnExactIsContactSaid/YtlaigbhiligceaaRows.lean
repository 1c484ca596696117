/-
  No cell of these rows narrows 'for every input' (looked for: loops, veiled, ifaces, maps, wideKeys, modest, calm, conditions, laid).
  DERIVED. THE GIVEN ROWS OF THIS SEAT. 4 by the template 'for every input the law returns true; each argument reads behind the call as it read before'; 0 by the template 'total and deterministic' (their statements: YtlaigbhiligceaaTotals.lean).
  GIVEN WITH THE SEED: the statements are not yours to turn. If you find one false, say at which input.
  Laid BY PROGRAM, IN A SANDBOX (cutbox-rows.mjs): the forced cells as the released guide's own fill.sh prints them over the translation 72e4bd9f84092d03… (all of the seat's roots in one cut). By AI agents, Wed Nov 11 2026. No macro, syntax, notation, axiom, sorry.
-/
import Derived.Test.YtlaigbhiligceaaChecked
import GoSem.Claim
import GoSem.ClaimJoined
import GoSem.ClaimMapViews
import Derived.JoinedTies
import Derived.KernelRfl
namespace Go.Proofs.Ytlaigbhiligceaa
/- THE CELL 'sum', in the pinned program and in every row, IS THE sha256 OF THE DUMP (.gsa) THAT YtlaigbhiligceaaProg.lean LOADS. Nothing in Lean hashes anything: it is a label: what it is worth is what the hold of that sum in a sandbox is worth. -/
noncomputable def Try.pinned : Pinned := { name := "ytlaigbhiligceaa", sum := "72e4bd9f84092d0367de0241ec28ebeffaceb6ffdfd6d86a67101aad1399f269", checked := Try.checked }
namespace Rows
def none {H : Type} : Left H := { results := [], args := [] }

/-- 'laws.FnExactIsContact': WHATEVER THE INPUT: true; the input reads as it did. -/
def fnExactIsContactSpec : ChangeSpec := { name := "fnExactIsContact", fn := fun _ => fun
  | [d1, d2] => { results := [.lit (.bool true)], args := [d1, d2] }
  | _ => none }
def fnExactIsContactRow : OpenClaim := { program := "ytlaigbhiligceaa", sum := "72e4bd9f84092d0367de0241ec28ebeffaceb6ffdfd6d86a67101aad1399f269", func := "loop.example/g00599/laws.FnExactIsContact", spec := "fnExactIsContact", apart := false }
def FnExactIsContactSaid : Prop := fnExactIsContactRow.holds Try.pinned (OpenSpec.ofChange fnExactIsContactSpec)

/-- ITS FALSE NEIGHBOUR: 'it returns false'. Refute it at one input. -/
def fnExactIsContactWrong : ChangeSpec := { name := "fnExactIsContact", fn := fun _ => fun
  | [d1, d2] => { results := [.lit (.bool false)], args := [d1, d2] }
  | _ => none }
def FnExactIsContactWrongFalsely : Prop := fnExactIsContactRow.holds Try.pinned (OpenSpec.ofChange fnExactIsContactWrong)

/-- 'laws.FnExactIsPlan': WHATEVER THE INPUT: true; the input reads as it did. -/
def fnExactIsPlanSpec : ChangeSpec := { name := "fnExactIsPlan", fn := fun _ => fun
  | [d1, d2] => { results := [.lit (.bool true)], args := [d1, d2] }
  | _ => none }
def fnExactIsPlanRow : OpenClaim := { program := "ytlaigbhiligceaa", sum := "72e4bd9f84092d0367de0241ec28ebeffaceb6ffdfd6d86a67101aad1399f269", func := "loop.example/g00599/laws.FnExactIsPlan", spec := "fnExactIsPlan", apart := false }
def FnExactIsPlanSaid : Prop := fnExactIsPlanRow.holds Try.pinned (OpenSpec.ofChange fnExactIsPlanSpec)

/-- ITS FALSE NEIGHBOUR: 'it returns false'. Refute it at one input. -/
def fnExactIsPlanWrong : ChangeSpec := { name := "fnExactIsPlan", fn := fun _ => fun
  | [d1, d2] => { results := [.lit (.bool false)], args := [d1, d2] }
  | _ => none }
def FnExactIsPlanWrongFalsely : Prop := fnExactIsPlanRow.holds Try.pinned (OpenSpec.ofChange fnExactIsPlanWrong)

/-- 'laws.FnExactCanSpeak': WHATEVER THE INPUT: true; the input reads as it did. -/
def fnExactCanSpeakSpec : ChangeSpec := { name := "fnExactCanSpeak", fn := fun _ => fun
  | [d1, d2, d3, d4] => { results := [.lit (.bool true)], args := [d1, d2, d3, d4] }
  | _ => none }
def fnExactCanSpeakRow : OpenClaim := { program := "ytlaigbhiligceaa", sum := "72e4bd9f84092d0367de0241ec28ebeffaceb6ffdfd6d86a67101aad1399f269", func := "loop.example/g00599/laws.FnExactCanSpeak", spec := "fnExactCanSpeak", apart := false }
def FnExactCanSpeakSaid : Prop := fnExactCanSpeakRow.holds Try.pinned (OpenSpec.ofChange fnExactCanSpeakSpec)

/-- ITS FALSE NEIGHBOUR: 'it returns false'. Refute it at one input. -/
def fnExactCanSpeakWrong : ChangeSpec := { name := "fnExactCanSpeak", fn := fun _ => fun
  | [d1, d2, d3, d4] => { results := [.lit (.bool false)], args := [d1, d2, d3, d4] }
  | _ => none }
def FnExactCanSpeakWrongFalsely : Prop := fnExactCanSpeakRow.holds Try.pinned (OpenSpec.ofChange fnExactCanSpeakWrong)

/-- 'laws.FnExactContactTicks': WHATEVER THE INPUT: true; the input reads as it did. -/
def fnExactContactTicksSpec : ChangeSpec := { name := "fnExactContactTicks", fn := fun _ => fun
  | [d] => { results := [.lit (.bool true)], args := [d] }
  | _ => none }
def fnExactContactTicksRow : OpenClaim := { program := "ytlaigbhiligceaa", sum := "72e4bd9f84092d0367de0241ec28ebeffaceb6ffdfd6d86a67101aad1399f269", func := "loop.example/g00599/laws.FnExactContactTicks", spec := "fnExactContactTicks", apart := false }
def FnExactContactTicksSaid : Prop := fnExactContactTicksRow.holds Try.pinned (OpenSpec.ofChange fnExactContactTicksSpec)

/-- ITS FALSE NEIGHBOUR: 'it returns false'. Refute it at one input. -/
def fnExactContactTicksWrong : ChangeSpec := { name := "fnExactContactTicks", fn := fun _ => fun
  | [d] => { results := [.lit (.bool false)], args := [d] }
  | _ => none }
def FnExactContactTicksWrongFalsely : Prop := fnExactContactTicksRow.holds Try.pinned (OpenSpec.ofChange fnExactContactTicksWrong)

/- THE SECOND FORM. 'bulk': how many values and letters a reading holds, each counted each time it is reached (what is shared counts as often as it is met; a slice's spare places count too). A statement '..UptoSaid' is the law's where the arguments, and the package variables that the reading takes, are together of bulk at most 1048576: NARROWER than '..Said'. Prove '..Said' where nothing that the law and all that it calls make is longer than what came in: it says more and counts as full. Else prove '..UptoSaid'. A law counts once. -/
mutual
def uptoBulk {H : Type} : DataW H → Nat
  | .lit (.string bytes) => bytes.length + 1
  | .lit _ => 1
  | .nil => 1
  | .ptr d => uptoBulk d + 1
  | .slice elems spare => uptoBulkAll elems + uptoBulkAll spare + 1
  | .agg parts => uptoBulkAll parts + 1
  | .iface _ d => uptoBulk d + 1
  | .map entries => uptoBulkEntries entries + 1
  | .held _ => 1
def uptoBulkAll {H : Type} : List (DataW H) → Nat
  | [] => 0
  | d :: r => uptoBulk d + uptoBulkAll r
def uptoBulkEntries {H : Type} : List (Lit × DataW H) → Nat
  | [] => 0
  | x :: r => uptoBulkEntry x + uptoBulkEntries r
def uptoBulkEntry {H : Type} : Lit × DataW H → Nat
  | (.string bytes, d) => bytes.length + uptoBulk d + 1
  | (_, d) => uptoBulk d + 1
 end
def uptoSmall : (H : Type) → List (DataW H) → Bool := fun _ ds => decide (uptoBulkAll ds ≤ 1048576)
def OpenSpec.upto (s : _root_.Go.ChangeSpec) : _root_.Go.OpenSpec := { _root_.Go.OpenSpec.ofChange s with cond := some uptoSmall }

/-- 'laws.FnExactIsContact', WHERE WHAT IT READS IS OF BULK AT MOST 1048576: true; the input reads as it did. -/
def fnExactIsContactUptoRow : OpenClaim := { program := "ytlaigbhiligceaa", sum := "72e4bd9f84092d0367de0241ec28ebeffaceb6ffdfd6d86a67101aad1399f269", func := "loop.example/g00599/laws.FnExactIsContact", spec := "fnExactIsContact", apart := false, narrowed := true }
def FnExactIsContactUptoSaid : Prop := fnExactIsContactUptoRow.holds Try.pinned (OpenSpec.upto fnExactIsContactSpec)

/-- 'laws.FnExactIsPlan', WHERE WHAT IT READS IS OF BULK AT MOST 1048576: true; the input reads as it did. -/
def fnExactIsPlanUptoRow : OpenClaim := { program := "ytlaigbhiligceaa", sum := "72e4bd9f84092d0367de0241ec28ebeffaceb6ffdfd6d86a67101aad1399f269", func := "loop.example/g00599/laws.FnExactIsPlan", spec := "fnExactIsPlan", apart := false, narrowed := true }
def FnExactIsPlanUptoSaid : Prop := fnExactIsPlanUptoRow.holds Try.pinned (OpenSpec.upto fnExactIsPlanSpec)

/-- 'laws.FnExactCanSpeak', WHERE WHAT IT READS IS OF BULK AT MOST 1048576: true; the input reads as it did. -/
def fnExactCanSpeakUptoRow : OpenClaim := { program := "ytlaigbhiligceaa", sum := "72e4bd9f84092d0367de0241ec28ebeffaceb6ffdfd6d86a67101aad1399f269", func := "loop.example/g00599/laws.FnExactCanSpeak", spec := "fnExactCanSpeak", apart := false, narrowed := true }
def FnExactCanSpeakUptoSaid : Prop := fnExactCanSpeakUptoRow.holds Try.pinned (OpenSpec.upto fnExactCanSpeakSpec)

/-- 'laws.FnExactContactTicks', WHERE WHAT IT READS IS OF BULK AT MOST 1048576: true; the input reads as it did. -/
def fnExactContactTicksUptoRow : OpenClaim := { program := "ytlaigbhiligceaa", sum := "72e4bd9f84092d0367de0241ec28ebeffaceb6ffdfd6d86a67101aad1399f269", func := "loop.example/g00599/laws.FnExactContactTicks", spec := "fnExactContactTicks", apart := false, narrowed := true }
def FnExactContactTicksUptoSaid : Prop := fnExactContactTicksUptoRow.holds Try.pinned (OpenSpec.upto fnExactContactTicksSpec)

end Rows
end Go.Proofs.Ytlaigbhiligceaa
