/-
  No cell of these rows narrows 'for every input' (looked for: loops, veiled, ifaces, maps, wideKeys, modest, calm, conditions, laid).
  DERIVED. THE GIVEN ROWS OF THIS SEAT. 5 by the template 'for every input the law returns true; each argument reads behind the call as it read before'; 0 by the template 'total and deterministic' (their statements: YtmmnnbgfomcihaaTotals.lean).
  GIVEN WITH THE SEED: the statements are not yours to turn. If you find one false, say at which input.
  Laid BY PROGRAM, IN A SANDBOX (cutbox-rows.mjs): the forced cells as the released guide's own fill.sh prints them over the translation abe1521c568a116c… (all of the seat's roots in one cut). By AI agents, Wed Nov 11 2026. No macro, syntax, notation, axiom, sorry.
-/
import Derived.Test.YtmmnnbgfomcihaaChecked
import GoSem.Claim
import GoSem.ClaimJoined
import GoSem.ClaimMapViews
import Derived.JoinedTies
import Derived.KernelRfl
namespace Go.Proofs.Ytmmnnbgfomcihaa
/- THE CELL 'sum', in the pinned program and in every row, IS THE sha256 OF THE DUMP (.gsa) THAT YtmmnnbgfomcihaaProg.lean LOADS. Nothing in Lean hashes anything: it is a label: what it is worth is what the hold of that sum in a sandbox is worth. -/
noncomputable def Try.pinned : Pinned := { name := "ytmmnnbgfomcihaa", sum := "abe1521c568a116cc9312cefdf13c97190f22e8e19ec86d7c34a7905f0a16928", checked := Try.checked }
namespace Rows
def none {H : Type} : Left H := { results := [], args := [] }

/-- 'laws.FnWeather': WHATEVER THE INPUT: true; the input reads as it did. -/
def fnWeatherSpec : ChangeSpec := { name := "fnWeather", fn := fun _ => fun
  | [d] => { results := [.lit (.bool true)], args := [d] }
  | _ => none }
def fnWeatherRow : OpenClaim := { program := "ytmmnnbgfomcihaa", sum := "abe1521c568a116cc9312cefdf13c97190f22e8e19ec86d7c34a7905f0a16928", func := "loop.example/g00599/laws.FnWeather", spec := "fnWeather", unfollowed := true, recurses := true, apart := false }
def FnWeatherSaid : Prop := fnWeatherRow.holds Try.pinned (OpenSpec.ofChange fnWeatherSpec)

/-- ITS FALSE NEIGHBOUR: 'it returns false'. Refute it at one input. -/
def fnWeatherWrong : ChangeSpec := { name := "fnWeather", fn := fun _ => fun
  | [d] => { results := [.lit (.bool false)], args := [d] }
  | _ => none }
def FnWeatherWrongFalsely : Prop := fnWeatherRow.holds Try.pinned (OpenSpec.ofChange fnWeatherWrong)

/-- 'laws.FnExactCloudSpans': WHATEVER THE INPUT: true; the input reads as it did. -/
def fnExactCloudSpansSpec : ChangeSpec := { name := "fnExactCloudSpans", fn := fun _ => fun
  | [d1, d2] => { results := [.lit (.bool true)], args := [d1, d2] }
  | _ => none }
def fnExactCloudSpansRow : OpenClaim := { program := "ytmmnnbgfomcihaa", sum := "abe1521c568a116cc9312cefdf13c97190f22e8e19ec86d7c34a7905f0a16928", func := "loop.example/g00599/laws.FnExactCloudSpans", spec := "fnExactCloudSpans", unfollowed := true, recurses := true, apart := false }
def FnExactCloudSpansSaid : Prop := fnExactCloudSpansRow.holds Try.pinned (OpenSpec.ofChange fnExactCloudSpansSpec)

/-- ITS FALSE NEIGHBOUR: 'it returns false'. Refute it at one input. -/
def fnExactCloudSpansWrong : ChangeSpec := { name := "fnExactCloudSpans", fn := fun _ => fun
  | [d1, d2] => { results := [.lit (.bool false)], args := [d1, d2] }
  | _ => none }
def FnExactCloudSpansWrongFalsely : Prop := fnExactCloudSpansRow.holds Try.pinned (OpenSpec.ofChange fnExactCloudSpansWrong)

/-- 'laws.FnExactCutClouds': WHATEVER THE INPUT: true; the input reads as it did. -/
def fnExactCutCloudsSpec : ChangeSpec := { name := "fnExactCutClouds", fn := fun _ => fun
  | [d1, d2] => { results := [.lit (.bool true)], args := [d1, d2] }
  | _ => none }
def fnExactCutCloudsRow : OpenClaim := { program := "ytmmnnbgfomcihaa", sum := "abe1521c568a116cc9312cefdf13c97190f22e8e19ec86d7c34a7905f0a16928", func := "loop.example/g00599/laws.FnExactCutClouds", spec := "fnExactCutClouds", unfollowed := true, recurses := true, apart := false }
def FnExactCutCloudsSaid : Prop := fnExactCutCloudsRow.holds Try.pinned (OpenSpec.ofChange fnExactCutCloudsSpec)

/-- ITS FALSE NEIGHBOUR: 'it returns false'. Refute it at one input. -/
def fnExactCutCloudsWrong : ChangeSpec := { name := "fnExactCutClouds", fn := fun _ => fun
  | [d1, d2] => { results := [.lit (.bool false)], args := [d1, d2] }
  | _ => none }
def FnExactCutCloudsWrongFalsely : Prop := fnExactCutCloudsRow.holds Try.pinned (OpenSpec.ofChange fnExactCutCloudsWrong)

/-- 'laws.FnExactIsCovered': WHATEVER THE INPUT: true; the input reads as it did. -/
def fnExactIsCoveredSpec : ChangeSpec := { name := "fnExactIsCovered", fn := fun _ => fun
  | [d1, d2, d3] => { results := [.lit (.bool true)], args := [d1, d2, d3] }
  | _ => none }
def fnExactIsCoveredRow : OpenClaim := { program := "ytmmnnbgfomcihaa", sum := "abe1521c568a116cc9312cefdf13c97190f22e8e19ec86d7c34a7905f0a16928", func := "loop.example/g00599/laws.FnExactIsCovered", spec := "fnExactIsCovered", apart := false }
def FnExactIsCoveredSaid : Prop := fnExactIsCoveredRow.holds Try.pinned (OpenSpec.ofChange fnExactIsCoveredSpec)

/-- ITS FALSE NEIGHBOUR: 'it returns false'. Refute it at one input. -/
def fnExactIsCoveredWrong : ChangeSpec := { name := "fnExactIsCovered", fn := fun _ => fun
  | [d1, d2, d3] => { results := [.lit (.bool false)], args := [d1, d2, d3] }
  | _ => none }
def FnExactIsCoveredWrongFalsely : Prop := fnExactIsCoveredRow.holds Try.pinned (OpenSpec.ofChange fnExactIsCoveredWrong)

/-- 'laws.FnExactLostTicks': WHATEVER THE INPUT: true; the input reads as it did. -/
def fnExactLostTicksSpec : ChangeSpec := { name := "fnExactLostTicks", fn := fun _ => fun
  | [d1, d2] => { results := [.lit (.bool true)], args := [d1, d2] }
  | _ => none }
def fnExactLostTicksRow : OpenClaim := { program := "ytmmnnbgfomcihaa", sum := "abe1521c568a116cc9312cefdf13c97190f22e8e19ec86d7c34a7905f0a16928", func := "loop.example/g00599/laws.FnExactLostTicks", spec := "fnExactLostTicks", unfollowed := true, recurses := true, apart := false }
def FnExactLostTicksSaid : Prop := fnExactLostTicksRow.holds Try.pinned (OpenSpec.ofChange fnExactLostTicksSpec)

/-- ITS FALSE NEIGHBOUR: 'it returns false'. Refute it at one input. -/
def fnExactLostTicksWrong : ChangeSpec := { name := "fnExactLostTicks", fn := fun _ => fun
  | [d1, d2] => { results := [.lit (.bool false)], args := [d1, d2] }
  | _ => none }
def FnExactLostTicksWrongFalsely : Prop := fnExactLostTicksRow.holds Try.pinned (OpenSpec.ofChange fnExactLostTicksWrong)

/- THE SECOND FORM. 'bulk': how many values and letters a reading holds, each counted each time it is reached (what is shared counts as often as it is met; a slice's spare places count too). A statement '..UptoSaid' is the law's where the arguments, and the package variables that the reading takes, are together of bulk at most 1048576: NARROWER than '..Said'. Prove '..Said' where nothing that the law and all that it calls make is longer than what came in: it says more and counts as full. Else prove '..UptoSaid'. A law counts once. -/
mutual
def uptoBulk {H : Type} : DataW H → Nat
  | .lit (.string bytes) => bytes.length + 1
  | .lit _ => 1
  | .nil => 1
  | .ptr d => uptoBulk d + 1
  | .slice elems spare => uptoBulkAll elems + uptoBulkAll spare + 1
  | .agg parts => uptoBulkAll parts + 1
  | .iface _ d => uptoBulk d + 1
  | .map entries => uptoBulkEntries entries + 1
  | .held _ => 1
def uptoBulkAll {H : Type} : List (DataW H) → Nat
  | [] => 0
  | d :: r => uptoBulk d + uptoBulkAll r
def uptoBulkEntries {H : Type} : List (Lit × DataW H) → Nat
  | [] => 0
  | x :: r => uptoBulkEntry x + uptoBulkEntries r
def uptoBulkEntry {H : Type} : Lit × DataW H → Nat
  | (.string bytes, d) => bytes.length + uptoBulk d + 1
  | (_, d) => uptoBulk d + 1
 end
def uptoSmall : (H : Type) → List (DataW H) → Bool := fun _ ds => decide (uptoBulkAll ds ≤ 1048576)
def OpenSpec.upto (s : _root_.Go.ChangeSpec) : _root_.Go.OpenSpec := { _root_.Go.OpenSpec.ofChange s with cond := some uptoSmall }

/-- 'laws.FnWeather', WHERE WHAT IT READS IS OF BULK AT MOST 1048576: true; the input reads as it did. -/
def fnWeatherUptoRow : OpenClaim := { program := "ytmmnnbgfomcihaa", sum := "abe1521c568a116cc9312cefdf13c97190f22e8e19ec86d7c34a7905f0a16928", func := "loop.example/g00599/laws.FnWeather", spec := "fnWeather", unfollowed := true, recurses := true, apart := false, narrowed := true }
def FnWeatherUptoSaid : Prop := fnWeatherUptoRow.holds Try.pinned (OpenSpec.upto fnWeatherSpec)

/-- 'laws.FnExactCloudSpans', WHERE WHAT IT READS IS OF BULK AT MOST 1048576: true; the input reads as it did. -/
def fnExactCloudSpansUptoRow : OpenClaim := { program := "ytmmnnbgfomcihaa", sum := "abe1521c568a116cc9312cefdf13c97190f22e8e19ec86d7c34a7905f0a16928", func := "loop.example/g00599/laws.FnExactCloudSpans", spec := "fnExactCloudSpans", unfollowed := true, recurses := true, apart := false, narrowed := true }
def FnExactCloudSpansUptoSaid : Prop := fnExactCloudSpansUptoRow.holds Try.pinned (OpenSpec.upto fnExactCloudSpansSpec)

/-- 'laws.FnExactCutClouds', WHERE WHAT IT READS IS OF BULK AT MOST 1048576: true; the input reads as it did. -/
def fnExactCutCloudsUptoRow : OpenClaim := { program := "ytmmnnbgfomcihaa", sum := "abe1521c568a116cc9312cefdf13c97190f22e8e19ec86d7c34a7905f0a16928", func := "loop.example/g00599/laws.FnExactCutClouds", spec := "fnExactCutClouds", unfollowed := true, recurses := true, apart := false, narrowed := true }
def FnExactCutCloudsUptoSaid : Prop := fnExactCutCloudsUptoRow.holds Try.pinned (OpenSpec.upto fnExactCutCloudsSpec)

/-- 'laws.FnExactIsCovered', WHERE WHAT IT READS IS OF BULK AT MOST 1048576: true; the input reads as it did. -/
def fnExactIsCoveredUptoRow : OpenClaim := { program := "ytmmnnbgfomcihaa", sum := "abe1521c568a116cc9312cefdf13c97190f22e8e19ec86d7c34a7905f0a16928", func := "loop.example/g00599/laws.FnExactIsCovered", spec := "fnExactIsCovered", apart := false, narrowed := true }
def FnExactIsCoveredUptoSaid : Prop := fnExactIsCoveredUptoRow.holds Try.pinned (OpenSpec.upto fnExactIsCoveredSpec)

/-- 'laws.FnExactLostTicks', WHERE WHAT IT READS IS OF BULK AT MOST 1048576: true; the input reads as it did. -/
def fnExactLostTicksUptoRow : OpenClaim := { program := "ytmmnnbgfomcihaa", sum := "abe1521c568a116cc9312cefdf13c97190f22e8e19ec86d7c34a7905f0a16928", func := "loop.example/g00599/laws.FnExactLostTicks", spec := "fnExactLostTicks", unfollowed := true, recurses := true, apart := false, narrowed := true }
def FnExactLostTicksUptoSaid : Prop := fnExactLostTicksUptoRow.holds Try.pinned (OpenSpec.upto fnExactLostTicksSpec)

end Rows
end Go.Proofs.Ytmmnnbgfomcihaa
