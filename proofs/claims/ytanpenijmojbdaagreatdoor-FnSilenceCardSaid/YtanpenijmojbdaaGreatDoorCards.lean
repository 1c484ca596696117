/-
  DERIVED. GIVEN WITH THE SEED: THE CARDS: each row of YtanpenijmojbdaaGreatDoorRows.lean that lists a variable, with what it lists TIED to the program's text (the seventh form; the later family's looks); each row that meets fmt, with fmt's text TOLD by the authors' own Lean function (tested against real Go, not proved from fmt's source: count such statements apart). THE CARD IS WHAT COUNTS. Prove the row's statement (the work); the ties are given (YtanpenijmojbdaaGreatDoorTie.lean); close each card by the builder's one call (the guide's Derived/Test/ToyasCard.lean, 'card_holds'). Laid BY PROGRAM, IN A SANDBOX (cutbox-door.mjs). By AI agents, Wed Nov 11 2026. No macro, syntax, notation, axiom, sorry.
-/
import Derived.Test.YtanpenijmojbdaaGreatDoorRows
import GoSem.ClaimSeven
namespace Go.Proofs.YtanpenijmojbdaaGreatDoor
namespace Rows

/-- THE TIED CARD OF 'laws.FnSilence'. -/
def fnSilenceCard : Claim7 := { stood := { row := fnSilenceRow, standIns := [], harness := (true, "a3b9975d2386857ae678c13bf3c8d5ec18621b37cb3f5e46f13f985c618b033d"), looks := true }, kinds := [], alts := [], laidByText := true, laidKinds := [.sentinel, .sentinel], laidTests := true, laidLooks := .later }
def FnSilenceCardSaid : Prop := Claim7.holds Tryz.pinned (.plain (OpenSpec.ofChange fnSilenceSpec)) fnSilenceCard

/-- THE TIED CARD OF 'laws.FnExactQuietSpans'. -/
def fnExactQuietSpansCard : Claim7 := { stood := { row := fnExactQuietSpansRow, standIns := [], harness := (true, "a3b9975d2386857ae678c13bf3c8d5ec18621b37cb3f5e46f13f985c618b033d"), looks := true }, kinds := [], alts := [], laidByText := true, laidKinds := [.sentinel, .sentinel], laidTests := true, laidLooks := .later }
def FnExactQuietSpansCardSaid : Prop := Claim7.holds Tryz.pinned (.plain (OpenSpec.ofChange fnExactQuietSpansSpec)) fnExactQuietSpansCard

/-- THE TIED CARD OF 'laws.FnExactSpeakingSpans'. -/
def fnExactSpeakingSpansCard : Claim7 := { stood := { row := fnExactSpeakingSpansRow, standIns := [], harness := (true, "a3b9975d2386857ae678c13bf3c8d5ec18621b37cb3f5e46f13f985c618b033d"), looks := true }, kinds := [], alts := [], laidByText := true, laidKinds := [.sentinel, .sentinel], laidTests := true, laidLooks := .later }
def FnExactSpeakingSpansCardSaid : Prop := Claim7.holds Tryz.pinned (.plain (OpenSpec.ofChange fnExactSpeakingSpansSpec)) fnExactSpeakingSpansCard

/-- THE SECOND FORM's CARD OF 'laws.FnSilence'. -/
def fnSilenceUptoCard : Claim7 := { stood := { row := fnSilenceUptoRow, standIns := [], harness := (true, "a3b9975d2386857ae678c13bf3c8d5ec18621b37cb3f5e46f13f985c618b033d"), looks := true }, kinds := [], alts := [], laidByText := true, laidKinds := [.sentinel, .sentinel], laidTests := true, laidLooks := .later }
def FnSilenceUptoCardSaid : Prop := Claim7.holds Tryz.pinned (.plain (OpenSpec.upto fnSilenceSpec)) fnSilenceUptoCard

/-- THE SECOND FORM's CARD OF 'laws.FnExactQuietSpans'. -/
def fnExactQuietSpansUptoCard : Claim7 := { stood := { row := fnExactQuietSpansUptoRow, standIns := [], harness := (true, "a3b9975d2386857ae678c13bf3c8d5ec18621b37cb3f5e46f13f985c618b033d"), looks := true }, kinds := [], alts := [], laidByText := true, laidKinds := [.sentinel, .sentinel], laidTests := true, laidLooks := .later }
def FnExactQuietSpansUptoCardSaid : Prop := Claim7.holds Tryz.pinned (.plain (OpenSpec.upto fnExactQuietSpansSpec)) fnExactQuietSpansUptoCard

/-- THE SECOND FORM's CARD OF 'laws.FnExactSpeakingSpans'. -/
def fnExactSpeakingSpansUptoCard : Claim7 := { stood := { row := fnExactSpeakingSpansUptoRow, standIns := [], harness := (true, "a3b9975d2386857ae678c13bf3c8d5ec18621b37cb3f5e46f13f985c618b033d"), looks := true }, kinds := [], alts := [], laidByText := true, laidKinds := [.sentinel, .sentinel], laidTests := true, laidLooks := .later }
def FnExactSpeakingSpansUptoCardSaid : Prop := Claim7.holds Tryz.pinned (.plain (OpenSpec.upto fnExactSpeakingSpansSpec)) fnExactSpeakingSpansUptoCard
end Rows
end Go.Proofs.YtanpenijmojbdaaGreatDoor
