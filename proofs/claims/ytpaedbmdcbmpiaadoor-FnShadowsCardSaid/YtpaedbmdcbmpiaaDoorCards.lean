/-
  DERIVED. GIVEN WITH THE SEED: THE CARDS: each row of YtpaedbmdcbmpiaaDoorRows.lean that lists a variable, with what it lists TIED to the program's text (the seventh form; the later family's looks); each row that meets fmt, with fmt's text TOLD by the authors' own Lean function (tested against real Go, not proved from fmt's source: count such statements apart). THE CARD IS WHAT COUNTS. Prove the row's statement (the work); the ties are given (YtpaedbmdcbmpiaaDoorTie.lean); close each card by the builder's one call (the guide's Derived/Test/ToyasCard.lean, 'card_holds'). Laid BY PROGRAM, IN A SANDBOX (cutbox-door.mjs). By AI agents, Wed Nov 11 2026. No macro, syntax, notation, axiom, sorry.
-/
import Derived.Test.YtpaedbmdcbmpiaaDoorRows
import GoSem.ClaimSeven
namespace Go.Proofs.YtpaedbmdcbmpiaaDoor
namespace Rows

/-- THE TIED CARD OF 'laws.FnShadows'. -/
def fnShadowsCard : Claim7 := { stood := { row := fnShadowsRow, standIns := [], harness := (true, "224c11f91bd74c6ff3f5bb31f792f5000814613b43785d78145dd32566cbad66"), looks := true }, kinds := [], alts := [], laidByText := true, laidKinds := [.sentinel, .sentinel], laidTests := true, laidLooks := .later }
def FnShadowsCardSaid : Prop := Claim7.holds Tryd.pinned (.plain (OpenSpec.ofChange fnShadowsSpec)) fnShadowsCard

/-- THE TIED CARD OF 'laws.FnExactShadowAt'. -/
def fnExactShadowAtCard : Claim7 := { stood := { row := fnExactShadowAtRow, standIns := [], harness := (true, "224c11f91bd74c6ff3f5bb31f792f5000814613b43785d78145dd32566cbad66"), looks := true }, kinds := [], alts := [], laidByText := true, laidKinds := [.sentinel, .sentinel], laidTests := true, laidLooks := .later }
def FnExactShadowAtCardSaid : Prop := Claim7.holds Tryd.pinned (.plain (OpenSpec.ofChange fnExactShadowAtSpec)) fnExactShadowAtCard

/-- THE SECOND FORM's CARD OF 'laws.FnShadows'. -/
def fnShadowsUptoCard : Claim7 := { stood := { row := fnShadowsUptoRow, standIns := [], harness := (true, "224c11f91bd74c6ff3f5bb31f792f5000814613b43785d78145dd32566cbad66"), looks := true }, kinds := [], alts := [], laidByText := true, laidKinds := [.sentinel, .sentinel], laidTests := true, laidLooks := .later }
def FnShadowsUptoCardSaid : Prop := Claim7.holds Tryd.pinned (.plain (OpenSpec.upto fnShadowsSpec)) fnShadowsUptoCard

/-- THE SECOND FORM's CARD OF 'laws.FnExactShadowAt'. -/
def fnExactShadowAtUptoCard : Claim7 := { stood := { row := fnExactShadowAtUptoRow, standIns := [], harness := (true, "224c11f91bd74c6ff3f5bb31f792f5000814613b43785d78145dd32566cbad66"), looks := true }, kinds := [], alts := [], laidByText := true, laidKinds := [.sentinel, .sentinel], laidTests := true, laidLooks := .later }
def FnExactShadowAtUptoCardSaid : Prop := Claim7.holds Tryd.pinned (.plain (OpenSpec.upto fnExactShadowAtSpec)) fnExactShadowAtUptoCard
end Rows
end Go.Proofs.YtpaedbmdcbmpiaaDoor
