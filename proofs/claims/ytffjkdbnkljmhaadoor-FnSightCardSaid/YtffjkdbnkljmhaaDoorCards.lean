/-
  DERIVED. GIVEN WITH THE SEED: THE CARDS: each row of YtffjkdbnkljmhaaDoorRows.lean that lists a variable, with what it lists TIED to the program's text (the seventh form; the later family's looks); each row that meets fmt, with fmt's text TOLD by the authors' own Lean function (tested against real Go, not proved from fmt's source: count such statements apart). THE CARD IS WHAT COUNTS. Prove the row's statement (the work); the ties are given (YtffjkdbnkljmhaaDoorTie.lean); close each card by the builder's one call (the guide's Derived/Test/ToyasCard.lean, 'card_holds'). Laid BY PROGRAM, IN A SANDBOX (cutbox-door.mjs). By AI agents, Wed Nov 11 2026. No macro, syntax, notation, axiom, sorry.
-/
import Derived.Test.YtffjkdbnkljmhaaDoorRows
import GoSem.ClaimSeven
namespace Go.Proofs.YtffjkdbnkljmhaaDoor
namespace Rows

/-- THE TIED CARD OF 'laws.FnSkies'. -/
def fnSkiesCard : Claim7 := { stood := { row := fnSkiesRow, standIns := [], harness := (true, "576757228678762cd23e538c7d70a07a00ba032b6925095260f658d5a739d8c2"), looks := true }, kinds := [], alts := [], laidByText := true, laidKinds := [.sentinel, .sentinel], laidTests := true, laidLooks := .later }
def FnSkiesCardSaid : Prop := Claim7.holds Tryd.pinned (.plain (OpenSpec.ofChange fnSkiesSpec)) fnSkiesCard

/-- THE TIED CARD OF 'laws.FnSight'. -/
def fnSightCard : Claim7 := { stood := { row := fnSightRow, standIns := [], harness := (true, "576757228678762cd23e538c7d70a07a00ba032b6925095260f658d5a739d8c2"), looks := true }, kinds := [], alts := [], laidByText := true, laidKinds := [.sentinel, .sentinel], laidTests := true, laidLooks := .later }
def FnSightCardSaid : Prop := Claim7.holds Tryd.pinned (.plain (OpenSpec.ofChange fnSightSpec)) fnSightCard

/-- THE TIED CARD OF 'laws.FnExactSightAt'. -/
def fnExactSightAtCard : Claim7 := { stood := { row := fnExactSightAtRow, standIns := [], harness := (true, "576757228678762cd23e538c7d70a07a00ba032b6925095260f658d5a739d8c2"), looks := true }, kinds := [], alts := [], laidByText := true, laidKinds := [.sentinel, .sentinel], laidTests := true, laidLooks := .later }
def FnExactSightAtCardSaid : Prop := Claim7.holds Tryd.pinned (.plain (OpenSpec.ofChange fnExactSightAtSpec)) fnExactSightAtCard

/-- THE TIED CARD OF 'laws.FnExactIsSure'. -/
def fnExactIsSureCard : Claim7 := { stood := { row := fnExactIsSureRow, standIns := [], harness := (true, "576757228678762cd23e538c7d70a07a00ba032b6925095260f658d5a739d8c2"), looks := true }, kinds := [], alts := [], laidByText := true, laidKinds := [.sentinel, .sentinel], laidTests := true, laidLooks := .later }
def FnExactIsSureCardSaid : Prop := Claim7.holds Tryd.pinned (.plain (OpenSpec.ofChange fnExactIsSureSpec)) fnExactIsSureCard

/-- THE TIED CARD OF 'laws.FnExactSureNeighbors'. -/
def fnExactSureNeighborsCard : Claim7 := { stood := { row := fnExactSureNeighborsRow, standIns := [], harness := (true, "576757228678762cd23e538c7d70a07a00ba032b6925095260f658d5a739d8c2"), looks := true }, kinds := [], alts := [], laidByText := true, laidKinds := [.sentinel, .sentinel], laidTests := true, laidLooks := .later }
def FnExactSureNeighborsCardSaid : Prop := Claim7.holds Tryd.pinned (.plain (OpenSpec.ofChange fnExactSureNeighborsSpec)) fnExactSureNeighborsCard

/-- THE SECOND FORM's CARD OF 'laws.FnSkies'. -/
def fnSkiesUptoCard : Claim7 := { stood := { row := fnSkiesUptoRow, standIns := [], harness := (true, "576757228678762cd23e538c7d70a07a00ba032b6925095260f658d5a739d8c2"), looks := true }, kinds := [], alts := [], laidByText := true, laidKinds := [.sentinel, .sentinel], laidTests := true, laidLooks := .later }
def FnSkiesUptoCardSaid : Prop := Claim7.holds Tryd.pinned (.plain (OpenSpec.upto fnSkiesSpec)) fnSkiesUptoCard

/-- THE SECOND FORM's CARD OF 'laws.FnSight'. -/
def fnSightUptoCard : Claim7 := { stood := { row := fnSightUptoRow, standIns := [], harness := (true, "576757228678762cd23e538c7d70a07a00ba032b6925095260f658d5a739d8c2"), looks := true }, kinds := [], alts := [], laidByText := true, laidKinds := [.sentinel, .sentinel], laidTests := true, laidLooks := .later }
def FnSightUptoCardSaid : Prop := Claim7.holds Tryd.pinned (.plain (OpenSpec.upto fnSightSpec)) fnSightUptoCard

/-- THE SECOND FORM's CARD OF 'laws.FnExactSightAt'. -/
def fnExactSightAtUptoCard : Claim7 := { stood := { row := fnExactSightAtUptoRow, standIns := [], harness := (true, "576757228678762cd23e538c7d70a07a00ba032b6925095260f658d5a739d8c2"), looks := true }, kinds := [], alts := [], laidByText := true, laidKinds := [.sentinel, .sentinel], laidTests := true, laidLooks := .later }
def FnExactSightAtUptoCardSaid : Prop := Claim7.holds Tryd.pinned (.plain (OpenSpec.upto fnExactSightAtSpec)) fnExactSightAtUptoCard

/-- THE SECOND FORM's CARD OF 'laws.FnExactIsSure'. -/
def fnExactIsSureUptoCard : Claim7 := { stood := { row := fnExactIsSureUptoRow, standIns := [], harness := (true, "576757228678762cd23e538c7d70a07a00ba032b6925095260f658d5a739d8c2"), looks := true }, kinds := [], alts := [], laidByText := true, laidKinds := [.sentinel, .sentinel], laidTests := true, laidLooks := .later }
def FnExactIsSureUptoCardSaid : Prop := Claim7.holds Tryd.pinned (.plain (OpenSpec.upto fnExactIsSureSpec)) fnExactIsSureUptoCard

/-- THE SECOND FORM's CARD OF 'laws.FnExactSureNeighbors'. -/
def fnExactSureNeighborsUptoCard : Claim7 := { stood := { row := fnExactSureNeighborsUptoRow, standIns := [], harness := (true, "576757228678762cd23e538c7d70a07a00ba032b6925095260f658d5a739d8c2"), looks := true }, kinds := [], alts := [], laidByText := true, laidKinds := [.sentinel, .sentinel], laidTests := true, laidLooks := .later }
def FnExactSureNeighborsUptoCardSaid : Prop := Claim7.holds Tryd.pinned (.plain (OpenSpec.upto fnExactSureNeighborsSpec)) fnExactSureNeighborsUptoCard
end Rows
end Go.Proofs.YtffjkdbnkljmhaaDoor
