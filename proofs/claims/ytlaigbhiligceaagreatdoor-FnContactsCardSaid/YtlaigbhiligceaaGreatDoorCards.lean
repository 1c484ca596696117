/-
  DERIVED. GIVEN WITH THE SEED: THE CARDS: each row of YtlaigbhiligceaaGreatDoorRows.lean that lists a variable, with what it lists TIED to the program's text (the seventh form; the later family's looks); each row that meets fmt, with fmt's text TOLD by the authors' own Lean function (tested against real Go, not proved from fmt's source: count such statements apart). THE CARD IS WHAT COUNTS. Prove the row's statement (the work); the ties are given (YtlaigbhiligceaaGreatDoorTie.lean); close each card by the builder's one call (the guide's Derived/Test/ToyasCard.lean, 'card_holds'). Laid BY PROGRAM, IN A SANDBOX (cutbox-door.mjs). By AI agents, Wed Nov 11 2026. No macro, syntax, notation, axiom, sorry.
-/
import Derived.Test.YtlaigbhiligceaaGreatDoorRows
import GoSem.ClaimSeven
namespace Go.Proofs.YtlaigbhiligceaaGreatDoor
namespace Rows

/-- THE TIED CARD OF 'laws.FnContacts'. -/
def fnContactsCard : Claim7 := { stood := { row := fnContactsRow, standIns := [], harness := (true, "624d8ba0a6f33abf3c5177ebde33ea7fe0071b856948e8631e833e4f73da4756"), looks := true }, kinds := [], alts := [], laidByText := true, laidKinds := [.handle, .sentinel, .sentinel], laidTests := true, laidLooks := .later }
def FnContactsCardSaid : Prop := Claim7.holds Tryz.pinned (.plain (OpenSpec.ofChange fnContactsSpec)) fnContactsCard

/-- THE TIED CARD OF 'laws.FnExactContactsOf'. -/
def fnExactContactsOfCard : Claim7 := { stood := { row := fnExactContactsOfRow, standIns := [], harness := (true, "624d8ba0a6f33abf3c5177ebde33ea7fe0071b856948e8631e833e4f73da4756"), looks := true }, kinds := [], alts := [], laidByText := true, laidKinds := [.sentinel, .sentinel], laidTests := true, laidLooks := .later }
def FnExactContactsOfCardSaid : Prop := Claim7.holds Tryz.pinned (.plain (OpenSpec.ofChange fnExactContactsOfSpec)) fnExactContactsOfCard

/-- THE TIED CARD OF 'laws.FnExactPlanOf'. -/
def fnExactPlanOfCard : Claim7 := { stood := { row := fnExactPlanOfRow, standIns := [], harness := (true, "624d8ba0a6f33abf3c5177ebde33ea7fe0071b856948e8631e833e4f73da4756"), looks := true }, kinds := [], alts := [], laidByText := true, laidKinds := [.handle, .sentinel, .sentinel], laidTests := true, laidLooks := .later }
def FnExactPlanOfCardSaid : Prop := Claim7.holds Tryz.pinned (.plain (OpenSpec.ofChange fnExactPlanOfSpec)) fnExactPlanOfCard

/-- THE SECOND FORM's CARD OF 'laws.FnContacts'. -/
def fnContactsUptoCard : Claim7 := { stood := { row := fnContactsUptoRow, standIns := [], harness := (true, "624d8ba0a6f33abf3c5177ebde33ea7fe0071b856948e8631e833e4f73da4756"), looks := true }, kinds := [], alts := [], laidByText := true, laidKinds := [.handle, .sentinel, .sentinel], laidTests := true, laidLooks := .later }
def FnContactsUptoCardSaid : Prop := Claim7.holds Tryz.pinned (.plain (OpenSpec.upto fnContactsSpec)) fnContactsUptoCard

/-- THE SECOND FORM's CARD OF 'laws.FnExactContactsOf'. -/
def fnExactContactsOfUptoCard : Claim7 := { stood := { row := fnExactContactsOfUptoRow, standIns := [], harness := (true, "624d8ba0a6f33abf3c5177ebde33ea7fe0071b856948e8631e833e4f73da4756"), looks := true }, kinds := [], alts := [], laidByText := true, laidKinds := [.sentinel, .sentinel], laidTests := true, laidLooks := .later }
def FnExactContactsOfUptoCardSaid : Prop := Claim7.holds Tryz.pinned (.plain (OpenSpec.upto fnExactContactsOfSpec)) fnExactContactsOfUptoCard

/-- THE SECOND FORM's CARD OF 'laws.FnExactPlanOf'. -/
def fnExactPlanOfUptoCard : Claim7 := { stood := { row := fnExactPlanOfUptoRow, standIns := [], harness := (true, "624d8ba0a6f33abf3c5177ebde33ea7fe0071b856948e8631e833e4f73da4756"), looks := true }, kinds := [], alts := [], laidByText := true, laidKinds := [.handle, .sentinel, .sentinel], laidTests := true, laidLooks := .later }
def FnExactPlanOfUptoCardSaid : Prop := Claim7.holds Tryz.pinned (.plain (OpenSpec.upto fnExactPlanOfSpec)) fnExactPlanOfUptoCard
end Rows
end Go.Proofs.YtlaigbhiligceaaGreatDoor
