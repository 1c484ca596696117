/-
  DERIVED. GIVEN WITH THE SEED: THE CARDS: each row of YteingcdjoepeiaaDoorRows.lean that lists a variable, with what it lists TIED to the program's text (the seventh form; the later family's looks); each row that meets fmt, with fmt's text TOLD by the authors' own Lean function (tested against real Go, not proved from fmt's source: count such statements apart). THE CARD IS WHAT COUNTS. Prove the row's statement (the work); the ties are given (YteingcdjoepeiaaDoorTie.lean); close each card by the builder's one call (the guide's Derived/Test/ToyasCard.lean, 'card_holds'). Laid BY PROGRAM, IN A SANDBOX (cutbox-door.mjs). By AI agents, Wed Nov 11 2026. No macro, syntax, notation, axiom, sorry.
-/
import Derived.Test.YteingcdjoepeiaaDoorRows
import GoSem.ClaimSeven
namespace Go.Proofs.YteingcdjoepeiaaDoor
namespace Rows

/-- THE TIED CARD OF 'laws.FnAngles'. -/
def fnAnglesCard : Claim7 := { stood := { row := fnAnglesRow, standIns := [], harness := (true, "0c5777c49a70cc4e6e49a0095d2c9fd9bb492e2de9036ebefdfe66f7d3dec70a"), looks := true }, kinds := [], alts := [], laidByText := true, laidKinds := [.sentinel, .sentinel], laidTests := true, laidLooks := .later }
def FnAnglesCardSaid : Prop := Claim7.holds Tryd.pinned (.plain (OpenSpec.ofChange fnAnglesSpec)) fnAnglesCard

/-- THE TIED CARD OF 'laws.FnExactInArc'. -/
def fnExactInArcCard : Claim7 := { stood := { row := fnExactInArcRow, standIns := [], harness := (true, "0c5777c49a70cc4e6e49a0095d2c9fd9bb492e2de9036ebefdfe66f7d3dec70a"), looks := true }, kinds := [], alts := [], laidByText := true, laidKinds := [.sentinel, .sentinel], laidTests := true, laidLooks := .later }
def FnExactInArcCardSaid : Prop := Claim7.holds Tryd.pinned (.plain (OpenSpec.ofChange fnExactInArcSpec)) fnExactInArcCard

/-- THE TIED CARD OF 'laws.FnExactWidenArc'. -/
def fnExactWidenArcCard : Claim7 := { stood := { row := fnExactWidenArcRow, standIns := [], harness := (true, "0c5777c49a70cc4e6e49a0095d2c9fd9bb492e2de9036ebefdfe66f7d3dec70a"), looks := true }, kinds := [], alts := [], laidByText := true, laidKinds := [.sentinel, .sentinel], laidTests := true, laidLooks := .later }
def FnExactWidenArcCardSaid : Prop := Claim7.holds Tryd.pinned (.plain (OpenSpec.ofChange fnExactWidenArcSpec)) fnExactWidenArcCard

/-- THE TIED CARD OF 'laws.FnExactArcsMeet'. -/
def fnExactArcsMeetCard : Claim7 := { stood := { row := fnExactArcsMeetRow, standIns := [], harness := (true, "0c5777c49a70cc4e6e49a0095d2c9fd9bb492e2de9036ebefdfe66f7d3dec70a"), looks := true }, kinds := [], alts := [], laidByText := true, laidKinds := [.sentinel, .sentinel], laidTests := true, laidLooks := .later }
def FnExactArcsMeetCardSaid : Prop := Claim7.holds Tryd.pinned (.plain (OpenSpec.ofChange fnExactArcsMeetSpec)) fnExactArcsMeetCard

/-- THE TIED CARD OF 'laws.FnExactMiddleOf'. -/
def fnExactMiddleOfCard : Claim7 := { stood := { row := fnExactMiddleOfRow, standIns := [], harness := (true, "0c5777c49a70cc4e6e49a0095d2c9fd9bb492e2de9036ebefdfe66f7d3dec70a"), looks := true }, kinds := [], alts := [], laidByText := true, laidKinds := [.sentinel, .sentinel], laidTests := true, laidLooks := .later }
def FnExactMiddleOfCardSaid : Prop := Claim7.holds Tryd.pinned (.plain (OpenSpec.ofChange fnExactMiddleOfSpec)) fnExactMiddleOfCard

/-- THE SECOND FORM's CARD OF 'laws.FnAngles'. -/
def fnAnglesUptoCard : Claim7 := { stood := { row := fnAnglesUptoRow, standIns := [], harness := (true, "0c5777c49a70cc4e6e49a0095d2c9fd9bb492e2de9036ebefdfe66f7d3dec70a"), looks := true }, kinds := [], alts := [], laidByText := true, laidKinds := [.sentinel, .sentinel], laidTests := true, laidLooks := .later }
def FnAnglesUptoCardSaid : Prop := Claim7.holds Tryd.pinned (.plain (OpenSpec.upto fnAnglesSpec)) fnAnglesUptoCard

/-- THE SECOND FORM's CARD OF 'laws.FnExactInArc'. -/
def fnExactInArcUptoCard : Claim7 := { stood := { row := fnExactInArcUptoRow, standIns := [], harness := (true, "0c5777c49a70cc4e6e49a0095d2c9fd9bb492e2de9036ebefdfe66f7d3dec70a"), looks := true }, kinds := [], alts := [], laidByText := true, laidKinds := [.sentinel, .sentinel], laidTests := true, laidLooks := .later }
def FnExactInArcUptoCardSaid : Prop := Claim7.holds Tryd.pinned (.plain (OpenSpec.upto fnExactInArcSpec)) fnExactInArcUptoCard

/-- THE SECOND FORM's CARD OF 'laws.FnExactWidenArc'. -/
def fnExactWidenArcUptoCard : Claim7 := { stood := { row := fnExactWidenArcUptoRow, standIns := [], harness := (true, "0c5777c49a70cc4e6e49a0095d2c9fd9bb492e2de9036ebefdfe66f7d3dec70a"), looks := true }, kinds := [], alts := [], laidByText := true, laidKinds := [.sentinel, .sentinel], laidTests := true, laidLooks := .later }
def FnExactWidenArcUptoCardSaid : Prop := Claim7.holds Tryd.pinned (.plain (OpenSpec.upto fnExactWidenArcSpec)) fnExactWidenArcUptoCard

/-- THE SECOND FORM's CARD OF 'laws.FnExactArcsMeet'. -/
def fnExactArcsMeetUptoCard : Claim7 := { stood := { row := fnExactArcsMeetUptoRow, standIns := [], harness := (true, "0c5777c49a70cc4e6e49a0095d2c9fd9bb492e2de9036ebefdfe66f7d3dec70a"), looks := true }, kinds := [], alts := [], laidByText := true, laidKinds := [.sentinel, .sentinel], laidTests := true, laidLooks := .later }
def FnExactArcsMeetUptoCardSaid : Prop := Claim7.holds Tryd.pinned (.plain (OpenSpec.upto fnExactArcsMeetSpec)) fnExactArcsMeetUptoCard

/-- THE SECOND FORM's CARD OF 'laws.FnExactMiddleOf'. -/
def fnExactMiddleOfUptoCard : Claim7 := { stood := { row := fnExactMiddleOfUptoRow, standIns := [], harness := (true, "0c5777c49a70cc4e6e49a0095d2c9fd9bb492e2de9036ebefdfe66f7d3dec70a"), looks := true }, kinds := [], alts := [], laidByText := true, laidKinds := [.sentinel, .sentinel], laidTests := true, laidLooks := .later }
def FnExactMiddleOfUptoCardSaid : Prop := Claim7.holds Tryd.pinned (.plain (OpenSpec.upto fnExactMiddleOfSpec)) fnExactMiddleOfUptoCard
end Rows
end Go.Proofs.YteingcdjoepeiaaDoor
