/-
  DERIVED. GIVEN WITH THE SEED: THE CARDS: each row of YtciopplobeiokaaDoorRows.lean that lists a variable, with what it lists TIED to the program's text (the seventh form; the later family's looks); each row that meets fmt, with fmt's text TOLD by the authors' own Lean function (tested against real Go, not proved from fmt's source: count such statements apart). THE CARD IS WHAT COUNTS. Prove the row's statement (the work); the ties are given (YtciopplobeiokaaDoorTie.lean); close each card by the builder's one call (the guide's Derived/Test/ToyasCard.lean, 'card_holds'). Laid BY PROGRAM, IN A SANDBOX (cutbox-door.mjs). By AI agents, Wed Nov 11 2026. No macro, syntax, notation, axiom, sorry.
-/
import Derived.Test.YtciopplobeiokaaDoorRows
import GoSem.ClaimSeven
namespace Go.Proofs.YtciopplobeiokaaDoor
namespace Rows

/-- THE TIED CARD OF 'laws.FnSkies'. -/
def fnSkiesCard : Claim7 := { stood := { row := fnSkiesRow, standIns := [], harness := (true, "52fb55fa76f994f2b5b9a15d17cd4fef0ff26f93829bab110c5a7d3bef18908a"), looks := true }, kinds := [], alts := [], laidByText := true, laidKinds := [.sentinel, .sentinel], laidTests := true, laidLooks := .later }
def FnSkiesCardSaid : Prop := Claim7.holds Tryd.pinned (.plain (OpenSpec.ofChange fnSkiesSpec)) fnSkiesCard

/-- THE TIED CARD OF 'laws.FnExactIsSky'. -/
def fnExactIsSkyCard : Claim7 := { stood := { row := fnExactIsSkyRow, standIns := [], harness := (true, "52fb55fa76f994f2b5b9a15d17cd4fef0ff26f93829bab110c5a7d3bef18908a"), looks := true }, kinds := [], alts := [], laidByText := true, laidKinds := [.sentinel, .sentinel], laidTests := true, laidLooks := .later }
def FnExactIsSkyCardSaid : Prop := Claim7.holds Tryd.pinned (.plain (OpenSpec.ofChange fnExactIsSkySpec)) fnExactIsSkyCard

/-- THE SECOND FORM's CARD OF 'laws.FnSkies'. -/
def fnSkiesUptoCard : Claim7 := { stood := { row := fnSkiesUptoRow, standIns := [], harness := (true, "52fb55fa76f994f2b5b9a15d17cd4fef0ff26f93829bab110c5a7d3bef18908a"), looks := true }, kinds := [], alts := [], laidByText := true, laidKinds := [.sentinel, .sentinel], laidTests := true, laidLooks := .later }
def FnSkiesUptoCardSaid : Prop := Claim7.holds Tryd.pinned (.plain (OpenSpec.upto fnSkiesSpec)) fnSkiesUptoCard

/-- THE SECOND FORM's CARD OF 'laws.FnExactIsSky'. -/
def fnExactIsSkyUptoCard : Claim7 := { stood := { row := fnExactIsSkyUptoRow, standIns := [], harness := (true, "52fb55fa76f994f2b5b9a15d17cd4fef0ff26f93829bab110c5a7d3bef18908a"), looks := true }, kinds := [], alts := [], laidByText := true, laidKinds := [.sentinel, .sentinel], laidTests := true, laidLooks := .later }
def FnExactIsSkyUptoCardSaid : Prop := Claim7.holds Tryd.pinned (.plain (OpenSpec.upto fnExactIsSkySpec)) fnExactIsSkyUptoCard
end Rows
end Go.Proofs.YtciopplobeiokaaDoor
