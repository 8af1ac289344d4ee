/-
  DERIVED. GIVEN WITH THE SEED: THE CARDS: each row of YteieikgkmfglaaaGreatDoorRows.lean that lists a variable, with what it lists TIED to the program's text (the seventh form; the later family's looks); each row that meets fmt, with fmt's text TOLD by the authors' own Lean function (tested against real Go, not proved from fmt's source: count such statements apart). THE CARD IS WHAT COUNTS. Prove the row's statement (the work); the ties are given (YteieikgkmfglaaaGreatDoorTie.lean); close each card by the builder's one call (the guide's Derived/Test/ToyasCard.lean, 'card_holds'). Laid BY PROGRAM, IN A SANDBOX (cutbox-door.mjs). By AI agents, Wed Nov 11 2026. No macro, syntax, notation, axiom, sorry.
-/
import Derived.Test.YteieikgkmfglaaaGreatDoorRows
import GoSem.ClaimSeven
namespace Go.Proofs.YteieikgkmfglaaaGreatDoor
namespace Rows

/-- THE TIED CARD OF 'marchlaw2.WorksDo'. -/
def worksDoCard : Claim7 := { stood := { row := worksDoRow, standIns := [], harness := (true, "6df0e9c3d1cad1e7136f9c3b949c614c93a30016872800e5d92a84a7d9b1c742"), looks := true }, kinds := [], alts := [], laidByText := true, laidKinds := [.handle, .data], laidTests := true, laidLooks := .later }
def WorksDoCardSaid : Prop := Claim7.holds Tryz.pinned (.plain (OpenSpec.ofChange worksDoSpec)) worksDoCard

/-- THE TIED CARD OF 'marchlaw2.TurnGives'. -/
def turnGivesCard : Claim7 := { stood := { row := turnGivesRow, standIns := [], harness := (true, "6df0e9c3d1cad1e7136f9c3b949c614c93a30016872800e5d92a84a7d9b1c742"), looks := true }, kinds := [], alts := [], laidByText := true, laidKinds := [.handle, .data], laidTests := true, laidLooks := .later }
def TurnGivesCardSaid : Prop := Claim7.holds Tryz.pinned (.plain (OpenSpec.ofChange turnGivesSpec)) turnGivesCard

/-- THE TIED CARD OF 'marchlaw2.TurnPlays'. -/
def turnPlaysCard : Claim7 := { stood := { row := turnPlaysRow, standIns := [], harness := (true, "6df0e9c3d1cad1e7136f9c3b949c614c93a30016872800e5d92a84a7d9b1c742"), looks := true }, kinds := [], alts := [], laidByText := true, laidKinds := [.handle, .data], laidTests := true, laidLooks := .later }
def TurnPlaysCardSaid : Prop := Claim7.holds Tryz.pinned (.plain (OpenSpec.ofChange turnPlaysSpec)) turnPlaysCard

/-- THE SECOND FORM's CARD OF 'marchlaw2.WorksDo'. -/
def worksDoUptoCard : Claim7 := { stood := { row := worksDoUptoRow, standIns := [], harness := (true, "6df0e9c3d1cad1e7136f9c3b949c614c93a30016872800e5d92a84a7d9b1c742"), looks := true }, kinds := [], alts := [], laidByText := true, laidKinds := [.handle, .data], laidTests := true, laidLooks := .later }
def WorksDoUptoCardSaid : Prop := Claim7.holds Tryz.pinned (.plain (OpenSpec.upto worksDoSpec)) worksDoUptoCard

/-- THE SECOND FORM's CARD OF 'marchlaw2.TurnGives'. -/
def turnGivesUptoCard : Claim7 := { stood := { row := turnGivesUptoRow, standIns := [], harness := (true, "6df0e9c3d1cad1e7136f9c3b949c614c93a30016872800e5d92a84a7d9b1c742"), looks := true }, kinds := [], alts := [], laidByText := true, laidKinds := [.handle, .data], laidTests := true, laidLooks := .later }
def TurnGivesUptoCardSaid : Prop := Claim7.holds Tryz.pinned (.plain (OpenSpec.upto turnGivesSpec)) turnGivesUptoCard

/-- THE SECOND FORM's CARD OF 'marchlaw2.TurnPlays'. -/
def turnPlaysUptoCard : Claim7 := { stood := { row := turnPlaysUptoRow, standIns := [], harness := (true, "6df0e9c3d1cad1e7136f9c3b949c614c93a30016872800e5d92a84a7d9b1c742"), looks := true }, kinds := [], alts := [], laidByText := true, laidKinds := [.handle, .data], laidTests := true, laidLooks := .later }
def TurnPlaysUptoCardSaid : Prop := Claim7.holds Tryz.pinned (.plain (OpenSpec.upto turnPlaysSpec)) turnPlaysUptoCard
end Rows
end Go.Proofs.YteieikgkmfglaaaGreatDoor
