/-
  DERIVED. GIVEN WITH THE SEED: THE CARDS: each row of YtamegacbmbgcfaaGreatDoorRows.lean that lists a variable, with what it lists TIED to the program's text (the seventh form; the later family's looks); each row that meets fmt, with fmt's text TOLD by the authors' own Lean function (tested against real Go, not proved from fmt's source: count such statements apart). THE CARD IS WHAT COUNTS. Prove the row's statement (the work); the ties are given (YtamegacbmbgcfaaGreatDoorTie.lean); close each card by the builder's one call (the guide's Derived/Test/ToyasCard.lean, 'card_holds'). Laid BY PROGRAM, IN A SANDBOX (cutbox-door.mjs). By AI agents, Wed Nov 11 2026. No macro, syntax, notation, axiom, sorry.
-/
import Derived.Test.YtamegacbmbgcfaaGreatDoorRows
import GoSem.ClaimSeven
namespace Go.Proofs.YtamegacbmbgcfaaGreatDoor
namespace Rows

/-- THE TIED CARD OF 'marchlaw2.TurnGives'. -/
def turnGivesCard : Claim7 := { stood := { row := turnGivesRow, standIns := [], harness := (true, "316731903d0680e51d22b7142045fcf89728bc97ceefb71174b81f100e43368b"), looks := true }, kinds := [], alts := [], laidByText := true, laidKinds := [.handle, .data], laidTests := true, laidLooks := .later }
def TurnGivesCardSaid : Prop := Claim7.holds Tryz.pinned (.plain (OpenSpec.ofChange turnGivesSpec)) turnGivesCard

/-- THE TIED CARD OF 'marchlaw2.TurnPlays'. -/
def turnPlaysCard : Claim7 := { stood := { row := turnPlaysRow, standIns := [], harness := (true, "316731903d0680e51d22b7142045fcf89728bc97ceefb71174b81f100e43368b"), looks := true }, kinds := [], alts := [], laidByText := true, laidKinds := [.handle, .data], laidTests := true, laidLooks := .later }
def TurnPlaysCardSaid : Prop := Claim7.holds Tryz.pinned (.plain (OpenSpec.ofChange turnPlaysSpec)) turnPlaysCard

/-- THE TIED CARD OF 'marchtop.TopWorth'. -/
def topWorthCard : Claim7 := { stood := { row := topWorthRow, standIns := [], harness := (true, "316731903d0680e51d22b7142045fcf89728bc97ceefb71174b81f100e43368b"), looks := true }, kinds := [], alts := [], laidByText := true, laidKinds := [.data], laidTests := true, laidLooks := .later }
def TopWorthCardSaid : Prop := Claim7.holds Tryz.pinned (.plain (OpenSpec.ofChange topWorthSpec)) topWorthCard

/-- THE SECOND FORM's CARD OF 'marchlaw2.TurnGives'. -/
def turnGivesUptoCard : Claim7 := { stood := { row := turnGivesUptoRow, standIns := [], harness := (true, "316731903d0680e51d22b7142045fcf89728bc97ceefb71174b81f100e43368b"), looks := true }, kinds := [], alts := [], laidByText := true, laidKinds := [.handle, .data], laidTests := true, laidLooks := .later }
def TurnGivesUptoCardSaid : Prop := Claim7.holds Tryz.pinned (.plain (OpenSpec.upto turnGivesSpec)) turnGivesUptoCard

/-- THE SECOND FORM's CARD OF 'marchlaw2.TurnPlays'. -/
def turnPlaysUptoCard : Claim7 := { stood := { row := turnPlaysUptoRow, standIns := [], harness := (true, "316731903d0680e51d22b7142045fcf89728bc97ceefb71174b81f100e43368b"), looks := true }, kinds := [], alts := [], laidByText := true, laidKinds := [.handle, .data], laidTests := true, laidLooks := .later }
def TurnPlaysUptoCardSaid : Prop := Claim7.holds Tryz.pinned (.plain (OpenSpec.upto turnPlaysSpec)) turnPlaysUptoCard

/-- THE SECOND FORM's CARD OF 'marchtop.TopWorth'. -/
def topWorthUptoCard : Claim7 := { stood := { row := topWorthUptoRow, standIns := [], harness := (true, "316731903d0680e51d22b7142045fcf89728bc97ceefb71174b81f100e43368b"), looks := true }, kinds := [], alts := [], laidByText := true, laidKinds := [.data], laidTests := true, laidLooks := .later }
def TopWorthUptoCardSaid : Prop := Claim7.holds Tryz.pinned (.plain (OpenSpec.upto topWorthSpec)) topWorthUptoCard
end Rows
end Go.Proofs.YtamegacbmbgcfaaGreatDoor
