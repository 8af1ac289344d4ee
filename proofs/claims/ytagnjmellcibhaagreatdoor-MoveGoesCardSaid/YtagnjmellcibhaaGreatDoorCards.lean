/-
  DERIVED. GIVEN WITH THE SEED: THE CARDS: each row of YtagnjmellcibhaaGreatDoorRows.lean that lists a variable, with what it lists TIED to the program's text (the seventh form; the later family's looks); each row that meets fmt, with fmt's text TOLD by the authors' own Lean function (tested against real Go, not proved from fmt's source: count such statements apart). THE CARD IS WHAT COUNTS. Prove the row's statement (the work); the ties are given (YtagnjmellcibhaaGreatDoorTie.lean); close each card by the builder's one call (the guide's Derived/Test/ToyasCard.lean, 'card_holds'). Laid BY PROGRAM, IN A SANDBOX (cutbox-door.mjs). By AI agents, Wed Nov 11 2026. No macro, syntax, notation, axiom, sorry.
-/
import Derived.Test.YtagnjmellcibhaaGreatDoorRows
import GoSem.ClaimSeven
namespace Go.Proofs.YtagnjmellcibhaaGreatDoor
namespace Rows

/-- THE TIED CARD OF 'marchlaw2.FightStrikes'. -/
def fightStrikesCard : Claim7 := { stood := { row := fightStrikesRow, standIns := [], harness := (true, "c6cc58d9fe9de78616869c0b136d03aafc0426d2aa378bd4bd49796c25416822"), looks := true }, kinds := [], alts := [], laidByText := true, laidKinds := [.handle], laidTests := true, laidLooks := .later }
def FightStrikesCardSaid : Prop := Claim7.holds Tryz.pinned (.plain (OpenSpec.ofChange fightStrikesSpec)) fightStrikesCard

/-- THE TIED CARD OF 'marchlaw2.SightShows'. -/
def sightShowsCard : Claim7 := { stood := { row := sightShowsRow, standIns := [], harness := (true, "c6cc58d9fe9de78616869c0b136d03aafc0426d2aa378bd4bd49796c25416822"), looks := true }, kinds := [], alts := [], laidByText := true, laidKinds := [.handle], laidTests := true, laidLooks := .later }
def SightShowsCardSaid : Prop := Claim7.holds Tryz.pinned (.plain (OpenSpec.ofChange sightShowsSpec)) sightShowsCard

/-- THE TIED CARD OF 'marchlaw2.MoveGoes'. -/
def moveGoesCard : Claim7 := { stood := { row := moveGoesRow, standIns := [], harness := (true, "c6cc58d9fe9de78616869c0b136d03aafc0426d2aa378bd4bd49796c25416822"), looks := true }, kinds := [], alts := [], laidByText := true, laidKinds := [.handle, .data], laidTests := true, laidLooks := .later }
def MoveGoesCardSaid : Prop := Claim7.holds Tryz.pinned (.plain (OpenSpec.ofChange moveGoesSpec)) moveGoesCard

/-- THE SECOND FORM's CARD OF 'marchlaw2.FightStrikes'. -/
def fightStrikesUptoCard : Claim7 := { stood := { row := fightStrikesUptoRow, standIns := [], harness := (true, "c6cc58d9fe9de78616869c0b136d03aafc0426d2aa378bd4bd49796c25416822"), looks := true }, kinds := [], alts := [], laidByText := true, laidKinds := [.handle], laidTests := true, laidLooks := .later }
def FightStrikesUptoCardSaid : Prop := Claim7.holds Tryz.pinned (.plain (OpenSpec.upto fightStrikesSpec)) fightStrikesUptoCard

/-- THE SECOND FORM's CARD OF 'marchlaw2.SightShows'. -/
def sightShowsUptoCard : Claim7 := { stood := { row := sightShowsUptoRow, standIns := [], harness := (true, "c6cc58d9fe9de78616869c0b136d03aafc0426d2aa378bd4bd49796c25416822"), looks := true }, kinds := [], alts := [], laidByText := true, laidKinds := [.handle], laidTests := true, laidLooks := .later }
def SightShowsUptoCardSaid : Prop := Claim7.holds Tryz.pinned (.plain (OpenSpec.upto sightShowsSpec)) sightShowsUptoCard

/-- THE SECOND FORM's CARD OF 'marchlaw2.MoveGoes'. -/
def moveGoesUptoCard : Claim7 := { stood := { row := moveGoesUptoRow, standIns := [], harness := (true, "c6cc58d9fe9de78616869c0b136d03aafc0426d2aa378bd4bd49796c25416822"), looks := true }, kinds := [], alts := [], laidByText := true, laidKinds := [.handle, .data], laidTests := true, laidLooks := .later }
def MoveGoesUptoCardSaid : Prop := Claim7.holds Tryz.pinned (.plain (OpenSpec.upto moveGoesSpec)) moveGoesUptoCard
end Rows
end Go.Proofs.YtagnjmellcibhaaGreatDoor
