/-
  DERIVED. GIVEN WITH THE SEED: THE CARDS: each row of YtkjbbeieiodpdaaDoorRows.lean that lists a variable, with what it lists TIED to the program's text (the seventh form; the later family's looks); each row that meets fmt, with fmt's text TOLD by the authors' own Lean function (tested against real Go, not proved from fmt's source: count such statements apart). THE CARD IS WHAT COUNTS. Prove the row's statement (the work); the ties are given (YtkjbbeieiodpdaaDoorTie.lean); close each card by the builder's one call (the guide's Derived/Test/ToyasCard.lean, 'card_holds'). Laid BY PROGRAM, IN A SANDBOX (cutbox-door.mjs). By AI agents, Wed Nov 11 2026. No macro, syntax, notation, axiom, sorry.
-/
import Derived.Test.YtkjbbeieiodpdaaDoorRows
import GoSem.ClaimSeven
namespace Go.Proofs.YtkjbbeieiodpdaaDoor
namespace Rows

/-- THE TIED CARD OF 'marchlaw1.DiceThrows'. -/
def diceThrowsCard : Claim7 := { stood := { row := diceThrowsRow, standIns := [], harness := (true, "23db4e92c21ee7fbe8637edc2e67ba962ef15769d0706b3b8438be7809a301cb"), looks := true }, kinds := [], alts := [], laidByText := true, laidKinds := [.handle], laidTests := true, laidLooks := .later }
def DiceThrowsCardSaid : Prop := Claim7.holds Tryd.pinned (.plain (OpenSpec.ofChange diceThrowsSpec)) diceThrowsCard

/-- THE SECOND FORM's CARD OF 'marchlaw1.DiceThrows'. -/
def diceThrowsUptoCard : Claim7 := { stood := { row := diceThrowsUptoRow, standIns := [], harness := (true, "23db4e92c21ee7fbe8637edc2e67ba962ef15769d0706b3b8438be7809a301cb"), looks := true }, kinds := [], alts := [], laidByText := true, laidKinds := [.handle], laidTests := true, laidLooks := .later }
def DiceThrowsUptoCardSaid : Prop := Claim7.holds Tryd.pinned (.plain (OpenSpec.upto diceThrowsSpec)) diceThrowsUptoCard
end Rows
end Go.Proofs.YtkjbbeieiodpdaaDoor
