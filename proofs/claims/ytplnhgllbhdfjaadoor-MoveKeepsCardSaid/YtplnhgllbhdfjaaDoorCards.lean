/-
  DERIVED. GIVEN WITH THE SEED: THE CARDS: each row of YtplnhgllbhdfjaaDoorRows.lean that lists a variable, with what it lists TIED to the program's text (the seventh form; the later family's looks); each row that meets fmt, with fmt's text TOLD by the authors' own Lean function (tested against real Go, not proved from fmt's source: count such statements apart). THE CARD IS WHAT COUNTS. Prove the row's statement (the work); the ties are given (YtplnhgllbhdfjaaDoorTie.lean); close each card by the builder's one call (the guide's Derived/Test/ToyasCard.lean, 'card_holds'). Laid BY PROGRAM, IN A SANDBOX (cutbox-door.mjs). By AI agents, Wed Nov 11 2026. No macro, syntax, notation, axiom, sorry.
-/
import Derived.Test.YtplnhgllbhdfjaaDoorRows
import GoSem.ClaimSeven
namespace Go.Proofs.YtplnhgllbhdfjaaDoor
namespace Rows

/-- THE TIED CARD OF 'marchlaw4.MoveWishes'. -/
def moveWishesCard : Claim7 := { stood := { row := moveWishesRow, standIns := [], harness := (true, "3835fb9afa7f2e9524963d736202dc155b657ebaaa8bfefdc5d2db888e2b80a4"), looks := false }, kinds := [], alts := [], laidByText := true, laidKinds := [.data], laidTests := true, laidLooks := .later }
def MoveWishesCardSaid : Prop := Claim7.holds Tryd.pinned (.plain (OpenSpec.ofChange moveWishesSpec)) moveWishesCard

/-- THE TIED CARD OF 'marchlaw2.MoveKeeps'. -/
def moveKeepsCard : Claim7 := { stood := { row := moveKeepsRow, standIns := [], harness := (true, "3835fb9afa7f2e9524963d736202dc155b657ebaaa8bfefdc5d2db888e2b80a4"), looks := false }, kinds := [], alts := [], laidByText := true, laidKinds := [.data], laidTests := true, laidLooks := .later }
def MoveKeepsCardSaid : Prop := Claim7.holds Tryd.pinned (.plain (OpenSpec.ofChange moveKeepsSpec)) moveKeepsCard

/-- THE SECOND FORM's CARD OF 'marchlaw4.MoveWishes'. -/
def moveWishesUptoCard : Claim7 := { stood := { row := moveWishesUptoRow, standIns := [], harness := (true, "3835fb9afa7f2e9524963d736202dc155b657ebaaa8bfefdc5d2db888e2b80a4"), looks := false }, kinds := [], alts := [], laidByText := true, laidKinds := [.data], laidTests := true, laidLooks := .later }
def MoveWishesUptoCardSaid : Prop := Claim7.holds Tryd.pinned (.plain (OpenSpec.upto moveWishesSpec)) moveWishesUptoCard

/-- THE SECOND FORM's CARD OF 'marchlaw2.MoveKeeps'. -/
def moveKeepsUptoCard : Claim7 := { stood := { row := moveKeepsUptoRow, standIns := [], harness := (true, "3835fb9afa7f2e9524963d736202dc155b657ebaaa8bfefdc5d2db888e2b80a4"), looks := false }, kinds := [], alts := [], laidByText := true, laidKinds := [.data], laidTests := true, laidLooks := .later }
def MoveKeepsUptoCardSaid : Prop := Claim7.holds Tryd.pinned (.plain (OpenSpec.upto moveKeepsSpec)) moveKeepsUptoCard
end Rows
end Go.Proofs.YtplnhgllbhdfjaaDoor
