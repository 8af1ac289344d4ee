/-
  DERIVED. GIVEN WITH THE SEED: THE CARDS: each row of YtmhnidhcaceinaaDoorRows.lean that lists a variable, with what it lists TIED to the program's text (the seventh form; the later family's looks); each row that meets fmt, with fmt's text TOLD by the authors' own Lean function (tested against real Go, not proved from fmt's source: count such statements apart). THE CARD IS WHAT COUNTS. Prove the row's statement (the work); the ties are given (YtmhnidhcaceinaaDoorTie.lean); close each card by the builder's one call (the guide's Derived/Test/ToyasCard.lean, 'card_holds'). Laid BY PROGRAM, IN A SANDBOX (cutbox-door.mjs). By AI agents, Wed Nov 11 2026. No macro, syntax, notation, axiom, sorry.
-/
import Derived.Test.YtmhnidhcaceinaaDoorRows
import GoSem.ClaimSeven
namespace Go.Proofs.YtmhnidhcaceinaaDoor
namespace Rows

/-- THE TIED CARD OF 'marchlaw2.WorldBegins'. -/
def worldBeginsCard : Claim7 := { stood := { row := worldBeginsRow, standIns := [], harness := (true, "4cdda1793ba8e4420695bec23bcca7218fccad1a39100e36481e463d1454facd"), looks := true }, kinds := [], alts := [], laidByText := true, laidKinds := [.handle], laidTests := true, laidLooks := .later }
def WorldBeginsCardSaid : Prop := Claim7.holds Tryd.pinned (.plain (OpenSpec.ofChange worldBeginsSpec)) worldBeginsCard

/-- THE TIED CARD OF 'marchlaw4.MoveWishes'. -/
def moveWishesCard : Claim7 := { stood := { row := moveWishesRow, standIns := [], harness := (true, "4cdda1793ba8e4420695bec23bcca7218fccad1a39100e36481e463d1454facd"), looks := true }, kinds := [], alts := [], laidByText := true, laidKinds := [.data], laidTests := true, laidLooks := .later }
def MoveWishesCardSaid : Prop := Claim7.holds Tryd.pinned (.plain (OpenSpec.ofChange moveWishesSpec)) moveWishesCard

/-- THE TIED CARD OF 'marchlaw2.MoveKeeps'. -/
def moveKeepsCard : Claim7 := { stood := { row := moveKeepsRow, standIns := [], harness := (true, "4cdda1793ba8e4420695bec23bcca7218fccad1a39100e36481e463d1454facd"), looks := true }, kinds := [], alts := [], laidByText := true, laidKinds := [.data], laidTests := true, laidLooks := .later }
def MoveKeepsCardSaid : Prop := Claim7.holds Tryd.pinned (.plain (OpenSpec.ofChange moveKeepsSpec)) moveKeepsCard

/-- THE TIED CARD OF 'marchlaw4.WorksSpots'. -/
def worksSpotsCard : Claim7 := { stood := { row := worksSpotsRow, standIns := [], harness := (true, "4cdda1793ba8e4420695bec23bcca7218fccad1a39100e36481e463d1454facd"), looks := true }, kinds := [], alts := [], laidByText := true, laidKinds := [.data], laidTests := true, laidLooks := .later }
def WorksSpotsCardSaid : Prop := Claim7.holds Tryd.pinned (.plain (OpenSpec.ofChange worksSpotsSpec)) worksSpotsCard

/-- THE SECOND FORM's CARD OF 'marchlaw2.WorldBegins'. -/
def worldBeginsUptoCard : Claim7 := { stood := { row := worldBeginsUptoRow, standIns := [], harness := (true, "4cdda1793ba8e4420695bec23bcca7218fccad1a39100e36481e463d1454facd"), looks := true }, kinds := [], alts := [], laidByText := true, laidKinds := [.handle], laidTests := true, laidLooks := .later }
def WorldBeginsUptoCardSaid : Prop := Claim7.holds Tryd.pinned (.plain (OpenSpec.upto worldBeginsSpec)) worldBeginsUptoCard

/-- THE SECOND FORM's CARD OF 'marchlaw4.MoveWishes'. -/
def moveWishesUptoCard : Claim7 := { stood := { row := moveWishesUptoRow, standIns := [], harness := (true, "4cdda1793ba8e4420695bec23bcca7218fccad1a39100e36481e463d1454facd"), looks := true }, kinds := [], alts := [], laidByText := true, laidKinds := [.data], laidTests := true, laidLooks := .later }
def MoveWishesUptoCardSaid : Prop := Claim7.holds Tryd.pinned (.plain (OpenSpec.upto moveWishesSpec)) moveWishesUptoCard

/-- THE SECOND FORM's CARD OF 'marchlaw2.MoveKeeps'. -/
def moveKeepsUptoCard : Claim7 := { stood := { row := moveKeepsUptoRow, standIns := [], harness := (true, "4cdda1793ba8e4420695bec23bcca7218fccad1a39100e36481e463d1454facd"), looks := true }, kinds := [], alts := [], laidByText := true, laidKinds := [.data], laidTests := true, laidLooks := .later }
def MoveKeepsUptoCardSaid : Prop := Claim7.holds Tryd.pinned (.plain (OpenSpec.upto moveKeepsSpec)) moveKeepsUptoCard

/-- THE SECOND FORM's CARD OF 'marchlaw4.WorksSpots'. -/
def worksSpotsUptoCard : Claim7 := { stood := { row := worksSpotsUptoRow, standIns := [], harness := (true, "4cdda1793ba8e4420695bec23bcca7218fccad1a39100e36481e463d1454facd"), looks := true }, kinds := [], alts := [], laidByText := true, laidKinds := [.data], laidTests := true, laidLooks := .later }
def WorksSpotsUptoCardSaid : Prop := Claim7.holds Tryd.pinned (.plain (OpenSpec.upto worksSpotsSpec)) worksSpotsUptoCard
end Rows
end Go.Proofs.YtmhnidhcaceinaaDoor
