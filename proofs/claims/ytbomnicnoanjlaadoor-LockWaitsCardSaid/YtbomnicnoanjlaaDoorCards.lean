/-
  DERIVED. GIVEN WITH THE SEED: THE CARDS: each row of YtbomnicnoanjlaaDoorRows.lean that lists a variable, with what it lists TIED to the program's text (the seventh form; the later family's looks); each row that meets fmt, with fmt's text TOLD by the authors' own Lean function (tested against real Go, not proved from fmt's source: count such statements apart). THE CARD IS WHAT COUNTS. Prove the row's statement (the work); the ties are given (YtbomnicnoanjlaaDoorTie.lean); close each card by the builder's one call (the guide's Derived/Test/ToyasCard.lean, 'card_holds'). Laid BY PROGRAM, IN A SANDBOX (cutbox-door.mjs). By AI agents, Wed Nov 11 2026. No macro, syntax, notation, axiom, sorry.
-/
import Derived.Test.YtbomnicnoanjlaaDoorRows
import GoSem.ClaimSeven
namespace Go.Proofs.YtbomnicnoanjlaaDoor
namespace Rows

/-- THE TIED CARD OF 'marchlaw3.LockWaits'. -/
def lockWaitsCard : Claim7 := { stood := { row := lockWaitsRow, standIns := [], harness := (true, "e6cecf5bf1a7995543e37f280778253f228266359f4a5b93f1e8acdfcdc3ccdc"), looks := true }, kinds := [], alts := [], laidByText := true, laidKinds := [.handle], laidTests := true, laidLooks := .later }
def LockWaitsCardSaid : Prop := Claim7.holds Tryd.pinned (.plain (OpenSpec.ofChange lockWaitsSpec)) lockWaitsCard

/-- THE SECOND FORM's CARD OF 'marchlaw3.LockWaits'. -/
def lockWaitsUptoCard : Claim7 := { stood := { row := lockWaitsUptoRow, standIns := [], harness := (true, "e6cecf5bf1a7995543e37f280778253f228266359f4a5b93f1e8acdfcdc3ccdc"), looks := true }, kinds := [], alts := [], laidByText := true, laidKinds := [.handle], laidTests := true, laidLooks := .later }
def LockWaitsUptoCardSaid : Prop := Claim7.holds Tryd.pinned (.plain (OpenSpec.upto lockWaitsSpec)) lockWaitsUptoCard
end Rows
end Go.Proofs.YtbomnicnoanjlaaDoor
