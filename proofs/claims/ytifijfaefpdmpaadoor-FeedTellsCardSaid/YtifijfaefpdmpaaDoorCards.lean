/-
  DERIVED. GIVEN WITH THE SEED: THE CARDS: each row of YtifijfaefpdmpaaDoorRows.lean that lists a variable, with what it lists TIED to the program's text (the seventh form; the later family's looks); each row that meets fmt, with fmt's text TOLD by the authors' own Lean function (tested against real Go, not proved from fmt's source: count such statements apart). THE CARD IS WHAT COUNTS. Prove the row's statement (the work); the ties are given (YtifijfaefpdmpaaDoorTie.lean); close each card by the builder's one call (the guide's Derived/Test/ToyasCard.lean, 'card_holds'). Laid BY PROGRAM, IN A SANDBOX (cutbox-door.mjs). By AI agents, Wed Nov 11 2026. No macro, syntax, notation, axiom, sorry.
-/
import Derived.Test.YtifijfaefpdmpaaDoorRows
import GoSem.ClaimSeven
namespace Go.Proofs.YtifijfaefpdmpaaDoor
namespace Rows

/-- THE TIED CARD OF 'marchlaw3.FeedTells'. -/
def feedTellsCard : Claim7 := { stood := { row := feedTellsRow, standIns := [], harness := (true, "cd36ae56bad704b75ad67c0c40e3241aae2342617ef3f96eb028138f5355c24b"), looks := true }, kinds := [], alts := [], laidByText := true, laidKinds := [.handle], laidTests := true, laidLooks := .later }
def FeedTellsCardSaid : Prop := Claim7.holds Tryd.pinned (.plain (OpenSpec.ofChange feedTellsSpec)) feedTellsCard

/-- THE SECOND FORM's CARD OF 'marchlaw3.FeedTells'. -/
def feedTellsUptoCard : Claim7 := { stood := { row := feedTellsUptoRow, standIns := [], harness := (true, "cd36ae56bad704b75ad67c0c40e3241aae2342617ef3f96eb028138f5355c24b"), looks := true }, kinds := [], alts := [], laidByText := true, laidKinds := [.handle], laidTests := true, laidLooks := .later }
def FeedTellsUptoCardSaid : Prop := Claim7.holds Tryd.pinned (.plain (OpenSpec.upto feedTellsSpec)) feedTellsUptoCard
end Rows
end Go.Proofs.YtifijfaefpdmpaaDoor
