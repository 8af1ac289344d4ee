/-
  DERIVED. GIVEN WITH THE SEED: THE CARDS: each row of YtaicnhkobhdehaaDoorRows.lean that lists a variable, with what it lists TIED to the program's text (the seventh form; the later family's looks); each row that meets fmt, with fmt's text TOLD by the authors' own Lean function (tested against real Go, not proved from fmt's source: count such statements apart). THE CARD IS WHAT COUNTS. Prove the row's statement (the work); the ties are given (YtaicnhkobhdehaaDoorTie.lean); close each card by the builder's one call (the guide's Derived/Test/ToyasCard.lean, 'card_holds'). Laid BY PROGRAM, IN A SANDBOX (cutbox-door.mjs). By AI agents, Wed Nov 11 2026. No macro, syntax, notation, axiom, sorry.
-/
import Derived.Test.YtaicnhkobhdehaaDoorRows
import GoSem.ClaimSeven
namespace Go.Proofs.YtaicnhkobhdehaaDoor
namespace Rows

/-- THE TIED CARD OF 'marchlaw2.WorldBegins'. -/
def worldBeginsCard : Claim7 := { stood := { row := worldBeginsRow, standIns := [], harness := (true, "0195832712ef88ddad10d756bf4680d274870aaac58bba8ad7a4cad3ccdb6855"), looks := true }, kinds := [], alts := [], laidByText := true, laidKinds := [.handle], laidTests := true, laidLooks := .later }
def WorldBeginsCardSaid : Prop := Claim7.holds Tryd.pinned (.plain (OpenSpec.ofChange worldBeginsSpec)) worldBeginsCard

/-- THE SECOND FORM's CARD OF 'marchlaw2.WorldBegins'. -/
def worldBeginsUptoCard : Claim7 := { stood := { row := worldBeginsUptoRow, standIns := [], harness := (true, "0195832712ef88ddad10d756bf4680d274870aaac58bba8ad7a4cad3ccdb6855"), looks := true }, kinds := [], alts := [], laidByText := true, laidKinds := [.handle], laidTests := true, laidLooks := .later }
def WorldBeginsUptoCardSaid : Prop := Claim7.holds Tryd.pinned (.plain (OpenSpec.upto worldBeginsSpec)) worldBeginsUptoCard
end Rows
end Go.Proofs.YtaicnhkobhdehaaDoor
