/-
  DERIVED. GIVEN WITH THE SEED: THE CARDS: each row of YtamgjhehnblbgaaDoorRows.lean that lists a variable, with what it lists TIED to the program's text (the seventh form; the later family's looks); each row that meets fmt, with fmt's text TOLD by the authors' own Lean function (tested against real Go, not proved from fmt's source: count such statements apart). THE CARD IS WHAT COUNTS. Prove the row's statement (the work); the ties are given (YtamgjhehnblbgaaDoorTie.lean); close each card by the builder's one call (the guide's Derived/Test/ToyasCard.lean, 'card_holds'). Laid BY PROGRAM, IN A SANDBOX (cutbox-door.mjs). By AI agents, Wed Nov 11 2026. No macro, syntax, notation, axiom, sorry.
-/
import Derived.Test.YtamgjhehnblbgaaDoorRows
import GoSem.ClaimSeven
namespace Go.Proofs.YtamgjhehnblbgaaDoor
namespace Rows

/-- THE TIED CARD OF 'marchlaw3.ScoreRates'. -/
def scoreRatesCard : Claim7 := { stood := { row := scoreRatesRow, standIns := [], harness := (true, "898297d41946aa326ba5ec4080b03ed4d8f749a75bb8bf276a27011404f217fc"), looks := true }, kinds := [], alts := [], laidByText := true, laidKinds := [.handle], laidTests := true, laidLooks := .later }
def ScoreRatesCardSaid : Prop := Claim7.holds Tryd.pinned (.plain (OpenSpec.ofChange scoreRatesSpec)) scoreRatesCard

/-- THE TIED CARD OF 'marchlaw3.ScoreTells'. -/
def scoreTellsCard : Claim7 := { stood := { row := scoreTellsRow, standIns := [], harness := (true, "898297d41946aa326ba5ec4080b03ed4d8f749a75bb8bf276a27011404f217fc"), looks := true }, kinds := [], alts := [], laidByText := true, laidKinds := [.handle], laidTests := true, laidLooks := .later }
def ScoreTellsCardSaid : Prop := Claim7.holds Tryd.pinned (.plain (OpenSpec.ofChange scoreTellsSpec)) scoreTellsCard

/-- THE SECOND FORM's CARD OF 'marchlaw3.ScoreRates'. -/
def scoreRatesUptoCard : Claim7 := { stood := { row := scoreRatesUptoRow, standIns := [], harness := (true, "898297d41946aa326ba5ec4080b03ed4d8f749a75bb8bf276a27011404f217fc"), looks := true }, kinds := [], alts := [], laidByText := true, laidKinds := [.handle], laidTests := true, laidLooks := .later }
def ScoreRatesUptoCardSaid : Prop := Claim7.holds Tryd.pinned (.plain (OpenSpec.upto scoreRatesSpec)) scoreRatesUptoCard

/-- THE SECOND FORM's CARD OF 'marchlaw3.ScoreTells'. -/
def scoreTellsUptoCard : Claim7 := { stood := { row := scoreTellsUptoRow, standIns := [], harness := (true, "898297d41946aa326ba5ec4080b03ed4d8f749a75bb8bf276a27011404f217fc"), looks := true }, kinds := [], alts := [], laidByText := true, laidKinds := [.handle], laidTests := true, laidLooks := .later }
def ScoreTellsUptoCardSaid : Prop := Claim7.holds Tryd.pinned (.plain (OpenSpec.upto scoreTellsSpec)) scoreTellsUptoCard
end Rows
end Go.Proofs.YtamgjhehnblbgaaDoor
