/-
  DERIVED. GIVEN WITH THE SEED: THE CARDS: each row of YtbiknfaimplodaaDoorRows.lean that lists a variable, with what it lists TIED to the program's text (the seventh form; the later family's looks); each row that meets fmt, with fmt's text TOLD by the authors' own Lean function (tested against real Go, not proved from fmt's source: count such statements apart). THE CARD IS WHAT COUNTS. Prove the row's statement (the work); the ties are given (YtbiknfaimplodaaDoorTie.lean); close each card by the builder's one call (the guide's Derived/Test/ToyasCard.lean, 'card_holds'). Laid BY PROGRAM, IN A SANDBOX (cutbox-door.mjs). By AI agents, Wed Nov 11 2026. No macro, syntax, notation, axiom, sorry.
-/
import Derived.Test.YtbiknfaimplodaaDoorRows
import GoSem.ClaimSeven
namespace Go.Proofs.YtbiknfaimplodaaDoor
namespace Rows

/-- THE TIED CARD OF 'marchlaw1.FieldChecks'. -/
def fieldChecksCard : Claim7 := { stood := { row := fieldChecksRow, standIns := [], harness := (true, "0c16ff2ae9f7753918ff439584e7a38e9c4f81e31ef7db746b2127e394ac3a24"), looks := true }, kinds := [], alts := [], laidByText := true, laidKinds := [.handle, .data], laidTests := true, laidLooks := .later }
def FieldChecksCardSaid : Prop := Claim7.holds Tryd.pinned (.plain (OpenSpec.ofChange fieldChecksSpec)) fieldChecksCard

/-- THE TIED CARD OF 'marchlaw4.FieldBeside'. -/
def fieldBesideCard : Claim7 := { stood := { row := fieldBesideRow, standIns := [], harness := (true, "0c16ff2ae9f7753918ff439584e7a38e9c4f81e31ef7db746b2127e394ac3a24"), looks := true }, kinds := [], alts := [], laidByText := true, laidKinds := [.data], laidTests := true, laidLooks := .later }
def FieldBesideCardSaid : Prop := Claim7.holds Tryd.pinned (.plain (OpenSpec.ofChange fieldBesideSpec)) fieldBesideCard

/-- THE SECOND FORM's CARD OF 'marchlaw1.FieldChecks'. -/
def fieldChecksUptoCard : Claim7 := { stood := { row := fieldChecksUptoRow, standIns := [], harness := (true, "0c16ff2ae9f7753918ff439584e7a38e9c4f81e31ef7db746b2127e394ac3a24"), looks := true }, kinds := [], alts := [], laidByText := true, laidKinds := [.handle, .data], laidTests := true, laidLooks := .later }
def FieldChecksUptoCardSaid : Prop := Claim7.holds Tryd.pinned (.plain (OpenSpec.upto fieldChecksSpec)) fieldChecksUptoCard

/-- THE SECOND FORM's CARD OF 'marchlaw4.FieldBeside'. -/
def fieldBesideUptoCard : Claim7 := { stood := { row := fieldBesideUptoRow, standIns := [], harness := (true, "0c16ff2ae9f7753918ff439584e7a38e9c4f81e31ef7db746b2127e394ac3a24"), looks := true }, kinds := [], alts := [], laidByText := true, laidKinds := [.data], laidTests := true, laidLooks := .later }
def FieldBesideUptoCardSaid : Prop := Claim7.holds Tryd.pinned (.plain (OpenSpec.upto fieldBesideSpec)) fieldBesideUptoCard
end Rows
end Go.Proofs.YtbiknfaimplodaaDoor
