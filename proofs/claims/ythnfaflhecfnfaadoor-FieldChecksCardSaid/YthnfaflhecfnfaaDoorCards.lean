/-
  DERIVED. GIVEN WITH THE SEED: THE CARDS: each row of YthnfaflhecfnfaaDoorRows.lean that lists a variable, with what it lists TIED to the program's text (the seventh form; the later family's looks); each row that meets fmt, with fmt's text TOLD by the authors' own Lean function (tested against real Go, not proved from fmt's source: count such statements apart). THE CARD IS WHAT COUNTS. Prove the row's statement (the work); the ties are given (YthnfaflhecfnfaaDoorTie.lean); close each card by the builder's one call (the guide's Derived/Test/ToyasCard.lean, 'card_holds'). Laid BY PROGRAM, IN A SANDBOX (cutbox-door.mjs). By AI agents, Wed Nov 11 2026. No macro, syntax, notation, axiom, sorry.
-/
import Derived.Test.YthnfaflhecfnfaaDoorRows
import GoSem.ClaimSeven
namespace Go.Proofs.YthnfaflhecfnfaaDoor
namespace Rows

/-- THE TIED CARD OF 'marchlaw1.FieldChecks'. -/
def fieldChecksCard : Claim7 := { stood := { row := fieldChecksRow, standIns := [], harness := (true, "c02d9f9cbd7984b954a230728a525e7f3035505b2596554edbb893386c16436b"), looks := true }, kinds := [], alts := [], laidByText := true, laidKinds := [.handle, .data], laidTests := true, laidLooks := .later }
def FieldChecksCardSaid : Prop := Claim7.holds Tryd.pinned (.plain (OpenSpec.ofChange fieldChecksSpec)) fieldChecksCard

/-- THE TIED CARD OF 'marchlaw1.FieldParses'. -/
def fieldParsesCard : Claim7 := { stood := { row := fieldParsesRow, standIns := [], harness := (true, "c02d9f9cbd7984b954a230728a525e7f3035505b2596554edbb893386c16436b"), looks := true }, kinds := [], alts := [], laidByText := true, laidKinds := [.handle], laidTests := true, laidLooks := .later }
def FieldParsesCardSaid : Prop := Claim7.holds Tryd.pinned (.plain (OpenSpec.ofChange fieldParsesSpec)) fieldParsesCard

/-- THE TIED CARD OF 'marchlaw1.FieldSees'. -/
def fieldSeesCard : Claim7 := { stood := { row := fieldSeesRow, standIns := [], harness := (true, "c02d9f9cbd7984b954a230728a525e7f3035505b2596554edbb893386c16436b"), looks := true }, kinds := [], alts := [], laidByText := true, laidKinds := [.handle], laidTests := true, laidLooks := .later }
def FieldSeesCardSaid : Prop := Claim7.holds Tryd.pinned (.plain (OpenSpec.ofChange fieldSeesSpec)) fieldSeesCard

/-- THE TIED CARD OF 'marchlaw4.FieldBeside'. -/
def fieldBesideCard : Claim7 := { stood := { row := fieldBesideRow, standIns := [], harness := (true, "c02d9f9cbd7984b954a230728a525e7f3035505b2596554edbb893386c16436b"), looks := true }, kinds := [], alts := [], laidByText := true, laidKinds := [.data], laidTests := true, laidLooks := .later }
def FieldBesideCardSaid : Prop := Claim7.holds Tryd.pinned (.plain (OpenSpec.ofChange fieldBesideSpec)) fieldBesideCard

/-- THE SECOND FORM's CARD OF 'marchlaw1.FieldChecks'. -/
def fieldChecksUptoCard : Claim7 := { stood := { row := fieldChecksUptoRow, standIns := [], harness := (true, "c02d9f9cbd7984b954a230728a525e7f3035505b2596554edbb893386c16436b"), looks := true }, kinds := [], alts := [], laidByText := true, laidKinds := [.handle, .data], laidTests := true, laidLooks := .later }
def FieldChecksUptoCardSaid : Prop := Claim7.holds Tryd.pinned (.plain (OpenSpec.upto fieldChecksSpec)) fieldChecksUptoCard

/-- THE SECOND FORM's CARD OF 'marchlaw1.FieldParses'. -/
def fieldParsesUptoCard : Claim7 := { stood := { row := fieldParsesUptoRow, standIns := [], harness := (true, "c02d9f9cbd7984b954a230728a525e7f3035505b2596554edbb893386c16436b"), looks := true }, kinds := [], alts := [], laidByText := true, laidKinds := [.handle], laidTests := true, laidLooks := .later }
def FieldParsesUptoCardSaid : Prop := Claim7.holds Tryd.pinned (.plain (OpenSpec.upto fieldParsesSpec)) fieldParsesUptoCard

/-- THE SECOND FORM's CARD OF 'marchlaw1.FieldSees'. -/
def fieldSeesUptoCard : Claim7 := { stood := { row := fieldSeesUptoRow, standIns := [], harness := (true, "c02d9f9cbd7984b954a230728a525e7f3035505b2596554edbb893386c16436b"), looks := true }, kinds := [], alts := [], laidByText := true, laidKinds := [.handle], laidTests := true, laidLooks := .later }
def FieldSeesUptoCardSaid : Prop := Claim7.holds Tryd.pinned (.plain (OpenSpec.upto fieldSeesSpec)) fieldSeesUptoCard

/-- THE SECOND FORM's CARD OF 'marchlaw4.FieldBeside'. -/
def fieldBesideUptoCard : Claim7 := { stood := { row := fieldBesideUptoRow, standIns := [], harness := (true, "c02d9f9cbd7984b954a230728a525e7f3035505b2596554edbb893386c16436b"), looks := true }, kinds := [], alts := [], laidByText := true, laidKinds := [.data], laidTests := true, laidLooks := .later }
def FieldBesideUptoCardSaid : Prop := Claim7.holds Tryd.pinned (.plain (OpenSpec.upto fieldBesideSpec)) fieldBesideUptoCard
end Rows
end Go.Proofs.YthnfaflhecfnfaaDoor
