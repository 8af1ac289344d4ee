/-
  DERIVED. GIVEN WITH THE SEED: THE CARDS: each row of YtojhiiiebnlipaaGreatDoorRows.lean that lists a variable, with what it lists TIED to the program's text (the seventh form; the later family's looks); each row that meets fmt, with fmt's text TOLD by the authors' own Lean function (tested against real Go, not proved from fmt's source: count such statements apart). THE CARD IS WHAT COUNTS. Prove the row's statement (the work); the ties are given (YtojhiiiebnlipaaGreatDoorTie.lean); close each card by the builder's one call (the guide's Derived/Test/ToyasCard.lean, 'card_holds'). Laid BY PROGRAM, IN A SANDBOX (cutbox-door.mjs). By AI agents, Wed Nov 11 2026. No macro, syntax, notation, axiom, sorry.
-/
import Derived.Test.YtojhiiiebnlipaaGreatDoorRows
import GoSem.ClaimSeven
namespace Go.Proofs.YtojhiiiebnlipaaGreatDoor
namespace Rows

/-- THE TIED CARD OF 'marchlaw2.TurnGives'. -/
def turnGivesCard : Claim7 := { stood := { row := turnGivesRow, standIns := [], harness := (true, "60ff788aba40bbf47ac12d024d511268f578d43492310a612c5cca392cef6970"), looks := true }, kinds := [], alts := [], laidByText := true, laidKinds := [.handle, .data], laidTests := true, laidLooks := .later }
def TurnGivesCardSaid : Prop := Claim7.holds Tryz.pinned (.plain (OpenSpec.ofChange turnGivesSpec)) turnGivesCard

/-- THE TIED CARD OF 'marchlaw2.TurnPlays'. -/
def turnPlaysCard : Claim7 := { stood := { row := turnPlaysRow, standIns := [], harness := (true, "60ff788aba40bbf47ac12d024d511268f578d43492310a612c5cca392cef6970"), looks := true }, kinds := [], alts := [], laidByText := true, laidKinds := [.handle, .data], laidTests := true, laidLooks := .later }
def TurnPlaysCardSaid : Prop := Claim7.holds Tryz.pinned (.plain (OpenSpec.ofChange turnPlaysSpec)) turnPlaysCard

/-- THE TIED CARD OF 'marchlaw2.TurnOrder'. -/
def turnOrderCard : Claim7 := { stood := { row := turnOrderRow, standIns := [], harness := (true, "60ff788aba40bbf47ac12d024d511268f578d43492310a612c5cca392cef6970"), looks := true }, kinds := [], alts := [], laidByText := true, laidKinds := [.data], laidTests := true, laidLooks := .later }
def TurnOrderCardSaid : Prop := Claim7.holds Tryz.pinned (.plain (OpenSpec.ofChange turnOrderSpec)) turnOrderCard

/-- THE TIED CARD OF 'marchlaw4.TurnParts'. -/
def turnPartsCard : Claim7 := { stood := { row := turnPartsRow, standIns := [], harness := (true, "60ff788aba40bbf47ac12d024d511268f578d43492310a612c5cca392cef6970"), looks := true }, kinds := [], alts := [], laidByText := true, laidKinds := [.data], laidTests := true, laidLooks := .later }
def TurnPartsCardSaid : Prop := Claim7.holds Tryz.pinned (.plain (OpenSpec.ofChange turnPartsSpec)) turnPartsCard

/-- THE TIED CARD OF 'marchtop.TopWeighs'. -/
def topWeighsCard : Claim7 := { stood := { row := topWeighsRow, standIns := [], harness := (true, "60ff788aba40bbf47ac12d024d511268f578d43492310a612c5cca392cef6970"), looks := true }, kinds := [], alts := [], laidByText := true, laidKinds := [.data], laidTests := true, laidLooks := .later }
def TopWeighsCardSaid : Prop := Claim7.holds Tryz.pinned (.plain (OpenSpec.ofChange topWeighsSpec)) topWeighsCard

/-- THE TIED CARD OF 'marchtop.TopViews'. -/
def topViewsCard : Claim7 := { stood := { row := topViewsRow, standIns := [], harness := (true, "60ff788aba40bbf47ac12d024d511268f578d43492310a612c5cca392cef6970"), looks := true }, kinds := [], alts := [], laidByText := true, laidKinds := [.data], laidTests := true, laidLooks := .later }
def TopViewsCardSaid : Prop := Claim7.holds Tryz.pinned (.plain (OpenSpec.ofChange topViewsSpec)) topViewsCard

/-- THE SECOND FORM's CARD OF 'marchlaw2.TurnGives'. -/
def turnGivesUptoCard : Claim7 := { stood := { row := turnGivesUptoRow, standIns := [], harness := (true, "60ff788aba40bbf47ac12d024d511268f578d43492310a612c5cca392cef6970"), looks := true }, kinds := [], alts := [], laidByText := true, laidKinds := [.handle, .data], laidTests := true, laidLooks := .later }
def TurnGivesUptoCardSaid : Prop := Claim7.holds Tryz.pinned (.plain (OpenSpec.upto turnGivesSpec)) turnGivesUptoCard

/-- THE SECOND FORM's CARD OF 'marchlaw2.TurnPlays'. -/
def turnPlaysUptoCard : Claim7 := { stood := { row := turnPlaysUptoRow, standIns := [], harness := (true, "60ff788aba40bbf47ac12d024d511268f578d43492310a612c5cca392cef6970"), looks := true }, kinds := [], alts := [], laidByText := true, laidKinds := [.handle, .data], laidTests := true, laidLooks := .later }
def TurnPlaysUptoCardSaid : Prop := Claim7.holds Tryz.pinned (.plain (OpenSpec.upto turnPlaysSpec)) turnPlaysUptoCard

/-- THE SECOND FORM's CARD OF 'marchlaw2.TurnOrder'. -/
def turnOrderUptoCard : Claim7 := { stood := { row := turnOrderUptoRow, standIns := [], harness := (true, "60ff788aba40bbf47ac12d024d511268f578d43492310a612c5cca392cef6970"), looks := true }, kinds := [], alts := [], laidByText := true, laidKinds := [.data], laidTests := true, laidLooks := .later }
def TurnOrderUptoCardSaid : Prop := Claim7.holds Tryz.pinned (.plain (OpenSpec.upto turnOrderSpec)) turnOrderUptoCard

/-- THE SECOND FORM's CARD OF 'marchlaw4.TurnParts'. -/
def turnPartsUptoCard : Claim7 := { stood := { row := turnPartsUptoRow, standIns := [], harness := (true, "60ff788aba40bbf47ac12d024d511268f578d43492310a612c5cca392cef6970"), looks := true }, kinds := [], alts := [], laidByText := true, laidKinds := [.data], laidTests := true, laidLooks := .later }
def TurnPartsUptoCardSaid : Prop := Claim7.holds Tryz.pinned (.plain (OpenSpec.upto turnPartsSpec)) turnPartsUptoCard

/-- THE SECOND FORM's CARD OF 'marchtop.TopWeighs'. -/
def topWeighsUptoCard : Claim7 := { stood := { row := topWeighsUptoRow, standIns := [], harness := (true, "60ff788aba40bbf47ac12d024d511268f578d43492310a612c5cca392cef6970"), looks := true }, kinds := [], alts := [], laidByText := true, laidKinds := [.data], laidTests := true, laidLooks := .later }
def TopWeighsUptoCardSaid : Prop := Claim7.holds Tryz.pinned (.plain (OpenSpec.upto topWeighsSpec)) topWeighsUptoCard

/-- THE SECOND FORM's CARD OF 'marchtop.TopViews'. -/
def topViewsUptoCard : Claim7 := { stood := { row := topViewsUptoRow, standIns := [], harness := (true, "60ff788aba40bbf47ac12d024d511268f578d43492310a612c5cca392cef6970"), looks := true }, kinds := [], alts := [], laidByText := true, laidKinds := [.data], laidTests := true, laidLooks := .later }
def TopViewsUptoCardSaid : Prop := Claim7.holds Tryz.pinned (.plain (OpenSpec.upto topViewsSpec)) topViewsUptoCard
end Rows
end Go.Proofs.YtojhiiiebnlipaaGreatDoor
