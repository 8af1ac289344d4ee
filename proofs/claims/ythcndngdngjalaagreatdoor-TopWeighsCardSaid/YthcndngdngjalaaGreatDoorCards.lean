/-
  DERIVED. GIVEN WITH THE SEED: THE CARDS: each row of YthcndngdngjalaaGreatDoorRows.lean that lists a variable, with what it lists TIED to the program's text (the seventh form; the later family's looks); each row that meets fmt, with fmt's text TOLD by the authors' own Lean function (tested against real Go, not proved from fmt's source: count such statements apart). THE CARD IS WHAT COUNTS. Prove the row's statement (the work); the ties are given (YthcndngdngjalaaGreatDoorTie.lean); close each card by the builder's one call (the guide's Derived/Test/ToyasCard.lean, 'card_holds'). Laid BY PROGRAM, IN A SANDBOX (cutbox-door.mjs). By AI agents, Wed Nov 11 2026. No macro, syntax, notation, axiom, sorry.
-/
import Derived.Test.YthcndngdngjalaaGreatDoorRows
import GoSem.ClaimSeven
namespace Go.Proofs.YthcndngdngjalaaGreatDoor
namespace Rows

/-- THE TIED CARD OF 'marchlaw2.WorksDo'. -/
def worksDoCard : Claim7 := { stood := { row := worksDoRow, standIns := [], harness := (true, "f4cc6a76f6e51d9e547da7ec3612ed4047f4eb6562c1076d4d9b14d0a91e6200"), looks := true }, kinds := [], alts := [], laidByText := true, laidKinds := [.handle, .data], laidTests := true, laidLooks := .later }
def WorksDoCardSaid : Prop := Claim7.holds Tryz.pinned (.plain (OpenSpec.ofChange worksDoSpec)) worksDoCard

/-- THE TIED CARD OF 'marchlaw2.TurnOrder'. -/
def turnOrderCard : Claim7 := { stood := { row := turnOrderRow, standIns := [], harness := (true, "f4cc6a76f6e51d9e547da7ec3612ed4047f4eb6562c1076d4d9b14d0a91e6200"), looks := true }, kinds := [], alts := [], laidByText := true, laidKinds := [.data], laidTests := true, laidLooks := .later }
def TurnOrderCardSaid : Prop := Claim7.holds Tryz.pinned (.plain (OpenSpec.ofChange turnOrderSpec)) turnOrderCard

/-- THE TIED CARD OF 'marchlaw4.TurnParts'. -/
def turnPartsCard : Claim7 := { stood := { row := turnPartsRow, standIns := [], harness := (true, "f4cc6a76f6e51d9e547da7ec3612ed4047f4eb6562c1076d4d9b14d0a91e6200"), looks := true }, kinds := [], alts := [], laidByText := true, laidKinds := [.data], laidTests := true, laidLooks := .later }
def TurnPartsCardSaid : Prop := Claim7.holds Tryz.pinned (.plain (OpenSpec.ofChange turnPartsSpec)) turnPartsCard

/-- THE TIED CARD OF 'marchtop.TopWeighs'. -/
def topWeighsCard : Claim7 := { stood := { row := topWeighsRow, standIns := [], harness := (true, "f4cc6a76f6e51d9e547da7ec3612ed4047f4eb6562c1076d4d9b14d0a91e6200"), looks := true }, kinds := [], alts := [], laidByText := true, laidKinds := [.data], laidTests := true, laidLooks := .later }
def TopWeighsCardSaid : Prop := Claim7.holds Tryz.pinned (.plain (OpenSpec.ofChange topWeighsSpec)) topWeighsCard

/-- THE TIED CARD OF 'marchtop.TopQuiet'. -/
def topQuietCard : Claim7 := { stood := { row := topQuietRow, standIns := [], harness := (true, "f4cc6a76f6e51d9e547da7ec3612ed4047f4eb6562c1076d4d9b14d0a91e6200"), looks := true }, kinds := [], alts := [], laidByText := true, laidKinds := [.data], laidTests := true, laidLooks := .later }
def TopQuietCardSaid : Prop := Claim7.holds Tryz.pinned (.plain (OpenSpec.ofChange topQuietSpec)) topQuietCard

/-- THE TIED CARD OF 'marchtop.TopWorth'. -/
def topWorthCard : Claim7 := { stood := { row := topWorthRow, standIns := [], harness := (true, "f4cc6a76f6e51d9e547da7ec3612ed4047f4eb6562c1076d4d9b14d0a91e6200"), looks := true }, kinds := [], alts := [], laidByText := true, laidKinds := [.data], laidTests := true, laidLooks := .later }
def TopWorthCardSaid : Prop := Claim7.holds Tryz.pinned (.plain (OpenSpec.ofChange topWorthSpec)) topWorthCard

/-- THE SECOND FORM's CARD OF 'marchlaw2.WorksDo'. -/
def worksDoUptoCard : Claim7 := { stood := { row := worksDoUptoRow, standIns := [], harness := (true, "f4cc6a76f6e51d9e547da7ec3612ed4047f4eb6562c1076d4d9b14d0a91e6200"), looks := true }, kinds := [], alts := [], laidByText := true, laidKinds := [.handle, .data], laidTests := true, laidLooks := .later }
def WorksDoUptoCardSaid : Prop := Claim7.holds Tryz.pinned (.plain (OpenSpec.upto worksDoSpec)) worksDoUptoCard

/-- THE SECOND FORM's CARD OF 'marchlaw2.TurnOrder'. -/
def turnOrderUptoCard : Claim7 := { stood := { row := turnOrderUptoRow, standIns := [], harness := (true, "f4cc6a76f6e51d9e547da7ec3612ed4047f4eb6562c1076d4d9b14d0a91e6200"), looks := true }, kinds := [], alts := [], laidByText := true, laidKinds := [.data], laidTests := true, laidLooks := .later }
def TurnOrderUptoCardSaid : Prop := Claim7.holds Tryz.pinned (.plain (OpenSpec.upto turnOrderSpec)) turnOrderUptoCard

/-- THE SECOND FORM's CARD OF 'marchlaw4.TurnParts'. -/
def turnPartsUptoCard : Claim7 := { stood := { row := turnPartsUptoRow, standIns := [], harness := (true, "f4cc6a76f6e51d9e547da7ec3612ed4047f4eb6562c1076d4d9b14d0a91e6200"), looks := true }, kinds := [], alts := [], laidByText := true, laidKinds := [.data], laidTests := true, laidLooks := .later }
def TurnPartsUptoCardSaid : Prop := Claim7.holds Tryz.pinned (.plain (OpenSpec.upto turnPartsSpec)) turnPartsUptoCard

/-- THE SECOND FORM's CARD OF 'marchtop.TopWeighs'. -/
def topWeighsUptoCard : Claim7 := { stood := { row := topWeighsUptoRow, standIns := [], harness := (true, "f4cc6a76f6e51d9e547da7ec3612ed4047f4eb6562c1076d4d9b14d0a91e6200"), looks := true }, kinds := [], alts := [], laidByText := true, laidKinds := [.data], laidTests := true, laidLooks := .later }
def TopWeighsUptoCardSaid : Prop := Claim7.holds Tryz.pinned (.plain (OpenSpec.upto topWeighsSpec)) topWeighsUptoCard

/-- THE SECOND FORM's CARD OF 'marchtop.TopQuiet'. -/
def topQuietUptoCard : Claim7 := { stood := { row := topQuietUptoRow, standIns := [], harness := (true, "f4cc6a76f6e51d9e547da7ec3612ed4047f4eb6562c1076d4d9b14d0a91e6200"), looks := true }, kinds := [], alts := [], laidByText := true, laidKinds := [.data], laidTests := true, laidLooks := .later }
def TopQuietUptoCardSaid : Prop := Claim7.holds Tryz.pinned (.plain (OpenSpec.upto topQuietSpec)) topQuietUptoCard

/-- THE SECOND FORM's CARD OF 'marchtop.TopWorth'. -/
def topWorthUptoCard : Claim7 := { stood := { row := topWorthUptoRow, standIns := [], harness := (true, "f4cc6a76f6e51d9e547da7ec3612ed4047f4eb6562c1076d4d9b14d0a91e6200"), looks := true }, kinds := [], alts := [], laidByText := true, laidKinds := [.data], laidTests := true, laidLooks := .later }
def TopWorthUptoCardSaid : Prop := Claim7.holds Tryz.pinned (.plain (OpenSpec.upto topWorthSpec)) topWorthUptoCard
end Rows
end Go.Proofs.YthcndngdngjalaaGreatDoor
