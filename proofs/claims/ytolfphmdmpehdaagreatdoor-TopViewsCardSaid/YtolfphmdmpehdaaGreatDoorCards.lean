/-
  DERIVED. GIVEN WITH THE SEED: THE CARDS: each row of YtolfphmdmpehdaaGreatDoorRows.lean that lists a variable, with what it lists TIED to the program's text (the seventh form; the later family's looks); each row that meets fmt, with fmt's text TOLD by the authors' own Lean function (tested against real Go, not proved from fmt's source: count such statements apart). THE CARD IS WHAT COUNTS. Prove the row's statement (the work); the ties are given (YtolfphmdmpehdaaGreatDoorTie.lean); close each card by the builder's one call (the guide's Derived/Test/ToyasCard.lean, 'card_holds'). Laid BY PROGRAM, IN A SANDBOX (cutbox-door.mjs). By AI agents, Wed Nov 11 2026. No macro, syntax, notation, axiom, sorry.
-/
import Derived.Test.YtolfphmdmpehdaaGreatDoorRows
import GoSem.ClaimSeven
namespace Go.Proofs.YtolfphmdmpehdaaGreatDoor
namespace Rows

/-- THE TIED CARD OF 'marchlaw4.ReplaySeeks'. -/
def replaySeeksCard : Claim7 := { stood := { row := replaySeeksRow, standIns := [], harness := (true, "a7956a1b12aef1b24d8b76564685ee856ca008374bfbf79d4e6746f5697b111f"), looks := true }, kinds := [], alts := [], laidByText := true, laidKinds := [.data], laidTests := true, laidLooks := .later }
def ReplaySeeksCardSaid : Prop := Claim7.holds Tryz.pinned (.plain (OpenSpec.ofChange replaySeeksSpec)) replaySeeksCard

/-- THE TIED CARD OF 'marchlaw3.ReplayBack'. -/
def replayBackCard : Claim7 := { stood := { row := replayBackRow, standIns := [], harness := (true, "a7956a1b12aef1b24d8b76564685ee856ca008374bfbf79d4e6746f5697b111f"), looks := true }, kinds := [], alts := [], laidByText := true, laidKinds := [.data, .data, .data, .data, .sentinel, .sentinel, .data, .data, .pinned], laidTests := true, laidLooks := .later }
def ReplayBackCardSaid : Prop := Claim7.holds Tryz.pinned (.plain (OpenSpec.ofChange replayBackSpec)) replayBackCard

/-- THE TIED CARD OF 'marchtop.TopViews'. -/
def topViewsCard : Claim7 := { stood := { row := topViewsRow, standIns := [], harness := (true, "a7956a1b12aef1b24d8b76564685ee856ca008374bfbf79d4e6746f5697b111f"), looks := true }, kinds := [], alts := [], laidByText := true, laidKinds := [.data], laidTests := true, laidLooks := .later }
def TopViewsCardSaid : Prop := Claim7.holds Tryz.pinned (.plain (OpenSpec.ofChange topViewsSpec)) topViewsCard

/-- THE TIED CARD OF 'marchlaw4.TurnParts'. -/
def turnPartsCard : Claim7 := { stood := { row := turnPartsRow, standIns := [], harness := (true, "a7956a1b12aef1b24d8b76564685ee856ca008374bfbf79d4e6746f5697b111f"), looks := true }, kinds := [], alts := [], laidByText := true, laidKinds := [.data], laidTests := true, laidLooks := .later }
def TurnPartsCardSaid : Prop := Claim7.holds Tryz.pinned (.plain (OpenSpec.ofChange turnPartsSpec)) turnPartsCard

/-- THE TIED CARD OF 'marchtop.TopWeighs'. -/
def topWeighsCard : Claim7 := { stood := { row := topWeighsRow, standIns := [], harness := (true, "a7956a1b12aef1b24d8b76564685ee856ca008374bfbf79d4e6746f5697b111f"), looks := true }, kinds := [], alts := [], laidByText := true, laidKinds := [.data], laidTests := true, laidLooks := .later }
def TopWeighsCardSaid : Prop := Claim7.holds Tryz.pinned (.plain (OpenSpec.ofChange topWeighsSpec)) topWeighsCard

/-- THE TIED CARD OF 'marchtop.TopQuiet'. -/
def topQuietCard : Claim7 := { stood := { row := topQuietRow, standIns := [], harness := (true, "a7956a1b12aef1b24d8b76564685ee856ca008374bfbf79d4e6746f5697b111f"), looks := true }, kinds := [], alts := [], laidByText := true, laidKinds := [.data], laidTests := true, laidLooks := .later }
def TopQuietCardSaid : Prop := Claim7.holds Tryz.pinned (.plain (OpenSpec.ofChange topQuietSpec)) topQuietCard

/-- THE SECOND FORM's CARD OF 'marchlaw4.ReplaySeeks'. -/
def replaySeeksUptoCard : Claim7 := { stood := { row := replaySeeksUptoRow, standIns := [], harness := (true, "a7956a1b12aef1b24d8b76564685ee856ca008374bfbf79d4e6746f5697b111f"), looks := true }, kinds := [], alts := [], laidByText := true, laidKinds := [.data], laidTests := true, laidLooks := .later }
def ReplaySeeksUptoCardSaid : Prop := Claim7.holds Tryz.pinned (.plain (OpenSpec.upto replaySeeksSpec)) replaySeeksUptoCard

/-- THE SECOND FORM's CARD OF 'marchlaw3.ReplayBack'. -/
def replayBackUptoCard : Claim7 := { stood := { row := replayBackUptoRow, standIns := [], harness := (true, "a7956a1b12aef1b24d8b76564685ee856ca008374bfbf79d4e6746f5697b111f"), looks := true }, kinds := [], alts := [], laidByText := true, laidKinds := [.data, .data, .data, .data, .sentinel, .sentinel, .data, .data, .pinned], laidTests := true, laidLooks := .later }
def ReplayBackUptoCardSaid : Prop := Claim7.holds Tryz.pinned (.plain (OpenSpec.upto replayBackSpec)) replayBackUptoCard

/-- THE SECOND FORM's CARD OF 'marchtop.TopViews'. -/
def topViewsUptoCard : Claim7 := { stood := { row := topViewsUptoRow, standIns := [], harness := (true, "a7956a1b12aef1b24d8b76564685ee856ca008374bfbf79d4e6746f5697b111f"), looks := true }, kinds := [], alts := [], laidByText := true, laidKinds := [.data], laidTests := true, laidLooks := .later }
def TopViewsUptoCardSaid : Prop := Claim7.holds Tryz.pinned (.plain (OpenSpec.upto topViewsSpec)) topViewsUptoCard

/-- THE SECOND FORM's CARD OF 'marchlaw4.TurnParts'. -/
def turnPartsUptoCard : Claim7 := { stood := { row := turnPartsUptoRow, standIns := [], harness := (true, "a7956a1b12aef1b24d8b76564685ee856ca008374bfbf79d4e6746f5697b111f"), looks := true }, kinds := [], alts := [], laidByText := true, laidKinds := [.data], laidTests := true, laidLooks := .later }
def TurnPartsUptoCardSaid : Prop := Claim7.holds Tryz.pinned (.plain (OpenSpec.upto turnPartsSpec)) turnPartsUptoCard

/-- THE SECOND FORM's CARD OF 'marchtop.TopWeighs'. -/
def topWeighsUptoCard : Claim7 := { stood := { row := topWeighsUptoRow, standIns := [], harness := (true, "a7956a1b12aef1b24d8b76564685ee856ca008374bfbf79d4e6746f5697b111f"), looks := true }, kinds := [], alts := [], laidByText := true, laidKinds := [.data], laidTests := true, laidLooks := .later }
def TopWeighsUptoCardSaid : Prop := Claim7.holds Tryz.pinned (.plain (OpenSpec.upto topWeighsSpec)) topWeighsUptoCard

/-- THE SECOND FORM's CARD OF 'marchtop.TopQuiet'. -/
def topQuietUptoCard : Claim7 := { stood := { row := topQuietUptoRow, standIns := [], harness := (true, "a7956a1b12aef1b24d8b76564685ee856ca008374bfbf79d4e6746f5697b111f"), looks := true }, kinds := [], alts := [], laidByText := true, laidKinds := [.data], laidTests := true, laidLooks := .later }
def TopQuietUptoCardSaid : Prop := Claim7.holds Tryz.pinned (.plain (OpenSpec.upto topQuietSpec)) topQuietUptoCard
end Rows
end Go.Proofs.YtolfphmdmpehdaaGreatDoor
