/-
  DERIVED. GIVEN WITH THE SEED: THE CARDS: each row of YtkejdkajfnaieaaGreatDoorRows.lean that lists a variable, with what it lists TIED to the program's text (the seventh form; the later family's looks); each row that meets fmt, with fmt's text TOLD by the authors' own Lean function (tested against real Go, not proved from fmt's source: count such statements apart). THE CARD IS WHAT COUNTS. Prove the row's statement (the work); the ties are given (YtkejdkajfnaieaaGreatDoorTie.lean); close each card by the builder's one call (the guide's Derived/Test/ToyasCard.lean, 'card_holds'). Laid BY PROGRAM, IN A SANDBOX (cutbox-door.mjs). By AI agents, Wed Nov 11 2026. No macro, syntax, notation, axiom, sorry.
-/
import Derived.Test.YtkejdkajfnaieaaGreatDoorRows
import GoSem.ClaimSeven
namespace Go.Proofs.YtkejdkajfnaieaaGreatDoor
namespace Rows

/-- THE TIED CARD OF 'marchlaw2.TurnOrder'. -/
def turnOrderCard : Claim7 := { stood := { row := turnOrderRow, standIns := [], harness := (true, "b111a6de43f87d1bea408a4b5583a30d2df0fa755efe753ed11ea63a0ba9d88e"), looks := true }, kinds := [], alts := [], laidByText := true, laidKinds := [.data], laidTests := true, laidLooks := .later }
def TurnOrderCardSaid : Prop := Claim7.holds Tryz.pinned (.plain (OpenSpec.ofChange turnOrderSpec)) turnOrderCard

/-- THE TIED CARD OF 'marchlaw3.FeedReads'. -/
def feedReadsCard : Claim7 := { stood := { row := feedReadsRow, standIns := [], harness := (true, "b111a6de43f87d1bea408a4b5583a30d2df0fa755efe753ed11ea63a0ba9d88e"), looks := true }, kinds := [], alts := [], laidByText := true, laidKinds := [.handle], laidTests := true, laidLooks := .later }
def FeedReadsCardSaid : Prop := Claim7.holds Tryz.pinned (.plain (OpenSpec.ofChange feedReadsSpec)) feedReadsCard

/-- THE TIED CARD OF 'marchtop.TopViews'. -/
def topViewsCard : Claim7 := { stood := { row := topViewsRow, standIns := [], harness := (true, "b111a6de43f87d1bea408a4b5583a30d2df0fa755efe753ed11ea63a0ba9d88e"), looks := true }, kinds := [], alts := [], laidByText := true, laidKinds := [.data], laidTests := true, laidLooks := .later }
def TopViewsCardSaid : Prop := Claim7.holds Tryz.pinned (.plain (OpenSpec.ofChange topViewsSpec)) topViewsCard

/-- THE TIED CARD OF 'marchlaw2.WorksDo'. -/
def worksDoCard : Claim7 := { stood := { row := worksDoRow, standIns := [], harness := (true, "b111a6de43f87d1bea408a4b5583a30d2df0fa755efe753ed11ea63a0ba9d88e"), looks := true }, kinds := [], alts := [], laidByText := true, laidKinds := [.handle, .data], laidTests := true, laidLooks := .later }
def WorksDoCardSaid : Prop := Claim7.holds Tryz.pinned (.plain (OpenSpec.ofChange worksDoSpec)) worksDoCard

/-- THE TIED CARD OF 'marchlaw2.TurnGives'. -/
def turnGivesCard : Claim7 := { stood := { row := turnGivesRow, standIns := [], harness := (true, "b111a6de43f87d1bea408a4b5583a30d2df0fa755efe753ed11ea63a0ba9d88e"), looks := true }, kinds := [], alts := [], laidByText := true, laidKinds := [.handle, .data], laidTests := true, laidLooks := .later }
def TurnGivesCardSaid : Prop := Claim7.holds Tryz.pinned (.plain (OpenSpec.ofChange turnGivesSpec)) turnGivesCard

/-- THE TIED CARD OF 'marchlaw2.TurnPlays'. -/
def turnPlaysCard : Claim7 := { stood := { row := turnPlaysRow, standIns := [], harness := (true, "b111a6de43f87d1bea408a4b5583a30d2df0fa755efe753ed11ea63a0ba9d88e"), looks := true }, kinds := [], alts := [], laidByText := true, laidKinds := [.handle, .data], laidTests := true, laidLooks := .later }
def TurnPlaysCardSaid : Prop := Claim7.holds Tryz.pinned (.plain (OpenSpec.ofChange turnPlaysSpec)) turnPlaysCard

/-- THE SECOND FORM's CARD OF 'marchlaw2.TurnOrder'. -/
def turnOrderUptoCard : Claim7 := { stood := { row := turnOrderUptoRow, standIns := [], harness := (true, "b111a6de43f87d1bea408a4b5583a30d2df0fa755efe753ed11ea63a0ba9d88e"), looks := true }, kinds := [], alts := [], laidByText := true, laidKinds := [.data], laidTests := true, laidLooks := .later }
def TurnOrderUptoCardSaid : Prop := Claim7.holds Tryz.pinned (.plain (OpenSpec.upto turnOrderSpec)) turnOrderUptoCard

/-- THE SECOND FORM's CARD OF 'marchlaw3.FeedReads'. -/
def feedReadsUptoCard : Claim7 := { stood := { row := feedReadsUptoRow, standIns := [], harness := (true, "b111a6de43f87d1bea408a4b5583a30d2df0fa755efe753ed11ea63a0ba9d88e"), looks := true }, kinds := [], alts := [], laidByText := true, laidKinds := [.handle], laidTests := true, laidLooks := .later }
def FeedReadsUptoCardSaid : Prop := Claim7.holds Tryz.pinned (.plain (OpenSpec.upto feedReadsSpec)) feedReadsUptoCard

/-- THE SECOND FORM's CARD OF 'marchtop.TopViews'. -/
def topViewsUptoCard : Claim7 := { stood := { row := topViewsUptoRow, standIns := [], harness := (true, "b111a6de43f87d1bea408a4b5583a30d2df0fa755efe753ed11ea63a0ba9d88e"), looks := true }, kinds := [], alts := [], laidByText := true, laidKinds := [.data], laidTests := true, laidLooks := .later }
def TopViewsUptoCardSaid : Prop := Claim7.holds Tryz.pinned (.plain (OpenSpec.upto topViewsSpec)) topViewsUptoCard

/-- THE SECOND FORM's CARD OF 'marchlaw2.WorksDo'. -/
def worksDoUptoCard : Claim7 := { stood := { row := worksDoUptoRow, standIns := [], harness := (true, "b111a6de43f87d1bea408a4b5583a30d2df0fa755efe753ed11ea63a0ba9d88e"), looks := true }, kinds := [], alts := [], laidByText := true, laidKinds := [.handle, .data], laidTests := true, laidLooks := .later }
def WorksDoUptoCardSaid : Prop := Claim7.holds Tryz.pinned (.plain (OpenSpec.upto worksDoSpec)) worksDoUptoCard

/-- THE SECOND FORM's CARD OF 'marchlaw2.TurnGives'. -/
def turnGivesUptoCard : Claim7 := { stood := { row := turnGivesUptoRow, standIns := [], harness := (true, "b111a6de43f87d1bea408a4b5583a30d2df0fa755efe753ed11ea63a0ba9d88e"), looks := true }, kinds := [], alts := [], laidByText := true, laidKinds := [.handle, .data], laidTests := true, laidLooks := .later }
def TurnGivesUptoCardSaid : Prop := Claim7.holds Tryz.pinned (.plain (OpenSpec.upto turnGivesSpec)) turnGivesUptoCard

/-- THE SECOND FORM's CARD OF 'marchlaw2.TurnPlays'. -/
def turnPlaysUptoCard : Claim7 := { stood := { row := turnPlaysUptoRow, standIns := [], harness := (true, "b111a6de43f87d1bea408a4b5583a30d2df0fa755efe753ed11ea63a0ba9d88e"), looks := true }, kinds := [], alts := [], laidByText := true, laidKinds := [.handle, .data], laidTests := true, laidLooks := .later }
def TurnPlaysUptoCardSaid : Prop := Claim7.holds Tryz.pinned (.plain (OpenSpec.upto turnPlaysSpec)) turnPlaysUptoCard
end Rows
end Go.Proofs.YtkejdkajfnaieaaGreatDoor
