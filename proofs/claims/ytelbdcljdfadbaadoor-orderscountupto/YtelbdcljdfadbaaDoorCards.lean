/-
  DERIVED. GIVEN WITH THE SEED: THE CARDS: each row of YtelbdcljdfadbaaDoorRows.lean that lists a variable, with what it lists TIED to the program's text (the seventh form; the later family's looks); each row that meets fmt, with fmt's text TOLD by the authors' own Lean function (tested against real Go, not proved from fmt's source: count such statements apart). THE CARD IS WHAT COUNTS. Prove the row's statement (the work); the ties are given (YtelbdcljdfadbaaDoorTie.lean); close each card by the builder's one call (the guide's Derived/Test/ToyasCard.lean, 'card_holds'). Laid BY PROGRAM, IN A SANDBOX (cutbox-door.mjs). By AI agents, Wed Nov 11 2026. No macro, syntax, notation, axiom, sorry.
-/
import Derived.Test.YtelbdcljdfadbaaDoorRows
import GoSem.ClaimSeven
namespace Go.Proofs.YtelbdcljdfadbaaDoor
namespace Rows

/-- THE TIED CARD OF 'marchlaw2.WorksWeigh'. -/
def worksWeighCard : Claim7 := { stood := { row := worksWeighRow, standIns := [], harness := (true, "fba9476f93f59537540cb9131e06c69851f79e0fc771e428b376fb6f2998a24f"), looks := true }, kinds := [], alts := [], laidByText := true, laidKinds := [.data], laidTests := true, laidLooks := .later }
def WorksWeighCardSaid : Prop := Claim7.holds Tryd.pinned (.plain (OpenSpec.ofChange worksWeighSpec)) worksWeighCard

/-- THE TIED CARD OF 'marchlaw2.WorldBegins'. -/
def worldBeginsCard : Claim7 := { stood := { row := worldBeginsRow, standIns := [], harness := (true, "fba9476f93f59537540cb9131e06c69851f79e0fc771e428b376fb6f2998a24f"), looks := true }, kinds := [], alts := [], laidByText := true, laidKinds := [.handle], laidTests := true, laidLooks := .later }
def WorldBeginsCardSaid : Prop := Claim7.holds Tryd.pinned (.plain (OpenSpec.ofChange worldBeginsSpec)) worldBeginsCard

/-- THE TIED CARD OF 'marchlaw1.OrdersBack'. -/
def ordersBackCard : Claim7 := { stood := { row := ordersBackRow, standIns := [], harness := (true, "fba9476f93f59537540cb9131e06c69851f79e0fc771e428b376fb6f2998a24f"), looks := true }, kinds := [], alts := [], laidByText := true, laidKinds := [.data, .data, .data, .data, .sentinel, .sentinel, .data, .pinned], laidTests := true, laidLooks := .later }
def OrdersBackCardSaid : Prop := Claim7.holds Tryd.pinned (.plain (OpenSpec.ofChange ordersBackSpec)) ordersBackCard

/-- THE TIED CARD OF 'marchlaw1.OrdersCount'. -/
def ordersCountCard : Claim7 := { stood := { row := ordersCountRow, standIns := [], harness := (true, "fba9476f93f59537540cb9131e06c69851f79e0fc771e428b376fb6f2998a24f"), looks := true }, kinds := [], alts := [], laidByText := true, laidKinds := [.data, .data, .data, .handle, .data], laidTests := true, laidLooks := .later }
def OrdersCountCardSaid : Prop := Claim7.holds Tryd.pinned (.plain (OpenSpec.ofChange ordersCountSpec)) ordersCountCard

/-- THE SECOND FORM's CARD OF 'marchlaw2.WorksWeigh'. -/
def worksWeighUptoCard : Claim7 := { stood := { row := worksWeighUptoRow, standIns := [], harness := (true, "fba9476f93f59537540cb9131e06c69851f79e0fc771e428b376fb6f2998a24f"), looks := true }, kinds := [], alts := [], laidByText := true, laidKinds := [.data], laidTests := true, laidLooks := .later }
def WorksWeighUptoCardSaid : Prop := Claim7.holds Tryd.pinned (.plain (OpenSpec.upto worksWeighSpec)) worksWeighUptoCard

/-- THE SECOND FORM's CARD OF 'marchlaw2.WorldBegins'. -/
def worldBeginsUptoCard : Claim7 := { stood := { row := worldBeginsUptoRow, standIns := [], harness := (true, "fba9476f93f59537540cb9131e06c69851f79e0fc771e428b376fb6f2998a24f"), looks := true }, kinds := [], alts := [], laidByText := true, laidKinds := [.handle], laidTests := true, laidLooks := .later }
def WorldBeginsUptoCardSaid : Prop := Claim7.holds Tryd.pinned (.plain (OpenSpec.upto worldBeginsSpec)) worldBeginsUptoCard

/-- THE SECOND FORM's CARD OF 'marchlaw1.OrdersBack'. -/
def ordersBackUptoCard : Claim7 := { stood := { row := ordersBackUptoRow, standIns := [], harness := (true, "fba9476f93f59537540cb9131e06c69851f79e0fc771e428b376fb6f2998a24f"), looks := true }, kinds := [], alts := [], laidByText := true, laidKinds := [.data, .data, .data, .data, .sentinel, .sentinel, .data, .pinned], laidTests := true, laidLooks := .later }
def OrdersBackUptoCardSaid : Prop := Claim7.holds Tryd.pinned (.plain (OpenSpec.upto ordersBackSpec)) ordersBackUptoCard

/-- THE SECOND FORM's CARD OF 'marchlaw1.OrdersCount'. -/
def ordersCountUptoCard : Claim7 := { stood := { row := ordersCountUptoRow, standIns := [], harness := (true, "fba9476f93f59537540cb9131e06c69851f79e0fc771e428b376fb6f2998a24f"), looks := true }, kinds := [], alts := [], laidByText := true, laidKinds := [.data, .data, .data, .handle, .data], laidTests := true, laidLooks := .later }
def OrdersCountUptoCardSaid : Prop := Claim7.holds Tryd.pinned (.plain (OpenSpec.upto ordersCountSpec)) ordersCountUptoCard
end Rows
end Go.Proofs.YtelbdcljdfadbaaDoor
