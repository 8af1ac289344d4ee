/-
  DERIVED. GIVEN WITH THE SEED: THE CARDS: each row of YtkceccajamdbjaaDoorRows.lean that lists a variable, with what it lists TIED to the program's text (the seventh form; the later family's looks); each row that meets fmt, with fmt's text TOLD by the authors' own Lean function (tested against real Go, not proved from fmt's source: count such statements apart). THE CARD IS WHAT COUNTS. Prove the row's statement (the work); the ties are given (YtkceccajamdbjaaDoorTie.lean); close each card by the builder's one call (the guide's Derived/Test/ToyasCard.lean, 'card_holds'). Laid BY PROGRAM, IN A SANDBOX (cutbox-door.mjs). By AI agents, Wed Nov 11 2026. No macro, syntax, notation, axiom, sorry.
-/
import Derived.Test.YtkceccajamdbjaaDoorRows
import GoSem.ClaimSeven
namespace Go.Proofs.YtkceccajamdbjaaDoor
namespace Rows

/-- THE TIED CARD OF 'marchlaw1.KindsBack'. -/
def kindsBackCard : Claim7 := { stood := { row := kindsBackRow, standIns := [], harness := (true, "27765e876528b1a29a9316fcd0ff661be6e100c9503a5e57b506fa9d9129bed7"), looks := true }, kinds := [], alts := [], laidByText := true, laidKinds := [.data, .data, .data, .data, .sentinel, .sentinel, .pinned], laidTests := true, laidLooks := .later }
def KindsBackCardSaid : Prop := Claim7.holds Tryd.pinned (.plain (OpenSpec.ofChange kindsBackSpec)) kindsBackCard

/-- THE TIED CARD OF 'marchlaw1.OrdersCount'. -/
def ordersCountCard : Claim7 := { stood := { row := ordersCountRow, standIns := [], harness := (true, "27765e876528b1a29a9316fcd0ff661be6e100c9503a5e57b506fa9d9129bed7"), looks := true }, kinds := [], alts := [], laidByText := true, laidKinds := [.data, .data, .data, .handle, .data], laidTests := true, laidLooks := .later }
def OrdersCountCardSaid : Prop := Claim7.holds Tryd.pinned (.plain (OpenSpec.ofChange ordersCountSpec)) ordersCountCard

/-- THE TIED CARD OF 'marchlaw1.OrdersParses'. -/
def ordersParsesCard : Claim7 := { stood := { row := ordersParsesRow, standIns := [], harness := (true, "27765e876528b1a29a9316fcd0ff661be6e100c9503a5e57b506fa9d9129bed7"), looks := true }, kinds := [], alts := [], laidByText := true, laidKinds := [.data, .data, .data, .data, .handle, .sentinel, .sentinel, .data, .pinned], laidTests := true, laidLooks := .later }
def OrdersParsesCardSaid : Prop := Claim7.holds Tryd.pinned (.plain (OpenSpec.ofChange ordersParsesSpec)) ordersParsesCard

/-- THE TIED CARD OF 'marchlaw1.OrdersBack'. -/
def ordersBackCard : Claim7 := { stood := { row := ordersBackRow, standIns := [], harness := (true, "27765e876528b1a29a9316fcd0ff661be6e100c9503a5e57b506fa9d9129bed7"), looks := true }, kinds := [], alts := [], laidByText := true, laidKinds := [.data, .data, .data, .data, .sentinel, .sentinel, .data, .pinned], laidTests := true, laidLooks := .later }
def OrdersBackCardSaid : Prop := Claim7.holds Tryd.pinned (.plain (OpenSpec.ofChange ordersBackSpec)) ordersBackCard

/-- THE SECOND FORM's CARD OF 'marchlaw1.KindsBack'. -/
def kindsBackUptoCard : Claim7 := { stood := { row := kindsBackUptoRow, standIns := [], harness := (true, "27765e876528b1a29a9316fcd0ff661be6e100c9503a5e57b506fa9d9129bed7"), looks := true }, kinds := [], alts := [], laidByText := true, laidKinds := [.data, .data, .data, .data, .sentinel, .sentinel, .pinned], laidTests := true, laidLooks := .later }
def KindsBackUptoCardSaid : Prop := Claim7.holds Tryd.pinned (.plain (OpenSpec.upto kindsBackSpec)) kindsBackUptoCard

/-- THE SECOND FORM's CARD OF 'marchlaw1.OrdersCount'. -/
def ordersCountUptoCard : Claim7 := { stood := { row := ordersCountUptoRow, standIns := [], harness := (true, "27765e876528b1a29a9316fcd0ff661be6e100c9503a5e57b506fa9d9129bed7"), looks := true }, kinds := [], alts := [], laidByText := true, laidKinds := [.data, .data, .data, .handle, .data], laidTests := true, laidLooks := .later }
def OrdersCountUptoCardSaid : Prop := Claim7.holds Tryd.pinned (.plain (OpenSpec.upto ordersCountSpec)) ordersCountUptoCard

/-- THE SECOND FORM's CARD OF 'marchlaw1.OrdersParses'. -/
def ordersParsesUptoCard : Claim7 := { stood := { row := ordersParsesUptoRow, standIns := [], harness := (true, "27765e876528b1a29a9316fcd0ff661be6e100c9503a5e57b506fa9d9129bed7"), looks := true }, kinds := [], alts := [], laidByText := true, laidKinds := [.data, .data, .data, .data, .handle, .sentinel, .sentinel, .data, .pinned], laidTests := true, laidLooks := .later }
def OrdersParsesUptoCardSaid : Prop := Claim7.holds Tryd.pinned (.plain (OpenSpec.upto ordersParsesSpec)) ordersParsesUptoCard

/-- THE SECOND FORM's CARD OF 'marchlaw1.OrdersBack'. -/
def ordersBackUptoCard : Claim7 := { stood := { row := ordersBackUptoRow, standIns := [], harness := (true, "27765e876528b1a29a9316fcd0ff661be6e100c9503a5e57b506fa9d9129bed7"), looks := true }, kinds := [], alts := [], laidByText := true, laidKinds := [.data, .data, .data, .data, .sentinel, .sentinel, .data, .pinned], laidTests := true, laidLooks := .later }
def OrdersBackUptoCardSaid : Prop := Claim7.holds Tryd.pinned (.plain (OpenSpec.upto ordersBackSpec)) ordersBackUptoCard
end Rows
end Go.Proofs.YtkceccajamdbjaaDoor
