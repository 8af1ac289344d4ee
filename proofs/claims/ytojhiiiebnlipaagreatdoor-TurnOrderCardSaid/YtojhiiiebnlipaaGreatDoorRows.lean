/-
  NARROWER THAN 'FOR EVERY INPUT', by the rows' own cells (each row's printed sentence says how): TurnGives: laid · TurnPlays: laid · TurnOrder: laid · TurnParts: laid · TopWeighs: laid · TopViews: laid.
  DERIVED. THE GIVEN ROWS OF THIS SEAT. 6 by the template 'for every input the law returns true; each argument reads behind the call as it read before'; 0 by the template 'total and deterministic' (their statements: YtojhiiiebnlipaaGreatDoorTotals.lean).
  GIVEN WITH THE SEED: the statements are not yours to turn. If you find one false, say at which input.
  Laid BY PROGRAM, IN A SANDBOX (cutbox-rows.mjs): the forced cells as the released guide's own fill.sh prints them over the translation bfea9a02c9d9623a… (all of the seat's roots in one cut). By AI agents, Wed Nov 11 2026. No macro, syntax, notation, axiom, sorry.
-/
import Derived.Test.YtojhiiiebnlipaaGreatDoorChecked
import GoSem.Claim
import GoSem.ClaimJoined
import GoSem.ClaimMapViews
import Derived.JoinedTies
import Derived.KernelRfl
namespace Go.Proofs.YtojhiiiebnlipaaGreatDoor
/- THE CELL 'sum', in the pinned program and in every row, IS THE sha256 OF THE DUMP (.gsa) THAT YtojhiiiebnlipaaGreatDoorProg.lean LOADS. Nothing in Lean hashes anything: it is a label: what it is worth is what the hold of that sum in a sandbox is worth. -/
noncomputable def Tryz.pinned : Pinned := { name := "ytojhiiiebnlipaagreatdoor", sum := "bfea9a02c9d9623a67c279f7194b15148fab22fe1c38cc05237568e26d2b9d30", checked := Tryz.checked }
namespace Rows
def none {H : Type} : Left H := { results := [], args := [] }

/- WHAT THE LISTED PACKAGE-LEVEL VARIABLES READ AS WHEN THE CALL BEGINS. Each datum BY PROGRAM (the guide's laid-datum.mjs) off the statement by which the dump's own 'gosem.cut.vars' lays the variable. In a bare row this is a premise. The card (YtojhiiiebnlipaaGreatDoorCards.lean) ties it to the program's text. -/
def laid_errors_errorType {H : Type} : DataW H := .iface "internal/reflectlite.rtype" (.agg [.ptr (.lit (.string [101, 114, 114, 111, 114]))])
def laid_marchland_field_sides {H : Type} : DataW H := .agg [.agg [.lit (.int .i64 0), .lit (.int .i64 (-1))], .agg [.lit (.int .i64 (-1)), .lit (.int .i64 0)], .agg [.lit (.int .i64 1), .lit (.int .i64 0)], .agg [.lit (.int .i64 0), .lit (.int .i64 1)]]

/-- 'marchlaw2.TurnGives': WHATEVER THE INPUT: true; the input reads as it did. -/
def turnGivesSpec : ChangeSpec := { name := "turnGives", fn := fun _ => fun
  | [d1, d2, d3] => { results := [.lit (.bool true)], args := [d1, d2, d3] }
  | _ => none }
def turnGivesRow : OpenClaim := { program := "ytojhiiiebnlipaagreatdoor", sum := "bfea9a02c9d9623a67c279f7194b15148fab22fe1c38cc05237568e26d2b9d30", func := "marchland/marchlaw2.TurnGives", spec := "turnGives", inPlace := ["internal/reflectlite.ValueOf", "(internal/reflectlite.Value).Type", "(internal/reflectlite.Value).IsNil", "internal/reflectlite.TypeOf", "(internal/reflectlite.Value).Elem", "(internal/reflectlite.Value).Set"], unfollowed := true, recurses := true, named := ["errors.errorType", "marchland/field.sides"], plainKeys := false, apart := false, laid := [("errors.errorType", laid_errors_errorType), ("marchland/field.sides", laid_marchland_field_sides)] }
def TurnGivesSaid : Prop := turnGivesRow.holds Tryz.pinned (OpenSpec.ofChange turnGivesSpec)

/-- ITS FALSE NEIGHBOUR: 'it returns false'. Refute it at one input. -/
def turnGivesWrong : ChangeSpec := { name := "turnGives", fn := fun _ => fun
  | [d1, d2, d3] => { results := [.lit (.bool false)], args := [d1, d2, d3] }
  | _ => none }
def TurnGivesWrongFalsely : Prop := turnGivesRow.holds Tryz.pinned (OpenSpec.ofChange turnGivesWrong)

/-- 'marchlaw2.TurnPlays': WHATEVER THE INPUT: true; the input reads as it did. -/
def turnPlaysSpec : ChangeSpec := { name := "turnPlays", fn := fun _ => fun
  | [d1, d2, d3] => { results := [.lit (.bool true)], args := [d1, d2, d3] }
  | _ => none }
def turnPlaysRow : OpenClaim := { program := "ytojhiiiebnlipaagreatdoor", sum := "bfea9a02c9d9623a67c279f7194b15148fab22fe1c38cc05237568e26d2b9d30", func := "marchland/marchlaw2.TurnPlays", spec := "turnPlays", inPlace := ["internal/reflectlite.ValueOf", "(internal/reflectlite.Value).Type", "(internal/reflectlite.Value).IsNil", "internal/reflectlite.TypeOf", "(internal/reflectlite.Value).Elem", "(internal/reflectlite.Value).Set"], unfollowed := true, recurses := true, named := ["marchland/field.sides", "errors.errorType"], plainKeys := false, apart := false, laid := [("errors.errorType", laid_errors_errorType), ("marchland/field.sides", laid_marchland_field_sides)] }
def TurnPlaysSaid : Prop := turnPlaysRow.holds Tryz.pinned (OpenSpec.ofChange turnPlaysSpec)

/-- ITS FALSE NEIGHBOUR: 'it returns false'. Refute it at one input. -/
def turnPlaysWrong : ChangeSpec := { name := "turnPlays", fn := fun _ => fun
  | [d1, d2, d3] => { results := [.lit (.bool false)], args := [d1, d2, d3] }
  | _ => none }
def TurnPlaysWrongFalsely : Prop := turnPlaysRow.holds Tryz.pinned (OpenSpec.ofChange turnPlaysWrong)

/-- 'marchlaw2.TurnOrder': WHATEVER THE INPUT: true; the input reads as it did. -/
def turnOrderSpec : ChangeSpec := { name := "turnOrder", fn := fun _ => fun
  | [d1, d2, d3] => { results := [.lit (.bool true)], args := [d1, d2, d3] }
  | _ => none }
def turnOrderRow : OpenClaim := { program := "ytojhiiiebnlipaagreatdoor", sum := "bfea9a02c9d9623a67c279f7194b15148fab22fe1c38cc05237568e26d2b9d30", func := "marchland/marchlaw2.TurnOrder", spec := "turnOrder", inPlace := ["internal/bytealg.IndexByteString"], unfollowed := true, recurses := true, named := ["marchland/field.sides"], plainKeys := false, apart := false, laid := [("marchland/field.sides", laid_marchland_field_sides)] }
def TurnOrderSaid : Prop := turnOrderRow.holds Tryz.pinned (OpenSpec.ofChange turnOrderSpec)

/-- ITS FALSE NEIGHBOUR: 'it returns false'. Refute it at one input. -/
def turnOrderWrong : ChangeSpec := { name := "turnOrder", fn := fun _ => fun
  | [d1, d2, d3] => { results := [.lit (.bool false)], args := [d1, d2, d3] }
  | _ => none }
def TurnOrderWrongFalsely : Prop := turnOrderRow.holds Tryz.pinned (OpenSpec.ofChange turnOrderWrong)

/-- 'marchlaw4.TurnParts': WHATEVER THE INPUT: true; the input reads as it did. -/
def turnPartsSpec : ChangeSpec := { name := "turnParts", fn := fun _ => fun
  | [d1, d2, d3, d4] => { results := [.lit (.bool true)], args := [d1, d2, d3, d4] }
  | _ => none }
def turnPartsRow : OpenClaim := { program := "ytojhiiiebnlipaagreatdoor", sum := "bfea9a02c9d9623a67c279f7194b15148fab22fe1c38cc05237568e26d2b9d30", func := "marchland/marchlaw4.TurnParts", spec := "turnParts", inPlace := ["internal/bytealg.IndexByteString"], unfollowed := true, recurses := true, named := ["marchland/field.sides"], plainKeys := false, apart := false, laid := [("marchland/field.sides", laid_marchland_field_sides)] }
def TurnPartsSaid : Prop := turnPartsRow.holds Tryz.pinned (OpenSpec.ofChange turnPartsSpec)

/-- ITS FALSE NEIGHBOUR: 'it returns false'. Refute it at one input. -/
def turnPartsWrong : ChangeSpec := { name := "turnParts", fn := fun _ => fun
  | [d1, d2, d3, d4] => { results := [.lit (.bool false)], args := [d1, d2, d3, d4] }
  | _ => none }
def TurnPartsWrongFalsely : Prop := turnPartsRow.holds Tryz.pinned (OpenSpec.ofChange turnPartsWrong)

/-- 'marchtop.TopWeighs': WHATEVER THE INPUT: true; the input reads as it did. -/
def topWeighsSpec : ChangeSpec := { name := "topWeighs", fn := fun _ => fun
  | [d1, d2, d3] => { results := [.lit (.bool true)], args := [d1, d2, d3] }
  | _ => none }
def topWeighsRow : OpenClaim := { program := "ytojhiiiebnlipaagreatdoor", sum := "bfea9a02c9d9623a67c279f7194b15148fab22fe1c38cc05237568e26d2b9d30", func := "marchland/marchtop.TopWeighs", spec := "topWeighs", inPlace := ["internal/bytealg.IndexByteString"], unfollowed := true, recurses := true, named := ["marchland/field.sides"], plainKeys := false, apart := false, laid := [("marchland/field.sides", laid_marchland_field_sides)] }
def TopWeighsSaid : Prop := topWeighsRow.holds Tryz.pinned (OpenSpec.ofChange topWeighsSpec)

/-- ITS FALSE NEIGHBOUR: 'it returns false'. Refute it at one input. -/
def topWeighsWrong : ChangeSpec := { name := "topWeighs", fn := fun _ => fun
  | [d1, d2, d3] => { results := [.lit (.bool false)], args := [d1, d2, d3] }
  | _ => none }
def TopWeighsWrongFalsely : Prop := topWeighsRow.holds Tryz.pinned (OpenSpec.ofChange topWeighsWrong)

/-- 'marchtop.TopViews': WHATEVER THE INPUT: true; the input reads as it did. -/
def topViewsSpec : ChangeSpec := { name := "topViews", fn := fun _ => fun
  | [d1, d2, d3, d4] => { results := [.lit (.bool true)], args := [d1, d2, d3, d4] }
  | _ => none }
def topViewsRow : OpenClaim := { program := "ytojhiiiebnlipaagreatdoor", sum := "bfea9a02c9d9623a67c279f7194b15148fab22fe1c38cc05237568e26d2b9d30", func := "marchland/marchtop.TopViews", spec := "topViews", inPlace := ["internal/bytealg.IndexByteString"], unfollowed := true, recurses := true, named := ["marchland/field.sides"], plainKeys := false, apart := false, laid := [("marchland/field.sides", laid_marchland_field_sides)] }
def TopViewsSaid : Prop := topViewsRow.holds Tryz.pinned (OpenSpec.ofChange topViewsSpec)

/-- ITS FALSE NEIGHBOUR: 'it returns false'. Refute it at one input. -/
def topViewsWrong : ChangeSpec := { name := "topViews", fn := fun _ => fun
  | [d1, d2, d3, d4] => { results := [.lit (.bool false)], args := [d1, d2, d3, d4] }
  | _ => none }
def TopViewsWrongFalsely : Prop := topViewsRow.holds Tryz.pinned (OpenSpec.ofChange topViewsWrong)

/- THE SECOND FORM. 'bulk': how many values and letters a reading holds, each counted each time it is reached (what is shared counts as often as it is met; a slice's spare places count too). A statement '..UptoSaid' is the law's where the arguments, and the package variables that the reading takes, are together of bulk at most 1048576: NARROWER than '..Said'. Prove '..Said' where nothing that the law and all that it calls make is longer than what came in: it says more and counts as full. Else prove '..UptoSaid'. A law counts once. -/
mutual
def uptoBulk {H : Type} : DataW H → Nat
  | .lit (.string bytes) => bytes.length + 1
  | .lit _ => 1
  | .nil => 1
  | .ptr d => uptoBulk d + 1
  | .slice elems spare => uptoBulkAll elems + uptoBulkAll spare + 1
  | .agg parts => uptoBulkAll parts + 1
  | .iface _ d => uptoBulk d + 1
  | .map entries => uptoBulkEntries entries + 1
  | .held _ => 1
def uptoBulkAll {H : Type} : List (DataW H) → Nat
  | [] => 0
  | d :: r => uptoBulk d + uptoBulkAll r
def uptoBulkEntries {H : Type} : List (Lit × DataW H) → Nat
  | [] => 0
  | x :: r => uptoBulkEntry x + uptoBulkEntries r
def uptoBulkEntry {H : Type} : Lit × DataW H → Nat
  | (.string bytes, d) => bytes.length + uptoBulk d + 1
  | (_, d) => uptoBulk d + 1
 end
def uptoSmall : (H : Type) → List (DataW H) → Bool := fun _ ds => decide (uptoBulkAll ds ≤ 1048576)
def OpenSpec.upto (s : _root_.Go.ChangeSpec) : _root_.Go.OpenSpec := { _root_.Go.OpenSpec.ofChange s with cond := some uptoSmall }

/-- 'marchlaw2.TurnGives', WHERE WHAT IT READS IS OF BULK AT MOST 1048576: true; the input reads as it did. -/
def turnGivesUptoRow : OpenClaim := { program := "ytojhiiiebnlipaagreatdoor", sum := "bfea9a02c9d9623a67c279f7194b15148fab22fe1c38cc05237568e26d2b9d30", func := "marchland/marchlaw2.TurnGives", spec := "turnGives", inPlace := ["internal/reflectlite.ValueOf", "(internal/reflectlite.Value).Type", "(internal/reflectlite.Value).IsNil", "internal/reflectlite.TypeOf", "(internal/reflectlite.Value).Elem", "(internal/reflectlite.Value).Set"], unfollowed := true, recurses := true, named := ["errors.errorType", "marchland/field.sides"], plainKeys := false, apart := false, laid := [("errors.errorType", laid_errors_errorType), ("marchland/field.sides", laid_marchland_field_sides)], narrowed := true }
def TurnGivesUptoSaid : Prop := turnGivesUptoRow.holds Tryz.pinned (OpenSpec.upto turnGivesSpec)

/-- 'marchlaw2.TurnPlays', WHERE WHAT IT READS IS OF BULK AT MOST 1048576: true; the input reads as it did. -/
def turnPlaysUptoRow : OpenClaim := { program := "ytojhiiiebnlipaagreatdoor", sum := "bfea9a02c9d9623a67c279f7194b15148fab22fe1c38cc05237568e26d2b9d30", func := "marchland/marchlaw2.TurnPlays", spec := "turnPlays", inPlace := ["internal/reflectlite.ValueOf", "(internal/reflectlite.Value).Type", "(internal/reflectlite.Value).IsNil", "internal/reflectlite.TypeOf", "(internal/reflectlite.Value).Elem", "(internal/reflectlite.Value).Set"], unfollowed := true, recurses := true, named := ["marchland/field.sides", "errors.errorType"], plainKeys := false, apart := false, laid := [("errors.errorType", laid_errors_errorType), ("marchland/field.sides", laid_marchland_field_sides)], narrowed := true }
def TurnPlaysUptoSaid : Prop := turnPlaysUptoRow.holds Tryz.pinned (OpenSpec.upto turnPlaysSpec)

/-- 'marchlaw2.TurnOrder', WHERE WHAT IT READS IS OF BULK AT MOST 1048576: true; the input reads as it did. -/
def turnOrderUptoRow : OpenClaim := { program := "ytojhiiiebnlipaagreatdoor", sum := "bfea9a02c9d9623a67c279f7194b15148fab22fe1c38cc05237568e26d2b9d30", func := "marchland/marchlaw2.TurnOrder", spec := "turnOrder", inPlace := ["internal/bytealg.IndexByteString"], unfollowed := true, recurses := true, named := ["marchland/field.sides"], plainKeys := false, apart := false, laid := [("marchland/field.sides", laid_marchland_field_sides)], narrowed := true }
def TurnOrderUptoSaid : Prop := turnOrderUptoRow.holds Tryz.pinned (OpenSpec.upto turnOrderSpec)

/-- 'marchlaw4.TurnParts', WHERE WHAT IT READS IS OF BULK AT MOST 1048576: true; the input reads as it did. -/
def turnPartsUptoRow : OpenClaim := { program := "ytojhiiiebnlipaagreatdoor", sum := "bfea9a02c9d9623a67c279f7194b15148fab22fe1c38cc05237568e26d2b9d30", func := "marchland/marchlaw4.TurnParts", spec := "turnParts", inPlace := ["internal/bytealg.IndexByteString"], unfollowed := true, recurses := true, named := ["marchland/field.sides"], plainKeys := false, apart := false, laid := [("marchland/field.sides", laid_marchland_field_sides)], narrowed := true }
def TurnPartsUptoSaid : Prop := turnPartsUptoRow.holds Tryz.pinned (OpenSpec.upto turnPartsSpec)

/-- 'marchtop.TopWeighs', WHERE WHAT IT READS IS OF BULK AT MOST 1048576: true; the input reads as it did. -/
def topWeighsUptoRow : OpenClaim := { program := "ytojhiiiebnlipaagreatdoor", sum := "bfea9a02c9d9623a67c279f7194b15148fab22fe1c38cc05237568e26d2b9d30", func := "marchland/marchtop.TopWeighs", spec := "topWeighs", inPlace := ["internal/bytealg.IndexByteString"], unfollowed := true, recurses := true, named := ["marchland/field.sides"], plainKeys := false, apart := false, laid := [("marchland/field.sides", laid_marchland_field_sides)], narrowed := true }
def TopWeighsUptoSaid : Prop := topWeighsUptoRow.holds Tryz.pinned (OpenSpec.upto topWeighsSpec)

/-- 'marchtop.TopViews', WHERE WHAT IT READS IS OF BULK AT MOST 1048576: true; the input reads as it did. -/
def topViewsUptoRow : OpenClaim := { program := "ytojhiiiebnlipaagreatdoor", sum := "bfea9a02c9d9623a67c279f7194b15148fab22fe1c38cc05237568e26d2b9d30", func := "marchland/marchtop.TopViews", spec := "topViews", inPlace := ["internal/bytealg.IndexByteString"], unfollowed := true, recurses := true, named := ["marchland/field.sides"], plainKeys := false, apart := false, laid := [("marchland/field.sides", laid_marchland_field_sides)], narrowed := true }
def TopViewsUptoSaid : Prop := topViewsUptoRow.holds Tryz.pinned (OpenSpec.upto topViewsSpec)

end Rows
end Go.Proofs.YtojhiiiebnlipaaGreatDoor
