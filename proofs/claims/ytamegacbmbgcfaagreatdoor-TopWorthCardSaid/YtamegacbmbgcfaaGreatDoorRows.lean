/-
  NARROWER THAN 'FOR EVERY INPUT', by the rows' own cells (each row's printed sentence says how): TurnGives: laid · TurnPlays: laid · TopWorth: laid.
  DERIVED. THE GIVEN ROWS OF THIS SEAT. 3 by the template 'for every input the law returns true; each argument reads behind the call as it read before'; 0 by the template 'total and deterministic' (their statements: YtamegacbmbgcfaaGreatDoorTotals.lean).
  GIVEN WITH THE SEED: the statements are not yours to turn. If you find one false, say at which input.
  Laid BY PROGRAM, IN A SANDBOX (cutbox-rows.mjs): the forced cells as the released guide's own fill.sh prints them over the translation 62667dd3624aa248… (all of the seat's roots in one cut). By AI agents, Wed Nov 11 2026. No macro, syntax, notation, axiom, sorry.
-/
import Derived.Test.YtamegacbmbgcfaaGreatDoorChecked
import GoSem.Claim
import GoSem.ClaimJoined
import GoSem.ClaimMapViews
import Derived.JoinedTies
import Derived.KernelRfl
namespace Go.Proofs.YtamegacbmbgcfaaGreatDoor
/- THE CELL 'sum', in the pinned program and in every row, IS THE sha256 OF THE DUMP (.gsa) THAT YtamegacbmbgcfaaGreatDoorProg.lean LOADS. Nothing in Lean hashes anything: it is a label: what it is worth is what the hold of that sum in a sandbox is worth. -/
noncomputable def Tryz.pinned : Pinned := { name := "ytamegacbmbgcfaagreatdoor", sum := "62667dd3624aa24877b7365475be4ece1a17b50f8eaba670e431038e5ebd24f5", checked := Tryz.checked }
namespace Rows
def none {H : Type} : Left H := { results := [], args := [] }

/- WHAT THE LISTED PACKAGE-LEVEL VARIABLES READ AS WHEN THE CALL BEGINS. Each datum BY PROGRAM (the guide's laid-datum.mjs) off the statement by which the dump's own 'gosem.cut.vars' lays the variable. In a bare row this is a premise. The card (YtamegacbmbgcfaaGreatDoorCards.lean) ties it to the program's text. -/
def laid_errors_errorType {H : Type} : DataW H := .iface "internal/reflectlite.rtype" (.agg [.ptr (.lit (.string [101, 114, 114, 111, 114]))])
def laid_marchland_field_sides {H : Type} : DataW H := .agg [.agg [.lit (.int .i64 0), .lit (.int .i64 (-1))], .agg [.lit (.int .i64 (-1)), .lit (.int .i64 0)], .agg [.lit (.int .i64 1), .lit (.int .i64 0)], .agg [.lit (.int .i64 0), .lit (.int .i64 1)]]

/-- 'marchlaw2.TurnGives': WHATEVER THE INPUT: true; the input reads as it did. -/
def turnGivesSpec : ChangeSpec := { name := "turnGives", fn := fun _ => fun
  | [d1, d2, d3] => { results := [.lit (.bool true)], args := [d1, d2, d3] }
  | _ => none }
def turnGivesRow : OpenClaim := { program := "ytamegacbmbgcfaagreatdoor", sum := "62667dd3624aa24877b7365475be4ece1a17b50f8eaba670e431038e5ebd24f5", func := "marchland/marchlaw2.TurnGives", spec := "turnGives", inPlace := ["internal/reflectlite.ValueOf", "(internal/reflectlite.Value).Type", "(internal/reflectlite.Value).IsNil", "internal/reflectlite.TypeOf", "(internal/reflectlite.Value).Elem", "(internal/reflectlite.Value).Set"], unfollowed := true, recurses := true, named := ["errors.errorType", "marchland/field.sides"], plainKeys := false, apart := false, laid := [("errors.errorType", laid_errors_errorType), ("marchland/field.sides", laid_marchland_field_sides)] }
def TurnGivesSaid : Prop := turnGivesRow.holds Tryz.pinned (OpenSpec.ofChange turnGivesSpec)

/-- ITS FALSE NEIGHBOUR: 'it returns false'. Refute it at one input. -/
def turnGivesWrong : ChangeSpec := { name := "turnGives", fn := fun _ => fun
  | [d1, d2, d3] => { results := [.lit (.bool false)], args := [d1, d2, d3] }
  | _ => none }
def TurnGivesWrongFalsely : Prop := turnGivesRow.holds Tryz.pinned (OpenSpec.ofChange turnGivesWrong)

/-- 'marchlaw2.TurnPlays': WHATEVER THE INPUT: true; the input reads as it did. -/
def turnPlaysSpec : ChangeSpec := { name := "turnPlays", fn := fun _ => fun
  | [d1, d2, d3] => { results := [.lit (.bool true)], args := [d1, d2, d3] }
  | _ => none }
def turnPlaysRow : OpenClaim := { program := "ytamegacbmbgcfaagreatdoor", sum := "62667dd3624aa24877b7365475be4ece1a17b50f8eaba670e431038e5ebd24f5", func := "marchland/marchlaw2.TurnPlays", spec := "turnPlays", inPlace := ["internal/reflectlite.ValueOf", "(internal/reflectlite.Value).Type", "(internal/reflectlite.Value).IsNil", "internal/reflectlite.TypeOf", "(internal/reflectlite.Value).Elem", "(internal/reflectlite.Value).Set"], unfollowed := true, recurses := true, named := ["marchland/field.sides", "errors.errorType"], plainKeys := false, apart := false, laid := [("errors.errorType", laid_errors_errorType), ("marchland/field.sides", laid_marchland_field_sides)] }
def TurnPlaysSaid : Prop := turnPlaysRow.holds Tryz.pinned (OpenSpec.ofChange turnPlaysSpec)

/-- ITS FALSE NEIGHBOUR: 'it returns false'. Refute it at one input. -/
def turnPlaysWrong : ChangeSpec := { name := "turnPlays", fn := fun _ => fun
  | [d1, d2, d3] => { results := [.lit (.bool false)], args := [d1, d2, d3] }
  | _ => none }
def TurnPlaysWrongFalsely : Prop := turnPlaysRow.holds Tryz.pinned (OpenSpec.ofChange turnPlaysWrong)

/-- 'marchtop.TopWorth': WHATEVER THE INPUT: true; the input reads as it did. -/
def topWorthSpec : ChangeSpec := { name := "topWorth", fn := fun _ => fun
  | [d1, d2] => { results := [.lit (.bool true)], args := [d1, d2] }
  | _ => none }
def topWorthRow : OpenClaim := { program := "ytamegacbmbgcfaagreatdoor", sum := "62667dd3624aa24877b7365475be4ece1a17b50f8eaba670e431038e5ebd24f5", func := "marchland/marchtop.TopWorth", spec := "topWorth", inPlace := ["internal/bytealg.IndexByteString"], unfollowed := true, recurses := true, named := ["marchland/field.sides"], plainKeys := false, apart := false, laid := [("marchland/field.sides", laid_marchland_field_sides)] }
def TopWorthSaid : Prop := topWorthRow.holds Tryz.pinned (OpenSpec.ofChange topWorthSpec)

/-- ITS FALSE NEIGHBOUR: 'it returns false'. Refute it at one input. -/
def topWorthWrong : ChangeSpec := { name := "topWorth", fn := fun _ => fun
  | [d1, d2] => { results := [.lit (.bool false)], args := [d1, d2] }
  | _ => none }
def TopWorthWrongFalsely : Prop := topWorthRow.holds Tryz.pinned (OpenSpec.ofChange topWorthWrong)

/- THE SECOND FORM. 'bulk': how many values and letters a reading holds, each counted each time it is reached (what is shared counts as often as it is met; a slice's spare places count too). A statement '..UptoSaid' is the law's where the arguments, and the package variables that the reading takes, are together of bulk at most 1048576: NARROWER than '..Said'. Prove '..Said' where nothing that the law and all that it calls make is longer than what came in: it says more and counts as full. Else prove '..UptoSaid'. A law counts once. -/
mutual
def uptoBulk {H : Type} : DataW H → Nat
  | .lit (.string bytes) => bytes.length + 1
  | .lit _ => 1
  | .nil => 1
  | .ptr d => uptoBulk d + 1
  | .slice elems spare => uptoBulkAll elems + uptoBulkAll spare + 1
  | .agg parts => uptoBulkAll parts + 1
  | .iface _ d => uptoBulk d + 1
  | .map entries => uptoBulkEntries entries + 1
  | .held _ => 1
def uptoBulkAll {H : Type} : List (DataW H) → Nat
  | [] => 0
  | d :: r => uptoBulk d + uptoBulkAll r
def uptoBulkEntries {H : Type} : List (Lit × DataW H) → Nat
  | [] => 0
  | x :: r => uptoBulkEntry x + uptoBulkEntries r
def uptoBulkEntry {H : Type} : Lit × DataW H → Nat
  | (.string bytes, d) => bytes.length + uptoBulk d + 1
  | (_, d) => uptoBulk d + 1
 end
def uptoSmall : (H : Type) → List (DataW H) → Bool := fun _ ds => decide (uptoBulkAll ds ≤ 1048576)
def OpenSpec.upto (s : _root_.Go.ChangeSpec) : _root_.Go.OpenSpec := { _root_.Go.OpenSpec.ofChange s with cond := some uptoSmall }

/-- 'marchlaw2.TurnGives', WHERE WHAT IT READS IS OF BULK AT MOST 1048576: true; the input reads as it did. -/
def turnGivesUptoRow : OpenClaim := { program := "ytamegacbmbgcfaagreatdoor", sum := "62667dd3624aa24877b7365475be4ece1a17b50f8eaba670e431038e5ebd24f5", func := "marchland/marchlaw2.TurnGives", spec := "turnGives", inPlace := ["internal/reflectlite.ValueOf", "(internal/reflectlite.Value).Type", "(internal/reflectlite.Value).IsNil", "internal/reflectlite.TypeOf", "(internal/reflectlite.Value).Elem", "(internal/reflectlite.Value).Set"], unfollowed := true, recurses := true, named := ["errors.errorType", "marchland/field.sides"], plainKeys := false, apart := false, laid := [("errors.errorType", laid_errors_errorType), ("marchland/field.sides", laid_marchland_field_sides)], narrowed := true }
def TurnGivesUptoSaid : Prop := turnGivesUptoRow.holds Tryz.pinned (OpenSpec.upto turnGivesSpec)

/-- 'marchlaw2.TurnPlays', WHERE WHAT IT READS IS OF BULK AT MOST 1048576: true; the input reads as it did. -/
def turnPlaysUptoRow : OpenClaim := { program := "ytamegacbmbgcfaagreatdoor", sum := "62667dd3624aa24877b7365475be4ece1a17b50f8eaba670e431038e5ebd24f5", func := "marchland/marchlaw2.TurnPlays", spec := "turnPlays", inPlace := ["internal/reflectlite.ValueOf", "(internal/reflectlite.Value).Type", "(internal/reflectlite.Value).IsNil", "internal/reflectlite.TypeOf", "(internal/reflectlite.Value).Elem", "(internal/reflectlite.Value).Set"], unfollowed := true, recurses := true, named := ["marchland/field.sides", "errors.errorType"], plainKeys := false, apart := false, laid := [("errors.errorType", laid_errors_errorType), ("marchland/field.sides", laid_marchland_field_sides)], narrowed := true }
def TurnPlaysUptoSaid : Prop := turnPlaysUptoRow.holds Tryz.pinned (OpenSpec.upto turnPlaysSpec)

/-- 'marchtop.TopWorth', WHERE WHAT IT READS IS OF BULK AT MOST 1048576: true; the input reads as it did. -/
def topWorthUptoRow : OpenClaim := { program := "ytamegacbmbgcfaagreatdoor", sum := "62667dd3624aa24877b7365475be4ece1a17b50f8eaba670e431038e5ebd24f5", func := "marchland/marchtop.TopWorth", spec := "topWorth", inPlace := ["internal/bytealg.IndexByteString"], unfollowed := true, recurses := true, named := ["marchland/field.sides"], plainKeys := false, apart := false, laid := [("marchland/field.sides", laid_marchland_field_sides)], narrowed := true }
def TopWorthUptoSaid : Prop := topWorthUptoRow.holds Tryz.pinned (OpenSpec.upto topWorthSpec)

end Rows
end Go.Proofs.YtamegacbmbgcfaaGreatDoor
