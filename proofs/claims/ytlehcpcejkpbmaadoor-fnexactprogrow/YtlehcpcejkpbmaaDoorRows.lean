/-
  NARROWER THAN 'FOR EVERY INPUT', by the rows' own cells (each row's printed sentence says how): FnProgOf: ifaces, laid · FnProgSteps: ifaces, laid · FnProgPlan: ifaces, laid · FnProgRun: ifaces, laid · FnProgMany: ifaces, laid · FnProgForm: ifaces, laid · FnExactProgOk: ifaces, laid · FnExactProgRun: ifaces, laid · FnExactProgRow: ifaces, laid · FnExactProgMany: ifaces, laid.
  DERIVED. THE GIVEN ROWS OF THIS SEAT. 10 by the template 'for every input the law returns true; each argument reads behind the call as it read before'; 0 by the template 'total and deterministic' (their statements: YtlehcpcejkpbmaaDoorTotals.lean).
  GIVEN WITH THE SEED: the statements are not yours to turn. If you find one false, say at which input.
  Laid BY PROGRAM, IN A SANDBOX (cutbox-rows.mjs): the forced cells as the released guide's own fill.sh prints them over the translation 8d29ebb02cadcb37… (all of the seat's roots in one cut). By AI agents, Wed Nov 11 2026. No macro, syntax, notation, axiom, sorry.
-/
import Derived.Test.YtlehcpcejkpbmaaDoorChecked
import GoSem.Claim
import GoSem.ClaimJoined
import GoSem.ClaimMapViews
import Derived.JoinedTies
import Derived.KernelRfl
namespace Go.Proofs.YtlehcpcejkpbmaaDoor
/- THE CELL 'sum', in the pinned program and in every row, IS THE sha256 OF THE DUMP (.gsa) THAT YtlehcpcejkpbmaaDoorProg.lean LOADS. Nothing in Lean hashes anything: it is a label: what it is worth is what the hold of that sum in a sandbox is worth. -/
noncomputable def Tryd.pinned : Pinned := { name := "ytlehcpcejkpbmaadoor", sum := "8d29ebb02cadcb371bf7e11696328444912cbc52be9d87ba648e6bf076c35804", checked := Tryd.checked }
namespace Rows
def none {H : Type} : Left H := { results := [], args := [] }

/- WHAT THE LISTED PACKAGE-LEVEL VARIABLES READ AS WHEN THE CALL BEGINS. Each datum BY PROGRAM (the guide's laid-datum.mjs) off the statement by which the dump's own 'gosem.cut.vars' lays the variable. In a bare row this is a premise. The card (YtlehcpcejkpbmaaDoorCards.lean) ties it to the program's text. -/
def laid_loop_example_keelson_impl_errStep {H : Type} : DataW H := .iface "*errors.errorString" (.ptr (.agg [.lit (.string [105, 110, 118, 97, 108, 105, 100, 32, 115, 116, 101, 112])]))

/-- 'laws.FnProgOf': WHATEVER THE INPUT: true; the input reads as it did. -/
def fnProgOfSpec : ChangeSpec := { name := "fnProgOf", vars := ["loop.example/keelson/impl.errStep"], fn := fun _ => fun
  | [d1, d2, g1] => { results := [.lit (.bool true)], args := [d1, d2], vars := [g1] }
  | _ => none }
def fnProgOfRow : OpenClaim := { program := "ytlehcpcejkpbmaadoor", sum := "8d29ebb02cadcb371bf7e11696328444912cbc52be9d87ba648e6bf076c35804", func := "loop.example/keelson/laws.FnProgOf", spec := "fnProgOf", inPlace := ["internal/reflectlite.TypeOf"], unfollowed := true, recurses := true, named := ["loop.example/keelson/impl.errStep"], ifaces := true, apart := false, laid := [("loop.example/keelson/impl.errStep", laid_loop_example_keelson_impl_errStep)] }
def FnProgOfSaid : Prop := fnProgOfRow.holds Tryd.pinned (OpenSpec.ofChange fnProgOfSpec)

/-- ITS FALSE NEIGHBOUR: 'it returns false'. Refute it at one input. -/
def fnProgOfWrong : ChangeSpec := { name := "fnProgOf", vars := ["loop.example/keelson/impl.errStep"], fn := fun _ => fun
  | [d1, d2, g1] => { results := [.lit (.bool false)], args := [d1, d2], vars := [g1] }
  | _ => none }
def FnProgOfWrongFalsely : Prop := fnProgOfRow.holds Tryd.pinned (OpenSpec.ofChange fnProgOfWrong)

/-- 'laws.FnProgSteps': WHATEVER THE INPUT: true; the input reads as it did. -/
def fnProgStepsSpec : ChangeSpec := { name := "fnProgSteps", vars := ["loop.example/keelson/impl.errStep"], fn := fun _ => fun
  | [d, g1] => { results := [.lit (.bool true)], args := [d], vars := [g1] }
  | _ => none }
def fnProgStepsRow : OpenClaim := { program := "ytlehcpcejkpbmaadoor", sum := "8d29ebb02cadcb371bf7e11696328444912cbc52be9d87ba648e6bf076c35804", func := "loop.example/keelson/laws.FnProgSteps", spec := "fnProgSteps", inPlace := ["internal/reflectlite.TypeOf"], unfollowed := true, recurses := true, named := ["loop.example/keelson/impl.errStep"], ifaces := true, apart := false, laid := [("loop.example/keelson/impl.errStep", laid_loop_example_keelson_impl_errStep)] }
def FnProgStepsSaid : Prop := fnProgStepsRow.holds Tryd.pinned (OpenSpec.ofChange fnProgStepsSpec)

/-- ITS FALSE NEIGHBOUR: 'it returns false'. Refute it at one input. -/
def fnProgStepsWrong : ChangeSpec := { name := "fnProgSteps", vars := ["loop.example/keelson/impl.errStep"], fn := fun _ => fun
  | [d, g1] => { results := [.lit (.bool false)], args := [d], vars := [g1] }
  | _ => none }
def FnProgStepsWrongFalsely : Prop := fnProgStepsRow.holds Tryd.pinned (OpenSpec.ofChange fnProgStepsWrong)

/-- 'laws.FnProgPlan': WHATEVER THE INPUT: true; the input reads as it did. -/
def fnProgPlanSpec : ChangeSpec := { name := "fnProgPlan", vars := ["loop.example/keelson/impl.errStep"], fn := fun _ => fun
  | [d, g1] => { results := [.lit (.bool true)], args := [d], vars := [g1] }
  | _ => none }
def fnProgPlanRow : OpenClaim := { program := "ytlehcpcejkpbmaadoor", sum := "8d29ebb02cadcb371bf7e11696328444912cbc52be9d87ba648e6bf076c35804", func := "loop.example/keelson/laws.FnProgPlan", spec := "fnProgPlan", inPlace := ["internal/reflectlite.TypeOf"], unfollowed := true, recurses := true, named := ["loop.example/keelson/impl.errStep"], ifaces := true, apart := false, laid := [("loop.example/keelson/impl.errStep", laid_loop_example_keelson_impl_errStep)] }
def FnProgPlanSaid : Prop := fnProgPlanRow.holds Tryd.pinned (OpenSpec.ofChange fnProgPlanSpec)

/-- ITS FALSE NEIGHBOUR: 'it returns false'. Refute it at one input. -/
def fnProgPlanWrong : ChangeSpec := { name := "fnProgPlan", vars := ["loop.example/keelson/impl.errStep"], fn := fun _ => fun
  | [d, g1] => { results := [.lit (.bool false)], args := [d], vars := [g1] }
  | _ => none }
def FnProgPlanWrongFalsely : Prop := fnProgPlanRow.holds Tryd.pinned (OpenSpec.ofChange fnProgPlanWrong)

/-- 'laws.FnProgRun': WHATEVER THE INPUT: true; the input reads as it did. -/
def fnProgRunSpec : ChangeSpec := { name := "fnProgRun", vars := ["loop.example/keelson/impl.errStep"], fn := fun _ => fun
  | [d1, d2, g1] => { results := [.lit (.bool true)], args := [d1, d2], vars := [g1] }
  | _ => none }
def fnProgRunRow : OpenClaim := { program := "ytlehcpcejkpbmaadoor", sum := "8d29ebb02cadcb371bf7e11696328444912cbc52be9d87ba648e6bf076c35804", func := "loop.example/keelson/laws.FnProgRun", spec := "fnProgRun", inPlace := ["internal/reflectlite.TypeOf"], unfollowed := true, recurses := true, named := ["loop.example/keelson/impl.errStep"], ifaces := true, apart := false, laid := [("loop.example/keelson/impl.errStep", laid_loop_example_keelson_impl_errStep)] }
def FnProgRunSaid : Prop := fnProgRunRow.holds Tryd.pinned (OpenSpec.ofChange fnProgRunSpec)

/-- ITS FALSE NEIGHBOUR: 'it returns false'. Refute it at one input. -/
def fnProgRunWrong : ChangeSpec := { name := "fnProgRun", vars := ["loop.example/keelson/impl.errStep"], fn := fun _ => fun
  | [d1, d2, g1] => { results := [.lit (.bool false)], args := [d1, d2], vars := [g1] }
  | _ => none }
def FnProgRunWrongFalsely : Prop := fnProgRunRow.holds Tryd.pinned (OpenSpec.ofChange fnProgRunWrong)

/-- 'laws.FnProgMany': WHATEVER THE INPUT: true; the input reads as it did. -/
def fnProgManySpec : ChangeSpec := { name := "fnProgMany", vars := ["loop.example/keelson/impl.errStep"], fn := fun _ => fun
  | [d, g1] => { results := [.lit (.bool true)], args := [d], vars := [g1] }
  | _ => none }
def fnProgManyRow : OpenClaim := { program := "ytlehcpcejkpbmaadoor", sum := "8d29ebb02cadcb371bf7e11696328444912cbc52be9d87ba648e6bf076c35804", func := "loop.example/keelson/laws.FnProgMany", spec := "fnProgMany", inPlace := ["internal/reflectlite.TypeOf"], unfollowed := true, recurses := true, named := ["loop.example/keelson/impl.errStep"], ifaces := true, apart := false, laid := [("loop.example/keelson/impl.errStep", laid_loop_example_keelson_impl_errStep)] }
def FnProgManySaid : Prop := fnProgManyRow.holds Tryd.pinned (OpenSpec.ofChange fnProgManySpec)

/-- ITS FALSE NEIGHBOUR: 'it returns false'. Refute it at one input. -/
def fnProgManyWrong : ChangeSpec := { name := "fnProgMany", vars := ["loop.example/keelson/impl.errStep"], fn := fun _ => fun
  | [d, g1] => { results := [.lit (.bool false)], args := [d], vars := [g1] }
  | _ => none }
def FnProgManyWrongFalsely : Prop := fnProgManyRow.holds Tryd.pinned (OpenSpec.ofChange fnProgManyWrong)

/-- 'laws.FnProgForm': WHATEVER THE INPUT: true; the input reads as it did. -/
def fnProgFormSpec : ChangeSpec := { name := "fnProgForm", vars := ["loop.example/keelson/impl.errStep"], fn := fun _ => fun
  | [d1, d2, g1] => { results := [.lit (.bool true)], args := [d1, d2], vars := [g1] }
  | _ => none }
def fnProgFormRow : OpenClaim := { program := "ytlehcpcejkpbmaadoor", sum := "8d29ebb02cadcb371bf7e11696328444912cbc52be9d87ba648e6bf076c35804", func := "loop.example/keelson/laws.FnProgForm", spec := "fnProgForm", inPlace := ["internal/reflectlite.TypeOf"], unfollowed := true, recurses := true, named := ["loop.example/keelson/impl.errStep"], ifaces := true, apart := false, laid := [("loop.example/keelson/impl.errStep", laid_loop_example_keelson_impl_errStep)] }
def FnProgFormSaid : Prop := fnProgFormRow.holds Tryd.pinned (OpenSpec.ofChange fnProgFormSpec)

/-- ITS FALSE NEIGHBOUR: 'it returns false'. Refute it at one input. -/
def fnProgFormWrong : ChangeSpec := { name := "fnProgForm", vars := ["loop.example/keelson/impl.errStep"], fn := fun _ => fun
  | [d1, d2, g1] => { results := [.lit (.bool false)], args := [d1, d2], vars := [g1] }
  | _ => none }
def FnProgFormWrongFalsely : Prop := fnProgFormRow.holds Tryd.pinned (OpenSpec.ofChange fnProgFormWrong)

/-- 'laws.FnExactProgOk': WHATEVER THE INPUT: true; the input reads as it did. -/
def fnExactProgOkSpec : ChangeSpec := { name := "fnExactProgOk", vars := ["loop.example/keelson/impl.errStep"], fn := fun _ => fun
  | [d, g1] => { results := [.lit (.bool true)], args := [d], vars := [g1] }
  | _ => none }
def fnExactProgOkRow : OpenClaim := { program := "ytlehcpcejkpbmaadoor", sum := "8d29ebb02cadcb371bf7e11696328444912cbc52be9d87ba648e6bf076c35804", func := "loop.example/keelson/laws.FnExactProgOk", spec := "fnExactProgOk", inPlace := ["internal/reflectlite.TypeOf"], unfollowed := true, recurses := true, named := ["loop.example/keelson/impl.errStep"], ifaces := true, apart := false, laid := [("loop.example/keelson/impl.errStep", laid_loop_example_keelson_impl_errStep)] }
def FnExactProgOkSaid : Prop := fnExactProgOkRow.holds Tryd.pinned (OpenSpec.ofChange fnExactProgOkSpec)

/-- ITS FALSE NEIGHBOUR: 'it returns false'. Refute it at one input. -/
def fnExactProgOkWrong : ChangeSpec := { name := "fnExactProgOk", vars := ["loop.example/keelson/impl.errStep"], fn := fun _ => fun
  | [d, g1] => { results := [.lit (.bool false)], args := [d], vars := [g1] }
  | _ => none }
def FnExactProgOkWrongFalsely : Prop := fnExactProgOkRow.holds Tryd.pinned (OpenSpec.ofChange fnExactProgOkWrong)

/-- 'laws.FnExactProgRun': WHATEVER THE INPUT: true; the input reads as it did. -/
def fnExactProgRunSpec : ChangeSpec := { name := "fnExactProgRun", vars := ["loop.example/keelson/impl.errStep"], fn := fun _ => fun
  | [d1, d2, g1] => { results := [.lit (.bool true)], args := [d1, d2], vars := [g1] }
  | _ => none }
def fnExactProgRunRow : OpenClaim := { program := "ytlehcpcejkpbmaadoor", sum := "8d29ebb02cadcb371bf7e11696328444912cbc52be9d87ba648e6bf076c35804", func := "loop.example/keelson/laws.FnExactProgRun", spec := "fnExactProgRun", inPlace := ["internal/reflectlite.TypeOf"], unfollowed := true, recurses := true, named := ["loop.example/keelson/impl.errStep"], ifaces := true, apart := false, laid := [("loop.example/keelson/impl.errStep", laid_loop_example_keelson_impl_errStep)] }
def FnExactProgRunSaid : Prop := fnExactProgRunRow.holds Tryd.pinned (OpenSpec.ofChange fnExactProgRunSpec)

/-- ITS FALSE NEIGHBOUR: 'it returns false'. Refute it at one input. -/
def fnExactProgRunWrong : ChangeSpec := { name := "fnExactProgRun", vars := ["loop.example/keelson/impl.errStep"], fn := fun _ => fun
  | [d1, d2, g1] => { results := [.lit (.bool false)], args := [d1, d2], vars := [g1] }
  | _ => none }
def FnExactProgRunWrongFalsely : Prop := fnExactProgRunRow.holds Tryd.pinned (OpenSpec.ofChange fnExactProgRunWrong)

/-- 'laws.FnExactProgRow': WHATEVER THE INPUT: true; the input reads as it did. -/
def fnExactProgRowSpec : ChangeSpec := { name := "fnExactProgRow", vars := ["loop.example/keelson/impl.errStep"], fn := fun _ => fun
  | [d1, d2, g1] => { results := [.lit (.bool true)], args := [d1, d2], vars := [g1] }
  | _ => none }
def fnExactProgRowRow : OpenClaim := { program := "ytlehcpcejkpbmaadoor", sum := "8d29ebb02cadcb371bf7e11696328444912cbc52be9d87ba648e6bf076c35804", func := "loop.example/keelson/laws.FnExactProgRow", spec := "fnExactProgRow", inPlace := ["internal/reflectlite.TypeOf"], unfollowed := true, recurses := true, named := ["loop.example/keelson/impl.errStep"], ifaces := true, apart := false, laid := [("loop.example/keelson/impl.errStep", laid_loop_example_keelson_impl_errStep)] }
def FnExactProgRowSaid : Prop := fnExactProgRowRow.holds Tryd.pinned (OpenSpec.ofChange fnExactProgRowSpec)

/-- ITS FALSE NEIGHBOUR: 'it returns false'. Refute it at one input. -/
def fnExactProgRowWrong : ChangeSpec := { name := "fnExactProgRow", vars := ["loop.example/keelson/impl.errStep"], fn := fun _ => fun
  | [d1, d2, g1] => { results := [.lit (.bool false)], args := [d1, d2], vars := [g1] }
  | _ => none }
def FnExactProgRowWrongFalsely : Prop := fnExactProgRowRow.holds Tryd.pinned (OpenSpec.ofChange fnExactProgRowWrong)

/-- 'laws.FnExactProgMany': WHATEVER THE INPUT: true; the input reads as it did. -/
def fnExactProgManySpec : ChangeSpec := { name := "fnExactProgMany", vars := ["loop.example/keelson/impl.errStep"], fn := fun _ => fun
  | [d1, d2, g1] => { results := [.lit (.bool true)], args := [d1, d2], vars := [g1] }
  | _ => none }
def fnExactProgManyRow : OpenClaim := { program := "ytlehcpcejkpbmaadoor", sum := "8d29ebb02cadcb371bf7e11696328444912cbc52be9d87ba648e6bf076c35804", func := "loop.example/keelson/laws.FnExactProgMany", spec := "fnExactProgMany", inPlace := ["internal/reflectlite.TypeOf"], unfollowed := true, recurses := true, named := ["loop.example/keelson/impl.errStep"], ifaces := true, apart := false, laid := [("loop.example/keelson/impl.errStep", laid_loop_example_keelson_impl_errStep)] }
def FnExactProgManySaid : Prop := fnExactProgManyRow.holds Tryd.pinned (OpenSpec.ofChange fnExactProgManySpec)

/-- ITS FALSE NEIGHBOUR: 'it returns false'. Refute it at one input. -/
def fnExactProgManyWrong : ChangeSpec := { name := "fnExactProgMany", vars := ["loop.example/keelson/impl.errStep"], fn := fun _ => fun
  | [d1, d2, g1] => { results := [.lit (.bool false)], args := [d1, d2], vars := [g1] }
  | _ => none }
def FnExactProgManyWrongFalsely : Prop := fnExactProgManyRow.holds Tryd.pinned (OpenSpec.ofChange fnExactProgManyWrong)

/- THE SECOND FORM. 'bulk': how many values and letters a reading holds, each counted each time it is reached (what is shared counts as often as it is met; a slice's spare places count too). A statement '..UptoSaid' is the law's where the arguments, and the package variables that the reading takes, are together of bulk at most 1048576: NARROWER than '..Said'. Prove '..Said' where nothing that the law and all that it calls make is longer than what came in: it says more and counts as full. Else prove '..UptoSaid'. A law counts once. -/
mutual
def uptoBulk {H : Type} : DataW H → Nat
  | .lit (.string bytes) => bytes.length + 1
  | .lit _ => 1
  | .nil => 1
  | .ptr d => uptoBulk d + 1
  | .slice elems spare => uptoBulkAll elems + uptoBulkAll spare + 1
  | .agg parts => uptoBulkAll parts + 1
  | .iface _ d => uptoBulk d + 1
  | .map entries => uptoBulkEntries entries + 1
  | .held _ => 1
def uptoBulkAll {H : Type} : List (DataW H) → Nat
  | [] => 0
  | d :: r => uptoBulk d + uptoBulkAll r
def uptoBulkEntries {H : Type} : List (Lit × DataW H) → Nat
  | [] => 0
  | x :: r => uptoBulkEntry x + uptoBulkEntries r
def uptoBulkEntry {H : Type} : Lit × DataW H → Nat
  | (.string bytes, d) => bytes.length + uptoBulk d + 1
  | (_, d) => uptoBulk d + 1
 end
def uptoSmall : (H : Type) → List (DataW H) → Bool := fun _ ds => decide (uptoBulkAll ds ≤ 1048576)
def OpenSpec.upto (s : _root_.Go.ChangeSpec) : _root_.Go.OpenSpec := { _root_.Go.OpenSpec.ofChange s with cond := some uptoSmall }

/-- 'laws.FnProgOf', WHERE WHAT IT READS IS OF BULK AT MOST 1048576: true; the input reads as it did. -/
def fnProgOfUptoRow : OpenClaim := { program := "ytlehcpcejkpbmaadoor", sum := "8d29ebb02cadcb371bf7e11696328444912cbc52be9d87ba648e6bf076c35804", func := "loop.example/keelson/laws.FnProgOf", spec := "fnProgOf", inPlace := ["internal/reflectlite.TypeOf"], unfollowed := true, recurses := true, named := ["loop.example/keelson/impl.errStep"], ifaces := true, apart := false, laid := [("loop.example/keelson/impl.errStep", laid_loop_example_keelson_impl_errStep)], narrowed := true }
def FnProgOfUptoSaid : Prop := fnProgOfUptoRow.holds Tryd.pinned (OpenSpec.upto fnProgOfSpec)

/-- 'laws.FnProgSteps', WHERE WHAT IT READS IS OF BULK AT MOST 1048576: true; the input reads as it did. -/
def fnProgStepsUptoRow : OpenClaim := { program := "ytlehcpcejkpbmaadoor", sum := "8d29ebb02cadcb371bf7e11696328444912cbc52be9d87ba648e6bf076c35804", func := "loop.example/keelson/laws.FnProgSteps", spec := "fnProgSteps", inPlace := ["internal/reflectlite.TypeOf"], unfollowed := true, recurses := true, named := ["loop.example/keelson/impl.errStep"], ifaces := true, apart := false, laid := [("loop.example/keelson/impl.errStep", laid_loop_example_keelson_impl_errStep)], narrowed := true }
def FnProgStepsUptoSaid : Prop := fnProgStepsUptoRow.holds Tryd.pinned (OpenSpec.upto fnProgStepsSpec)

/-- 'laws.FnProgPlan', WHERE WHAT IT READS IS OF BULK AT MOST 1048576: true; the input reads as it did. -/
def fnProgPlanUptoRow : OpenClaim := { program := "ytlehcpcejkpbmaadoor", sum := "8d29ebb02cadcb371bf7e11696328444912cbc52be9d87ba648e6bf076c35804", func := "loop.example/keelson/laws.FnProgPlan", spec := "fnProgPlan", inPlace := ["internal/reflectlite.TypeOf"], unfollowed := true, recurses := true, named := ["loop.example/keelson/impl.errStep"], ifaces := true, apart := false, laid := [("loop.example/keelson/impl.errStep", laid_loop_example_keelson_impl_errStep)], narrowed := true }
def FnProgPlanUptoSaid : Prop := fnProgPlanUptoRow.holds Tryd.pinned (OpenSpec.upto fnProgPlanSpec)

/-- 'laws.FnProgRun', WHERE WHAT IT READS IS OF BULK AT MOST 1048576: true; the input reads as it did. -/
def fnProgRunUptoRow : OpenClaim := { program := "ytlehcpcejkpbmaadoor", sum := "8d29ebb02cadcb371bf7e11696328444912cbc52be9d87ba648e6bf076c35804", func := "loop.example/keelson/laws.FnProgRun", spec := "fnProgRun", inPlace := ["internal/reflectlite.TypeOf"], unfollowed := true, recurses := true, named := ["loop.example/keelson/impl.errStep"], ifaces := true, apart := false, laid := [("loop.example/keelson/impl.errStep", laid_loop_example_keelson_impl_errStep)], narrowed := true }
def FnProgRunUptoSaid : Prop := fnProgRunUptoRow.holds Tryd.pinned (OpenSpec.upto fnProgRunSpec)

/-- 'laws.FnProgMany', WHERE WHAT IT READS IS OF BULK AT MOST 1048576: true; the input reads as it did. -/
def fnProgManyUptoRow : OpenClaim := { program := "ytlehcpcejkpbmaadoor", sum := "8d29ebb02cadcb371bf7e11696328444912cbc52be9d87ba648e6bf076c35804", func := "loop.example/keelson/laws.FnProgMany", spec := "fnProgMany", inPlace := ["internal/reflectlite.TypeOf"], unfollowed := true, recurses := true, named := ["loop.example/keelson/impl.errStep"], ifaces := true, apart := false, laid := [("loop.example/keelson/impl.errStep", laid_loop_example_keelson_impl_errStep)], narrowed := true }
def FnProgManyUptoSaid : Prop := fnProgManyUptoRow.holds Tryd.pinned (OpenSpec.upto fnProgManySpec)

/-- 'laws.FnProgForm', WHERE WHAT IT READS IS OF BULK AT MOST 1048576: true; the input reads as it did. -/
def fnProgFormUptoRow : OpenClaim := { program := "ytlehcpcejkpbmaadoor", sum := "8d29ebb02cadcb371bf7e11696328444912cbc52be9d87ba648e6bf076c35804", func := "loop.example/keelson/laws.FnProgForm", spec := "fnProgForm", inPlace := ["internal/reflectlite.TypeOf"], unfollowed := true, recurses := true, named := ["loop.example/keelson/impl.errStep"], ifaces := true, apart := false, laid := [("loop.example/keelson/impl.errStep", laid_loop_example_keelson_impl_errStep)], narrowed := true }
def FnProgFormUptoSaid : Prop := fnProgFormUptoRow.holds Tryd.pinned (OpenSpec.upto fnProgFormSpec)

/-- 'laws.FnExactProgOk', WHERE WHAT IT READS IS OF BULK AT MOST 1048576: true; the input reads as it did. -/
def fnExactProgOkUptoRow : OpenClaim := { program := "ytlehcpcejkpbmaadoor", sum := "8d29ebb02cadcb371bf7e11696328444912cbc52be9d87ba648e6bf076c35804", func := "loop.example/keelson/laws.FnExactProgOk", spec := "fnExactProgOk", inPlace := ["internal/reflectlite.TypeOf"], unfollowed := true, recurses := true, named := ["loop.example/keelson/impl.errStep"], ifaces := true, apart := false, laid := [("loop.example/keelson/impl.errStep", laid_loop_example_keelson_impl_errStep)], narrowed := true }
def FnExactProgOkUptoSaid : Prop := fnExactProgOkUptoRow.holds Tryd.pinned (OpenSpec.upto fnExactProgOkSpec)

/-- 'laws.FnExactProgRun', WHERE WHAT IT READS IS OF BULK AT MOST 1048576: true; the input reads as it did. -/
def fnExactProgRunUptoRow : OpenClaim := { program := "ytlehcpcejkpbmaadoor", sum := "8d29ebb02cadcb371bf7e11696328444912cbc52be9d87ba648e6bf076c35804", func := "loop.example/keelson/laws.FnExactProgRun", spec := "fnExactProgRun", inPlace := ["internal/reflectlite.TypeOf"], unfollowed := true, recurses := true, named := ["loop.example/keelson/impl.errStep"], ifaces := true, apart := false, laid := [("loop.example/keelson/impl.errStep", laid_loop_example_keelson_impl_errStep)], narrowed := true }
def FnExactProgRunUptoSaid : Prop := fnExactProgRunUptoRow.holds Tryd.pinned (OpenSpec.upto fnExactProgRunSpec)

/-- 'laws.FnExactProgRow', WHERE WHAT IT READS IS OF BULK AT MOST 1048576: true; the input reads as it did. -/
def fnExactProgRowUptoRow : OpenClaim := { program := "ytlehcpcejkpbmaadoor", sum := "8d29ebb02cadcb371bf7e11696328444912cbc52be9d87ba648e6bf076c35804", func := "loop.example/keelson/laws.FnExactProgRow", spec := "fnExactProgRow", inPlace := ["internal/reflectlite.TypeOf"], unfollowed := true, recurses := true, named := ["loop.example/keelson/impl.errStep"], ifaces := true, apart := false, laid := [("loop.example/keelson/impl.errStep", laid_loop_example_keelson_impl_errStep)], narrowed := true }
def FnExactProgRowUptoSaid : Prop := fnExactProgRowUptoRow.holds Tryd.pinned (OpenSpec.upto fnExactProgRowSpec)

/-- 'laws.FnExactProgMany', WHERE WHAT IT READS IS OF BULK AT MOST 1048576: true; the input reads as it did. -/
def fnExactProgManyUptoRow : OpenClaim := { program := "ytlehcpcejkpbmaadoor", sum := "8d29ebb02cadcb371bf7e11696328444912cbc52be9d87ba648e6bf076c35804", func := "loop.example/keelson/laws.FnExactProgMany", spec := "fnExactProgMany", inPlace := ["internal/reflectlite.TypeOf"], unfollowed := true, recurses := true, named := ["loop.example/keelson/impl.errStep"], ifaces := true, apart := false, laid := [("loop.example/keelson/impl.errStep", laid_loop_example_keelson_impl_errStep)], narrowed := true }
def FnExactProgManyUptoSaid : Prop := fnExactProgManyUptoRow.holds Tryd.pinned (OpenSpec.upto fnExactProgManySpec)

end Rows
end Go.Proofs.YtlehcpcejkpbmaaDoor
