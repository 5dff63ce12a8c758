/-
  No cell of these rows narrows 'for every input' (looked for: loops, veiled, ifaces, maps, wideKeys, modest, calm, conditions, laid).
  DERIVED. THE GIVEN ROWS OF THIS SEAT. 12 by the template 'for every input the law returns true; each argument reads behind the call as it read before'; 0 by the template 'total and deterministic' (their statements: YtbpkfcaokbidnaaTotals.lean).
  GIVEN WITH THE SEED: the statements are not yours to turn. If you find one false, say at which input.
  Laid BY PROGRAM, IN A SANDBOX (cutbox-rows.mjs): the forced cells as the released guide's own fill.sh prints them over the translation 8f1d52816f06379c… (all of the seat's roots in one cut). By AI agents, Wed Nov 11 2026. No macro, syntax, notation, axiom, sorry.
-/
import Derived.Test.YtbpkfcaokbidnaaChecked
import GoSem.Claim
import GoSem.ClaimJoined
import GoSem.ClaimMapViews
import Derived.JoinedTies
import Derived.KernelRfl
namespace Go.Proofs.Ytbpkfcaokbidnaa
/- THE CELL 'sum', in the pinned program and in every row, IS THE sha256 OF THE DUMP (.gsa) THAT YtbpkfcaokbidnaaProg.lean LOADS. Nothing in Lean hashes anything: it is a label: what it is worth is what the hold of that sum in a sandbox is worth. -/
noncomputable def Try.pinned : Pinned := { name := "ytbpkfcaokbidnaa", sum := "8f1d52816f06379c39890e3cd6afdc1b7d9b94ce84a94148e6ebf8024802105c", checked := Try.checked }
namespace Rows
def none {H : Type} : Left H := { results := [], args := [] }

/-- 'laws.FnPlanOf': WHATEVER THE INPUT: true; the input reads as it did. -/
def fnPlanOfSpec : ChangeSpec := { name := "fnPlanOf", fn := fun _ => fun
  | [d] => { results := [.lit (.bool true)], args := [d] }
  | _ => none }
def fnPlanOfRow : OpenClaim := { program := "ytbpkfcaokbidnaa", sum := "8f1d52816f06379c39890e3cd6afdc1b7d9b94ce84a94148e6ebf8024802105c", func := "loop.example/keelson/laws.FnPlanOf", spec := "fnPlanOf", unfollowed := true, recurses := true, apart := false }
def FnPlanOfSaid : Prop := fnPlanOfRow.holds Try.pinned (OpenSpec.ofChange fnPlanOfSpec)

/-- ITS FALSE NEIGHBOUR: 'it returns false'. Refute it at one input. -/
def fnPlanOfWrong : ChangeSpec := { name := "fnPlanOf", fn := fun _ => fun
  | [d] => { results := [.lit (.bool false)], args := [d] }
  | _ => none }
def FnPlanOfWrongFalsely : Prop := fnPlanOfRow.holds Try.pinned (OpenSpec.ofChange fnPlanOfWrong)

/-- 'laws.FnPlanFalse': WHATEVER THE INPUT: true; the input reads as it did. -/
def fnPlanFalseSpec : ChangeSpec := { name := "fnPlanFalse", fn := fun _ => fun
  | [d] => { results := [.lit (.bool true)], args := [d] }
  | _ => none }
def fnPlanFalseRow : OpenClaim := { program := "ytbpkfcaokbidnaa", sum := "8f1d52816f06379c39890e3cd6afdc1b7d9b94ce84a94148e6ebf8024802105c", func := "loop.example/keelson/laws.FnPlanFalse", spec := "fnPlanFalse", unfollowed := true, recurses := true, apart := false }
def FnPlanFalseSaid : Prop := fnPlanFalseRow.holds Try.pinned (OpenSpec.ofChange fnPlanFalseSpec)

/-- ITS FALSE NEIGHBOUR: 'it returns false'. Refute it at one input. -/
def fnPlanFalseWrong : ChangeSpec := { name := "fnPlanFalse", fn := fun _ => fun
  | [d] => { results := [.lit (.bool false)], args := [d] }
  | _ => none }
def FnPlanFalseWrongFalsely : Prop := fnPlanFalseRow.holds Try.pinned (OpenSpec.ofChange fnPlanFalseWrong)

/-- 'laws.FnPlanLeast': WHATEVER THE INPUT: true; the input reads as it did. -/
def fnPlanLeastSpec : ChangeSpec := { name := "fnPlanLeast", fn := fun _ => fun
  | [d] => { results := [.lit (.bool true)], args := [d] }
  | _ => none }
def fnPlanLeastRow : OpenClaim := { program := "ytbpkfcaokbidnaa", sum := "8f1d52816f06379c39890e3cd6afdc1b7d9b94ce84a94148e6ebf8024802105c", func := "loop.example/keelson/laws.FnPlanLeast", spec := "fnPlanLeast", unfollowed := true, recurses := true, apart := false }
def FnPlanLeastSaid : Prop := fnPlanLeastRow.holds Try.pinned (OpenSpec.ofChange fnPlanLeastSpec)

/-- ITS FALSE NEIGHBOUR: 'it returns false'. Refute it at one input. -/
def fnPlanLeastWrong : ChangeSpec := { name := "fnPlanLeast", fn := fun _ => fun
  | [d] => { results := [.lit (.bool false)], args := [d] }
  | _ => none }
def FnPlanLeastWrongFalsely : Prop := fnPlanLeastRow.holds Try.pinned (OpenSpec.ofChange fnPlanLeastWrong)

/-- 'laws.FnPlanMore': WHATEVER THE INPUT: true; the input reads as it did. -/
def fnPlanMoreSpec : ChangeSpec := { name := "fnPlanMore", fn := fun _ => fun
  | [d1, d2] => { results := [.lit (.bool true)], args := [d1, d2] }
  | _ => none }
def fnPlanMoreRow : OpenClaim := { program := "ytbpkfcaokbidnaa", sum := "8f1d52816f06379c39890e3cd6afdc1b7d9b94ce84a94148e6ebf8024802105c", func := "loop.example/keelson/laws.FnPlanMore", spec := "fnPlanMore", unfollowed := true, recurses := true, apart := false }
def FnPlanMoreSaid : Prop := fnPlanMoreRow.holds Try.pinned (OpenSpec.ofChange fnPlanMoreSpec)

/-- ITS FALSE NEIGHBOUR: 'it returns false'. Refute it at one input. -/
def fnPlanMoreWrong : ChangeSpec := { name := "fnPlanMore", fn := fun _ => fun
  | [d1, d2] => { results := [.lit (.bool false)], args := [d1, d2] }
  | _ => none }
def FnPlanMoreWrongFalsely : Prop := fnPlanMoreRow.holds Try.pinned (OpenSpec.ofChange fnPlanMoreWrong)

/-- 'laws.FnPlanSum': WHATEVER THE INPUT: true; the input reads as it did. -/
def fnPlanSumSpec : ChangeSpec := { name := "fnPlanSum", fn := fun _ => fun
  | [d] => { results := [.lit (.bool true)], args := [d] }
  | _ => none }
def fnPlanSumRow : OpenClaim := { program := "ytbpkfcaokbidnaa", sum := "8f1d52816f06379c39890e3cd6afdc1b7d9b94ce84a94148e6ebf8024802105c", func := "loop.example/keelson/laws.FnPlanSum", spec := "fnPlanSum", recurses := true, apart := false }
def FnPlanSumSaid : Prop := fnPlanSumRow.holds Try.pinned (OpenSpec.ofChange fnPlanSumSpec)

/-- ITS FALSE NEIGHBOUR: 'it returns false'. Refute it at one input. -/
def fnPlanSumWrong : ChangeSpec := { name := "fnPlanSum", fn := fun _ => fun
  | [d] => { results := [.lit (.bool false)], args := [d] }
  | _ => none }
def FnPlanSumWrongFalsely : Prop := fnPlanSumRow.holds Try.pinned (OpenSpec.ofChange fnPlanSumWrong)

/-- 'laws.FnPlanNear': WHATEVER THE INPUT: true; the input reads as it did. -/
def fnPlanNearSpec : ChangeSpec := { name := "fnPlanNear", fn := fun _ => fun
  | [d] => { results := [.lit (.bool true)], args := [d] }
  | _ => none }
def fnPlanNearRow : OpenClaim := { program := "ytbpkfcaokbidnaa", sum := "8f1d52816f06379c39890e3cd6afdc1b7d9b94ce84a94148e6ebf8024802105c", func := "loop.example/keelson/laws.FnPlanNear", spec := "fnPlanNear", unfollowed := true, recurses := true, apart := false }
def FnPlanNearSaid : Prop := fnPlanNearRow.holds Try.pinned (OpenSpec.ofChange fnPlanNearSpec)

/-- ITS FALSE NEIGHBOUR: 'it returns false'. Refute it at one input. -/
def fnPlanNearWrong : ChangeSpec := { name := "fnPlanNear", fn := fun _ => fun
  | [d] => { results := [.lit (.bool false)], args := [d] }
  | _ => none }
def FnPlanNearWrongFalsely : Prop := fnPlanNearRow.holds Try.pinned (OpenSpec.ofChange fnPlanNearWrong)

/-- 'laws.FnPlanAll': WHATEVER THE INPUT: true; the input reads as it did. -/
def fnPlanAllSpec : ChangeSpec := { name := "fnPlanAll", fn := fun _ => fun
  | [d] => { results := [.lit (.bool true)], args := [d] }
  | _ => none }
def fnPlanAllRow : OpenClaim := { program := "ytbpkfcaokbidnaa", sum := "8f1d52816f06379c39890e3cd6afdc1b7d9b94ce84a94148e6ebf8024802105c", func := "loop.example/keelson/laws.FnPlanAll", spec := "fnPlanAll", unfollowed := true, recurses := true, apart := false }
def FnPlanAllSaid : Prop := fnPlanAllRow.holds Try.pinned (OpenSpec.ofChange fnPlanAllSpec)

/-- ITS FALSE NEIGHBOUR: 'it returns false'. Refute it at one input. -/
def fnPlanAllWrong : ChangeSpec := { name := "fnPlanAll", fn := fun _ => fun
  | [d] => { results := [.lit (.bool false)], args := [d] }
  | _ => none }
def FnPlanAllWrongFalsely : Prop := fnPlanAllRow.holds Try.pinned (OpenSpec.ofChange fnPlanAllWrong)

/-- 'laws.FnPlanOwn': WHATEVER THE INPUT: true; the input reads as it did. -/
def fnPlanOwnSpec : ChangeSpec := { name := "fnPlanOwn", fn := fun _ => fun
  | [d] => { results := [.lit (.bool true)], args := [d] }
  | _ => none }
def fnPlanOwnRow : OpenClaim := { program := "ytbpkfcaokbidnaa", sum := "8f1d52816f06379c39890e3cd6afdc1b7d9b94ce84a94148e6ebf8024802105c", func := "loop.example/keelson/laws.FnPlanOwn", spec := "fnPlanOwn", unfollowed := true, recurses := true, apart := false }
def FnPlanOwnSaid : Prop := fnPlanOwnRow.holds Try.pinned (OpenSpec.ofChange fnPlanOwnSpec)

/-- ITS FALSE NEIGHBOUR: 'it returns false'. Refute it at one input. -/
def fnPlanOwnWrong : ChangeSpec := { name := "fnPlanOwn", fn := fun _ => fun
  | [d] => { results := [.lit (.bool false)], args := [d] }
  | _ => none }
def FnPlanOwnWrongFalsely : Prop := fnPlanOwnRow.holds Try.pinned (OpenSpec.ofChange fnPlanOwnWrong)

/-- 'laws.FnExactPlanOf': WHATEVER THE INPUT: true; the input reads as it did. -/
def fnExactPlanOfSpec : ChangeSpec := { name := "fnExactPlanOf", fn := fun _ => fun
  | [d1, d2, d3] => { results := [.lit (.bool true)], args := [d1, d2, d3] }
  | _ => none }
def fnExactPlanOfRow : OpenClaim := { program := "ytbpkfcaokbidnaa", sum := "8f1d52816f06379c39890e3cd6afdc1b7d9b94ce84a94148e6ebf8024802105c", func := "loop.example/keelson/laws.FnExactPlanOf", spec := "fnExactPlanOf", unfollowed := true, recurses := true, apart := false }
def FnExactPlanOfSaid : Prop := fnExactPlanOfRow.holds Try.pinned (OpenSpec.ofChange fnExactPlanOfSpec)

/-- ITS FALSE NEIGHBOUR: 'it returns false'. Refute it at one input. -/
def fnExactPlanOfWrong : ChangeSpec := { name := "fnExactPlanOf", fn := fun _ => fun
  | [d1, d2, d3] => { results := [.lit (.bool false)], args := [d1, d2, d3] }
  | _ => none }
def FnExactPlanOfWrongFalsely : Prop := fnExactPlanOfRow.holds Try.pinned (OpenSpec.ofChange fnExactPlanOfWrong)

/-- 'laws.FnExactPlanOk': WHATEVER THE INPUT: true; the input reads as it did. -/
def fnExactPlanOkSpec : ChangeSpec := { name := "fnExactPlanOk", fn := fun _ => fun
  | [d1, d2] => { results := [.lit (.bool true)], args := [d1, d2] }
  | _ => none }
def fnExactPlanOkRow : OpenClaim := { program := "ytbpkfcaokbidnaa", sum := "8f1d52816f06379c39890e3cd6afdc1b7d9b94ce84a94148e6ebf8024802105c", func := "loop.example/keelson/laws.FnExactPlanOk", spec := "fnExactPlanOk", unfollowed := true, recurses := true, apart := false }
def FnExactPlanOkSaid : Prop := fnExactPlanOkRow.holds Try.pinned (OpenSpec.ofChange fnExactPlanOkSpec)

/-- ITS FALSE NEIGHBOUR: 'it returns false'. Refute it at one input. -/
def fnExactPlanOkWrong : ChangeSpec := { name := "fnExactPlanOk", fn := fun _ => fun
  | [d1, d2] => { results := [.lit (.bool false)], args := [d1, d2] }
  | _ => none }
def FnExactPlanOkWrongFalsely : Prop := fnExactPlanOkRow.holds Try.pinned (OpenSpec.ofChange fnExactPlanOkWrong)

/-- 'laws.FnExactPlanDo': WHATEVER THE INPUT: true; the input reads as it did. -/
def fnExactPlanDoSpec : ChangeSpec := { name := "fnExactPlanDo", fn := fun _ => fun
  | [d1, d2] => { results := [.lit (.bool true)], args := [d1, d2] }
  | _ => none }
def fnExactPlanDoRow : OpenClaim := { program := "ytbpkfcaokbidnaa", sum := "8f1d52816f06379c39890e3cd6afdc1b7d9b94ce84a94148e6ebf8024802105c", func := "loop.example/keelson/laws.FnExactPlanDo", spec := "fnExactPlanDo", apart := false }
def FnExactPlanDoSaid : Prop := fnExactPlanDoRow.holds Try.pinned (OpenSpec.ofChange fnExactPlanDoSpec)

/-- ITS FALSE NEIGHBOUR: 'it returns false'. Refute it at one input. -/
def fnExactPlanDoWrong : ChangeSpec := { name := "fnExactPlanDo", fn := fun _ => fun
  | [d1, d2] => { results := [.lit (.bool false)], args := [d1, d2] }
  | _ => none }
def FnExactPlanDoWrongFalsely : Prop := fnExactPlanDoRow.holds Try.pinned (OpenSpec.ofChange fnExactPlanDoWrong)

/-- 'laws.FnExactPlanNear': WHATEVER THE INPUT: true; the input reads as it did. -/
def fnExactPlanNearSpec : ChangeSpec := { name := "fnExactPlanNear", fn := fun _ => fun
  | [d1, d2] => { results := [.lit (.bool true)], args := [d1, d2] }
  | _ => none }
def fnExactPlanNearRow : OpenClaim := { program := "ytbpkfcaokbidnaa", sum := "8f1d52816f06379c39890e3cd6afdc1b7d9b94ce84a94148e6ebf8024802105c", func := "loop.example/keelson/laws.FnExactPlanNear", spec := "fnExactPlanNear", unfollowed := true, recurses := true, apart := false }
def FnExactPlanNearSaid : Prop := fnExactPlanNearRow.holds Try.pinned (OpenSpec.ofChange fnExactPlanNearSpec)

/-- ITS FALSE NEIGHBOUR: 'it returns false'. Refute it at one input. -/
def fnExactPlanNearWrong : ChangeSpec := { name := "fnExactPlanNear", fn := fun _ => fun
  | [d1, d2] => { results := [.lit (.bool false)], args := [d1, d2] }
  | _ => none }
def FnExactPlanNearWrongFalsely : Prop := fnExactPlanNearRow.holds Try.pinned (OpenSpec.ofChange fnExactPlanNearWrong)

/- THE SECOND FORM. 'bulk': how many values and letters a reading holds, each counted each time it is reached (what is shared counts as often as it is met; a slice's spare places count too). A statement '..UptoSaid' is the law's where the arguments, and the package variables that the reading takes, are together of bulk at most 1048576: NARROWER than '..Said'. Prove '..Said' where nothing that the law and all that it calls make is longer than what came in: it says more and counts as full. Else prove '..UptoSaid'. A law counts once. -/
mutual
def uptoBulk {H : Type} : DataW H → Nat
  | .lit (.string bytes) => bytes.length + 1
  | .lit _ => 1
  | .nil => 1
  | .ptr d => uptoBulk d + 1
  | .slice elems spare => uptoBulkAll elems + uptoBulkAll spare + 1
  | .agg parts => uptoBulkAll parts + 1
  | .iface _ d => uptoBulk d + 1
  | .map entries => uptoBulkEntries entries + 1
  | .held _ => 1
def uptoBulkAll {H : Type} : List (DataW H) → Nat
  | [] => 0
  | d :: r => uptoBulk d + uptoBulkAll r
def uptoBulkEntries {H : Type} : List (Lit × DataW H) → Nat
  | [] => 0
  | x :: r => uptoBulkEntry x + uptoBulkEntries r
def uptoBulkEntry {H : Type} : Lit × DataW H → Nat
  | (.string bytes, d) => bytes.length + uptoBulk d + 1
  | (_, d) => uptoBulk d + 1
 end
def uptoSmall : (H : Type) → List (DataW H) → Bool := fun _ ds => decide (uptoBulkAll ds ≤ 1048576)
def OpenSpec.upto (s : _root_.Go.ChangeSpec) : _root_.Go.OpenSpec := { _root_.Go.OpenSpec.ofChange s with cond := some uptoSmall }

/-- 'laws.FnPlanOf', WHERE WHAT IT READS IS OF BULK AT MOST 1048576: true; the input reads as it did. -/
def fnPlanOfUptoRow : OpenClaim := { program := "ytbpkfcaokbidnaa", sum := "8f1d52816f06379c39890e3cd6afdc1b7d9b94ce84a94148e6ebf8024802105c", func := "loop.example/keelson/laws.FnPlanOf", spec := "fnPlanOf", unfollowed := true, recurses := true, apart := false, narrowed := true }
def FnPlanOfUptoSaid : Prop := fnPlanOfUptoRow.holds Try.pinned (OpenSpec.upto fnPlanOfSpec)

/-- 'laws.FnPlanFalse', WHERE WHAT IT READS IS OF BULK AT MOST 1048576: true; the input reads as it did. -/
def fnPlanFalseUptoRow : OpenClaim := { program := "ytbpkfcaokbidnaa", sum := "8f1d52816f06379c39890e3cd6afdc1b7d9b94ce84a94148e6ebf8024802105c", func := "loop.example/keelson/laws.FnPlanFalse", spec := "fnPlanFalse", unfollowed := true, recurses := true, apart := false, narrowed := true }
def FnPlanFalseUptoSaid : Prop := fnPlanFalseUptoRow.holds Try.pinned (OpenSpec.upto fnPlanFalseSpec)

/-- 'laws.FnPlanLeast', WHERE WHAT IT READS IS OF BULK AT MOST 1048576: true; the input reads as it did. -/
def fnPlanLeastUptoRow : OpenClaim := { program := "ytbpkfcaokbidnaa", sum := "8f1d52816f06379c39890e3cd6afdc1b7d9b94ce84a94148e6ebf8024802105c", func := "loop.example/keelson/laws.FnPlanLeast", spec := "fnPlanLeast", unfollowed := true, recurses := true, apart := false, narrowed := true }
def FnPlanLeastUptoSaid : Prop := fnPlanLeastUptoRow.holds Try.pinned (OpenSpec.upto fnPlanLeastSpec)

/-- 'laws.FnPlanMore', WHERE WHAT IT READS IS OF BULK AT MOST 1048576: true; the input reads as it did. -/
def fnPlanMoreUptoRow : OpenClaim := { program := "ytbpkfcaokbidnaa", sum := "8f1d52816f06379c39890e3cd6afdc1b7d9b94ce84a94148e6ebf8024802105c", func := "loop.example/keelson/laws.FnPlanMore", spec := "fnPlanMore", unfollowed := true, recurses := true, apart := false, narrowed := true }
def FnPlanMoreUptoSaid : Prop := fnPlanMoreUptoRow.holds Try.pinned (OpenSpec.upto fnPlanMoreSpec)

/-- 'laws.FnPlanSum', WHERE WHAT IT READS IS OF BULK AT MOST 1048576: true; the input reads as it did. -/
def fnPlanSumUptoRow : OpenClaim := { program := "ytbpkfcaokbidnaa", sum := "8f1d52816f06379c39890e3cd6afdc1b7d9b94ce84a94148e6ebf8024802105c", func := "loop.example/keelson/laws.FnPlanSum", spec := "fnPlanSum", recurses := true, apart := false, narrowed := true }
def FnPlanSumUptoSaid : Prop := fnPlanSumUptoRow.holds Try.pinned (OpenSpec.upto fnPlanSumSpec)

/-- 'laws.FnPlanNear', WHERE WHAT IT READS IS OF BULK AT MOST 1048576: true; the input reads as it did. -/
def fnPlanNearUptoRow : OpenClaim := { program := "ytbpkfcaokbidnaa", sum := "8f1d52816f06379c39890e3cd6afdc1b7d9b94ce84a94148e6ebf8024802105c", func := "loop.example/keelson/laws.FnPlanNear", spec := "fnPlanNear", unfollowed := true, recurses := true, apart := false, narrowed := true }
def FnPlanNearUptoSaid : Prop := fnPlanNearUptoRow.holds Try.pinned (OpenSpec.upto fnPlanNearSpec)

/-- 'laws.FnPlanAll', WHERE WHAT IT READS IS OF BULK AT MOST 1048576: true; the input reads as it did. -/
def fnPlanAllUptoRow : OpenClaim := { program := "ytbpkfcaokbidnaa", sum := "8f1d52816f06379c39890e3cd6afdc1b7d9b94ce84a94148e6ebf8024802105c", func := "loop.example/keelson/laws.FnPlanAll", spec := "fnPlanAll", unfollowed := true, recurses := true, apart := false, narrowed := true }
def FnPlanAllUptoSaid : Prop := fnPlanAllUptoRow.holds Try.pinned (OpenSpec.upto fnPlanAllSpec)

/-- 'laws.FnPlanOwn', WHERE WHAT IT READS IS OF BULK AT MOST 1048576: true; the input reads as it did. -/
def fnPlanOwnUptoRow : OpenClaim := { program := "ytbpkfcaokbidnaa", sum := "8f1d52816f06379c39890e3cd6afdc1b7d9b94ce84a94148e6ebf8024802105c", func := "loop.example/keelson/laws.FnPlanOwn", spec := "fnPlanOwn", unfollowed := true, recurses := true, apart := false, narrowed := true }
def FnPlanOwnUptoSaid : Prop := fnPlanOwnUptoRow.holds Try.pinned (OpenSpec.upto fnPlanOwnSpec)

/-- 'laws.FnExactPlanOf', WHERE WHAT IT READS IS OF BULK AT MOST 1048576: true; the input reads as it did. -/
def fnExactPlanOfUptoRow : OpenClaim := { program := "ytbpkfcaokbidnaa", sum := "8f1d52816f06379c39890e3cd6afdc1b7d9b94ce84a94148e6ebf8024802105c", func := "loop.example/keelson/laws.FnExactPlanOf", spec := "fnExactPlanOf", unfollowed := true, recurses := true, apart := false, narrowed := true }
def FnExactPlanOfUptoSaid : Prop := fnExactPlanOfUptoRow.holds Try.pinned (OpenSpec.upto fnExactPlanOfSpec)

/-- 'laws.FnExactPlanOk', WHERE WHAT IT READS IS OF BULK AT MOST 1048576: true; the input reads as it did. -/
def fnExactPlanOkUptoRow : OpenClaim := { program := "ytbpkfcaokbidnaa", sum := "8f1d52816f06379c39890e3cd6afdc1b7d9b94ce84a94148e6ebf8024802105c", func := "loop.example/keelson/laws.FnExactPlanOk", spec := "fnExactPlanOk", unfollowed := true, recurses := true, apart := false, narrowed := true }
def FnExactPlanOkUptoSaid : Prop := fnExactPlanOkUptoRow.holds Try.pinned (OpenSpec.upto fnExactPlanOkSpec)

/-- 'laws.FnExactPlanDo', WHERE WHAT IT READS IS OF BULK AT MOST 1048576: true; the input reads as it did. -/
def fnExactPlanDoUptoRow : OpenClaim := { program := "ytbpkfcaokbidnaa", sum := "8f1d52816f06379c39890e3cd6afdc1b7d9b94ce84a94148e6ebf8024802105c", func := "loop.example/keelson/laws.FnExactPlanDo", spec := "fnExactPlanDo", apart := false, narrowed := true }
def FnExactPlanDoUptoSaid : Prop := fnExactPlanDoUptoRow.holds Try.pinned (OpenSpec.upto fnExactPlanDoSpec)

/-- 'laws.FnExactPlanNear', WHERE WHAT IT READS IS OF BULK AT MOST 1048576: true; the input reads as it did. -/
def fnExactPlanNearUptoRow : OpenClaim := { program := "ytbpkfcaokbidnaa", sum := "8f1d52816f06379c39890e3cd6afdc1b7d9b94ce84a94148e6ebf8024802105c", func := "loop.example/keelson/laws.FnExactPlanNear", spec := "fnExactPlanNear", unfollowed := true, recurses := true, apart := false, narrowed := true }
def FnExactPlanNearUptoSaid : Prop := fnExactPlanNearUptoRow.holds Try.pinned (OpenSpec.upto fnExactPlanNearSpec)

end Rows
end Go.Proofs.Ytbpkfcaokbidnaa
