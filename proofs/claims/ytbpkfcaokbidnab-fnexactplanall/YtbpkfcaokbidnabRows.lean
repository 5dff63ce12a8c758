/-
  No cell of these rows narrows 'for every input' (looked for: loops, veiled, ifaces, maps, wideKeys, modest, calm, conditions, laid).
  DERIVED. THE GIVEN ROWS OF THIS SEAT. 12 by the template 'for every input the law returns true; each argument reads behind the call as it read before'; 0 by the template 'total and deterministic' (their statements: YtbpkfcaokbidnabTotals.lean).
  GIVEN WITH THE SEED: the statements are not yours to turn. If you find one false, say at which input.
  Laid BY PROGRAM, IN A SANDBOX (cutbox-rows.mjs): the forced cells as the released guide's own fill.sh prints them over the translation 7b653b9294861700… (all of the seat's roots in one cut). By AI agents, Wed Nov 11 2026. No macro, syntax, notation, axiom, sorry.
-/
import Derived.Test.YtbpkfcaokbidnabChecked
import GoSem.Claim
import GoSem.ClaimJoined
import GoSem.ClaimMapViews
import Derived.JoinedTies
import Derived.KernelRfl
namespace Go.Proofs.Ytbpkfcaokbidnab
/- THE CELL 'sum', in the pinned program and in every row, IS THE sha256 OF THE DUMP (.gsa) THAT YtbpkfcaokbidnabProg.lean LOADS. Nothing in Lean hashes anything: it is a label: what it is worth is what the hold of that sum in a sandbox is worth. -/
noncomputable def Try.pinned : Pinned := { name := "ytbpkfcaokbidnab", sum := "7b653b92948617007ce3c41dd802766b703d72f72c648b2ac65cf6df6fda5ec5", checked := Try.checked }
namespace Rows
def none {H : Type} : Left H := { results := [], args := [] }

/-- 'laws.FnExactPlanAll': WHATEVER THE INPUT: true; the input reads as it did. -/
def fnExactPlanAllSpec : ChangeSpec := { name := "fnExactPlanAll", fn := fun _ => fun
  | [d1, d2] => { results := [.lit (.bool true)], args := [d1, d2] }
  | _ => none }
def fnExactPlanAllRow : OpenClaim := { program := "ytbpkfcaokbidnab", sum := "7b653b92948617007ce3c41dd802766b703d72f72c648b2ac65cf6df6fda5ec5", func := "loop.example/keelson/laws.FnExactPlanAll", spec := "fnExactPlanAll", unfollowed := true, recurses := true, leaving := true, apart := false }
def FnExactPlanAllSaid : Prop := fnExactPlanAllRow.holds Try.pinned (OpenSpec.ofChange fnExactPlanAllSpec)

/-- ITS FALSE NEIGHBOUR: 'it returns false'. Refute it at one input. -/
def fnExactPlanAllWrong : ChangeSpec := { name := "fnExactPlanAll", fn := fun _ => fun
  | [d1, d2] => { results := [.lit (.bool false)], args := [d1, d2] }
  | _ => none }
def FnExactPlanAllWrongFalsely : Prop := fnExactPlanAllRow.holds Try.pinned (OpenSpec.ofChange fnExactPlanAllWrong)

/-- 'laws.FnPlanDo': WHATEVER THE INPUT: true; the input reads as it did. -/
def fnPlanDoSpec : ChangeSpec := { name := "fnPlanDo", fn := fun _ => fun
  | [d1, d2] => { results := [.lit (.bool true)], args := [d1, d2] }
  | _ => none }
def fnPlanDoRow : OpenClaim := { program := "ytbpkfcaokbidnab", sum := "7b653b92948617007ce3c41dd802766b703d72f72c648b2ac65cf6df6fda5ec5", func := "loop.example/keelson/laws.FnPlanDo", spec := "fnPlanDo", inPlace := ["(*sync.WaitGroup).Add", "internal/race.ReleaseMerge", "internal/race.Disable", "internal/race.Enable", "internal/synctest.IsInBubble", "internal/synctest.Associate[sync.WaitGroup]", "sync.fatal", "sync/atomic.OrUint64", "sync/atomic.AddUint64", "internal/race.Read", "sync/atomic.LoadUint64", "sync/atomic.StoreUint64", "internal/synctest.Disassociate[sync.WaitGroup]", "sync.runtime_Semrelease", "(*sync.WaitGroup).Done", "(*sync.WaitGroup).Wait", "internal/race.Acquire", "internal/synctest.IsAssociated[sync.WaitGroup]", "sync/atomic.CompareAndSwapUint64", "internal/race.Write", "sync.runtime_SemacquireWaitGroup"], unfollowed := true, recurses := true, leaving := true, apart := false }
def FnPlanDoSaid : Prop := fnPlanDoRow.holds Try.pinned (OpenSpec.ofChange fnPlanDoSpec)

/-- ITS FALSE NEIGHBOUR: 'it returns false'. Refute it at one input. -/
def fnPlanDoWrong : ChangeSpec := { name := "fnPlanDo", fn := fun _ => fun
  | [d1, d2] => { results := [.lit (.bool false)], args := [d1, d2] }
  | _ => none }
def FnPlanDoWrongFalsely : Prop := fnPlanDoRow.holds Try.pinned (OpenSpec.ofChange fnPlanDoWrong)

/-- 'laws.FnPlanNot': WHATEVER THE INPUT: true; the input reads as it did. -/
def fnPlanNotSpec : ChangeSpec := { name := "fnPlanNot", fn := fun _ => fun
  | [d] => { results := [.lit (.bool true)], args := [d] }
  | _ => none }
def fnPlanNotRow : OpenClaim := { program := "ytbpkfcaokbidnab", sum := "7b653b92948617007ce3c41dd802766b703d72f72c648b2ac65cf6df6fda5ec5", func := "loop.example/keelson/laws.FnPlanNot", spec := "fnPlanNot", inPlace := ["(*sync.WaitGroup).Add", "internal/race.ReleaseMerge", "internal/race.Disable", "internal/race.Enable", "internal/synctest.IsInBubble", "internal/synctest.Associate[sync.WaitGroup]", "sync.fatal", "sync/atomic.OrUint64", "sync/atomic.AddUint64", "internal/race.Read", "sync/atomic.LoadUint64", "sync/atomic.StoreUint64", "internal/synctest.Disassociate[sync.WaitGroup]", "sync.runtime_Semrelease", "(*sync.WaitGroup).Done", "(*sync.WaitGroup).Wait", "internal/race.Acquire", "internal/synctest.IsAssociated[sync.WaitGroup]", "sync/atomic.CompareAndSwapUint64", "internal/race.Write", "sync.runtime_SemacquireWaitGroup"], unfollowed := true, recurses := true, leaving := true, apart := false }
def FnPlanNotSaid : Prop := fnPlanNotRow.holds Try.pinned (OpenSpec.ofChange fnPlanNotSpec)

/-- ITS FALSE NEIGHBOUR: 'it returns false'. Refute it at one input. -/
def fnPlanNotWrong : ChangeSpec := { name := "fnPlanNot", fn := fun _ => fun
  | [d] => { results := [.lit (.bool false)], args := [d] }
  | _ => none }
def FnPlanNotWrongFalsely : Prop := fnPlanNotRow.holds Try.pinned (OpenSpec.ofChange fnPlanNotWrong)

/-- 'laws.FnCodeRow': WHATEVER THE INPUT: true; the input reads as it did. -/
def fnCodeRowSpec : ChangeSpec := { name := "fnCodeRow", fn := fun _ => fun
  | [d] => { results := [.lit (.bool true)], args := [d] }
  | _ => none }
def fnCodeRowRow : OpenClaim := { program := "ytbpkfcaokbidnab", sum := "7b653b92948617007ce3c41dd802766b703d72f72c648b2ac65cf6df6fda5ec5", func := "loop.example/keelson/laws.FnCodeRow", spec := "fnCodeRow", apart := false }
def FnCodeRowSaid : Prop := fnCodeRowRow.holds Try.pinned (OpenSpec.ofChange fnCodeRowSpec)

/-- ITS FALSE NEIGHBOUR: 'it returns false'. Refute it at one input. -/
def fnCodeRowWrong : ChangeSpec := { name := "fnCodeRow", fn := fun _ => fun
  | [d] => { results := [.lit (.bool false)], args := [d] }
  | _ => none }
def FnCodeRowWrongFalsely : Prop := fnCodeRowRow.holds Try.pinned (OpenSpec.ofChange fnCodeRowWrong)

/-- 'laws.FnExactCodeRow': WHATEVER THE INPUT: true; the input reads as it did. -/
def fnExactCodeRowSpec : ChangeSpec := { name := "fnExactCodeRow", fn := fun _ => fun
  | [d1, d2] => { results := [.lit (.bool true)], args := [d1, d2] }
  | _ => none }
def fnExactCodeRowRow : OpenClaim := { program := "ytbpkfcaokbidnab", sum := "7b653b92948617007ce3c41dd802766b703d72f72c648b2ac65cf6df6fda5ec5", func := "loop.example/keelson/laws.FnExactCodeRow", spec := "fnExactCodeRow", apart := false }
def FnExactCodeRowSaid : Prop := fnExactCodeRowRow.holds Try.pinned (OpenSpec.ofChange fnExactCodeRowSpec)

/-- ITS FALSE NEIGHBOUR: 'it returns false'. Refute it at one input. -/
def fnExactCodeRowWrong : ChangeSpec := { name := "fnExactCodeRow", fn := fun _ => fun
  | [d1, d2] => { results := [.lit (.bool false)], args := [d1, d2] }
  | _ => none }
def FnExactCodeRowWrongFalsely : Prop := fnExactCodeRowRow.holds Try.pinned (OpenSpec.ofChange fnExactCodeRowWrong)

/-- 'laws.FnWideAny': WHATEVER THE INPUT: true; the input reads as it did. -/
def fnWideAnySpec : ChangeSpec := { name := "fnWideAny", fn := fun _ => fun
  | [d] => { results := [.lit (.bool true)], args := [d] }
  | _ => none }
def fnWideAnyRow : OpenClaim := { program := "ytbpkfcaokbidnab", sum := "7b653b92948617007ce3c41dd802766b703d72f72c648b2ac65cf6df6fda5ec5", func := "loop.example/keelson/laws.FnWideAny", spec := "fnWideAny", unfollowed := true, recurses := true, leaving := true, apart := false }
def FnWideAnySaid : Prop := fnWideAnyRow.holds Try.pinned (OpenSpec.ofChange fnWideAnySpec)

/-- ITS FALSE NEIGHBOUR: 'it returns false'. Refute it at one input. -/
def fnWideAnyWrong : ChangeSpec := { name := "fnWideAny", fn := fun _ => fun
  | [d] => { results := [.lit (.bool false)], args := [d] }
  | _ => none }
def FnWideAnyWrongFalsely : Prop := fnWideAnyRow.holds Try.pinned (OpenSpec.ofChange fnWideAnyWrong)

/-- 'laws.FnMost': WHATEVER THE INPUT: true; the input reads as it did. -/
def fnMostSpec : ChangeSpec := { name := "fnMost", fn := fun _ => fun
  | [d] => { results := [.lit (.bool true)], args := [d] }
  | _ => none }
def fnMostRow : OpenClaim := { program := "ytbpkfcaokbidnab", sum := "7b653b92948617007ce3c41dd802766b703d72f72c648b2ac65cf6df6fda5ec5", func := "loop.example/keelson/laws.FnMost", spec := "fnMost", unfollowed := true, recurses := true, leaving := true, apart := false }
def FnMostSaid : Prop := fnMostRow.holds Try.pinned (OpenSpec.ofChange fnMostSpec)

/-- ITS FALSE NEIGHBOUR: 'it returns false'. Refute it at one input. -/
def fnMostWrong : ChangeSpec := { name := "fnMost", fn := fun _ => fun
  | [d] => { results := [.lit (.bool false)], args := [d] }
  | _ => none }
def FnMostWrongFalsely : Prop := fnMostRow.holds Try.pinned (OpenSpec.ofChange fnMostWrong)

/-- 'laws.FnBears': WHATEVER THE INPUT: true; the input reads as it did. -/
def fnBearsSpec : ChangeSpec := { name := "fnBears", fn := fun _ => fun
  | [d1, d2] => { results := [.lit (.bool true)], args := [d1, d2] }
  | _ => none }
def fnBearsRow : OpenClaim := { program := "ytbpkfcaokbidnab", sum := "7b653b92948617007ce3c41dd802766b703d72f72c648b2ac65cf6df6fda5ec5", func := "loop.example/keelson/laws.FnBears", spec := "fnBears", unfollowed := true, recurses := true, leaving := true, apart := false }
def FnBearsSaid : Prop := fnBearsRow.holds Try.pinned (OpenSpec.ofChange fnBearsSpec)

/-- ITS FALSE NEIGHBOUR: 'it returns false'. Refute it at one input. -/
def fnBearsWrong : ChangeSpec := { name := "fnBears", fn := fun _ => fun
  | [d1, d2] => { results := [.lit (.bool false)], args := [d1, d2] }
  | _ => none }
def FnBearsWrongFalsely : Prop := fnBearsRow.holds Try.pinned (OpenSpec.ofChange fnBearsWrong)

/-- 'laws.FnFits': WHATEVER THE INPUT: true; the input reads as it did. -/
def fnFitsSpec : ChangeSpec := { name := "fnFits", fn := fun _ => fun
  | [d1, d2] => { results := [.lit (.bool true)], args := [d1, d2] }
  | _ => none }
def fnFitsRow : OpenClaim := { program := "ytbpkfcaokbidnab", sum := "7b653b92948617007ce3c41dd802766b703d72f72c648b2ac65cf6df6fda5ec5", func := "loop.example/keelson/laws.FnFits", spec := "fnFits", unfollowed := true, recurses := true, leaving := true, apart := false }
def FnFitsSaid : Prop := fnFitsRow.holds Try.pinned (OpenSpec.ofChange fnFitsSpec)

/-- ITS FALSE NEIGHBOUR: 'it returns false'. Refute it at one input. -/
def fnFitsWrong : ChangeSpec := { name := "fnFits", fn := fun _ => fun
  | [d1, d2] => { results := [.lit (.bool false)], args := [d1, d2] }
  | _ => none }
def FnFitsWrongFalsely : Prop := fnFitsRow.holds Try.pinned (OpenSpec.ofChange fnFitsWrong)

/-- 'laws.FnExactCodeBears': WHATEVER THE INPUT: true; the input reads as it did. -/
def fnExactCodeBearsSpec : ChangeSpec := { name := "fnExactCodeBears", fn := fun _ => fun
  | [d1, d2] => { results := [.lit (.bool true)], args := [d1, d2] }
  | _ => none }
def fnExactCodeBearsRow : OpenClaim := { program := "ytbpkfcaokbidnab", sum := "7b653b92948617007ce3c41dd802766b703d72f72c648b2ac65cf6df6fda5ec5", func := "loop.example/keelson/laws.FnExactCodeBears", spec := "fnExactCodeBears", unfollowed := true, recurses := true, leaving := true, apart := false }
def FnExactCodeBearsSaid : Prop := fnExactCodeBearsRow.holds Try.pinned (OpenSpec.ofChange fnExactCodeBearsSpec)

/-- ITS FALSE NEIGHBOUR: 'it returns false'. Refute it at one input. -/
def fnExactCodeBearsWrong : ChangeSpec := { name := "fnExactCodeBears", fn := fun _ => fun
  | [d1, d2] => { results := [.lit (.bool false)], args := [d1, d2] }
  | _ => none }
def FnExactCodeBearsWrongFalsely : Prop := fnExactCodeBearsRow.holds Try.pinned (OpenSpec.ofChange fnExactCodeBearsWrong)

/-- 'laws.FnExactCodeMost': WHATEVER THE INPUT: true; the input reads as it did. -/
def fnExactCodeMostSpec : ChangeSpec := { name := "fnExactCodeMost", fn := fun _ => fun
  | [d] => { results := [.lit (.bool true)], args := [d] }
  | _ => none }
def fnExactCodeMostRow : OpenClaim := { program := "ytbpkfcaokbidnab", sum := "7b653b92948617007ce3c41dd802766b703d72f72c648b2ac65cf6df6fda5ec5", func := "loop.example/keelson/laws.FnExactCodeMost", spec := "fnExactCodeMost", unfollowed := true, recurses := true, leaving := true, apart := false }
def FnExactCodeMostSaid : Prop := fnExactCodeMostRow.holds Try.pinned (OpenSpec.ofChange fnExactCodeMostSpec)

/-- ITS FALSE NEIGHBOUR: 'it returns false'. Refute it at one input. -/
def fnExactCodeMostWrong : ChangeSpec := { name := "fnExactCodeMost", fn := fun _ => fun
  | [d] => { results := [.lit (.bool false)], args := [d] }
  | _ => none }
def FnExactCodeMostWrongFalsely : Prop := fnExactCodeMostRow.holds Try.pinned (OpenSpec.ofChange fnExactCodeMostWrong)

/-- 'laws.FnExactCodeFits': WHATEVER THE INPUT: true; the input reads as it did. -/
def fnExactCodeFitsSpec : ChangeSpec := { name := "fnExactCodeFits", fn := fun _ => fun
  | [d1, d2, d3] => { results := [.lit (.bool true)], args := [d1, d2, d3] }
  | _ => none }
def fnExactCodeFitsRow : OpenClaim := { program := "ytbpkfcaokbidnab", sum := "7b653b92948617007ce3c41dd802766b703d72f72c648b2ac65cf6df6fda5ec5", func := "loop.example/keelson/laws.FnExactCodeFits", spec := "fnExactCodeFits", unfollowed := true, recurses := true, leaving := true, apart := false }
def FnExactCodeFitsSaid : Prop := fnExactCodeFitsRow.holds Try.pinned (OpenSpec.ofChange fnExactCodeFitsSpec)

/-- ITS FALSE NEIGHBOUR: 'it returns false'. Refute it at one input. -/
def fnExactCodeFitsWrong : ChangeSpec := { name := "fnExactCodeFits", fn := fun _ => fun
  | [d1, d2, d3] => { results := [.lit (.bool false)], args := [d1, d2, d3] }
  | _ => none }
def FnExactCodeFitsWrongFalsely : Prop := fnExactCodeFitsRow.holds Try.pinned (OpenSpec.ofChange fnExactCodeFitsWrong)

/- THE SECOND FORM. 'bulk': how many values and letters a reading holds, each counted each time it is reached (what is shared counts as often as it is met; a slice's spare places count too). A statement '..UptoSaid' is the law's where the arguments, and the package variables that the reading takes, are together of bulk at most 1048576: NARROWER than '..Said'. Prove '..Said' where nothing that the law and all that it calls make is longer than what came in: it says more and counts as full. Else prove '..UptoSaid'. A law counts once. -/
mutual
def uptoBulk {H : Type} : DataW H → Nat
  | .lit (.string bytes) => bytes.length + 1
  | .lit _ => 1
  | .nil => 1
  | .ptr d => uptoBulk d + 1
  | .slice elems spare => uptoBulkAll elems + uptoBulkAll spare + 1
  | .agg parts => uptoBulkAll parts + 1
  | .iface _ d => uptoBulk d + 1
  | .map entries => uptoBulkEntries entries + 1
  | .held _ => 1
def uptoBulkAll {H : Type} : List (DataW H) → Nat
  | [] => 0
  | d :: r => uptoBulk d + uptoBulkAll r
def uptoBulkEntries {H : Type} : List (Lit × DataW H) → Nat
  | [] => 0
  | x :: r => uptoBulkEntry x + uptoBulkEntries r
def uptoBulkEntry {H : Type} : Lit × DataW H → Nat
  | (.string bytes, d) => bytes.length + uptoBulk d + 1
  | (_, d) => uptoBulk d + 1
 end
def uptoSmall : (H : Type) → List (DataW H) → Bool := fun _ ds => decide (uptoBulkAll ds ≤ 1048576)
def OpenSpec.upto (s : _root_.Go.ChangeSpec) : _root_.Go.OpenSpec := { _root_.Go.OpenSpec.ofChange s with cond := some uptoSmall }

/-- 'laws.FnExactPlanAll', WHERE WHAT IT READS IS OF BULK AT MOST 1048576: true; the input reads as it did. -/
def fnExactPlanAllUptoRow : OpenClaim := { program := "ytbpkfcaokbidnab", sum := "7b653b92948617007ce3c41dd802766b703d72f72c648b2ac65cf6df6fda5ec5", func := "loop.example/keelson/laws.FnExactPlanAll", spec := "fnExactPlanAll", unfollowed := true, recurses := true, leaving := true, apart := false, narrowed := true }
def FnExactPlanAllUptoSaid : Prop := fnExactPlanAllUptoRow.holds Try.pinned (OpenSpec.upto fnExactPlanAllSpec)

/-- 'laws.FnPlanDo', WHERE WHAT IT READS IS OF BULK AT MOST 1048576: true; the input reads as it did. -/
def fnPlanDoUptoRow : OpenClaim := { program := "ytbpkfcaokbidnab", sum := "7b653b92948617007ce3c41dd802766b703d72f72c648b2ac65cf6df6fda5ec5", func := "loop.example/keelson/laws.FnPlanDo", spec := "fnPlanDo", inPlace := ["(*sync.WaitGroup).Add", "internal/race.ReleaseMerge", "internal/race.Disable", "internal/race.Enable", "internal/synctest.IsInBubble", "internal/synctest.Associate[sync.WaitGroup]", "sync.fatal", "sync/atomic.OrUint64", "sync/atomic.AddUint64", "internal/race.Read", "sync/atomic.LoadUint64", "sync/atomic.StoreUint64", "internal/synctest.Disassociate[sync.WaitGroup]", "sync.runtime_Semrelease", "(*sync.WaitGroup).Done", "(*sync.WaitGroup).Wait", "internal/race.Acquire", "internal/synctest.IsAssociated[sync.WaitGroup]", "sync/atomic.CompareAndSwapUint64", "internal/race.Write", "sync.runtime_SemacquireWaitGroup"], unfollowed := true, recurses := true, leaving := true, apart := false, narrowed := true }
def FnPlanDoUptoSaid : Prop := fnPlanDoUptoRow.holds Try.pinned (OpenSpec.upto fnPlanDoSpec)

/-- 'laws.FnPlanNot', WHERE WHAT IT READS IS OF BULK AT MOST 1048576: true; the input reads as it did. -/
def fnPlanNotUptoRow : OpenClaim := { program := "ytbpkfcaokbidnab", sum := "7b653b92948617007ce3c41dd802766b703d72f72c648b2ac65cf6df6fda5ec5", func := "loop.example/keelson/laws.FnPlanNot", spec := "fnPlanNot", inPlace := ["(*sync.WaitGroup).Add", "internal/race.ReleaseMerge", "internal/race.Disable", "internal/race.Enable", "internal/synctest.IsInBubble", "internal/synctest.Associate[sync.WaitGroup]", "sync.fatal", "sync/atomic.OrUint64", "sync/atomic.AddUint64", "internal/race.Read", "sync/atomic.LoadUint64", "sync/atomic.StoreUint64", "internal/synctest.Disassociate[sync.WaitGroup]", "sync.runtime_Semrelease", "(*sync.WaitGroup).Done", "(*sync.WaitGroup).Wait", "internal/race.Acquire", "internal/synctest.IsAssociated[sync.WaitGroup]", "sync/atomic.CompareAndSwapUint64", "internal/race.Write", "sync.runtime_SemacquireWaitGroup"], unfollowed := true, recurses := true, leaving := true, apart := false, narrowed := true }
def FnPlanNotUptoSaid : Prop := fnPlanNotUptoRow.holds Try.pinned (OpenSpec.upto fnPlanNotSpec)

/-- 'laws.FnCodeRow', WHERE WHAT IT READS IS OF BULK AT MOST 1048576: true; the input reads as it did. -/
def fnCodeRowUptoRow : OpenClaim := { program := "ytbpkfcaokbidnab", sum := "7b653b92948617007ce3c41dd802766b703d72f72c648b2ac65cf6df6fda5ec5", func := "loop.example/keelson/laws.FnCodeRow", spec := "fnCodeRow", apart := false, narrowed := true }
def FnCodeRowUptoSaid : Prop := fnCodeRowUptoRow.holds Try.pinned (OpenSpec.upto fnCodeRowSpec)

/-- 'laws.FnExactCodeRow', WHERE WHAT IT READS IS OF BULK AT MOST 1048576: true; the input reads as it did. -/
def fnExactCodeRowUptoRow : OpenClaim := { program := "ytbpkfcaokbidnab", sum := "7b653b92948617007ce3c41dd802766b703d72f72c648b2ac65cf6df6fda5ec5", func := "loop.example/keelson/laws.FnExactCodeRow", spec := "fnExactCodeRow", apart := false, narrowed := true }
def FnExactCodeRowUptoSaid : Prop := fnExactCodeRowUptoRow.holds Try.pinned (OpenSpec.upto fnExactCodeRowSpec)

/-- 'laws.FnWideAny', WHERE WHAT IT READS IS OF BULK AT MOST 1048576: true; the input reads as it did. -/
def fnWideAnyUptoRow : OpenClaim := { program := "ytbpkfcaokbidnab", sum := "7b653b92948617007ce3c41dd802766b703d72f72c648b2ac65cf6df6fda5ec5", func := "loop.example/keelson/laws.FnWideAny", spec := "fnWideAny", unfollowed := true, recurses := true, leaving := true, apart := false, narrowed := true }
def FnWideAnyUptoSaid : Prop := fnWideAnyUptoRow.holds Try.pinned (OpenSpec.upto fnWideAnySpec)

/-- 'laws.FnMost', WHERE WHAT IT READS IS OF BULK AT MOST 1048576: true; the input reads as it did. -/
def fnMostUptoRow : OpenClaim := { program := "ytbpkfcaokbidnab", sum := "7b653b92948617007ce3c41dd802766b703d72f72c648b2ac65cf6df6fda5ec5", func := "loop.example/keelson/laws.FnMost", spec := "fnMost", unfollowed := true, recurses := true, leaving := true, apart := false, narrowed := true }
def FnMostUptoSaid : Prop := fnMostUptoRow.holds Try.pinned (OpenSpec.upto fnMostSpec)

/-- 'laws.FnBears', WHERE WHAT IT READS IS OF BULK AT MOST 1048576: true; the input reads as it did. -/
def fnBearsUptoRow : OpenClaim := { program := "ytbpkfcaokbidnab", sum := "7b653b92948617007ce3c41dd802766b703d72f72c648b2ac65cf6df6fda5ec5", func := "loop.example/keelson/laws.FnBears", spec := "fnBears", unfollowed := true, recurses := true, leaving := true, apart := false, narrowed := true }
def FnBearsUptoSaid : Prop := fnBearsUptoRow.holds Try.pinned (OpenSpec.upto fnBearsSpec)

/-- 'laws.FnFits', WHERE WHAT IT READS IS OF BULK AT MOST 1048576: true; the input reads as it did. -/
def fnFitsUptoRow : OpenClaim := { program := "ytbpkfcaokbidnab", sum := "7b653b92948617007ce3c41dd802766b703d72f72c648b2ac65cf6df6fda5ec5", func := "loop.example/keelson/laws.FnFits", spec := "fnFits", unfollowed := true, recurses := true, leaving := true, apart := false, narrowed := true }
def FnFitsUptoSaid : Prop := fnFitsUptoRow.holds Try.pinned (OpenSpec.upto fnFitsSpec)

/-- 'laws.FnExactCodeBears', WHERE WHAT IT READS IS OF BULK AT MOST 1048576: true; the input reads as it did. -/
def fnExactCodeBearsUptoRow : OpenClaim := { program := "ytbpkfcaokbidnab", sum := "7b653b92948617007ce3c41dd802766b703d72f72c648b2ac65cf6df6fda5ec5", func := "loop.example/keelson/laws.FnExactCodeBears", spec := "fnExactCodeBears", unfollowed := true, recurses := true, leaving := true, apart := false, narrowed := true }
def FnExactCodeBearsUptoSaid : Prop := fnExactCodeBearsUptoRow.holds Try.pinned (OpenSpec.upto fnExactCodeBearsSpec)

/-- 'laws.FnExactCodeMost', WHERE WHAT IT READS IS OF BULK AT MOST 1048576: true; the input reads as it did. -/
def fnExactCodeMostUptoRow : OpenClaim := { program := "ytbpkfcaokbidnab", sum := "7b653b92948617007ce3c41dd802766b703d72f72c648b2ac65cf6df6fda5ec5", func := "loop.example/keelson/laws.FnExactCodeMost", spec := "fnExactCodeMost", unfollowed := true, recurses := true, leaving := true, apart := false, narrowed := true }
def FnExactCodeMostUptoSaid : Prop := fnExactCodeMostUptoRow.holds Try.pinned (OpenSpec.upto fnExactCodeMostSpec)

/-- 'laws.FnExactCodeFits', WHERE WHAT IT READS IS OF BULK AT MOST 1048576: true; the input reads as it did. -/
def fnExactCodeFitsUptoRow : OpenClaim := { program := "ytbpkfcaokbidnab", sum := "7b653b92948617007ce3c41dd802766b703d72f72c648b2ac65cf6df6fda5ec5", func := "loop.example/keelson/laws.FnExactCodeFits", spec := "fnExactCodeFits", unfollowed := true, recurses := true, leaving := true, apart := false, narrowed := true }
def FnExactCodeFitsUptoSaid : Prop := fnExactCodeFitsUptoRow.holds Try.pinned (OpenSpec.upto fnExactCodeFitsSpec)

end Rows
end Go.Proofs.Ytbpkfcaokbidnab
