/-
  No cell of these rows narrows 'for every input' (looked for: loops, veiled, ifaces, maps, wideKeys, modest, calm, conditions, laid).
  DERIVED. THE GIVEN ROWS OF THIS SEAT. 12 by the template 'for every input the law returns true; each argument reads behind the call as it read before'; 0 by the template 'total and deterministic' (their statements: YtdbajokjhllekaaTotals.lean).
  GIVEN WITH THE SEED: the statements are not yours to turn. If you find one false, say at which input.
  Laid BY PROGRAM, IN A SANDBOX (cutbox-rows.mjs): the forced cells as the released guide's own fill.sh prints them over the translation dbe728eb0b187a19… (all of the seat's roots in one cut). By AI agents, Wed Nov 11 2026. No macro, syntax, notation, axiom, sorry.
-/
import Derived.Test.YtdbajokjhllekaaChecked
import GoSem.Claim
import GoSem.ClaimJoined
import GoSem.ClaimMapViews
import Derived.JoinedTies
import Derived.KernelRfl
namespace Go.Proofs.Ytdbajokjhllekaa
/- THE CELL 'sum', in the pinned program and in every row, IS THE sha256 OF THE DUMP (.gsa) THAT YtdbajokjhllekaaProg.lean LOADS. Nothing in Lean hashes anything: it is a label: what it is worth is what the hold of that sum in a sandbox is worth. -/
noncomputable def Try.pinned : Pinned := { name := "ytdbajokjhllekaa", sum := "dbe728eb0b187a19bfce4b1f95ed69fbd3bf92c9683a16535fefc90119493f7b", checked := Try.checked }
namespace Rows
def none {H : Type} : Left H := { results := [], args := [] }

/-- 'laws.FnSpanBy': WHATEVER THE INPUT: true; the input reads as it did. -/
def fnSpanBySpec : ChangeSpec := { name := "fnSpanBy", fn := fun _ => fun
  | [d] => { results := [.lit (.bool true)], args := [d] }
  | _ => none }
def fnSpanByRow : OpenClaim := { program := "ytdbajokjhllekaa", sum := "dbe728eb0b187a19bfce4b1f95ed69fbd3bf92c9683a16535fefc90119493f7b", func := "loop.example/keelson/laws.FnSpanBy", spec := "fnSpanBy", unfollowed := true, recurses := true, leaving := true, apart := false }
def FnSpanBySaid : Prop := fnSpanByRow.holds Try.pinned (OpenSpec.ofChange fnSpanBySpec)

/-- ITS FALSE NEIGHBOUR: 'it returns false'. Refute it at one input. -/
def fnSpanByWrong : ChangeSpec := { name := "fnSpanBy", fn := fun _ => fun
  | [d] => { results := [.lit (.bool false)], args := [d] }
  | _ => none }
def FnSpanByWrongFalsely : Prop := fnSpanByRow.holds Try.pinned (OpenSpec.ofChange fnSpanByWrong)

/-- 'laws.FnCodeRow': WHATEVER THE INPUT: true; the input reads as it did. -/
def fnCodeRowSpec : ChangeSpec := { name := "fnCodeRow", fn := fun _ => fun
  | [d] => { results := [.lit (.bool true)], args := [d] }
  | _ => none }
def fnCodeRowRow : OpenClaim := { program := "ytdbajokjhllekaa", sum := "dbe728eb0b187a19bfce4b1f95ed69fbd3bf92c9683a16535fefc90119493f7b", func := "loop.example/keelson/laws.FnCodeRow", spec := "fnCodeRow", apart := false }
def FnCodeRowSaid : Prop := fnCodeRowRow.holds Try.pinned (OpenSpec.ofChange fnCodeRowSpec)

/-- ITS FALSE NEIGHBOUR: 'it returns false'. Refute it at one input. -/
def fnCodeRowWrong : ChangeSpec := { name := "fnCodeRow", fn := fun _ => fun
  | [d] => { results := [.lit (.bool false)], args := [d] }
  | _ => none }
def FnCodeRowWrongFalsely : Prop := fnCodeRowRow.holds Try.pinned (OpenSpec.ofChange fnCodeRowWrong)

/-- 'laws.FnCodeAll': WHATEVER THE INPUT: true; the input reads as it did. -/
def fnCodeAllSpec : ChangeSpec := { name := "fnCodeAll", fn := fun _ => fun
  | [d1, d2] => { results := [.lit (.bool true)], args := [d1, d2] }
  | _ => none }
def fnCodeAllRow : OpenClaim := { program := "ytdbajokjhllekaa", sum := "dbe728eb0b187a19bfce4b1f95ed69fbd3bf92c9683a16535fefc90119493f7b", func := "loop.example/keelson/laws.FnCodeAll", spec := "fnCodeAll", inPlace := ["(*sync.WaitGroup).Add", "internal/race.ReleaseMerge", "internal/race.Disable", "internal/race.Enable", "internal/synctest.IsInBubble", "internal/synctest.Associate[sync.WaitGroup]", "sync.fatal", "sync/atomic.OrUint64", "sync/atomic.AddUint64", "internal/race.Read", "sync/atomic.LoadUint64", "sync/atomic.StoreUint64", "internal/synctest.Disassociate[sync.WaitGroup]", "sync.runtime_Semrelease", "(*sync.WaitGroup).Done", "(*sync.WaitGroup).Wait", "internal/race.Acquire", "internal/synctest.IsAssociated[sync.WaitGroup]", "sync/atomic.CompareAndSwapUint64", "internal/race.Write", "sync.runtime_SemacquireWaitGroup"], unfollowed := true, recurses := true, leaving := true, apart := false }
def FnCodeAllSaid : Prop := fnCodeAllRow.holds Try.pinned (OpenSpec.ofChange fnCodeAllSpec)

/-- ITS FALSE NEIGHBOUR: 'it returns false'. Refute it at one input. -/
def fnCodeAllWrong : ChangeSpec := { name := "fnCodeAll", fn := fun _ => fun
  | [d1, d2] => { results := [.lit (.bool false)], args := [d1, d2] }
  | _ => none }
def FnCodeAllWrongFalsely : Prop := fnCodeAllRow.holds Try.pinned (OpenSpec.ofChange fnCodeAllWrong)

/-- 'laws.FnCodeData': WHATEVER THE INPUT: true; the input reads as it did. -/
def fnCodeDataSpec : ChangeSpec := { name := "fnCodeData", fn := fun _ => fun
  | [d] => { results := [.lit (.bool true)], args := [d] }
  | _ => none }
def fnCodeDataRow : OpenClaim := { program := "ytdbajokjhllekaa", sum := "dbe728eb0b187a19bfce4b1f95ed69fbd3bf92c9683a16535fefc90119493f7b", func := "loop.example/keelson/laws.FnCodeData", spec := "fnCodeData", inPlace := ["(*sync.WaitGroup).Add", "internal/race.ReleaseMerge", "internal/race.Disable", "internal/race.Enable", "internal/synctest.IsInBubble", "internal/synctest.Associate[sync.WaitGroup]", "sync.fatal", "sync/atomic.OrUint64", "sync/atomic.AddUint64", "internal/race.Read", "sync/atomic.LoadUint64", "sync/atomic.StoreUint64", "internal/synctest.Disassociate[sync.WaitGroup]", "sync.runtime_Semrelease", "(*sync.WaitGroup).Done", "(*sync.WaitGroup).Wait", "internal/race.Acquire", "internal/synctest.IsAssociated[sync.WaitGroup]", "sync/atomic.CompareAndSwapUint64", "internal/race.Write", "sync.runtime_SemacquireWaitGroup"], unfollowed := true, recurses := true, leaving := true, apart := false }
def FnCodeDataSaid : Prop := fnCodeDataRow.holds Try.pinned (OpenSpec.ofChange fnCodeDataSpec)

/-- ITS FALSE NEIGHBOUR: 'it returns false'. Refute it at one input. -/
def fnCodeDataWrong : ChangeSpec := { name := "fnCodeData", fn := fun _ => fun
  | [d] => { results := [.lit (.bool false)], args := [d] }
  | _ => none }
def FnCodeDataWrongFalsely : Prop := fnCodeDataRow.holds Try.pinned (OpenSpec.ofChange fnCodeDataWrong)

/-- 'laws.FnBears': WHATEVER THE INPUT: true; the input reads as it did. -/
def fnBearsSpec : ChangeSpec := { name := "fnBears", fn := fun _ => fun
  | [d1, d2] => { results := [.lit (.bool true)], args := [d1, d2] }
  | _ => none }
def fnBearsRow : OpenClaim := { program := "ytdbajokjhllekaa", sum := "dbe728eb0b187a19bfce4b1f95ed69fbd3bf92c9683a16535fefc90119493f7b", func := "loop.example/keelson/laws.FnBears", spec := "fnBears", unfollowed := true, recurses := true, leaving := true, apart := false }
def FnBearsSaid : Prop := fnBearsRow.holds Try.pinned (OpenSpec.ofChange fnBearsSpec)

/-- ITS FALSE NEIGHBOUR: 'it returns false'. Refute it at one input. -/
def fnBearsWrong : ChangeSpec := { name := "fnBears", fn := fun _ => fun
  | [d1, d2] => { results := [.lit (.bool false)], args := [d1, d2] }
  | _ => none }
def FnBearsWrongFalsely : Prop := fnBearsRow.holds Try.pinned (OpenSpec.ofChange fnBearsWrong)

/-- 'laws.FnMost': WHATEVER THE INPUT: true; the input reads as it did. -/
def fnMostSpec : ChangeSpec := { name := "fnMost", fn := fun _ => fun
  | [d] => { results := [.lit (.bool true)], args := [d] }
  | _ => none }
def fnMostRow : OpenClaim := { program := "ytdbajokjhllekaa", sum := "dbe728eb0b187a19bfce4b1f95ed69fbd3bf92c9683a16535fefc90119493f7b", func := "loop.example/keelson/laws.FnMost", spec := "fnMost", unfollowed := true, recurses := true, leaving := true, apart := false }
def FnMostSaid : Prop := fnMostRow.holds Try.pinned (OpenSpec.ofChange fnMostSpec)

/-- ITS FALSE NEIGHBOUR: 'it returns false'. Refute it at one input. -/
def fnMostWrong : ChangeSpec := { name := "fnMost", fn := fun _ => fun
  | [d] => { results := [.lit (.bool false)], args := [d] }
  | _ => none }
def FnMostWrongFalsely : Prop := fnMostRow.holds Try.pinned (OpenSpec.ofChange fnMostWrong)

/-- 'laws.FnWideAny': WHATEVER THE INPUT: true; the input reads as it did. -/
def fnWideAnySpec : ChangeSpec := { name := "fnWideAny", fn := fun _ => fun
  | [d] => { results := [.lit (.bool true)], args := [d] }
  | _ => none }
def fnWideAnyRow : OpenClaim := { program := "ytdbajokjhllekaa", sum := "dbe728eb0b187a19bfce4b1f95ed69fbd3bf92c9683a16535fefc90119493f7b", func := "loop.example/keelson/laws.FnWideAny", spec := "fnWideAny", unfollowed := true, recurses := true, leaving := true, apart := false }
def FnWideAnySaid : Prop := fnWideAnyRow.holds Try.pinned (OpenSpec.ofChange fnWideAnySpec)

/-- ITS FALSE NEIGHBOUR: 'it returns false'. Refute it at one input. -/
def fnWideAnyWrong : ChangeSpec := { name := "fnWideAny", fn := fun _ => fun
  | [d] => { results := [.lit (.bool false)], args := [d] }
  | _ => none }
def FnWideAnyWrongFalsely : Prop := fnWideAnyRow.holds Try.pinned (OpenSpec.ofChange fnWideAnyWrong)

/-- 'laws.FnApart': WHATEVER THE INPUT: true; the input reads as it did. -/
def fnApartSpec : ChangeSpec := { name := "fnApart", fn := fun _ => fun
  | [d] => { results := [.lit (.bool true)], args := [d] }
  | _ => none }
def fnApartRow : OpenClaim := { program := "ytdbajokjhllekaa", sum := "dbe728eb0b187a19bfce4b1f95ed69fbd3bf92c9683a16535fefc90119493f7b", func := "loop.example/keelson/laws.FnApart", spec := "fnApart", inPlace := ["(*sync.WaitGroup).Add", "internal/race.ReleaseMerge", "internal/race.Disable", "internal/race.Enable", "internal/synctest.IsInBubble", "internal/synctest.Associate[sync.WaitGroup]", "sync.fatal", "sync/atomic.OrUint64", "sync/atomic.AddUint64", "internal/race.Read", "sync/atomic.LoadUint64", "sync/atomic.StoreUint64", "internal/synctest.Disassociate[sync.WaitGroup]", "sync.runtime_Semrelease", "(*sync.WaitGroup).Done", "(*sync.WaitGroup).Wait", "internal/race.Acquire", "internal/synctest.IsAssociated[sync.WaitGroup]", "sync/atomic.CompareAndSwapUint64", "internal/race.Write", "sync.runtime_SemacquireWaitGroup"], unfollowed := true, recurses := true, leaving := true, apart := false }
def FnApartSaid : Prop := fnApartRow.holds Try.pinned (OpenSpec.ofChange fnApartSpec)

/-- ITS FALSE NEIGHBOUR: 'it returns false'. Refute it at one input. -/
def fnApartWrong : ChangeSpec := { name := "fnApart", fn := fun _ => fun
  | [d] => { results := [.lit (.bool false)], args := [d] }
  | _ => none }
def FnApartWrongFalsely : Prop := fnApartRow.holds Try.pinned (OpenSpec.ofChange fnApartWrong)

/-- 'laws.FnFits': WHATEVER THE INPUT: true; the input reads as it did. -/
def fnFitsSpec : ChangeSpec := { name := "fnFits", fn := fun _ => fun
  | [d1, d2] => { results := [.lit (.bool true)], args := [d1, d2] }
  | _ => none }
def fnFitsRow : OpenClaim := { program := "ytdbajokjhllekaa", sum := "dbe728eb0b187a19bfce4b1f95ed69fbd3bf92c9683a16535fefc90119493f7b", func := "loop.example/keelson/laws.FnFits", spec := "fnFits", unfollowed := true, recurses := true, leaving := true, apart := false }
def FnFitsSaid : Prop := fnFitsRow.holds Try.pinned (OpenSpec.ofChange fnFitsSpec)

/-- ITS FALSE NEIGHBOUR: 'it returns false'. Refute it at one input. -/
def fnFitsWrong : ChangeSpec := { name := "fnFits", fn := fun _ => fun
  | [d1, d2] => { results := [.lit (.bool false)], args := [d1, d2] }
  | _ => none }
def FnFitsWrongFalsely : Prop := fnFitsRow.holds Try.pinned (OpenSpec.ofChange fnFitsWrong)

/-- 'laws.FnFitsAll': WHATEVER THE INPUT: true; the input reads as it did. -/
def fnFitsAllSpec : ChangeSpec := { name := "fnFitsAll", fn := fun _ => fun
  | [d1, d2] => { results := [.lit (.bool true)], args := [d1, d2] }
  | _ => none }
def fnFitsAllRow : OpenClaim := { program := "ytdbajokjhllekaa", sum := "dbe728eb0b187a19bfce4b1f95ed69fbd3bf92c9683a16535fefc90119493f7b", func := "loop.example/keelson/laws.FnFitsAll", spec := "fnFitsAll", inPlace := ["(*sync.WaitGroup).Add", "internal/race.ReleaseMerge", "internal/race.Disable", "internal/race.Enable", "internal/synctest.IsInBubble", "internal/synctest.Associate[sync.WaitGroup]", "sync.fatal", "sync/atomic.OrUint64", "sync/atomic.AddUint64", "internal/race.Read", "sync/atomic.LoadUint64", "sync/atomic.StoreUint64", "internal/synctest.Disassociate[sync.WaitGroup]", "sync.runtime_Semrelease", "(*sync.WaitGroup).Done", "(*sync.WaitGroup).Wait", "internal/race.Acquire", "internal/synctest.IsAssociated[sync.WaitGroup]", "sync/atomic.CompareAndSwapUint64", "internal/race.Write", "sync.runtime_SemacquireWaitGroup"], unfollowed := true, recurses := true, leaving := true, apart := false }
def FnFitsAllSaid : Prop := fnFitsAllRow.holds Try.pinned (OpenSpec.ofChange fnFitsAllSpec)

/-- ITS FALSE NEIGHBOUR: 'it returns false'. Refute it at one input. -/
def fnFitsAllWrong : ChangeSpec := { name := "fnFitsAll", fn := fun _ => fun
  | [d1, d2] => { results := [.lit (.bool false)], args := [d1, d2] }
  | _ => none }
def FnFitsAllWrongFalsely : Prop := fnFitsAllRow.holds Try.pinned (OpenSpec.ofChange fnFitsAllWrong)

/-- 'laws.FnCodeScale': WHATEVER THE INPUT: true; the input reads as it did. -/
def fnCodeScaleSpec : ChangeSpec := { name := "fnCodeScale", fn := fun _ => fun
  | [d1, d2] => { results := [.lit (.bool true)], args := [d1, d2] }
  | _ => none }
def fnCodeScaleRow : OpenClaim := { program := "ytdbajokjhllekaa", sum := "dbe728eb0b187a19bfce4b1f95ed69fbd3bf92c9683a16535fefc90119493f7b", func := "loop.example/keelson/laws.FnCodeScale", spec := "fnCodeScale", inPlace := ["(*sync.WaitGroup).Add", "internal/race.ReleaseMerge", "internal/race.Disable", "internal/race.Enable", "internal/synctest.IsInBubble", "internal/synctest.Associate[sync.WaitGroup]", "sync.fatal", "sync/atomic.OrUint64", "sync/atomic.AddUint64", "internal/race.Read", "sync/atomic.LoadUint64", "sync/atomic.StoreUint64", "internal/synctest.Disassociate[sync.WaitGroup]", "sync.runtime_Semrelease", "(*sync.WaitGroup).Done", "(*sync.WaitGroup).Wait", "internal/race.Acquire", "internal/synctest.IsAssociated[sync.WaitGroup]", "sync/atomic.CompareAndSwapUint64", "internal/race.Write", "sync.runtime_SemacquireWaitGroup"], unfollowed := true, recurses := true, leaving := true, apart := false }
def FnCodeScaleSaid : Prop := fnCodeScaleRow.holds Try.pinned (OpenSpec.ofChange fnCodeScaleSpec)

/-- ITS FALSE NEIGHBOUR: 'it returns false'. Refute it at one input. -/
def fnCodeScaleWrong : ChangeSpec := { name := "fnCodeScale", fn := fun _ => fun
  | [d1, d2] => { results := [.lit (.bool false)], args := [d1, d2] }
  | _ => none }
def FnCodeScaleWrongFalsely : Prop := fnCodeScaleRow.holds Try.pinned (OpenSpec.ofChange fnCodeScaleWrong)

/-- 'laws.FnExactSpanBy': WHATEVER THE INPUT: true; the input reads as it did. -/
def fnExactSpanBySpec : ChangeSpec := { name := "fnExactSpanBy", fn := fun _ => fun
  | [d1, d2] => { results := [.lit (.bool true)], args := [d1, d2] }
  | _ => none }
def fnExactSpanByRow : OpenClaim := { program := "ytdbajokjhllekaa", sum := "dbe728eb0b187a19bfce4b1f95ed69fbd3bf92c9683a16535fefc90119493f7b", func := "loop.example/keelson/laws.FnExactSpanBy", spec := "fnExactSpanBy", unfollowed := true, recurses := true, leaving := true, apart := false }
def FnExactSpanBySaid : Prop := fnExactSpanByRow.holds Try.pinned (OpenSpec.ofChange fnExactSpanBySpec)

/-- ITS FALSE NEIGHBOUR: 'it returns false'. Refute it at one input. -/
def fnExactSpanByWrong : ChangeSpec := { name := "fnExactSpanBy", fn := fun _ => fun
  | [d1, d2] => { results := [.lit (.bool false)], args := [d1, d2] }
  | _ => none }
def FnExactSpanByWrongFalsely : Prop := fnExactSpanByRow.holds Try.pinned (OpenSpec.ofChange fnExactSpanByWrong)

/- THE SECOND FORM. 'bulk': how many values and letters a reading holds, each counted each time it is reached (what is shared counts as often as it is met; a slice's spare places count too). A statement '..UptoSaid' is the law's where the arguments, and the package variables that the reading takes, are together of bulk at most 1048576: NARROWER than '..Said'. Prove '..Said' where nothing that the law and all that it calls make is longer than what came in: it says more and counts as full. Else prove '..UptoSaid'. A law counts once. -/
mutual
def uptoBulk {H : Type} : DataW H → Nat
  | .lit (.string bytes) => bytes.length + 1
  | .lit _ => 1
  | .nil => 1
  | .ptr d => uptoBulk d + 1
  | .slice elems spare => uptoBulkAll elems + uptoBulkAll spare + 1
  | .agg parts => uptoBulkAll parts + 1
  | .iface _ d => uptoBulk d + 1
  | .map entries => uptoBulkEntries entries + 1
  | .held _ => 1
def uptoBulkAll {H : Type} : List (DataW H) → Nat
  | [] => 0
  | d :: r => uptoBulk d + uptoBulkAll r
def uptoBulkEntries {H : Type} : List (Lit × DataW H) → Nat
  | [] => 0
  | x :: r => uptoBulkEntry x + uptoBulkEntries r
def uptoBulkEntry {H : Type} : Lit × DataW H → Nat
  | (.string bytes, d) => bytes.length + uptoBulk d + 1
  | (_, d) => uptoBulk d + 1
 end
def uptoSmall : (H : Type) → List (DataW H) → Bool := fun _ ds => decide (uptoBulkAll ds ≤ 1048576)
def OpenSpec.upto (s : _root_.Go.ChangeSpec) : _root_.Go.OpenSpec := { _root_.Go.OpenSpec.ofChange s with cond := some uptoSmall }

/-- 'laws.FnSpanBy', WHERE WHAT IT READS IS OF BULK AT MOST 1048576: true; the input reads as it did. -/
def fnSpanByUptoRow : OpenClaim := { program := "ytdbajokjhllekaa", sum := "dbe728eb0b187a19bfce4b1f95ed69fbd3bf92c9683a16535fefc90119493f7b", func := "loop.example/keelson/laws.FnSpanBy", spec := "fnSpanBy", unfollowed := true, recurses := true, leaving := true, apart := false, narrowed := true }
def FnSpanByUptoSaid : Prop := fnSpanByUptoRow.holds Try.pinned (OpenSpec.upto fnSpanBySpec)

/-- 'laws.FnCodeRow', WHERE WHAT IT READS IS OF BULK AT MOST 1048576: true; the input reads as it did. -/
def fnCodeRowUptoRow : OpenClaim := { program := "ytdbajokjhllekaa", sum := "dbe728eb0b187a19bfce4b1f95ed69fbd3bf92c9683a16535fefc90119493f7b", func := "loop.example/keelson/laws.FnCodeRow", spec := "fnCodeRow", apart := false, narrowed := true }
def FnCodeRowUptoSaid : Prop := fnCodeRowUptoRow.holds Try.pinned (OpenSpec.upto fnCodeRowSpec)

/-- 'laws.FnCodeAll', WHERE WHAT IT READS IS OF BULK AT MOST 1048576: true; the input reads as it did. -/
def fnCodeAllUptoRow : OpenClaim := { program := "ytdbajokjhllekaa", sum := "dbe728eb0b187a19bfce4b1f95ed69fbd3bf92c9683a16535fefc90119493f7b", func := "loop.example/keelson/laws.FnCodeAll", spec := "fnCodeAll", inPlace := ["(*sync.WaitGroup).Add", "internal/race.ReleaseMerge", "internal/race.Disable", "internal/race.Enable", "internal/synctest.IsInBubble", "internal/synctest.Associate[sync.WaitGroup]", "sync.fatal", "sync/atomic.OrUint64", "sync/atomic.AddUint64", "internal/race.Read", "sync/atomic.LoadUint64", "sync/atomic.StoreUint64", "internal/synctest.Disassociate[sync.WaitGroup]", "sync.runtime_Semrelease", "(*sync.WaitGroup).Done", "(*sync.WaitGroup).Wait", "internal/race.Acquire", "internal/synctest.IsAssociated[sync.WaitGroup]", "sync/atomic.CompareAndSwapUint64", "internal/race.Write", "sync.runtime_SemacquireWaitGroup"], unfollowed := true, recurses := true, leaving := true, apart := false, narrowed := true }
def FnCodeAllUptoSaid : Prop := fnCodeAllUptoRow.holds Try.pinned (OpenSpec.upto fnCodeAllSpec)

/-- 'laws.FnCodeData', WHERE WHAT IT READS IS OF BULK AT MOST 1048576: true; the input reads as it did. -/
def fnCodeDataUptoRow : OpenClaim := { program := "ytdbajokjhllekaa", sum := "dbe728eb0b187a19bfce4b1f95ed69fbd3bf92c9683a16535fefc90119493f7b", func := "loop.example/keelson/laws.FnCodeData", spec := "fnCodeData", inPlace := ["(*sync.WaitGroup).Add", "internal/race.ReleaseMerge", "internal/race.Disable", "internal/race.Enable", "internal/synctest.IsInBubble", "internal/synctest.Associate[sync.WaitGroup]", "sync.fatal", "sync/atomic.OrUint64", "sync/atomic.AddUint64", "internal/race.Read", "sync/atomic.LoadUint64", "sync/atomic.StoreUint64", "internal/synctest.Disassociate[sync.WaitGroup]", "sync.runtime_Semrelease", "(*sync.WaitGroup).Done", "(*sync.WaitGroup).Wait", "internal/race.Acquire", "internal/synctest.IsAssociated[sync.WaitGroup]", "sync/atomic.CompareAndSwapUint64", "internal/race.Write", "sync.runtime_SemacquireWaitGroup"], unfollowed := true, recurses := true, leaving := true, apart := false, narrowed := true }
def FnCodeDataUptoSaid : Prop := fnCodeDataUptoRow.holds Try.pinned (OpenSpec.upto fnCodeDataSpec)

/-- 'laws.FnBears', WHERE WHAT IT READS IS OF BULK AT MOST 1048576: true; the input reads as it did. -/
def fnBearsUptoRow : OpenClaim := { program := "ytdbajokjhllekaa", sum := "dbe728eb0b187a19bfce4b1f95ed69fbd3bf92c9683a16535fefc90119493f7b", func := "loop.example/keelson/laws.FnBears", spec := "fnBears", unfollowed := true, recurses := true, leaving := true, apart := false, narrowed := true }
def FnBearsUptoSaid : Prop := fnBearsUptoRow.holds Try.pinned (OpenSpec.upto fnBearsSpec)

/-- 'laws.FnMost', WHERE WHAT IT READS IS OF BULK AT MOST 1048576: true; the input reads as it did. -/
def fnMostUptoRow : OpenClaim := { program := "ytdbajokjhllekaa", sum := "dbe728eb0b187a19bfce4b1f95ed69fbd3bf92c9683a16535fefc90119493f7b", func := "loop.example/keelson/laws.FnMost", spec := "fnMost", unfollowed := true, recurses := true, leaving := true, apart := false, narrowed := true }
def FnMostUptoSaid : Prop := fnMostUptoRow.holds Try.pinned (OpenSpec.upto fnMostSpec)

/-- 'laws.FnWideAny', WHERE WHAT IT READS IS OF BULK AT MOST 1048576: true; the input reads as it did. -/
def fnWideAnyUptoRow : OpenClaim := { program := "ytdbajokjhllekaa", sum := "dbe728eb0b187a19bfce4b1f95ed69fbd3bf92c9683a16535fefc90119493f7b", func := "loop.example/keelson/laws.FnWideAny", spec := "fnWideAny", unfollowed := true, recurses := true, leaving := true, apart := false, narrowed := true }
def FnWideAnyUptoSaid : Prop := fnWideAnyUptoRow.holds Try.pinned (OpenSpec.upto fnWideAnySpec)

/-- 'laws.FnApart', WHERE WHAT IT READS IS OF BULK AT MOST 1048576: true; the input reads as it did. -/
def fnApartUptoRow : OpenClaim := { program := "ytdbajokjhllekaa", sum := "dbe728eb0b187a19bfce4b1f95ed69fbd3bf92c9683a16535fefc90119493f7b", func := "loop.example/keelson/laws.FnApart", spec := "fnApart", inPlace := ["(*sync.WaitGroup).Add", "internal/race.ReleaseMerge", "internal/race.Disable", "internal/race.Enable", "internal/synctest.IsInBubble", "internal/synctest.Associate[sync.WaitGroup]", "sync.fatal", "sync/atomic.OrUint64", "sync/atomic.AddUint64", "internal/race.Read", "sync/atomic.LoadUint64", "sync/atomic.StoreUint64", "internal/synctest.Disassociate[sync.WaitGroup]", "sync.runtime_Semrelease", "(*sync.WaitGroup).Done", "(*sync.WaitGroup).Wait", "internal/race.Acquire", "internal/synctest.IsAssociated[sync.WaitGroup]", "sync/atomic.CompareAndSwapUint64", "internal/race.Write", "sync.runtime_SemacquireWaitGroup"], unfollowed := true, recurses := true, leaving := true, apart := false, narrowed := true }
def FnApartUptoSaid : Prop := fnApartUptoRow.holds Try.pinned (OpenSpec.upto fnApartSpec)

/-- 'laws.FnFits', WHERE WHAT IT READS IS OF BULK AT MOST 1048576: true; the input reads as it did. -/
def fnFitsUptoRow : OpenClaim := { program := "ytdbajokjhllekaa", sum := "dbe728eb0b187a19bfce4b1f95ed69fbd3bf92c9683a16535fefc90119493f7b", func := "loop.example/keelson/laws.FnFits", spec := "fnFits", unfollowed := true, recurses := true, leaving := true, apart := false, narrowed := true }
def FnFitsUptoSaid : Prop := fnFitsUptoRow.holds Try.pinned (OpenSpec.upto fnFitsSpec)

/-- 'laws.FnFitsAll', WHERE WHAT IT READS IS OF BULK AT MOST 1048576: true; the input reads as it did. -/
def fnFitsAllUptoRow : OpenClaim := { program := "ytdbajokjhllekaa", sum := "dbe728eb0b187a19bfce4b1f95ed69fbd3bf92c9683a16535fefc90119493f7b", func := "loop.example/keelson/laws.FnFitsAll", spec := "fnFitsAll", inPlace := ["(*sync.WaitGroup).Add", "internal/race.ReleaseMerge", "internal/race.Disable", "internal/race.Enable", "internal/synctest.IsInBubble", "internal/synctest.Associate[sync.WaitGroup]", "sync.fatal", "sync/atomic.OrUint64", "sync/atomic.AddUint64", "internal/race.Read", "sync/atomic.LoadUint64", "sync/atomic.StoreUint64", "internal/synctest.Disassociate[sync.WaitGroup]", "sync.runtime_Semrelease", "(*sync.WaitGroup).Done", "(*sync.WaitGroup).Wait", "internal/race.Acquire", "internal/synctest.IsAssociated[sync.WaitGroup]", "sync/atomic.CompareAndSwapUint64", "internal/race.Write", "sync.runtime_SemacquireWaitGroup"], unfollowed := true, recurses := true, leaving := true, apart := false, narrowed := true }
def FnFitsAllUptoSaid : Prop := fnFitsAllUptoRow.holds Try.pinned (OpenSpec.upto fnFitsAllSpec)

/-- 'laws.FnCodeScale', WHERE WHAT IT READS IS OF BULK AT MOST 1048576: true; the input reads as it did. -/
def fnCodeScaleUptoRow : OpenClaim := { program := "ytdbajokjhllekaa", sum := "dbe728eb0b187a19bfce4b1f95ed69fbd3bf92c9683a16535fefc90119493f7b", func := "loop.example/keelson/laws.FnCodeScale", spec := "fnCodeScale", inPlace := ["(*sync.WaitGroup).Add", "internal/race.ReleaseMerge", "internal/race.Disable", "internal/race.Enable", "internal/synctest.IsInBubble", "internal/synctest.Associate[sync.WaitGroup]", "sync.fatal", "sync/atomic.OrUint64", "sync/atomic.AddUint64", "internal/race.Read", "sync/atomic.LoadUint64", "sync/atomic.StoreUint64", "internal/synctest.Disassociate[sync.WaitGroup]", "sync.runtime_Semrelease", "(*sync.WaitGroup).Done", "(*sync.WaitGroup).Wait", "internal/race.Acquire", "internal/synctest.IsAssociated[sync.WaitGroup]", "sync/atomic.CompareAndSwapUint64", "internal/race.Write", "sync.runtime_SemacquireWaitGroup"], unfollowed := true, recurses := true, leaving := true, apart := false, narrowed := true }
def FnCodeScaleUptoSaid : Prop := fnCodeScaleUptoRow.holds Try.pinned (OpenSpec.upto fnCodeScaleSpec)

/-- 'laws.FnExactSpanBy', WHERE WHAT IT READS IS OF BULK AT MOST 1048576: true; the input reads as it did. -/
def fnExactSpanByUptoRow : OpenClaim := { program := "ytdbajokjhllekaa", sum := "dbe728eb0b187a19bfce4b1f95ed69fbd3bf92c9683a16535fefc90119493f7b", func := "loop.example/keelson/laws.FnExactSpanBy", spec := "fnExactSpanBy", unfollowed := true, recurses := true, leaving := true, apart := false, narrowed := true }
def FnExactSpanByUptoSaid : Prop := fnExactSpanByUptoRow.holds Try.pinned (OpenSpec.upto fnExactSpanBySpec)

end Rows
end Go.Proofs.Ytdbajokjhllekaa
