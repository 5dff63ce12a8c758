/-
  No cell of these rows narrows 'for every input' (looked for: loops, veiled, ifaces, maps, wideKeys, modest, calm, conditions, laid).
  DERIVED. THE GIVEN ROWS OF THIS SEAT. 6 by the template 'for every input the law returns true; each argument reads behind the call as it read before'; 0 by the template 'total and deterministic' (their statements: YtdbajokjhllekabTotals.lean).
  GIVEN WITH THE SEED: the statements are not yours to turn. If you find one false, say at which input.
  Laid BY PROGRAM, IN A SANDBOX (cutbox-rows.mjs): the forced cells as the released guide's own fill.sh prints them over the translation eb89e4578dd0c897… (all of the seat's roots in one cut). By AI agents, Wed Nov 11 2026. No macro, syntax, notation, axiom, sorry.
-/
import Derived.Test.YtdbajokjhllekabChecked
import GoSem.Claim
import GoSem.ClaimJoined
import GoSem.ClaimMapViews
import Derived.JoinedTies
import Derived.KernelRfl
namespace Go.Proofs.Ytdbajokjhllekab
/- THE CELL 'sum', in the pinned program and in every row, IS THE sha256 OF THE DUMP (.gsa) THAT YtdbajokjhllekabProg.lean LOADS. Nothing in Lean hashes anything: it is a label: what it is worth is what the hold of that sum in a sandbox is worth. -/
noncomputable def Try.pinned : Pinned := { name := "ytdbajokjhllekab", sum := "eb89e4578dd0c8979db6d37641529880c9c6dd45e2191864f5223d59b94f3dc5", checked := Try.checked }
namespace Rows
def none {H : Type} : Left H := { results := [], args := [] }

/-- 'laws.FnExactCodeRow': WHATEVER THE INPUT: true; the input reads as it did. -/
def fnExactCodeRowSpec : ChangeSpec := { name := "fnExactCodeRow", fn := fun _ => fun
  | [d1, d2] => { results := [.lit (.bool true)], args := [d1, d2] }
  | _ => none }
def fnExactCodeRowRow : OpenClaim := { program := "ytdbajokjhllekab", sum := "eb89e4578dd0c8979db6d37641529880c9c6dd45e2191864f5223d59b94f3dc5", func := "loop.example/keelson/laws.FnExactCodeRow", spec := "fnExactCodeRow", apart := false }
def FnExactCodeRowSaid : Prop := fnExactCodeRowRow.holds Try.pinned (OpenSpec.ofChange fnExactCodeRowSpec)

/-- ITS FALSE NEIGHBOUR: 'it returns false'. Refute it at one input. -/
def fnExactCodeRowWrong : ChangeSpec := { name := "fnExactCodeRow", fn := fun _ => fun
  | [d1, d2] => { results := [.lit (.bool false)], args := [d1, d2] }
  | _ => none }
def FnExactCodeRowWrongFalsely : Prop := fnExactCodeRowRow.holds Try.pinned (OpenSpec.ofChange fnExactCodeRowWrong)

/-- 'laws.FnExactCodeAll': WHATEVER THE INPUT: true; the input reads as it did. -/
def fnExactCodeAllSpec : ChangeSpec := { name := "fnExactCodeAll", fn := fun _ => fun
  | [d1, d2] => { results := [.lit (.bool true)], args := [d1, d2] }
  | _ => none }
def fnExactCodeAllRow : OpenClaim := { program := "ytdbajokjhllekab", sum := "eb89e4578dd0c8979db6d37641529880c9c6dd45e2191864f5223d59b94f3dc5", func := "loop.example/keelson/laws.FnExactCodeAll", spec := "fnExactCodeAll", inPlace := ["(*sync.WaitGroup).Add", "internal/race.ReleaseMerge", "internal/race.Disable", "internal/race.Enable", "internal/synctest.IsInBubble", "internal/synctest.Associate[sync.WaitGroup]", "sync.fatal", "sync/atomic.OrUint64", "sync/atomic.AddUint64", "internal/race.Read", "sync/atomic.LoadUint64", "sync/atomic.StoreUint64", "internal/synctest.Disassociate[sync.WaitGroup]", "sync.runtime_Semrelease", "(*sync.WaitGroup).Done", "(*sync.WaitGroup).Wait", "internal/race.Acquire", "internal/synctest.IsAssociated[sync.WaitGroup]", "sync/atomic.CompareAndSwapUint64", "internal/race.Write", "sync.runtime_SemacquireWaitGroup"], unfollowed := true, recurses := true, leaving := true, apart := false }
def FnExactCodeAllSaid : Prop := fnExactCodeAllRow.holds Try.pinned (OpenSpec.ofChange fnExactCodeAllSpec)

/-- ITS FALSE NEIGHBOUR: 'it returns false'. Refute it at one input. -/
def fnExactCodeAllWrong : ChangeSpec := { name := "fnExactCodeAll", fn := fun _ => fun
  | [d1, d2] => { results := [.lit (.bool false)], args := [d1, d2] }
  | _ => none }
def FnExactCodeAllWrongFalsely : Prop := fnExactCodeAllRow.holds Try.pinned (OpenSpec.ofChange fnExactCodeAllWrong)

/-- 'laws.FnExactCodeBears': WHATEVER THE INPUT: true; the input reads as it did. -/
def fnExactCodeBearsSpec : ChangeSpec := { name := "fnExactCodeBears", fn := fun _ => fun
  | [d1, d2] => { results := [.lit (.bool true)], args := [d1, d2] }
  | _ => none }
def fnExactCodeBearsRow : OpenClaim := { program := "ytdbajokjhllekab", sum := "eb89e4578dd0c8979db6d37641529880c9c6dd45e2191864f5223d59b94f3dc5", func := "loop.example/keelson/laws.FnExactCodeBears", spec := "fnExactCodeBears", unfollowed := true, recurses := true, leaving := true, apart := false }
def FnExactCodeBearsSaid : Prop := fnExactCodeBearsRow.holds Try.pinned (OpenSpec.ofChange fnExactCodeBearsSpec)

/-- ITS FALSE NEIGHBOUR: 'it returns false'. Refute it at one input. -/
def fnExactCodeBearsWrong : ChangeSpec := { name := "fnExactCodeBears", fn := fun _ => fun
  | [d1, d2] => { results := [.lit (.bool false)], args := [d1, d2] }
  | _ => none }
def FnExactCodeBearsWrongFalsely : Prop := fnExactCodeBearsRow.holds Try.pinned (OpenSpec.ofChange fnExactCodeBearsWrong)

/-- 'laws.FnExactCodeMost': WHATEVER THE INPUT: true; the input reads as it did. -/
def fnExactCodeMostSpec : ChangeSpec := { name := "fnExactCodeMost", fn := fun _ => fun
  | [d] => { results := [.lit (.bool true)], args := [d] }
  | _ => none }
def fnExactCodeMostRow : OpenClaim := { program := "ytdbajokjhllekab", sum := "eb89e4578dd0c8979db6d37641529880c9c6dd45e2191864f5223d59b94f3dc5", func := "loop.example/keelson/laws.FnExactCodeMost", spec := "fnExactCodeMost", unfollowed := true, recurses := true, leaving := true, apart := false }
def FnExactCodeMostSaid : Prop := fnExactCodeMostRow.holds Try.pinned (OpenSpec.ofChange fnExactCodeMostSpec)

/-- ITS FALSE NEIGHBOUR: 'it returns false'. Refute it at one input. -/
def fnExactCodeMostWrong : ChangeSpec := { name := "fnExactCodeMost", fn := fun _ => fun
  | [d] => { results := [.lit (.bool false)], args := [d] }
  | _ => none }
def FnExactCodeMostWrongFalsely : Prop := fnExactCodeMostRow.holds Try.pinned (OpenSpec.ofChange fnExactCodeMostWrong)

/-- 'laws.FnExactCodeApart': WHATEVER THE INPUT: true; the input reads as it did. -/
def fnExactCodeApartSpec : ChangeSpec := { name := "fnExactCodeApart", fn := fun _ => fun
  | [d1, d2, d3] => { results := [.lit (.bool true)], args := [d1, d2, d3] }
  | _ => none }
def fnExactCodeApartRow : OpenClaim := { program := "ytdbajokjhllekab", sum := "eb89e4578dd0c8979db6d37641529880c9c6dd45e2191864f5223d59b94f3dc5", func := "loop.example/keelson/laws.FnExactCodeApart", spec := "fnExactCodeApart", inPlace := ["(*sync.WaitGroup).Add", "internal/race.ReleaseMerge", "internal/race.Disable", "internal/race.Enable", "internal/synctest.IsInBubble", "internal/synctest.Associate[sync.WaitGroup]", "sync.fatal", "sync/atomic.OrUint64", "sync/atomic.AddUint64", "internal/race.Read", "sync/atomic.LoadUint64", "sync/atomic.StoreUint64", "internal/synctest.Disassociate[sync.WaitGroup]", "sync.runtime_Semrelease", "(*sync.WaitGroup).Done", "(*sync.WaitGroup).Wait", "internal/race.Acquire", "internal/synctest.IsAssociated[sync.WaitGroup]", "sync/atomic.CompareAndSwapUint64", "internal/race.Write", "sync.runtime_SemacquireWaitGroup"], unfollowed := true, recurses := true, leaving := true, apart := false }
def FnExactCodeApartSaid : Prop := fnExactCodeApartRow.holds Try.pinned (OpenSpec.ofChange fnExactCodeApartSpec)

/-- ITS FALSE NEIGHBOUR: 'it returns false'. Refute it at one input. -/
def fnExactCodeApartWrong : ChangeSpec := { name := "fnExactCodeApart", fn := fun _ => fun
  | [d1, d2, d3] => { results := [.lit (.bool false)], args := [d1, d2, d3] }
  | _ => none }
def FnExactCodeApartWrongFalsely : Prop := fnExactCodeApartRow.holds Try.pinned (OpenSpec.ofChange fnExactCodeApartWrong)

/-- 'laws.FnExactCodeFits': WHATEVER THE INPUT: true; the input reads as it did. -/
def fnExactCodeFitsSpec : ChangeSpec := { name := "fnExactCodeFits", fn := fun _ => fun
  | [d1, d2, d3] => { results := [.lit (.bool true)], args := [d1, d2, d3] }
  | _ => none }
def fnExactCodeFitsRow : OpenClaim := { program := "ytdbajokjhllekab", sum := "eb89e4578dd0c8979db6d37641529880c9c6dd45e2191864f5223d59b94f3dc5", func := "loop.example/keelson/laws.FnExactCodeFits", spec := "fnExactCodeFits", unfollowed := true, recurses := true, leaving := true, apart := false }
def FnExactCodeFitsSaid : Prop := fnExactCodeFitsRow.holds Try.pinned (OpenSpec.ofChange fnExactCodeFitsSpec)

/-- ITS FALSE NEIGHBOUR: 'it returns false'. Refute it at one input. -/
def fnExactCodeFitsWrong : ChangeSpec := { name := "fnExactCodeFits", fn := fun _ => fun
  | [d1, d2, d3] => { results := [.lit (.bool false)], args := [d1, d2, d3] }
  | _ => none }
def FnExactCodeFitsWrongFalsely : Prop := fnExactCodeFitsRow.holds Try.pinned (OpenSpec.ofChange fnExactCodeFitsWrong)

/- THE SECOND FORM. 'bulk': how many values and letters a reading holds, each counted each time it is reached (what is shared counts as often as it is met; a slice's spare places count too). A statement '..UptoSaid' is the law's where the arguments, and the package variables that the reading takes, are together of bulk at most 1048576: NARROWER than '..Said'. Prove '..Said' where nothing that the law and all that it calls make is longer than what came in: it says more and counts as full. Else prove '..UptoSaid'. A law counts once. -/
mutual
def uptoBulk {H : Type} : DataW H → Nat
  | .lit (.string bytes) => bytes.length + 1
  | .lit _ => 1
  | .nil => 1
  | .ptr d => uptoBulk d + 1
  | .slice elems spare => uptoBulkAll elems + uptoBulkAll spare + 1
  | .agg parts => uptoBulkAll parts + 1
  | .iface _ d => uptoBulk d + 1
  | .map entries => uptoBulkEntries entries + 1
  | .held _ => 1
def uptoBulkAll {H : Type} : List (DataW H) → Nat
  | [] => 0
  | d :: r => uptoBulk d + uptoBulkAll r
def uptoBulkEntries {H : Type} : List (Lit × DataW H) → Nat
  | [] => 0
  | x :: r => uptoBulkEntry x + uptoBulkEntries r
def uptoBulkEntry {H : Type} : Lit × DataW H → Nat
  | (.string bytes, d) => bytes.length + uptoBulk d + 1
  | (_, d) => uptoBulk d + 1
 end
def uptoSmall : (H : Type) → List (DataW H) → Bool := fun _ ds => decide (uptoBulkAll ds ≤ 1048576)
def OpenSpec.upto (s : _root_.Go.ChangeSpec) : _root_.Go.OpenSpec := { _root_.Go.OpenSpec.ofChange s with cond := some uptoSmall }

/-- 'laws.FnExactCodeRow', WHERE WHAT IT READS IS OF BULK AT MOST 1048576: true; the input reads as it did. -/
def fnExactCodeRowUptoRow : OpenClaim := { program := "ytdbajokjhllekab", sum := "eb89e4578dd0c8979db6d37641529880c9c6dd45e2191864f5223d59b94f3dc5", func := "loop.example/keelson/laws.FnExactCodeRow", spec := "fnExactCodeRow", apart := false, narrowed := true }
def FnExactCodeRowUptoSaid : Prop := fnExactCodeRowUptoRow.holds Try.pinned (OpenSpec.upto fnExactCodeRowSpec)

/-- 'laws.FnExactCodeAll', WHERE WHAT IT READS IS OF BULK AT MOST 1048576: true; the input reads as it did. -/
def fnExactCodeAllUptoRow : OpenClaim := { program := "ytdbajokjhllekab", sum := "eb89e4578dd0c8979db6d37641529880c9c6dd45e2191864f5223d59b94f3dc5", func := "loop.example/keelson/laws.FnExactCodeAll", spec := "fnExactCodeAll", inPlace := ["(*sync.WaitGroup).Add", "internal/race.ReleaseMerge", "internal/race.Disable", "internal/race.Enable", "internal/synctest.IsInBubble", "internal/synctest.Associate[sync.WaitGroup]", "sync.fatal", "sync/atomic.OrUint64", "sync/atomic.AddUint64", "internal/race.Read", "sync/atomic.LoadUint64", "sync/atomic.StoreUint64", "internal/synctest.Disassociate[sync.WaitGroup]", "sync.runtime_Semrelease", "(*sync.WaitGroup).Done", "(*sync.WaitGroup).Wait", "internal/race.Acquire", "internal/synctest.IsAssociated[sync.WaitGroup]", "sync/atomic.CompareAndSwapUint64", "internal/race.Write", "sync.runtime_SemacquireWaitGroup"], unfollowed := true, recurses := true, leaving := true, apart := false, narrowed := true }
def FnExactCodeAllUptoSaid : Prop := fnExactCodeAllUptoRow.holds Try.pinned (OpenSpec.upto fnExactCodeAllSpec)

/-- 'laws.FnExactCodeBears', WHERE WHAT IT READS IS OF BULK AT MOST 1048576: true; the input reads as it did. -/
def fnExactCodeBearsUptoRow : OpenClaim := { program := "ytdbajokjhllekab", sum := "eb89e4578dd0c8979db6d37641529880c9c6dd45e2191864f5223d59b94f3dc5", func := "loop.example/keelson/laws.FnExactCodeBears", spec := "fnExactCodeBears", unfollowed := true, recurses := true, leaving := true, apart := false, narrowed := true }
def FnExactCodeBearsUptoSaid : Prop := fnExactCodeBearsUptoRow.holds Try.pinned (OpenSpec.upto fnExactCodeBearsSpec)

/-- 'laws.FnExactCodeMost', WHERE WHAT IT READS IS OF BULK AT MOST 1048576: true; the input reads as it did. -/
def fnExactCodeMostUptoRow : OpenClaim := { program := "ytdbajokjhllekab", sum := "eb89e4578dd0c8979db6d37641529880c9c6dd45e2191864f5223d59b94f3dc5", func := "loop.example/keelson/laws.FnExactCodeMost", spec := "fnExactCodeMost", unfollowed := true, recurses := true, leaving := true, apart := false, narrowed := true }
def FnExactCodeMostUptoSaid : Prop := fnExactCodeMostUptoRow.holds Try.pinned (OpenSpec.upto fnExactCodeMostSpec)

/-- 'laws.FnExactCodeApart', WHERE WHAT IT READS IS OF BULK AT MOST 1048576: true; the input reads as it did. -/
def fnExactCodeApartUptoRow : OpenClaim := { program := "ytdbajokjhllekab", sum := "eb89e4578dd0c8979db6d37641529880c9c6dd45e2191864f5223d59b94f3dc5", func := "loop.example/keelson/laws.FnExactCodeApart", spec := "fnExactCodeApart", inPlace := ["(*sync.WaitGroup).Add", "internal/race.ReleaseMerge", "internal/race.Disable", "internal/race.Enable", "internal/synctest.IsInBubble", "internal/synctest.Associate[sync.WaitGroup]", "sync.fatal", "sync/atomic.OrUint64", "sync/atomic.AddUint64", "internal/race.Read", "sync/atomic.LoadUint64", "sync/atomic.StoreUint64", "internal/synctest.Disassociate[sync.WaitGroup]", "sync.runtime_Semrelease", "(*sync.WaitGroup).Done", "(*sync.WaitGroup).Wait", "internal/race.Acquire", "internal/synctest.IsAssociated[sync.WaitGroup]", "sync/atomic.CompareAndSwapUint64", "internal/race.Write", "sync.runtime_SemacquireWaitGroup"], unfollowed := true, recurses := true, leaving := true, apart := false, narrowed := true }
def FnExactCodeApartUptoSaid : Prop := fnExactCodeApartUptoRow.holds Try.pinned (OpenSpec.upto fnExactCodeApartSpec)

/-- 'laws.FnExactCodeFits', WHERE WHAT IT READS IS OF BULK AT MOST 1048576: true; the input reads as it did. -/
def fnExactCodeFitsUptoRow : OpenClaim := { program := "ytdbajokjhllekab", sum := "eb89e4578dd0c8979db6d37641529880c9c6dd45e2191864f5223d59b94f3dc5", func := "loop.example/keelson/laws.FnExactCodeFits", spec := "fnExactCodeFits", unfollowed := true, recurses := true, leaving := true, apart := false, narrowed := true }
def FnExactCodeFitsUptoSaid : Prop := fnExactCodeFitsUptoRow.holds Try.pinned (OpenSpec.upto fnExactCodeFitsSpec)

end Rows
end Go.Proofs.Ytdbajokjhllekab
