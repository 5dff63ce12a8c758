/-
  No cell of these rows narrows 'for every input' (looked for: loops, veiled, ifaces, maps, wideKeys, modest, calm, conditions, laid).
  DERIVED. THE GIVEN ROWS OF THIS SEAT. 5 by the template 'for every input the law returns true; each argument reads behind the call as it read before'; 0 by the template 'total and deterministic' (their statements: YtogjgajabdiaaabTotals.lean).
  GIVEN WITH THE SEED: the statements are not yours to turn. If you find one false, say at which input.
  Laid BY PROGRAM, IN A SANDBOX (cutbox-rows.mjs): the forced cells as the released guide's own fill.sh prints them over the translation 6a9f817e4893d410… (all of the seat's roots in one cut). By AI agents, Wed Nov 11 2026. No macro, syntax, notation, axiom, sorry.
-/
import Derived.Test.YtogjgajabdiaaabChecked
import GoSem.Claim
import GoSem.ClaimJoined
import GoSem.ClaimMapViews
import Derived.JoinedTies
import Derived.KernelRfl
namespace Go.Proofs.Ytogjgajabdiaaab
/- THE CELL 'sum', in the pinned program and in every row, IS THE sha256 OF THE DUMP (.gsa) THAT YtogjgajabdiaaabProg.lean LOADS. Nothing in Lean hashes anything: it is a label: what it is worth is what the hold of that sum in a sandbox is worth. -/
noncomputable def Try.pinned : Pinned := { name := "ytogjgajabdiaaab", sum := "6a9f817e4893d410f70e873239711dc094ea7c0d571239af1e5c585e64164ae1", checked := Try.checked }
namespace Rows
def none {H : Type} : Left H := { results := [], args := [] }

/-- 'laws.FnExactSpanRank': WHATEVER THE INPUT: true; the input reads as it did. -/
def fnExactSpanRankSpec : ChangeSpec := { name := "fnExactSpanRank", fn := fun _ => fun
  | [d] => { results := [.lit (.bool true)], args := [d] }
  | _ => none }
def fnExactSpanRankRow : OpenClaim := { program := "ytogjgajabdiaaab", sum := "6a9f817e4893d410f70e873239711dc094ea7c0d571239af1e5c585e64164ae1", func := "loop.example/keelson/laws.FnExactSpanRank", spec := "fnExactSpanRank", unfollowed := true, recurses := true, apart := false }
def FnExactSpanRankSaid : Prop := fnExactSpanRankRow.holds Try.pinned (OpenSpec.ofChange fnExactSpanRankSpec)

/-- ITS FALSE NEIGHBOUR: 'it returns false'. Refute it at one input. -/
def fnExactSpanRankWrong : ChangeSpec := { name := "fnExactSpanRank", fn := fun _ => fun
  | [d] => { results := [.lit (.bool false)], args := [d] }
  | _ => none }
def FnExactSpanRankWrongFalsely : Prop := fnExactSpanRankRow.holds Try.pinned (OpenSpec.ofChange fnExactSpanRankWrong)

/-- 'laws.FnExactSpanHas': WHATEVER THE INPUT: true; the input reads as it did. -/
def fnExactSpanHasSpec : ChangeSpec := { name := "fnExactSpanHas", fn := fun _ => fun
  | [d1, d2] => { results := [.lit (.bool true)], args := [d1, d2] }
  | _ => none }
def fnExactSpanHasRow : OpenClaim := { program := "ytogjgajabdiaaab", sum := "6a9f817e4893d410f70e873239711dc094ea7c0d571239af1e5c585e64164ae1", func := "loop.example/keelson/laws.FnExactSpanHas", spec := "fnExactSpanHas", unfollowed := true, recurses := true, apart := false }
def FnExactSpanHasSaid : Prop := fnExactSpanHasRow.holds Try.pinned (OpenSpec.ofChange fnExactSpanHasSpec)

/-- ITS FALSE NEIGHBOUR: 'it returns false'. Refute it at one input. -/
def fnExactSpanHasWrong : ChangeSpec := { name := "fnExactSpanHas", fn := fun _ => fun
  | [d1, d2] => { results := [.lit (.bool false)], args := [d1, d2] }
  | _ => none }
def FnExactSpanHasWrongFalsely : Prop := fnExactSpanHasRow.holds Try.pinned (OpenSpec.ofChange fnExactSpanHasWrong)

/-- 'laws.FnExactSpanFirst': WHATEVER THE INPUT: true; the input reads as it did. -/
def fnExactSpanFirstSpec : ChangeSpec := { name := "fnExactSpanFirst", fn := fun _ => fun
  | [d] => { results := [.lit (.bool true)], args := [d] }
  | _ => none }
def fnExactSpanFirstRow : OpenClaim := { program := "ytogjgajabdiaaab", sum := "6a9f817e4893d410f70e873239711dc094ea7c0d571239af1e5c585e64164ae1", func := "loop.example/keelson/laws.FnExactSpanFirst", spec := "fnExactSpanFirst", unfollowed := true, recurses := true, apart := false }
def FnExactSpanFirstSaid : Prop := fnExactSpanFirstRow.holds Try.pinned (OpenSpec.ofChange fnExactSpanFirstSpec)

/-- ITS FALSE NEIGHBOUR: 'it returns false'. Refute it at one input. -/
def fnExactSpanFirstWrong : ChangeSpec := { name := "fnExactSpanFirst", fn := fun _ => fun
  | [d] => { results := [.lit (.bool false)], args := [d] }
  | _ => none }
def FnExactSpanFirstWrongFalsely : Prop := fnExactSpanFirstRow.holds Try.pinned (OpenSpec.ofChange fnExactSpanFirstWrong)

/-- 'laws.FnExactSpanBy': WHATEVER THE INPUT: true; the input reads as it did. -/
def fnExactSpanBySpec : ChangeSpec := { name := "fnExactSpanBy", fn := fun _ => fun
  | [d1, d2] => { results := [.lit (.bool true)], args := [d1, d2] }
  | _ => none }
def fnExactSpanByRow : OpenClaim := { program := "ytogjgajabdiaaab", sum := "6a9f817e4893d410f70e873239711dc094ea7c0d571239af1e5c585e64164ae1", func := "loop.example/keelson/laws.FnExactSpanBy", spec := "fnExactSpanBy", unfollowed := true, recurses := true, apart := false }
def FnExactSpanBySaid : Prop := fnExactSpanByRow.holds Try.pinned (OpenSpec.ofChange fnExactSpanBySpec)

/-- ITS FALSE NEIGHBOUR: 'it returns false'. Refute it at one input. -/
def fnExactSpanByWrong : ChangeSpec := { name := "fnExactSpanBy", fn := fun _ => fun
  | [d1, d2] => { results := [.lit (.bool false)], args := [d1, d2] }
  | _ => none }
def FnExactSpanByWrongFalsely : Prop := fnExactSpanByRow.holds Try.pinned (OpenSpec.ofChange fnExactSpanByWrong)

/-- 'laws.FnExactSpanSame': WHATEVER THE INPUT: true; the input reads as it did. -/
def fnExactSpanSameSpec : ChangeSpec := { name := "fnExactSpanSame", fn := fun _ => fun
  | [d1, d2] => { results := [.lit (.bool true)], args := [d1, d2] }
  | _ => none }
def fnExactSpanSameRow : OpenClaim := { program := "ytogjgajabdiaaab", sum := "6a9f817e4893d410f70e873239711dc094ea7c0d571239af1e5c585e64164ae1", func := "loop.example/keelson/laws.FnExactSpanSame", spec := "fnExactSpanSame", unfollowed := true, recurses := true, apart := false }
def FnExactSpanSameSaid : Prop := fnExactSpanSameRow.holds Try.pinned (OpenSpec.ofChange fnExactSpanSameSpec)

/-- ITS FALSE NEIGHBOUR: 'it returns false'. Refute it at one input. -/
def fnExactSpanSameWrong : ChangeSpec := { name := "fnExactSpanSame", fn := fun _ => fun
  | [d1, d2] => { results := [.lit (.bool false)], args := [d1, d2] }
  | _ => none }
def FnExactSpanSameWrongFalsely : Prop := fnExactSpanSameRow.holds Try.pinned (OpenSpec.ofChange fnExactSpanSameWrong)

/- THE SECOND FORM. 'bulk': how many values and letters a reading holds, each counted each time it is reached (what is shared counts as often as it is met; a slice's spare places count too). A statement '..UptoSaid' is the law's where the arguments, and the package variables that the reading takes, are together of bulk at most 1048576: NARROWER than '..Said'. Prove '..Said' where nothing that the law and all that it calls make is longer than what came in: it says more and counts as full. Else prove '..UptoSaid'. A law counts once. -/
mutual
def uptoBulk {H : Type} : DataW H → Nat
  | .lit (.string bytes) => bytes.length + 1
  | .lit _ => 1
  | .nil => 1
  | .ptr d => uptoBulk d + 1
  | .slice elems spare => uptoBulkAll elems + uptoBulkAll spare + 1
  | .agg parts => uptoBulkAll parts + 1
  | .iface _ d => uptoBulk d + 1
  | .map entries => uptoBulkEntries entries + 1
  | .held _ => 1
def uptoBulkAll {H : Type} : List (DataW H) → Nat
  | [] => 0
  | d :: r => uptoBulk d + uptoBulkAll r
def uptoBulkEntries {H : Type} : List (Lit × DataW H) → Nat
  | [] => 0
  | x :: r => uptoBulkEntry x + uptoBulkEntries r
def uptoBulkEntry {H : Type} : Lit × DataW H → Nat
  | (.string bytes, d) => bytes.length + uptoBulk d + 1
  | (_, d) => uptoBulk d + 1
 end
def uptoSmall : (H : Type) → List (DataW H) → Bool := fun _ ds => decide (uptoBulkAll ds ≤ 1048576)
def OpenSpec.upto (s : _root_.Go.ChangeSpec) : _root_.Go.OpenSpec := { _root_.Go.OpenSpec.ofChange s with cond := some uptoSmall }

/-- 'laws.FnExactSpanRank', WHERE WHAT IT READS IS OF BULK AT MOST 1048576: true; the input reads as it did. -/
def fnExactSpanRankUptoRow : OpenClaim := { program := "ytogjgajabdiaaab", sum := "6a9f817e4893d410f70e873239711dc094ea7c0d571239af1e5c585e64164ae1", func := "loop.example/keelson/laws.FnExactSpanRank", spec := "fnExactSpanRank", unfollowed := true, recurses := true, apart := false, narrowed := true }
def FnExactSpanRankUptoSaid : Prop := fnExactSpanRankUptoRow.holds Try.pinned (OpenSpec.upto fnExactSpanRankSpec)

/-- 'laws.FnExactSpanHas', WHERE WHAT IT READS IS OF BULK AT MOST 1048576: true; the input reads as it did. -/
def fnExactSpanHasUptoRow : OpenClaim := { program := "ytogjgajabdiaaab", sum := "6a9f817e4893d410f70e873239711dc094ea7c0d571239af1e5c585e64164ae1", func := "loop.example/keelson/laws.FnExactSpanHas", spec := "fnExactSpanHas", unfollowed := true, recurses := true, apart := false, narrowed := true }
def FnExactSpanHasUptoSaid : Prop := fnExactSpanHasUptoRow.holds Try.pinned (OpenSpec.upto fnExactSpanHasSpec)

/-- 'laws.FnExactSpanFirst', WHERE WHAT IT READS IS OF BULK AT MOST 1048576: true; the input reads as it did. -/
def fnExactSpanFirstUptoRow : OpenClaim := { program := "ytogjgajabdiaaab", sum := "6a9f817e4893d410f70e873239711dc094ea7c0d571239af1e5c585e64164ae1", func := "loop.example/keelson/laws.FnExactSpanFirst", spec := "fnExactSpanFirst", unfollowed := true, recurses := true, apart := false, narrowed := true }
def FnExactSpanFirstUptoSaid : Prop := fnExactSpanFirstUptoRow.holds Try.pinned (OpenSpec.upto fnExactSpanFirstSpec)

/-- 'laws.FnExactSpanBy', WHERE WHAT IT READS IS OF BULK AT MOST 1048576: true; the input reads as it did. -/
def fnExactSpanByUptoRow : OpenClaim := { program := "ytogjgajabdiaaab", sum := "6a9f817e4893d410f70e873239711dc094ea7c0d571239af1e5c585e64164ae1", func := "loop.example/keelson/laws.FnExactSpanBy", spec := "fnExactSpanBy", unfollowed := true, recurses := true, apart := false, narrowed := true }
def FnExactSpanByUptoSaid : Prop := fnExactSpanByUptoRow.holds Try.pinned (OpenSpec.upto fnExactSpanBySpec)

/-- 'laws.FnExactSpanSame', WHERE WHAT IT READS IS OF BULK AT MOST 1048576: true; the input reads as it did. -/
def fnExactSpanSameUptoRow : OpenClaim := { program := "ytogjgajabdiaaab", sum := "6a9f817e4893d410f70e873239711dc094ea7c0d571239af1e5c585e64164ae1", func := "loop.example/keelson/laws.FnExactSpanSame", spec := "fnExactSpanSame", unfollowed := true, recurses := true, apart := false, narrowed := true }
def FnExactSpanSameUptoSaid : Prop := fnExactSpanSameUptoRow.holds Try.pinned (OpenSpec.upto fnExactSpanSameSpec)

end Rows
end Go.Proofs.Ytogjgajabdiaaab
