/-
  No cell of these rows narrows 'for every input' (looked for: loops, veiled, ifaces, maps, wideKeys, modest, calm, conditions, laid).
  DERIVED. THE GIVEN ROWS OF THIS SEAT. 9 by the template 'for every input the law returns true; each argument reads behind the call as it read before'; 0 by the template 'total and deterministic' (their statements: YtoflijiinkmjoaaTotals.lean).
  GIVEN WITH THE SEED: the statements are not yours to turn. If you find one false, say at which input.
  Laid BY PROGRAM, IN A SANDBOX (cutbox-rows.mjs): the forced cells as the released guide's own fill.sh prints them over the translation c7eebe4c8f95e894… (all of the seat's roots in one cut). By AI agents, Wed Nov 11 2026. No macro, syntax, notation, axiom, sorry.
-/
import Derived.Test.YtoflijiinkmjoaaChecked
import GoSem.Claim
import GoSem.ClaimJoined
import GoSem.ClaimMapViews
import Derived.JoinedTies
import Derived.KernelRfl
namespace Go.Proofs.Ytoflijiinkmjoaa
/- THE CELL 'sum', in the pinned program and in every row, IS THE sha256 OF THE DUMP (.gsa) THAT YtoflijiinkmjoaaProg.lean LOADS. Nothing in Lean hashes anything: it is a label: what it is worth is what the hold of that sum in a sandbox is worth. -/
noncomputable def Try.pinned : Pinned := { name := "ytoflijiinkmjoaa", sum := "c7eebe4c8f95e89482ebf64f2ca0190a68329c5978eeb9d51c8b918b07c82007", checked := Try.checked }
namespace Rows
def none {H : Type} : Left H := { results := [], args := [] }

/-- 'laws.FnReadOne': WHATEVER THE INPUT: true; the input reads as it did. -/
def fnReadOneSpec : ChangeSpec := { name := "fnReadOne", fn := fun _ => fun
  | [d] => { results := [.lit (.bool true)], args := [d] }
  | _ => none }
def fnReadOneRow : OpenClaim := { program := "ytoflijiinkmjoaa", sum := "c7eebe4c8f95e89482ebf64f2ca0190a68329c5978eeb9d51c8b918b07c82007", func := "loop.example/keelson/laws.FnReadOne", spec := "fnReadOne", unfollowed := true, recurses := true, apart := false }
def FnReadOneSaid : Prop := fnReadOneRow.holds Try.pinned (OpenSpec.ofChange fnReadOneSpec)

/-- ITS FALSE NEIGHBOUR: 'it returns false'. Refute it at one input. -/
def fnReadOneWrong : ChangeSpec := { name := "fnReadOne", fn := fun _ => fun
  | [d] => { results := [.lit (.bool false)], args := [d] }
  | _ => none }
def FnReadOneWrongFalsely : Prop := fnReadOneRow.holds Try.pinned (OpenSpec.ofChange fnReadOneWrong)

/-- 'laws.FnReadNewest': WHATEVER THE INPUT: true; the input reads as it did. -/
def fnReadNewestSpec : ChangeSpec := { name := "fnReadNewest", fn := fun _ => fun
  | [d] => { results := [.lit (.bool true)], args := [d] }
  | _ => none }
def fnReadNewestRow : OpenClaim := { program := "ytoflijiinkmjoaa", sum := "c7eebe4c8f95e89482ebf64f2ca0190a68329c5978eeb9d51c8b918b07c82007", func := "loop.example/keelson/laws.FnReadNewest", spec := "fnReadNewest", unfollowed := true, recurses := true, apart := false }
def FnReadNewestSaid : Prop := fnReadNewestRow.holds Try.pinned (OpenSpec.ofChange fnReadNewestSpec)

/-- ITS FALSE NEIGHBOUR: 'it returns false'. Refute it at one input. -/
def fnReadNewestWrong : ChangeSpec := { name := "fnReadNewest", fn := fun _ => fun
  | [d] => { results := [.lit (.bool false)], args := [d] }
  | _ => none }
def FnReadNewestWrongFalsely : Prop := fnReadNewestRow.holds Try.pinned (OpenSpec.ofChange fnReadNewestWrong)

/-- 'laws.FnLose': WHATEVER THE INPUT: true; the input reads as it did. -/
def fnLoseSpec : ChangeSpec := { name := "fnLose", fn := fun _ => fun
  | [d] => { results := [.lit (.bool true)], args := [d] }
  | _ => none }
def fnLoseRow : OpenClaim := { program := "ytoflijiinkmjoaa", sum := "c7eebe4c8f95e89482ebf64f2ca0190a68329c5978eeb9d51c8b918b07c82007", func := "loop.example/keelson/laws.FnLose", spec := "fnLose", unfollowed := true, recurses := true, apart := false }
def FnLoseSaid : Prop := fnLoseRow.holds Try.pinned (OpenSpec.ofChange fnLoseSpec)

/-- ITS FALSE NEIGHBOUR: 'it returns false'. Refute it at one input. -/
def fnLoseWrong : ChangeSpec := { name := "fnLose", fn := fun _ => fun
  | [d] => { results := [.lit (.bool false)], args := [d] }
  | _ => none }
def FnLoseWrongFalsely : Prop := fnLoseRow.holds Try.pinned (OpenSpec.ofChange fnLoseWrong)

/-- 'laws.FnStripeForm': WHATEVER THE INPUT: true; the input reads as it did. -/
def fnStripeFormSpec : ChangeSpec := { name := "fnStripeForm", fn := fun _ => fun
  | [d1, d2] => { results := [.lit (.bool true)], args := [d1, d2] }
  | _ => none }
def fnStripeFormRow : OpenClaim := { program := "ytoflijiinkmjoaa", sum := "c7eebe4c8f95e89482ebf64f2ca0190a68329c5978eeb9d51c8b918b07c82007", func := "loop.example/keelson/laws.FnStripeForm", spec := "fnStripeForm", unfollowed := true, recurses := true, apart := false }
def FnStripeFormSaid : Prop := fnStripeFormRow.holds Try.pinned (OpenSpec.ofChange fnStripeFormSpec)

/-- ITS FALSE NEIGHBOUR: 'it returns false'. Refute it at one input. -/
def fnStripeFormWrong : ChangeSpec := { name := "fnStripeForm", fn := fun _ => fun
  | [d1, d2] => { results := [.lit (.bool false)], args := [d1, d2] }
  | _ => none }
def FnStripeFormWrongFalsely : Prop := fnStripeFormRow.holds Try.pinned (OpenSpec.ofChange fnStripeFormWrong)

/-- 'laws.FnExactStripeOk': WHATEVER THE INPUT: true; the input reads as it did. -/
def fnExactStripeOkSpec : ChangeSpec := { name := "fnExactStripeOk", fn := fun _ => fun
  | [d] => { results := [.lit (.bool true)], args := [d] }
  | _ => none }
def fnExactStripeOkRow : OpenClaim := { program := "ytoflijiinkmjoaa", sum := "c7eebe4c8f95e89482ebf64f2ca0190a68329c5978eeb9d51c8b918b07c82007", func := "loop.example/keelson/laws.FnExactStripeOk", spec := "fnExactStripeOk", unfollowed := true, recurses := true, apart := false }
def FnExactStripeOkSaid : Prop := fnExactStripeOkRow.holds Try.pinned (OpenSpec.ofChange fnExactStripeOkSpec)

/-- ITS FALSE NEIGHBOUR: 'it returns false'. Refute it at one input. -/
def fnExactStripeOkWrong : ChangeSpec := { name := "fnExactStripeOk", fn := fun _ => fun
  | [d] => { results := [.lit (.bool false)], args := [d] }
  | _ => none }
def FnExactStripeOkWrongFalsely : Prop := fnExactStripeOkRow.holds Try.pinned (OpenSpec.ofChange fnExactStripeOkWrong)

/-- 'laws.FnExactStripeTop': WHATEVER THE INPUT: true; the input reads as it did. -/
def fnExactStripeTopSpec : ChangeSpec := { name := "fnExactStripeTop", fn := fun _ => fun
  | [d] => { results := [.lit (.bool true)], args := [d] }
  | _ => none }
def fnExactStripeTopRow : OpenClaim := { program := "ytoflijiinkmjoaa", sum := "c7eebe4c8f95e89482ebf64f2ca0190a68329c5978eeb9d51c8b918b07c82007", func := "loop.example/keelson/laws.FnExactStripeTop", spec := "fnExactStripeTop", unfollowed := true, recurses := true, apart := false }
def FnExactStripeTopSaid : Prop := fnExactStripeTopRow.holds Try.pinned (OpenSpec.ofChange fnExactStripeTopSpec)

/-- ITS FALSE NEIGHBOUR: 'it returns false'. Refute it at one input. -/
def fnExactStripeTopWrong : ChangeSpec := { name := "fnExactStripeTop", fn := fun _ => fun
  | [d] => { results := [.lit (.bool false)], args := [d] }
  | _ => none }
def FnExactStripeTopWrongFalsely : Prop := fnExactStripeTopRow.holds Try.pinned (OpenSpec.ofChange fnExactStripeTopWrong)

/-- 'laws.FnExactStripeRead': WHATEVER THE INPUT: true; the input reads as it did. -/
def fnExactStripeReadSpec : ChangeSpec := { name := "fnExactStripeRead", fn := fun _ => fun
  | [d] => { results := [.lit (.bool true)], args := [d] }
  | _ => none }
def fnExactStripeReadRow : OpenClaim := { program := "ytoflijiinkmjoaa", sum := "c7eebe4c8f95e89482ebf64f2ca0190a68329c5978eeb9d51c8b918b07c82007", func := "loop.example/keelson/laws.FnExactStripeRead", spec := "fnExactStripeRead", unfollowed := true, recurses := true, apart := false }
def FnExactStripeReadSaid : Prop := fnExactStripeReadRow.holds Try.pinned (OpenSpec.ofChange fnExactStripeReadSpec)

/-- ITS FALSE NEIGHBOUR: 'it returns false'. Refute it at one input. -/
def fnExactStripeReadWrong : ChangeSpec := { name := "fnExactStripeRead", fn := fun _ => fun
  | [d] => { results := [.lit (.bool false)], args := [d] }
  | _ => none }
def FnExactStripeReadWrongFalsely : Prop := fnExactStripeReadRow.holds Try.pinned (OpenSpec.ofChange fnExactStripeReadWrong)

/-- 'laws.FnExactStripeLose': WHATEVER THE INPUT: true; the input reads as it did. -/
def fnExactStripeLoseSpec : ChangeSpec := { name := "fnExactStripeLose", fn := fun _ => fun
  | [d1, d2] => { results := [.lit (.bool true)], args := [d1, d2] }
  | _ => none }
def fnExactStripeLoseRow : OpenClaim := { program := "ytoflijiinkmjoaa", sum := "c7eebe4c8f95e89482ebf64f2ca0190a68329c5978eeb9d51c8b918b07c82007", func := "loop.example/keelson/laws.FnExactStripeLose", spec := "fnExactStripeLose", unfollowed := true, recurses := true, apart := false }
def FnExactStripeLoseSaid : Prop := fnExactStripeLoseRow.holds Try.pinned (OpenSpec.ofChange fnExactStripeLoseSpec)

/-- ITS FALSE NEIGHBOUR: 'it returns false'. Refute it at one input. -/
def fnExactStripeLoseWrong : ChangeSpec := { name := "fnExactStripeLose", fn := fun _ => fun
  | [d1, d2] => { results := [.lit (.bool false)], args := [d1, d2] }
  | _ => none }
def FnExactStripeLoseWrongFalsely : Prop := fnExactStripeLoseRow.holds Try.pinned (OpenSpec.ofChange fnExactStripeLoseWrong)

/-- 'laws.FnExactStripeMend': WHATEVER THE INPUT: true; the input reads as it did. -/
def fnExactStripeMendSpec : ChangeSpec := { name := "fnExactStripeMend", fn := fun _ => fun
  | [d1, d2] => { results := [.lit (.bool true)], args := [d1, d2] }
  | _ => none }
def fnExactStripeMendRow : OpenClaim := { program := "ytoflijiinkmjoaa", sum := "c7eebe4c8f95e89482ebf64f2ca0190a68329c5978eeb9d51c8b918b07c82007", func := "loop.example/keelson/laws.FnExactStripeMend", spec := "fnExactStripeMend", unfollowed := true, recurses := true, apart := false }
def FnExactStripeMendSaid : Prop := fnExactStripeMendRow.holds Try.pinned (OpenSpec.ofChange fnExactStripeMendSpec)

/-- ITS FALSE NEIGHBOUR: 'it returns false'. Refute it at one input. -/
def fnExactStripeMendWrong : ChangeSpec := { name := "fnExactStripeMend", fn := fun _ => fun
  | [d1, d2] => { results := [.lit (.bool false)], args := [d1, d2] }
  | _ => none }
def FnExactStripeMendWrongFalsely : Prop := fnExactStripeMendRow.holds Try.pinned (OpenSpec.ofChange fnExactStripeMendWrong)

/- THE SECOND FORM. 'bulk': how many values and letters a reading holds, each counted each time it is reached (what is shared counts as often as it is met; a slice's spare places count too). A statement '..UptoSaid' is the law's where the arguments, and the package variables that the reading takes, are together of bulk at most 1048576: NARROWER than '..Said'. Prove '..Said' where nothing that the law and all that it calls make is longer than what came in: it says more and counts as full. Else prove '..UptoSaid'. A law counts once. -/
mutual
def uptoBulk {H : Type} : DataW H → Nat
  | .lit (.string bytes) => bytes.length + 1
  | .lit _ => 1
  | .nil => 1
  | .ptr d => uptoBulk d + 1
  | .slice elems spare => uptoBulkAll elems + uptoBulkAll spare + 1
  | .agg parts => uptoBulkAll parts + 1
  | .iface _ d => uptoBulk d + 1
  | .map entries => uptoBulkEntries entries + 1
  | .held _ => 1
def uptoBulkAll {H : Type} : List (DataW H) → Nat
  | [] => 0
  | d :: r => uptoBulk d + uptoBulkAll r
def uptoBulkEntries {H : Type} : List (Lit × DataW H) → Nat
  | [] => 0
  | x :: r => uptoBulkEntry x + uptoBulkEntries r
def uptoBulkEntry {H : Type} : Lit × DataW H → Nat
  | (.string bytes, d) => bytes.length + uptoBulk d + 1
  | (_, d) => uptoBulk d + 1
 end
def uptoSmall : (H : Type) → List (DataW H) → Bool := fun _ ds => decide (uptoBulkAll ds ≤ 1048576)
def OpenSpec.upto (s : _root_.Go.ChangeSpec) : _root_.Go.OpenSpec := { _root_.Go.OpenSpec.ofChange s with cond := some uptoSmall }

/-- 'laws.FnReadOne', WHERE WHAT IT READS IS OF BULK AT MOST 1048576: true; the input reads as it did. -/
def fnReadOneUptoRow : OpenClaim := { program := "ytoflijiinkmjoaa", sum := "c7eebe4c8f95e89482ebf64f2ca0190a68329c5978eeb9d51c8b918b07c82007", func := "loop.example/keelson/laws.FnReadOne", spec := "fnReadOne", unfollowed := true, recurses := true, apart := false, narrowed := true }
def FnReadOneUptoSaid : Prop := fnReadOneUptoRow.holds Try.pinned (OpenSpec.upto fnReadOneSpec)

/-- 'laws.FnReadNewest', WHERE WHAT IT READS IS OF BULK AT MOST 1048576: true; the input reads as it did. -/
def fnReadNewestUptoRow : OpenClaim := { program := "ytoflijiinkmjoaa", sum := "c7eebe4c8f95e89482ebf64f2ca0190a68329c5978eeb9d51c8b918b07c82007", func := "loop.example/keelson/laws.FnReadNewest", spec := "fnReadNewest", unfollowed := true, recurses := true, apart := false, narrowed := true }
def FnReadNewestUptoSaid : Prop := fnReadNewestUptoRow.holds Try.pinned (OpenSpec.upto fnReadNewestSpec)

/-- 'laws.FnLose', WHERE WHAT IT READS IS OF BULK AT MOST 1048576: true; the input reads as it did. -/
def fnLoseUptoRow : OpenClaim := { program := "ytoflijiinkmjoaa", sum := "c7eebe4c8f95e89482ebf64f2ca0190a68329c5978eeb9d51c8b918b07c82007", func := "loop.example/keelson/laws.FnLose", spec := "fnLose", unfollowed := true, recurses := true, apart := false, narrowed := true }
def FnLoseUptoSaid : Prop := fnLoseUptoRow.holds Try.pinned (OpenSpec.upto fnLoseSpec)

/-- 'laws.FnStripeForm', WHERE WHAT IT READS IS OF BULK AT MOST 1048576: true; the input reads as it did. -/
def fnStripeFormUptoRow : OpenClaim := { program := "ytoflijiinkmjoaa", sum := "c7eebe4c8f95e89482ebf64f2ca0190a68329c5978eeb9d51c8b918b07c82007", func := "loop.example/keelson/laws.FnStripeForm", spec := "fnStripeForm", unfollowed := true, recurses := true, apart := false, narrowed := true }
def FnStripeFormUptoSaid : Prop := fnStripeFormUptoRow.holds Try.pinned (OpenSpec.upto fnStripeFormSpec)

/-- 'laws.FnExactStripeOk', WHERE WHAT IT READS IS OF BULK AT MOST 1048576: true; the input reads as it did. -/
def fnExactStripeOkUptoRow : OpenClaim := { program := "ytoflijiinkmjoaa", sum := "c7eebe4c8f95e89482ebf64f2ca0190a68329c5978eeb9d51c8b918b07c82007", func := "loop.example/keelson/laws.FnExactStripeOk", spec := "fnExactStripeOk", unfollowed := true, recurses := true, apart := false, narrowed := true }
def FnExactStripeOkUptoSaid : Prop := fnExactStripeOkUptoRow.holds Try.pinned (OpenSpec.upto fnExactStripeOkSpec)

/-- 'laws.FnExactStripeTop', WHERE WHAT IT READS IS OF BULK AT MOST 1048576: true; the input reads as it did. -/
def fnExactStripeTopUptoRow : OpenClaim := { program := "ytoflijiinkmjoaa", sum := "c7eebe4c8f95e89482ebf64f2ca0190a68329c5978eeb9d51c8b918b07c82007", func := "loop.example/keelson/laws.FnExactStripeTop", spec := "fnExactStripeTop", unfollowed := true, recurses := true, apart := false, narrowed := true }
def FnExactStripeTopUptoSaid : Prop := fnExactStripeTopUptoRow.holds Try.pinned (OpenSpec.upto fnExactStripeTopSpec)

/-- 'laws.FnExactStripeRead', WHERE WHAT IT READS IS OF BULK AT MOST 1048576: true; the input reads as it did. -/
def fnExactStripeReadUptoRow : OpenClaim := { program := "ytoflijiinkmjoaa", sum := "c7eebe4c8f95e89482ebf64f2ca0190a68329c5978eeb9d51c8b918b07c82007", func := "loop.example/keelson/laws.FnExactStripeRead", spec := "fnExactStripeRead", unfollowed := true, recurses := true, apart := false, narrowed := true }
def FnExactStripeReadUptoSaid : Prop := fnExactStripeReadUptoRow.holds Try.pinned (OpenSpec.upto fnExactStripeReadSpec)

/-- 'laws.FnExactStripeLose', WHERE WHAT IT READS IS OF BULK AT MOST 1048576: true; the input reads as it did. -/
def fnExactStripeLoseUptoRow : OpenClaim := { program := "ytoflijiinkmjoaa", sum := "c7eebe4c8f95e89482ebf64f2ca0190a68329c5978eeb9d51c8b918b07c82007", func := "loop.example/keelson/laws.FnExactStripeLose", spec := "fnExactStripeLose", unfollowed := true, recurses := true, apart := false, narrowed := true }
def FnExactStripeLoseUptoSaid : Prop := fnExactStripeLoseUptoRow.holds Try.pinned (OpenSpec.upto fnExactStripeLoseSpec)

/-- 'laws.FnExactStripeMend', WHERE WHAT IT READS IS OF BULK AT MOST 1048576: true; the input reads as it did. -/
def fnExactStripeMendUptoRow : OpenClaim := { program := "ytoflijiinkmjoaa", sum := "c7eebe4c8f95e89482ebf64f2ca0190a68329c5978eeb9d51c8b918b07c82007", func := "loop.example/keelson/laws.FnExactStripeMend", spec := "fnExactStripeMend", unfollowed := true, recurses := true, apart := false, narrowed := true }
def FnExactStripeMendUptoSaid : Prop := fnExactStripeMendUptoRow.holds Try.pinned (OpenSpec.upto fnExactStripeMendSpec)

end Rows
end Go.Proofs.Ytoflijiinkmjoaa
