/-
  No cell of these rows narrows 'for every input' (looked for: loops, veiled, ifaces, maps, wideKeys, modest, calm, conditions, laid).
  DERIVED. THE GIVEN ROWS OF THIS SEAT. 6 by the template 'for every input the law returns true; each argument reads behind the call as it read before'; 0 by the template 'total and deterministic' (their statements: YtdmbbipcdkikiaaTotals.lean).
  GIVEN WITH THE SEED: the statements are not yours to turn. If you find one false, say at which input.
  Laid BY PROGRAM, IN A SANDBOX (cutbox-rows.mjs): the forced cells as the released guide's own fill.sh prints them over the translation f603a7f247237dcf… (all of the seat's roots in one cut). By AI agents, Wed Nov 11 2026. No macro, syntax, notation, axiom, sorry.
-/
import Derived.Test.YtdmbbipcdkikiaaChecked
import GoSem.Claim
import GoSem.ClaimJoined
import GoSem.ClaimMapViews
import Derived.JoinedTies
import Derived.KernelRfl
namespace Go.Proofs.Ytdmbbipcdkikiaa
/- THE CELL 'sum', in the pinned program and in every row, IS THE sha256 OF THE DUMP (.gsa) THAT YtdmbbipcdkikiaaProg.lean LOADS. Nothing in Lean hashes anything: it is a label: what it is worth is what the hold of that sum in a sandbox is worth. -/
noncomputable def Try.pinned : Pinned := { name := "ytdmbbipcdkikiaa", sum := "f603a7f247237dcff2e20e4fb231b2e6f1f75ff08f56f457404189f6ec13a387", checked := Try.checked }
namespace Rows
def none {H : Type} : Left H := { results := [], args := [] }

/-- 'laws.FnReadFrom': WHATEVER THE INPUT: true; the input reads as it did. -/
def fnReadFromSpec : ChangeSpec := { name := "fnReadFrom", fn := fun _ => fun
  | [d] => { results := [.lit (.bool true)], args := [d] }
  | _ => none }
def fnReadFromRow : OpenClaim := { program := "ytdmbbipcdkikiaa", sum := "f603a7f247237dcff2e20e4fb231b2e6f1f75ff08f56f457404189f6ec13a387", func := "loop.example/keelson/laws.FnReadFrom", spec := "fnReadFrom", unfollowed := true, recurses := true, apart := false }
def FnReadFromSaid : Prop := fnReadFromRow.holds Try.pinned (OpenSpec.ofChange fnReadFromSpec)

/-- ITS FALSE NEIGHBOUR: 'it returns false'. Refute it at one input. -/
def fnReadFromWrong : ChangeSpec := { name := "fnReadFrom", fn := fun _ => fun
  | [d] => { results := [.lit (.bool false)], args := [d] }
  | _ => none }
def FnReadFromWrongFalsely : Prop := fnReadFromRow.holds Try.pinned (OpenSpec.ofChange fnReadFromWrong)

/-- 'laws.FnFindFits': WHATEVER THE INPUT: true; the input reads as it did. -/
def fnFindFitsSpec : ChangeSpec := { name := "fnFindFits", fn := fun _ => fun
  | [d] => { results := [.lit (.bool true)], args := [d] }
  | _ => none }
def fnFindFitsRow : OpenClaim := { program := "ytdmbbipcdkikiaa", sum := "f603a7f247237dcff2e20e4fb231b2e6f1f75ff08f56f457404189f6ec13a387", func := "loop.example/keelson/laws.FnFindFits", spec := "fnFindFits", unfollowed := true, recurses := true, apart := false }
def FnFindFitsSaid : Prop := fnFindFitsRow.holds Try.pinned (OpenSpec.ofChange fnFindFitsSpec)

/-- ITS FALSE NEIGHBOUR: 'it returns false'. Refute it at one input. -/
def fnFindFitsWrong : ChangeSpec := { name := "fnFindFits", fn := fun _ => fun
  | [d] => { results := [.lit (.bool false)], args := [d] }
  | _ => none }
def FnFindFitsWrongFalsely : Prop := fnFindFitsRow.holds Try.pinned (OpenSpec.ofChange fnFindFitsWrong)

/-- 'laws.FnReadTwo': WHATEVER THE INPUT: true; the input reads as it did. -/
def fnReadTwoSpec : ChangeSpec := { name := "fnReadTwo", fn := fun _ => fun
  | [d1, d2] => { results := [.lit (.bool true)], args := [d1, d2] }
  | _ => none }
def fnReadTwoRow : OpenClaim := { program := "ytdmbbipcdkikiaa", sum := "f603a7f247237dcff2e20e4fb231b2e6f1f75ff08f56f457404189f6ec13a387", func := "loop.example/keelson/laws.FnReadTwo", spec := "fnReadTwo", unfollowed := true, recurses := true, apart := false }
def FnReadTwoSaid : Prop := fnReadTwoRow.holds Try.pinned (OpenSpec.ofChange fnReadTwoSpec)

/-- ITS FALSE NEIGHBOUR: 'it returns false'. Refute it at one input. -/
def fnReadTwoWrong : ChangeSpec := { name := "fnReadTwo", fn := fun _ => fun
  | [d1, d2] => { results := [.lit (.bool false)], args := [d1, d2] }
  | _ => none }
def FnReadTwoWrongFalsely : Prop := fnReadTwoRow.holds Try.pinned (OpenSpec.ofChange fnReadTwoWrong)

/-- 'laws.FnExactReadFrom': WHATEVER THE INPUT: true; the input reads as it did. -/
def fnExactReadFromSpec : ChangeSpec := { name := "fnExactReadFrom", fn := fun _ => fun
  | [d1, d2] => { results := [.lit (.bool true)], args := [d1, d2] }
  | _ => none }
def fnExactReadFromRow : OpenClaim := { program := "ytdmbbipcdkikiaa", sum := "f603a7f247237dcff2e20e4fb231b2e6f1f75ff08f56f457404189f6ec13a387", func := "loop.example/keelson/laws.FnExactReadFrom", spec := "fnExactReadFrom", unfollowed := true, recurses := true, apart := false }
def FnExactReadFromSaid : Prop := fnExactReadFromRow.holds Try.pinned (OpenSpec.ofChange fnExactReadFromSpec)

/-- ITS FALSE NEIGHBOUR: 'it returns false'. Refute it at one input. -/
def fnExactReadFromWrong : ChangeSpec := { name := "fnExactReadFrom", fn := fun _ => fun
  | [d1, d2] => { results := [.lit (.bool false)], args := [d1, d2] }
  | _ => none }
def FnExactReadFromWrongFalsely : Prop := fnExactReadFromRow.holds Try.pinned (OpenSpec.ofChange fnExactReadFromWrong)

/-- 'laws.FnExactReadData': WHATEVER THE INPUT: true; the input reads as it did. -/
def fnExactReadDataSpec : ChangeSpec := { name := "fnExactReadData", fn := fun _ => fun
  | [d1, d2, d3] => { results := [.lit (.bool true)], args := [d1, d2, d3] }
  | _ => none }
def fnExactReadDataRow : OpenClaim := { program := "ytdmbbipcdkikiaa", sum := "f603a7f247237dcff2e20e4fb231b2e6f1f75ff08f56f457404189f6ec13a387", func := "loop.example/keelson/laws.FnExactReadData", spec := "fnExactReadData", unfollowed := true, recurses := true, apart := false }
def FnExactReadDataSaid : Prop := fnExactReadDataRow.holds Try.pinned (OpenSpec.ofChange fnExactReadDataSpec)

/-- ITS FALSE NEIGHBOUR: 'it returns false'. Refute it at one input. -/
def fnExactReadDataWrong : ChangeSpec := { name := "fnExactReadData", fn := fun _ => fun
  | [d1, d2, d3] => { results := [.lit (.bool false)], args := [d1, d2, d3] }
  | _ => none }
def FnExactReadDataWrongFalsely : Prop := fnExactReadDataRow.holds Try.pinned (OpenSpec.ofChange fnExactReadDataWrong)

/-- 'laws.FnExactReadFind': WHATEVER THE INPUT: true; the input reads as it did. -/
def fnExactReadFindSpec : ChangeSpec := { name := "fnExactReadFind", fn := fun _ => fun
  | [d1, d2, d3] => { results := [.lit (.bool true)], args := [d1, d2, d3] }
  | _ => none }
def fnExactReadFindRow : OpenClaim := { program := "ytdmbbipcdkikiaa", sum := "f603a7f247237dcff2e20e4fb231b2e6f1f75ff08f56f457404189f6ec13a387", func := "loop.example/keelson/laws.FnExactReadFind", spec := "fnExactReadFind", unfollowed := true, recurses := true, apart := false }
def FnExactReadFindSaid : Prop := fnExactReadFindRow.holds Try.pinned (OpenSpec.ofChange fnExactReadFindSpec)

/-- ITS FALSE NEIGHBOUR: 'it returns false'. Refute it at one input. -/
def fnExactReadFindWrong : ChangeSpec := { name := "fnExactReadFind", fn := fun _ => fun
  | [d1, d2, d3] => { results := [.lit (.bool false)], args := [d1, d2, d3] }
  | _ => none }
def FnExactReadFindWrongFalsely : Prop := fnExactReadFindRow.holds Try.pinned (OpenSpec.ofChange fnExactReadFindWrong)

/- THE SECOND FORM. 'bulk': how many values and letters a reading holds, each counted each time it is reached (what is shared counts as often as it is met; a slice's spare places count too). A statement '..UptoSaid' is the law's where the arguments, and the package variables that the reading takes, are together of bulk at most 1048576: NARROWER than '..Said'. Prove '..Said' where nothing that the law and all that it calls make is longer than what came in: it says more and counts as full. Else prove '..UptoSaid'. A law counts once. -/
mutual
def uptoBulk {H : Type} : DataW H → Nat
  | .lit (.string bytes) => bytes.length + 1
  | .lit _ => 1
  | .nil => 1
  | .ptr d => uptoBulk d + 1
  | .slice elems spare => uptoBulkAll elems + uptoBulkAll spare + 1
  | .agg parts => uptoBulkAll parts + 1
  | .iface _ d => uptoBulk d + 1
  | .map entries => uptoBulkEntries entries + 1
  | .held _ => 1
def uptoBulkAll {H : Type} : List (DataW H) → Nat
  | [] => 0
  | d :: r => uptoBulk d + uptoBulkAll r
def uptoBulkEntries {H : Type} : List (Lit × DataW H) → Nat
  | [] => 0
  | x :: r => uptoBulkEntry x + uptoBulkEntries r
def uptoBulkEntry {H : Type} : Lit × DataW H → Nat
  | (.string bytes, d) => bytes.length + uptoBulk d + 1
  | (_, d) => uptoBulk d + 1
 end
def uptoSmall : (H : Type) → List (DataW H) → Bool := fun _ ds => decide (uptoBulkAll ds ≤ 1048576)
def OpenSpec.upto (s : _root_.Go.ChangeSpec) : _root_.Go.OpenSpec := { _root_.Go.OpenSpec.ofChange s with cond := some uptoSmall }

/-- 'laws.FnReadFrom', WHERE WHAT IT READS IS OF BULK AT MOST 1048576: true; the input reads as it did. -/
def fnReadFromUptoRow : OpenClaim := { program := "ytdmbbipcdkikiaa", sum := "f603a7f247237dcff2e20e4fb231b2e6f1f75ff08f56f457404189f6ec13a387", func := "loop.example/keelson/laws.FnReadFrom", spec := "fnReadFrom", unfollowed := true, recurses := true, apart := false, narrowed := true }
def FnReadFromUptoSaid : Prop := fnReadFromUptoRow.holds Try.pinned (OpenSpec.upto fnReadFromSpec)

/-- 'laws.FnFindFits', WHERE WHAT IT READS IS OF BULK AT MOST 1048576: true; the input reads as it did. -/
def fnFindFitsUptoRow : OpenClaim := { program := "ytdmbbipcdkikiaa", sum := "f603a7f247237dcff2e20e4fb231b2e6f1f75ff08f56f457404189f6ec13a387", func := "loop.example/keelson/laws.FnFindFits", spec := "fnFindFits", unfollowed := true, recurses := true, apart := false, narrowed := true }
def FnFindFitsUptoSaid : Prop := fnFindFitsUptoRow.holds Try.pinned (OpenSpec.upto fnFindFitsSpec)

/-- 'laws.FnReadTwo', WHERE WHAT IT READS IS OF BULK AT MOST 1048576: true; the input reads as it did. -/
def fnReadTwoUptoRow : OpenClaim := { program := "ytdmbbipcdkikiaa", sum := "f603a7f247237dcff2e20e4fb231b2e6f1f75ff08f56f457404189f6ec13a387", func := "loop.example/keelson/laws.FnReadTwo", spec := "fnReadTwo", unfollowed := true, recurses := true, apart := false, narrowed := true }
def FnReadTwoUptoSaid : Prop := fnReadTwoUptoRow.holds Try.pinned (OpenSpec.upto fnReadTwoSpec)

/-- 'laws.FnExactReadFrom', WHERE WHAT IT READS IS OF BULK AT MOST 1048576: true; the input reads as it did. -/
def fnExactReadFromUptoRow : OpenClaim := { program := "ytdmbbipcdkikiaa", sum := "f603a7f247237dcff2e20e4fb231b2e6f1f75ff08f56f457404189f6ec13a387", func := "loop.example/keelson/laws.FnExactReadFrom", spec := "fnExactReadFrom", unfollowed := true, recurses := true, apart := false, narrowed := true }
def FnExactReadFromUptoSaid : Prop := fnExactReadFromUptoRow.holds Try.pinned (OpenSpec.upto fnExactReadFromSpec)

/-- 'laws.FnExactReadData', WHERE WHAT IT READS IS OF BULK AT MOST 1048576: true; the input reads as it did. -/
def fnExactReadDataUptoRow : OpenClaim := { program := "ytdmbbipcdkikiaa", sum := "f603a7f247237dcff2e20e4fb231b2e6f1f75ff08f56f457404189f6ec13a387", func := "loop.example/keelson/laws.FnExactReadData", spec := "fnExactReadData", unfollowed := true, recurses := true, apart := false, narrowed := true }
def FnExactReadDataUptoSaid : Prop := fnExactReadDataUptoRow.holds Try.pinned (OpenSpec.upto fnExactReadDataSpec)

/-- 'laws.FnExactReadFind', WHERE WHAT IT READS IS OF BULK AT MOST 1048576: true; the input reads as it did. -/
def fnExactReadFindUptoRow : OpenClaim := { program := "ytdmbbipcdkikiaa", sum := "f603a7f247237dcff2e20e4fb231b2e6f1f75ff08f56f457404189f6ec13a387", func := "loop.example/keelson/laws.FnExactReadFind", spec := "fnExactReadFind", unfollowed := true, recurses := true, apart := false, narrowed := true }
def FnExactReadFindUptoSaid : Prop := fnExactReadFindUptoRow.holds Try.pinned (OpenSpec.upto fnExactReadFindSpec)

end Rows
end Go.Proofs.Ytdmbbipcdkikiaa
