/-
  No cell of these rows narrows 'for every input' (looked for: loops, veiled, ifaces, maps, wideKeys, modest, calm, conditions, laid).
  DERIVED. THE GIVEN ROWS OF THIS SEAT. 7 by the template 'for every input the law returns true; each argument reads behind the call as it read before'; 0 by the template 'total and deterministic' (their statements: YthglkgicckodaaaTotals.lean).
  GIVEN WITH THE SEED: the statements are not yours to turn. If you find one false, say at which input.
  Laid BY PROGRAM, IN A SANDBOX (cutbox-rows.mjs): the forced cells as the released guide's own fill.sh prints them over the translation b2de0d0f2fe0041a… (all of the seat's roots in one cut). By AI agents, Wed Nov 11 2026. No macro, syntax, notation, axiom, sorry.
-/
import Derived.Test.YthglkgicckodaaaChecked
import GoSem.Claim
import GoSem.ClaimJoined
import GoSem.ClaimMapViews
import Derived.JoinedTies
import Derived.KernelRfl
namespace Go.Proofs.Ythglkgicckodaaa
/- THE CELL 'sum', in the pinned program and in every row, IS THE sha256 OF THE DUMP (.gsa) THAT YthglkgicckodaaaProg.lean LOADS. Nothing in Lean hashes anything: it is a label: what it is worth is what the hold of that sum in a sandbox is worth. -/
noncomputable def Try.pinned : Pinned := { name := "ythglkgicckodaaa", sum := "b2de0d0f2fe0041a32d920357bcced6e0880bde4e2dea70f8982df966615ea0f", checked := Try.checked }
namespace Rows
def none {H : Type} : Left H := { results := [], args := [] }

/-- 'laws.FnPatchOf': WHATEVER THE INPUT: true; the input reads as it did. -/
def fnPatchOfSpec : ChangeSpec := { name := "fnPatchOf", fn := fun _ => fun
  | [d] => { results := [.lit (.bool true)], args := [d] }
  | _ => none }
def fnPatchOfRow : OpenClaim := { program := "ythglkgicckodaaa", sum := "b2de0d0f2fe0041a32d920357bcced6e0880bde4e2dea70f8982df966615ea0f", func := "loop.example/keelson/laws.FnPatchOf", spec := "fnPatchOf", unfollowed := true, recurses := true, apart := false }
def FnPatchOfSaid : Prop := fnPatchOfRow.holds Try.pinned (OpenSpec.ofChange fnPatchOfSpec)

/-- ITS FALSE NEIGHBOUR: 'it returns false'. Refute it at one input. -/
def fnPatchOfWrong : ChangeSpec := { name := "fnPatchOf", fn := fun _ => fun
  | [d] => { results := [.lit (.bool false)], args := [d] }
  | _ => none }
def FnPatchOfWrongFalsely : Prop := fnPatchOfRow.holds Try.pinned (OpenSpec.ofChange fnPatchOfWrong)

/-- 'laws.FnPatchData': WHATEVER THE INPUT: true; the input reads as it did. -/
def fnPatchDataSpec : ChangeSpec := { name := "fnPatchData", fn := fun _ => fun
  | [d1, d2] => { results := [.lit (.bool true)], args := [d1, d2] }
  | _ => none }
def fnPatchDataRow : OpenClaim := { program := "ythglkgicckodaaa", sum := "b2de0d0f2fe0041a32d920357bcced6e0880bde4e2dea70f8982df966615ea0f", func := "loop.example/keelson/laws.FnPatchData", spec := "fnPatchData", unfollowed := true, recurses := true, apart := false }
def FnPatchDataSaid : Prop := fnPatchDataRow.holds Try.pinned (OpenSpec.ofChange fnPatchDataSpec)

/-- ITS FALSE NEIGHBOUR: 'it returns false'. Refute it at one input. -/
def fnPatchDataWrong : ChangeSpec := { name := "fnPatchData", fn := fun _ => fun
  | [d1, d2] => { results := [.lit (.bool false)], args := [d1, d2] }
  | _ => none }
def FnPatchDataWrongFalsely : Prop := fnPatchDataRow.holds Try.pinned (OpenSpec.ofChange fnPatchDataWrong)

/-- 'laws.FnPatchForm': WHATEVER THE INPUT: true; the input reads as it did. -/
def fnPatchFormSpec : ChangeSpec := { name := "fnPatchForm", fn := fun _ => fun
  | [d1, d2] => { results := [.lit (.bool true)], args := [d1, d2] }
  | _ => none }
def fnPatchFormRow : OpenClaim := { program := "ythglkgicckodaaa", sum := "b2de0d0f2fe0041a32d920357bcced6e0880bde4e2dea70f8982df966615ea0f", func := "loop.example/keelson/laws.FnPatchForm", spec := "fnPatchForm", unfollowed := true, recurses := true, apart := false }
def FnPatchFormSaid : Prop := fnPatchFormRow.holds Try.pinned (OpenSpec.ofChange fnPatchFormSpec)

/-- ITS FALSE NEIGHBOUR: 'it returns false'. Refute it at one input. -/
def fnPatchFormWrong : ChangeSpec := { name := "fnPatchForm", fn := fun _ => fun
  | [d1, d2] => { results := [.lit (.bool false)], args := [d1, d2] }
  | _ => none }
def FnPatchFormWrongFalsely : Prop := fnPatchFormRow.holds Try.pinned (OpenSpec.ofChange fnPatchFormWrong)

/-- 'laws.FnExactStripeMend': WHATEVER THE INPUT: true; the input reads as it did. -/
def fnExactStripeMendSpec : ChangeSpec := { name := "fnExactStripeMend", fn := fun _ => fun
  | [d1, d2] => { results := [.lit (.bool true)], args := [d1, d2] }
  | _ => none }
def fnExactStripeMendRow : OpenClaim := { program := "ythglkgicckodaaa", sum := "b2de0d0f2fe0041a32d920357bcced6e0880bde4e2dea70f8982df966615ea0f", func := "loop.example/keelson/laws.FnExactStripeMend", spec := "fnExactStripeMend", unfollowed := true, recurses := true, apart := false }
def FnExactStripeMendSaid : Prop := fnExactStripeMendRow.holds Try.pinned (OpenSpec.ofChange fnExactStripeMendSpec)

/-- ITS FALSE NEIGHBOUR: 'it returns false'. Refute it at one input. -/
def fnExactStripeMendWrong : ChangeSpec := { name := "fnExactStripeMend", fn := fun _ => fun
  | [d1, d2] => { results := [.lit (.bool false)], args := [d1, d2] }
  | _ => none }
def FnExactStripeMendWrongFalsely : Prop := fnExactStripeMendRow.holds Try.pinned (OpenSpec.ofChange fnExactStripeMendWrong)

/-- 'laws.FnExactPatchOk': WHATEVER THE INPUT: true; the input reads as it did. -/
def fnExactPatchOkSpec : ChangeSpec := { name := "fnExactPatchOk", fn := fun _ => fun
  | [d] => { results := [.lit (.bool true)], args := [d] }
  | _ => none }
def fnExactPatchOkRow : OpenClaim := { program := "ythglkgicckodaaa", sum := "b2de0d0f2fe0041a32d920357bcced6e0880bde4e2dea70f8982df966615ea0f", func := "loop.example/keelson/laws.FnExactPatchOk", spec := "fnExactPatchOk", apart := false }
def FnExactPatchOkSaid : Prop := fnExactPatchOkRow.holds Try.pinned (OpenSpec.ofChange fnExactPatchOkSpec)

/-- ITS FALSE NEIGHBOUR: 'it returns false'. Refute it at one input. -/
def fnExactPatchOkWrong : ChangeSpec := { name := "fnExactPatchOk", fn := fun _ => fun
  | [d] => { results := [.lit (.bool false)], args := [d] }
  | _ => none }
def FnExactPatchOkWrongFalsely : Prop := fnExactPatchOkRow.holds Try.pinned (OpenSpec.ofChange fnExactPatchOkWrong)

/-- 'laws.FnExactPatchOf': WHATEVER THE INPUT: true; the input reads as it did. -/
def fnExactPatchOfSpec : ChangeSpec := { name := "fnExactPatchOf", fn := fun _ => fun
  | [d1, d2] => { results := [.lit (.bool true)], args := [d1, d2] }
  | _ => none }
def fnExactPatchOfRow : OpenClaim := { program := "ythglkgicckodaaa", sum := "b2de0d0f2fe0041a32d920357bcced6e0880bde4e2dea70f8982df966615ea0f", func := "loop.example/keelson/laws.FnExactPatchOf", spec := "fnExactPatchOf", apart := false }
def FnExactPatchOfSaid : Prop := fnExactPatchOfRow.holds Try.pinned (OpenSpec.ofChange fnExactPatchOfSpec)

/-- ITS FALSE NEIGHBOUR: 'it returns false'. Refute it at one input. -/
def fnExactPatchOfWrong : ChangeSpec := { name := "fnExactPatchOf", fn := fun _ => fun
  | [d1, d2] => { results := [.lit (.bool false)], args := [d1, d2] }
  | _ => none }
def FnExactPatchOfWrongFalsely : Prop := fnExactPatchOfRow.holds Try.pinned (OpenSpec.ofChange fnExactPatchOfWrong)

/-- 'laws.FnExactPatchData': WHATEVER THE INPUT: true; the input reads as it did. -/
def fnExactPatchDataSpec : ChangeSpec := { name := "fnExactPatchData", fn := fun _ => fun
  | [d1, d2] => { results := [.lit (.bool true)], args := [d1, d2] }
  | _ => none }
def fnExactPatchDataRow : OpenClaim := { program := "ythglkgicckodaaa", sum := "b2de0d0f2fe0041a32d920357bcced6e0880bde4e2dea70f8982df966615ea0f", func := "loop.example/keelson/laws.FnExactPatchData", spec := "fnExactPatchData", unfollowed := true, recurses := true, apart := false }
def FnExactPatchDataSaid : Prop := fnExactPatchDataRow.holds Try.pinned (OpenSpec.ofChange fnExactPatchDataSpec)

/-- ITS FALSE NEIGHBOUR: 'it returns false'. Refute it at one input. -/
def fnExactPatchDataWrong : ChangeSpec := { name := "fnExactPatchData", fn := fun _ => fun
  | [d1, d2] => { results := [.lit (.bool false)], args := [d1, d2] }
  | _ => none }
def FnExactPatchDataWrongFalsely : Prop := fnExactPatchDataRow.holds Try.pinned (OpenSpec.ofChange fnExactPatchDataWrong)

/- THE SECOND FORM. 'bulk': how many values and letters a reading holds, each counted each time it is reached (what is shared counts as often as it is met; a slice's spare places count too). A statement '..UptoSaid' is the law's where the arguments, and the package variables that the reading takes, are together of bulk at most 1048576: NARROWER than '..Said'. Prove '..Said' where nothing that the law and all that it calls make is longer than what came in: it says more and counts as full. Else prove '..UptoSaid'. A law counts once. -/
mutual
def uptoBulk {H : Type} : DataW H → Nat
  | .lit (.string bytes) => bytes.length + 1
  | .lit _ => 1
  | .nil => 1
  | .ptr d => uptoBulk d + 1
  | .slice elems spare => uptoBulkAll elems + uptoBulkAll spare + 1
  | .agg parts => uptoBulkAll parts + 1
  | .iface _ d => uptoBulk d + 1
  | .map entries => uptoBulkEntries entries + 1
  | .held _ => 1
def uptoBulkAll {H : Type} : List (DataW H) → Nat
  | [] => 0
  | d :: r => uptoBulk d + uptoBulkAll r
def uptoBulkEntries {H : Type} : List (Lit × DataW H) → Nat
  | [] => 0
  | x :: r => uptoBulkEntry x + uptoBulkEntries r
def uptoBulkEntry {H : Type} : Lit × DataW H → Nat
  | (.string bytes, d) => bytes.length + uptoBulk d + 1
  | (_, d) => uptoBulk d + 1
 end
def uptoSmall : (H : Type) → List (DataW H) → Bool := fun _ ds => decide (uptoBulkAll ds ≤ 1048576)
def OpenSpec.upto (s : _root_.Go.ChangeSpec) : _root_.Go.OpenSpec := { _root_.Go.OpenSpec.ofChange s with cond := some uptoSmall }

/-- 'laws.FnPatchOf', WHERE WHAT IT READS IS OF BULK AT MOST 1048576: true; the input reads as it did. -/
def fnPatchOfUptoRow : OpenClaim := { program := "ythglkgicckodaaa", sum := "b2de0d0f2fe0041a32d920357bcced6e0880bde4e2dea70f8982df966615ea0f", func := "loop.example/keelson/laws.FnPatchOf", spec := "fnPatchOf", unfollowed := true, recurses := true, apart := false, narrowed := true }
def FnPatchOfUptoSaid : Prop := fnPatchOfUptoRow.holds Try.pinned (OpenSpec.upto fnPatchOfSpec)

/-- 'laws.FnPatchData', WHERE WHAT IT READS IS OF BULK AT MOST 1048576: true; the input reads as it did. -/
def fnPatchDataUptoRow : OpenClaim := { program := "ythglkgicckodaaa", sum := "b2de0d0f2fe0041a32d920357bcced6e0880bde4e2dea70f8982df966615ea0f", func := "loop.example/keelson/laws.FnPatchData", spec := "fnPatchData", unfollowed := true, recurses := true, apart := false, narrowed := true }
def FnPatchDataUptoSaid : Prop := fnPatchDataUptoRow.holds Try.pinned (OpenSpec.upto fnPatchDataSpec)

/-- 'laws.FnPatchForm', WHERE WHAT IT READS IS OF BULK AT MOST 1048576: true; the input reads as it did. -/
def fnPatchFormUptoRow : OpenClaim := { program := "ythglkgicckodaaa", sum := "b2de0d0f2fe0041a32d920357bcced6e0880bde4e2dea70f8982df966615ea0f", func := "loop.example/keelson/laws.FnPatchForm", spec := "fnPatchForm", unfollowed := true, recurses := true, apart := false, narrowed := true }
def FnPatchFormUptoSaid : Prop := fnPatchFormUptoRow.holds Try.pinned (OpenSpec.upto fnPatchFormSpec)

/-- 'laws.FnExactStripeMend', WHERE WHAT IT READS IS OF BULK AT MOST 1048576: true; the input reads as it did. -/
def fnExactStripeMendUptoRow : OpenClaim := { program := "ythglkgicckodaaa", sum := "b2de0d0f2fe0041a32d920357bcced6e0880bde4e2dea70f8982df966615ea0f", func := "loop.example/keelson/laws.FnExactStripeMend", spec := "fnExactStripeMend", unfollowed := true, recurses := true, apart := false, narrowed := true }
def FnExactStripeMendUptoSaid : Prop := fnExactStripeMendUptoRow.holds Try.pinned (OpenSpec.upto fnExactStripeMendSpec)

/-- 'laws.FnExactPatchOk', WHERE WHAT IT READS IS OF BULK AT MOST 1048576: true; the input reads as it did. -/
def fnExactPatchOkUptoRow : OpenClaim := { program := "ythglkgicckodaaa", sum := "b2de0d0f2fe0041a32d920357bcced6e0880bde4e2dea70f8982df966615ea0f", func := "loop.example/keelson/laws.FnExactPatchOk", spec := "fnExactPatchOk", apart := false, narrowed := true }
def FnExactPatchOkUptoSaid : Prop := fnExactPatchOkUptoRow.holds Try.pinned (OpenSpec.upto fnExactPatchOkSpec)

/-- 'laws.FnExactPatchOf', WHERE WHAT IT READS IS OF BULK AT MOST 1048576: true; the input reads as it did. -/
def fnExactPatchOfUptoRow : OpenClaim := { program := "ythglkgicckodaaa", sum := "b2de0d0f2fe0041a32d920357bcced6e0880bde4e2dea70f8982df966615ea0f", func := "loop.example/keelson/laws.FnExactPatchOf", spec := "fnExactPatchOf", apart := false, narrowed := true }
def FnExactPatchOfUptoSaid : Prop := fnExactPatchOfUptoRow.holds Try.pinned (OpenSpec.upto fnExactPatchOfSpec)

/-- 'laws.FnExactPatchData', WHERE WHAT IT READS IS OF BULK AT MOST 1048576: true; the input reads as it did. -/
def fnExactPatchDataUptoRow : OpenClaim := { program := "ythglkgicckodaaa", sum := "b2de0d0f2fe0041a32d920357bcced6e0880bde4e2dea70f8982df966615ea0f", func := "loop.example/keelson/laws.FnExactPatchData", spec := "fnExactPatchData", unfollowed := true, recurses := true, apart := false, narrowed := true }
def FnExactPatchDataUptoSaid : Prop := fnExactPatchDataUptoRow.holds Try.pinned (OpenSpec.upto fnExactPatchDataSpec)

end Rows
end Go.Proofs.Ythglkgicckodaaa
