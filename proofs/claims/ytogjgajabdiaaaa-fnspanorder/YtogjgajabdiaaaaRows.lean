/-
  No cell of these rows narrows 'for every input' (looked for: loops, veiled, ifaces, maps, wideKeys, modest, calm, conditions, laid).
  DERIVED. THE GIVEN ROWS OF THIS SEAT. 12 by the template 'for every input the law returns true; each argument reads behind the call as it read before'; 0 by the template 'total and deterministic' (their statements: YtogjgajabdiaaaaTotals.lean).
  GIVEN WITH THE SEED: the statements are not yours to turn. If you find one false, say at which input.
  Laid BY PROGRAM, IN A SANDBOX (cutbox-rows.mjs): the forced cells as the released guide's own fill.sh prints them over the translation b638ce72175fdd82… (all of the seat's roots in one cut). By AI agents, Wed Nov 11 2026. No macro, syntax, notation, axiom, sorry.
-/
import Derived.Test.YtogjgajabdiaaaaChecked
import GoSem.Claim
import GoSem.ClaimJoined
import GoSem.ClaimMapViews
import Derived.JoinedTies
import Derived.KernelRfl
namespace Go.Proofs.Ytogjgajabdiaaaa
/- THE CELL 'sum', in the pinned program and in every row, IS THE sha256 OF THE DUMP (.gsa) THAT YtogjgajabdiaaaaProg.lean LOADS. Nothing in Lean hashes anything: it is a label: what it is worth is what the hold of that sum in a sandbox is worth. -/
noncomputable def Try.pinned : Pinned := { name := "ytogjgajabdiaaaa", sum := "b638ce72175fdd82d341321246955dab980e3fa0ef638f4682b599c0e9f21f31", checked := Try.checked }
namespace Rows
def none {H : Type} : Left H := { results := [], args := [] }

/-- 'laws.FnTidyForm': WHATEVER THE INPUT: true; the input reads as it did. -/
def fnTidyFormSpec : ChangeSpec := { name := "fnTidyForm", fn := fun _ => fun
  | [d] => { results := [.lit (.bool true)], args := [d] }
  | _ => none }
def fnTidyFormRow : OpenClaim := { program := "ytogjgajabdiaaaa", sum := "b638ce72175fdd82d341321246955dab980e3fa0ef638f4682b599c0e9f21f31", func := "loop.example/keelson/laws.FnTidyForm", spec := "fnTidyForm", unfollowed := true, recurses := true, apart := false }
def FnTidyFormSaid : Prop := fnTidyFormRow.holds Try.pinned (OpenSpec.ofChange fnTidyFormSpec)

/-- ITS FALSE NEIGHBOUR: 'it returns false'. Refute it at one input. -/
def fnTidyFormWrong : ChangeSpec := { name := "fnTidyForm", fn := fun _ => fun
  | [d] => { results := [.lit (.bool false)], args := [d] }
  | _ => none }
def FnTidyFormWrongFalsely : Prop := fnTidyFormRow.holds Try.pinned (OpenSpec.ofChange fnTidyFormWrong)

/-- 'laws.FnTidySame': WHATEVER THE INPUT: true; the input reads as it did. -/
def fnTidySameSpec : ChangeSpec := { name := "fnTidySame", fn := fun _ => fun
  | [d] => { results := [.lit (.bool true)], args := [d] }
  | _ => none }
def fnTidySameRow : OpenClaim := { program := "ytogjgajabdiaaaa", sum := "b638ce72175fdd82d341321246955dab980e3fa0ef638f4682b599c0e9f21f31", func := "loop.example/keelson/laws.FnTidySame", spec := "fnTidySame", unfollowed := true, recurses := true, apart := false }
def FnTidySameSaid : Prop := fnTidySameRow.holds Try.pinned (OpenSpec.ofChange fnTidySameSpec)

/-- ITS FALSE NEIGHBOUR: 'it returns false'. Refute it at one input. -/
def fnTidySameWrong : ChangeSpec := { name := "fnTidySame", fn := fun _ => fun
  | [d] => { results := [.lit (.bool false)], args := [d] }
  | _ => none }
def FnTidySameWrongFalsely : Prop := fnTidySameRow.holds Try.pinned (OpenSpec.ofChange fnTidySameWrong)

/-- 'laws.FnSpanSame': WHATEVER THE INPUT: true; the input reads as it did. -/
def fnSpanSameSpec : ChangeSpec := { name := "fnSpanSame", fn := fun _ => fun
  | [d] => { results := [.lit (.bool true)], args := [d] }
  | _ => none }
def fnSpanSameRow : OpenClaim := { program := "ytogjgajabdiaaaa", sum := "b638ce72175fdd82d341321246955dab980e3fa0ef638f4682b599c0e9f21f31", func := "loop.example/keelson/laws.FnSpanSame", spec := "fnSpanSame", unfollowed := true, recurses := true, apart := false }
def FnSpanSameSaid : Prop := fnSpanSameRow.holds Try.pinned (OpenSpec.ofChange fnSpanSameSpec)

/-- ITS FALSE NEIGHBOUR: 'it returns false'. Refute it at one input. -/
def fnSpanSameWrong : ChangeSpec := { name := "fnSpanSame", fn := fun _ => fun
  | [d] => { results := [.lit (.bool false)], args := [d] }
  | _ => none }
def FnSpanSameWrongFalsely : Prop := fnSpanSameRow.holds Try.pinned (OpenSpec.ofChange fnSpanSameWrong)

/-- 'laws.FnSpanRank': WHATEVER THE INPUT: true; the input reads as it did. -/
def fnSpanRankSpec : ChangeSpec := { name := "fnSpanRank", fn := fun _ => fun
  | [d1, d2] => { results := [.lit (.bool true)], args := [d1, d2] }
  | _ => none }
def fnSpanRankRow : OpenClaim := { program := "ytogjgajabdiaaaa", sum := "b638ce72175fdd82d341321246955dab980e3fa0ef638f4682b599c0e9f21f31", func := "loop.example/keelson/laws.FnSpanRank", spec := "fnSpanRank", unfollowed := true, recurses := true, apart := false }
def FnSpanRankSaid : Prop := fnSpanRankRow.holds Try.pinned (OpenSpec.ofChange fnSpanRankSpec)

/-- ITS FALSE NEIGHBOUR: 'it returns false'. Refute it at one input. -/
def fnSpanRankWrong : ChangeSpec := { name := "fnSpanRank", fn := fun _ => fun
  | [d1, d2] => { results := [.lit (.bool false)], args := [d1, d2] }
  | _ => none }
def FnSpanRankWrongFalsely : Prop := fnSpanRankRow.holds Try.pinned (OpenSpec.ofChange fnSpanRankWrong)

/-- 'laws.FnSpanHas': WHATEVER THE INPUT: true; the input reads as it did. -/
def fnSpanHasSpec : ChangeSpec := { name := "fnSpanHas", fn := fun _ => fun
  | [d1, d2] => { results := [.lit (.bool true)], args := [d1, d2] }
  | _ => none }
def fnSpanHasRow : OpenClaim := { program := "ytogjgajabdiaaaa", sum := "b638ce72175fdd82d341321246955dab980e3fa0ef638f4682b599c0e9f21f31", func := "loop.example/keelson/laws.FnSpanHas", spec := "fnSpanHas", unfollowed := true, recurses := true, apart := false }
def FnSpanHasSaid : Prop := fnSpanHasRow.holds Try.pinned (OpenSpec.ofChange fnSpanHasSpec)

/-- ITS FALSE NEIGHBOUR: 'it returns false'. Refute it at one input. -/
def fnSpanHasWrong : ChangeSpec := { name := "fnSpanHas", fn := fun _ => fun
  | [d1, d2] => { results := [.lit (.bool false)], args := [d1, d2] }
  | _ => none }
def FnSpanHasWrongFalsely : Prop := fnSpanHasRow.holds Try.pinned (OpenSpec.ofChange fnSpanHasWrong)

/-- 'laws.FnSpanBy': WHATEVER THE INPUT: true; the input reads as it did. -/
def fnSpanBySpec : ChangeSpec := { name := "fnSpanBy", fn := fun _ => fun
  | [d] => { results := [.lit (.bool true)], args := [d] }
  | _ => none }
def fnSpanByRow : OpenClaim := { program := "ytogjgajabdiaaaa", sum := "b638ce72175fdd82d341321246955dab980e3fa0ef638f4682b599c0e9f21f31", func := "loop.example/keelson/laws.FnSpanBy", spec := "fnSpanBy", unfollowed := true, recurses := true, apart := false }
def FnSpanBySaid : Prop := fnSpanByRow.holds Try.pinned (OpenSpec.ofChange fnSpanBySpec)

/-- ITS FALSE NEIGHBOUR: 'it returns false'. Refute it at one input. -/
def fnSpanByWrong : ChangeSpec := { name := "fnSpanBy", fn := fun _ => fun
  | [d] => { results := [.lit (.bool false)], args := [d] }
  | _ => none }
def FnSpanByWrongFalsely : Prop := fnSpanByRow.holds Try.pinned (OpenSpec.ofChange fnSpanByWrong)

/-- 'laws.FnSpanOne': WHATEVER THE INPUT: true; the input reads as it did. -/
def fnSpanOneSpec : ChangeSpec := { name := "fnSpanOne", fn := fun _ => fun
  | [d1, d2] => { results := [.lit (.bool true)], args := [d1, d2] }
  | _ => none }
def fnSpanOneRow : OpenClaim := { program := "ytogjgajabdiaaaa", sum := "b638ce72175fdd82d341321246955dab980e3fa0ef638f4682b599c0e9f21f31", func := "loop.example/keelson/laws.FnSpanOne", spec := "fnSpanOne", unfollowed := true, recurses := true, apart := false }
def FnSpanOneSaid : Prop := fnSpanOneRow.holds Try.pinned (OpenSpec.ofChange fnSpanOneSpec)

/-- ITS FALSE NEIGHBOUR: 'it returns false'. Refute it at one input. -/
def fnSpanOneWrong : ChangeSpec := { name := "fnSpanOne", fn := fun _ => fun
  | [d1, d2] => { results := [.lit (.bool false)], args := [d1, d2] }
  | _ => none }
def FnSpanOneWrongFalsely : Prop := fnSpanOneRow.holds Try.pinned (OpenSpec.ofChange fnSpanOneWrong)

/-- 'laws.FnSpanFirst': WHATEVER THE INPUT: true; the input reads as it did. -/
def fnSpanFirstSpec : ChangeSpec := { name := "fnSpanFirst", fn := fun _ => fun
  | [d] => { results := [.lit (.bool true)], args := [d] }
  | _ => none }
def fnSpanFirstRow : OpenClaim := { program := "ytogjgajabdiaaaa", sum := "b638ce72175fdd82d341321246955dab980e3fa0ef638f4682b599c0e9f21f31", func := "loop.example/keelson/laws.FnSpanFirst", spec := "fnSpanFirst", unfollowed := true, recurses := true, apart := false }
def FnSpanFirstSaid : Prop := fnSpanFirstRow.holds Try.pinned (OpenSpec.ofChange fnSpanFirstSpec)

/-- ITS FALSE NEIGHBOUR: 'it returns false'. Refute it at one input. -/
def fnSpanFirstWrong : ChangeSpec := { name := "fnSpanFirst", fn := fun _ => fun
  | [d] => { results := [.lit (.bool false)], args := [d] }
  | _ => none }
def FnSpanFirstWrongFalsely : Prop := fnSpanFirstRow.holds Try.pinned (OpenSpec.ofChange fnSpanFirstWrong)

/-- 'laws.FnSpanForm': WHATEVER THE INPUT: true; the input reads as it did. -/
def fnSpanFormSpec : ChangeSpec := { name := "fnSpanForm", fn := fun _ => fun
  | [d1, d2] => { results := [.lit (.bool true)], args := [d1, d2] }
  | _ => none }
def fnSpanFormRow : OpenClaim := { program := "ytogjgajabdiaaaa", sum := "b638ce72175fdd82d341321246955dab980e3fa0ef638f4682b599c0e9f21f31", func := "loop.example/keelson/laws.FnSpanForm", spec := "fnSpanForm", apart := false }
def FnSpanFormSaid : Prop := fnSpanFormRow.holds Try.pinned (OpenSpec.ofChange fnSpanFormSpec)

/-- ITS FALSE NEIGHBOUR: 'it returns false'. Refute it at one input. -/
def fnSpanFormWrong : ChangeSpec := { name := "fnSpanForm", fn := fun _ => fun
  | [d1, d2] => { results := [.lit (.bool false)], args := [d1, d2] }
  | _ => none }
def FnSpanFormWrongFalsely : Prop := fnSpanFormRow.holds Try.pinned (OpenSpec.ofChange fnSpanFormWrong)

/-- 'laws.FnSpanOrder': WHATEVER THE INPUT: true; the input reads as it did. -/
def fnSpanOrderSpec : ChangeSpec := { name := "fnSpanOrder", fn := fun _ => fun
  | [d1, d2] => { results := [.lit (.bool true)], args := [d1, d2] }
  | _ => none }
def fnSpanOrderRow : OpenClaim := { program := "ytogjgajabdiaaaa", sum := "b638ce72175fdd82d341321246955dab980e3fa0ef638f4682b599c0e9f21f31", func := "loop.example/keelson/laws.FnSpanOrder", spec := "fnSpanOrder", unfollowed := true, recurses := true, apart := false }
def FnSpanOrderSaid : Prop := fnSpanOrderRow.holds Try.pinned (OpenSpec.ofChange fnSpanOrderSpec)

/-- ITS FALSE NEIGHBOUR: 'it returns false'. Refute it at one input. -/
def fnSpanOrderWrong : ChangeSpec := { name := "fnSpanOrder", fn := fun _ => fun
  | [d1, d2] => { results := [.lit (.bool false)], args := [d1, d2] }
  | _ => none }
def FnSpanOrderWrongFalsely : Prop := fnSpanOrderRow.holds Try.pinned (OpenSpec.ofChange fnSpanOrderWrong)

/-- 'laws.FnExactSpanOk': WHATEVER THE INPUT: true; the input reads as it did. -/
def fnExactSpanOkSpec : ChangeSpec := { name := "fnExactSpanOk", fn := fun _ => fun
  | [d] => { results := [.lit (.bool true)], args := [d] }
  | _ => none }
def fnExactSpanOkRow : OpenClaim := { program := "ytogjgajabdiaaaa", sum := "b638ce72175fdd82d341321246955dab980e3fa0ef638f4682b599c0e9f21f31", func := "loop.example/keelson/laws.FnExactSpanOk", spec := "fnExactSpanOk", apart := false }
def FnExactSpanOkSaid : Prop := fnExactSpanOkRow.holds Try.pinned (OpenSpec.ofChange fnExactSpanOkSpec)

/-- ITS FALSE NEIGHBOUR: 'it returns false'. Refute it at one input. -/
def fnExactSpanOkWrong : ChangeSpec := { name := "fnExactSpanOk", fn := fun _ => fun
  | [d] => { results := [.lit (.bool false)], args := [d] }
  | _ => none }
def FnExactSpanOkWrongFalsely : Prop := fnExactSpanOkRow.holds Try.pinned (OpenSpec.ofChange fnExactSpanOkWrong)

/-- 'laws.FnExactSpanTidy': WHATEVER THE INPUT: true; the input reads as it did. -/
def fnExactSpanTidySpec : ChangeSpec := { name := "fnExactSpanTidy", fn := fun _ => fun
  | [d] => { results := [.lit (.bool true)], args := [d] }
  | _ => none }
def fnExactSpanTidyRow : OpenClaim := { program := "ytogjgajabdiaaaa", sum := "b638ce72175fdd82d341321246955dab980e3fa0ef638f4682b599c0e9f21f31", func := "loop.example/keelson/laws.FnExactSpanTidy", spec := "fnExactSpanTidy", unfollowed := true, recurses := true, apart := false }
def FnExactSpanTidySaid : Prop := fnExactSpanTidyRow.holds Try.pinned (OpenSpec.ofChange fnExactSpanTidySpec)

/-- ITS FALSE NEIGHBOUR: 'it returns false'. Refute it at one input. -/
def fnExactSpanTidyWrong : ChangeSpec := { name := "fnExactSpanTidy", fn := fun _ => fun
  | [d] => { results := [.lit (.bool false)], args := [d] }
  | _ => none }
def FnExactSpanTidyWrongFalsely : Prop := fnExactSpanTidyRow.holds Try.pinned (OpenSpec.ofChange fnExactSpanTidyWrong)

/- THE SECOND FORM. 'bulk': how many values and letters a reading holds, each counted each time it is reached (what is shared counts as often as it is met; a slice's spare places count too). A statement '..UptoSaid' is the law's where the arguments, and the package variables that the reading takes, are together of bulk at most 1048576: NARROWER than '..Said'. Prove '..Said' where nothing that the law and all that it calls make is longer than what came in: it says more and counts as full. Else prove '..UptoSaid'. A law counts once. -/
mutual
def uptoBulk {H : Type} : DataW H → Nat
  | .lit (.string bytes) => bytes.length + 1
  | .lit _ => 1
  | .nil => 1
  | .ptr d => uptoBulk d + 1
  | .slice elems spare => uptoBulkAll elems + uptoBulkAll spare + 1
  | .agg parts => uptoBulkAll parts + 1
  | .iface _ d => uptoBulk d + 1
  | .map entries => uptoBulkEntries entries + 1
  | .held _ => 1
def uptoBulkAll {H : Type} : List (DataW H) → Nat
  | [] => 0
  | d :: r => uptoBulk d + uptoBulkAll r
def uptoBulkEntries {H : Type} : List (Lit × DataW H) → Nat
  | [] => 0
  | x :: r => uptoBulkEntry x + uptoBulkEntries r
def uptoBulkEntry {H : Type} : Lit × DataW H → Nat
  | (.string bytes, d) => bytes.length + uptoBulk d + 1
  | (_, d) => uptoBulk d + 1
 end
def uptoSmall : (H : Type) → List (DataW H) → Bool := fun _ ds => decide (uptoBulkAll ds ≤ 1048576)
def OpenSpec.upto (s : _root_.Go.ChangeSpec) : _root_.Go.OpenSpec := { _root_.Go.OpenSpec.ofChange s with cond := some uptoSmall }

/-- 'laws.FnTidyForm', WHERE WHAT IT READS IS OF BULK AT MOST 1048576: true; the input reads as it did. -/
def fnTidyFormUptoRow : OpenClaim := { program := "ytogjgajabdiaaaa", sum := "b638ce72175fdd82d341321246955dab980e3fa0ef638f4682b599c0e9f21f31", func := "loop.example/keelson/laws.FnTidyForm", spec := "fnTidyForm", unfollowed := true, recurses := true, apart := false, narrowed := true }
def FnTidyFormUptoSaid : Prop := fnTidyFormUptoRow.holds Try.pinned (OpenSpec.upto fnTidyFormSpec)

/-- 'laws.FnTidySame', WHERE WHAT IT READS IS OF BULK AT MOST 1048576: true; the input reads as it did. -/
def fnTidySameUptoRow : OpenClaim := { program := "ytogjgajabdiaaaa", sum := "b638ce72175fdd82d341321246955dab980e3fa0ef638f4682b599c0e9f21f31", func := "loop.example/keelson/laws.FnTidySame", spec := "fnTidySame", unfollowed := true, recurses := true, apart := false, narrowed := true }
def FnTidySameUptoSaid : Prop := fnTidySameUptoRow.holds Try.pinned (OpenSpec.upto fnTidySameSpec)

/-- 'laws.FnSpanSame', WHERE WHAT IT READS IS OF BULK AT MOST 1048576: true; the input reads as it did. -/
def fnSpanSameUptoRow : OpenClaim := { program := "ytogjgajabdiaaaa", sum := "b638ce72175fdd82d341321246955dab980e3fa0ef638f4682b599c0e9f21f31", func := "loop.example/keelson/laws.FnSpanSame", spec := "fnSpanSame", unfollowed := true, recurses := true, apart := false, narrowed := true }
def FnSpanSameUptoSaid : Prop := fnSpanSameUptoRow.holds Try.pinned (OpenSpec.upto fnSpanSameSpec)

/-- 'laws.FnSpanRank', WHERE WHAT IT READS IS OF BULK AT MOST 1048576: true; the input reads as it did. -/
def fnSpanRankUptoRow : OpenClaim := { program := "ytogjgajabdiaaaa", sum := "b638ce72175fdd82d341321246955dab980e3fa0ef638f4682b599c0e9f21f31", func := "loop.example/keelson/laws.FnSpanRank", spec := "fnSpanRank", unfollowed := true, recurses := true, apart := false, narrowed := true }
def FnSpanRankUptoSaid : Prop := fnSpanRankUptoRow.holds Try.pinned (OpenSpec.upto fnSpanRankSpec)

/-- 'laws.FnSpanHas', WHERE WHAT IT READS IS OF BULK AT MOST 1048576: true; the input reads as it did. -/
def fnSpanHasUptoRow : OpenClaim := { program := "ytogjgajabdiaaaa", sum := "b638ce72175fdd82d341321246955dab980e3fa0ef638f4682b599c0e9f21f31", func := "loop.example/keelson/laws.FnSpanHas", spec := "fnSpanHas", unfollowed := true, recurses := true, apart := false, narrowed := true }
def FnSpanHasUptoSaid : Prop := fnSpanHasUptoRow.holds Try.pinned (OpenSpec.upto fnSpanHasSpec)

/-- 'laws.FnSpanBy', WHERE WHAT IT READS IS OF BULK AT MOST 1048576: true; the input reads as it did. -/
def fnSpanByUptoRow : OpenClaim := { program := "ytogjgajabdiaaaa", sum := "b638ce72175fdd82d341321246955dab980e3fa0ef638f4682b599c0e9f21f31", func := "loop.example/keelson/laws.FnSpanBy", spec := "fnSpanBy", unfollowed := true, recurses := true, apart := false, narrowed := true }
def FnSpanByUptoSaid : Prop := fnSpanByUptoRow.holds Try.pinned (OpenSpec.upto fnSpanBySpec)

/-- 'laws.FnSpanOne', WHERE WHAT IT READS IS OF BULK AT MOST 1048576: true; the input reads as it did. -/
def fnSpanOneUptoRow : OpenClaim := { program := "ytogjgajabdiaaaa", sum := "b638ce72175fdd82d341321246955dab980e3fa0ef638f4682b599c0e9f21f31", func := "loop.example/keelson/laws.FnSpanOne", spec := "fnSpanOne", unfollowed := true, recurses := true, apart := false, narrowed := true }
def FnSpanOneUptoSaid : Prop := fnSpanOneUptoRow.holds Try.pinned (OpenSpec.upto fnSpanOneSpec)

/-- 'laws.FnSpanFirst', WHERE WHAT IT READS IS OF BULK AT MOST 1048576: true; the input reads as it did. -/
def fnSpanFirstUptoRow : OpenClaim := { program := "ytogjgajabdiaaaa", sum := "b638ce72175fdd82d341321246955dab980e3fa0ef638f4682b599c0e9f21f31", func := "loop.example/keelson/laws.FnSpanFirst", spec := "fnSpanFirst", unfollowed := true, recurses := true, apart := false, narrowed := true }
def FnSpanFirstUptoSaid : Prop := fnSpanFirstUptoRow.holds Try.pinned (OpenSpec.upto fnSpanFirstSpec)

/-- 'laws.FnSpanForm', WHERE WHAT IT READS IS OF BULK AT MOST 1048576: true; the input reads as it did. -/
def fnSpanFormUptoRow : OpenClaim := { program := "ytogjgajabdiaaaa", sum := "b638ce72175fdd82d341321246955dab980e3fa0ef638f4682b599c0e9f21f31", func := "loop.example/keelson/laws.FnSpanForm", spec := "fnSpanForm", apart := false, narrowed := true }
def FnSpanFormUptoSaid : Prop := fnSpanFormUptoRow.holds Try.pinned (OpenSpec.upto fnSpanFormSpec)

/-- 'laws.FnSpanOrder', WHERE WHAT IT READS IS OF BULK AT MOST 1048576: true; the input reads as it did. -/
def fnSpanOrderUptoRow : OpenClaim := { program := "ytogjgajabdiaaaa", sum := "b638ce72175fdd82d341321246955dab980e3fa0ef638f4682b599c0e9f21f31", func := "loop.example/keelson/laws.FnSpanOrder", spec := "fnSpanOrder", unfollowed := true, recurses := true, apart := false, narrowed := true }
def FnSpanOrderUptoSaid : Prop := fnSpanOrderUptoRow.holds Try.pinned (OpenSpec.upto fnSpanOrderSpec)

/-- 'laws.FnExactSpanOk', WHERE WHAT IT READS IS OF BULK AT MOST 1048576: true; the input reads as it did. -/
def fnExactSpanOkUptoRow : OpenClaim := { program := "ytogjgajabdiaaaa", sum := "b638ce72175fdd82d341321246955dab980e3fa0ef638f4682b599c0e9f21f31", func := "loop.example/keelson/laws.FnExactSpanOk", spec := "fnExactSpanOk", apart := false, narrowed := true }
def FnExactSpanOkUptoSaid : Prop := fnExactSpanOkUptoRow.holds Try.pinned (OpenSpec.upto fnExactSpanOkSpec)

/-- 'laws.FnExactSpanTidy', WHERE WHAT IT READS IS OF BULK AT MOST 1048576: true; the input reads as it did. -/
def fnExactSpanTidyUptoRow : OpenClaim := { program := "ytogjgajabdiaaaa", sum := "b638ce72175fdd82d341321246955dab980e3fa0ef638f4682b599c0e9f21f31", func := "loop.example/keelson/laws.FnExactSpanTidy", spec := "fnExactSpanTidy", unfollowed := true, recurses := true, apart := false, narrowed := true }
def FnExactSpanTidyUptoSaid : Prop := fnExactSpanTidyUptoRow.holds Try.pinned (OpenSpec.upto fnExactSpanTidySpec)

end Rows
end Go.Proofs.Ytogjgajabdiaaaa
