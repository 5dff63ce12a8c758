/-
  For every slice of slices of integers, of at most 2^20 rows and elements together, SpanRank answers as its model does and changes nothing: the law FnExactSpanRank returns true.
  Conditions: none.
-/
import Derived.Test.YtogjgajabdiaaabRows
import Derived.WalkKit
import Derived.ProofKit
import Derived.OpenShut
import Derived.ShutString
import Derived.ChangeOld
import Derived.Below
import Derived.Test.YtogjgajabdiaaabFldMath
import Derived.Test.YtogjgajabdiaaabMem
import Derived.Test.YtogjgajabdiaaabField
import Derived.Test.YtogjgajabdiaaabVecMath
import Derived.Test.YtogjgajabdiaaabSpanMath
import Derived.Test.YtogjgajabdiaaabSpanList
import Derived.Test.YtogjgajabdiaaabSpanTidy
import Derived.Test.YtogjgajabdiaaabSpanMore
import Derived.Test.YtogjgajabdiaaabSpanBy
import Derived.Test.YtogjgajabdiaaabSpanWork
import Derived.Test.YtogjgajabdiaaabInts
import Derived.Test.YtogjgajabdiaaabTabs
import Derived.Test.YtogjgajabdiaaabHelp
import Derived.Test.YtogjgajabdiaaabVec
import Derived.Test.YtogjgajabdiaaabSpanHelp
import Derived.Test.YtogjgajabdiaaabSpanHelp2
import Derived.Test.YtogjgajabdiaaabSpanOk
import Derived.Test.YtogjgajabdiaaabSpanLine
import Derived.Test.YtogjgajabdiaaabSpanEch
import Derived.Test.YtogjgajabdiaaabVecSpec
import Derived.Test.YtogjgajabdiaaabSpanTake
import Derived.Test.YtogjgajabdiaaabSpanProg
import Derived.Test.YtogjgajabdiaaabSpanTops
import Derived.Test.YtogjgajabdiaaabSpanSpec
import Derived.Test.YtogjgajabdiaaabSpanSpec2
import Derived.Test.YtogjgajabdiaaabSpanSpec3
import Derived.Test.YtogjgajabdiaaabSpanSpec4
namespace Go.Proofs.Ytogjgajabdiaaab.fnExactSpanRank
open Go.ChangeShapes Go.WideShapes Go.ChangeAt Go.RowKit
set_option linter.unusedVariables false

theorem own : ownKnob Try.prog.godebug = none := by kernel_rfl
theorem laidOut : laidOutB Try.prog = true := by kernel_rfl

theorem walk (a0 : Option Addr) (len0 cap0 : Nat) (us0 : List Value) (t0 : List (List Int)) (w : World) (e0 : len0 = t0.length) (c0 : len0 ≤ cap0) (m0 : cap0 ≤ maxLen) (w0 : Tab w (.slice a0 len0 cap0) us0 t0) :
    Calls Try.prog 3 #[.slice a0 len0 cap0] w fun e w' => e = .returned (.bool true) ∧ Below w.heap.size w w' := by
  subst e0
  have TA := Lib.hid w0
  clear w0
  unfold maxLen at m0
  go_enter Try.func3, Try.ntmps3
  go_wp2_with fail
  refine (szIntSS _ us0 t0 1048576 _ TA.out (by omega) (by omega)).mono ?_
  rintro e w' ⟨r, rfl, rfl, r1, hz⟩
  by_cases hneg : r < 0
  · go_wp2_with fail
    go_ret
    exact ⟨rfl, Below.refl _ _⟩
  obtain ⟨hl, ht⟩ := hz (by omega)
  clear hz
  have L0 := Lib.hid (Lives.start w)
  go_wp2_with fail
  refine (toIntSS _ us0 t0 _ TA.out hl ht).mono ?_
  rintro e W1 ⟨x1, ux1, rfl, hg, hlx1, ho⟩
  have L1 := Lib.hid (L0.out.still hg)
  have T1 := Lib.hid (tab_own hlx1 ho)
  clear hg ho L0
  go_wp2_with fail
  refine (specSpanRank x1 ux1 t0 _ T1.out).mono ?_
  rintro e W2 ⟨rfl, hg⟩
  have L2 := Lib.hid (L1.out.still hg)
  obtain ⟨q, hq⟩ : ∃ q, rankM t0 = q := ⟨_, rfl⟩
  rw [hq]
  have Q := Lib.hid hq
  clear hq hg L1 T1
  go_wp2_with fail
  refine (toIntSS _ us0 t0 _ (L2.out.arg TA.out) hl ht).mono ?_
  rintro e W3 ⟨x2, ux2, rfl, hg, hlx2, ho⟩
  have L3 := Lib.hid (L2.out.still hg)
  have T2 := Lib.hid (tab_own hlx2 ho)
  clear hg ho L2
  go_wp2_with fail
  refine (implSpanRank x2 ux2 t0 _ T2.out).mono ?_
  rintro e W4 ⟨rfl, hg⟩
  rw [Q.out]
  have L4 := Lib.hid (L3.out.still hg)
  have T3 := Lib.hid (T2.out.grown hg)
  have hqq : (q != q) = false := by simp
  clear hg L3 T2
  go_wp2_with fail
  refine (toIntSS _ us0 t0 _ (L4.out.arg TA.out) hl ht).mono ?_
  rintro e W5 ⟨x3, ux3, rfl, hg, hlx3, ho⟩
  have L5 := Lib.hid (L4.out.still hg)
  have T4 := Lib.hid (tab_own hlx3 ho)
  have T5 := Lib.hid (T3.out.grown hg)
  clear hg ho L4 T3
  go_wp2_with fail
  refine (eqTabSame x2 x3 ux2 ux3 t0 _ T5.out T4.out).mono ?_
  rintro e W6 ⟨rfl, hg⟩
  have L6 := Lib.hid (L5.out.still hg)
  clear hg
  go_wp2_with fail
  go_ret
  exact ⟨rfl, L6.out.below⟩

set_option maxRecDepth 100000 in
theorem lifted (os : Os) (started : os.Started) (H : Type) (enc : TypeId × Value → H) :
    ReturnsInHanded {} Try.checked os 3 .any (Rows.fnExactSpanRankSpec.pre6 enc Try.prog Try.f3 Rows.fnExactSpanRankRow.domain false) (Rows.fnExactSpanRankSpec.post enc Try.prog Try.f3 false true false false) := by
  refine returnsInHanded_of_change (C := Try.checked) own started (by kernel_rfl) Try.func3
    (ChangeSpec.witness6 (enc := enc) (C := Try.checked) false ⟨#[], #[.slice none 0 0], []⟩ 8 (by kernel_rfl) (by kernel_rfl) (by kernel_rfl) (by kernel_rfl)) ?_
  intro W base args ds gs before hval0 hW hcnd _
  have hval : ∀ (j : Nat) t v, Try.f3.params[j]? = some t → args[j]? = some v → Value.okWide Try.prog W .any base t v := hval0
  have hW' := hW
  obtain ⟨p, q, hA0, hV, rfl, hfz, hnd⟩ := hW
  have hA : DataW.TrodAll enc Try.prog W 0 (fun _ => true) true Try.f3.params.toList args.toList ds p := hA0
  rw [Try.params3] at hA hval
  obtain ⟨v0, vs0, d0, ds0, p0, q0, hargs, rfl, rfl, h0, r0⟩ := trodAll_cons hA
  obtain ⟨rfl, rfl, rfl⟩ := trodAll_nil r0
  obtain rfl : args = #[v0] := by cases args; simp_all
  obtain ⟨rfl, rfl⟩ := trodVars_none hV
  obtain ⟨a0, len0, cap0, rfl⟩ := okWide_slice Try.underlying22 (hval 0 22 v0 rfl rfl)
  have k0 := h0
  have lt0 : ∀ x ∈ p0, x.block < W.heap.size := by obtain ⟨m, hm⟩ := k0; exact DataW.trod_lt m _ _ _ hm
  obtain ⟨us0, t0, e0, c0, m0, w0⟩ := tab_of Try.underlying22 Try.underlying28 Try.underlying3 (by kernel_rfl) (by kernel_rfl) h0
  clear hA0 hval0
  refine (walk a0 len0 cap0 us0 t0 W e0 c0 m0 w0).mono fun e W' ⟨he, bel⟩ => ?_
  subst he
  exact ⟨_, rfl, _, _, _, [], _, [], hW', trodAll_mk1 (shut_bool Try.underlying4 _), (trodAll_cons_mk (Below.trod laidOut (by kernel_rfl) (of_decide_eq_true (by kernel_rfl)) k0 bel lt0) trodAll_mk0), rfl, bel.frame _, fun h => by cases h⟩

theorem over : Rows.fnExactSpanRankRow.holds Try.pinned (OpenSpec.ofChange Rows.fnExactSpanRankSpec) :=
  OpenClaim.holds_of_wide 3 Try.f3 rfl rfl rfl rfl rfl rfl rfl ⟨rfl, rfl, rfl, rfl, rfl⟩ rfl rfl rfl rfl rfl (by kernel_rfl) Try.func3 (by kernel_rfl)
    (of_decide_eq_true (by kernel_rfl)) (by unfold Func.isWrapper; first | (rw [if_pos (by decide +kernel)]; kernel_rfl) | (rw [if_neg (by decide +kernel)]; exact ⟨rfl, rfl⟩))
    (fun os started H enc _ => lifted os started H enc)

theorem proved : Rows.FnExactSpanRankSaid := over
#print axioms proved
end Go.Proofs.Ytogjgajabdiaaab.fnExactSpanRank
