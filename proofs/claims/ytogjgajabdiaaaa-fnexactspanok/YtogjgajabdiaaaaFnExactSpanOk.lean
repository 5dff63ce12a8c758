/-
  For every slice of slices of integers, of at most 2^20 rows and elements together, SpanOk answers as its model does and changes nothing: the law FnExactSpanOk returns true.
  Conditions: none.
-/
import Derived.Test.YtogjgajabdiaaaaRows
import Derived.WalkKit
import Derived.ProofKit
import Derived.OpenShut
import Derived.ShutString
import Derived.ChangeOld
import Derived.Below
import Derived.Test.YtogjgajabdiaaaaFldMath
import Derived.Test.YtogjgajabdiaaaaMem
import Derived.Test.YtogjgajabdiaaaaField
import Derived.Test.YtogjgajabdiaaaaVecMath
import Derived.Test.YtogjgajabdiaaaaSpanMath
import Derived.Test.YtogjgajabdiaaaaSpanList
import Derived.Test.YtogjgajabdiaaaaSpanTidy
import Derived.Test.YtogjgajabdiaaaaSpanMore
import Derived.Test.YtogjgajabdiaaaaSpanBy
import Derived.Test.YtogjgajabdiaaaaSpanWork
import Derived.Test.YtogjgajabdiaaaaInts
import Derived.Test.YtogjgajabdiaaaaTabs
import Derived.Test.YtogjgajabdiaaaaHelp
import Derived.Test.YtogjgajabdiaaaaVec
import Derived.Test.YtogjgajabdiaaaaSpanHelp
import Derived.Test.YtogjgajabdiaaaaSpanHelp2
import Derived.Test.YtogjgajabdiaaaaSpanOk
namespace Go.Proofs.Ytogjgajabdiaaaa.fnExactSpanOk
open Go.ChangeShapes Go.WideShapes Go.ChangeAt Go.RowKit
set_option linter.unusedVariables false

theorem own : ownKnob Try.prog.godebug = none := by kernel_rfl
theorem laidOut : laidOutB Try.prog = true := by kernel_rfl

theorem walk (a0 : Option Addr) (len0 cap0 : Nat) (us0 : List Value) (t0 : List (List Int)) (w : World) (e0 : len0 = t0.length) (c0 : len0 ≤ cap0) (m0 : cap0 ≤ maxLen) (w0 : Tab w (.slice a0 len0 cap0) us0 t0) :
    Calls Try.prog 13 #[.slice a0 len0 cap0] w fun e w' => e = .returned (.bool true) ∧ Below w.heap.size w w' := by
  subst e0
  have TA := Lib.hid w0
  clear w0
  unfold maxLen at m0
  go_enter Try.func13, Try.ntmps13
  go_wp2_with fail
  refine (szIntSS _ us0 t0 1048576 _ TA.out (by omega) (by omega)).mono ?_
  rintro e w' ⟨r, rfl, rfl, r1, hz⟩
  by_cases hneg : r < 0
  · go_wp2_with fail
    go_ret
    exact ⟨rfl, Below.refl _ _⟩
  obtain ⟨hl, ht⟩ := hz (by omega)
  clear hz
  have L0 := Lib.hid (Lives.start w)
  go_wp2_with fail
  refine (toIntSS _ us0 t0 _ TA.out hl ht).mono ?_
  rintro e W1 ⟨x1, ux1, rfl, hg, hlx1, ho⟩
  have L1 := Lib.hid (L0.out.new hg ho)
  have T1 := Lib.hid (tab_own hlx1 ho)
  clear hg ho L0
  go_wp2_with fail
  refine (specSpanOk x1 ux1 t0 _ T1.out).mono ?_
  rintro e w' ⟨rfl, rfl⟩
  obtain ⟨q, hq⟩ : ∃ q, okM t0 = q := ⟨_, rfl⟩
  rw [hq]
  have Q := Lib.hid hq
  clear hq
  go_wp2_with fail
  refine (toIntSS _ us0 t0 _ (L1.out.arg TA.out) hl ht).mono ?_
  rintro e W2 ⟨x2, ux2, rfl, hg, hlx2, ho⟩
  have L2 := Lib.hid (L1.out.still hg)
  have T2 := Lib.hid (tab_own hlx2 ho)
  clear hg ho L1
  go_wp2_with fail
  refine (implSpanOk x2 ux2 t0 _ T2.out).mono ?_
  rintro e w' ⟨rfl, rfl⟩
  rw [Q.out]
  have hqq : (q != q) = false := by cases q <;> rfl
  go_wp2_with fail
  refine (toIntSS _ us0 t0 _ (L2.out.arg TA.out) hl ht).mono ?_
  rintro e W3 ⟨x3, ux3, rfl, hg, hlx3, ho⟩
  have L3 := Lib.hid (L2.out.still hg)
  have T3 := Lib.hid (tab_own hlx3 ho)
  have T2' := Lib.hid (T2.out.grown hg)
  clear hg ho L2
  go_wp2_with fail
  refine (eqTabSame x2 x3 ux2 ux3 t0 _ T2'.out T3.out).mono ?_
  rintro e W4 ⟨rfl, hg⟩
  have L4 := Lib.hid (L3.out.still hg)
  clear hg
  go_wp2_with fail
  go_ret
  exact ⟨rfl, L4.out.below⟩

set_option maxRecDepth 100000 in
theorem lifted (os : Os) (started : os.Started) (H : Type) (enc : TypeId × Value → H) :
    ReturnsInHanded {} Try.checked os 13 .any (Rows.fnExactSpanOkSpec.pre6 enc Try.prog Try.f13 Rows.fnExactSpanOkRow.domain false) (Rows.fnExactSpanOkSpec.post enc Try.prog Try.f13 false true false false) := by
  refine returnsInHanded_of_change (C := Try.checked) own started (by kernel_rfl) Try.func13
    (ChangeSpec.witness6 (enc := enc) (C := Try.checked) false ⟨#[], #[.slice none 0 0], []⟩ 8 (by kernel_rfl) (by kernel_rfl) (by kernel_rfl) (by kernel_rfl)) ?_
  intro W base args ds gs before hval0 hW hcnd _
  have hval : ∀ (j : Nat) t v, Try.f13.params[j]? = some t → args[j]? = some v → Value.okWide Try.prog W .any base t v := hval0
  have hW' := hW
  obtain ⟨p, q, hA0, hV, rfl, hfz, hnd⟩ := hW
  have hA : DataW.TrodAll enc Try.prog W 0 (fun _ => true) true Try.f13.params.toList args.toList ds p := hA0
  rw [Try.params13] at hA hval
  obtain ⟨v0, vs0, d0, ds0, p0, q0, hargs, rfl, rfl, h0, r0⟩ := trodAll_cons hA
  obtain ⟨rfl, rfl, rfl⟩ := trodAll_nil r0
  obtain rfl : args = #[v0] := by cases args; simp_all
  obtain ⟨rfl, rfl⟩ := trodVars_none hV
  obtain ⟨a0, len0, cap0, rfl⟩ := okWide_slice Try.underlying23 (hval 0 23 v0 rfl rfl)
  have k0 := h0
  have lt0 : ∀ x ∈ p0, x.block < W.heap.size := by obtain ⟨m, hm⟩ := k0; exact DataW.trod_lt m _ _ _ hm
  obtain ⟨us0, t0, e0, c0, m0, w0⟩ := tab_of Try.underlying23 Try.underlying29 Try.underlying3 (by kernel_rfl) (by kernel_rfl) h0
  clear hA0 hval0
  refine (walk a0 len0 cap0 us0 t0 W e0 c0 m0 w0).mono fun e W' ⟨he, bel⟩ => ?_
  subst he
  exact ⟨_, rfl, _, _, _, [], _, [], hW', trodAll_mk1 (shut_bool Try.underlying4 _), (trodAll_cons_mk (Below.trod laidOut (by kernel_rfl) (of_decide_eq_true (by kernel_rfl)) k0 bel lt0) trodAll_mk0), rfl, bel.frame _, fun h => by cases h⟩

theorem over : Rows.fnExactSpanOkRow.holds Try.pinned (OpenSpec.ofChange Rows.fnExactSpanOkSpec) :=
  OpenClaim.holds_of_wide 13 Try.f13 rfl rfl rfl rfl rfl rfl rfl ⟨rfl, rfl, rfl, rfl, rfl⟩ rfl rfl rfl rfl rfl (by kernel_rfl) Try.func13 (by kernel_rfl)
    (of_decide_eq_true (by kernel_rfl)) (by unfold Func.isWrapper; first | (rw [if_pos (by decide +kernel)]; kernel_rfl) | (rw [if_neg (by decide +kernel)]; exact ⟨rfl, rfl⟩))
    (fun os started H enc _ => lifted os started H enc)

theorem proved : Rows.FnExactSpanOkSaid := over
#print axioms proved
end Go.Proofs.Ytogjgajabdiaaaa.fnExactSpanOk
