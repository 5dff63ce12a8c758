/-
  For every slice of slices of integers, of at most 2^20 rows and elements together, SpanFirst answers as its model does, changes nothing, and its answer owns its memory: the law FnExactSpanFirst returns true.
  Conditions: none.
-/
import Derived.Test.YtogjgajabdiaaabRows
import Derived.WalkKit
import Derived.ProofKit
import Derived.OpenShut
import Derived.ShutString
import Derived.ChangeOld
import Derived.Below
import Derived.Test.YtogjgajabdiaaabFldMath
import Derived.Test.YtogjgajabdiaaabMem
import Derived.Test.YtogjgajabdiaaabField
import Derived.Test.YtogjgajabdiaaabVecMath
import Derived.Test.YtogjgajabdiaaabSpanMath
import Derived.Test.YtogjgajabdiaaabSpanList
import Derived.Test.YtogjgajabdiaaabSpanTidy
import Derived.Test.YtogjgajabdiaaabSpanMore
import Derived.Test.YtogjgajabdiaaabSpanBy
import Derived.Test.YtogjgajabdiaaabSpanWork
import Derived.Test.YtogjgajabdiaaabInts
import Derived.Test.YtogjgajabdiaaabTabs
import Derived.Test.YtogjgajabdiaaabHelp
import Derived.Test.YtogjgajabdiaaabVec
import Derived.Test.YtogjgajabdiaaabSpanHelp
import Derived.Test.YtogjgajabdiaaabSpanHelp2
import Derived.Test.YtogjgajabdiaaabSpanOk
import Derived.Test.YtogjgajabdiaaabSpanLine
import Derived.Test.YtogjgajabdiaaabSpanEch
import Derived.Test.YtogjgajabdiaaabVecSpec
import Derived.Test.YtogjgajabdiaaabSpanTake
import Derived.Test.YtogjgajabdiaaabSpanProg
import Derived.Test.YtogjgajabdiaaabSpanTops
import Derived.Test.YtogjgajabdiaaabSpanSpec
import Derived.Test.YtogjgajabdiaaabSpanSpec2
import Derived.Test.YtogjgajabdiaaabSpanSpec3
import Derived.Test.YtogjgajabdiaaabSpanSpec4
namespace Go.Proofs.Ytogjgajabdiaaab.fnExactSpanFirst
open Go.ChangeShapes Go.WideShapes Go.ChangeAt Go.RowKit
set_option linter.unusedVariables false

theorem own : ownKnob Try.prog.godebug = none := by kernel_rfl
theorem laidOut : laidOutB Try.prog = true := by kernel_rfl

theorem firstM_len (m : List (List Int)) : (firstM m).length ≤ 1048576 := by
  cases h : okM m with
  | false => rw [firstM_no h]; simp
  | true =>
    rw [firstM_yes h, List.length_map]
    have := Sp.first_len m
    have := okM_len h
    omega

theorem walk (a0 : Option Addr) (len0 cap0 : Nat) (us0 : List Value) (t0 : List (List Int)) (w : World) (e0 : len0 = t0.length) (c0 : len0 ≤ cap0) (m0 : cap0 ≤ maxLen) (w0 : Tab w (.slice a0 len0 cap0) us0 t0) :
    Calls Try.prog 5 #[.slice a0 len0 cap0] w fun e w' => e = .returned (.bool true) ∧ Below w.heap.size w w' := by
  subst e0
  have TA := Lib.hid w0
  clear w0
  unfold maxLen at m0
  go_enter Try.func5, Try.ntmps5
  go_wp2_with fail
  refine (szIntSS _ us0 t0 1048576 _ TA.out (by omega) (by omega)).mono ?_
  rintro e w' ⟨r, rfl, rfl, r1, hz⟩
  by_cases hneg : r < 0
  · go_wp2_with fail
    go_ret
    exact ⟨rfl, Below.refl _ _⟩
  obtain ⟨hl, ht⟩ := hz (by omega)
  clear hz
  have hl' := firstM_len t0
  obtain ⟨R, hR⟩ : ∃ R, firstM t0 = R := ⟨_, rfl⟩
  rw [hR] at hl'
  have HR := Lib.hid hR
  clear hR
  go_wp2_with fail
  refine (toIntSS _ us0 t0 _ TA.out hl ht).mono ?_
  rintro e W1 ⟨y1, uy1, rfl, hg, hly1, ho⟩
  have G1 := Lib.hid hg
  have T1 := Lib.hid (tab_own hly1 ho)
  clear hg ho
  go_wp2_with fail
  refine (specSpanFirst y1 uy1 t0 _ T1.out).mono ?_
  rintro e W2 ⟨r0, rfl, hg, ho⟩
  have G2 := Lib.hid (grown_trans G1.out hg)
  have TR : Hid (Sl W2 r0 R) := Lib.hid (by rw [← HR.out]; exact ho.sl)
  have TA2 := Lib.hid (TA.out.grown G2.out)
  have L0 := Lib.hid (Lives.start W2)
  clear hg ho G1 T1
  go_wp2_with fail
  refine (toIntSS _ us0 t0 _ (L0.out.arg TA2.out) hl ht).mono ?_
  rintro e W3 ⟨x0, ux0, rfl, hg, hlx0, ho⟩
  have L1 : Hid (Lives W2 W3 (tabItems x0 ux0 t0)) := Lib.hid (by have := L0.out.new hg ho; rwa [List.append_nil] at this)
  have TX := Lib.hid (tab_own hlx0 ho)
  clear hg ho L0
  go_wp2_with fail
  refine (implSpanFirst x0 ux0 t0 _ TX.out).mono ?_
  rintro e W4 ⟨g0, rfl, hg, ho⟩
  rw [HR.out] at ho
  have L2 := Lib.hid (L1.out.new1 hg ho)
  have TX2 := Lib.hid (TX.out.grown hg)
  clear hg ho L1 TX
  go_wp2_with fail
  refine (eqSame g0 r0 R _ (L2.out.sl (by simp)) (L2.out.arg1 TR.out)).mono ?_
  rintro e W5 ⟨rfl, hg⟩
  have L3 := Lib.hid (L2.out.still hg)
  have TX3 := Lib.hid (TX2.out.grown hg)
  clear hg L2 TX2
  go_wp2_with fail
  refine (toIntSS _ us0 t0 _ (L3.out.arg TA2.out) hl ht).mono ?_
  rintro e W6 ⟨z1, uz1, rfl, hg, hlz1, ho⟩
  have L4 := Lib.hid (L3.out.still hg)
  have TX4 := Lib.hid (TX3.out.grown hg)
  have TZ := Lib.hid (tab_own hlz1 ho)
  clear hg ho L3 TX3
  go_wp2_with fail
  refine (eqTabSame x0 z1 ux0 uz1 t0 _ TX4.out TZ.out).mono ?_
  rintro e W7 ⟨rfl, hg⟩
  have L5 : Hid (Lives W2 W7 ([row1 g0 R] ++ tabItems x0 ux0 t0 ++ [])) := Lib.hid (by have := L4.out.still hg; rwa [List.append_nil])
  clear hg L4 TX4 TZ
  go_wp2_with fail
  refine (markIntSS W2 _ _ x0 ux0 t0 1 _ L5.out hlx0 hl ht (by omega) (by omega)).mono ?_
  rintro e W8 ⟨rfl, hL⟩
  have L6 := Lib.hid hL
  have hk : ¬ 1 + (tot t0 : Int) < 0 := by omega
  clear hL L5
  go_wp2_with fail
  refine (eqSame g0 r0 R _ (L6.out.sl (by simp)) (L6.out.arg1 TR.out)).mono ?_
  rintro e W9 ⟨rfl, hg⟩
  have L7 : Hid (Lives W2 W9 ([] ++ row1 g0 R :: (tabItems x0 ux0 (marksT 1 t0) ++ []))) := Lib.hid (by have := L6.out.still hg; rw [List.append_assoc] at this; exact this)
  clear hg L6
  go_wp2_with fail
  refine (markIntS g0 R 1 W2.heap.size _ (row1_own.1 (L7.out.own.1 (row1 g0 R) (by simp))) hl' (by omega) (by omega)).mono ?_
  rintro e WA ⟨rfl, hg, ho⟩
  have L8 := Lib.hid (L7.out.put (x' := row1 g0 (marks 1 R.length)) rfl hg (row1_own.2 ho))
  have hq : ¬ 1 + (R.length : Int) < 0 := by omega
  clear hg ho L7
  go_wp2_with fail
  refine (heldIntS g0 R.length 1 _ (L8.out.sl (by simp)) hl' (by omega) (by omega)).mono ?_
  rintro e w' ⟨rfl, rfl⟩
  have hqq : ((1 + (R.length : Int)) != (1 + (R.length : Int))) = false := by simp
  go_wp2_with fail
  refine (toIntSS _ us0 t0 _ (L8.out.arg TA2.out) hl ht).mono ?_
  rintro e WB ⟨d1, ud1, rfl, hg, hld1, ho⟩
  have L9 := Lib.hid (L8.out.still hg)
  have TD := Lib.hid (tab_own hld1 ho)
  clear hg ho L8
  go_wp2_with fail
  refine (implSpanFirst d1 ud1 t0 _ TD.out).mono ?_
  rintro e WC ⟨h0, rfl, hg, ho⟩
  rw [HR.out] at ho
  have L10 := Lib.hid (L9.out.still hg)
  have TH := Lib.hid ho.sl
  clear hg ho L9 TD
  go_wp2_with fail
  refine (eqSame h0 r0 R _ TH.out (L10.out.arg1 TR.out)).mono ?_
  rintro e WD ⟨rfl, hg⟩
  have L11 := Lib.hid (L10.out.still hg)
  clear hg L10 TH
  go_wp2_with fail
  refine (heldIntS g0 R.length 1 _ (L11.out.sl (by simp)) hl' (by omega) (by omega)).mono ?_
  rintro e w' ⟨rfl, rfl⟩
  go_wp2_with fail
  go_ret
  exact ⟨rfl, (below_grown (grown_trans G2.out (grown_below L11.out.below (Nat.le_refl _) none)))⟩

set_option maxRecDepth 100000 in
theorem lifted (os : Os) (started : os.Started) (H : Type) (enc : TypeId × Value → H) :
    ReturnsInHanded {} Try.checked os 5 .any (Rows.fnExactSpanFirstSpec.pre6 enc Try.prog Try.f5 Rows.fnExactSpanFirstRow.domain false) (Rows.fnExactSpanFirstSpec.post enc Try.prog Try.f5 false true false false) := by
  refine returnsInHanded_of_change (C := Try.checked) own started (by kernel_rfl) Try.func5
    (ChangeSpec.witness6 (enc := enc) (C := Try.checked) false ⟨#[], #[.slice none 0 0], []⟩ 8 (by kernel_rfl) (by kernel_rfl) (by kernel_rfl) (by kernel_rfl)) ?_
  intro W base args ds gs before hval0 hW hcnd _
  have hval : ∀ (j : Nat) t v, Try.f5.params[j]? = some t → args[j]? = some v → Value.okWide Try.prog W .any base t v := hval0
  have hW' := hW
  obtain ⟨p, q, hA0, hV, rfl, hfz, hnd⟩ := hW
  have hA : DataW.TrodAll enc Try.prog W 0 (fun _ => true) true Try.f5.params.toList args.toList ds p := hA0
  rw [Try.params5] at hA hval
  obtain ⟨v0, vs0, d0, ds0, p0, q0, hargs, rfl, rfl, h0, r0⟩ := trodAll_cons hA
  obtain ⟨rfl, rfl, rfl⟩ := trodAll_nil r0
  obtain rfl : args = #[v0] := by cases args; simp_all
  obtain ⟨rfl, rfl⟩ := trodVars_none hV
  obtain ⟨a0, len0, cap0, rfl⟩ := okWide_slice Try.underlying22 (hval 0 22 v0 rfl rfl)
  have k0 := h0
  have lt0 : ∀ x ∈ p0, x.block < W.heap.size := by obtain ⟨m, hm⟩ := k0; exact DataW.trod_lt m _ _ _ hm
  obtain ⟨us0, t0, e0, c0, m0, w0⟩ := tab_of Try.underlying22 Try.underlying28 Try.underlying3 (by kernel_rfl) (by kernel_rfl) h0
  clear hA0 hval0
  refine (walk a0 len0 cap0 us0 t0 W e0 c0 m0 w0).mono fun e W' ⟨he, bel⟩ => ?_
  subst he
  exact ⟨_, rfl, _, _, _, [], _, [], hW', trodAll_mk1 (shut_bool Try.underlying4 _), (trodAll_cons_mk (Below.trod laidOut (by kernel_rfl) (of_decide_eq_true (by kernel_rfl)) k0 bel lt0) trodAll_mk0), rfl, bel.frame _, fun h => by cases h⟩

theorem over : Rows.fnExactSpanFirstRow.holds Try.pinned (OpenSpec.ofChange Rows.fnExactSpanFirstSpec) :=
  OpenClaim.holds_of_wide 5 Try.f5 rfl rfl rfl rfl rfl rfl rfl ⟨rfl, rfl, rfl, rfl, rfl⟩ rfl rfl rfl rfl rfl (by kernel_rfl) Try.func5 (by kernel_rfl)
    (of_decide_eq_true (by kernel_rfl)) (by unfold Func.isWrapper; first | (rw [if_pos (by decide +kernel)]; kernel_rfl) | (rw [if_neg (by decide +kernel)]; exact ⟨rfl, rfl⟩))
    (fun os started H enc _ => lifted os started H enc)

theorem proved : Rows.FnExactSpanFirstSaid := over
#print axioms proved
end Go.Proofs.Ytogjgajabdiaaab.fnExactSpanFirst
