/-
  For every slice of slices of integers, of at most 2^20 rows and elements together, SpanTidy answers as its model does, changes nothing, and its answer owns its memory: the law FnExactSpanTidy returns true.
  Conditions: none.
-/
import Derived.Test.YtogjgajabdiaaaaRows
import Derived.WalkKit
import Derived.ProofKit
import Derived.OpenShut
import Derived.ShutString
import Derived.ChangeOld
import Derived.Below
import Derived.Test.YtogjgajabdiaaaaFldMath
import Derived.Test.YtogjgajabdiaaaaMem
import Derived.Test.YtogjgajabdiaaaaField
import Derived.Test.YtogjgajabdiaaaaVecMath
import Derived.Test.YtogjgajabdiaaaaSpanMath
import Derived.Test.YtogjgajabdiaaaaSpanList
import Derived.Test.YtogjgajabdiaaaaSpanTidy
import Derived.Test.YtogjgajabdiaaaaSpanMore
import Derived.Test.YtogjgajabdiaaaaSpanBy
import Derived.Test.YtogjgajabdiaaaaSpanWork
import Derived.Test.YtogjgajabdiaaaaInts
import Derived.Test.YtogjgajabdiaaaaTabs
import Derived.Test.YtogjgajabdiaaaaHelp
import Derived.Test.YtogjgajabdiaaaaVec
import Derived.Test.YtogjgajabdiaaaaSpanHelp
import Derived.Test.YtogjgajabdiaaaaSpanHelp2
import Derived.Test.YtogjgajabdiaaaaSpanOk
import Derived.Test.YtogjgajabdiaaaaSpanLine
import Derived.Test.YtogjgajabdiaaaaSpanEch
import Derived.Test.YtogjgajabdiaaaaVecSpec
import Derived.Test.YtogjgajabdiaaaaSpanTake
import Derived.Test.YtogjgajabdiaaaaSpanProg
import Derived.Test.YtogjgajabdiaaaaSpanTops
import Derived.Test.YtogjgajabdiaaaaSpanSpec
import Derived.Test.YtogjgajabdiaaaaSpanSpec2
import Derived.Test.YtogjgajabdiaaaaSpanSpec3
import Derived.Test.YtogjgajabdiaaaaSpanSpec4
namespace Go.Proofs.Ytogjgajabdiaaaa.fnExactSpanTidy
open Go.ChangeShapes Go.WideShapes Go.ChangeAt Go.RowKit
set_option linter.unusedVariables false

theorem own : ownKnob Try.prog.godebug = none := by kernel_rfl
theorem laidOut : laidOutB Try.prog = true := by kernel_rfl

theorem tidyM_tot (m : List (List Int)) : (tidyM m).length ≤ 1048576 ∧ tot (tidyM m) ≤ 1048576 := by
  cases h : okM m with
  | false => rw [tidyM_no h]; simp [tot]
  | true =>
    rw [tidyM_yes h]
    have h4 := tidy_four h
    have hr := tidy_rows h
    have : ∀ (T : List (List Int)), (∀ r ∈ T, Sp.Row 4 r) → tot T = 4 * T.length := by
      intro T
      induction T with
      | nil => intro _; rfl
      | cons r T ih => intro h; rw [tot_cons, ih (fun s hs => h s (by simp [hs])), (h r (by simp)).1, List.length_cons]; omega
    rw [this _ hr]
    omega

theorem walk (a0 : Option Addr) (len0 cap0 : Nat) (us0 : List Value) (t0 : List (List Int)) (w : World) (e0 : len0 = t0.length) (c0 : len0 ≤ cap0) (m0 : cap0 ≤ maxLen) (w0 : Tab w (.slice a0 len0 cap0) us0 t0) :
    Calls Try.prog 14 #[.slice a0 len0 cap0] w fun e w' => e = .returned (.bool true) ∧ Below w.heap.size w w' := by
  subst e0
  have TA := Lib.hid w0
  clear w0
  unfold maxLen at m0
  go_enter Try.func14, Try.ntmps14
  go_wp2_with fail
  refine (szIntSS _ us0 t0 1048576 _ TA.out (by omega) (by omega)).mono ?_
  rintro e w' ⟨r, rfl, rfl, r1, hz⟩
  by_cases hneg : r < 0
  · go_wp2_with fail
    go_ret
    exact ⟨rfl, Below.refl _ _⟩
  obtain ⟨hl, ht⟩ := hz (by omega)
  clear hz
  obtain ⟨hl', ht'⟩ := tidyM_tot t0
  obtain ⟨R, hR⟩ : ∃ R, tidyM t0 = R := ⟨_, rfl⟩
  rw [hR] at hl' ht'
  have HR := Lib.hid hR
  clear hR
  go_wp2_with fail
  refine (toIntSS _ us0 t0 _ TA.out hl ht).mono ?_
  rintro e W1 ⟨y1, uy1, rfl, hg, hly1, ho⟩
  have G1 := Lib.hid hg
  have T1 := Lib.hid (tab_own hly1 ho)
  clear hg ho
  go_wp2_with fail
  refine (specSpanTidy y1 uy1 t0 _ T1.out).mono ?_
  rintro e W2 ⟨r0, ur0, rfl, hg, hst⟩
  have G2 := Lib.hid (grown_trans G1.out hg)
  have TR : Hid (Tab W2 r0 ur0 R) := Lib.hid (by rw [← HR.out]; exact hst.tab)
  have TA2 := Lib.hid (TA.out.grown G2.out)
  have L0 := Lib.hid (Lives.start W2)
  clear hg hst G1 T1
  go_wp2_with fail
  refine (toIntSS _ us0 t0 _ (L0.out.arg TA2.out) hl ht).mono ?_
  rintro e W3 ⟨x0, ux0, rfl, hg, hlx0, ho⟩
  have L1 : Hid (Lives W2 W3 (tabItems x0 ux0 t0)) := Lib.hid (by have := L0.out.new hg ho; rwa [List.append_nil] at this)
  have TX := Lib.hid (tab_own hlx0 ho)
  clear hg ho L0
  go_wp2_with fail
  refine (implSpanTidy x0 ux0 t0 _ TX.out).mono ?_
  rintro e W4 ⟨g0, ug0, rfl, hg, hlg0, ho⟩
  rw [HR.out] at hlg0 ho
  have L2 := Lib.hid (L1.out.new hg ho)
  have TX2 := Lib.hid (TX.out.grown hg)
  have TG := Lib.hid (tab_own hlg0 ho)
  clear hg ho L1 TX
  go_wp2_with fail
  refine (eqTabSame g0 r0 ug0 ur0 R _ TG.out (L2.out.arg TR.out)).mono ?_
  rintro e W5 ⟨rfl, hg⟩
  have L3 := Lib.hid (L2.out.still hg)
  have TX3 := Lib.hid (TX2.out.grown hg)
  clear hg L2 TX2 TG
  go_wp2_with fail
  refine (toIntSS _ us0 t0 _ (L3.out.arg TA2.out) hl ht).mono ?_
  rintro e W6 ⟨z1, uz1, rfl, hg, hlz1, ho⟩
  have L4 := Lib.hid (L3.out.still hg)
  have TX4 := Lib.hid (TX3.out.grown hg)
  have TZ := Lib.hid (tab_own hlz1 ho)
  clear hg ho L3 TX3
  go_wp2_with fail
  refine (eqTabSame x0 z1 ux0 uz1 t0 _ TX4.out TZ.out).mono ?_
  rintro e W7 ⟨rfl, hg⟩
  have L5 : Hid (Lives W2 W7 (tabItems g0 ug0 R ++ tabItems x0 ux0 t0 ++ [])) := Lib.hid (by have := L4.out.still hg; rwa [List.append_nil])
  clear hg L4 TX4 TZ
  go_wp2_with fail
  refine (markIntSS W2 _ _ x0 ux0 t0 1 _ L5.out hlx0 hl ht (by omega) (by omega)).mono ?_
  rintro e W8 ⟨rfl, hL⟩
  have L6 := Lib.hid hL
  have hk : ¬ 1 + (tot t0 : Int) < 0 := by omega
  clear hL L5
  go_wp2_with fail
  refine (eqTabSame g0 r0 ug0 ur0 R _ (L6.out.tab hlg0 (fun x hx => by simp [hx])) (L6.out.arg TR.out)).mono ?_
  rintro e W9 ⟨rfl, hg⟩
  have L7 : Hid (Lives W2 W9 ([] ++ tabItems g0 ug0 R ++ (tabItems x0 ux0 (marksT 1 t0) ++ []))) := Lib.hid (by have := L6.out.still hg; rw [List.append_assoc] at this; exact this)
  clear hg L6
  go_wp2_with fail
  refine (markIntSS W2 _ _ g0 ug0 R 1 _ L7.out hlg0 hl' ht' (by omega) (by omega)).mono ?_
  rintro e WA ⟨rfl, hL⟩
  have L8 := Lib.hid hL
  have hlm : ug0.length = (marksT 1 R).length := by rw [marksT_length]; exact hlg0
  have TM := Lib.hid (hL.tab (v := g0) hlm (fun x hx => by simp [hx]))
  have hq : ¬ 1 + (tot R : Int) < 0 := by omega
  clear hL L7
  go_wp2_with fail
  refine (heldIntSS g0 ug0 R 1 _ TM.out hl' ht' (by omega) (by omega)).mono ?_
  rintro e w' ⟨rfl, rfl⟩
  have hqq : ((1 + (tot R : Int)) != (1 + (tot R : Int))) = false := by simp
  go_wp2_with fail
  refine (toIntSS _ us0 t0 _ (L8.out.arg TA2.out) hl ht).mono ?_
  rintro e WB ⟨d1, ud1, rfl, hg, hld1, ho⟩
  have L9 := Lib.hid (L8.out.still hg)
  have TD := Lib.hid (tab_own hld1 ho)
  clear hg ho L8 TM
  go_wp2_with fail
  refine (implSpanTidy d1 ud1 t0 _ TD.out).mono ?_
  rintro e WC ⟨h0, uh0, rfl, hg, hlh0, ho⟩
  rw [HR.out] at hlh0 ho
  have L10 := Lib.hid (L9.out.still hg)
  have TH := Lib.hid (tab_own hlh0 ho)
  clear hg ho L9 TD
  go_wp2_with fail
  refine (eqTabSame h0 r0 uh0 ur0 R _ TH.out (L10.out.arg TR.out)).mono ?_
  rintro e WD ⟨rfl, hg⟩
  have L11 := Lib.hid (L10.out.still hg)
  have TM2 := Lib.hid (L11.out.tab (v := g0) hlm (fun x hx => by simp [hx]))
  clear hg L10 TH
  go_wp2_with fail
  refine (heldIntSS g0 ug0 R 1 _ TM2.out hl' ht' (by omega) (by omega)).mono ?_
  rintro e w' ⟨rfl, rfl⟩
  go_wp2_with fail
  go_ret
  exact ⟨rfl, (below_grown (grown_trans G2.out (grown_below L11.out.below (Nat.le_refl _) none)))⟩

set_option maxRecDepth 100000 in
theorem lifted (os : Os) (started : os.Started) (H : Type) (enc : TypeId × Value → H) :
    ReturnsInHanded {} Try.checked os 14 .any (Rows.fnExactSpanTidySpec.pre6 enc Try.prog Try.f14 Rows.fnExactSpanTidyRow.domain false) (Rows.fnExactSpanTidySpec.post enc Try.prog Try.f14 false true false false) := by
  refine returnsInHanded_of_change (C := Try.checked) own started (by kernel_rfl) Try.func14
    (ChangeSpec.witness6 (enc := enc) (C := Try.checked) false ⟨#[], #[.slice none 0 0], []⟩ 8 (by kernel_rfl) (by kernel_rfl) (by kernel_rfl) (by kernel_rfl)) ?_
  intro W base args ds gs before hval0 hW hcnd _
  have hval : ∀ (j : Nat) t v, Try.f14.params[j]? = some t → args[j]? = some v → Value.okWide Try.prog W .any base t v := hval0
  have hW' := hW
  obtain ⟨p, q, hA0, hV, rfl, hfz, hnd⟩ := hW
  have hA : DataW.TrodAll enc Try.prog W 0 (fun _ => true) true Try.f14.params.toList args.toList ds p := hA0
  rw [Try.params14] at hA hval
  obtain ⟨v0, vs0, d0, ds0, p0, q0, hargs, rfl, rfl, h0, r0⟩ := trodAll_cons hA
  obtain ⟨rfl, rfl, rfl⟩ := trodAll_nil r0
  obtain rfl : args = #[v0] := by cases args; simp_all
  obtain ⟨rfl, rfl⟩ := trodVars_none hV
  obtain ⟨a0, len0, cap0, rfl⟩ := okWide_slice Try.underlying23 (hval 0 23 v0 rfl rfl)
  have k0 := h0
  have lt0 : ∀ x ∈ p0, x.block < W.heap.size := by obtain ⟨m, hm⟩ := k0; exact DataW.trod_lt m _ _ _ hm
  obtain ⟨us0, t0, e0, c0, m0, w0⟩ := tab_of Try.underlying23 Try.underlying29 Try.underlying3 (by kernel_rfl) (by kernel_rfl) h0
  clear hA0 hval0
  refine (walk a0 len0 cap0 us0 t0 W e0 c0 m0 w0).mono fun e W' ⟨he, bel⟩ => ?_
  subst he
  exact ⟨_, rfl, _, _, _, [], _, [], hW', trodAll_mk1 (shut_bool Try.underlying4 _), (trodAll_cons_mk (Below.trod laidOut (by kernel_rfl) (of_decide_eq_true (by kernel_rfl)) k0 bel lt0) trodAll_mk0), rfl, bel.frame _, fun h => by cases h⟩

theorem over : Rows.fnExactSpanTidyRow.holds Try.pinned (OpenSpec.ofChange Rows.fnExactSpanTidySpec) :=
  OpenClaim.holds_of_wide 14 Try.f14 rfl rfl rfl rfl rfl rfl rfl ⟨rfl, rfl, rfl, rfl, rfl⟩ rfl rfl rfl rfl rfl (by kernel_rfl) Try.func14 (by kernel_rfl)
    (of_decide_eq_true (by kernel_rfl)) (by unfold Func.isWrapper; first | (rw [if_pos (by decide +kernel)]; kernel_rfl) | (rw [if_neg (by decide +kernel)]; exact ⟨rfl, rfl⟩))
    (fun os started H enc _ => lifted os started H enc)

theorem proved : Rows.FnExactSpanTidySaid := over
#print axioms proved
end Go.Proofs.Ytogjgajabdiaaaa.fnExactSpanTidy
