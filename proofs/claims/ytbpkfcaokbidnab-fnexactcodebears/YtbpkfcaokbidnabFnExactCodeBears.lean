/-
  For whatever integer and slice of flags CodeBears answers as its model does, and writes into no argument: the law FnExactCodeBears returns true.
  Conditions: none.
-/
import Derived.Test.YtbpkfcaokbidnabRows
import Derived.WalkKit
import Derived.ProofKit
import Derived.OpenShut
import Derived.ShutString
import Derived.ChangeOld
import Derived.Below
import Derived.Test.YtbpkfcaokbidnabFldMath
import Derived.Test.YtbpkfcaokbidnabMem
import Derived.Test.YtbpkfcaokbidnabField
import Derived.Test.YtbpkfcaokbidnabVecMath
import Derived.Test.YtbpkfcaokbidnabSpanMath
import Derived.Test.YtbpkfcaokbidnabSpanList
import Derived.Test.YtbpkfcaokbidnabSpanTidy
import Derived.Test.YtbpkfcaokbidnabSpanMore
import Derived.Test.YtbpkfcaokbidnabSpanBy
import Derived.Test.YtbpkfcaokbidnabSpanWork
import Derived.Test.YtbpkfcaokbidnabSpanElim
import Derived.Test.YtbpkfcaokbidnabInts
import Derived.Test.YtbpkfcaokbidnabTabs
import Derived.Test.YtbpkfcaokbidnabHelp
import Derived.Test.YtbpkfcaokbidnabVec
import Derived.Test.YtbpkfcaokbidnabVec2
import Derived.Test.YtbpkfcaokbidnabVecSpec
import Derived.Test.YtbpkfcaokbidnabSpanSpec
import Derived.Test.YtbpkfcaokbidnabSpanHelp
import Derived.Test.YtbpkfcaokbidnabSpanHelp2
import Derived.Test.YtbpkfcaokbidnabSpanOk
import Derived.Test.YtbpkfcaokbidnabSpanLine
import Derived.Test.YtbpkfcaokbidnabSpanEch
import Derived.Test.YtbpkfcaokbidnabSpanTake
import Derived.Test.YtbpkfcaokbidnabSpanProg
import Derived.Test.YtbpkfcaokbidnabSpanTops
import Derived.Test.YtbpkfcaokbidnabSpanSpec2
import Derived.Test.YtbpkfcaokbidnabSpanSpec3
import Derived.Test.YtbpkfcaokbidnabSpanSpec4
import Derived.Test.YtbpkfcaokbidnabCodeMath
import Derived.Test.YtbpkfcaokbidnabCodeList
import Derived.Test.YtbpkfcaokbidnabCodeWork
import Derived.Test.YtbpkfcaokbidnabFlags
import Derived.Test.YtbpkfcaokbidnabHelpB
import Derived.Test.YtbpkfcaokbidnabAlone
import Derived.Test.YtbpkfcaokbidnabCodeGen
import Derived.Test.YtbpkfcaokbidnabCodeGen2
import Derived.Test.YtbpkfcaokbidnabCodeGen3
import Derived.Test.YtbpkfcaokbidnabCodeSpec
import Derived.Test.YtbpkfcaokbidnabCodeBear
import Derived.Test.YtbpkfcaokbidnabCodeBear2
import Derived.Test.YtbpkfcaokbidnabCodeBear3
import Derived.Test.YtbpkfcaokbidnabCodeSpec2
namespace Go.Proofs.Ytbpkfcaokbidnab.fnExactCodeBears
open Go.ChangeShapes Go.WideShapes Go.ChangeAt Go.RowKit
set_option linter.unusedVariables false

theorem own : ownKnob Try.prog.godebug = none := by kernel_rfl
theorem laidOut : laidOutB Try.prog = true := by kernel_rfl

set_option maxHeartbeats 1000000 in
set_option maxRecDepth 20000 in
theorem walk (a0 : Int) (a1 : Option Addr) (len1 cap1 : Nat) (f1 : List Bool) (w : World) (w0 : (Lit.int .i64 a0).wf = true) (e1 : len1 = f1.length) (c1 : len1 ≤ cap1) (m1 : cap1 ≤ maxLen) (w1 : Bl w (.slice a1 len1 cap1) f1) :
    Calls Try.prog 12 #[.int .i64 a0, .slice a1 len1 cap1] w fun e w' => e = .returned (.bool true) ∧ Below w.heap.size w w' := by
  have hm := m1
  unfold maxLen at hm
  have B := Lib.hid w1
  subst e1
  clear w1 m1
  by_cases hbig : (f1.length : Int) > 1048576
  · go_enter Try.func12, Try.ntmps12
    go_wp2_with fail
    go_ret
    exact ⟨rfl, Below.refl _ _⟩
  have hle : f1.length ≤ 1048576 := by omega
  have L0 := Lib.hid (Lives.start w)
  go_enter Try.func12, Try.ntmps12
  go_wp2_with fail
  refine (toBoolS _ f1 _ B.out hle).mono ?_
  rintro e W1 ⟨t, rfl, hg, ho⟩
  have L1 := Lib.hid (L0.out.newB hg ho)
  clear hg ho L0
  go_wp2_with fail
  refine (specBears a0 t f1 _ (L1.out.bl (by simp))).mono ?_
  rintro e W2 ⟨rfl, hg⟩
  have L2 := Lib.hid (L1.out.still hg)
  clear hg L1
  go_wp2_with fail
  refine (toBoolS _ f1 _ (L2.out.argB B.out) hle).mono ?_
  rintro e W3 ⟨x, rfl, hg, ho⟩
  have L3 := Lib.hid (L2.out.newB hg ho)
  clear hg ho L2
  go_wp2_with fail
  refine (implBears a0 x f1 _ (L3.out.bl (by simp))).mono ?_
  rintro e W4 ⟨rfl, hg⟩
  have L4 := Lib.hid (L3.out.still hg)
  clear hg L3
  generalize bearsM a0 f1 = q at *
  go_wp2_with fail
  refine (toBoolS _ f1 _ (L4.out.argB B.out) hle).mono ?_
  rintro e W5 ⟨y, rfl, hg, ho⟩
  have L5 := Lib.hid (L4.out.newB hg ho)
  clear hg ho L4
  go_wp2_with fail
  refine (eqSameB x y f1 _ (L5.out.bl (by simp)) (L5.out.bl (by simp))).mono ?_
  rintro e W6 ⟨rfl, hg⟩
  have L6 := Lib.hid (L5.out.still hg)
  clear hg L5
  go_wp2_with fail
  go_ret
  exact ⟨rfl, L6.out.below⟩

set_option maxRecDepth 100000 in
theorem lifted (os : Os) (started : os.Started) (H : Type) (enc : TypeId × Value → H) :
    ReturnsInHanded {} Try.checked os 12 .any (Rows.fnExactCodeBearsSpec.pre6 enc Try.prog Try.f12 Rows.fnExactCodeBearsRow.domain false) (Rows.fnExactCodeBearsSpec.post enc Try.prog Try.f12 false true false false) := by
  refine returnsInHanded_of_change (C := Try.checked) own started (by kernel_rfl) Try.func12
    (ChangeSpec.witness6 (enc := enc) (C := Try.checked) false ⟨#[], #[.int .i64 0, .slice none 0 0], []⟩ 8 (by kernel_rfl) (by kernel_rfl) (by kernel_rfl) (by kernel_rfl)) ?_
  intro W base args ds gs before hval0 hW hcnd _
  have hval : ∀ (j : Nat) t v, Try.f12.params[j]? = some t → args[j]? = some v → Value.okWide Try.prog W .any base t v := hval0
  have hW' := hW
  obtain ⟨p, q, hA0, hV, rfl, hfz, hnd⟩ := hW
  have hA : DataW.TrodAll enc Try.prog W 0 (fun _ => true) true Try.f12.params.toList args.toList ds p := hA0
  rw [Try.params12] at hA hval
  obtain ⟨v0, vs0, d0, ds0, p0, q0, hargs, rfl, rfl, h0, r0⟩ := trodAll_cons hA
  obtain ⟨v1, vs1, d1, ds1, p1, q1, rfl, rfl, rfl, h1, r1⟩ := trodAll_cons r0
  obtain ⟨rfl, rfl, rfl⟩ := trodAll_nil r1
  obtain rfl : args = #[v0, v1] := by cases args; simp_all
  obtain ⟨rfl, rfl⟩ := trodVars_none hV
  obtain ⟨a0, rfl, rfl, rfl, w0⟩ := open_int Try.underlying3 (hval 0 3 v0 rfl rfl) h0
  obtain ⟨a1, len1, cap1, rfl⟩ := okWide_slice Try.underlying22 (hval 1 22 v1 rfl rfl)
  have k1 := h1
  have lt1 : ∀ x ∈ p1, x.block < W.heap.size := by obtain ⟨m, hm⟩ := k1; exact DataW.trod_lt m _ _ _ hm
  obtain ⟨f1, e1, c1, m1, w1⟩ := bl_of Try.underlying22 Try.underlying4 (by kernel_rfl) h1
  clear hA0 hval0
  refine (walk a0 a1 len1 cap1 f1 W w0 e1 c1 m1 w1).mono fun e W' ⟨he, bel⟩ => ?_
  subst he
  exact ⟨_, rfl, _, _, _, [], _, [], hW', trodAll_mk1 (shut_bool Try.underlying4 _), (trodAll_cons_mk (shut_int Try.underlying3 w0) (trodAll_cons_mk (Below.trod laidOut (by kernel_rfl) (of_decide_eq_true (by kernel_rfl)) k1 bel lt1) trodAll_mk0)), rfl, bel.frame _, fun h => by cases h⟩

theorem over : Rows.fnExactCodeBearsRow.holds Try.pinned (OpenSpec.ofChange Rows.fnExactCodeBearsSpec) :=
  OpenClaim.holds_of_wide_leaving 12 Try.f12 rfl rfl rfl rfl rfl rfl rfl ⟨rfl, rfl, rfl, rfl, rfl⟩ rfl rfl rfl rfl rfl (by kernel_rfl) Try.func12 (by kernel_rfl)
    (of_decide_eq_true (by kernel_rfl)) (by unfold Func.isWrapper; first | (rw [if_pos (by decide +kernel)]; kernel_rfl) | (rw [if_neg (by decide +kernel)]; exact ⟨rfl, rfl⟩))
    (fun os started H enc _ => leaves (lifted os started H enc))

theorem proved : Rows.FnExactCodeBearsSaid := over
#print axioms proved
end Go.Proofs.Ytbpkfcaokbidnab.fnExactCodeBears
