/-
  For every integer and slice of at most 2^20 flags ReadFrom answers as its model does, changes nothing, and its answer owns its memory: the law FnExactReadFrom returns true.
  Conditions: none.
-/
import Derived.Test.YtdmbbipcdkikiaaRows
import Derived.WalkKit
import Derived.ProofKit
import Derived.OpenShut
import Derived.ShutString
import Derived.ChangeOld
import Derived.Below
import Derived.Test.YtdmbbipcdkikiaaG1
import Derived.Test.YtdmbbipcdkikiaaAppendZeros
import Derived.Test.YtdmbbipcdkikiaaG2
import Derived.Test.YtdmbbipcdkikiaaG3
import Derived.Test.YtdmbbipcdkikiaaG4
import Derived.Test.YtdmbbipcdkikiaaReadMath
import Derived.Test.YtdmbbipcdkikiaaReadSpec
import Derived.Test.YtdmbbipcdkikiaaReadTake
import Derived.Test.YtdmbbipcdkikiaaReadProg
import Derived.Test.YtdmbbipcdkikiaaReadTop
import Derived.Test.YtdmbbipcdkikiaaReadTop2
import Derived.Test.YtdmbbipcdkikiaaReadTop3
import Derived.Test.YtdmbbipcdkikiaaReadSpec2
import Derived.Test.YtdmbbipcdkikiaaReadSpec3
import Derived.Test.YtdmbbipcdkikiaaReadMark
namespace Go.Proofs.Ytdmbbipcdkikiaa.fnExactReadFrom
open Go.ChangeShapes Go.WideShapes Go.ChangeAt Go.RowKit
set_option linter.unusedVariables false

theorem own : ownKnob Try.prog.godebug = none := by kernel_rfl
theorem laidOut : laidOutB Try.prog = true := by kernel_rfl

theorem fromM_len (k : Int) (f : List Bool) : (fromM k f).length ≤ 1048576 := by
  cases h : bearsM k f with
  | false => rw [fromM_no h]; simp
  | true =>
    simp only [fromM, h, cond_true, ints_len]
    have := Sp.first_len (Sp.padd k.toNat f)
    rw [Sp.padd_len] at this
    show (Sp.firsts Sp.has (Sp.padd k.toNat f)).length ≤ _
    omega

set_option maxHeartbeats 2000000 in
set_option maxRecDepth 20000 in
theorem walk (a0 : Int) (a1 : Option Addr) (len1 cap1 : Nat) (f1 : List Bool) (w : World) (w0 : (Lit.int .i64 a0).wf = true) (e1 : len1 = f1.length) (c1 : len1 ≤ cap1) (m1 : cap1 ≤ maxLen) (w1 : Bl w (.slice a1 len1 cap1) f1) :
    Calls Try.prog 6 #[.int .i64 a0, .slice a1 len1 cap1] w fun e w' => e = .returned (.bool true) ∧ Below w.heap.size w w' := by
  have hm1 := m1
  unfold maxLen at hm1
  have B := Lib.hid w1
  subst e1
  clear w1 m1
  by_cases hbig : (f1.length : Int) > 1048576
  · go_enter Try.func6, Try.ntmps6
    go_wp2_with fail
    go_ret
    exact ⟨rfl, Below.refl _ _⟩
  have hle : f1.length ≤ 1048576 := by omega
  have hr := fromM_len a0 f1
  have SF := Lib.hid (fun v w h => specReadFrom a0 v f1 w h)
  have PF := Lib.hid (fun v w h => implReadFrom a0 v f1 w h)
  obtain ⟨R, hR⟩ : ∃ R, fromM a0 f1 = R := ⟨_, rfl⟩
  rw [hR] at hr SF PF
  clear hR
  have L0 := Lib.hid (Lives.start w)
  go_enter Try.func6, Try.ntmps6
  go_wp2_with fail
  refine (toBoolS _ f1 _ (L0.out.argB B.out) hle).mono ?_
  rintro e W1 ⟨t, rfl, hg, ho⟩
  have L1 := Lib.hid (L0.out.newB hg ho)
  clear hg ho L0
  go_wp2_with fail
  refine (SF.out t _ (L1.out.bl (by simp))).mono ?_
  rintro e W2 ⟨r0, rfl, hg, ho⟩
  have L2 := Lib.hid (L1.out.new1 hg ho)
  clear hg ho L1
  go_wp2_with fail
  refine (toBoolS _ f1 _ (L2.out.argB B.out) hle).mono ?_
  rintro e W3 ⟨x1, rfl, hg, ho⟩
  have L3 := Lib.hid (L2.out.newB hg ho)
  clear hg ho L2
  go_wp2_with fail
  refine (PF.out x1 _ (L3.out.bl (by simp))).mono ?_
  rintro e W4 ⟨g0, rfl, hg, ho⟩
  have L4 := Lib.hid (L3.out.new1 hg ho)
  clear hg ho L3
  go_wp2_with fail
  refine (eqSame g0 r0 R _ (L4.out.sl (by simp)) (L4.out.sl (by simp))).mono ?_
  rintro e W5 ⟨rfl, hg⟩
  have L5 := Lib.hid (L4.out.still hg)
  clear hg L4
  go_wp2_with fail
  refine (toBoolS _ f1 _ (L5.out.argB B.out) hle).mono ?_
  rintro e W6 ⟨y1, rfl, hg, ho⟩
  have L6 := Lib.hid (L5.out.newB hg ho)
  clear hg ho L5
  go_wp2_with fail
  refine (eqSameB x1 y1 f1 _ (L6.out.bl (by simp)) (L6.out.bl (by simp))).mono ?_
  rintro e W7 ⟨rfl, hg⟩
  have L7 := Lib.hid (L6.out.still hg)
  clear hg L6
  have OB := Lib.hid (bool1_own.1 (L7.out.own.1 (bool1 x1 f1) (by simp)))
  go_wp2_with fail
  refine (markBl x1 f1 1 w.heap.size _ OB.out hle (by omega) (by omega)).mono ?_
  rintro e W8 ⟨rfl, hg, f', ho⟩
  have L8 : Hid (Lives w W8 ([bool1 y1 f1, row1 g0 R] ++ bool1 x1 f' :: [row1 r0 R, bool1 t f1])) := Lib.hid (Lives.put (A := [bool1 y1 f1, row1 g0 R]) (x := bool1 x1 f1) (x' := bool1 x1 f') (B := [row1 r0 R, bool1 t f1]) L7.out rfl hg (bool1_own.2 ho))
  have q0 : ¬ (1 + (f1.length : Int)) < 0 := by omega
  clear hg ho L7 OB
  go_wp2_with fail
  refine (eqSame g0 r0 R _ (L8.out.sl (by simp)) (L8.out.sl (by simp))).mono ?_
  rintro e W9 ⟨rfl, hg⟩
  have L9 := Lib.hid (L8.out.still hg)
  clear hg L8
  have OG := Lib.hid (row1_own.1 (L9.out.own.1 (row1 g0 R) (by simp)))
  go_wp2_with fail
  refine (markIntS g0 R 1 w.heap.size _ OG.out hr (by omega) (by omega)).mono ?_
  rintro e W10 ⟨rfl, hg, ho⟩
  have L10 : Hid (Lives w W10 ([bool1 y1 f1] ++ row1 g0 (marks 1 R.length) :: [bool1 x1 f', row1 r0 R, bool1 t f1])) := Lib.hid (Lives.put (A := [bool1 y1 f1]) (x := row1 g0 R) (x' := row1 g0 (marks 1 R.length)) (B := [bool1 x1 f', row1 r0 R, bool1 t f1]) L9.out rfl hg (row1_own.2 ho))
  have q1 : ¬ (1 + (R.length : Int)) < 0 := by omega
  have q2 : ((1 + (R.length : Int)) != (1 + (R.length : Int))) = false := by simp
  clear hg ho L9 OG
  go_wp2_with fail
  refine (heldIntS g0 R.length 1 _ (L10.out.sl (by simp)) hr (by omega) (by omega)).mono ?_
  rintro e w' ⟨rfl, rfl⟩
  go_wp2_with fail
  refine (toBoolS _ f1 _ (L10.out.argB B.out) hle).mono ?_
  rintro e W11 ⟨z1, rfl, hg, ho⟩
  have L11 := Lib.hid (L10.out.newB hg ho)
  clear hg ho L10
  go_wp2_with fail
  refine (PF.out z1 _ (L11.out.bl (by simp))).mono ?_
  rintro e W12 ⟨h0, rfl, hg, ho⟩
  have L12 := Lib.hid (L11.out.new1 hg ho)
  clear hg ho L11
  go_wp2_with fail
  refine (eqSame h0 r0 R _ (L12.out.sl (by simp)) (L12.out.sl (by simp))).mono ?_
  rintro e W13 ⟨rfl, hg⟩
  have L13 := Lib.hid (L12.out.still hg)
  clear hg L12
  go_wp2_with fail
  refine (heldIntS g0 R.length 1 _ (L13.out.sl (by simp)) hr (by omega) (by omega)).mono ?_
  rintro e w' ⟨rfl, rfl⟩
  go_wp2_with fail
  go_ret
  exact ⟨rfl, L13.out.below⟩

set_option maxRecDepth 100000 in
theorem lifted (os : Os) (started : os.Started) (H : Type) (enc : TypeId × Value → H) :
    ReturnsInHanded {} Try.checked os 6 .any (Rows.fnExactReadFromSpec.pre6 enc Try.prog Try.f6 Rows.fnExactReadFromRow.domain false) (Rows.fnExactReadFromSpec.post enc Try.prog Try.f6 false true false false) := by
  refine returnsInHanded_of_change (C := Try.checked) own started (by kernel_rfl) Try.func6
    (ChangeSpec.witness6 (enc := enc) (C := Try.checked) false ⟨#[], #[.int .i64 0, .slice none 0 0], []⟩ 8 (by kernel_rfl) (by kernel_rfl) (by kernel_rfl) (by kernel_rfl)) ?_
  intro W base args ds gs before hval0 hW hcnd _
  have hval : ∀ (j : Nat) t v, Try.f6.params[j]? = some t → args[j]? = some v → Value.okWide Try.prog W .any base t v := hval0
  have hW' := hW
  obtain ⟨p, q, hA0, hV, rfl, hfz, hnd⟩ := hW
  have hA : DataW.TrodAll enc Try.prog W 0 (fun _ => true) true Try.f6.params.toList args.toList ds p := hA0
  rw [Try.params6] at hA hval
  obtain ⟨v0, vs0, d0, ds0, p0, q0, hargs, rfl, rfl, h0, r0⟩ := trodAll_cons hA
  obtain ⟨v1, vs1, d1, ds1, p1, q1, rfl, rfl, rfl, h1, r1⟩ := trodAll_cons r0
  obtain ⟨rfl, rfl, rfl⟩ := trodAll_nil r1
  obtain rfl : args = #[v0, v1] := by cases args; simp_all
  obtain ⟨rfl, rfl⟩ := trodVars_none hV
  obtain ⟨a0, rfl, rfl, rfl, w0⟩ := open_int Try.underlying3 (hval 0 3 v0 rfl rfl) h0
  obtain ⟨a1, len1, cap1, rfl⟩ := okWide_slice Try.underlying23 (hval 1 23 v1 rfl rfl)
  have k1 := h1
  have lt1 : ∀ x ∈ p1, x.block < W.heap.size := by obtain ⟨m, hm⟩ := k1; exact DataW.trod_lt m _ _ _ hm
  obtain ⟨f1, e1, c1, m1, w1⟩ := bl_of Try.underlying23 Try.underlying4 (by kernel_rfl) h1
  clear hA0 hval0
  refine (walk a0 a1 len1 cap1 f1 W w0 e1 c1 m1 w1).mono fun e W' ⟨he, bel⟩ => ?_
  subst he
  exact ⟨_, rfl, _, _, _, [], _, [], hW', trodAll_mk1 (shut_bool Try.underlying4 _), (trodAll_cons_mk (shut_int Try.underlying3 w0) (trodAll_cons_mk (Below.trod laidOut (by kernel_rfl) (of_decide_eq_true (by kernel_rfl)) k1 bel lt1) trodAll_mk0)), rfl, bel.frame _, fun h => by cases h⟩

theorem over : Rows.fnExactReadFromRow.holds Try.pinned (OpenSpec.ofChange Rows.fnExactReadFromSpec) :=
  OpenClaim.holds_of_wide 6 Try.f6 rfl rfl rfl rfl rfl rfl rfl ⟨rfl, rfl, rfl, rfl, rfl⟩ rfl rfl rfl rfl rfl (by kernel_rfl) Try.func6 (by kernel_rfl)
    (of_decide_eq_true (by kernel_rfl)) (by unfold Func.isWrapper; first | (rw [if_pos (by decide +kernel)]; kernel_rfl) | (rw [if_neg (by decide +kernel)]; exact ⟨rfl, rfl⟩))
    (fun os started H enc _ => lifted os started H enc)

theorem proved : Rows.FnExactReadFromSaid := over
#print axioms proved
end Go.Proofs.Ytdmbbipcdkikiaa.fnExactReadFrom
