/-
  For every two integers CodeRow answers as its model does, and its answer owns its memory: the law FnExactCodeRow returns true.
  Conditions: none.
-/
import Derived.Test.YtbpkfcaokbidnabRows
import Derived.WalkKit
import Derived.ProofKit
import Derived.OpenShut
import Derived.ShutString
import Derived.Test.YtbpkfcaokbidnabFldMath
import Derived.Test.YtbpkfcaokbidnabMem
import Derived.Test.YtbpkfcaokbidnabField
import Derived.Test.YtbpkfcaokbidnabVecMath
import Derived.Test.YtbpkfcaokbidnabSpanMath
import Derived.Test.YtbpkfcaokbidnabSpanList
import Derived.Test.YtbpkfcaokbidnabSpanTidy
import Derived.Test.YtbpkfcaokbidnabSpanMore
import Derived.Test.YtbpkfcaokbidnabSpanBy
import Derived.Test.YtbpkfcaokbidnabSpanWork
import Derived.Test.YtbpkfcaokbidnabSpanElim
import Derived.Test.YtbpkfcaokbidnabInts
import Derived.Test.YtbpkfcaokbidnabHelp
import Derived.Test.YtbpkfcaokbidnabVec
import Derived.Test.YtbpkfcaokbidnabVec2
import Derived.Test.YtbpkfcaokbidnabVecSpec
import Derived.Test.YtbpkfcaokbidnabCodeMath
import Derived.Test.YtbpkfcaokbidnabCodeList
import Derived.Test.YtbpkfcaokbidnabCodeWork
import Derived.Test.YtbpkfcaokbidnabCodeGen
import Derived.Test.YtbpkfcaokbidnabCodeGen2
import Derived.Test.YtbpkfcaokbidnabCodeGen3
import Derived.Test.YtbpkfcaokbidnabCodeSpec
import Derived.Test.YtbpkfcaokbidnabCodeRows
namespace Go.Proofs.Ytbpkfcaokbidnab.fnExactCodeRow
open Go.ChangeShapes Go.WideShapes Go.ChangeAt Go.RowKit
open Go.ChangeMaps (open_string shut_string)
set_option linter.unusedVariables false      -- a walk need not use every 'w<i>' (that an integer argument fits its kind)

theorem own : ownKnob Try.prog.godebug = none := by kernel_rfl

theorem walk (a0 : Int) (a1 : Int) (w0 : (Lit.int .i64 a0).wf = true) (w1 : (Lit.int .i64 a1).wf = true) (w : World) :
    Calls Try.prog 7 #[.int .i64 a0, .int .i64 a1] w fun e w' => e = .returned (.bool true) ∧ Below w.heap.size w w' := by
  have hr : (rowM a0 a1).length ≤ 1048576 := by have := rowM_len a0 a1; omega
  have S := Lib.hid (fun w => specRow a0 a1 w)
  have I := Lib.hid (fun w => implRow a0 a1 w)
  generalize rowB a0 a1 = q at *
  cases q
  · skip
    have L0 := Lib.hid (Live.start w)
    go_enter Try.func7, Try.ntmps7
    go_wp2_with fail
    refine (S.out _).mono ?_
    rintro e W1 ⟨r0, rfl, hg, ho⟩
    have L1 := Lib.hid (L0.out.new hg ho)
    clear hg ho L0
    go_wp2_with fail
    refine (I.out _).mono ?_
    rintro e W2 ⟨g0, rfl, hg, ho⟩
    have L2 := Lib.hid (L1.out.new hg ho)
    clear hg ho L1
    go_wp2_with fail
    refine (eqSame g0 r0 (rowM a0 a1) _ (L2.out.sl (g0, rowM a0 a1) (by simp)) (L2.out.sl (r0, rowM a0 a1) (by simp))).mono ?_
    rintro e W3 ⟨rfl, hg⟩
    have L3 := Lib.hid (L2.out.still hg)
    clear hg L2
    go_wp2_with fail
    have F3 := Lib.hid (Live.front (L := []) (v := g0) (l := rowM a0 a1) (L' := [(r0, rowM a0 a1)]) L3.out)
    refine (markIntS g0 (rowM a0 a1) 1 w.heap.size _ (F3.out.own (g0, rowM a0 a1) (by simp)) hr (by omega) (by omega)).mono ?_
    rintro e W4 ⟨rfl, hg, ho⟩
    have L4 := Lib.hid (F3.out.put hg ho)
    clear hg ho F3 L3
    go_wp2_with fail
    refine (heldIntS g0 (rowM a0 a1).length 1 _ (L4.out.sl (g0, marks 1 (rowM a0 a1).length) (by simp)) hr (by omega) (by omega)).mono ?_
    rintro e w' ⟨rfl, rfl⟩
    go_wp2_with fail
    refine (I.out _).mono ?_
    rintro e W5 ⟨h0, rfl, hg, ho⟩
    have L5 := Lib.hid (L4.out.new hg ho)
    clear hg ho L4
    go_wp2_with fail
    refine (eqSame h0 r0 (rowM a0 a1) _ (L5.out.sl (h0, rowM a0 a1) (by simp)) (L5.out.sl (r0, rowM a0 a1) (by simp))).mono ?_
    rintro e W6 ⟨rfl, hg⟩
    have L6 := Lib.hid (L5.out.still hg)
    clear hg L5
    go_wp2_with fail
    refine (heldIntS g0 (rowM a0 a1).length 1 _ (L6.out.sl (g0, marks 1 (rowM a0 a1).length) (by simp)) hr (by omega) (by omega)).mono ?_
    rintro e w' ⟨rfl, rfl⟩
    go_wp2_with fail
    go_ret
    exact ⟨rfl, L6.out.below⟩
  · skip
    have L0 := Lib.hid (Live.start w)
    go_enter Try.func7, Try.ntmps7
    go_wp2_with fail
    refine (S.out _).mono ?_
    rintro e W1 ⟨r0, rfl, hg, ho⟩
    have L1 := Lib.hid (L0.out.new hg ho)
    clear hg ho L0
    go_wp2_with fail
    refine (I.out _).mono ?_
    rintro e W2 ⟨g0, rfl, hg, ho⟩
    have L2 := Lib.hid (L1.out.new hg ho)
    clear hg ho L1
    go_wp2_with fail
    refine (eqSame g0 r0 (rowM a0 a1) _ (L2.out.sl (g0, rowM a0 a1) (by simp)) (L2.out.sl (r0, rowM a0 a1) (by simp))).mono ?_
    rintro e W3 ⟨rfl, hg⟩
    have L3 := Lib.hid (L2.out.still hg)
    clear hg L2
    go_wp2_with fail
    have F3 := Lib.hid (Live.front (L := []) (v := g0) (l := rowM a0 a1) (L' := [(r0, rowM a0 a1)]) L3.out)
    refine (markIntS g0 (rowM a0 a1) 1 w.heap.size _ (F3.out.own (g0, rowM a0 a1) (by simp)) hr (by omega) (by omega)).mono ?_
    rintro e W4 ⟨rfl, hg, ho⟩
    have L4 := Lib.hid (F3.out.put hg ho)
    clear hg ho F3 L3
    go_wp2_with fail
    refine (heldIntS g0 (rowM a0 a1).length 1 _ (L4.out.sl (g0, marks 1 (rowM a0 a1).length) (by simp)) hr (by omega) (by omega)).mono ?_
    rintro e w' ⟨rfl, rfl⟩
    go_wp2_with fail
    refine (I.out _).mono ?_
    rintro e W5 ⟨h0, rfl, hg, ho⟩
    have L5 := Lib.hid (L4.out.new hg ho)
    clear hg ho L4
    go_wp2_with fail
    refine (eqSame h0 r0 (rowM a0 a1) _ (L5.out.sl (h0, rowM a0 a1) (by simp)) (L5.out.sl (r0, rowM a0 a1) (by simp))).mono ?_
    rintro e W6 ⟨rfl, hg⟩
    have L6 := Lib.hid (L5.out.still hg)
    clear hg L5
    go_wp2_with fail
    refine (heldIntS g0 (rowM a0 a1).length 1 _ (L6.out.sl (g0, marks 1 (rowM a0 a1).length) (by simp)) hr (by omega) (by omega)).mono ?_
    rintro e w' ⟨rfl, rfl⟩
    go_wp2_with fail
    go_ret
    exact ⟨rfl, L6.out.below⟩

set_option maxRecDepth 100000 in
theorem lifted (os : Os) (started : os.Started) (H : Type) (enc : TypeId × Value → H) :
    ReturnsInHanded {} Try.checked os 7 .any (Rows.fnExactCodeRowSpec.pre6 enc Try.prog Try.f7 Rows.fnExactCodeRowRow.domain false) (Rows.fnExactCodeRowSpec.post enc Try.prog Try.f7 false true false false) := by
  refine returnsInHanded_of_change (C := Try.checked) own started (by kernel_rfl) Try.func7
    (ChangeSpec.witness6 (enc := enc) (C := Try.checked) false ⟨#[], #[.int .i64 0, .int .i64 0], []⟩ 8 (by kernel_rfl) (by kernel_rfl) (by kernel_rfl) (by kernel_rfl)) ?_
  intro W base args ds gs before hval0 hW hcnd _
  have hval : ∀ (j : Nat) t v, Try.f7.params[j]? = some t → args[j]? = some v → Value.okWide Try.prog W .any base t v := hval0
  have hW' := hW
  obtain ⟨p, q, hA0, hV, rfl, hfz, hnd⟩ := hW
  have hA : DataW.TrodAll enc Try.prog W 0 (fun _ => true) true Try.f7.params.toList args.toList ds p := hA0
  rw [Try.params7] at hA hval
  obtain ⟨v0, vs0, d0, ds0, p0, q0, hargs, rfl, rfl, h0, r0⟩ := trodAll_cons hA
  obtain ⟨v1, vs1, d1, ds1, p1, q1, rfl, rfl, rfl, h1, r1⟩ := trodAll_cons r0
  obtain ⟨rfl, rfl, rfl⟩ := trodAll_nil r1
  obtain rfl : args = #[v0, v1] := by cases args; simp_all
  obtain ⟨rfl, rfl⟩ := trodVars_none hV
  obtain ⟨a0, rfl, rfl, rfl, w0⟩ := open_int Try.underlying3 (hval 0 3 v0 rfl rfl) h0
  obtain ⟨a1, rfl, rfl, rfl, w1⟩ := open_int Try.underlying3 (hval 1 3 v1 rfl rfl) h1
  clear hA0 hval0
  simp only [List.append_nil] at hW'
  refine (walk a0 a1 w0 w1 W).mono fun e W' ⟨he, hg⟩ => ?_
  subst he
  exact ⟨_, rfl, _, _, _, [], [], [], hW', (trodAll_cons_mk (shut_bool Try.underlying4 _) trodAll_mk0), (trodAll_cons_mk (shut_int Try.underlying3 w0) (trodAll_cons_mk (shut_int Try.underlying3 w1) trodAll_mk0)), rfl, hg.frame _, fun h => by cases h⟩

theorem over : Rows.fnExactCodeRowRow.holds Try.pinned (OpenSpec.ofChange Rows.fnExactCodeRowSpec) :=
  OpenClaim.holds_of_wide 7 Try.f7 rfl rfl rfl rfl rfl rfl rfl ⟨rfl, rfl, rfl, rfl, rfl⟩ rfl rfl rfl rfl rfl (by kernel_rfl) Try.func7 (by kernel_rfl)
    (of_decide_eq_true (by kernel_rfl)) (by unfold Func.isWrapper; first | (rw [if_pos (by decide +kernel)]; kernel_rfl) | (rw [if_neg (by decide +kernel)]; exact ⟨rfl, rfl⟩))
    (fun os started H enc _ => lifted os started H enc)

theorem proved : Rows.FnExactCodeRowSaid :=
  over
#print axioms proved
end Go.Proofs.Ytbpkfcaokbidnab.fnExactCodeRow
