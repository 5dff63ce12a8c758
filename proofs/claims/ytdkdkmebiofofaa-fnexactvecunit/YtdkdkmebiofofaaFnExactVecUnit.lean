/-
  For every integer VecUnit answers as its model does, and its answer owns its memory: the law FnExactVecUnit returns true.
  Conditions: none.
-/
import Derived.Test.YtdkdkmebiofofaaRows
import Derived.WalkKit
import Derived.ProofKit
import Derived.OpenShut
import Derived.ShutString
import Derived.Test.YtdkdkmebiofofaaFldMath
import Derived.Test.YtdkdkmebiofofaaMem
import Derived.Test.YtdkdkmebiofofaaField
import Derived.Test.YtdkdkmebiofofaaVecMath
import Derived.Test.YtdkdkmebiofofaaInts
import Derived.Test.YtdkdkmebiofofaaHelp
import Derived.Test.YtdkdkmebiofofaaVec
import Derived.Test.YtdkdkmebiofofaaVec2
import Derived.Test.YtdkdkmebiofofaaVecSpec
namespace Go.Proofs.Ytdkdkmebiofofaa.fnExactVecUnit
open Go.ChangeShapes Go.WideShapes Go.ChangeAt Go.RowKit
open Go.ChangeMaps (open_string shut_string)
set_option linter.unusedVariables false      -- a walk need not use every 'w<i>' (that an integer argument fits its kind)

theorem own : ownKnob Try.prog.godebug = none := by kernel_rfl

theorem walk (a0 : Int) (w0 : (Lit.int .i64 a0).wf = true) (w : World) :
    Calls Try.prog 13 #[.int .i64 a0] w fun e w' => e = .returned (.bool true) ∧ Below w.heap.size w w' := by
  have hr : (Vec.unit a0).length ≤ 1048576 := by have := Vec.unit_len a0; omega
  have L0 := Lib.hid (Live.start w)
  go_enter Try.func13, Try.ntmps13
  go_wp2_with fail
  refine (specVecUnit a0 _).mono ?_
  rintro e W1 ⟨r0, rfl, hg, ho⟩
  have L1 := Lib.hid (L0.out.new hg ho)
  clear hg ho L0
  go_wp2_with fail
  refine (implVecUnit a0 _).mono ?_
  rintro e W2 ⟨g0, rfl, hg, ho⟩
  have L2 := Lib.hid (L1.out.new hg ho)
  clear hg ho L1
  go_wp2_with fail
  refine (eqSame g0 r0 (Vec.unit a0) _ (L2.out.sl (g0, Vec.unit a0) (by simp)) (L2.out.sl (r0, Vec.unit a0) (by simp))).mono ?_
  rintro e W3 ⟨rfl, hg⟩
  have L3 := Lib.hid (L2.out.still hg)
  clear hg L2
  go_wp2_with fail
  have F3 := Lib.hid (Live.front (L := []) (v := g0) (l := Vec.unit a0) (L' := [(r0, Vec.unit a0)]) L3.out)
  refine (markIntS g0 (Vec.unit a0) 1 w.heap.size _ (F3.out.own (g0, Vec.unit a0) (by simp)) hr (by omega) (by omega)).mono ?_
  rintro e W4 ⟨rfl, hg, ho⟩
  have L4 := Lib.hid (F3.out.put hg ho)
  clear hg ho F3 L3
  go_wp2_with fail
  refine (heldIntS g0 (Vec.unit a0).length 1 _ (L4.out.sl (g0, marks 1 (Vec.unit a0).length) (by simp)) hr (by omega) (by omega)).mono ?_
  rintro e w' ⟨rfl, rfl⟩
  go_wp2_with fail
  refine (implVecUnit a0 _).mono ?_
  rintro e W5 ⟨h0, rfl, hg, ho⟩
  have L5 := Lib.hid (L4.out.new hg ho)
  clear hg ho L4
  go_wp2_with fail
  refine (eqSame h0 r0 (Vec.unit a0) _ (L5.out.sl (h0, Vec.unit a0) (by simp)) (L5.out.sl (r0, Vec.unit a0) (by simp))).mono ?_
  rintro e W6 ⟨rfl, hg⟩
  have L6 := Lib.hid (L5.out.still hg)
  clear hg L5
  go_wp2_with fail
  refine (heldIntS g0 (Vec.unit a0).length 1 _ (L6.out.sl (g0, marks 1 (Vec.unit a0).length) (by simp)) hr (by omega) (by omega)).mono ?_
  rintro e w' ⟨rfl, rfl⟩
  go_wp2_with fail
  go_ret
  exact ⟨rfl, L6.out.below⟩

set_option maxRecDepth 100000 in
theorem lifted (os : Os) (started : os.Started) (H : Type) (enc : TypeId × Value → H) :
    ReturnsInHanded {} Try.checked os 13 .any (Rows.fnExactVecUnitSpec.pre6 enc Try.prog Try.f13 Rows.fnExactVecUnitRow.domain false) (Rows.fnExactVecUnitSpec.post enc Try.prog Try.f13 false true false false) := by
  refine returnsInHanded_of_change (C := Try.checked) own started (by kernel_rfl) Try.func13
    (ChangeSpec.witness6 (enc := enc) (C := Try.checked) false ⟨#[], #[.int .i64 0], []⟩ 8 (by kernel_rfl) (by kernel_rfl) (by kernel_rfl) (by kernel_rfl)) ?_
  intro W base args ds gs before hval0 hW hcnd _
  have hval : ∀ (j : Nat) t v, Try.f13.params[j]? = some t → args[j]? = some v → Value.okWide Try.prog W .any base t v := hval0
  have hW' := hW
  obtain ⟨p, q, hA0, hV, rfl, hfz, hnd⟩ := hW
  have hA : DataW.TrodAll enc Try.prog W 0 (fun _ => true) true Try.f13.params.toList args.toList ds p := hA0
  rw [Try.params13] at hA hval
  obtain ⟨v0, vs0, d0, ds0, p0, q0, hargs, rfl, rfl, h0, r0⟩ := trodAll_cons hA
  obtain ⟨rfl, rfl, rfl⟩ := trodAll_nil r0
  obtain rfl : args = #[v0] := by cases args; simp_all
  obtain ⟨rfl, rfl⟩ := trodVars_none hV
  obtain ⟨a0, rfl, rfl, rfl, w0⟩ := open_int Try.underlying3 (hval 0 3 v0 rfl rfl) h0
  clear hA0 hval0
  simp only [List.append_nil] at hW'
  refine (walk a0 w0 W).mono fun e W' ⟨he, hg⟩ => ?_
  subst he
  exact ⟨_, rfl, _, _, _, [], [], [], hW', (trodAll_cons_mk (shut_bool Try.underlying4 _) trodAll_mk0), (trodAll_cons_mk (shut_int Try.underlying3 w0) trodAll_mk0), rfl, hg.frame _, fun h => by cases h⟩

theorem over : Rows.fnExactVecUnitRow.holds Try.pinned (OpenSpec.ofChange Rows.fnExactVecUnitSpec) :=
  OpenClaim.holds_of_wide 13 Try.f13 rfl rfl rfl rfl rfl rfl rfl ⟨rfl, rfl, rfl, rfl, rfl⟩ rfl rfl rfl rfl rfl (by kernel_rfl) Try.func13 (by kernel_rfl)
    (of_decide_eq_true (by kernel_rfl)) (by unfold Func.isWrapper; first | (rw [if_pos (by decide +kernel)]; kernel_rfl) | (rw [if_neg (by decide +kernel)]; exact ⟨rfl, rfl⟩))
    (fun os started H enc _ => lifted os started H enc)

theorem proved : Rows.FnExactVecUnitSaid :=
  over
#print axioms proved
end Go.Proofs.Ytdkdkmebiofofaa.fnExactVecUnit
