/-
  For whatever patch PatchOk answers as its model does: the law FnExactPatchOk returns true.
  Conditions: none.
-/
import Derived.Test.YthglkgicckodaaaRows
import Derived.WalkKit
import Derived.ProofKit
import Derived.OpenShut
import Derived.ShutString
import Derived.ChangeOld
import Derived.Below
import Derived.Test.YthglkgicckodaaaG1
import Derived.Test.YthglkgicckodaaaAppendZeros
import Derived.Test.YthglkgicckodaaaG2
import Derived.Test.YthglkgicckodaaaG3
import Derived.Test.YthglkgicckodaaaPatchTab
import Derived.Test.YthglkgicckodaaaPatchMath
import Derived.Test.YthglkgicckodaaaPatchHelp
import Derived.Test.YthglkgicckodaaaPatchMark
import Derived.Test.YthglkgicckodaaaReadTake
import Derived.Test.YthglkgicckodaaaPatchP
import Derived.Test.YthglkgicckodaaaPatchP2
import Derived.Test.YthglkgicckodaaaPatchP3
import Derived.Test.YthglkgicckodaaaPatchP4
import Derived.Test.YthglkgicckodaaaPatchS
import Derived.Test.YthglkgicckodaaaPatchArg
namespace Go.Proofs.Ythglkgicckodaaa.fnExactPatchOk
open Go.ChangeShapes Go.WideShapes Go.ChangeAt Go.RowKit
set_option linter.unusedVariables false

theorem own : ownKnob Try.prog.godebug = none := by kernel_rfl
theorem laidOut : laidOutB Try.prog = true := by kernel_rfl

set_option maxHeartbeats 4000000 in
set_option maxRecDepth 20000 in
theorem walk (x0 y0 : Int) (w : World)  :
    Calls Try.prog 7 #[.agg #[.int .i64 x0, .int .i64 y0]] w fun e w' => e = .returned (.bool true) ∧ Below w.heap.size w w' := by
  have K0 : Hid (Arr (w.alloc (.cells #[.int .i64 x0, .int .i64 y0] 52)) w.heap.size 52 [x0, y0]) := Lib.hid (heap_alloc_new _ _)
  have G0 := Lib.hid (grown_alloc (World.grownBy.refl w none) (.cells #[.int .i64 x0, .int .i64 y0] 52))
  go_enter Try.func7, Try.ntmps7
  go_upto_region 1 with fail
  generalize w.alloc (.cells #[.int .i64 x0, .int .i64 y0] 52) = W0 at *
  have GE := Lib.hid (Eq.refl w.heap.size)
  generalize hg0 : w.heap.size = g at K0 ⊢
  clear hg0 GE
  have k0 := K0.out.cell (i := 0) (by simp)
  have k1 := K0.out.cell (i := 1) (by simp)
  go_wp2_with fail
  refine (toPatch x0 y0 _).mono ?_
  rintro e w1 ⟨rfl, hg⟩
  have G1 := Lib.hid (grown_trans G0.out hg)
  have K1 := Lib.hid (K0.out.still hg)
  clear hg G0 K0 k0 k1
  go_wp2_with fail
  refine (specPatchOk x0 y0 _).mono ?_
  rintro e w2 ⟨rfl, hg⟩
  have G2 := Lib.hid (grown_trans G1.out hg)
  have K2 := Lib.hid (K1.out.still hg)
  clear hg G1 K1
  have k0 := K2.out.cell (i := 0) (by simp)
  have k1 := K2.out.cell (i := 1) (by simp)
  go_wp2_with fail
  refine (toPatch x0 y0 _).mono ?_
  rintro e w3 ⟨rfl, hg⟩
  have G3 := Lib.hid (grown_trans G2.out hg)
  clear hg G2 K2 k0 k1
  go_wp2_with fail
  refine (implPatchOk x0 y0 _).mono ?_
  rintro e w4 ⟨rfl, hg⟩
  have G4 := Lib.hid (grown_trans G3.out hg)
  clear hg G3
  have hb : (patOk ⟨x0, y0⟩ != patOk ⟨x0, y0⟩) = false := by simp
  generalize patOk ⟨x0, y0⟩ = q at *
  go_wp2_with fail
  go_ret
  exact ⟨rfl, below_grown G4.out⟩

set_option maxRecDepth 100000 in
theorem lifted (os : Os) (started : os.Started) (H : Type) (enc : TypeId × Value → H) :
    ReturnsInHanded {} Try.checked os 7 .any (Rows.fnExactPatchOkSpec.pre6 enc Try.prog Try.f7 Rows.fnExactPatchOkRow.domain false) (Rows.fnExactPatchOkSpec.post enc Try.prog Try.f7 false true false false) := by
  refine returnsInHanded_of_change (C := Try.checked) own started (by kernel_rfl) Try.func7
    (ChangeSpec.witness6 (enc := enc) (C := Try.checked) false ⟨#[], #[.agg #[.int .i64 0, .int .i64 0]], []⟩ 8 (by kernel_rfl) (by kernel_rfl) (by kernel_rfl) (by kernel_rfl)) ?_
  intro W base args ds gs before hval0 hW hcnd _
  have hval : ∀ (j : Nat) t v, Try.f7.params[j]? = some t → args[j]? = some v → Value.okWide Try.prog W .any base t v := hval0
  have hW' := hW
  obtain ⟨p, q, hA0, hV, rfl, hfz, hnd⟩ := hW
  have hA : DataW.TrodAll enc Try.prog W 0 (fun _ => true) true Try.f7.params.toList args.toList ds p := hA0
  rw [Try.params7] at hA hval
  obtain ⟨v0, vs0, d0, ds0, p0, q0, hargs, rfl, rfl, h0, r0⟩ := trodAll_cons hA
  obtain ⟨rfl, rfl, rfl⟩ := trodAll_nil r0
  obtain rfl : args = #[v0] := by cases args; simp_all
  obtain ⟨rfl, rfl⟩ := trodVars_none hV
  have k0 := h0
  have lt0 : ∀ x ∈ p0, x.block < W.heap.size := by obtain ⟨m, hm⟩ := k0; exact DataW.trod_lt m _ _ _ hm
  obtain ⟨x0, y0, rfl⟩ := pat_of Try.underlying52 (by kernel_rfl) (by kernel_rfl) Try.underlying3 Try.underlying3 (hval 0 52 v0 rfl rfl) h0
  clear hA0 hval0
  refine (walk x0 y0 W ).mono fun e W' ⟨he, bel⟩ => ?_
  subst he
  exact ⟨_, rfl, _, _, _, [], _, [], hW', trodAll_mk1 (shut_bool Try.underlying4 _), (trodAll_cons_mk (Below.trod laidOut (by kernel_rfl) (of_decide_eq_true (by kernel_rfl)) k0 bel lt0) trodAll_mk0), rfl, bel.frame _, fun h => by cases h⟩

theorem over : Rows.fnExactPatchOkRow.holds Try.pinned (OpenSpec.ofChange Rows.fnExactPatchOkSpec) :=
  OpenClaim.holds_of_wide 7 Try.f7 rfl rfl rfl rfl rfl rfl rfl ⟨rfl, rfl, rfl, rfl, rfl⟩ rfl rfl rfl rfl rfl (by kernel_rfl) Try.func7 (by kernel_rfl)
    (of_decide_eq_true (by kernel_rfl)) (by unfold Func.isWrapper; first | (rw [if_pos (by decide +kernel)]; kernel_rfl) | (rw [if_neg (by decide +kernel)]; exact ⟨rfl, rfl⟩))
    (fun os started H enc _ => lifted os started H enc)

theorem proved : Rows.FnExactPatchOkSaid := over
#print axioms proved
end Go.Proofs.Ythglkgicckodaaa.fnExactPatchOk
