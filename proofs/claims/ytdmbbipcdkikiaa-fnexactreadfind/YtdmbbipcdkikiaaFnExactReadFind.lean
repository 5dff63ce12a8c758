/-
  For whatever integer, slice of at most 2^20 integers and slice of at most 2^20 flags ReadFind answers as its model does, and writes into no argument: the law FnExactReadFind returns true.
  Conditions: none.
-/
import Derived.Test.YtdmbbipcdkikiaaRows
import Derived.WalkKit
import Derived.ProofKit
import Derived.OpenShut
import Derived.ShutString
import Derived.ChangeOld
import Derived.Below
import Derived.Test.YtdmbbipcdkikiaaG1
import Derived.Test.YtdmbbipcdkikiaaAppendZeros
import Derived.Test.YtdmbbipcdkikiaaG2
import Derived.Test.YtdmbbipcdkikiaaG3
import Derived.Test.YtdmbbipcdkikiaaG4
import Derived.Test.YtdmbbipcdkikiaaReadMath
import Derived.Test.YtdmbbipcdkikiaaReadSpec
import Derived.Test.YtdmbbipcdkikiaaReadTake
import Derived.Test.YtdmbbipcdkikiaaReadProg
import Derived.Test.YtdmbbipcdkikiaaReadTop
import Derived.Test.YtdmbbipcdkikiaaReadTop2
import Derived.Test.YtdmbbipcdkikiaaReadTop3
import Derived.Test.YtdmbbipcdkikiaaReadSpec2
import Derived.Test.YtdmbbipcdkikiaaReadSpec3
namespace Go.Proofs.Ytdmbbipcdkikiaa.fnExactReadFind
open Go.ChangeShapes Go.WideShapes Go.ChangeAt Go.RowKit
set_option linter.unusedVariables false

theorem own : ownKnob Try.prog.godebug = none := by kernel_rfl
theorem laidOut : laidOutB Try.prog = true := by kernel_rfl

set_option maxHeartbeats 2000000 in
set_option maxRecDepth 20000 in
theorem walk (a0 : Int) (a1 : Option Addr) (len1 cap1 : Nat) (l1 : List Int) (a2 : Option Addr) (len2 cap2 : Nat) (f2 : List Bool) (w : World) (w0 : (Lit.int .i64 a0).wf = true) (e1 : len1 = l1.length) (c1 : len1 ≤ cap1) (m1 : cap1 ≤ maxLen) (w1 : Sl w (.slice a1 len1 cap1) l1) (e2 : len2 = f2.length) (c2 : len2 ≤ cap2) (m2 : cap2 ≤ maxLen) (w2 : Bl w (.slice a2 len2 cap2) f2) :
    Calls Try.prog 8 #[.int .i64 a0, .slice a1 len1 cap1, .slice a2 len2 cap2] w fun e w' => e = .returned (.bool true) ∧ Below w.heap.size w w' := by
  have hm1 := m1
  have hm2 := m2
  unfold maxLen at hm1 hm2
  have S := Lib.hid w1
  have B := Lib.hid w2
  subst e1
  subst e2
  clear w1 w2 m1 m2
  by_cases hbig : (l1.length : Int) > 1048576
  · go_enter Try.func8, Try.ntmps8
    go_wp2_with fail
    go_ret
    exact ⟨rfl, Below.refl _ _⟩
  by_cases hbig2 : (f2.length : Int) > 1048576
  · go_enter Try.func8, Try.ntmps8
    go_wp2_with fail
    go_ret
    exact ⟨rfl, Below.refl _ _⟩
  have hle : l1.length ≤ 1048576 := by omega
  have hle2 : f2.length ≤ 1048576 := by omega
  have L0 := Lib.hid (Lives.start w)
  go_enter Try.func8, Try.ntmps8
  go_wp2_with fail
  refine (toIntS _ l1 _ (L0.out.arg1 S.out) hle).mono ?_
  rintro e W1 ⟨t, rfl, hg, ho⟩
  have L1 := Lib.hid (L0.out.new1 hg ho)
  clear hg ho L0
  go_wp2_with fail
  refine (toBoolS _ f2 _ (L1.out.argB B.out) hle2).mono ?_
  rintro e W2 ⟨tb, rfl, hg, ho⟩
  have L2 := Lib.hid (L1.out.newB hg ho)
  clear hg ho L1
  go_wp2_with fail
  refine (specReadFind a0 t tb l1 f2 _ (L2.out.sl (by simp)) (L2.out.bl (by simp)) hle).mono ?_
  rintro e W3 ⟨r, rfl, hq, hg⟩
  have L3 := Lib.hid (L2.out.still hg)
  have Q := Lib.hid hq
  clear hg L2 hq
  go_wp2_with fail
  refine (toIntS _ l1 _ (L3.out.arg1 S.out) hle).mono ?_
  rintro e W4 ⟨x, rfl, hg, ho⟩
  have L4 := Lib.hid (L3.out.new1 hg ho)
  clear hg ho L3
  go_wp2_with fail
  refine (toBoolS _ f2 _ (L4.out.argB B.out) hle2).mono ?_
  rintro e W5 ⟨xb, rfl, hg, ho⟩
  have L5 := Lib.hid (L4.out.newB hg ho)
  clear hg ho L4
  go_wp2_with fail
  refine (implReadFind a0 x xb l1 f2 _ (L5.out.sl (by simp)) (L5.out.bl (by simp))).mono ?_
  rintro e W6 ⟨r', rfl, hq, hg⟩
  obtain rfl := hq.one Q.out
  have L6 := Lib.hid (L5.out.still hg)
  have hqq : (r' != r') = false := by simp
  clear hg L5 hq Q
  go_wp2_with fail
  refine (toIntS _ l1 _ (L6.out.arg1 S.out) hle).mono ?_
  rintro e W7 ⟨y, rfl, hg, ho⟩
  have L7 := Lib.hid (L6.out.new1 hg ho)
  clear hg ho L6
  go_wp2_with fail
  refine (eqSame x y l1 _ (L7.out.sl (by simp)) (L7.out.sl (by simp))).mono ?_
  rintro e W8 ⟨rfl, hg⟩
  have L8 := Lib.hid (L7.out.still hg)
  clear hg L7
  go_wp2_with fail
  refine (toBoolS _ f2 _ (L8.out.argB B.out) hle2).mono ?_
  rintro e W9 ⟨yb, rfl, hg, ho⟩
  have L9 := Lib.hid (L8.out.newB hg ho)
  clear hg ho L8
  go_wp2_with fail
  refine (eqSameB xb yb f2 _ (L9.out.bl (by simp)) (L9.out.bl (by simp))).mono ?_
  rintro e W10 ⟨rfl, hg⟩
  have L10 := Lib.hid (L9.out.still hg)
  clear hg L9
  go_wp2_with fail
  go_ret
  exact ⟨rfl, L10.out.below⟩

set_option maxRecDepth 100000 in
theorem lifted (os : Os) (started : os.Started) (H : Type) (enc : TypeId × Value → H) :
    ReturnsInHanded {} Try.checked os 8 .any (Rows.fnExactReadFindSpec.pre6 enc Try.prog Try.f8 Rows.fnExactReadFindRow.domain false) (Rows.fnExactReadFindSpec.post enc Try.prog Try.f8 false true false false) := by
  refine returnsInHanded_of_change (C := Try.checked) own started (by kernel_rfl) Try.func8
    (ChangeSpec.witness6 (enc := enc) (C := Try.checked) false ⟨#[], #[.int .i64 0, .slice none 0 0, .slice none 0 0], []⟩ 8 (by kernel_rfl) (by kernel_rfl) (by kernel_rfl) (by kernel_rfl)) ?_
  intro W base args ds gs before hval0 hW hcnd _
  have hval : ∀ (j : Nat) t v, Try.f8.params[j]? = some t → args[j]? = some v → Value.okWide Try.prog W .any base t v := hval0
  have hW' := hW
  obtain ⟨p, q, hA0, hV, rfl, hfz, hnd⟩ := hW
  have hA : DataW.TrodAll enc Try.prog W 0 (fun _ => true) true Try.f8.params.toList args.toList ds p := hA0
  rw [Try.params8] at hA hval
  obtain ⟨v0, vs0, d0, ds0, p0, q0, hargs, rfl, rfl, h0, r0⟩ := trodAll_cons hA
  obtain ⟨v1, vs1, d1, ds1, p1, q1, rfl, rfl, rfl, h1, r1⟩ := trodAll_cons r0
  obtain ⟨v2, vs2, d2, ds2, p2, q2, rfl, rfl, rfl, h2, r2⟩ := trodAll_cons r1
  obtain ⟨rfl, rfl, rfl⟩ := trodAll_nil r2
  obtain rfl : args = #[v0, v1, v2] := by cases args; simp_all
  obtain ⟨rfl, rfl⟩ := trodVars_none hV
  obtain ⟨a0, rfl, rfl, rfl, w0⟩ := open_int Try.underlying3 (hval 0 3 v0 rfl rfl) h0
  obtain ⟨a1, len1, cap1, rfl⟩ := okWide_slice Try.underlying26 (hval 1 26 v1 rfl rfl)
  have k1 := h1
  have lt1 : ∀ x ∈ p1, x.block < W.heap.size := by obtain ⟨m, hm⟩ := k1; exact DataW.trod_lt m _ _ _ hm
  obtain ⟨z1, r1⟩ : ∃ zs : List Int, (a1 = none ∧ len1 = 0 ∧ cap1 = 0 ∧ zs = []) ∨ ∃ x, a1 = some x ∧ len1 ≤ cap1 ∧ cap1 ≤ maxLen ∧ zs.length = cap1 ∧ (∀ i, i < zs.length → W.cell? (x.add i) = some (.int .i64 (zs.getD i 0))) ∧ ∀ n ∈ zs, (Lit.int .i64 n).wf = true := by
    obtain ⟨fuel, hf⟩ := h1
    rcases open_ints Try.underlying26 Try.underlying3 (by kernel_rfl) hf with ⟨hcs, _⟩ | ⟨x, l, c, zs, hcs, _, hl, hm, hz, _, hcell, hwz⟩
    · simp [Value.cells] at hcs
      obtain ⟨rfl, rfl, rfl⟩ := hcs
      exact ⟨[], .inl ⟨rfl, rfl, rfl, rfl⟩⟩
    · simp [Value.cells] at hcs
      obtain ⟨rfl, rfl, rfl⟩ := hcs
      exact ⟨zs, .inr ⟨_, rfl, hl, hm, by simpa using hz, hcell, hwz⟩⟩
  obtain ⟨l1, e1, c1, m1, w1⟩ := sl_of r1
  obtain ⟨a2, len2, cap2, rfl⟩ := okWide_slice Try.underlying23 (hval 2 23 v2 rfl rfl)
  have k2 := h2
  have lt2 : ∀ x ∈ p2, x.block < W.heap.size := by obtain ⟨m, hm⟩ := k2; exact DataW.trod_lt m _ _ _ hm
  obtain ⟨f2, e2, c2, m2, w2⟩ := bl_of Try.underlying23 Try.underlying4 (by kernel_rfl) h2
  clear hA0 hval0
  refine (walk a0 a1 len1 cap1 l1 a2 len2 cap2 f2 W w0 e1 c1 m1 w1 e2 c2 m2 w2).mono fun e W' ⟨he, bel⟩ => ?_
  subst he
  exact ⟨_, rfl, _, _, _, [], _, [], hW', trodAll_mk1 (shut_bool Try.underlying4 _), (trodAll_cons_mk (shut_int Try.underlying3 w0) (trodAll_cons_mk (Below.trod laidOut (by kernel_rfl) (of_decide_eq_true (by kernel_rfl)) k1 bel lt1) (trodAll_cons_mk (Below.trod laidOut (by kernel_rfl) (of_decide_eq_true (by kernel_rfl)) k2 bel lt2) trodAll_mk0))), rfl, bel.frame _, fun h => by cases h⟩

theorem over : Rows.fnExactReadFindRow.holds Try.pinned (OpenSpec.ofChange Rows.fnExactReadFindSpec) :=
  OpenClaim.holds_of_wide 8 Try.f8 rfl rfl rfl rfl rfl rfl rfl ⟨rfl, rfl, rfl, rfl, rfl⟩ rfl rfl rfl rfl rfl (by kernel_rfl) Try.func8 (by kernel_rfl)
    (of_decide_eq_true (by kernel_rfl)) (by unfold Func.isWrapper; first | (rw [if_pos (by decide +kernel)]; kernel_rfl) | (rw [if_neg (by decide +kernel)]; exact ⟨rfl, rfl⟩))
    (fun os started H enc _ => lifted os started H enc)

theorem proved : Rows.FnExactReadFindSaid := over
#print axioms proved
end Go.Proofs.Ytdmbbipcdkikiaa.fnExactReadFind
