/-
  For every slice of integers of at most 2^20 elements and every integer VecScale answers as its model does, changes nothing, and its answer owns its memory: the law FnExactVecScale returns true.
  Conditions: none.
-/
import Derived.Test.YtdkdkmebiofofaaRows
import Derived.WalkKit
import Derived.ProofKit
import Derived.OpenShut
import Derived.ShutString
import Derived.ChangeOld
import Derived.Below
import Derived.Test.YtdkdkmebiofofaaFldMath
import Derived.Test.YtdkdkmebiofofaaMem
import Derived.Test.YtdkdkmebiofofaaField
import Derived.Test.YtdkdkmebiofofaaVecMath
import Derived.Test.YtdkdkmebiofofaaInts
import Derived.Test.YtdkdkmebiofofaaHelp
import Derived.Test.YtdkdkmebiofofaaVec
import Derived.Test.YtdkdkmebiofofaaVec2
import Derived.Test.YtdkdkmebiofofaaVecSpec
namespace Go.Proofs.Ytdkdkmebiofofaa.fnExactVecScale
open Go.ChangeShapes Go.WideShapes Go.ChangeAt Go.RowKit
open Go.ChangeMaps (open_string shut_string)
set_option linter.unusedVariables false

theorem own : ownKnob Try.prog.godebug = none := by kernel_rfl
theorem laidOut : laidOutB Try.prog = true := by kernel_rfl

/-- WHAT THE WALK IS TOLD OF A SLICE OF INTEGERS THAT CAME IN: it is nil; or it leads to a row of 'cap' cells, the numbers 'zs' (the first 'len' are its elements, the rest its spare room), each fitting its kind. -/
def IsRow (k : IntKind) (w : World) (a : Option Addr) (len cap : Nat) (zs : List Int) : Prop :=
  (a = none ∧ len = 0 ∧ cap = 0 ∧ zs = []) ∨
  ∃ x, a = some x ∧ len ≤ cap ∧ cap ≤ maxLen ∧ zs.length = cap ∧ (∀ i, i < zs.length → w.cell? (x.add i) = some (.int k (zs.getD i 0))) ∧ ∀ n ∈ zs, (Lit.int k n).wf = true

theorem walk (a0 : Option Addr) (len0 cap0 : Nat) (z0 : List Int) (a1 : Int) (w : World) (w0 : IsRow .i64 w a0 len0 cap0 z0) (w1 : (Lit.int .i64 a1).wf = true) :
    Calls Try.prog 11 #[.slice a0 len0 cap0, .int .i64 a1] w fun e w' => e = .returned (.bool true) ∧ Below w.heap.size w w' := by
  obtain ⟨l, rfl, hlc, hcm, hs⟩ := sl_of w0
  have S := Lib.hid hs
  clear hs w0
  unfold maxLen at hcm
  by_cases hbig : (l.length : Int) > 1048576
  · go_enter Try.func11, Try.ntmps11
    go_wp2_with fail
    go_ret
    exact ⟨rfl, Below.refl _ _⟩
  have hl : l.length ≤ 1048576 := by omega
  have hr : (Vec.scale l a1).length ≤ 1048576 := by have := Vec.scale_len l a1; omega
  have L0 := Lib.hid (Live.start w)
  go_enter Try.func11, Try.ntmps11
  go_wp2_with fail
  refine (toIntS _ l _ (L0.out.arg S.out) hl).mono ?_
  rintro e W1 ⟨y1, rfl, hg, ho⟩
  have L1 := Lib.hid (L0.out.new hg ho)
  clear hg ho L0
  go_wp2_with fail
  refine (specVecScale y1 l a1 _ (L1.out.sl (y1, l) (by simp))).mono ?_
  rintro e W2 ⟨r0, rfl, hg, ho⟩
  have L2 := Lib.hid (L1.out.new hg ho)
  clear hg ho L1
  go_wp2_with fail
  refine (toIntS _ l _ (L2.out.arg S.out) hl).mono ?_
  rintro e W3 ⟨x0, rfl, hg, ho⟩
  have L3 := Lib.hid (L2.out.new hg ho)
  clear hg ho L2
  go_wp2_with fail
  refine (implVecScale x0 l a1 _ (L3.out.sl (x0, l) (by simp))).mono ?_
  rintro e W4 ⟨g0, rfl, hg, ho⟩
  have L4 := Lib.hid (L3.out.new hg ho)
  clear hg ho L3
  go_wp2_with fail
  refine (eqSame g0 r0 (Vec.scale l a1) _ (L4.out.sl (g0, Vec.scale l a1) (by simp)) (L4.out.sl (r0, Vec.scale l a1) (by simp))).mono ?_
  rintro e W5 ⟨rfl, hg⟩
  have L5 := Lib.hid (L4.out.still hg)
  clear hg L4
  go_wp2_with fail
  refine (toIntS _ l _ (L5.out.arg S.out) hl).mono ?_
  rintro e W6 ⟨c1, rfl, hg, ho⟩
  have L6 := Lib.hid (L5.out.new hg ho)
  clear hg ho L5
  go_wp2_with fail
  refine (eqSame x0 c1 l _ (L6.out.sl (x0, l) (by simp)) (L6.out.sl (c1, l) (by simp))).mono ?_
  rintro e W7 ⟨rfl, hg⟩
  have L7 := Lib.hid (L6.out.still hg)
  clear hg L6
  go_wp2_with fail
  have F7 := Lib.hid (Live.front (L := [(c1, l), (g0, Vec.scale l a1)]) (v := x0) (l := l) (L' := [(r0, Vec.scale l a1), (y1, l)]) L7.out)
  refine (markIntS x0 (l) 1 w.heap.size _ (F7.out.own (x0, l) (by simp)) hl (by omega) (by omega)).mono ?_
  rintro e W8 ⟨rfl, hg, ho⟩
  have L8 := Lib.hid (F7.out.put hg ho)
  clear hg ho F7 L7
  go_wp2_with fail
  refine (eqSame g0 r0 (Vec.scale l a1) _ (L8.out.sl (g0, Vec.scale l a1) (by simp)) (L8.out.sl (r0, Vec.scale l a1) (by simp))).mono ?_
  rintro e W9 ⟨rfl, hg⟩
  have L9 := Lib.hid (L8.out.still hg)
  clear hg L8
  go_wp2_with fail
  have F9 := Lib.hid (Live.front (L := [(x0, marks 1 (l).length), (c1, l)]) (v := g0) (l := Vec.scale l a1) (L' := [(r0, Vec.scale l a1), (y1, l)]) L9.out)
  refine (markIntS g0 (Vec.scale l a1) 1 w.heap.size _ (F9.out.own (g0, Vec.scale l a1) (by simp)) hr (by omega) (by omega)).mono ?_
  rintro e W10 ⟨rfl, hg, ho⟩
  have L10 := Lib.hid (F9.out.put hg ho)
  clear hg ho F9 L9
  go_wp2_with fail
  refine (heldIntS g0 (Vec.scale l a1).length 1 _ (L10.out.sl (g0, marks 1 (Vec.scale l a1).length) (by simp)) hr (by omega) (by omega)).mono ?_
  rintro e w' ⟨rfl, rfl⟩
  go_wp2_with fail
  refine (toIntS _ l _ (L10.out.arg S.out) hl).mono ?_
  rintro e W11 ⟨d1, rfl, hg, ho⟩
  have L11 := Lib.hid (L10.out.new hg ho)
  clear hg ho L10
  go_wp2_with fail
  refine (implVecScale d1 l a1 _ (L11.out.sl (d1, l) (by simp))).mono ?_
  rintro e W12 ⟨h0, rfl, hg, ho⟩
  have L12 := Lib.hid (L11.out.new hg ho)
  clear hg ho L11
  go_wp2_with fail
  refine (eqSame h0 r0 (Vec.scale l a1) _ (L12.out.sl (h0, Vec.scale l a1) (by simp)) (L12.out.sl (r0, Vec.scale l a1) (by simp))).mono ?_
  rintro e W13 ⟨rfl, hg⟩
  have L13 := Lib.hid (L12.out.still hg)
  clear hg L12
  go_wp2_with fail
  refine (heldIntS g0 (Vec.scale l a1).length 1 _ (L13.out.sl (g0, marks 1 (Vec.scale l a1).length) (by simp)) hr (by omega) (by omega)).mono ?_
  rintro e w' ⟨rfl, rfl⟩
  go_wp2_with fail
  go_ret
  exact ⟨rfl, L13.out.below⟩

set_option maxRecDepth 100000 in
theorem lifted (os : Os) (started : os.Started) (H : Type) (enc : TypeId × Value → H) :
    ReturnsInHanded {} Try.checked os 11 .any (Rows.fnExactVecScaleSpec.pre6 enc Try.prog Try.f11 Rows.fnExactVecScaleRow.domain false) (Rows.fnExactVecScaleSpec.post enc Try.prog Try.f11 false true false false) := by
  refine returnsInHanded_of_change (C := Try.checked) own started (by kernel_rfl) Try.func11
    (ChangeSpec.witness6 (enc := enc) (C := Try.checked) false ⟨#[], #[.slice none 0 0, .int .i64 0], []⟩ 8 (by kernel_rfl) (by kernel_rfl) (by kernel_rfl) (by kernel_rfl)) ?_
  intro W base args ds gs before hval0 hW hcnd _
  have hval : ∀ (j : Nat) t v, Try.f11.params[j]? = some t → args[j]? = some v → Value.okWide Try.prog W .any base t v := hval0
  have hW' := hW
  obtain ⟨p, q, hA0, hV, rfl, hfz, hnd⟩ := hW
  have hA : DataW.TrodAll enc Try.prog W 0 (fun _ => true) true Try.f11.params.toList args.toList ds p := hA0
  rw [Try.params11] at hA hval
  obtain ⟨v0, vs0, d0, ds0, p0, q0, hargs, rfl, rfl, h0, r0⟩ := trodAll_cons hA
  obtain ⟨v1, vs1, d1, ds1, p1, q1, rfl, rfl, rfl, h1, r1⟩ := trodAll_cons r0
  obtain ⟨rfl, rfl, rfl⟩ := trodAll_nil r1
  obtain rfl : args = #[v0, v1] := by cases args; simp_all
  obtain ⟨rfl, rfl⟩ := trodVars_none hV
  obtain ⟨a0, len0, cap0, rfl⟩ := okWide_slice Try.underlying23 (hval 0 23 v0 rfl rfl)
  have k0 := h0
  have lt0 : ∀ x ∈ p0, x.block < W.heap.size := by obtain ⟨m, hm⟩ := k0; exact DataW.trod_lt m _ _ _ hm
  obtain ⟨z0, w0⟩ : ∃ zs, IsRow .i64 W a0 len0 cap0 zs := by
    obtain ⟨fuel, hf⟩ := h0
    rcases open_ints Try.underlying23 Try.underlying3 (by kernel_rfl) hf with ⟨hcs, _⟩ | ⟨x, l, c, zs, hcs, _, hl, hm, hz, _, hcell, hwz⟩
    · simp [Value.cells] at hcs
      obtain ⟨rfl, rfl, rfl⟩ := hcs
      exact ⟨[], .inl ⟨rfl, rfl, rfl, rfl⟩⟩
    · simp [Value.cells] at hcs
      obtain ⟨rfl, rfl, rfl⟩ := hcs
      exact ⟨zs, .inr ⟨_, rfl, hl, hm, by simpa using hz, hcell, hwz⟩⟩
  obtain ⟨a1, rfl, rfl, rfl, w1⟩ := open_int Try.underlying3 (hval 1 3 v1 rfl rfl) h1
  clear hA0 hval0
  refine (walk a0 len0 cap0 z0 a1 W w0 w1).mono fun e W' ⟨he, bel⟩ => ?_
  subst he
  exact ⟨_, rfl, _, _, _, [], _, [], hW', trodAll_mk1 (shut_bool Try.underlying4 _), (trodAll_cons_mk (Below.trod laidOut (by kernel_rfl) (of_decide_eq_true (by kernel_rfl)) k0 bel lt0) (trodAll_cons_mk (shut_int Try.underlying3 w1) trodAll_mk0)), rfl, bel.frame _, fun h => by cases h⟩

theorem over : Rows.fnExactVecScaleRow.holds Try.pinned (OpenSpec.ofChange Rows.fnExactVecScaleSpec) :=
  OpenClaim.holds_of_wide 11 Try.f11 rfl rfl rfl rfl rfl rfl rfl ⟨rfl, rfl, rfl, rfl, rfl⟩ rfl rfl rfl rfl rfl (by kernel_rfl) Try.func11 (by kernel_rfl)
    (of_decide_eq_true (by kernel_rfl)) (by unfold Func.isWrapper; first | (rw [if_pos (by decide +kernel)]; kernel_rfl) | (rw [if_neg (by decide +kernel)]; exact ⟨rfl, rfl⟩))
    (fun os started H enc _ => lifted os started H enc)

theorem proved : Rows.FnExactVecScaleSaid := over
#print axioms proved
end Go.Proofs.Ytdkdkmebiofofaa.fnExactVecScale
