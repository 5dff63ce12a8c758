/-
  For every two slices of integers of at most 2^20 elements each VecSum answers as its model does, changes nothing, and its answer owns its memory: the law FnExactVecSum returns true.
  Conditions: none.
-/
import Derived.Test.YtdkdkmebiofofaaRows
import Derived.WalkKit
import Derived.ProofKit
import Derived.OpenShut
import Derived.ShutString
import Derived.ChangeOld
import Derived.Below
import Derived.Test.YtdkdkmebiofofaaFldMath
import Derived.Test.YtdkdkmebiofofaaMem
import Derived.Test.YtdkdkmebiofofaaField
import Derived.Test.YtdkdkmebiofofaaVecMath
import Derived.Test.YtdkdkmebiofofaaInts
import Derived.Test.YtdkdkmebiofofaaHelp
import Derived.Test.YtdkdkmebiofofaaVec
import Derived.Test.YtdkdkmebiofofaaVec2
import Derived.Test.YtdkdkmebiofofaaVecSpec
namespace Go.Proofs.Ytdkdkmebiofofaa.fnExactVecSum
open Go.ChangeShapes Go.WideShapes Go.ChangeAt Go.RowKit
open Go.ChangeMaps (open_string shut_string)
set_option linter.unusedVariables false

theorem own : ownKnob Try.prog.godebug = none := by kernel_rfl
theorem laidOut : laidOutB Try.prog = true := by kernel_rfl

/-- WHAT THE WALK IS TOLD OF A SLICE OF INTEGERS THAT CAME IN: it is nil; or it leads to a row of 'cap' cells, the numbers 'zs' (the first 'len' are its elements, the rest its spare room), each fitting its kind. -/
def IsRow (k : IntKind) (w : World) (a : Option Addr) (len cap : Nat) (zs : List Int) : Prop :=
  (a = none ∧ len = 0 ∧ cap = 0 ∧ zs = []) ∨
  ∃ x, a = some x ∧ len ≤ cap ∧ cap ≤ maxLen ∧ zs.length = cap ∧ (∀ i, i < zs.length → w.cell? (x.add i) = some (.int k (zs.getD i 0))) ∧ ∀ n ∈ zs, (Lit.int k n).wf = true

theorem walk (a0 : Option Addr) (len0 cap0 : Nat) (z0 : List Int) (a1 : Option Addr) (len1 cap1 : Nat) (z1 : List Int) (w : World) (w0 : IsRow .i64 w a0 len0 cap0 z0) (w1 : IsRow .i64 w a1 len1 cap1 z1) :
    Calls Try.prog 10 #[.slice a0 len0 cap0, .slice a1 len1 cap1] w fun e w' => e = .returned (.bool true) ∧ Below w.heap.size w w' := by
  obtain ⟨l, rfl, hlc, hcm, hs⟩ := sl_of w0
  obtain ⟨m, rfl, hlc', hcm', hs'⟩ := sl_of w1
  have S := Lib.hid hs
  have T := Lib.hid hs'
  clear hs w0 hs' w1
  unfold maxLen at hcm hcm'
  by_cases hbig : (l.length : Int) > 1048576
  · go_enter Try.func10, Try.ntmps10
    go_wp2_with fail
    go_ret
    exact ⟨rfl, Below.refl _ _⟩
  by_cases hbig' : (m.length : Int) > 1048576
  · go_enter Try.func10, Try.ntmps10
    go_wp2_with fail
    go_ret
    exact ⟨rfl, Below.refl _ _⟩
  have hl : l.length ≤ 1048576 := by omega
  have hm : m.length ≤ 1048576 := by omega
  have hr : (Vec.sum l m).length ≤ 1048576 := by have := Vec.sum_len l m; omega
  have L0 := Lib.hid (Live.start w)
  go_enter Try.func10, Try.ntmps10
  go_wp2_with fail
  refine (toIntS _ l _ (L0.out.arg S.out) hl).mono ?_
  rintro e W1 ⟨a1, rfl, hg, ho⟩
  have L1 := Lib.hid (L0.out.new hg ho)
  clear hg ho L0
  go_wp2_with fail
  refine (toIntS _ m _ (L1.out.arg T.out) hm).mono ?_
  rintro e W2 ⟨b1, rfl, hg, ho⟩
  have L2 := Lib.hid (L1.out.new hg ho)
  clear hg ho L1
  go_wp2_with fail
  refine (specVecSum a1 b1 l m _ (L2.out.sl (a1, l) (by simp)) (L2.out.sl (b1, m) (by simp))).mono ?_
  rintro e W3 ⟨r0, rfl, hg, ho⟩
  have L3 := Lib.hid (L2.out.new hg ho)
  clear hg ho L2
  go_wp2_with fail
  refine (toIntS _ l _ (L3.out.arg S.out) hl).mono ?_
  rintro e W4 ⟨x0, rfl, hg, ho⟩
  have L4 := Lib.hid (L3.out.new hg ho)
  clear hg ho L3
  go_wp2_with fail
  refine (toIntS _ m _ (L4.out.arg T.out) hm).mono ?_
  rintro e W5 ⟨x1, rfl, hg, ho⟩
  have L5 := Lib.hid (L4.out.new hg ho)
  clear hg ho L4
  go_wp2_with fail
  refine (implVecSum x0 x1 l m _ (L5.out.sl (x0, l) (by simp)) (L5.out.sl (x1, m) (by simp))).mono ?_
  rintro e W6 ⟨g0, rfl, hg, ho⟩
  have L6 := Lib.hid (L5.out.new hg ho)
  clear hg ho L5
  go_wp2_with fail
  refine (eqSame g0 r0 (Vec.sum l m) _ (L6.out.sl (g0, Vec.sum l m) (by simp)) (L6.out.sl (r0, Vec.sum l m) (by simp))).mono ?_
  rintro e W7 ⟨rfl, hg⟩
  have L7 := Lib.hid (L6.out.still hg)
  clear hg L6
  go_wp2_with fail
  refine (toIntS _ l _ (L7.out.arg S.out) hl).mono ?_
  rintro e W8 ⟨c1, rfl, hg, ho⟩
  have L8 := Lib.hid (L7.out.new hg ho)
  clear hg ho L7
  go_wp2_with fail
  refine (eqSame x0 c1 l _ (L8.out.sl (x0, l) (by simp)) (L8.out.sl (c1, l) (by simp))).mono ?_
  rintro e W9 ⟨rfl, hg⟩
  have L9 := Lib.hid (L8.out.still hg)
  clear hg L8
  go_wp2_with fail
  refine (toIntS _ m _ (L9.out.arg T.out) hm).mono ?_
  rintro e W10 ⟨c2, rfl, hg, ho⟩
  have L10 := Lib.hid (L9.out.new hg ho)
  clear hg ho L9
  go_wp2_with fail
  refine (eqSame x1 c2 m _ (L10.out.sl (x1, m) (by simp)) (L10.out.sl (c2, m) (by simp))).mono ?_
  rintro e W11 ⟨rfl, hg⟩
  have L11 := Lib.hid (L10.out.still hg)
  clear hg L10
  go_wp2_with fail
  have F11 := Lib.hid (Live.front (L := [(c2, m), (c1, l), (g0, Vec.sum l m), (x1, m)]) (v := x0) (l := l) (L' := [(r0, Vec.sum l m), (b1, m), (a1, l)]) L11.out)
  refine (markIntS x0 (l) 1 w.heap.size _ (F11.out.own (x0, l) (by simp)) hl (by omega) (by omega)).mono ?_
  rintro e W12 ⟨rfl, hg, ho⟩
  have L12 := Lib.hid (F11.out.put hg ho)
  clear hg ho F11 L11
  go_wp2_with fail
  have F12 := Lib.hid (Live.front (L := [(x0, marks 1 (l).length), (c2, m), (c1, l), (g0, Vec.sum l m)]) (v := x1) (l := m) (L' := [(r0, Vec.sum l m), (b1, m), (a1, l)]) L12.out)
  refine (markIntS x1 (m) (1+(l.length:Int)) w.heap.size _ (F12.out.own (x1, m) (by simp)) hm (by omega) (by omega)).mono ?_
  rintro e W13 ⟨rfl, hg, ho⟩
  have L13 := Lib.hid (F12.out.put hg ho)
  clear hg ho F12 L12
  go_wp2_with fail
  refine (eqSame g0 r0 (Vec.sum l m) _ (L13.out.sl (g0, Vec.sum l m) (by simp)) (L13.out.sl (r0, Vec.sum l m) (by simp))).mono ?_
  rintro e W14 ⟨rfl, hg⟩
  have L14 := Lib.hid (L13.out.still hg)
  clear hg L13
  go_wp2_with fail
  have F14 := Lib.hid (Live.front (L := [(x1, marks (1+(l.length:Int)) (m).length), (x0, marks 1 (l).length), (c2, m), (c1, l)]) (v := g0) (l := Vec.sum l m) (L' := [(r0, Vec.sum l m), (b1, m), (a1, l)]) L14.out)
  refine (markIntS g0 (Vec.sum l m) 1 w.heap.size _ (F14.out.own (g0, Vec.sum l m) (by simp)) hr (by omega) (by omega)).mono ?_
  rintro e W15 ⟨rfl, hg, ho⟩
  have L15 := Lib.hid (F14.out.put hg ho)
  clear hg ho F14 L14
  go_wp2_with fail
  refine (heldIntS g0 (Vec.sum l m).length 1 _ (L15.out.sl (g0, marks 1 (Vec.sum l m).length) (by simp)) hr (by omega) (by omega)).mono ?_
  rintro e w' ⟨rfl, rfl⟩
  go_wp2_with fail
  refine (toIntS _ l _ (L15.out.arg S.out) hl).mono ?_
  rintro e W16 ⟨d1, rfl, hg, ho⟩
  have L16 := Lib.hid (L15.out.new hg ho)
  clear hg ho L15
  go_wp2_with fail
  refine (toIntS _ m _ (L16.out.arg T.out) hm).mono ?_
  rintro e W17 ⟨d2, rfl, hg, ho⟩
  have L17 := Lib.hid (L16.out.new hg ho)
  clear hg ho L16
  go_wp2_with fail
  refine (implVecSum d1 d2 l m _ (L17.out.sl (d1, l) (by simp)) (L17.out.sl (d2, m) (by simp))).mono ?_
  rintro e W18 ⟨h0, rfl, hg, ho⟩
  have L18 := Lib.hid (L17.out.new hg ho)
  clear hg ho L17
  go_wp2_with fail
  refine (eqSame h0 r0 (Vec.sum l m) _ (L18.out.sl (h0, Vec.sum l m) (by simp)) (L18.out.sl (r0, Vec.sum l m) (by simp))).mono ?_
  rintro e W19 ⟨rfl, hg⟩
  have L19 := Lib.hid (L18.out.still hg)
  clear hg L18
  go_wp2_with fail
  refine (heldIntS g0 (Vec.sum l m).length 1 _ (L19.out.sl (g0, marks 1 (Vec.sum l m).length) (by simp)) hr (by omega) (by omega)).mono ?_
  rintro e w' ⟨rfl, rfl⟩
  go_wp2_with fail
  go_ret
  exact ⟨rfl, L19.out.below⟩

set_option maxRecDepth 100000 in
theorem lifted (os : Os) (started : os.Started) (H : Type) (enc : TypeId × Value → H) :
    ReturnsInHanded {} Try.checked os 10 .any (Rows.fnExactVecSumSpec.pre6 enc Try.prog Try.f10 Rows.fnExactVecSumRow.domain false) (Rows.fnExactVecSumSpec.post enc Try.prog Try.f10 false true false false) := by
  refine returnsInHanded_of_change (C := Try.checked) own started (by kernel_rfl) Try.func10
    (ChangeSpec.witness6 (enc := enc) (C := Try.checked) false ⟨#[], #[.slice none 0 0, .slice none 0 0], []⟩ 8 (by kernel_rfl) (by kernel_rfl) (by kernel_rfl) (by kernel_rfl)) ?_
  intro W base args ds gs before hval0 hW hcnd _
  have hval : ∀ (j : Nat) t v, Try.f10.params[j]? = some t → args[j]? = some v → Value.okWide Try.prog W .any base t v := hval0
  have hW' := hW
  obtain ⟨p, q, hA0, hV, rfl, hfz, hnd⟩ := hW
  have hA : DataW.TrodAll enc Try.prog W 0 (fun _ => true) true Try.f10.params.toList args.toList ds p := hA0
  rw [Try.params10] at hA hval
  obtain ⟨v0, vs0, d0, ds0, p0, q0, hargs, rfl, rfl, h0, r0⟩ := trodAll_cons hA
  obtain ⟨v1, vs1, d1, ds1, p1, q1, rfl, rfl, rfl, h1, r1⟩ := trodAll_cons r0
  obtain ⟨rfl, rfl, rfl⟩ := trodAll_nil r1
  obtain rfl : args = #[v0, v1] := by cases args; simp_all
  obtain ⟨rfl, rfl⟩ := trodVars_none hV
  obtain ⟨a0, len0, cap0, rfl⟩ := okWide_slice Try.underlying23 (hval 0 23 v0 rfl rfl)
  have k0 := h0
  have lt0 : ∀ x ∈ p0, x.block < W.heap.size := by obtain ⟨m, hm⟩ := k0; exact DataW.trod_lt m _ _ _ hm
  obtain ⟨z0, w0⟩ : ∃ zs, IsRow .i64 W a0 len0 cap0 zs := by
    obtain ⟨fuel, hf⟩ := h0
    rcases open_ints Try.underlying23 Try.underlying3 (by kernel_rfl) hf with ⟨hcs, _⟩ | ⟨x, l, c, zs, hcs, _, hl, hm, hz, _, hcell, hwz⟩
    · simp [Value.cells] at hcs
      obtain ⟨rfl, rfl, rfl⟩ := hcs
      exact ⟨[], .inl ⟨rfl, rfl, rfl, rfl⟩⟩
    · simp [Value.cells] at hcs
      obtain ⟨rfl, rfl, rfl⟩ := hcs
      exact ⟨zs, .inr ⟨_, rfl, hl, hm, by simpa using hz, hcell, hwz⟩⟩
  obtain ⟨a1, len1, cap1, rfl⟩ := okWide_slice Try.underlying23 (hval 1 23 v1 rfl rfl)
  have k1 := h1
  have lt1 : ∀ x ∈ p1, x.block < W.heap.size := by obtain ⟨m, hm⟩ := k1; exact DataW.trod_lt m _ _ _ hm
  obtain ⟨z1, w1⟩ : ∃ zs, IsRow .i64 W a1 len1 cap1 zs := by
    obtain ⟨fuel, hf⟩ := h1
    rcases open_ints Try.underlying23 Try.underlying3 (by kernel_rfl) hf with ⟨hcs, _⟩ | ⟨x, l, c, zs, hcs, _, hl, hm, hz, _, hcell, hwz⟩
    · simp [Value.cells] at hcs
      obtain ⟨rfl, rfl, rfl⟩ := hcs
      exact ⟨[], .inl ⟨rfl, rfl, rfl, rfl⟩⟩
    · simp [Value.cells] at hcs
      obtain ⟨rfl, rfl, rfl⟩ := hcs
      exact ⟨zs, .inr ⟨_, rfl, hl, hm, by simpa using hz, hcell, hwz⟩⟩
  clear hA0 hval0
  refine (walk a0 len0 cap0 z0 a1 len1 cap1 z1 W w0 w1).mono fun e W' ⟨he, bel⟩ => ?_
  subst he
  exact ⟨_, rfl, _, _, _, [], _, [], hW', trodAll_mk1 (shut_bool Try.underlying4 _), (trodAll_cons_mk (Below.trod laidOut (by kernel_rfl) (of_decide_eq_true (by kernel_rfl)) k0 bel lt0) (trodAll_cons_mk (Below.trod laidOut (by kernel_rfl) (of_decide_eq_true (by kernel_rfl)) k1 bel lt1) trodAll_mk0)), rfl, bel.frame _, fun h => by cases h⟩

theorem over : Rows.fnExactVecSumRow.holds Try.pinned (OpenSpec.ofChange Rows.fnExactVecSumSpec) :=
  OpenClaim.holds_of_wide 10 Try.f10 rfl rfl rfl rfl rfl rfl rfl ⟨rfl, rfl, rfl, rfl, rfl⟩ rfl rfl rfl rfl rfl (by kernel_rfl) Try.func10 (by kernel_rfl)
    (of_decide_eq_true (by kernel_rfl)) (by unfold Func.isWrapper; first | (rw [if_pos (by decide +kernel)]; kernel_rfl) | (rw [if_neg (by decide +kernel)]; exact ⟨rfl, rfl⟩))
    (fun os started H enc _ => lifted os started H enc)

theorem proved : Rows.FnExactVecSumSaid := over
#print axioms proved
end Go.Proofs.Ytdkdkmebiofofaa.fnExactVecSum
