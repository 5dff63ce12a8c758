/-
  For every slice of slices of integers, of at most 2^20 rows and elements together, and every slice of at most 2^20 integers SpanHas answers as its model does and changes nothing: the law FnExactSpanHas returns true.
  Conditions: none.
-/
import Derived.Test.YtogjgajabdiaaabRows
import Derived.WalkKit
import Derived.ProofKit
import Derived.OpenShut
import Derived.ShutString
import Derived.ChangeOld
import Derived.Below
import Derived.Test.YtogjgajabdiaaabFldMath
import Derived.Test.YtogjgajabdiaaabMem
import Derived.Test.YtogjgajabdiaaabField
import Derived.Test.YtogjgajabdiaaabVecMath
import Derived.Test.YtogjgajabdiaaabSpanMath
import Derived.Test.YtogjgajabdiaaabSpanList
import Derived.Test.YtogjgajabdiaaabSpanTidy
import Derived.Test.YtogjgajabdiaaabSpanMore
import Derived.Test.YtogjgajabdiaaabSpanBy
import Derived.Test.YtogjgajabdiaaabSpanWork
import Derived.Test.YtogjgajabdiaaabInts
import Derived.Test.YtogjgajabdiaaabTabs
import Derived.Test.YtogjgajabdiaaabHelp
import Derived.Test.YtogjgajabdiaaabVec
import Derived.Test.YtogjgajabdiaaabVec2
import Derived.Test.YtogjgajabdiaaabSpanHelp
import Derived.Test.YtogjgajabdiaaabSpanHelp2
import Derived.Test.YtogjgajabdiaaabSpanOk
import Derived.Test.YtogjgajabdiaaabSpanLine
import Derived.Test.YtogjgajabdiaaabSpanEch
import Derived.Test.YtogjgajabdiaaabVecSpec
import Derived.Test.YtogjgajabdiaaabSpanTake
import Derived.Test.YtogjgajabdiaaabSpanProg
import Derived.Test.YtogjgajabdiaaabSpanTops
import Derived.Test.YtogjgajabdiaaabSpanSpec
import Derived.Test.YtogjgajabdiaaabSpanSpec2
import Derived.Test.YtogjgajabdiaaabSpanSpec3
import Derived.Test.YtogjgajabdiaaabSpanSpec4
import Derived.Test.YtogjgajabdiaaabSpanTopsBy
import Derived.Test.YtogjgajabdiaaabSpanTops2
namespace Go.Proofs.Ytogjgajabdiaaab.fnExactSpanHas
open Go.ChangeShapes Go.WideShapes Go.ChangeAt Go.RowKit
set_option linter.unusedVariables false

theorem own : ownKnob Try.prog.godebug = none := by kernel_rfl
theorem laidOut : laidOutB Try.prog = true := by kernel_rfl

theorem walk (a0 : Option Addr) (len0 cap0 : Nat) (us0 : List Value) (t0 : List (List Int)) (a1 : Option Addr) (len1 cap1 : Nat) (l1 : List Int) (w : World) (e0 : len0 = t0.length) (c0 : len0 ≤ cap0) (m0 : cap0 ≤ maxLen) (w0 : Tab w (.slice a0 len0 cap0) us0 t0) (e1 : len1 = l1.length) (c1 : len1 ≤ cap1) (m1 : cap1 ≤ maxLen) (w1 : Sl w (.slice a1 len1 cap1) l1) :
    Calls Try.prog 4 #[.slice a0 len0 cap0, .slice a1 len1 cap1] w fun e w' => e = .returned (.bool true) ∧ Below w.heap.size w w' := by
  subst e0
  subst e1
  have TA := Lib.hid w0
  have SA := Lib.hid w1
  clear w0 w1
  unfold maxLen at m0 m1
  by_cases hbig : (l1.length : Int) > 1048576
  · go_enter Try.func4, Try.ntmps4
    go_wp2_with fail
    go_ret
    exact ⟨rfl, Below.refl _ _⟩
  have hv : l1.length ≤ 1048576 := by omega
  go_enter Try.func4, Try.ntmps4
  go_wp2_with fail
  refine (szIntSS _ us0 t0 1048576 _ TA.out (by omega) (by omega)).mono ?_
  rintro e w' ⟨r, rfl, rfl, r1, hz⟩
  by_cases hneg : r < 0
  · go_wp2_with fail
    go_ret
    exact ⟨rfl, Below.refl _ _⟩
  obtain ⟨hl, ht⟩ := hz (by omega)
  clear hz
  have L0 := Lib.hid (Lives.start w)
  go_wp2_with fail
  refine (toIntSS _ us0 t0 _ TA.out hl ht).mono ?_
  rintro e W1 ⟨x1, ux1, rfl, hg, hlx1, ho⟩
  have L1 := Lib.hid (L0.out.still hg)
  have T1 := Lib.hid (tab_own hlx1 ho)
  clear hg ho L0
  go_wp2_with fail
  refine (toIntS _ l1 _ (L1.out.arg1 SA.out) hv).mono ?_
  rintro e W2 ⟨y1, rfl, hg, ho⟩
  have L2 := Lib.hid (L1.out.still hg)
  have T2 := Lib.hid (T1.out.grown hg)
  have S2 := Lib.hid ho.sl
  clear hg ho L1 T1
  go_wp2_with fail
  refine (specSpanHas x1 y1 ux1 t0 l1 _ T2.out S2.out).mono ?_
  rintro e W3 ⟨rfl, hg⟩
  have L3 := Lib.hid (L2.out.still hg)
  obtain ⟨q, hq⟩ : ∃ q, hasM t0 l1 = q := ⟨_, rfl⟩
  rw [hq]
  have Q := Lib.hid hq
  clear hq hg L2 T2 S2
  go_wp2_with fail
  refine (toIntSS _ us0 t0 _ (L3.out.arg TA.out) hl ht).mono ?_
  rintro e W4 ⟨x2, ux2, rfl, hg, hlx2, ho⟩
  have L4 := Lib.hid (L3.out.still hg)
  have T4 := Lib.hid (tab_own hlx2 ho)
  clear hg ho L3
  go_wp2_with fail
  refine (toIntS _ l1 _ (L4.out.arg1 SA.out) hv).mono ?_
  rintro e W5 ⟨y2, rfl, hg, ho⟩
  have L5 := Lib.hid (L4.out.still hg)
  have T5 := Lib.hid (T4.out.grown hg)
  have S5 := Lib.hid ho.sl
  clear hg ho L4 T4
  go_wp2_with fail
  refine (implSpanHas x2 y2 ux2 t0 l1 _ T5.out S5.out).mono ?_
  rintro e W6 ⟨rfl, hg⟩
  rw [Q.out]
  have L6 := Lib.hid (L5.out.still hg)
  have T6 := Lib.hid (T5.out.grown hg)
  have S6 := Lib.hid (S5.out.grown hg)
  have hqq : (q != q) = false := by cases q <;> rfl
  clear hg L5 T5 S5
  go_wp2_with fail
  refine (toIntSS _ us0 t0 _ (L6.out.arg TA.out) hl ht).mono ?_
  rintro e W7 ⟨x3, ux3, rfl, hg, hlx3, ho⟩
  have L7 := Lib.hid (L6.out.still hg)
  have T7 := Lib.hid (tab_own hlx3 ho)
  have T8 := Lib.hid (T6.out.grown hg)
  have S7 := Lib.hid (S6.out.grown hg)
  clear hg ho L6 T6 S6
  go_wp2_with fail
  refine (eqTabSame x2 x3 ux2 ux3 t0 _ T8.out T7.out).mono ?_
  rintro e W8 ⟨rfl, hg⟩
  have L8 := Lib.hid (L7.out.still hg)
  have S8 := Lib.hid (S7.out.grown hg)
  clear hg L7 T7 T8 S7
  go_wp2_with fail
  refine (toIntS _ l1 _ (L8.out.arg1 SA.out) hv).mono ?_
  rintro e W9 ⟨y3, rfl, hg, ho⟩
  have L9 := Lib.hid (L8.out.still hg)
  have S9 := Lib.hid (S8.out.grown hg)
  have SB := Lib.hid ho.sl
  clear hg ho L8 S8
  go_wp2_with fail
  refine (eqSame y2 y3 l1 _ S9.out SB.out).mono ?_
  rintro e WA ⟨rfl, hg⟩
  have LA := Lib.hid (L9.out.still hg)
  clear hg
  go_wp2_with fail
  go_ret
  exact ⟨rfl, LA.out.below⟩

set_option maxRecDepth 100000 in
theorem lifted (os : Os) (started : os.Started) (H : Type) (enc : TypeId × Value → H) :
    ReturnsInHanded {} Try.checked os 4 .any (Rows.fnExactSpanHasSpec.pre6 enc Try.prog Try.f4 Rows.fnExactSpanHasRow.domain false) (Rows.fnExactSpanHasSpec.post enc Try.prog Try.f4 false true false false) := by
  refine returnsInHanded_of_change (C := Try.checked) own started (by kernel_rfl) Try.func4
    (ChangeSpec.witness6 (enc := enc) (C := Try.checked) false ⟨#[], #[.slice none 0 0, .slice none 0 0], []⟩ 8 (by kernel_rfl) (by kernel_rfl) (by kernel_rfl) (by kernel_rfl)) ?_
  intro W base args ds gs before hval0 hW hcnd _
  have hval : ∀ (j : Nat) t v, Try.f4.params[j]? = some t → args[j]? = some v → Value.okWide Try.prog W .any base t v := hval0
  have hW' := hW
  obtain ⟨p, q, hA0, hV, rfl, hfz, hnd⟩ := hW
  have hA : DataW.TrodAll enc Try.prog W 0 (fun _ => true) true Try.f4.params.toList args.toList ds p := hA0
  rw [Try.params4] at hA hval
  obtain ⟨v0, vs0, d0, ds0, p0, q0, hargs, rfl, rfl, h0, r0⟩ := trodAll_cons hA
  obtain ⟨v1, vs1, d1, ds1, p1, q1, rfl, rfl, rfl, h1, r1⟩ := trodAll_cons r0
  obtain ⟨rfl, rfl, rfl⟩ := trodAll_nil r1
  obtain rfl : args = #[v0, v1] := by cases args; simp_all
  obtain ⟨rfl, rfl⟩ := trodVars_none hV
  obtain ⟨a0, len0, cap0, rfl⟩ := okWide_slice Try.underlying22 (hval 0 22 v0 rfl rfl)
  have k0 := h0
  have lt0 : ∀ x ∈ p0, x.block < W.heap.size := by obtain ⟨m, hm⟩ := k0; exact DataW.trod_lt m _ _ _ hm
  obtain ⟨us0, t0, e0, c0, m0, w0⟩ := tab_of Try.underlying22 Try.underlying28 Try.underlying3 (by kernel_rfl) (by kernel_rfl) h0
  obtain ⟨a1, len1, cap1, rfl⟩ := okWide_slice Try.underlying28 (hval 1 28 v1 rfl rfl)
  have k1 := h1
  have lt1 : ∀ x ∈ p1, x.block < W.heap.size := by obtain ⟨m, hm⟩ := k1; exact DataW.trod_lt m _ _ _ hm
  obtain ⟨z1, r1⟩ : ∃ zs : List Int, (a1 = none ∧ len1 = 0 ∧ cap1 = 0 ∧ zs = []) ∨ ∃ x, a1 = some x ∧ len1 ≤ cap1 ∧ cap1 ≤ maxLen ∧ zs.length = cap1 ∧ (∀ i, i < zs.length → W.cell? (x.add i) = some (.int .i64 (zs.getD i 0))) ∧ ∀ n ∈ zs, (Lit.int .i64 n).wf = true := by
    obtain ⟨fuel, hf⟩ := h1
    rcases open_ints Try.underlying28 Try.underlying3 (by kernel_rfl) hf with ⟨hcs, _⟩ | ⟨x, l, c, zs, hcs, _, hl, hm, hz, _, hcell, hwz⟩
    · simp [Value.cells] at hcs
      obtain ⟨rfl, rfl, rfl⟩ := hcs
      exact ⟨[], .inl ⟨rfl, rfl, rfl, rfl⟩⟩
    · simp [Value.cells] at hcs
      obtain ⟨rfl, rfl, rfl⟩ := hcs
      exact ⟨zs, .inr ⟨_, rfl, hl, hm, by simpa using hz, hcell, hwz⟩⟩
  obtain ⟨l1, e1, c1, m1, w1⟩ := sl_of r1
  clear hA0 hval0
  refine (walk a0 len0 cap0 us0 t0 a1 len1 cap1 l1 W e0 c0 m0 w0 e1 c1 m1 w1).mono fun e W' ⟨he, bel⟩ => ?_
  subst he
  exact ⟨_, rfl, _, _, _, [], _, [], hW', trodAll_mk1 (shut_bool Try.underlying4 _), (trodAll_cons_mk (Below.trod laidOut (by kernel_rfl) (of_decide_eq_true (by kernel_rfl)) k0 bel lt0) (trodAll_cons_mk (Below.trod laidOut (by kernel_rfl) (of_decide_eq_true (by kernel_rfl)) k1 bel lt1) trodAll_mk0)), rfl, bel.frame _, fun h => by cases h⟩

theorem over : Rows.fnExactSpanHasRow.holds Try.pinned (OpenSpec.ofChange Rows.fnExactSpanHasSpec) :=
  OpenClaim.holds_of_wide 4 Try.f4 rfl rfl rfl rfl rfl rfl rfl ⟨rfl, rfl, rfl, rfl, rfl⟩ rfl rfl rfl rfl rfl (by kernel_rfl) Try.func4 (by kernel_rfl)
    (of_decide_eq_true (by kernel_rfl)) (by unfold Func.isWrapper; first | (rw [if_pos (by decide +kernel)]; kernel_rfl) | (rw [if_neg (by decide +kernel)]; exact ⟨rfl, rfl⟩))
    (fun os started H enc _ => lifted os started H enc)

theorem proved : Rows.FnExactSpanHasSaid := over
#print axioms proved
end Go.Proofs.Ytogjgajabdiaaab.fnExactSpanHas
