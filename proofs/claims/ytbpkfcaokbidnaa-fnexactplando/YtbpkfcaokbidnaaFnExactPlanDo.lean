/-
  For whatever plan and values of at most 2^20 numbers PlanDo answers as its model does, and changes nothing: the law FnExactPlanDo returns true.
  Conditions: none.
-/
import Derived.Test.YtbpkfcaokbidnaaRows
import Derived.WalkKit
import Derived.ProofKit
import Derived.OpenShut
import Derived.ShutString
import Derived.ChangeOld
import Derived.Below
import Derived.Test.YtbpkfcaokbidnaaG1
import Derived.Test.YtbpkfcaokbidnaaAppendZeros
import Derived.Test.YtbpkfcaokbidnaaG2
import Derived.Test.YtbpkfcaokbidnaaG3
import Derived.Test.YtbpkfcaokbidnaaG4
import Derived.Test.YtbpkfcaokbidnaaPlanMath
import Derived.Test.YtbpkfcaokbidnaaPlanWork
import Derived.Test.YtbpkfcaokbidnaaRound
import Derived.Test.YtbpkfcaokbidnaaChoose
import Derived.Test.YtbpkfcaokbidnaaPlanMake
import Derived.Test.YtbpkfcaokbidnaaChoose2
import Derived.Test.YtbpkfcaokbidnaaPlanFind
import Derived.Test.YtbpkfcaokbidnaaPlanTop
import Derived.Test.YtbpkfcaokbidnaaPlanSpec
import Derived.Test.YtbpkfcaokbidnaaPlanSearch
import Derived.Test.YtbpkfcaokbidnaaPlanSpec2
import Derived.Test.YtbpkfcaokbidnaaPlanNear
import Derived.Test.YtbpkfcaokbidnaaPlanEq
import Derived.Test.YtbpkfcaokbidnaaPlanForm
import Derived.Test.YtbpkfcaokbidnaaPlanComb
import Derived.Test.YtbpkfcaokbidnaaPlanSums
import Derived.Test.YtbpkfcaokbidnaaSpanSame
import Derived.Test.YtbpkfcaokbidnaaPlanDoOk
import Derived.Test.YtbpkfcaokbidnaaPlanSpecForm
import Derived.Test.YtbpkfcaokbidnaaPlanSpecDo
import Derived.Test.YtbpkfcaokbidnaaPlanTold
import Derived.Test.YtbpkfcaokbidnaaPlanArg
namespace Go.Proofs.Ytbpkfcaokbidnaa.fnExactPlanDo
open Go.ChangeShapes Go.WideShapes Go.ChangeAt Go.RowKit
set_option linter.unusedVariables false

theorem own : ownKnob Try.prog.godebug = none := by kernel_rfl
theorem laidOut : laidOutB Try.prog = true := by kernel_rfl

set_option maxHeartbeats 4000000 in
set_option maxRecDepth 20000 in
theorem walk (n0 : Int) (x0 y0 : Value) (l0 m0 : List Int) (a1 : Option Addr) (len1 cap1 : Nat) (l1 : List Int) (w : World) (wx0 : Sl w x0 l0) (wy0 : Sl w y0 m0) (e1 : len1 = l1.length) (c1 : len1 ≤ cap1) (m1 : cap1 ≤ maxLen) (w1 : Sl w (.slice a1 len1 cap1) l1) :
    Calls Try.prog 13 #[.agg #[.int .i64 n0, x0, y0], .slice a1 len1 cap1] w fun e w' => e = .returned (.bool true) ∧ Below w.heap.size w w' := by
  have U := Lib.hid wx0
  have V := Lib.hid wy0
  have X := Lib.hid w1
  have hm1 := m1
  unfold maxLen at hm1
  subst e1
  clear w1 m1
  obtain ⟨b1, c1', e1, _, _, _⟩ := wx0
  obtain ⟨b2, c2', e2, _, _, _⟩ := wy0
  subst e1 e2
  obtain ⟨nl, hnl⟩ : ∃ x, x = l0.length := ⟨_, rfl⟩
  obtain ⟨ml, hml⟩ : ∃ x, x = m0.length := ⟨_, rfl⟩
  rw [← hnl] at U ⊢
  rw [← hml] at V ⊢
  have NL := Lib.hid hnl
  have ML := Lib.hid hml
  clear hnl hml
  have K0 : Hid (Blk (w.alloc (.cells #[.int .i64 n0, .slice b1 nl c1', .slice b2 ml c2'] 60)) w.heap.size 60 [.int .i64 n0, .slice b1 nl c1', .slice b2 ml c2']) := Lib.hid (heap_alloc_new _ _)
  have G0 := Lib.hid (grown_alloc (World.grownBy.refl w none) (.cells #[.int .i64 n0, .slice b1 nl c1', .slice b2 ml c2'] 60))
  by_cases hbig : (l1.length : Int) > 1048576
  · go_enter Try.func13, Try.ntmps13
    go_wp2_with fail
    go_ret
    exact ⟨rfl, below_grown G0.out⟩
  have hle : l1.length ≤ 1048576 := by omega
  go_enter Try.func13, Try.ntmps13
  go_upto_region 4 with fail
  generalize w.alloc (.cells #[.int .i64 n0, .slice b1 nl c1', .slice b2 ml c2'] 60) = w0 at *
  generalize w.heap.size = bp at *
  have k0 := K0.out.cell (i := 0) rfl
  have k1 := K0.out.cell (i := 1) rfl
  have k2 := K0.out.cell (i := 2) rfl
  go_wp2_with fail
  refine (szPlan n0 _ _ l0 m0 _ (U.out.grown G0.out) (V.out.grown G0.out)).mono ?_
  rintro e w1 ⟨⟨q, rfl, hq⟩, hg⟩
  have G1 := Lib.hid (grown_trans G0.out hg)
  have K1 := Lib.hid (K0.out.kept hg (by simp))
  clear hg G0 K0 k0 k1 k2
  by_cases hq0 : q < 0
  · clear hq
    go_wp2_with fail
    go_ret
    exact ⟨rfl, below_grown G1.out⟩
  have hl : l0.length ≤ 1048576 ∧ m0.length ≤ 1048576 := by
    rcases hq with h | h
    · exact absurd h hq0
    · exact ⟨h.2.1, h.2.2⟩
  clear hq
  have k0 := K1.out.cell (i := 0) rfl
  have k1 := K1.out.cell (i := 1) rfl
  have k2 := K1.out.cell (i := 2) rfl
  go_wp2_with fail
  refine (toPlan n0 _ _ l0 m0 _ (U.out.grown G1.out) (V.out.grown G1.out) hl.1 hl.2).mono ?_
  rintro e w2 ⟨x, y, rfl, hg, ht⟩
  have G2 := Lib.hid (grown_trans G1.out hg)
  have K2 := Lib.hid (K1.out.kept hg (by simp))
  have T2 := Lib.hid ht
  clear hg ht G1 K1 k0 k1 k2
  go_wp2_with fail
  refine (toIntS _ l1 _ (X.out.grown G2.out) hle).mono ?_
  rintro e w2b ⟨z, rfl, hg, ho⟩
  have G2b := Lib.hid (grown_trans G2.out hg)
  have K2b := Lib.hid (K2.out.kept hg (by simp))
  have T2b := Lib.hid (T2.out.still hg)
  have Z2 := Lib.hid ho.sl
  clear hg ho G2 K2 T2
  go_wp2_with fail
  refine (specPlanDo n0 x y z l0 m0 l1 _ T2b.out.1.sl T2b.out.2.1.sl Z2.out hle).mono ?_
  rintro e w3 ⟨rfl, hg⟩
  have G3 := Lib.hid (grown_trans G2b.out hg)
  have K3 := Lib.hid (K2b.out.kept hg (by simp))
  clear hg G2b K2b T2b Z2
  have k0 := K3.out.cell (i := 0) rfl
  have k1 := K3.out.cell (i := 1) rfl
  have k2 := K3.out.cell (i := 2) rfl
  obtain ⟨rn, hrn⟩ : ∃ r, doN n0 l0 m0 l1 = r := ⟨_, rfl⟩
  obtain ⟨rb, hrb⟩ : ∃ r, doP n0 l0 m0 l1 = r := ⟨_, rfl⟩
  have RN := Lib.hid hrn
  have RB := Lib.hid hrb
  rw [hrn, hrb]
  clear hrn hrb
  go_wp2_with fail
  refine (toPlan n0 _ _ l0 m0 _ (U.out.grown G3.out) (V.out.grown G3.out) hl.1 hl.2).mono ?_
  rintro e w4 ⟨x, y, rfl, hg, ht⟩
  obtain ⟨b3, c3, ex, _, _, _⟩ := ht.1.sl
  obtain ⟨b4, c4, ey, _, _, _⟩ := ht.2.1.sl
  rw [← NL.out] at ex
  rw [← ML.out] at ey
  subst ex ey
  have ga := World.grownBy_alloc w4 (.cells #[.int .i64 n0, .slice b3 nl c3, .slice b4 ml c4] 28) none
  have G4 := Lib.hid (grown_alloc (grown_trans G3.out hg) (.cells #[.int .i64 n0, .slice b3 nl c3, .slice b4 ml c4] 28))
  have K4 := Lib.hid ((K3.out.kept hg (by simp)).kept ga (by simp))
  have P4 : Hid (Sl (w4.alloc (.cells #[.int .i64 n0, .slice b3 nl c3, .slice b4 ml c4] 28)) (.slice b3 nl c3) l0) := Lib.hid (ht.1.sl.grown ga)
  have Q4 : Hid (Sl (w4.alloc (.cells #[.int .i64 n0, .slice b3 nl c3, .slice b4 ml c4] 28)) (.slice b4 ml c4) m0) := Lib.hid (ht.2.1.sl.grown ga)
  have J4 : Hid (Blk (w4.alloc (.cells #[.int .i64 n0, .slice b3 nl c3, .slice b4 ml c4] 28)) w4.heap.size 28 [.int .i64 n0, .slice b3 nl c3, .slice b4 ml c4]) := Lib.hid (heap_alloc_new _ _)
  clear hg ht ga G3 K3 k0 k1 k2
  go_upto_region 9 with fail
  generalize w4.alloc (.cells #[.int .i64 n0, .slice b3 nl c3, .slice b4 ml c4] 28) = w5 at *
  generalize w4.heap.size = g5 at *
  go_wp2_with fail
  refine (toIntS _ l1 _ (X.out.grown G4.out) hle).mono ?_
  rintro e w5b ⟨z, rfl, hg, ho⟩
  have G5 := Lib.hid (grown_trans G4.out hg)
  have K5 := Lib.hid (K4.out.kept hg (by simp))
  have J5 := Lib.hid (J4.out.kept hg (by simp))
  have P5 := Lib.hid (P4.out.grown hg)
  have Q5 := Lib.hid (Q4.out.grown hg)
  have Z5 := Lib.hid ho.sl
  clear hg ho G4 K4 J4 P4 Q4
  have j0 := J5.out.cell (i := 0) rfl
  have j1 := J5.out.cell (i := 1) rfl
  have j2 := J5.out.cell (i := 2) rfl
  go_wp2_with fail
  refine (implPlanDo n0 _ _ z l0 m0 l1 _ P5.out Q5.out Z5.out).mono ?_
  rintro e w6 ⟨rfl, hg⟩
  rw [RN.out, RB.out]
  have G6 := Lib.hid (grown_trans G5.out hg)
  have K6 := Lib.hid (K5.out.kept hg (by simp))
  have J6 := Lib.hid (J5.out.kept hg (by simp))
  have P6 := Lib.hid (P5.out.grown hg)
  have Q6 := Lib.hid (Q5.out.grown hg)
  have Z6 := Lib.hid (Z5.out.grown hg)
  clear hg G5 K5 J5 P5 Q5 Z5 j0 j1 j2
  have hrr : (rb != rb) = false := by cases rb <;> rfl
  have hnn : (rn != rn) = false := by simp
  go_upto_region 13 with fail
  have k0 : w6.drew.cell? ⟨bp, 0, none⟩ = some (.int .i64 n0) := K6.out.cell (i := 0) rfl
  have k1 : w6.drew.cell? ⟨bp, 1, none⟩ = some (.slice b1 nl c1') := K6.out.cell (i := 1) rfl
  have k2 : w6.drew.cell? ⟨bp, 2, none⟩ = some (.slice b2 ml c2') := K6.out.cell (i := 2) rfl
  have j0 : w6.drew.cell? ⟨g5, 0, none⟩ = some (.int .i64 n0) := J6.out.cell (i := 0) rfl
  have j1 : w6.drew.cell? ⟨g5, 1, none⟩ = some (.slice b3 nl c3) := J6.out.cell (i := 1) rfl
  have j2 : w6.drew.cell? ⟨g5, 2, none⟩ = some (.slice b4 ml c4) := J6.out.cell (i := 2) rfl
  have GD := Lib.hid (grown_drew (World.grownBy.refl w6 none))
  go_region_held3 (fun w' => (w'.cell? ⟨bp, 0, none⟩ = some (.int .i64 n0) ∧ w'.cell? ⟨bp, 1, none⟩ = some (.slice b1 nl c1') ∧ w'.cell? ⟨bp, 2, none⟩ = some (.slice b2 ml c2')) ∧ w'.cell? ⟨g5, 0, none⟩ = some (.int .i64 n0) ∧ w'.cell? ⟨g5, 1, none⟩ = some (.slice b3 nl c3) ∧ w'.cell? ⟨g5, 2, none⟩ = some (.slice b4 ml c4))
    (first
      | with_reducible exact ⟨⟨k0, k1, k2⟩, j0, j1, j2⟩
      | with_reducible exact H1.out
      | with_reducible exact H2.out)
    (first
      | (go_at_call 45; refine (toPlan n0 _ _ l0 m0 _ ((U.out.grown G6.out).grown GD.out) ((V.out.grown G6.out).grown GD.out) hl.1 hl.2).mono ?_; rintro e w7 ⟨x, y, rfl, hg1, ht⟩
         have H1 := Lib.hid (And.intro (And.intro (hg1.cell k0 (by simp)) (And.intro (hg1.cell k1 (by simp)) (hg1.cell k2 (by simp)))) (And.intro (hg1.cell j0 (by simp)) (And.intro (hg1.cell j1 (by simp)) (hg1.cell j2 (by simp)))))
         have D1 := Lib.hid hg1
         have T7 := Lib.hid ht
         clear hg1 ht)
      | (go_at_call 38; refine (eqPlanSame n0 _ _ _ _ l0 m0 _ ((P6.out.grown GD.out).grown D1.out) ((Q6.out.grown GD.out).grown D1.out) T7.out.1.sl T7.out.2.1.sl).mono ?_; rintro e w8 ⟨rfl, hg2⟩
         have H2 := Lib.hid (And.intro (And.intro (hg2.cell H1.out.1.1 (by simp)) (And.intro (hg2.cell H1.out.1.2.1 (by simp)) (hg2.cell H1.out.1.2.2 (by simp)))) (And.intro (hg2.cell H1.out.2.1 (by simp)) (And.intro (hg2.cell H1.out.2.2.1 (by simp)) (hg2.cell H1.out.2.2.2 (by simp)))))
         have D2 := Lib.hid hg2
         clear hg2))
  have DD : Hid (w6.grownBy w8 none) := Lib.hid (grown_trans (grown_trans GD.out D1.out) D2.out)
  have G8 := Lib.hid (grown_trans G6.out DD.out)
  have Z8 := Lib.hid (Z6.out.grown DD.out)
  clear k0 k1 k2 j0 j1 j2 H1 H2 D1 D2 GD DD T7
  go_wp2_with fail
  refine (toIntS _ l1 _ (X.out.grown G8.out) hle).mono ?_
  rintro e w9 ⟨z', rfl, hg, ho⟩
  have G9 := Lib.hid (grown_trans G8.out hg)
  have Z9 := Lib.hid (Z8.out.grown hg)
  have Y9 := Lib.hid ho.sl
  clear hg ho
  go_wp2_with fail
  refine (eqSame _ _ l1 _ Z9.out Y9.out).mono ?_
  rintro e wA ⟨rfl, hg⟩
  have GA := Lib.hid (grown_trans G9.out hg)
  go_wp2_with fail
  go_ret
  exact ⟨rfl, below_grown GA.out⟩

set_option maxRecDepth 100000 in
theorem lifted (os : Os) (started : os.Started) (H : Type) (enc : TypeId × Value → H) :
    ReturnsInHanded {} Try.checked os 13 .any (Rows.fnExactPlanDoSpec.pre6 enc Try.prog Try.f13 Rows.fnExactPlanDoRow.domain false) (Rows.fnExactPlanDoSpec.post enc Try.prog Try.f13 false true false false) := by
  refine returnsInHanded_of_change (C := Try.checked) own started (by kernel_rfl) Try.func13
    (ChangeSpec.witness6 (enc := enc) (C := Try.checked) false ⟨#[], #[.agg #[.int .i64 0, .slice none 0 0, .slice none 0 0], .slice none 0 0], []⟩ 8 (by kernel_rfl) (by kernel_rfl) (by kernel_rfl) (by kernel_rfl)) ?_
  intro W base args ds gs before hval0 hW hcnd _
  have hval : ∀ (j : Nat) t v, Try.f13.params[j]? = some t → args[j]? = some v → Value.okWide Try.prog W .any base t v := hval0
  have hW' := hW
  obtain ⟨p, q, hA0, hV, rfl, hfz, hnd⟩ := hW
  have hA : DataW.TrodAll enc Try.prog W 0 (fun _ => true) true Try.f13.params.toList args.toList ds p := hA0
  rw [Try.params13] at hA hval
  obtain ⟨v0, vs0, d0, ds0, p0, q0, hargs, rfl, rfl, h0, r0⟩ := trodAll_cons hA
  obtain ⟨v1, vs1, d1, ds1, p1, q1, rfl, rfl, rfl, h1, r1⟩ := trodAll_cons r0
  obtain ⟨rfl, rfl, rfl⟩ := trodAll_nil r1
  obtain rfl : args = #[v0, v1] := by cases args; simp_all
  obtain ⟨rfl, rfl⟩ := trodVars_none hV
  have k0 := h0
  have lt0 : ∀ x ∈ p0, x.block < W.heap.size := by obtain ⟨m, hm⟩ := k0; exact DataW.trod_lt m _ _ _ hm
  obtain ⟨n0, x0, y0, l0, m0, rfl, wx0, wy0⟩ := plan_of Try.underlying60 (by kernel_rfl) (by kernel_rfl) Try.underlying3 Try.underlying26 Try.underlying26 Try.underlying3 (by kernel_rfl) (hval 0 60 v0 rfl rfl) h0
  obtain ⟨a1, len1, cap1, rfl⟩ := okWide_slice Try.underlying26 (hval 1 26 v1 rfl rfl)
  have k1 := h1
  have lt1 : ∀ x ∈ p1, x.block < W.heap.size := by obtain ⟨m, hm⟩ := k1; exact DataW.trod_lt m _ _ _ hm
  obtain ⟨z1, r1⟩ : ∃ zs : List Int, (a1 = none ∧ len1 = 0 ∧ cap1 = 0 ∧ zs = []) ∨ ∃ x, a1 = some x ∧ len1 ≤ cap1 ∧ cap1 ≤ maxLen ∧ zs.length = cap1 ∧ (∀ i, i < zs.length → W.cell? (x.add i) = some (.int .i64 (zs.getD i 0))) ∧ ∀ n ∈ zs, (Lit.int .i64 n).wf = true := by
    obtain ⟨fuel, hf⟩ := h1
    rcases open_ints Try.underlying26 Try.underlying3 (by kernel_rfl) hf with ⟨hcs, _⟩ | ⟨x, l, c, zs, hcs, _, hl, hm, hz, _, hcell, hwz⟩
    · simp [Value.cells] at hcs
      obtain ⟨rfl, rfl, rfl⟩ := hcs
      exact ⟨[], .inl ⟨rfl, rfl, rfl, rfl⟩⟩
    · simp [Value.cells] at hcs
      obtain ⟨rfl, rfl, rfl⟩ := hcs
      exact ⟨zs, .inr ⟨_, rfl, hl, hm, by simpa using hz, hcell, hwz⟩⟩
  obtain ⟨l1, e1, c1, m1, w1⟩ := sl_of r1
  clear hA0 hval0
  refine (walk n0 x0 y0 l0 m0 a1 len1 cap1 l1 W wx0 wy0 e1 c1 m1 w1).mono fun e W' ⟨he, bel⟩ => ?_
  subst he
  exact ⟨_, rfl, _, _, _, [], _, [], hW', trodAll_mk1 (shut_bool Try.underlying4 _), (trodAll_cons_mk (Below.trod laidOut (by kernel_rfl) (of_decide_eq_true (by kernel_rfl)) k0 bel lt0) (trodAll_cons_mk (Below.trod laidOut (by kernel_rfl) (of_decide_eq_true (by kernel_rfl)) k1 bel lt1) trodAll_mk0)), rfl, bel.frame _, fun h => by cases h⟩

theorem over : Rows.fnExactPlanDoRow.holds Try.pinned (OpenSpec.ofChange Rows.fnExactPlanDoSpec) :=
  OpenClaim.holds_of_wide 13 Try.f13 rfl rfl rfl rfl rfl rfl rfl ⟨rfl, rfl, rfl, rfl, rfl⟩ rfl rfl rfl rfl rfl (by kernel_rfl) Try.func13 (by kernel_rfl)
    (of_decide_eq_true (by kernel_rfl)) (by unfold Func.isWrapper; first | (rw [if_pos (by decide +kernel)]; kernel_rfl) | (rw [if_neg (by decide +kernel)]; exact ⟨rfl, rfl⟩))
    (fun os started H enc _ => lifted os started H enc)

theorem proved : Rows.FnExactPlanDoSaid := over
#print axioms proved
end Go.Proofs.Ytbpkfcaokbidnaa.fnExactPlanDo
