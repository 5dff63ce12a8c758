/-
  For whatever kind and plan of at most 2^20 numbers PlanOk answers as its model does, and changes nothing: the law FnExactPlanOk returns true.
  Conditions: none.
-/
import Derived.Test.YtbpkfcaokbidnaaRows
import Derived.WalkKit
import Derived.ProofKit
import Derived.OpenShut
import Derived.ShutString
import Derived.ChangeOld
import Derived.Below
import Derived.Test.YtbpkfcaokbidnaaG1
import Derived.Test.YtbpkfcaokbidnaaAppendZeros
import Derived.Test.YtbpkfcaokbidnaaG2
import Derived.Test.YtbpkfcaokbidnaaG3
import Derived.Test.YtbpkfcaokbidnaaG4
import Derived.Test.YtbpkfcaokbidnaaPlanMath
import Derived.Test.YtbpkfcaokbidnaaPlanWork
import Derived.Test.YtbpkfcaokbidnaaRound
import Derived.Test.YtbpkfcaokbidnaaChoose
import Derived.Test.YtbpkfcaokbidnaaPlanMake
import Derived.Test.YtbpkfcaokbidnaaChoose2
import Derived.Test.YtbpkfcaokbidnaaPlanFind
import Derived.Test.YtbpkfcaokbidnaaPlanTop
import Derived.Test.YtbpkfcaokbidnaaPlanSpec
import Derived.Test.YtbpkfcaokbidnaaPlanSearch
import Derived.Test.YtbpkfcaokbidnaaPlanSpec2
import Derived.Test.YtbpkfcaokbidnaaPlanNear
import Derived.Test.YtbpkfcaokbidnaaPlanEq
import Derived.Test.YtbpkfcaokbidnaaPlanForm
import Derived.Test.YtbpkfcaokbidnaaPlanComb
import Derived.Test.YtbpkfcaokbidnaaPlanSums
import Derived.Test.YtbpkfcaokbidnaaSpanSame
import Derived.Test.YtbpkfcaokbidnaaPlanDoOk
import Derived.Test.YtbpkfcaokbidnaaPlanSpecForm
import Derived.Test.YtbpkfcaokbidnaaPlanSpecDo
import Derived.Test.YtbpkfcaokbidnaaPlanTold
import Derived.Test.YtbpkfcaokbidnaaPlanArg
namespace Go.Proofs.Ytbpkfcaokbidnaa.fnExactPlanOk
open Go.ChangeShapes Go.WideShapes Go.ChangeAt Go.RowKit
set_option linter.unusedVariables false

theorem own : ownKnob Try.prog.godebug = none := by kernel_rfl
theorem laidOut : laidOutB Try.prog = true := by kernel_rfl

set_option maxHeartbeats 4000000 in
set_option maxRecDepth 20000 in
theorem walk (a0 : Int) (n1 : Int) (x1 y1 : Value) (l1 m1 : List Int) (w : World) (w0 : (Lit.int .i64 a0).wf = true) (wx1 : Sl w x1 l1) (wy1 : Sl w y1 m1) :
    Calls Try.prog 12 #[.int .i64 a0, .agg #[.int .i64 n1, x1, y1]] w fun e w' => e = .returned (.bool true) ∧ Below w.heap.size w w' := by
  have U := Lib.hid wx1
  have V := Lib.hid wy1
  obtain ⟨a1, c1, e1, _, _, _⟩ := wx1
  obtain ⟨a2, c2, e2, _, _, _⟩ := wy1
  subst e1 e2
  obtain ⟨nl, hnl⟩ : ∃ x, x = l1.length := ⟨_, rfl⟩
  obtain ⟨ml, hml⟩ : ∃ x, x = m1.length := ⟨_, rfl⟩
  rw [← hnl] at U ⊢
  rw [← hml] at V ⊢
  have NL := Lib.hid hnl
  have ML := Lib.hid hml
  clear hnl hml
  have K0 : Hid (Blk (w.alloc (.cells #[.int .i64 n1, .slice a1 nl c1, .slice a2 ml c2] 60)) w.heap.size 60 [.int .i64 n1, .slice a1 nl c1, .slice a2 ml c2]) := Lib.hid (heap_alloc_new _ _)
  have G0 := Lib.hid (grown_alloc (World.grownBy.refl w none) (.cells #[.int .i64 n1, .slice a1 nl c1, .slice a2 ml c2] 60))
  go_enter Try.func12, Try.ntmps12
  go_upto_region 2 with fail
  generalize w.alloc (.cells #[.int .i64 n1, .slice a1 nl c1, .slice a2 ml c2] 60) = w0 at *
  generalize hbp : w.heap.size = bp at *
  have k0 := K0.out.cell (i := 0) rfl
  have k1 := K0.out.cell (i := 1) rfl
  have k2 := K0.out.cell (i := 2) rfl
  go_wp2_with fail
  refine (szPlan n1 _ _ l1 m1 _ (U.out.grown G0.out) (V.out.grown G0.out)).mono ?_
  rintro e w1 ⟨⟨q, rfl, hq⟩, hg⟩
  have G1 := Lib.hid (grown_trans G0.out hg)
  have K1 := Lib.hid (K0.out.kept hg (by simp))
  clear hg G0 K0 k0 k1 k2
  by_cases hq0 : q < 0
  · clear hq
    go_wp2_with fail
    go_ret
    exact ⟨rfl, below_grown G1.out⟩
  have hl : l1.length ≤ 1048576 ∧ m1.length ≤ 1048576 := by
    rcases hq with h | h
    · exact absurd h hq0
    · exact ⟨h.2.1, h.2.2⟩
  clear hq
  have k0 := K1.out.cell (i := 0) rfl
  have k1 := K1.out.cell (i := 1) rfl
  have k2 := K1.out.cell (i := 2) rfl
  go_wp2_with fail
  refine (toPlan n1 _ _ l1 m1 _ (U.out.grown G1.out) (V.out.grown G1.out) hl.1 hl.2).mono ?_
  rintro e w2 ⟨x, y, rfl, hg, ht⟩
  have G2 := Lib.hid (grown_trans G1.out hg)
  have K2 := Lib.hid (K1.out.kept hg (by simp))
  have T2 := Lib.hid ht
  clear hg ht G1 K1 k0 k1 k2
  go_wp2_with fail
  refine (specPlanOk a0 n1 x y l1 m1 _ T2.out.1.sl T2.out.2.1.sl).mono ?_
  rintro e w3 ⟨rfl, hg⟩
  have G3 := Lib.hid (grown_trans G2.out hg)
  have K3 := Lib.hid (K2.out.kept hg (by simp))
  clear hg G2 K2 T2
  have k0 := K3.out.cell (i := 0) rfl
  have k1 := K3.out.cell (i := 1) rfl
  have k2 := K3.out.cell (i := 2) rfl
  go_wp2_with fail
  refine (toPlan n1 _ _ l1 m1 _ (U.out.grown G3.out) (V.out.grown G3.out) hl.1 hl.2).mono ?_
  rintro e w4 ⟨x, y, rfl, hg, ht⟩
  obtain ⟨a3, c3, ex, _, _, _⟩ := ht.1.sl
  obtain ⟨a4, c4, ey, _, _, _⟩ := ht.2.1.sl
  rw [← NL.out] at ex
  rw [← ML.out] at ey
  subst ex ey
  have ga := World.grownBy_alloc w4 (.cells #[.int .i64 n1, .slice a3 nl c3, .slice a4 ml c4] 28) none
  have G4 := Lib.hid (grown_alloc (grown_trans G3.out hg) (.cells #[.int .i64 n1, .slice a3 nl c3, .slice a4 ml c4] 28))
  have K4 := Lib.hid ((K3.out.kept hg (by simp)).kept ga (by simp))
  have P4 : Hid (Sl (w4.alloc (.cells #[.int .i64 n1, .slice a3 nl c3, .slice a4 ml c4] 28)) (.slice a3 nl c3) l1) := Lib.hid (ht.1.sl.grown ga)
  have Q4 : Hid (Sl (w4.alloc (.cells #[.int .i64 n1, .slice a3 nl c3, .slice a4 ml c4] 28)) (.slice a4 ml c4) m1) := Lib.hid (ht.2.1.sl.grown ga)
  have J4 : Hid (Blk (w4.alloc (.cells #[.int .i64 n1, .slice a3 nl c3, .slice a4 ml c4] 28)) w4.heap.size 28 [.int .i64 n1, .slice a3 nl c3, .slice a4 ml c4]) := Lib.hid (heap_alloc_new _ _)
  clear hg ht ga G3 K3 k0 k1 k2
  go_upto_region 7 with fail
  generalize w4.alloc (.cells #[.int .i64 n1, .slice a3 nl c3, .slice a4 ml c4] 28) = w5 at *
  generalize w4.heap.size = g5 at *
  have j0 := J4.out.cell (i := 0) rfl
  have j1 := J4.out.cell (i := 1) rfl
  have j2 := J4.out.cell (i := 2) rfl
  go_wp2_with fail
  refine (implPlanOk a0 n1 _ _ l1 m1 _ P4.out Q4.out).mono ?_
  rintro e w6 ⟨rfl, hg⟩
  have G6 := Lib.hid (grown_trans G4.out hg)
  have K6 := Lib.hid (K4.out.kept hg (by simp))
  have J6 := Lib.hid (J4.out.kept hg (by simp))
  have P6 := Lib.hid (P4.out.grown hg)
  have Q6 := Lib.hid (Q4.out.grown hg)
  clear hg G4 K4 J4 P4 Q4 j0 j1 j2
  obtain ⟨r, hr⟩ : ∃ r, okP a0 n1 l1 m1 = r := ⟨_, rfl⟩
  rw [hr]
  clear hr
  have hrr : (r != r) = false := by cases r <;> rfl
  go_upto_region 10 with fail
  have k0 : w6.drew.cell? ⟨bp, 0, none⟩ = some (.int .i64 n1) := K6.out.cell (i := 0) rfl
  have k1 : w6.drew.cell? ⟨bp, 1, none⟩ = some (.slice a1 nl c1) := K6.out.cell (i := 1) rfl
  have k2 : w6.drew.cell? ⟨bp, 2, none⟩ = some (.slice a2 ml c2) := K6.out.cell (i := 2) rfl
  have j0 : w6.drew.cell? ⟨g5, 0, none⟩ = some (.int .i64 n1) := J6.out.cell (i := 0) rfl
  have j1 : w6.drew.cell? ⟨g5, 1, none⟩ = some (.slice a3 nl c3) := J6.out.cell (i := 1) rfl
  have j2 : w6.drew.cell? ⟨g5, 2, none⟩ = some (.slice a4 ml c4) := J6.out.cell (i := 2) rfl
  have GD := Lib.hid (grown_drew (World.grownBy.refl w6 none))
  go_region_held3 (fun w' => (w'.cell? ⟨bp, 0, none⟩ = some (.int .i64 n1) ∧ w'.cell? ⟨bp, 1, none⟩ = some (.slice a1 nl c1) ∧ w'.cell? ⟨bp, 2, none⟩ = some (.slice a2 ml c2)) ∧ w'.cell? ⟨g5, 0, none⟩ = some (.int .i64 n1) ∧ w'.cell? ⟨g5, 1, none⟩ = some (.slice a3 nl c3) ∧ w'.cell? ⟨g5, 2, none⟩ = some (.slice a4 ml c4))
    (first
      | with_reducible exact ⟨⟨k0, k1, k2⟩, j0, j1, j2⟩
      | with_reducible exact H1.out
      | with_reducible exact H2.out)
    (first
      | (go_at_call 45; refine (toPlan n1 _ _ l1 m1 _ ((U.out.grown G6.out).grown GD.out) ((V.out.grown G6.out).grown GD.out) hl.1 hl.2).mono ?_; rintro e w7 ⟨x, y, rfl, hg1, ht⟩
         have H1 := Lib.hid (And.intro (And.intro (hg1.cell k0 (by simp)) (And.intro (hg1.cell k1 (by simp)) (hg1.cell k2 (by simp)))) (And.intro (hg1.cell j0 (by simp)) (And.intro (hg1.cell j1 (by simp)) (hg1.cell j2 (by simp)))))
         have D1 := Lib.hid hg1
         have T7 := Lib.hid ht
         clear hg1 ht)
      | (go_at_call 38; refine (eqPlanSame n1 _ _ _ _ l1 m1 _ ((P6.out.grown GD.out).grown D1.out) ((Q6.out.grown GD.out).grown D1.out) T7.out.1.sl T7.out.2.1.sl).mono ?_; rintro e w8 ⟨rfl, hg2⟩
         have H2 := Lib.hid (And.intro (And.intro (hg2.cell H1.out.1.1 (by simp)) (And.intro (hg2.cell H1.out.1.2.1 (by simp)) (hg2.cell H1.out.1.2.2 (by simp)))) (And.intro (hg2.cell H1.out.2.1 (by simp)) (And.intro (hg2.cell H1.out.2.2.1 (by simp)) (hg2.cell H1.out.2.2.2 (by simp)))))
         have D2 := Lib.hid hg2
         clear hg2))
  have G8 := Lib.hid (grown_trans (grown_trans (grown_trans G6.out GD.out) D1.out) D2.out)
  go_wp2_with fail
  go_ret
  exact ⟨rfl, below_grown G8.out⟩

set_option maxRecDepth 100000 in
theorem lifted (os : Os) (started : os.Started) (H : Type) (enc : TypeId × Value → H) :
    ReturnsInHanded {} Try.checked os 12 .any (Rows.fnExactPlanOkSpec.pre6 enc Try.prog Try.f12 Rows.fnExactPlanOkRow.domain false) (Rows.fnExactPlanOkSpec.post enc Try.prog Try.f12 false true false false) := by
  refine returnsInHanded_of_change (C := Try.checked) own started (by kernel_rfl) Try.func12
    (ChangeSpec.witness6 (enc := enc) (C := Try.checked) false ⟨#[], #[.int .i64 0, .agg #[.int .i64 0, .slice none 0 0, .slice none 0 0]], []⟩ 8 (by kernel_rfl) (by kernel_rfl) (by kernel_rfl) (by kernel_rfl)) ?_
  intro W base args ds gs before hval0 hW hcnd _
  have hval : ∀ (j : Nat) t v, Try.f12.params[j]? = some t → args[j]? = some v → Value.okWide Try.prog W .any base t v := hval0
  have hW' := hW
  obtain ⟨p, q, hA0, hV, rfl, hfz, hnd⟩ := hW
  have hA : DataW.TrodAll enc Try.prog W 0 (fun _ => true) true Try.f12.params.toList args.toList ds p := hA0
  rw [Try.params12] at hA hval
  obtain ⟨v0, vs0, d0, ds0, p0, q0, hargs, rfl, rfl, h0, r0⟩ := trodAll_cons hA
  obtain ⟨v1, vs1, d1, ds1, p1, q1, rfl, rfl, rfl, h1, r1⟩ := trodAll_cons r0
  obtain ⟨rfl, rfl, rfl⟩ := trodAll_nil r1
  obtain rfl : args = #[v0, v1] := by cases args; simp_all
  obtain ⟨rfl, rfl⟩ := trodVars_none hV
  obtain ⟨a0, rfl, rfl, rfl, w0⟩ := open_int Try.underlying3 (hval 0 3 v0 rfl rfl) h0
  have k1 := h1
  have lt1 : ∀ x ∈ p1, x.block < W.heap.size := by obtain ⟨m, hm⟩ := k1; exact DataW.trod_lt m _ _ _ hm
  obtain ⟨n1, x1, y1, l1, m1, rfl, wx1, wy1⟩ := plan_of Try.underlying60 (by kernel_rfl) (by kernel_rfl) Try.underlying3 Try.underlying26 Try.underlying26 Try.underlying3 (by kernel_rfl) (hval 1 60 v1 rfl rfl) h1
  clear hA0 hval0
  refine (walk a0 n1 x1 y1 l1 m1 W w0 wx1 wy1).mono fun e W' ⟨he, bel⟩ => ?_
  subst he
  exact ⟨_, rfl, _, _, _, [], _, [], hW', trodAll_mk1 (shut_bool Try.underlying4 _), (trodAll_cons_mk (shut_int Try.underlying3 w0) (trodAll_cons_mk (Below.trod laidOut (by kernel_rfl) (of_decide_eq_true (by kernel_rfl)) k1 bel lt1) trodAll_mk0)), rfl, bel.frame _, fun h => by cases h⟩

theorem over : Rows.fnExactPlanOkRow.holds Try.pinned (OpenSpec.ofChange Rows.fnExactPlanOkSpec) :=
  OpenClaim.holds_of_wide 12 Try.f12 rfl rfl rfl rfl rfl rfl rfl ⟨rfl, rfl, rfl, rfl, rfl⟩ rfl rfl rfl rfl rfl (by kernel_rfl) Try.func12 (by kernel_rfl)
    (of_decide_eq_true (by kernel_rfl)) (by unfold Func.isWrapper; first | (rw [if_pos (by decide +kernel)]; kernel_rfl) | (rw [if_neg (by decide +kernel)]; exact ⟨rfl, rfl⟩))
    (fun os started H enc _ => lifted os started H enc)

theorem proved : Rows.FnExactPlanOkSaid := over
#print axioms proved
end Go.Proofs.Ytbpkfcaokbidnaa.fnExactPlanOk
