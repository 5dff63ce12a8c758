/-
  For whatever two integers and slice of at most 2^20 flags PlanOf answers as its model does, changes nothing, and its answer owns its memory: the law FnExactPlanOf returns true.
  Conditions: none.
-/
import Derived.Test.YtbpkfcaokbidnaaRows
import Derived.WalkKit
import Derived.ProofKit
import Derived.OpenShut
import Derived.ShutString
import Derived.ChangeOld
import Derived.Below
import Derived.Test.YtbpkfcaokbidnaaG1
import Derived.Test.YtbpkfcaokbidnaaAppendZeros
import Derived.Test.YtbpkfcaokbidnaaG2
import Derived.Test.YtbpkfcaokbidnaaG3
import Derived.Test.YtbpkfcaokbidnaaG4
import Derived.Test.YtbpkfcaokbidnaaPlanMath
import Derived.Test.YtbpkfcaokbidnaaPlanWork
import Derived.Test.YtbpkfcaokbidnaaRound
import Derived.Test.YtbpkfcaokbidnaaChoose
import Derived.Test.YtbpkfcaokbidnaaPlanMake
import Derived.Test.YtbpkfcaokbidnaaChoose2
import Derived.Test.YtbpkfcaokbidnaaPlanFind
import Derived.Test.YtbpkfcaokbidnaaPlanTop
import Derived.Test.YtbpkfcaokbidnaaPlanSpec
import Derived.Test.YtbpkfcaokbidnaaPlanSearch
import Derived.Test.YtbpkfcaokbidnaaPlanSpec2
import Derived.Test.YtbpkfcaokbidnaaPlanNear
import Derived.Test.YtbpkfcaokbidnaaPlanEq
namespace Go.Proofs.Ytbpkfcaokbidnaa.fnExactPlanOf
open Go.ChangeShapes Go.WideShapes Go.ChangeAt Go.RowKit
set_option linter.unusedVariables false

theorem own : ownKnob Try.prog.godebug = none := by kernel_rfl
theorem laidOut : laidOutB Try.prog = true := by kernel_rfl

set_option maxHeartbeats 4000000 in
set_option maxRecDepth 20000 in
theorem walk (a0 : Int) (a1 : Int) (a2 : Option Addr) (len2 cap2 : Nat) (f2 : List Bool) (w : World) (w0 : (Lit.int .i64 a0).wf = true) (w1 : (Lit.int .i64 a1).wf = true) (e2 : len2 = f2.length) (c2 : len2 ≤ cap2) (m2 : cap2 ≤ maxLen) (w2 : Bl w (.slice a2 len2 cap2) f2) :
    Calls Try.prog 11 #[.int .i64 a0, .int .i64 a1, .slice a2 len2 cap2] w fun e w' => e = .returned (.bool true) ∧ Below w.heap.size w w' := by
  have hm2 := m2
  unfold maxLen at hm2
  have B := Lib.hid w2
  subst e2
  clear w2 m2
  by_cases hbig : (f2.length : Int) > 1048576
  · go_enter Try.func11, Try.ntmps11
    go_wp2_with fail
    go_ret
    exact ⟨rfl, Below.refl _ _⟩
  have hle : f2.length ≤ 1048576 := by omega
  have L0 := Lib.hid (Lives.start w)
  go_enter Try.func11, Try.ntmps11
  go_wp2_with fail
  refine (toBoolS _ f2 _ B.out hle).mono ?_
  rintro e W1 ⟨t, rfl, hg, ho⟩
  have L1 := Lib.hid (L0.out.newB hg ho)
  clear hg ho L0
  go_wp2_with fail
  refine (specPlanOf a0 a1 t f2 _ (L1.out.bl (by simp))).mono ?_
  rintro e W2 ⟨d, l, m, b, p, q, hT, rfl, hg, ht⟩
  have HT := Lib.hid hT
  have PLN := hT.len
  have l4 := PLN.1
  have m4 := PLN.2
  obtain ⟨x1, n1, y1, x2, n2, y2, rfl, rfl⟩ := ht.form
  have ga := World.grownBy_alloc W2 (.cells #[.int .i64 d, .slice x1 n1 y1, .slice x2 n2 y2] 28) none
  have L2 := Lib.hid ((L1.out.new2 hg ht).still ga)
  have K2 : Hid (Blk (W2.alloc (.cells #[.int .i64 d, .slice x1 n1 y1, .slice x2 n2 y2] 28)) W2.heap.size 28 [.int .i64 d, .slice x1 n1 y1, .slice x2 n2 y2]) := Lib.hid (heap_alloc_new _ _)
  clear hT hg ht ga L1 PLN
  go_wp2_with fail
  generalize W2.alloc (.cells #[.int .i64 d, .slice x1 n1 y1, .slice x2 n2 y2] 28) = W3 at *
  generalize W2.heap.size = g at *
  refine (toBoolS _ f2 _ (L2.out.argB B.out) hle).mono ?_
  rintro e W4 ⟨s, rfl, hg, ho⟩
  have L4 := Lib.hid (L2.out.newB hg ho)
  have K4 := Lib.hid (K2.out.kept hg (by simp))
  clear hg ho L2 K2
  go_wp2_with fail
  refine (implPlanOf a0 a1 s f2 _ (L4.out.bl (by simp))).mono ?_
  rintro e W5 ⟨d', l', m', b', p', q', hT', rfl, hg, ht⟩
  obtain ⟨rfl, rfl, rfl, rfl⟩ := HT.out.one hT'
  obtain ⟨x3, n3, y3, x4, n4, y4, rfl, rfl⟩ := ht.form
  have ga := World.grownBy_alloc W5 (.cells #[.int .i64 d, .slice x3 n3 y3, .slice x4 n4 y4] 28) none
  have L5 := Lib.hid ((L4.out.new2 hg ht).still ga)
  have K5 := Lib.hid ((K4.out.kept hg (by simp)).kept ga (by simp))
  have J5 : Hid (Blk (W5.alloc (.cells #[.int .i64 d, .slice x3 n3 y3, .slice x4 n4 y4] 28)) W5.heap.size 28 [.int .i64 d, .slice x3 n3 y3, .slice x4 n4 y4]) := Lib.hid (heap_alloc_new _ _)
  have hbb : (b != b) = false := by cases b <;> rfl
  clear hT' hg ht ga L4 K4
  go_upto_region 6 with fail
  generalize W5.alloc (.cells #[.int .i64 d, .slice x3 n3 y3, .slice x4 n4 y4] 28) = W6 at *
  generalize W5.heap.size = g' at *
  have k0 := K5.out.cell (i := 0) rfl
  have k1 := K5.out.cell (i := 1) rfl
  have k2 := K5.out.cell (i := 2) rfl
  have j0 := J5.out.cell (i := 0) rfl
  have j1 := J5.out.cell (i := 1) rfl
  have j2 := J5.out.cell (i := 2) rfl
  go_wp2_with fail
  refine (eqPlanSame d _ _ _ _ l m _ (L5.out.sl (by simp)) (L5.out.sl (by simp)) (L5.out.sl (by simp)) (L5.out.sl (by simp))).mono ?_
  rintro e W7 ⟨rfl, hg⟩
  have L7 := Lib.hid (L5.out.still hg)
  have K7 := Lib.hid (K5.out.kept hg (by simp))
  have J7 := Lib.hid (J5.out.kept hg (by simp))
  clear hg L5 K5 J5 k0 k1 k2 j0 j1 j2
  go_wp2_with fail
  refine (toBoolS _ f2 _ (L7.out.argB B.out) hle).mono ?_
  rintro e W8 ⟨c, rfl, hg, ho⟩
  have L8 := Lib.hid (L7.out.newB hg ho)
  have K8 := Lib.hid (K7.out.kept hg (by simp))
  have J8 := Lib.hid (J7.out.kept hg (by simp))
  clear hg ho L7 K7 J7
  go_wp2_with fail
  refine (eqSameB s c f2 _ (L8.out.bl (by simp)) (L8.out.bl (by simp))).mono ?_
  rintro e W9 ⟨rfl, hg⟩
  have L9 := Lib.hid (L8.out.still hg)
  have K9 := Lib.hid (K8.out.kept hg (by simp))
  have J9 := Lib.hid (J8.out.kept hg (by simp))
  clear hg L8 K8 J8
  have OS := Lib.hid (bool1_own.1 (L9.out.own.1 (bool1 s f2) (by simp)))
  go_wp2_with fail
  refine (markBoolS s f2 1 w.heap.size _ OS.out hle (by omega) (by omega)).mono ?_
  rintro e WA ⟨rfl, hg, f', ho⟩
  have KA := Lib.hid (K9.out.kept hg (bown_blk OS.out K9.out))
  have JA := Lib.hid (J9.out.kept hg (bown_blk OS.out J9.out))
  have LA : Hid (Lives w WA ([bool1 c f2, row1 (.slice x3 n3 y3) l, row1 (.slice x4 n4 y4) m] ++ bool1 s f' :: [row1 (.slice x1 n1 y1) l, row1 (.slice x2 n2 y2) m, bool1 t f2])) := Lib.hid (Lives.put (A := [bool1 c f2, row1 (.slice x3 n3 y3) l, row1 (.slice x4 n4 y4) m]) (x := bool1 s f2) (x' := bool1 s f') (B := [row1 (.slice x1 n1 y1) l, row1 (.slice x2 n2 y2) m, bool1 t f2]) L9.out rfl hg (bool1_own.2 ho))
  have k0 := KA.out.cell (i := 0) rfl
  have k1 := KA.out.cell (i := 1) rfl
  have k2 := KA.out.cell (i := 2) rfl
  have j0 := JA.out.cell (i := 0) rfl
  have j1 := JA.out.cell (i := 1) rfl
  have j2 := JA.out.cell (i := 2) rfl
  have q0 : ¬ (1 + (f2.length : Int)) < 0 := by omega
  clear hg ho L9 K9 J9 OS
  go_wp2_with fail
  refine (eqPlanSame d _ _ _ _ l m _ (LA.out.sl (by simp)) (LA.out.sl (by simp)) (LA.out.sl (by simp)) (LA.out.sl (by simp))).mono ?_
  rintro e WB ⟨rfl, hg⟩
  have LB := Lib.hid (LA.out.still hg)
  have KB := Lib.hid (KA.out.kept hg (by simp))
  have JB := Lib.hid (JA.out.kept hg (by simp))
  clear hg LA KA JA k0 k1 k2 j0 j1 j2 q0
  have j0 := JB.out.cell (i := 0) rfl
  have j1 := JB.out.cell (i := 1) rfl
  have j2 := JB.out.cell (i := 2) rfl
  have LB' : Hid (Lives w WB ([bool1 c f2] ++ row1 (.slice x3 n3 y3) l :: row1 (.slice x4 n4 y4) m :: [bool1 s f', row1 (.slice x1 n1 y1) l, row1 (.slice x2 n2 y2) m, bool1 t f2])) := Lib.hid LB.out
  go_wp2_with fail
  refine (markPlan w [bool1 c f2] [bool1 s f', row1 (.slice x1 n1 y1) l, row1 (.slice x2 n2 y2) m, bool1 t f2] d _ _ l m 1 _ LB'.out (by omega) (by omega) (by omega) (by omega)).mono ?_
  rintro e WC ⟨rfl, hL, hB⟩
  have KC := Lib.hid (hB _ _ KB.out)
  have JC := Lib.hid (hB _ _ JB.out)
  have LC := Lib.hid hL
  have S1 : Hid (Sl WC (.slice x3 n3 y3) (marks 1 l.length)) := Lib.hid (LC.out.sl (by simp))
  have S2 : Hid (Sl WC (.slice x4 n4 y4) (marks (1 + l.length) m.length)) := Lib.hid (LC.out.sl (by simp))
  clear hL hB LB LB' KB JB j0 j1 j2
  have j0 := JC.out.cell (i := 0) rfl
  have j1 := JC.out.cell (i := 1) rfl
  have j2 := JC.out.cell (i := 2) rfl
  obtain ⟨nl, hnl⟩ : ∃ n, l.length = n := ⟨_, rfl⟩
  obtain ⟨ml, hml⟩ : ∃ n, m.length = n := ⟨_, rfl⟩
  rw [hnl] at S1 S2 LC l4
  rw [hml] at S2 LC m4
  rw [hnl, hml]
  clear hnl hml
  go_wp2_with fail
  refine (heldPlan d _ _ nl ml 1 _ S1.out S2.out (by omega) (by omega) (by omega) (by omega)).mono ?_
  rintro e WD ⟨rfl, hg⟩
  have LD := Lib.hid (LC.out.still hg)
  have KD := Lib.hid (KC.out.kept hg (by simp))
  have JD := Lib.hid (JC.out.kept hg (by simp))
  have q0 : ¬ (1 + (nl : Int) + (ml : Int)) < 0 := by omega
  clear hg LC KC JC S1 S2 j0 j1 j2
  go_wp2_with fail
  refine (toBoolS _ f2 _ (LD.out.argB B.out) hle).mono ?_
  rintro e WE ⟨z, rfl, hg, ho⟩
  have LE := Lib.hid (LD.out.newB hg ho)
  have KE := Lib.hid (KD.out.kept hg (by simp))
  have JE := Lib.hid (JD.out.kept hg (by simp))
  clear hg ho LD KD JD
  go_wp2_with fail
  refine (implPlanOf a0 a1 z f2 _ (LE.out.bl (by simp))).mono ?_
  rintro e WF ⟨d', l', m', b', p', q', hT', rfl, hg, ht⟩
  obtain ⟨rfl, rfl, rfl, rfl⟩ := HT.out.one hT'
  obtain ⟨x5, n5, y5, x6, n6, y6, rfl, rfl⟩ := ht.form
  have ga := World.grownBy_alloc WF (.cells #[.int .i64 d, .slice x5 n5 y5, .slice x6 n6 y6] 28) none
  have LF := Lib.hid ((LE.out.new2 hg ht).still ga)
  have KF := Lib.hid ((KE.out.kept hg (by simp)).kept ga (by simp))
  have JF := Lib.hid ((JE.out.kept hg (by simp)).kept ga (by simp))
  have IF : Hid (Blk (WF.alloc (.cells #[.int .i64 d, .slice x5 n5 y5, .slice x6 n6 y6] 28)) WF.heap.size 28 [.int .i64 d, .slice x5 n5 y5, .slice x6 n6 y6]) := Lib.hid (heap_alloc_new _ _)
  clear hT' hg ht ga LE KE JE
  go_upto_region 23 with fail
  generalize WF.alloc (.cells #[.int .i64 d, .slice x5 n5 y5, .slice x6 n6 y6] 28) = WG at *
  generalize WF.heap.size = g'' at *
  have k0 := KF.out.cell (i := 0) rfl
  have k1 := KF.out.cell (i := 1) rfl
  have k2 := KF.out.cell (i := 2) rfl
  have i0 := IF.out.cell (i := 0) rfl
  have i1 := IF.out.cell (i := 1) rfl
  have i2 := IF.out.cell (i := 2) rfl
  go_wp2_with fail
  refine (eqPlanSame d _ _ _ _ l m _ (LF.out.sl (by simp)) (LF.out.sl (by simp)) (LF.out.sl (by simp)) (LF.out.sl (by simp))).mono ?_
  rintro e WH ⟨rfl, hg⟩
  have LH := Lib.hid (LF.out.still hg)
  have JH := Lib.hid (JF.out.kept hg (by simp))
  have S1 : Hid (Sl WH (.slice x3 n3 y3) (marks 1 nl)) := Lib.hid (LH.out.sl (by simp))
  have S2 : Hid (Sl WH (.slice x4 n4 y4) (marks (1 + nl) ml)) := Lib.hid (LH.out.sl (by simp))
  clear hg LF KF JF IF k0 k1 k2 i0 i1 i2
  have j0 := JH.out.cell (i := 0) rfl
  have j1 := JH.out.cell (i := 1) rfl
  have j2 := JH.out.cell (i := 2) rfl
  go_wp2_with fail
  refine (heldPlan d _ _ nl ml 1 _ S1.out S2.out (by omega) (by omega) (by omega) (by omega)).mono ?_
  rintro e WI ⟨rfl, hg⟩
  have LI := Lib.hid (LH.out.still hg)
  clear hg LH JH S1 S2 j0 j1 j2
  go_wp2_with fail
  go_ret
  exact ⟨rfl, LI.out.below⟩

set_option maxRecDepth 100000 in
theorem lifted (os : Os) (started : os.Started) (H : Type) (enc : TypeId × Value → H) :
    ReturnsInHanded {} Try.checked os 11 .any (Rows.fnExactPlanOfSpec.pre6 enc Try.prog Try.f11 Rows.fnExactPlanOfRow.domain false) (Rows.fnExactPlanOfSpec.post enc Try.prog Try.f11 false true false false) := by
  refine returnsInHanded_of_change (C := Try.checked) own started (by kernel_rfl) Try.func11
    (ChangeSpec.witness6 (enc := enc) (C := Try.checked) false ⟨#[], #[.int .i64 0, .int .i64 0, .slice none 0 0], []⟩ 8 (by kernel_rfl) (by kernel_rfl) (by kernel_rfl) (by kernel_rfl)) ?_
  intro W base args ds gs before hval0 hW hcnd _
  have hval : ∀ (j : Nat) t v, Try.f11.params[j]? = some t → args[j]? = some v → Value.okWide Try.prog W .any base t v := hval0
  have hW' := hW
  obtain ⟨p, q, hA0, hV, rfl, hfz, hnd⟩ := hW
  have hA : DataW.TrodAll enc Try.prog W 0 (fun _ => true) true Try.f11.params.toList args.toList ds p := hA0
  rw [Try.params11] at hA hval
  obtain ⟨v0, vs0, d0, ds0, p0, q0, hargs, rfl, rfl, h0, r0⟩ := trodAll_cons hA
  obtain ⟨v1, vs1, d1, ds1, p1, q1, rfl, rfl, rfl, h1, r1⟩ := trodAll_cons r0
  obtain ⟨v2, vs2, d2, ds2, p2, q2, rfl, rfl, rfl, h2, r2⟩ := trodAll_cons r1
  obtain ⟨rfl, rfl, rfl⟩ := trodAll_nil r2
  obtain rfl : args = #[v0, v1, v2] := by cases args; simp_all
  obtain ⟨rfl, rfl⟩ := trodVars_none hV
  obtain ⟨a0, rfl, rfl, rfl, w0⟩ := open_int Try.underlying3 (hval 0 3 v0 rfl rfl) h0
  obtain ⟨a1, rfl, rfl, rfl, w1⟩ := open_int Try.underlying3 (hval 1 3 v1 rfl rfl) h1
  obtain ⟨a2, len2, cap2, rfl⟩ := okWide_slice Try.underlying23 (hval 2 23 v2 rfl rfl)
  have k2 := h2
  have lt2 : ∀ x ∈ p2, x.block < W.heap.size := by obtain ⟨m, hm⟩ := k2; exact DataW.trod_lt m _ _ _ hm
  obtain ⟨f2, e2, c2, m2, w2⟩ := bl_of Try.underlying23 Try.underlying4 (by kernel_rfl) h2
  clear hA0 hval0
  refine (walk a0 a1 a2 len2 cap2 f2 W w0 w1 e2 c2 m2 w2).mono fun e W' ⟨he, bel⟩ => ?_
  subst he
  exact ⟨_, rfl, _, _, _, [], _, [], hW', trodAll_mk1 (shut_bool Try.underlying4 _), (trodAll_cons_mk (shut_int Try.underlying3 w0) (trodAll_cons_mk (shut_int Try.underlying3 w1) (trodAll_cons_mk (Below.trod laidOut (by kernel_rfl) (of_decide_eq_true (by kernel_rfl)) k2 bel lt2) trodAll_mk0))), rfl, bel.frame _, fun h => by cases h⟩

theorem over : Rows.fnExactPlanOfRow.holds Try.pinned (OpenSpec.ofChange Rows.fnExactPlanOfSpec) :=
  OpenClaim.holds_of_wide 11 Try.f11 rfl rfl rfl rfl rfl rfl rfl ⟨rfl, rfl, rfl, rfl, rfl⟩ rfl rfl rfl rfl rfl (by kernel_rfl) Try.func11 (by kernel_rfl)
    (of_decide_eq_true (by kernel_rfl)) (by unfold Func.isWrapper; first | (rw [if_pos (by decide +kernel)]; kernel_rfl) | (rw [if_neg (by decide +kernel)]; exact ⟨rfl, rfl⟩))
    (fun os started H enc _ => lifted os started H enc)

theorem proved : Rows.FnExactPlanOfSaid := over
#print axioms proved
end Go.Proofs.Ytbpkfcaokbidnaa.fnExactPlanOf
