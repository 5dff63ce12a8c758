/-
  From whatever bytes a kind, a shard and flags are drawn, PlanOf answers as its model does; there is a plan just if the shard's row is made of those of the others that are there: the law FnPlanFalse returns true.
  Conditions: none.
-/
import Derived.Test.YtbpkfcaokbidnaaRows
import Derived.WalkKit
import Derived.ProofKit
import Derived.OpenShut
import Derived.ShutString
import Derived.ChangeOld
import Derived.Below
import Derived.Test.YtbpkfcaokbidnaaG1
import Derived.Test.YtbpkfcaokbidnaaAppendZeros
import Derived.Test.YtbpkfcaokbidnaaG2
import Derived.Test.YtbpkfcaokbidnaaG3
import Derived.Test.YtbpkfcaokbidnaaG4
import Derived.Test.YtbpkfcaokbidnaaPlanMath
import Derived.Test.YtbpkfcaokbidnaaPlanWork
import Derived.Test.YtbpkfcaokbidnaaRound
import Derived.Test.YtbpkfcaokbidnaaChoose
import Derived.Test.YtbpkfcaokbidnaaPlanMake
import Derived.Test.YtbpkfcaokbidnaaChoose2
import Derived.Test.YtbpkfcaokbidnaaPlanFind
import Derived.Test.YtbpkfcaokbidnaaPlanTop
import Derived.Test.YtbpkfcaokbidnaaPlanSpec
import Derived.Test.YtbpkfcaokbidnaaPlanSearch
import Derived.Test.YtbpkfcaokbidnaaPlanSpec2
import Derived.Test.YtbpkfcaokbidnaaPlanNear
namespace Go.Proofs.Ytbpkfcaokbidnaa.fnPlanFalse
open Go.ChangeShapes Go.WideShapes Go.ChangeAt Go.RowKit
open Go.ChangeMaps (open_string shut_string)
set_option linter.unusedVariables false

theorem own : ownKnob Try.prog.godebug = none := by kernel_rfl
theorem laidOut : laidOutB Try.prog = true := by kernel_rfl

/-- WHAT THE WALK IS TOLD OF A SLICE OF INTEGERS THAT CAME IN: it is nil; or it leads to a row of 'cap' cells, the numbers 'zs' (the first 'len' are its elements, the rest its spare room), each fitting its kind. -/
def IsRow (k : IntKind) (w : World) (a : Option Addr) (len cap : Nat) (zs : List Int) : Prop :=
  (a = none ∧ len = 0 ∧ cap = 0 ∧ zs = []) ∨
  ∃ x, a = some x ∧ len ≤ cap ∧ cap ≤ maxLen ∧ zs.length = cap ∧ (∀ i, i < zs.length → w.cell? (x.add i) = some (.int k (zs.getD i 0))) ∧ ∀ n ∈ zs, (Lit.int k n).wf = true

theorem bnews {w : World} {b o : Nat} {l : List Bool} (h : BRds w (some ⟨b, o, none⟩) l) : ∀ j u, (bvals l)[j]? = some u → w.cell? ((⟨b, o, none⟩ : Addr).add j) = some u := by
  intro j u hj
  have hl : j < l.length := by have := (List.getElem?_eq_some_iff.1 hj).1; rwa [bvals_length] at this
  obtain ⟨b', o', e, hc⟩ := h.at_ hl
  injection e with e
  injection e with e1 e2
  subst e1 e2
  rw [bvals_get l j hl] at hj
  injection hj with hj
  subst hj
  rw [Addr.add_lit]; exact hc
theorem less_rows {f : List Bool} (h8 : f.length = 8) (k n : Nat) : Sp.crows k (f.set n false) = Sp.prow k (Sp.others n f) := by
  unfold Sp.crows Sp.prow Sp.others
  congr 1
  refine List.filter_congr fun i hi => ?_
  have hi8 := List.mem_range.1 hi
  rw [Bool.eq_iff_iff, Sp.off_get h8 hi8]
  simp
theorem false_plan {f : List Bool} (h8 : f.length = 8) {k n : Nat} (hk : k = 1 ∨ k = 2) (hn : n < 8) {d : Int} {l m : List Int} {b : Bool} (h : PlanT k n f d l m b) : hasM (Sp.crows k (f.set n false)) (Sp.crow k n) = b := by
  have hu := Sp.others_up n f
  have hok : okM (Sp.crows k (f.set n false)) = true := by rw [less_rows h8]; exact Sp.prow_ok hk hu.lt hu.len
  have hv : Vec.ok (Sp.crow k n) = true := Sp.row_ok.2 (Sp.crow_row hk hn)
  unfold hasM
  rw [hok, hv, less_rows h8, ← Sp.plan_iff hk hn f]
  rcases h with ⟨rfl, k1, l1, S, e1, _, e2, _, _, hp, _⟩ | ⟨rfl, _, _, _, hno⟩
  · obtain rfl : k = k1 := by omega
    obtain rfl : n = l1 := by omega
    rw [hp]; rfl
  · rw [hno k n rfl hk rfl hn h8]; rfl

set_option maxHeartbeats 4000000 in
set_option maxRecDepth 20000 in
theorem walk (a0 : Option Addr) (len0 cap0 : Nat) (z0 : List Int) (w : World) (w0 : IsRow .u8 w a0 len0 cap0 z0) :
    Calls Try.prog 4 #[.slice a0 len0 cap0] w fun e w' => e = .returned (.bool true) ∧ Below w.heap.size w w' := by
  have hc0 : Code w a0 len0 cap0 := code_of w0
  have hm0 : cap0 ≤ maxLen := hc0.2.1
  have hl0 : len0 ≤ cap0 := hc0.1
  unfold maxLen at hm0
  have C0 := Lib.hid hc0
  clear hc0 w0
  by_cases hbig0 : (len0 : Int) > 1048576
  · go_enter Try.func4, Try.ntmps4
    go_wp2_with fail
    go_ret
    exact ⟨rfl, Below.refl _ _⟩
  obtain ⟨i0, hi, hz0, hz1, hz2⟩ := info_parts infoBool
  have I1 := Lib.hid hi
  have I2 := Lib.hid hz0
  have I3 := Lib.hid hz1
  have I4 := Lib.hid hz2
  clear hi hz0 hz1 hz2
  go_enter Try.func4, Try.ntmps4
  go_wp2_with fail
  refine (drawPlanOf a0 len0 cap0 _ C0.out).mono ?_
  rintro e W1 ⟨k, n, v, f, hk3, hn15, rfl, hf8, hbl, hb⟩
  have L1 := Lib.hid hb
  have B1 := Lib.hid hbl
  have H8 := Lib.hid hf8
  clear hb hbl hf8 C0
  obtain ⟨av, cv, ev, c1, c2, _⟩ := B1.out
  subst ev
  unfold maxLen at c2
  obtain ⟨n8, hn8⟩ : ∃ n, f.length = n := ⟨_, rfl⟩
  have N8 := Lib.hid hn8
  rw [hn8] at B1 c1
  rw [hn8]
  clear hn8
  go_wp2_with fail
  refine (specPlanOf k n _ f _ B1.out).mono ?_
  rintro e W2 ⟨d, l, m, b, p, q, hT, rfl, hg, ht⟩
  obtain ⟨a1', n1, c1', a2', n2, c2', rfl, rfl⟩ := ht.form
  have HT := Lib.hid hT
  have g2 := grown_alloc hg (.cells #[.int .i64 d, .slice a1' n1 c1', .slice a2' n2 c2'] 28)
  have L2 := Lib.hid (L1.out.trans (below_grown g2 |>.mono L1.out.size))
  have B2 := Lib.hid (B1.out.grown g2)
  have P2 : Hid (Sl (W2.alloc (.cells #[.int .i64 d, .slice a1' n1 c1', .slice a2' n2 c2'] 28)) (.slice a1' n1 c1') l) := Lib.hid (ht.1.sl.grown (World.grownBy_alloc _ _ _))
  have Q2 : Hid (Sl (W2.alloc (.cells #[.int .i64 d, .slice a1' n1 c1', .slice a2' n2 c2'] 28)) (.slice a2' n2 c2') m) := Lib.hid (ht.2.1.sl.grown (World.grownBy_alloc _ _ _))
  have K2 : Hid (Blk (W2.alloc (.cells #[.int .i64 d, .slice a1' n1 c1', .slice a2' n2 c2'] 28)) W2.heap.size 28 [.int .i64 d, .slice a1' n1 c1', .slice a2' n2 c2']) := Lib.hid (heap_alloc_new _ _)
  clear hT hg ht g2 L1 B1
  go_wp2_with fail
  generalize W2.alloc (.cells #[.int .i64 d, .slice a1' n1 c1', .slice a2' n2 c2'] 28) = W3 at *
  generalize W2.heap.size = g at *
  refine (implPlanOf k n _ f _ B2.out).mono ?_
  rintro e W4 ⟨d', l', m', b', p', q', hT', rfl, hg, ht⟩
  obtain ⟨rfl, rfl, rfl, rfl⟩ := HT.out.one hT'
  obtain ⟨a3', n3, c3', a4', n4, c4', rfl, rfl⟩ := ht.form
  have g4 := grown_alloc hg (.cells #[.int .i64 d, .slice a3' n3 c3', .slice a4' n4 c4'] 28)
  have L4 := Lib.hid (L2.out.trans (below_grown g4 |>.mono L2.out.size))
  have B4 := Lib.hid (B2.out.grown g4)
  have P4 := Lib.hid (P2.out.grown g4)
  have Q4 := Lib.hid (Q2.out.grown g4)
  have K4 := Lib.hid (K2.out.kept g4 (by simp))
  have P5 : Hid (Sl (W4.alloc (.cells #[.int .i64 d, .slice a3' n3 c3', .slice a4' n4 c4'] 28)) (.slice a3' n3 c3') l) := Lib.hid (ht.1.sl.grown (World.grownBy_alloc _ _ _))
  have Q5 : Hid (Sl (W4.alloc (.cells #[.int .i64 d, .slice a3' n3 c3', .slice a4' n4 c4'] 28)) (.slice a4' n4 c4') m) := Lib.hid (ht.2.1.sl.grown (World.grownBy_alloc _ _ _))
  have K5 : Hid (Blk (W4.alloc (.cells #[.int .i64 d, .slice a3' n3 c3', .slice a4' n4 c4'] 28)) W4.heap.size 28 [.int .i64 d, .slice a3' n3 c3', .slice a4' n4 c4']) := Lib.hid (heap_alloc_new _ _)
  clear hT' hg ht g4 L2 B2 P2 Q2 K2
  have hbb : (b != b) = false := by cases b <;> rfl
  go_upto_region 6 with fail
  generalize W4.alloc (.cells #[.int .i64 d, .slice a3' n3 c3', .slice a4' n4 c4'] 28) = W5 at *
  generalize W4.heap.size = g' at *
  have k0 := K4.out.cell (i := 0) rfl
  have k1 := K4.out.cell (i := 1) rfl
  have k2 := K4.out.cell (i := 2) rfl
  have j0 := K5.out.cell (i := 0) rfl
  have j1 := K5.out.cell (i := 1) rfl
  have j2 := K5.out.cell (i := 2) rfl
  go_wp2_with fail
  refine (lkPlanSame d _ _ _ _ l m _ P5.out Q5.out P4.out Q4.out).mono ?_
  rintro e W6 ⟨rfl, hg⟩
  have L6 := Lib.hid (L4.out.trans (below_grown hg |>.mono L4.out.size))
  have B6 := Lib.hid (B4.out.grown hg)
  have P6 := Lib.hid (P5.out.grown hg)
  have Q6 := Lib.hid (Q5.out.grown hg)
  have K6 := Lib.hid (K5.out.kept hg (by simp))
  clear hg L4 B4 P4 Q4 K4 P5 Q5 K5 k0 k1 k2 j0 j1 j2 hbb
  by_cases hyes : (k = 1 ∨ k = 2) ∧ n < 8 ∧ n8 = 8
  · obtain ⟨hk, hk8, rfl⟩ := hyes
    have F8 : Hid (f.length = 8) := Lib.hid N8.out
    have HK := Lib.hid hk
    have hk' : (n : Int) < 8 := by omega
    have q1 : ¬ (k : Int) < 1 := by omega
    have q2 : ¬ (k : Int) > 2 := by omega
    have q3 : ¬ (n : Int) < 0 := by omega
    have q4 : ¬ (n : Int) ≥ 8 := by omega
    clear hk
    obtain ⟨a', c', e', _, _, hr⟩ := B6.out
    injection e' with e1 e2 e3
    subst e1 e3
    obtain ⟨bb, ob, rfl, _⟩ := hr.at_ (k := 0) (by rw [F8.out]; omega)
    have O0 : Hid (BOwn (W6.alloc (.cells #[] 4)) W6.heap.size (.slice (some ⟨W6.heap.size, 0, none⟩) 0 0) []) := Lib.hid ((BArr.new W6 4 []).own rfl _ (Nat.le_refl _) (by simp [maxLen]))
    have R0 := Lib.hid (bnews (hr.grown (World.grownBy_alloc W6 (.cells #[] 4) none)))
    have fl : (bvals f).length = 8 * 1 := by rw [bvals_length, F8.out]
    clear e2 hr
    go_wp2_with (first
      | (at_builtin; refine wpList_append_own _ rfl _ _ 23 rfl W6.heap.size 4 i0 (.bool false) 1 1 Try.underlying23 I1.out I2.out I3.out I4.out rfl (by decide) _ _ _ rfl O0.out ⟨bb, ob, none⟩ 8 cv (bvals f) rfl fl R0.out (bvals_one f) ?c3 ?c4 ?c5 ?_))
    case c3 => simp [maxLen]
    case c4 => simp
    case c5 => simp
    intro x W7 ho hg _
    have G7 : Hid (W6.grownBy W7 none) := Lib.hid (grown_own (grown_alloc (World.grownBy.refl _ _) _) hg (fun j hj => (World.ownsRow.lt O0.out j hj).1))
    have O7 : BOwn W7 W6.heap.size x f := by
      unfold BOwn
      rw [F8.out]
      simpa [bvals] using ho
    clear ho hg O0 R0 fl
    obtain ⟨gx, cq, rfl, gb, gl, cq8, cqm, gc, gf⟩ := O7.eight F8.out
    unfold maxLen at cqm
    have hx := gc n hk8
    have hf := gf n
    have P7 := Lib.hid (O7.put F8.out.symm n false)
    have G8 : Hid (W6.grownBy (W7.setCell ⟨gx, n, none⟩ (.bool false)) none) := Lib.hid (grown_own G7.out P7.out.2 (fun q hq => by injection hq with hq; omega))
    have X8 := Lib.hid P7.out.1.bl
    have L8 := Lib.hid (L6.out.trans (below_grown G8.out |>.mono L6.out.size))
    have B7 := Lib.hid (B6.out.grown G7.out)
    have B8 := Lib.hid (B6.out.grown G8.out)
    have P8 := Lib.hid (P6.out.grown G8.out)
    have Q8 := Lib.hid (Q6.out.grown G8.out)
    have K8 := Lib.hid (K6.out.kept G8.out (by simp))
    have FP := Lib.hid (false_plan F8.out HK.out hk8 HT.out)
    have CR := Lib.hid (fun w => codeRowYes HK.out hk8 w)
    have LT := Lib.hid (fun v w h => lkTheir HK.out v (f.set n false) w h (by rw [List.length_set]; exact F8.out))
    have C4 := Lib.hid (Sp.crow_row HK.out hk8).1
    generalize Sp.crow k n = row at *
    generalize Sp.crows k (f.set n false) = M at *
    generalize f.set n false = fs at *
    clear O7 gc gf G7 P7 L6 B6 P6 Q6 K6 B7 B8 P8 Q8 K8
    go_wp2_with fail
    clear hx hf G8
    generalize W7.setCell ⟨gx, n, none⟩ (.bool false) = W8 at *
    refine (CR.out _).mono ?_
    rintro e W9 ⟨u, rfl, hg, ho⟩
    have L9 := Lib.hid (L8.out.trans (below_grown hg |>.mono L8.out.size))
    have X9 := Lib.hid (X8.out.grown hg)
    have U9 := Lib.hid ho.sl
    obtain ⟨au, cu, eu, _, _, _⟩ := ho.sl
    rw [C4.out] at eu
    subst eu
    clear hg ho L8 X8
    go_wp2_with fail
    refine (LT.out _ _ X9.out).mono ?_
    rintro e WA ⟨o, us, rfl, hg, ho⟩
    have LA := Lib.hid (L9.out.trans (below_grown hg |>.mono L9.out.size))
    have UA := Lib.hid (U9.out.grown hg)
    have TA := Lib.hid ho.tab
    obtain ⟨ao, co, eo, _, _⟩ := stab_form ho
    generalize M.length = ml at *
    subst eo
    clear hg ho L9 X9 U9
    go_wp2_with fail
    refine (implSpanHas _ _ us M row _ TA.out UA.out).mono ?_
    rintro e WB ⟨rfl, hg⟩
    rw [FP.out]
    have LB := Lib.hid (LA.out.trans (below_grown hg |>.mono LA.out.size))
    clear hg
    go_wp2_with fail
    go_ret
    exact ⟨by simp, LB.out⟩
  · have NB : b = false := by
      rcases HT.out with ⟨_, k1, l1, S, e0, h0, e1, h1, h2, _⟩ | ⟨h, _⟩
      · exact absurd ⟨by omega, by omega, by rw [← N8.out]; exact h2⟩ hyes
      · exact h
    subst NB
    by_cases h1 : (k : Int) < 1
    · go_wp2_with fail
      go_ret
      exact ⟨rfl, L6.out⟩
    · by_cases h2 : (k : Int) > 2
      · go_wp2_with fail
        go_ret
        exact ⟨rfl, L6.out⟩
      · by_cases h9 : (n : Int) ≥ 8
        · have h0 : ¬ (n : Int) < 0 := by omega
          go_wp2_with fail
          go_ret
          exact ⟨rfl, L6.out⟩
        · have h0 : ¬ (n : Int) < 0 := by omega
          have e8 : ((n8 : Int) != 8) = true := by rw [bne_iff_ne]; omega
          go_wp2_with fail
          go_ret
          exact ⟨rfl, L6.out⟩

set_option maxRecDepth 100000 in
theorem lifted (os : Os) (started : os.Started) (H : Type) (enc : TypeId × Value → H) :
    ReturnsInHanded {} Try.checked os 4 .any (Rows.fnPlanFalseSpec.pre6 enc Try.prog Try.f4 Rows.fnPlanFalseRow.domain false) (Rows.fnPlanFalseSpec.post enc Try.prog Try.f4 false true false false) := by
  refine returnsInHanded_of_change (C := Try.checked) own started (by kernel_rfl) Try.func4
    (ChangeSpec.witness6 (enc := enc) (C := Try.checked) false ⟨#[], #[.slice none 0 0], []⟩ 8 (by kernel_rfl) (by kernel_rfl) (by kernel_rfl) (by kernel_rfl)) ?_
  intro W base args ds gs before hval0 hW hcnd _
  have hval : ∀ (j : Nat) t v, Try.f4.params[j]? = some t → args[j]? = some v → Value.okWide Try.prog W .any base t v := hval0
  have hW' := hW
  obtain ⟨p, q, hA0, hV, rfl, hfz, hnd⟩ := hW
  have hA : DataW.TrodAll enc Try.prog W 0 (fun _ => true) true Try.f4.params.toList args.toList ds p := hA0
  rw [Try.params4] at hA hval
  obtain ⟨v0, vs0, d0, ds0, p0, q0, hargs, rfl, rfl, h0, r0⟩ := trodAll_cons hA
  obtain ⟨rfl, rfl, rfl⟩ := trodAll_nil r0
  obtain rfl : args = #[v0] := by cases args; simp_all
  obtain ⟨rfl, rfl⟩ := trodVars_none hV
  obtain ⟨a0, len0, cap0, rfl⟩ := okWide_slice Try.underlying22 (hval 0 22 v0 rfl rfl)
  have k0 := h0
  have lt0 : ∀ x ∈ p0, x.block < W.heap.size := by obtain ⟨m, hm⟩ := k0; exact DataW.trod_lt m _ _ _ hm
  obtain ⟨z0, w0⟩ : ∃ zs, IsRow .u8 W a0 len0 cap0 zs := by
    obtain ⟨fuel, hf⟩ := h0
    rcases open_ints Try.underlying22 Try.underlying5 (by kernel_rfl) hf with ⟨hcs, _⟩ | ⟨x, l, c, zs, hcs, _, hl, hm, hz, _, hcell, hwz⟩
    · simp [Value.cells] at hcs
      obtain ⟨rfl, rfl, rfl⟩ := hcs
      exact ⟨[], .inl ⟨rfl, rfl, rfl, rfl⟩⟩
    · simp [Value.cells] at hcs
      obtain ⟨rfl, rfl, rfl⟩ := hcs
      exact ⟨zs, .inr ⟨_, rfl, hl, hm, by simpa using hz, hcell, hwz⟩⟩
  clear hA0 hval0
  refine (walk a0 len0 cap0 z0 W w0).mono fun e W' ⟨he, bel⟩ => ?_
  subst he
  exact ⟨_, rfl, _, _, _, [], _, [], hW', trodAll_mk1 (shut_bool Try.underlying4 _), (trodAll_cons_mk (Below.trod laidOut (by kernel_rfl) (of_decide_eq_true (by kernel_rfl)) k0 bel lt0) trodAll_mk0), rfl, bel.frame _, fun h => by cases h⟩

theorem over : Rows.fnPlanFalseRow.holds Try.pinned (OpenSpec.ofChange Rows.fnPlanFalseSpec) :=
  OpenClaim.holds_of_wide 4 Try.f4 rfl rfl rfl rfl rfl rfl rfl ⟨rfl, rfl, rfl, rfl, rfl⟩ rfl rfl rfl rfl rfl (by kernel_rfl) Try.func4 (by kernel_rfl)
    (of_decide_eq_true (by kernel_rfl)) (by unfold Func.isWrapper; first | (rw [if_pos (by decide +kernel)]; kernel_rfl) | (rw [if_neg (by decide +kernel)]; exact ⟨rfl, rfl⟩))
    (fun os started H enc _ => lifted os started H enc)

theorem proved : Rows.FnPlanFalseSaid := over
#print axioms proved
end Go.Proofs.Ytbpkfcaokbidnaa.fnPlanFalse
