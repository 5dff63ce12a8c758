/-
  From whatever bytes a kind, a shard and flags are drawn, PlanOf answers as its model does, and the same plan whether the shard itself is there or not: the law FnPlanOwn returns true.
  Conditions: none.
-/
import Derived.Test.YtbpkfcaokbidnaaRows
import Derived.WalkKit
import Derived.ProofKit
import Derived.OpenShut
import Derived.ShutString
import Derived.ChangeOld
import Derived.Below
import Derived.Test.YtbpkfcaokbidnaaG1
import Derived.Test.YtbpkfcaokbidnaaAppendZeros
import Derived.Test.YtbpkfcaokbidnaaG2
import Derived.Test.YtbpkfcaokbidnaaG3
import Derived.Test.YtbpkfcaokbidnaaG4
import Derived.Test.YtbpkfcaokbidnaaPlanMath
import Derived.Test.YtbpkfcaokbidnaaPlanWork
import Derived.Test.YtbpkfcaokbidnaaRound
import Derived.Test.YtbpkfcaokbidnaaChoose
import Derived.Test.YtbpkfcaokbidnaaPlanMake
import Derived.Test.YtbpkfcaokbidnaaChoose2
import Derived.Test.YtbpkfcaokbidnaaPlanFind
import Derived.Test.YtbpkfcaokbidnaaPlanTop
import Derived.Test.YtbpkfcaokbidnaaPlanSpec
import Derived.Test.YtbpkfcaokbidnaaPlanSearch
import Derived.Test.YtbpkfcaokbidnaaPlanSpec2
import Derived.Test.YtbpkfcaokbidnaaPlanNear
namespace Go.Proofs.Ytbpkfcaokbidnaa.fnPlanOwn
open Go.ChangeShapes Go.WideShapes Go.ChangeAt Go.RowKit
open Go.ChangeMaps (open_string shut_string)
set_option linter.unusedVariables false

theorem own : ownKnob Try.prog.godebug = none := by kernel_rfl
theorem laidOut : laidOutB Try.prog = true := by kernel_rfl

/-- WHAT THE WALK IS TOLD OF A SLICE OF INTEGERS THAT CAME IN: it is nil; or it leads to a row of 'cap' cells, the numbers 'zs' (the first 'len' are its elements, the rest its spare room), each fitting its kind. -/
def IsRow (k : IntKind) (w : World) (a : Option Addr) (len cap : Nat) (zs : List Int) : Prop :=
  (a = none ∧ len = 0 ∧ cap = 0 ∧ zs = []) ∨
  ∃ x, a = some x ∧ len ≤ cap ∧ cap ≤ maxLen ∧ zs.length = cap ∧ (∀ i, i < zs.length → w.cell? (x.add i) = some (.int k (zs.getD i 0))) ∧ ∀ n ∈ zs, (Lit.int k n).wf = true

theorem bnews {w : World} {b o : Nat} {l : List Bool} (h : BRds w (some ⟨b, o, none⟩) l) : ∀ j u, (bvals l)[j]? = some u → w.cell? ((⟨b, o, none⟩ : Addr).add j) = some u := by
  intro j u hj
  have hl : j < l.length := by have := (List.getElem?_eq_some_iff.1 hj).1; rwa [bvals_length] at this
  obtain ⟨b', o', e, hc⟩ := h.at_ hl
  injection e with e
  injection e with e1 e2
  subst e1 e2
  rw [bvals_get l j hl] at hj
  injection hj with hj
  subst hj
  rw [Addr.add_lit]; exact hc
theorem own_same {f : List Bool} (h8 : f.length = 8) {k : Int} {n : Nat} (x : Bool) {d d' : Int} {l l' m m' : List Int} {b b' : Bool} (h : PlanT k n f d l m b) (h' : PlanT k n (f.set n x) d' l' m' b') : d = d' ∧ l = l' ∧ m = m' ∧ b = b' := by
  have key : ∀ k', Sp.planM k' n f = Sp.planM k' n (f.set n x) := fun k' => Sp.plan_own fun i hi hne => by
    rw [List.getD_eq_getElem?_getD, List.getD_eq_getElem?_getD, List.getElem?_set_ne (fun e => hne e.symm)]
  have h2 : PlanT k n (f.set n x) d l m b := by
    rcases h with ⟨rfl, k1, l1, S, rfl, hk, e, hl, hf, hp, hc, rfl, rfl⟩ | ⟨rfl, rfl, rfl, rfl, h⟩
    · obtain rfl : n = l1 := by omega
      exact .inl ⟨rfl, k1, n, S, rfl, hk, rfl, hl, by rw [List.length_set]; exact hf, by rw [← key]; exact hp, hc, rfl, rfl⟩
    · refine .inr ⟨rfl, rfl, rfl, rfl, fun k1 l1 e1 e2 e3 e4 e5 => ?_⟩
      obtain rfl : n = l1 := by omega
      rw [← key]
      exact h k1 n e1 e2 rfl e4 h8
  exact h2.one h'

set_option maxHeartbeats 4000000 in
set_option maxRecDepth 20000 in
theorem walk (a0 : Option Addr) (len0 cap0 : Nat) (z0 : List Int) (w : World) (w0 : IsRow .u8 w a0 len0 cap0 z0) :
    Calls Try.prog 10 #[.slice a0 len0 cap0] w fun e w' => e = .returned (.bool true) ∧ Below w.heap.size w w' := by
  have hc0 : Code w a0 len0 cap0 := code_of w0
  have hm0 : cap0 ≤ maxLen := hc0.2.1
  have hl0 : len0 ≤ cap0 := hc0.1
  unfold maxLen at hm0
  have C0 := Lib.hid hc0
  clear hc0 w0
  by_cases hbig0 : (len0 : Int) > 1048576
  · go_enter Try.func10, Try.ntmps10
    go_wp2_with fail
    go_ret
    exact ⟨rfl, Below.refl _ _⟩
  obtain ⟨i0, hi, hz0, hz1, hz2⟩ := info_parts infoBool
  have I1 := Lib.hid hi
  have I2 := Lib.hid hz0
  have I3 := Lib.hid hz1
  have I4 := Lib.hid hz2
  clear hi hz0 hz1 hz2
  go_enter Try.func10, Try.ntmps10
  go_wp2_with fail
  refine (drawPlanOf a0 len0 cap0 _ C0.out).mono ?_
  rintro e W1 ⟨k, n, v, f, hk3, hn15, rfl, hf8, hbl, hb⟩
  have L1 := Lib.hid hb
  have B1 := Lib.hid hbl
  have H8 := Lib.hid hf8
  clear hb hbl hf8 C0
  obtain ⟨av, cv, ev, c1, c2, _⟩ := B1.out
  subst ev
  unfold maxLen at c2
  obtain ⟨n8, hn8⟩ : ∃ n, f.length = n := ⟨_, rfl⟩
  have N8 := Lib.hid hn8
  rw [hn8] at B1 c1
  rw [hn8]
  clear hn8
  go_wp2_with fail
  refine (specPlanOf k n _ f _ B1.out).mono ?_
  rintro e W2 ⟨d, l, m, b, p, q, hT, rfl, hg, ht⟩
  obtain ⟨a1', n1, c1', a2', n2, c2', rfl, rfl⟩ := ht.form
  have HT := Lib.hid hT
  have g2 := grown_alloc hg (.cells #[.int .i64 d, .slice a1' n1 c1', .slice a2' n2 c2'] 28)
  have L2 := Lib.hid (L1.out.trans (below_grown g2 |>.mono L1.out.size))
  have B2 := Lib.hid (B1.out.grown g2)
  have P2 : Hid (Sl (W2.alloc (.cells #[.int .i64 d, .slice a1' n1 c1', .slice a2' n2 c2'] 28)) (.slice a1' n1 c1') l) := Lib.hid (ht.1.sl.grown (World.grownBy_alloc _ _ _))
  have Q2 : Hid (Sl (W2.alloc (.cells #[.int .i64 d, .slice a1' n1 c1', .slice a2' n2 c2'] 28)) (.slice a2' n2 c2') m) := Lib.hid (ht.2.1.sl.grown (World.grownBy_alloc _ _ _))
  have K2 : Hid (Blk (W2.alloc (.cells #[.int .i64 d, .slice a1' n1 c1', .slice a2' n2 c2'] 28)) W2.heap.size 28 [.int .i64 d, .slice a1' n1 c1', .slice a2' n2 c2']) := Lib.hid (heap_alloc_new _ _)
  clear hT hg ht g2 L1 B1
  go_wp2_with fail
  generalize W2.alloc (.cells #[.int .i64 d, .slice a1' n1 c1', .slice a2' n2 c2'] 28) = W3 at *
  generalize W2.heap.size = g at *
  refine (implPlanOf k n _ f _ B2.out).mono ?_
  rintro e W4 ⟨d', l', m', b', p', q', hT', rfl, hg, ht⟩
  obtain ⟨rfl, rfl, rfl, rfl⟩ := HT.out.one hT'
  obtain ⟨a3', n3, c3', a4', n4, c4', rfl, rfl⟩ := ht.form
  have g4 := grown_alloc hg (.cells #[.int .i64 d, .slice a3' n3 c3', .slice a4' n4 c4'] 28)
  have L4 := Lib.hid (L2.out.trans (below_grown g4 |>.mono L2.out.size))
  have B4 := Lib.hid (B2.out.grown g4)
  have P4 := Lib.hid (P2.out.grown g4)
  have Q4 := Lib.hid (Q2.out.grown g4)
  have K4 := Lib.hid (K2.out.kept g4 (by simp))
  have P5 : Hid (Sl (W4.alloc (.cells #[.int .i64 d, .slice a3' n3 c3', .slice a4' n4 c4'] 28)) (.slice a3' n3 c3') l) := Lib.hid (ht.1.sl.grown (World.grownBy_alloc _ _ _))
  have Q5 : Hid (Sl (W4.alloc (.cells #[.int .i64 d, .slice a3' n3 c3', .slice a4' n4 c4'] 28)) (.slice a4' n4 c4') m) := Lib.hid (ht.2.1.sl.grown (World.grownBy_alloc _ _ _))
  have K5 : Hid (Blk (W4.alloc (.cells #[.int .i64 d, .slice a3' n3 c3', .slice a4' n4 c4'] 28)) W4.heap.size 28 [.int .i64 d, .slice a3' n3 c3', .slice a4' n4 c4']) := Lib.hid (heap_alloc_new _ _)
  clear hT' hg ht g4 L2 B2 P2 Q2 K2
  have hbb : (b != b) = false := by cases b <;> rfl
  go_upto_region 6 with fail
  generalize W4.alloc (.cells #[.int .i64 d, .slice a3' n3 c3', .slice a4' n4 c4'] 28) = W5 at *
  generalize W4.heap.size = g' at *
  have k0 := K4.out.cell (i := 0) rfl
  have k1 := K4.out.cell (i := 1) rfl
  have k2 := K4.out.cell (i := 2) rfl
  have j0 := K5.out.cell (i := 0) rfl
  have j1 := K5.out.cell (i := 1) rfl
  have j2 := K5.out.cell (i := 2) rfl
  go_wp2_with fail
  refine (lkPlanSame d _ _ _ _ l m _ P5.out Q5.out P4.out Q4.out).mono ?_
  rintro e W6 ⟨rfl, hg⟩
  have L6 := Lib.hid (L4.out.trans (below_grown hg |>.mono L4.out.size))
  have B6 := Lib.hid (B4.out.grown hg)
  have P6 := Lib.hid (P5.out.grown hg)
  have Q6 := Lib.hid (Q5.out.grown hg)
  have K6 := Lib.hid (K5.out.kept hg (by simp))
  clear hg L4 B4 P4 Q4 K4 P5 Q5 K5 k0 k1 k2 j0 j1 j2 hbb
  by_cases hyes : n8 = 8 ∧ n < 8
  · obtain ⟨rfl, hk8⟩ := hyes
    have F8 : Hid (f.length = 8) := Lib.hid N8.out
    have hk' : (n : Int) < 8 := by omega
    obtain ⟨a', c', e', _, _, hr⟩ := B6.out
    injection e' with e1 e2 e3
    subst e1 e3
    obtain ⟨bb, ob, rfl, _⟩ := hr.at_ (k := 0) (by rw [F8.out]; omega)
    have O0 : Hid (BOwn (W6.alloc (.cells #[] 4)) W6.heap.size (.slice (some ⟨W6.heap.size, 0, none⟩) 0 0) []) := Lib.hid ((BArr.new W6 4 []).own rfl _ (Nat.le_refl _) (by simp [maxLen]))
    have R0 := Lib.hid (bnews (hr.grown (World.grownBy_alloc W6 (.cells #[] 4) none)))
    have fl : (bvals f).length = 8 * 1 := by rw [bvals_length, F8.out]
    clear e2 hr
    go_wp2_with (first
      | (at_builtin; refine wpList_append_own _ rfl _ _ 23 rfl W6.heap.size 4 i0 (.bool false) 1 1 Try.underlying23 I1.out I2.out I3.out I4.out rfl (by decide) _ _ _ rfl O0.out ⟨bb, ob, none⟩ 8 cv (bvals f) rfl fl R0.out (bvals_one f) ?c3 ?c4 ?c5 ?_))
    case c3 => simp [maxLen]
    case c4 => simp
    case c5 => simp
    intro x W7 ho hg _
    have G7 : Hid (W6.grownBy W7 none) := Lib.hid (grown_own (grown_alloc (World.grownBy.refl _ _) _) hg (fun j hj => (World.ownsRow.lt O0.out j hj).1))
    have O7 : BOwn W7 W6.heap.size x f := by
      unfold BOwn
      rw [F8.out]
      simpa [bvals] using ho
    clear ho hg O0 R0 fl
    obtain ⟨gx, cq, rfl, gb, gl, cq8, cqm, gc, gf⟩ := O7.eight F8.out
    unfold maxLen at cqm
    have hx := gc n hk8
    have hf := gf n
    have P7 := Lib.hid (O7.put F8.out.symm n (!f.getD n false))
    have G8 : Hid (W6.grownBy (W7.setCell ⟨gx, n, none⟩ (.bool (!f.getD n false))) none) := Lib.hid (grown_own G7.out P7.out.2 (fun q hq => by injection hq with hq; omega))
    have X8 := Lib.hid P7.out.1.bl
    have L8 := Lib.hid (L6.out.trans (below_grown G8.out |>.mono L6.out.size))
    have B7 := Lib.hid (B6.out.grown G7.out)
    have B8 := Lib.hid (B6.out.grown G8.out)
    have P8 := Lib.hid (P6.out.grown G8.out)
    have Q8 := Lib.hid (Q6.out.grown G8.out)
    have K8 := Lib.hid (K6.out.kept G8.out (by simp))
    obtain ⟨ab, cb, eb, _, _, hrb⟩ := B7.out
    injection eb with e1 e2 e3
    subst e1 e3
    obtain ⟨b', o', e', hth⟩ := hrb.at_ (k := n) (by rw [F8.out]; exact hk8)
    injection e' with e'
    injection e' with e1 e4
    subst e1 e4
    have OS := Lib.hid (fun d' l' m' b' (h : PlanT k n (f.set n (!f.getD n false)) d' l' m' b') => own_same F8.out _ HT.out h)
    generalize f.getD n false = r at *
    generalize f.set n (!r) = fs at *
    clear O7 gc gf e2 hrb G7 P7 L6 B6 P6 Q6 K6 B7 B8
    go_wp2_with fail
    clear hx hf hth G8
    generalize W7.setCell ⟨gx, n, none⟩ (.bool (!r)) = W8 at *
    refine (implPlanOf k n _ fs _ X8.out).mono ?_
    rintro e W9 ⟨d', l', m', b2, p', q', hT', rfl, hg, ht⟩
    obtain ⟨rfl, rfl, rfl, rfl⟩ := OS.out _ _ _ _ hT'
    obtain ⟨a5', n5, c5', a6', n6, c6', rfl, rfl⟩ := ht.form
    have g9 := grown_alloc hg (.cells #[.int .i64 d, .slice a5' n5 c5', .slice a6' n6 c6'] 28)
    have L9 := Lib.hid (L8.out.trans (below_grown g9 |>.mono L8.out.size))
    have P9 := Lib.hid (P8.out.grown g9)
    have Q9 := Lib.hid (Q8.out.grown g9)
    have K9 := Lib.hid (K8.out.kept g9 (by simp))
    have PA : Hid (Sl (W9.alloc (.cells #[.int .i64 d, .slice a5' n5 c5', .slice a6' n6 c6'] 28)) (.slice a5' n5 c5') l) := Lib.hid (ht.1.sl.grown (World.grownBy_alloc _ _ _))
    have QA : Hid (Sl (W9.alloc (.cells #[.int .i64 d, .slice a5' n5 c5', .slice a6' n6 c6'] 28)) (.slice a6' n6 c6') m) := Lib.hid (ht.2.1.sl.grown (World.grownBy_alloc _ _ _))
    have KA : Hid (Blk (W9.alloc (.cells #[.int .i64 d, .slice a5' n5 c5', .slice a6' n6 c6'] 28)) W9.heap.size 28 [.int .i64 d, .slice a5' n5 c5', .slice a6' n6 c6']) := Lib.hid (heap_alloc_new _ _)
    clear hT' hg ht g9 L8 P8 Q8 K8 X8 OS
    go_upto_region 13 with fail
    generalize W9.alloc (.cells #[.int .i64 d, .slice a5' n5 c5', .slice a6' n6 c6'] 28) = WA at *
    generalize W9.heap.size = gq at *
    have k0 := K9.out.cell (i := 0) rfl
    have k1 := K9.out.cell (i := 1) rfl
    have k2 := K9.out.cell (i := 2) rfl
    have j0 := KA.out.cell (i := 0) rfl
    have j1 := KA.out.cell (i := 1) rfl
    have j2 := KA.out.cell (i := 2) rfl
    go_wp2_with fail
    refine (lkPlanSame d _ _ _ _ l m _ PA.out QA.out P9.out Q9.out).mono ?_
    rintro e WB ⟨rfl, hg⟩
    have LB := Lib.hid (L9.out.trans (below_grown hg |>.mono L9.out.size))
    clear hg
    go_wp2_with fail
    go_ret
    exact ⟨rfl, LB.out⟩
  · have NB : b = false := by
      rcases HT.out with ⟨_, k1, l1, S, _, _, e1, h1, h2, _⟩ | ⟨h, _⟩
      · exact absurd ⟨by rw [← N8.out]; exact h2, by omega⟩ hyes
      · exact h
    subst NB
    by_cases h8 : n8 = 8
    · subst h8
      have h9 : (n : Int) ≥ 8 := by omega
      have h0 : ¬ (n : Int) < 0 := by omega
      go_wp2_with fail
      go_ret
      exact ⟨rfl, L6.out⟩
    · have e8 : ((n8 : Int) != 8) = true := by rw [bne_iff_ne]; omega
      go_wp2_with fail
      go_ret
      exact ⟨rfl, L6.out⟩

set_option maxRecDepth 100000 in
theorem lifted (os : Os) (started : os.Started) (H : Type) (enc : TypeId × Value → H) :
    ReturnsInHanded {} Try.checked os 10 .any (Rows.fnPlanOwnSpec.pre6 enc Try.prog Try.f10 Rows.fnPlanOwnRow.domain false) (Rows.fnPlanOwnSpec.post enc Try.prog Try.f10 false true false false) := by
  refine returnsInHanded_of_change (C := Try.checked) own started (by kernel_rfl) Try.func10
    (ChangeSpec.witness6 (enc := enc) (C := Try.checked) false ⟨#[], #[.slice none 0 0], []⟩ 8 (by kernel_rfl) (by kernel_rfl) (by kernel_rfl) (by kernel_rfl)) ?_
  intro W base args ds gs before hval0 hW hcnd _
  have hval : ∀ (j : Nat) t v, Try.f10.params[j]? = some t → args[j]? = some v → Value.okWide Try.prog W .any base t v := hval0
  have hW' := hW
  obtain ⟨p, q, hA0, hV, rfl, hfz, hnd⟩ := hW
  have hA : DataW.TrodAll enc Try.prog W 0 (fun _ => true) true Try.f10.params.toList args.toList ds p := hA0
  rw [Try.params10] at hA hval
  obtain ⟨v0, vs0, d0, ds0, p0, q0, hargs, rfl, rfl, h0, r0⟩ := trodAll_cons hA
  obtain ⟨rfl, rfl, rfl⟩ := trodAll_nil r0
  obtain rfl : args = #[v0] := by cases args; simp_all
  obtain ⟨rfl, rfl⟩ := trodVars_none hV
  obtain ⟨a0, len0, cap0, rfl⟩ := okWide_slice Try.underlying22 (hval 0 22 v0 rfl rfl)
  have k0 := h0
  have lt0 : ∀ x ∈ p0, x.block < W.heap.size := by obtain ⟨m, hm⟩ := k0; exact DataW.trod_lt m _ _ _ hm
  obtain ⟨z0, w0⟩ : ∃ zs, IsRow .u8 W a0 len0 cap0 zs := by
    obtain ⟨fuel, hf⟩ := h0
    rcases open_ints Try.underlying22 Try.underlying5 (by kernel_rfl) hf with ⟨hcs, _⟩ | ⟨x, l, c, zs, hcs, _, hl, hm, hz, _, hcell, hwz⟩
    · simp [Value.cells] at hcs
      obtain ⟨rfl, rfl, rfl⟩ := hcs
      exact ⟨[], .inl ⟨rfl, rfl, rfl, rfl⟩⟩
    · simp [Value.cells] at hcs
      obtain ⟨rfl, rfl, rfl⟩ := hcs
      exact ⟨zs, .inr ⟨_, rfl, hl, hm, by simpa using hz, hcell, hwz⟩⟩
  clear hA0 hval0
  refine (walk a0 len0 cap0 z0 W w0).mono fun e W' ⟨he, bel⟩ => ?_
  subst he
  exact ⟨_, rfl, _, _, _, [], _, [], hW', trodAll_mk1 (shut_bool Try.underlying4 _), (trodAll_cons_mk (Below.trod laidOut (by kernel_rfl) (of_decide_eq_true (by kernel_rfl)) k0 bel lt0) trodAll_mk0), rfl, bel.frame _, fun h => by cases h⟩

theorem over : Rows.fnPlanOwnRow.holds Try.pinned (OpenSpec.ofChange Rows.fnPlanOwnSpec) :=
  OpenClaim.holds_of_wide 10 Try.f10 rfl rfl rfl rfl rfl rfl rfl ⟨rfl, rfl, rfl, rfl, rfl⟩ rfl rfl rfl rfl rfl (by kernel_rfl) Try.func10 (by kernel_rfl)
    (of_decide_eq_true (by kernel_rfl)) (by unfold Func.isWrapper; first | (rw [if_pos (by decide +kernel)]; kernel_rfl) | (rw [if_neg (by decide +kernel)]; exact ⟨rfl, rfl⟩))
    (fun os started H enc _ => lifted os started H enc)

theorem proved : Rows.FnPlanOwnSaid := over
#print axioms proved
end Go.Proofs.Ytbpkfcaokbidnaa.fnPlanOwn
