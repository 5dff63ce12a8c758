/-
  From whatever bytes a kind, a shard and flags are drawn, PlanOf answers as its model does; the plan takes shards that are there, not the shard itself, at most four, and is ok: the law FnPlanOf returns true.
  Conditions: none.
-/
import Derived.Test.YtbpkfcaokbidnaaRows
import Derived.WalkKit
import Derived.ProofKit
import Derived.OpenShut
import Derived.ShutString
import Derived.ChangeOld
import Derived.Below
import Derived.Test.YtbpkfcaokbidnaaG1
import Derived.Test.YtbpkfcaokbidnaaAppendZeros
import Derived.Test.YtbpkfcaokbidnaaG2
import Derived.Test.YtbpkfcaokbidnaaG3
import Derived.Test.YtbpkfcaokbidnaaG4
import Derived.Test.YtbpkfcaokbidnaaPlanMath
import Derived.Test.YtbpkfcaokbidnaaPlanWork
import Derived.Test.YtbpkfcaokbidnaaRound
import Derived.Test.YtbpkfcaokbidnaaChoose
import Derived.Test.YtbpkfcaokbidnaaPlanMake
import Derived.Test.YtbpkfcaokbidnaaChoose2
import Derived.Test.YtbpkfcaokbidnaaPlanFind
import Derived.Test.YtbpkfcaokbidnaaPlanTop
import Derived.Test.YtbpkfcaokbidnaaPlanSpec
import Derived.Test.YtbpkfcaokbidnaaPlanSearch
import Derived.Test.YtbpkfcaokbidnaaPlanSpec2
import Derived.Test.YtbpkfcaokbidnaaPlanNear
import Derived.Test.YtbpkfcaokbidnaaPlanEq
import Derived.Test.YtbpkfcaokbidnaaPlanForm
import Derived.Test.YtbpkfcaokbidnaaPlanComb
import Derived.Test.YtbpkfcaokbidnaaPlanSums
import Derived.Test.YtbpkfcaokbidnaaSpanSame
import Derived.Test.YtbpkfcaokbidnaaPlanDoOk
import Derived.Test.YtbpkfcaokbidnaaPlanSpecForm
import Derived.Test.YtbpkfcaokbidnaaPlanSpecDo
import Derived.Test.YtbpkfcaokbidnaaPlanTold
namespace Go.Proofs.Ytbpkfcaokbidnaa.fnPlanOf
open Go.ChangeShapes Go.WideShapes Go.ChangeAt Go.RowKit
open Go.ChangeMaps (open_string shut_string)
set_option linter.unusedVariables false

theorem own : ownKnob Try.prog.godebug = none := by kernel_rfl
theorem laidOut : laidOutB Try.prog = true := by kernel_rfl

/-- WHAT THE WALK IS TOLD OF A SLICE OF INTEGERS THAT CAME IN: it is nil; or it leads to a row of 'cap' cells, the numbers 'zs' (the first 'len' are its elements, the rest its spare room), each fitting its kind. -/
def IsRow (k : IntKind) (w : World) (a : Option Addr) (len cap : Nat) (zs : List Int) : Prop :=
  (a = none ∧ len = 0 ∧ cap = 0 ∧ zs = []) ∨
  ∃ x, a = some x ∧ len ≤ cap ∧ cap ≤ maxLen ∧ zs.length = cap ∧ (∀ i, i < zs.length → w.cell? (x.add i) = some (.int k (zs.getD i 0))) ∧ ∀ n ∈ zs, (Lit.int k n).wf = true

theorem sl_len {w : World} {a : Option Addr} {n c : Nat} {l : List Int} (h : Sl w (.slice a n c) l) : n = l.length := by
  obtain ⟨_, _, e, _⟩ := h
  injection e

set_option maxHeartbeats 4000000 in
set_option maxRecDepth 20000 in
theorem walk (a0 : Option Addr) (len0 cap0 : Nat) (z0 : List Int) (w : World) (w0 : IsRow .u8 w a0 len0 cap0 z0) :
    Calls Try.prog 3 #[.slice a0 len0 cap0] w fun e w' => e = .returned (.bool true) ∧ Below w.heap.size w w' := by
  have hc0 : Code w a0 len0 cap0 := code_of w0
  have hm0 : cap0 ≤ maxLen := hc0.2.1
  have hl0 : len0 ≤ cap0 := hc0.1
  unfold maxLen at hm0
  have C0 := Lib.hid hc0
  clear hc0 w0
  by_cases hbig0 : (len0 : Int) > 1048576
  · go_enter Try.func3, Try.ntmps3
    go_wp2_with fail
    go_ret
    exact ⟨rfl, Below.refl _ _⟩
  go_enter Try.func3, Try.ntmps3
  go_wp2_with fail
  refine (drawPlanOf a0 len0 cap0 _ C0.out).mono ?_
  rintro e W1 ⟨k, n, v, f, hk3, hn15, rfl, hf8, hbl, hb⟩
  have L1 := Lib.hid hb
  have B1 := Lib.hid hbl
  have H8 := Lib.hid hf8
  clear hb hbl hf8 C0
  obtain ⟨av, cv, ev, c1, c2, _⟩ := B1.out
  subst ev
  unfold maxLen at c2
  obtain ⟨n8, hn8⟩ : ∃ n, f.length = n := ⟨_, rfl⟩
  have N8 := Lib.hid hn8
  rw [hn8] at B1 c1
  rw [hn8]
  clear hn8
  go_wp2_with fail
  refine (specPlanOf k n _ f _ B1.out).mono ?_
  rintro e W2 ⟨d, l, m, b, p, q, hT, rfl, hg, ht⟩
  obtain ⟨a1', n1, c1', a2', n2, c2', rfl, rfl⟩ := ht.form
  have HT := Lib.hid hT
  have g2 := grown_alloc hg (.cells #[.int .i64 d, .slice a1' n1 c1', .slice a2' n2 c2'] 28)
  have L2 := Lib.hid (L1.out.trans (below_grown g2 |>.mono L1.out.size))
  have B2 := Lib.hid (B1.out.grown g2)
  have P2 : Hid (Sl (W2.alloc (.cells #[.int .i64 d, .slice a1' n1 c1', .slice a2' n2 c2'] 28)) (.slice a1' n1 c1') l) := Lib.hid (ht.1.sl.grown (World.grownBy_alloc _ _ _))
  have Q2 : Hid (Sl (W2.alloc (.cells #[.int .i64 d, .slice a1' n1 c1', .slice a2' n2 c2'] 28)) (.slice a2' n2 c2') m) := Lib.hid (ht.2.1.sl.grown (World.grownBy_alloc _ _ _))
  have K2 : Hid (Blk (W2.alloc (.cells #[.int .i64 d, .slice a1' n1 c1', .slice a2' n2 c2'] 28)) W2.heap.size 28 [.int .i64 d, .slice a1' n1 c1', .slice a2' n2 c2']) := Lib.hid (heap_alloc_new _ _)
  clear hT hg ht g2 L1 B1
  go_wp2_with fail
  generalize W2.alloc (.cells #[.int .i64 d, .slice a1' n1 c1', .slice a2' n2 c2'] 28) = W3 at *
  generalize W2.heap.size = g at *
  refine (implPlanOf k n _ f _ B2.out).mono ?_
  rintro e W4 ⟨d', l', m', b', p', q', hT', rfl, hg, ht⟩
  obtain ⟨rfl, rfl, rfl, rfl⟩ := HT.out.one hT'
  obtain ⟨a3', n3, c3', a4', n4, c4', rfl, rfl⟩ := ht.form
  have g4 := grown_alloc hg (.cells #[.int .i64 d, .slice a3' n3 c3', .slice a4' n4 c4'] 28)
  have L4 := Lib.hid (L2.out.trans (below_grown g4 |>.mono L2.out.size))
  have B4 := Lib.hid (B2.out.grown g4)
  have P4 := Lib.hid (P2.out.grown g4)
  have Q4 := Lib.hid (Q2.out.grown g4)
  have K4 := Lib.hid (K2.out.kept g4 (by simp))
  have P5 : Hid (Sl (W4.alloc (.cells #[.int .i64 d, .slice a3' n3 c3', .slice a4' n4 c4'] 28)) (.slice a3' n3 c3') l) := Lib.hid (ht.1.sl.grown (World.grownBy_alloc _ _ _))
  have Q5 : Hid (Sl (W4.alloc (.cells #[.int .i64 d, .slice a3' n3 c3', .slice a4' n4 c4'] 28)) (.slice a4' n4 c4') m) := Lib.hid (ht.2.1.sl.grown (World.grownBy_alloc _ _ _))
  have K5 : Hid (Blk (W4.alloc (.cells #[.int .i64 d, .slice a3' n3 c3', .slice a4' n4 c4'] 28)) W4.heap.size 28 [.int .i64 d, .slice a3' n3 c3', .slice a4' n4 c4']) := Lib.hid (heap_alloc_new _ _)
  clear hT' hg ht g4 L2 B2 P2 Q2 K2
  have hbb : (b != b) = false := by cases b <;> rfl
  go_upto_region 6 with fail
  generalize W4.alloc (.cells #[.int .i64 d, .slice a3' n3 c3', .slice a4' n4 c4'] 28) = W5 at *
  generalize W4.heap.size = g' at *
  have k0 := K4.out.cell (i := 0) rfl
  have k1 := K4.out.cell (i := 1) rfl
  have k2 := K4.out.cell (i := 2) rfl
  have j0 := K5.out.cell (i := 0) rfl
  have j1 := K5.out.cell (i := 1) rfl
  have j2 := K5.out.cell (i := 2) rfl
  go_wp2_with fail
  refine (lkPlanSame d _ _ _ _ l m _ P5.out Q5.out P4.out Q4.out).mono ?_
  rintro e W6 ⟨rfl, hg⟩
  have L6 := Lib.hid (L4.out.trans (below_grown hg |>.mono L4.out.size))
  have B6 := Lib.hid (B4.out.grown hg)
  have P6 := Lib.hid (P5.out.grown hg)
  have Q6 := Lib.hid (Q5.out.grown hg)
  have K6 := Lib.hid (K5.out.kept hg (by simp))
  clear hg L4 B4 P4 Q4 K4 P5 Q5 K5 k0 k1 k2 j0 j1 j2 hbb
  cases b with
  | false =>
    go_wp2_with fail
    go_ret
    exact ⟨rfl, L6.out⟩
  | true =>
    obtain ⟨hok, hd, h4, hf8, hk12, hn, hpl⟩ := plan_told HT.out
    subst hd
    obtain rfl : n8 = 8 := by rw [← N8.out]; exact hf8
    have F8 : Hid (f.length = 8) := Lib.hid N8.out
    have HO := Lib.hid hok
    have HP := Lib.hid hpl
    have N3 := Lib.hid (sl_len P6.out)
    have n34 : n3 ≤ 4 := by rw [N3.out]; exact h4
    have n34' : (n3 : Int) ≤ 4 := by omega
    obtain ⟨a', c', e', _, _, hr⟩ := P6.out
    injection e' with e1 e2 e3
    subst e1 e3
    have R := Lib.hid hr
    obtain ⟨a', c', e', _, _, hr'⟩ := B6.out
    injection e' with e1 e4 e3
    subst e1 e3
    have RB := Lib.hid hr'
    clear hok hpl h4 hf8 HT e2 hr hr' e4
    have k0 := K6.out.cell (i := 0) rfl
    have k1 := K6.out.cell (i := 1) rfl
    have k2 := K6.out.cell (i := 2) rfl
    go_wp2_with fail
    go_loopw [10] (fun i wr => ∃ t : Nat, t ≤ n3 ∧ i = .int .i64 t ∧ wr = W6) (fun i _ => n3 - (intOf i).toNat)
    case atStart => exact ⟨0, by omega, rfl, rfl⟩
    case round =>
      obtain ⟨t, ht, rfl, rfl⟩ := hrel
      by_cases hlt : t < n3
      · have hi : (t : Int) < (n3 : Int) := by omega
        obtain ⟨b1, o1, rfl, hx⟩ := R.out.at_ (k := t) (by rw [← N3.out]; exact hlt)
        obtain ⟨x, hxe, hx8, hft, hxn⟩ := HP.out t (by rw [← N3.out]; exact hlt)
        rw [hxe] at hx
        obtain ⟨b2, o2, rfl, hy⟩ := RB.out.at_ (k := x) (by rw [F8.out]; exact hx8)
        rw [hft] at hy
        have hxi : (x : Int) < 8 := by omega
        have hne : ((x : Int) == (n : Int)) = false := by rw [beq_eq_false_iff_ne]; exact hxn
        clear hxe hft hxn
        go_wp2_with fail
        go_roundw
        case rel => exact ⟨t + 1, by omega, by go_num, by first | rfl | trivial⟩
        case measure => simp [intOf]; omega
      · obtain rfl : t = n3 := by omega
        have hi : ¬ (t : Int) < (t : Int) := by omega
        go_wp2_with fail
        refine (implPlanOk k n _ _ l m _ P6.out Q6.out).mono ?_
        rintro e W7 ⟨rfl, hg⟩
        rw [HO.out]
        have L7 := Lib.hid (L6.out.trans (below_grown hg |>.mono L6.out.size))
        have K7 := Lib.hid (K6.out.kept hg (by simp))
        clear k0 k1 k2
        have k0 := K7.out.cell (i := 0) rfl
        have k1 := K7.out.cell (i := 1) rfl
        go_wp2_with fail
        go_ret
        exact ⟨rfl, L7.out⟩

set_option maxRecDepth 100000 in
theorem lifted (os : Os) (started : os.Started) (H : Type) (enc : TypeId × Value → H) :
    ReturnsInHanded {} Try.checked os 3 .any (Rows.fnPlanOfSpec.pre6 enc Try.prog Try.f3 Rows.fnPlanOfRow.domain false) (Rows.fnPlanOfSpec.post enc Try.prog Try.f3 false true false false) := by
  refine returnsInHanded_of_change (C := Try.checked) own started (by kernel_rfl) Try.func3
    (ChangeSpec.witness6 (enc := enc) (C := Try.checked) false ⟨#[], #[.slice none 0 0], []⟩ 8 (by kernel_rfl) (by kernel_rfl) (by kernel_rfl) (by kernel_rfl)) ?_
  intro W base args ds gs before hval0 hW hcnd _
  have hval : ∀ (j : Nat) t v, Try.f3.params[j]? = some t → args[j]? = some v → Value.okWide Try.prog W .any base t v := hval0
  have hW' := hW
  obtain ⟨p, q, hA0, hV, rfl, hfz, hnd⟩ := hW
  have hA : DataW.TrodAll enc Try.prog W 0 (fun _ => true) true Try.f3.params.toList args.toList ds p := hA0
  rw [Try.params3] at hA hval
  obtain ⟨v0, vs0, d0, ds0, p0, q0, hargs, rfl, rfl, h0, r0⟩ := trodAll_cons hA
  obtain ⟨rfl, rfl, rfl⟩ := trodAll_nil r0
  obtain rfl : args = #[v0] := by cases args; simp_all
  obtain ⟨rfl, rfl⟩ := trodVars_none hV
  obtain ⟨a0, len0, cap0, rfl⟩ := okWide_slice Try.underlying22 (hval 0 22 v0 rfl rfl)
  have k0 := h0
  have lt0 : ∀ x ∈ p0, x.block < W.heap.size := by obtain ⟨m, hm⟩ := k0; exact DataW.trod_lt m _ _ _ hm
  obtain ⟨z0, w0⟩ : ∃ zs, IsRow .u8 W a0 len0 cap0 zs := by
    obtain ⟨fuel, hf⟩ := h0
    rcases open_ints Try.underlying22 Try.underlying5 (by kernel_rfl) hf with ⟨hcs, _⟩ | ⟨x, l, c, zs, hcs, _, hl, hm, hz, _, hcell, hwz⟩
    · simp [Value.cells] at hcs
      obtain ⟨rfl, rfl, rfl⟩ := hcs
      exact ⟨[], .inl ⟨rfl, rfl, rfl, rfl⟩⟩
    · simp [Value.cells] at hcs
      obtain ⟨rfl, rfl, rfl⟩ := hcs
      exact ⟨zs, .inr ⟨_, rfl, hl, hm, by simpa using hz, hcell, hwz⟩⟩
  clear hA0 hval0
  refine (walk a0 len0 cap0 z0 W w0).mono fun e W' ⟨he, bel⟩ => ?_
  subst he
  exact ⟨_, rfl, _, _, _, [], _, [], hW', trodAll_mk1 (shut_bool Try.underlying4 _), (trodAll_cons_mk (Below.trod laidOut (by kernel_rfl) (of_decide_eq_true (by kernel_rfl)) k0 bel lt0) trodAll_mk0), rfl, bel.frame _, fun h => by cases h⟩

theorem over : Rows.fnPlanOfRow.holds Try.pinned (OpenSpec.ofChange Rows.fnPlanOfSpec) :=
  OpenClaim.holds_of_wide 3 Try.f3 rfl rfl rfl rfl rfl rfl rfl ⟨rfl, rfl, rfl, rfl, rfl⟩ rfl rfl rfl rfl rfl (by kernel_rfl) Try.func3 (by kernel_rfl)
    (of_decide_eq_true (by kernel_rfl)) (by unfold Func.isWrapper; first | (rw [if_pos (by decide +kernel)]; kernel_rfl) | (rw [if_neg (by decide +kernel)]; exact ⟨rfl, rfl⟩))
    (fun os started H enc _ => lifted os started H enc)

theorem proved : Rows.FnPlanOfSaid := over
#print axioms proved
end Go.Proofs.Ytbpkfcaokbidnaa.fnPlanOf
