/-
  From whatever bytes a kind, a shard and flags are drawn, PlanOf answers as its model does, and of fewer shards that are there the shard's row is not made: the law FnPlanLeast returns true.
  Conditions: none.
-/
import Derived.Test.YtbpkfcaokbidnaaRows
import Derived.WalkKit
import Derived.ProofKit
import Derived.OpenShut
import Derived.ShutString
import Derived.ChangeOld
import Derived.Below
import Derived.Test.YtbpkfcaokbidnaaG1
import Derived.Test.YtbpkfcaokbidnaaAppendZeros
import Derived.Test.YtbpkfcaokbidnaaG2
import Derived.Test.YtbpkfcaokbidnaaG3
import Derived.Test.YtbpkfcaokbidnaaG4
import Derived.Test.YtbpkfcaokbidnaaPlanMath
import Derived.Test.YtbpkfcaokbidnaaPlanWork
import Derived.Test.YtbpkfcaokbidnaaRound
import Derived.Test.YtbpkfcaokbidnaaChoose
import Derived.Test.YtbpkfcaokbidnaaPlanMake
import Derived.Test.YtbpkfcaokbidnaaChoose2
import Derived.Test.YtbpkfcaokbidnaaPlanFind
import Derived.Test.YtbpkfcaokbidnaaPlanTop
import Derived.Test.YtbpkfcaokbidnaaPlanSpec
import Derived.Test.YtbpkfcaokbidnaaPlanSearch
import Derived.Test.YtbpkfcaokbidnaaPlanSpec2
import Derived.Test.YtbpkfcaokbidnaaPlanNear
namespace Go.Proofs.Ytbpkfcaokbidnaa.fnPlanLeast
open Go.ChangeShapes Go.WideShapes Go.ChangeAt Go.RowKit
open Go.ChangeMaps (open_string shut_string)
set_option linter.unusedVariables false

theorem own : ownKnob Try.prog.godebug = none := by kernel_rfl
theorem laidOut : laidOutB Try.prog = true := by kernel_rfl

/-- WHAT THE WALK IS TOLD OF A SLICE OF INTEGERS THAT CAME IN: it is nil; or it leads to a row of 'cap' cells, the numbers 'zs' (the first 'len' are its elements, the rest its spare room), each fitting its kind. -/
def IsRow (k : IntKind) (w : World) (a : Option Addr) (len cap : Nat) (zs : List Int) : Prop :=
  (a = none ∧ len = 0 ∧ cap = 0 ∧ zs = []) ∨
  ∃ x, a = some x ∧ len ≤ cap ∧ cap ≤ maxLen ∧ zs.length = cap ∧ (∀ i, i < zs.length → w.cell? (x.add i) = some (.int k (zs.getD i 0))) ∧ ∀ n ∈ zs, (Lit.int k n).wf = true

/-- which shards are taken from a set: those that are there, but for the lost one; so far up to a place. -/
def mixK (f : List Bool) (n : Nat) (g : List Bool) (i : Nat) : List Bool := (List.range 8).map fun j => if j < i then g.getD j false && f.getD j false && j != n else g.getD j false
theorem mixK_len (f : List Bool) (n : Nat) (g : List Bool) (i : Nat) : (mixK f n g i).length = 8 := by simp [mixK]
theorem mixK_get (f : List Bool) (n : Nat) (g : List Bool) (i : Nat) {j : Nat} (hj : j < 8) : (mixK f n g i).getD j false = if j < i then g.getD j false && f.getD j false && j != n else g.getD j false := by
  simp [mixK, List.getD_eq_getElem?_getD, hj]
theorem mixK_zero (f : List Bool) (n : Nat) {g : List Bool} (hg : g.length = 8) : mixK f n g 0 = g := by
  refine List.ext_getElem (by rw [mixK_len, hg]) fun j h1 h2 => ?_
  simp [mixK, List.getD_eq_getElem?_getD, h2]
theorem mixK_set (f : List Bool) (n : Nat) (g : List Bool) {i : Nat} (hi : i < 8) {x : Bool} (hx : (g.getD i false && f.getD i false && i != n) = x) : (mixK f n g i).set i x = mixK f n g (i + 1) := by
  subst hx
  refine List.ext_getElem (by rw [List.length_set, mixK_len, mixK_len]) fun j h1 h2 => ?_
  rw [List.getElem_set]
  have hj : j < 8 := by rw [mixK_len] at h2; exact h2
  split
  · rename_i e
    subst e
    simp [mixK]
  · rename_i e
    have : (j < i) ↔ (j < i + 1) := by omega
    simp [mixK, this]
theorem many_filter : ∀ {g : List Bool}, g.length = 8 → ((List.range 8).filter fun i => g.getD i false).length = Sp.many g := by
  intro g hg
  obtain ⟨b0, b1, b2, b3, b4, b5, b6, b7, rfl⟩ := list_eight hg
  revert b0 b1 b2 b3 b4 b5 b6 b7
  decide +kernel
theorem least_has {k n : Nat} {f g : List Bool} {d : Int} {l m : List Int} (h : PlanT k n f d l m true) (hc : Sp.many (mixK f n g 8) < l.length) : hasM (Sp.crows k (mixK f n g 8)) (Sp.crow k n) = false := by
  rcases h with ⟨_, k1, l1, S, e1, hk, e2, hl, hf, hp, _, rfl, _⟩ | ⟨h, _⟩
  · obtain rfl : k = k1 := by omega
    obtain rfl : n = l1 := by omega
    rw [ints_len] at hc
    have hm : ∀ i, i ∈ (List.range 8).filter (fun i => (mixK f n g 8).getD i false) → i < 8 ∧ f.getD i false = true ∧ i ≠ n := by
      intro i hi
      obtain ⟨h1, h2⟩ := List.mem_filter.1 hi
      have hi8 := List.mem_range.1 h1
      rw [mixK_get f n g 8 hi8, if_pos hi8] at h2
      simp only [Bool.and_eq_true, bne_iff_ne] at h2
      exact ⟨hi8, h2.1.2, h2.2⟩
    have hu : Sp.Up n f 0 ((List.range 8).filter fun i => (mixK f n g 8).getD i false) := ⟨List.Pairwise.filter _ List.pairwise_lt_range, fun i _ => Nat.zero_le _, fun i hi => (hm i hi).1, fun i hi => (hm i hi).2.1, fun i hi => (hm i hi).2.2⟩
    have hno := Sp.plan_least hk hl hp hu (by rw [many_filter (mixK_len f n g 8)]; exact hc)
    unfold hasM
    have hv : Vec.ok (Sp.crow k n) = true := Sp.row_ok.2 (Sp.crow_row hk hl)
    have hh : Sp.has (Sp.crows k (mixK f n g 8)) (Sp.crow k n) = false := by
      cases hq : Sp.has (Sp.crows k (mixK f n g 8)) (Sp.crow k n) with
      | false => rfl
      | true => exact absurd ((Sp.has_iff (Sp.prow_row hk hu.lt) (Sp.crow_row hk hl)).1 hq) hno
    rw [hh]
    simp
  · cases h
theorem sl_len {w : World} {a : Option Addr} {n c : Nat} {l : List Int} (h : Sl w (.slice a n c) l) : n = l.length := by
  obtain ⟨_, _, e, _⟩ := h
  injection e

set_option maxHeartbeats 8000000 in
set_option maxRecDepth 20000 in
theorem walk (a0 : Option Addr) (len0 cap0 : Nat) (z0 : List Int) (w : World) (w0 : IsRow .u8 w a0 len0 cap0 z0) :
    Calls Try.prog 5 #[.slice a0 len0 cap0] w fun e w' => e = .returned (.bool true) ∧ Below w.heap.size w w' := by
  have hc0 : Code w a0 len0 cap0 := code_of w0
  have hm0 : cap0 ≤ maxLen := hc0.2.1
  have hl0 : len0 ≤ cap0 := hc0.1
  unfold maxLen at hm0
  have C0 := Lib.hid hc0
  clear hc0 w0
  by_cases hbig0 : (len0 : Int) > 1048576
  · go_enter Try.func5, Try.ntmps5
    go_wp2_with fail
    go_ret
    exact ⟨rfl, Below.refl _ _⟩
  go_enter Try.func5, Try.ntmps5
  go_wp2_with fail
  refine (drawPlanOf a0 len0 cap0 _ C0.out).mono ?_
  rintro e W1 ⟨k, n, v, f, hk3, hn15, rfl, hf8, hbl, hb⟩
  have L1 := Lib.hid hb
  have B1 := Lib.hid hbl
  have H8 := Lib.hid hf8
  clear hb hbl hf8 C0
  obtain ⟨av, cv, ev, c1, c2, _⟩ := B1.out
  subst ev
  unfold maxLen at c2
  obtain ⟨n8, hn8⟩ : ∃ n, f.length = n := ⟨_, rfl⟩
  have N8 := Lib.hid hn8
  rw [hn8] at B1 c1
  rw [hn8]
  clear hn8
  go_wp2_with fail
  refine (specPlanOf k n _ f _ B1.out).mono ?_
  rintro e W2 ⟨d, l, m, b, p, q, hT, rfl, hg, ht⟩
  obtain ⟨a1', n1, c1', a2', n2, c2', rfl, rfl⟩ := ht.form
  have HT := Lib.hid hT
  have g2 := grown_alloc hg (.cells #[.int .i64 d, .slice a1' n1 c1', .slice a2' n2 c2'] 28)
  have L2 := Lib.hid (L1.out.trans (below_grown g2 |>.mono L1.out.size))
  have B2 := Lib.hid (B1.out.grown g2)
  have P2 : Hid (Sl (W2.alloc (.cells #[.int .i64 d, .slice a1' n1 c1', .slice a2' n2 c2'] 28)) (.slice a1' n1 c1') l) := Lib.hid (ht.1.sl.grown (World.grownBy_alloc _ _ _))
  have Q2 : Hid (Sl (W2.alloc (.cells #[.int .i64 d, .slice a1' n1 c1', .slice a2' n2 c2'] 28)) (.slice a2' n2 c2') m) := Lib.hid (ht.2.1.sl.grown (World.grownBy_alloc _ _ _))
  have K2 : Hid (Blk (W2.alloc (.cells #[.int .i64 d, .slice a1' n1 c1', .slice a2' n2 c2'] 28)) W2.heap.size 28 [.int .i64 d, .slice a1' n1 c1', .slice a2' n2 c2']) := Lib.hid (heap_alloc_new _ _)
  clear hT hg ht g2 L1 B1
  go_wp2_with fail
  generalize W2.alloc (.cells #[.int .i64 d, .slice a1' n1 c1', .slice a2' n2 c2'] 28) = W3 at *
  generalize W2.heap.size = g at *
  refine (implPlanOf k n _ f _ B2.out).mono ?_
  rintro e W4 ⟨d', l', m', b', p', q', hT', rfl, hg, ht⟩
  obtain ⟨rfl, rfl, rfl, rfl⟩ := HT.out.one hT'
  obtain ⟨a3', n3, c3', a4', n4, c4', rfl, rfl⟩ := ht.form
  have g4 := grown_alloc hg (.cells #[.int .i64 d, .slice a3' n3 c3', .slice a4' n4 c4'] 28)
  have L4 := Lib.hid (L2.out.trans (below_grown g4 |>.mono L2.out.size))
  have B4 := Lib.hid (B2.out.grown g4)
  have P4 := Lib.hid (P2.out.grown g4)
  have Q4 := Lib.hid (Q2.out.grown g4)
  have K4 := Lib.hid (K2.out.kept g4 (by simp))
  have P5 : Hid (Sl (W4.alloc (.cells #[.int .i64 d, .slice a3' n3 c3', .slice a4' n4 c4'] 28)) (.slice a3' n3 c3') l) := Lib.hid (ht.1.sl.grown (World.grownBy_alloc _ _ _))
  have Q5 : Hid (Sl (W4.alloc (.cells #[.int .i64 d, .slice a3' n3 c3', .slice a4' n4 c4'] 28)) (.slice a4' n4 c4') m) := Lib.hid (ht.2.1.sl.grown (World.grownBy_alloc _ _ _))
  have K5 : Hid (Blk (W4.alloc (.cells #[.int .i64 d, .slice a3' n3 c3', .slice a4' n4 c4'] 28)) W4.heap.size 28 [.int .i64 d, .slice a3' n3 c3', .slice a4' n4 c4']) := Lib.hid (heap_alloc_new _ _)
  clear hT' hg ht g4 L2 B2 P2 Q2 K2
  have hbb : (b != b) = false := by cases b <;> rfl
  go_upto_region 6 with fail
  generalize W4.alloc (.cells #[.int .i64 d, .slice a3' n3 c3', .slice a4' n4 c4'] 28) = W5 at *
  generalize W4.heap.size = g' at *
  have k0 := K4.out.cell (i := 0) rfl
  have k1 := K4.out.cell (i := 1) rfl
  have k2 := K4.out.cell (i := 2) rfl
  have j0 := K5.out.cell (i := 0) rfl
  have j1 := K5.out.cell (i := 1) rfl
  have j2 := K5.out.cell (i := 2) rfl
  go_wp2_with fail
  refine (lkPlanSame d _ _ _ _ l m _ P5.out Q5.out P4.out Q4.out).mono ?_
  rintro e W6 ⟨rfl, hg⟩
  have L6 := Lib.hid (L4.out.trans (below_grown hg |>.mono L4.out.size))
  have B6 := Lib.hid (B4.out.grown hg)
  have P6 := Lib.hid (P5.out.grown hg)
  have Q6 := Lib.hid (Q5.out.grown hg)
  have K6 := Lib.hid (K5.out.kept hg (by simp))
  clear hg L4 B4 P4 Q4 K4 P5 Q5 K5 k0 k1 k2 j0 j1 j2 hbb
  cases b with
  | false =>
    go_wp2_with fail
    go_ret
    exact ⟨rfl, L6.out⟩
  | true =>
    have hall : n8 = 8 ∧ (k = 1 ∨ k = 2) ∧ n < 8 := by
      rcases HT.out with ⟨_, k1, l1, S, e0, h0, e1, h1, h2, _⟩ | ⟨h, _⟩
      · exact ⟨by rw [← N8.out]; exact h2, by omega, by omega⟩
      · cases h
    obtain ⟨rfl, hk, hn8⟩ := hall
    have F8 : Hid (f.length = 8) := Lib.hid N8.out
    have HK := Lib.hid hk
    have N3 := Lib.hid (sl_len P6.out)
    have n34 : n3 ≤ 4 := by
      rw [N3.out]
      rcases HT.out with ⟨_, k1, l1, S, _, _, _, _, _, hp, _, rfl, _⟩ | ⟨h, _⟩
      · rw [ints_len]; exact (Sp.plan_some hp).2.1
      · cases h
    have LEAST : Hid (∀ z, Sp.many (mixK f n (Sp.bits z) 8) < n3 → hasM (Sp.crows k (mixK f n (Sp.bits z) 8)) (Sp.crow k n) = false) := Lib.hid fun z h => least_has HT.out (by rw [← N3.out]; exact h)
    have CR := Lib.hid (fun w => codeRowYes HK.out hn8 w)
    have LT := Lib.hid (fun M (hM : M.length = 8) v w h => lkTheir HK.out v M w h hM)
    have C4 := Lib.hid (Sp.crow_row HK.out hn8).1
    generalize Sp.crow k n = row at *
    clear hk P6 Q6 N3 HT
    go_wp2_with fail
    refine (CR.out _).mono ?_
    rintro e W7 ⟨u, rfl, hg, ho⟩
    have L7 := Lib.hid (L6.out.trans (below_grown hg |>.mono L6.out.size))
    have B7 := Lib.hid (B6.out.grown hg)
    have K7 := Lib.hid (K6.out.kept hg (by simp))
    have U7 := Lib.hid ho.sl
    obtain ⟨au, cu, eu, _, _, _⟩ := ho.sl
    rw [C4.out] at eu
    subst eu
    clear hg ho L6 B6 K6 CR
    go_wp2_with fail
    go_loopw [12] (fun i wr => ∃ z : Nat, z ≤ 256 ∧ i = .int .i64 z ∧ W7.grownBy wr none) (fun i _ => 256 - (intOf i).toNat)
    case atStart => exact ⟨0, by omega, rfl, World.grownBy.refl _ _⟩
    case round =>
      obtain ⟨z, hz, rfl, hg⟩ := hrel
      obtain ⟨wo, hwo⟩ : ∃ W, W = wr := ⟨_, rfl⟩
      subst hwo
      have GR := Lib.hid hg
      clear hg
      by_cases hz2 : z < 256
      · have hz2' : (z : Int) < 256 := by omega
        go_wp2_with fail
        refine (lkThere z hz2 _).mono ?_
        rintro e w2 ⟨v2, rfl, hg, ho⟩
        obtain ⟨gx, cq, rfl, gb, gl, cq8, cqm, _, _⟩ := ho.eight (bits_len z)
        unfold maxLen at cqm
        have G2 := Lib.hid hg
        have BX : Hid (BOwn w2 wo.heap.size (.slice (some ⟨gx, 0, none⟩) 8 cq) (mixK f n (Sp.bits z) 0)) := Lib.hid (by rw [mixK_zero f n (bits_len z)]; exact ho)
        clear hg ho
        go_wp2_with fail
        go_loopw [14] (fun i wr => ∃ j : Nat, j ≤ 8 ∧ i = .int .i64 j ∧ wo.grownBy wr none ∧ BOwn wr wo.heap.size (.slice (some ⟨gx, 0, none⟩) 8 cq) (mixK f n (Sp.bits z) j)) (fun i _ => 8 - (intOf i).toNat)
        case atStart => exact ⟨0, by omega, rfl, G2.out, BX.out⟩
        case round =>
          obtain ⟨j, hj, rfl, hg, ho⟩ := hrel
          have GR2 := Lib.hid hg
          have BX2 := Lib.hid ho
          clear hg ho G2 BX
          by_cases hlt : j < 8
          · have hlt' : (j : Int) < 8 := by omega
            obtain ⟨gx', cq', e', _, _, _, _, gc, gf⟩ := BX2.out.eight (mixK_len f n _ j)
            injection e' with e1 e2 e3
            injection e1 with e1
            injection e1 with e1
            subst e1 e3
            have hx := gc j hlt
            have hfz := gf j
            rw [mixK_get f n _ j hlt, if_neg (by omega)] at hx
            obtain ⟨ab, cb, eb, _, _, hrb⟩ := B7.out.grown (grown_trans GR.out GR2.out)
            injection eb with e1 e2 e3
            subst e1 e3
            obtain ⟨bb, ob, rfl, hy⟩ := hrb.at_ (k := j) (by rw [F8.out]; exact hlt)
            clear gc gf hrb e2
            cases hzj : (Sp.bits z).getD j false with
            | false =>
              rw [hzj] at hx
              have BP := Lib.hid (BX2.out.put (by rw [mixK_len]) j false)
              have MS : Hid ((mixK f n (Sp.bits z) j).set j false = mixK f n (Sp.bits z) (j + 1)) := Lib.hid (mixK_set f n _ hlt (by rw [hzj]; rfl))
              have GP : Hid (wo.grownBy (wr.setCell ⟨gx, j, none⟩ (.bool false)) none) := Lib.hid (grown_own GR2.out BP.out.2 (fun q hq => by injection hq with hq; omega))
              have BQ : Hid (BOwn (wr.setCell ⟨gx, j, none⟩ (.bool false)) wo.heap.size (.slice (some ⟨gx, 0, none⟩) 8 cq) (mixK f n (Sp.bits z) (j + 1))) := Lib.hid (by rw [← MS.out]; exact BP.out.1)
              clear BP MS hzj
              go_wp2_with fail
              go_roundw
              case rel => exact ⟨j + 1, by omega, by go_num, GP.out, BQ.out⟩
              case measure => simp [intOf]; omega
            | true =>
              rw [hzj] at hx
              cases hfj : f.getD j false with
              | false =>
                rw [hfj] at hy
                have BP := Lib.hid (BX2.out.put (by rw [mixK_len]) j false)
                have MS : Hid ((mixK f n (Sp.bits z) j).set j false = mixK f n (Sp.bits z) (j + 1)) := Lib.hid (mixK_set f n _ hlt (by rw [hzj, hfj]; rfl))
                have GP : Hid (wo.grownBy (wr.setCell ⟨gx, j, none⟩ (.bool false)) none) := Lib.hid (grown_own GR2.out BP.out.2 (fun q hq => by injection hq with hq; omega))
                have BQ : Hid (BOwn (wr.setCell ⟨gx, j, none⟩ (.bool false)) wo.heap.size (.slice (some ⟨gx, 0, none⟩) 8 cq) (mixK f n (Sp.bits z) (j + 1))) := Lib.hid (by rw [← MS.out]; exact BP.out.1)
                clear BP MS hzj hfj
                go_wp2_with fail
                go_roundw
                case rel => exact ⟨j + 1, by omega, by go_num, GP.out, BQ.out⟩
                case measure => simp [intOf]; omega
              | true =>
                rw [hfj] at hy
                by_cases hjn : j = n
                · have hnn : ((j : Int) != n) = false := by simp [hjn]
                  have BP := Lib.hid (BX2.out.put (by rw [mixK_len]) j false)
                  have MS : Hid ((mixK f n (Sp.bits z) j).set j false = mixK f n (Sp.bits z) (j + 1)) := Lib.hid (mixK_set f n _ hlt (by rw [hzj, hfj]; simp [hjn]))
                  have GP : Hid (wo.grownBy (wr.setCell ⟨gx, j, none⟩ (.bool false)) none) := Lib.hid (grown_own GR2.out BP.out.2 (fun q hq => by injection hq with hq; omega))
                  have BQ : Hid (BOwn (wr.setCell ⟨gx, j, none⟩ (.bool false)) wo.heap.size (.slice (some ⟨gx, 0, none⟩) 8 cq) (mixK f n (Sp.bits z) (j + 1))) := Lib.hid (by rw [← MS.out]; exact BP.out.1)
                  clear BP MS hzj hfj hjn
                  go_wp2_with fail
                  go_roundw
                  case rel => exact ⟨j + 1, by omega, by go_num, GP.out, BQ.out⟩
                  case measure => simp [intOf]; omega
                · have hnn : ((j : Int) != n) = true := by rw [bne_iff_ne]; omega
                  have BP := Lib.hid (BX2.out.put (by rw [mixK_len]) j true)
                  have MS : Hid ((mixK f n (Sp.bits z) j).set j true = mixK f n (Sp.bits z) (j + 1)) := Lib.hid (mixK_set f n _ hlt (by rw [hzj, hfj]; simp [hjn]))
                  have GP : Hid (wo.grownBy (wr.setCell ⟨gx, j, none⟩ (.bool true)) none) := Lib.hid (grown_own GR2.out BP.out.2 (fun q hq => by injection hq with hq; omega))
                  have BQ : Hid (BOwn (wr.setCell ⟨gx, j, none⟩ (.bool true)) wo.heap.size (.slice (some ⟨gx, 0, none⟩) 8 cq) (mixK f n (Sp.bits z) (j + 1))) := Lib.hid (by rw [← MS.out]; exact BP.out.1)
                  clear BP MS hzj hfj
                  go_wp2_with fail
                  go_roundw
                  case rel => exact ⟨j + 1, by omega, by go_num, GP.out, BQ.out⟩
                  case measure => simp [intOf]; omega
          · obtain rfl : j = 8 := by omega
            have LZ := Lib.hid (LEAST.out z)
            have ML := mixK_len f n (Sp.bits z) 8
            have MH := Lib.hid ML
            have LT' := Lib.hid (LT.out _ ML)
            obtain ⟨M, hM⟩ : ∃ M, mixK f n (Sp.bits z) 8 = M := ⟨_, rfl⟩
            rw [hM] at LZ MH LT' BX2
            clear hM ML
            have GD := Lib.hid (grown_drew GR2.out)
            have XB := Lib.hid (BX2.out.still (grown_drew (World.grownBy.refl _ none))).bl
            have KD := Lib.hid ((K7.out.kept GR.out (by simp)).kept GD.out (by simp))
            have UD := Lib.hid (U7.out.grown (grown_trans GR.out GD.out))
            have hx2 := KD.out.cell (i := 1) rfl
            have Z := Lib.hid (lkMany _ M wr.drew XB.out (by rw [MH.out]; omega))
            have mM : Sp.many M ≤ 8 := by have := many_le M; rw [MH.out] at this; exact this
            obtain ⟨c, hc⟩ : ∃ c, Sp.many M = c := ⟨_, rfl⟩
            rw [hc] at Z LZ mM
            clear hc
            by_cases hcn : c < n3
            · have hcn' : (c : Int) < n3 := by omega
              have HAS := Lib.hid (LZ.out hcn)
              clear LZ
              go_wp2_with fail
              go_region_held3 (fun w' => w'.cell? ⟨g', 1, none⟩ = some (.slice a3' n3 c3'))
                (first
                  | with_reducible exact hx2
                  | with_reducible exact hx3
                  | with_reducible exact hx4
                  | with_reducible exact hx5)
                (first
                  | (go_at_call 24; refine Z.out.mono ?_; rintro e w7 ⟨rfl, hg7⟩
                     have hx3 := hg7.cell hx2 (by simp)
                     have XB7 := Lib.hid (XB.out.grown hg7)
                     have U7' := Lib.hid (UD.out.grown hg7)
                     have G7' := Lib.hid (grown_trans GD.out hg7)
                     clear hg7)
                  | (go_at_call 22; refine (LT'.out _ _ XB7.out).mono ?_; rintro e w8 ⟨o8, us8, rfl, hg8, ho8⟩
                     have hx4 := hg8.cell hx3 (by simp)
                     have T8 := Lib.hid ho8.tab
                     have U8' := Lib.hid (U7'.out.grown hg8)
                     have G8' := Lib.hid (grown_trans G7'.out hg8)
                     clear hg8 ho8)
                  | (go_at_call 21; refine (implSpanHas _ _ _ _ row _ T8.out U8'.out).mono ?_; rintro e w9 ⟨rfl, hg9⟩
                     have hx5 := hg9.cell hx4 (by simp)
                     have G9' := Lib.hid (grown_trans G8'.out hg9)
                     rw [HAS.out]
                     clear hg9))
              all_goals
                clear hx2
                go_wp2_with fail
                go_roundw
                case rel => exact ⟨z + 1, by omega, by go_num, grown_trans GR.out G9'.out⟩
                case measure => simp [intOf]; omega
            · have hcn' : decide ((c : Int) < (n3 : Int)) = false := decide_eq_false (by omega)
              clear LZ
              go_wp2_with fail
              have EM := enters_of (P := Try.prog) Try.func24 (by kernel_rfl) rfl
              refine wp_region_held (S := fun w' => w'.cell? ⟨g', 1, none⟩ = some (.slice a3' n3 c3')) (by kernel_rfl) ?_
              refine take_ 0 (some 85) (.slice (some ⟨gx, 0, none⟩) 8 cq) rfl rfl (by kernel_rfl) (by kernel_rfl) (by kernel_rfl) (fun _ _ _ h => h) (.inl ⟨by rfl, fun W' hS => (by go_simp)⟩) hx2 ?_
              simp only [Act.put, List.setIfInBounds_toArray, List.set_cons_zero, List.set_cons_succ]
              refine take_ 2 (some 87) (.pointer (some ⟨g', 1, none⟩)) rfl rfl (by kernel_rfl) (by kernel_rfl) (by kernel_rfl) (fun _ _ _ h => h) (.inl ⟨by rfl, fun W' hS => (by go_simp)⟩) hx2 ?_
              simp only [Act.put, List.setIfInBounds_toArray, List.set_cons_zero, List.set_cons_succ]
              refine take_ 3 (some 88) (.slice a3' n3 c3') rfl rfl (by kernel_rfl) (by kernel_rfl) (by kernel_rfl) (fun _ _ _ h => h) (.inl ⟨by rfl, fun W' hS => (by go_simp)⟩) hx2 ?_
              simp only [Act.put, List.setIfInBounds_toArray, List.set_cons_zero, List.set_cons_succ]
              refine take_ 4 (some 89) (.int .i64 n3) rfl rfl (by kernel_rfl) (by kernel_rfl) (by kernel_rfl) (fun _ _ _ h => h) (.inl ⟨by rfl, fun W' hS => (by go_simp)⟩) hx2 ?_
              simp only [Act.put, List.setIfInBounds_toArray, List.set_cons_zero, List.set_cons_succ]
              refine ready_one (i := 1) (by kernel_rfl) rfl rfl ?_
              refine call_at (some 86) (f := 24) (args := #[.slice (some ⟨gx, 0, none⟩) 8 cq]) rfl (by go_simp) (Z.out.mono ?_)
              rintro e w7 ⟨rfl, hg7⟩
              have hx3 := hg7.cell hx2 (by simp)
              have G7' := Lib.hid (grown_trans GD.out hg7)
              clear hg7
              refine ⟨.int .i64 c, rfl, hx3, ?_⟩
              simp only [Act.put, List.setIfInBounds_toArray, List.set_cons_zero, List.set_cons_succ]
              refine take_ 5 (some 90) (.bool false) rfl rfl (by kernel_rfl) (by kernel_rfl) (by kernel_rfl) (fun _ _ _ h => h) (.inl ⟨by rfl, fun W' hS => (by first | (go_simp; done) | (go_simp; omega) | (go_simp; exact hcn'))⟩) hx3 ?_
              simp only [Act.put, List.setIfInBounds_toArray, List.set_cons_zero, List.set_cons_succ]
              refine take_ 6 (some 91) (.bool false) rfl rfl (by kernel_rfl) (by kernel_rfl) (by kernel_rfl) (fun _ _ _ h => h) (.inl ⟨by rfl, fun W' hS => (by go_simp)⟩) hx3 ?_
              simp only [Act.put, List.setIfInBounds_toArray, List.set_cons_zero, List.set_cons_succ]
              refine take_ 7 (some 92) (undef) rfl rfl (by kernel_rfl) (by kernel_rfl) (by kernel_rfl) (fun _ _ _ h => h) (.inr ⟨by rfl, rfl⟩) hx3 ?_
              simp only [Act.put, List.setIfInBounds_toArray, List.set_cons_zero, List.set_cons_succ]
              refine take_ 8 (some 93) (undef) rfl rfl (by kernel_rfl) (by kernel_rfl) (by kernel_rfl) (fun _ _ _ h => h) (.inr ⟨by rfl, rfl⟩) hx3 ?_
              simp only [Act.put, List.setIfInBounds_toArray, List.set_cons_zero, List.set_cons_succ]
              refine take_ 9 (some 94) (undef) rfl rfl (by kernel_rfl) (by kernel_rfl) (by kernel_rfl) (fun _ _ _ h => h) (.inr ⟨by rfl, rfl⟩) hx3 ?_
              simp only [Act.put, List.setIfInBounds_toArray, List.set_cons_zero, List.set_cons_succ]
              refine take_ 10 (some 95) (undef) rfl rfl (by kernel_rfl) (by kernel_rfl) (by kernel_rfl) (fun _ _ _ h => h) (.inr ⟨by rfl, rfl⟩) hx3 ?_
              simp only [Act.put, List.setIfInBounds_toArray, List.set_cons_zero, List.set_cons_succ]
              refine take_ 11 (some 96) (undef) rfl rfl (by kernel_rfl) (by kernel_rfl) (by kernel_rfl) (fun _ _ _ h => h) (.inr ⟨by rfl, rfl⟩) hx3 ?_
              simp only [Act.put, List.setIfInBounds_toArray, List.set_cons_zero, List.set_cons_succ]
              refine take_ 12 (some 97) (.bool false) rfl rfl (by kernel_rfl) (by kernel_rfl) (by kernel_rfl) (fun _ _ _ h => h) (.inl ⟨by rfl, fun W' hS => (by go_simp)⟩) hx3 ?_
              simp only [Act.put, List.setIfInBounds_toArray, List.set_cons_zero, List.set_cons_succ]
              refine wpAnyH_done (by kernel_rfl) ?_ _
              all_goals
                clear hx2
                go_wp2_with fail
                go_roundw
                case rel => exact ⟨z + 1, by omega, by go_num, grown_trans GR.out G7'.out⟩
                case measure => simp [intOf]; omega
      · obtain rfl : z = 256 := by omega
        go_wp2_with fail
        go_ret
        exact ⟨rfl, L7.out.trans (below_grown GR.out |>.mono L7.out.size)⟩

set_option maxRecDepth 100000 in
theorem lifted (os : Os) (started : os.Started) (H : Type) (enc : TypeId × Value → H) :
    ReturnsInHanded {} Try.checked os 5 .any (Rows.fnPlanLeastSpec.pre6 enc Try.prog Try.f5 Rows.fnPlanLeastRow.domain false) (Rows.fnPlanLeastSpec.post enc Try.prog Try.f5 false true false false) := by
  refine returnsInHanded_of_change (C := Try.checked) own started (by kernel_rfl) Try.func5
    (ChangeSpec.witness6 (enc := enc) (C := Try.checked) false ⟨#[], #[.slice none 0 0], []⟩ 8 (by kernel_rfl) (by kernel_rfl) (by kernel_rfl) (by kernel_rfl)) ?_
  intro W base args ds gs before hval0 hW hcnd _
  have hval : ∀ (j : Nat) t v, Try.f5.params[j]? = some t → args[j]? = some v → Value.okWide Try.prog W .any base t v := hval0
  have hW' := hW
  obtain ⟨p, q, hA0, hV, rfl, hfz, hnd⟩ := hW
  have hA : DataW.TrodAll enc Try.prog W 0 (fun _ => true) true Try.f5.params.toList args.toList ds p := hA0
  rw [Try.params5] at hA hval
  obtain ⟨v0, vs0, d0, ds0, p0, q0, hargs, rfl, rfl, h0, r0⟩ := trodAll_cons hA
  obtain ⟨rfl, rfl, rfl⟩ := trodAll_nil r0
  obtain rfl : args = #[v0] := by cases args; simp_all
  obtain ⟨rfl, rfl⟩ := trodVars_none hV
  obtain ⟨a0, len0, cap0, rfl⟩ := okWide_slice Try.underlying22 (hval 0 22 v0 rfl rfl)
  have k0 := h0
  have lt0 : ∀ x ∈ p0, x.block < W.heap.size := by obtain ⟨m, hm⟩ := k0; exact DataW.trod_lt m _ _ _ hm
  obtain ⟨z0, w0⟩ : ∃ zs, IsRow .u8 W a0 len0 cap0 zs := by
    obtain ⟨fuel, hf⟩ := h0
    rcases open_ints Try.underlying22 Try.underlying5 (by kernel_rfl) hf with ⟨hcs, _⟩ | ⟨x, l, c, zs, hcs, _, hl, hm, hz, _, hcell, hwz⟩
    · simp [Value.cells] at hcs
      obtain ⟨rfl, rfl, rfl⟩ := hcs
      exact ⟨[], .inl ⟨rfl, rfl, rfl, rfl⟩⟩
    · simp [Value.cells] at hcs
      obtain ⟨rfl, rfl, rfl⟩ := hcs
      exact ⟨zs, .inr ⟨_, rfl, hl, hm, by simpa using hz, hcell, hwz⟩⟩
  clear hA0 hval0
  refine (walk a0 len0 cap0 z0 W w0).mono fun e W' ⟨he, bel⟩ => ?_
  subst he
  exact ⟨_, rfl, _, _, _, [], _, [], hW', trodAll_mk1 (shut_bool Try.underlying4 _), (trodAll_cons_mk (Below.trod laidOut (by kernel_rfl) (of_decide_eq_true (by kernel_rfl)) k0 bel lt0) trodAll_mk0), rfl, bel.frame _, fun h => by cases h⟩

theorem over : Rows.fnPlanLeastRow.holds Try.pinned (OpenSpec.ofChange Rows.fnPlanLeastSpec) :=
  OpenClaim.holds_of_wide 5 Try.f5 rfl rfl rfl rfl rfl rfl rfl ⟨rfl, rfl, rfl, rfl, rfl⟩ rfl rfl rfl rfl rfl (by kernel_rfl) Try.func5 (by kernel_rfl)
    (of_decide_eq_true (by kernel_rfl)) (by unfold Func.isWrapper; first | (rw [if_pos (by decide +kernel)]; kernel_rfl) | (rw [if_neg (by decide +kernel)]; exact ⟨rfl, rfl⟩))
    (fun os started H enc _ => lifted os started H enc)

theorem proved : Rows.FnPlanLeastSaid := over
#print axioms proved
end Go.Proofs.Ytbpkfcaokbidnaa.fnPlanLeast
