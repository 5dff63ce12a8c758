/-
  From whatever bytes a plan and values are drawn, PlanDo answers as its model does, it is the sum of the values, each as often as told, and of twice as much it is twice as much: the law FnPlanSum returns true.
  Conditions: none.
-/
import Derived.Test.YtbpkfcaokbidnaaRows
import Derived.WalkKit
import Derived.ProofKit
import Derived.OpenShut
import Derived.ShutString
import Derived.ChangeOld
import Derived.Below
import Derived.Test.YtbpkfcaokbidnaaG1
import Derived.Test.YtbpkfcaokbidnaaAppendZeros
import Derived.Test.YtbpkfcaokbidnaaG2
import Derived.Test.YtbpkfcaokbidnaaG3
import Derived.Test.YtbpkfcaokbidnaaG4
import Derived.Test.YtbpkfcaokbidnaaPlanMath
import Derived.Test.YtbpkfcaokbidnaaPlanWork
import Derived.Test.YtbpkfcaokbidnaaRound
import Derived.Test.YtbpkfcaokbidnaaChoose
import Derived.Test.YtbpkfcaokbidnaaPlanMake
import Derived.Test.YtbpkfcaokbidnaaChoose2
import Derived.Test.YtbpkfcaokbidnaaPlanFind
import Derived.Test.YtbpkfcaokbidnaaPlanTop
import Derived.Test.YtbpkfcaokbidnaaPlanSpec
import Derived.Test.YtbpkfcaokbidnaaPlanSearch
import Derived.Test.YtbpkfcaokbidnaaPlanSpec2
import Derived.Test.YtbpkfcaokbidnaaPlanNear
import Derived.Test.YtbpkfcaokbidnaaPlanEq
import Derived.Test.YtbpkfcaokbidnaaPlanForm
import Derived.Test.YtbpkfcaokbidnaaPlanComb
import Derived.Test.YtbpkfcaokbidnaaPlanSums
import Derived.Test.YtbpkfcaokbidnaaSpanSame
import Derived.Test.YtbpkfcaokbidnaaPlanDoOk
import Derived.Test.YtbpkfcaokbidnaaPlanSpecForm
import Derived.Test.YtbpkfcaokbidnaaPlanSpecDo
import Derived.Test.YtbpkfcaokbidnaaPlanTold
import Derived.Test.YtbpkfcaokbidnaaPlanArg
import Derived.Test.YtbpkfcaokbidnaaDrawPlan
import Derived.Test.YtbpkfcaokbidnaaDrawPlan2
namespace Go.Proofs.Ytbpkfcaokbidnaa.fnPlanSum
open Go.ChangeShapes Go.WideShapes Go.ChangeAt Go.RowKit
open Go.ChangeMaps (open_string shut_string)
set_option linter.unusedVariables false

theorem own : ownKnob Try.prog.godebug = none := by kernel_rfl
theorem laidOut : laidOutB Try.prog = true := by kernel_rfl

/-- WHAT THE WALK IS TOLD OF A SLICE OF INTEGERS THAT CAME IN: it is nil; or it leads to a row of 'cap' cells, the numbers 'zs' (the first 'len' are its elements, the rest its spare room), each fitting its kind. -/
def IsRow (k : IntKind) (w : World) (a : Option Addr) (len cap : Nat) (zs : List Int) : Prop :=
  (a = none ∧ len = 0 ∧ cap = 0 ∧ zs = []) ∨
  ∃ x, a = some x ∧ len ≤ cap ∧ cap ≤ maxLen ∧ zs.length = cap ∧ (∀ i, i < zs.length → w.cell? (x.add i) = some (.int k (zs.getD i 0))) ∧ ∀ n ∈ zs, (Lit.int k n).wf = true

/-- each number twice. -/
def dbl (a : List Int) : List Int := a.map fun x => (x + x) % 31
theorem dbl_len (a : List Int) : (dbl a).length = a.length := by simp [dbl]
theorem dbl_get (a : List Int) (i : Nat) : (dbl a).getD i 0 = (a.getD i 0 + a.getD i 0) % 31 := by
  simp only [dbl, List.getD_eq_getElem?_getD, List.getElem?_map]
  cases a[i]? <;> simp
theorem dbl_ok {a : List Int} (h : shOk a = true) : shOk (dbl a) = true := by
  refine shOk_row.2 ⟨by rw [dbl_len]; exact (shOk_row.1 h).1, fun x hx => ?_⟩
  obtain ⟨y, _, rfl⟩ := List.mem_map.1 hx
  exact Vec.mod_is _
theorem mul_in (x m y : Int) : (x + m * (y % 31)) % 31 = (x + m * y) % 31 := by
  have e : y % 31 = y - 31 * (y / 31) := by omega
  rw [e, Int.mul_sub, Int.mul_left_comm]
  generalize m * (y / 31) = q
  generalize m * y = p
  omega
theorem dsum_dbl (a l m : List Int) : ∀ i, dsum (dbl a) l m i = (dsum a l m i + dsum a l m i) % 31
  | 0 => rfl
  | i + 1 => by
    simp only [dsum, dbl_get, dsum_dbl a l m i]
    rw [mul_in, Int.mul_add]
    generalize m.getD i 0 * a.getD (l.getD i 0).toNat 0 = q
    omega
theorem take_snoc' {a : List Int} {k : Nat} {x : Int} (h : k < a.length) (e : a.getD k 0 = x) : a.take (k + 1) = a.take k ++ [x] := by
  subst e
  rw [List.take_succ_eq_append_getElem h]
  simp [List.getD_eq_getElem?_getD, h]

set_option maxHeartbeats 8000000 in
set_option maxRecDepth 20000 in
theorem walk (a0 : Option Addr) (len0 cap0 : Nat) (z0 : List Int) (w : World) (w0 : IsRow .u8 w a0 len0 cap0 z0) :
    Calls Try.prog 7 #[.slice a0 len0 cap0] w fun e w' => e = .returned (.bool true) ∧ Below w.heap.size w w' := by
  have hc0 : Code w a0 len0 cap0 := code_of w0
  have hm0 : cap0 ≤ maxLen := hc0.2.1
  have hl0 : len0 ≤ cap0 := hc0.1
  unfold maxLen at hm0
  have C0 := Lib.hid hc0
  clear hc0 w0
  by_cases hbig0 : (len0 : Int) > 1048576
  · go_enter Try.func7, Try.ntmps7
    go_wp2_with fail
    go_ret
    exact ⟨rfl, Below.refl _ _⟩
  obtain ⟨i0, hi, hz0, hz1, hz2⟩ := info_parts infoInt
  have I1 := Lib.hid hi
  have I2 := Lib.hid hz0
  have I3 := Lib.hid hz1
  have I4 := Lib.hid hz2
  clear hi hz0 hz1 hz2
  go_enter Try.func7, Try.ntmps7
  go_wp2_with fail
  refine (drawPlanDo a0 len0 cap0 _ C0.out).mono ?_
  rintro e W1 ⟨d, u, v, x, l, m, a, rfl, ha8, hu, hv, hx, hb⟩
  obtain ⟨au, cu, eu, _, _, _⟩ := hu
  obtain ⟨av, cv, ev, _, _, _⟩ := hv
  subst eu ev
  have hu' : Sl W1 (.slice au l.length cu) l := ⟨au, cu, rfl, by assumption, by assumption, by assumption⟩
  have hv' : Sl W1 (.slice av m.length cv) m := ⟨av, cv, rfl, by assumption, by assumption, by assumption⟩
  obtain ⟨ax, cx, ex, cx1, cx2, _⟩ := hx
  rw [ha8] at ex cx1
  subst ex
  have hx' : Sl W1 (.slice ax 8 cx) a := ⟨ax, cx, by rw [ha8], by rw [ha8]; exact cx1, cx2, by assumption⟩
  unfold maxLen at cx2
  obtain ⟨nl, hnl⟩ : ∃ x, x = l.length := ⟨_, rfl⟩
  obtain ⟨ml, hml⟩ : ∃ x, x = m.length := ⟨_, rfl⟩
  rw [← hnl] at hu' ⊢
  rw [← hml] at hv' ⊢
  have NL := Lib.hid hnl
  have ML := Lib.hid hml
  have ga := World.grownBy_alloc W1 (.cells #[.int .i64 d, .slice au nl cu, .slice av ml cv] 28) none
  have L2 := Lib.hid (hb.trans (below_grown ga |>.mono hb.size))
  have U2 := Lib.hid (hu'.grown ga)
  have V2 := Lib.hid (hv'.grown ga)
  have X2 := Lib.hid (hx'.grown ga)
  have K2 : Hid (Blk (W1.alloc (.cells #[.int .i64 d, .slice au nl cu, .slice av ml cv] 28)) W1.heap.size 28 [.int .i64 d, .slice au nl cu, .slice av ml cv]) := Lib.hid (heap_alloc_new _ _)
  have A8 := Lib.hid ha8
  clear hu' hv' hx' hnl hml ga hb ha8 C0
  go_upto_region 4 with fail
  generalize W1.alloc (.cells #[.int .i64 d, .slice au nl cu, .slice av ml cv] 28) = W2 at *
  generalize W1.heap.size = bp at *
  have k0 := K2.out.cell (i := 0) rfl
  have k1 := K2.out.cell (i := 1) rfl
  have k2 := K2.out.cell (i := 2) rfl
  go_wp2_with fail
  refine (specPlanDo d _ _ _ l m a _ U2.out V2.out X2.out (by rw [A8.out]; omega)).mono ?_
  rintro e W3 ⟨rfl, hg⟩
  have L3 := Lib.hid (L2.out.trans (below_grown hg |>.mono L2.out.size))
  have U3 := Lib.hid (U2.out.grown hg)
  have V3 := Lib.hid (V2.out.grown hg)
  have X3 := Lib.hid (X2.out.grown hg)
  have K3 := Lib.hid (K2.out.kept hg (by simp))
  clear hg L2 U2 V2 X2 K2 k0 k1 k2
  obtain ⟨rn, hrn⟩ : ∃ r, doN d l m a = r := ⟨_, rfl⟩
  obtain ⟨rb, hrb⟩ : ∃ r, doP d l m a = r := ⟨_, rfl⟩
  have RN := Lib.hid hrn
  have RB := Lib.hid hrb
  rw [hrn, hrb]
  clear hrn hrb
  have k0 := K3.out.cell (i := 0) rfl
  have k1 := K3.out.cell (i := 1) rfl
  have k2 := K3.out.cell (i := 2) rfl
  go_wp2_with fail
  refine (implPlanDo d _ _ _ l m a _ U3.out V3.out X3.out).mono ?_
  rintro e W4 ⟨rfl, hg⟩
  rw [RN.out, RB.out]
  have L4 := Lib.hid (L3.out.trans (below_grown hg |>.mono L3.out.size))
  have U4 := Lib.hid (U3.out.grown hg)
  have V4 := Lib.hid (V3.out.grown hg)
  have X4 := Lib.hid (X3.out.grown hg)
  have K4 := Lib.hid (K3.out.kept hg (by simp))
  clear hg L3 U3 V3 X3 K3 k0 k1 k2
  have hnn : (rn != rn) = false := by simp
  have hee : (rn == rn) = true := by simp
  cases rb with
  | false =>
    go_wp2_with fail
    go_ret
    exact ⟨rfl, L4.out⟩
  | true =>
    have DP : pForm d l m = true ∧ shOk a = true := by
      have := RB.out
      unfold doP at this
      rwa [Bool.and_eq_true] at this
    have PF := Lib.hid (pForm_out DP.1).2
    have RA := Lib.hid (shOk_row.1 DP.2)
    have N4 : l.length ≤ 4 ∧ m.length = l.length := by
      have := of_decide_eq_true (pForm_out DP.1).1
      exact ⟨this.2.2.1, this.2.2.2⟩
    have n4 : nl ≤ 4 := by rw [NL.out]; exact N4.1
    have ME := Lib.hid N4.2
    have RD : Hid (rn = dsum a l m nl) := Lib.hid (by
      rw [← RN.out]
      unfold doN
      rw [RB.out, NL.out]
      rfl)
    have D2 : Hid (doN d l m (dbl a) = (rn + rn) % 31 ∧ doP d l m (dbl a) = true) := Lib.hid (by
      have e : doP d l m (dbl a) = true := by unfold doP; rw [DP.1, dbl_ok DP.2]; rfl
      refine ⟨?_, e⟩
      unfold doN
      rw [e, RD.out, NL.out]
      exact dsum_dbl a l m _)
    have ON : Fld.ok rn = true := by rw [RD.out]; exact dsum_ok _ _ _ _
    have FS : Hid (Fld.sum rn rn = (rn + rn) % 31) := Lib.hid (Fld.sum_ok ON ON)
    have RR1 := Lib.hid (fun (W : World) (h : W4.grownBy W none) => U4.out.grown h)
    clear RN RB N4 ON
    obtain ⟨wq, hwq⟩ : ∃ W, W = W4 := ⟨_, rfl⟩
    clear wq hwq
    have kk1 := K4.out.cell (i := 1) rfl
    go_wp2_with fail
    clear kk1
    go_loopw [9, 10] (fun o i wr => ∃ k : Nat, k ≤ nl ∧ i = .int .i64 k ∧ o = .int .i64 (dsum a l m k) ∧ W4.grownBy wr none) (fun _ i _ => nl - (intOf i).toNat)
    case atStart => exact ⟨0, by omega, rfl, rfl, World.grownBy.refl _ _⟩
    case round =>
      obtain ⟨k, hk, rfl, rfl, hgr⟩ := hrel
      have GR := Lib.hid hgr
      have KR := Lib.hid (K4.out.kept hgr (by simp))
      clear hgr
      have k1 := KR.out.cell (i := 1) rfl
      have k2 := KR.out.cell (i := 2) rfl
      by_cases hlt' : k < nl
      · have hlt : k < l.length := by rw [← NL.out]; exact hlt'
        have hi : (k : Int) < (nl : Int) := by omega
        have hi2 : (k : Int) < (ml : Int) := by have := ML.out; have := NL.out; have := ME.out; omega
        obtain ⟨b1, cc1, ee1, _, _, hr1⟩ := U4.out.grown GR.out
        injection ee1 with e1 e2 e3
        subst e1 e3
        clear e2
        obtain ⟨b2, cc2, ee2, _, _, hr2⟩ := V4.out.grown GR.out
        injection ee2 with e1 e2 e3
        subst e1 e3
        clear e2
        obtain ⟨b3, cc3, ee3, _, _, hr3⟩ := X4.out.grown GR.out
        injection ee3 with e1 e2 e3
        subst e1 e3
        clear e2
        obtain ⟨g1, o1, rfl, hx⟩ := hr1.at_ (k := k) hlt
        obtain ⟨g2, o2, rfl, hy⟩ := hr2.at_ (k := k) (by rw [ME.out]; exact hlt)
        have PA := pAt_out (PF.out k hlt)
        obtain ⟨xn, hxn⟩ : ∃ j : Nat, l.getD k 0 = j := ⟨(l.getD k 0).toNat, by have := PA.1; omega⟩
        rw [hxn] at hx PA
        have hx8 : xn < 8 := by have := PA.1; omega
        have hxi : (xn : Int) < 8 := by omega
        obtain ⟨g3, o3, rfl, hz⟩ := hr3.at_ (k := xn) (by rw [RA.out.1]; exact hx8)
        have oz := getD_ok RA.out.2 xn
        have oy := PA.2.2.2.1
        have DS : Hid (dsum a l m (k + 1) = (dsum a l m k + m.getD k 0 * a.getD xn 0) % 31) := Lib.hid (by
          show (dsum a l m k + m.getD k 0 * a.getD (l.getD k 0).toNat 0) % 31 = _
          rw [hxn]; rfl)
        have od := dsum_ok a l m k
        generalize m.getD k 0 = y at *
        generalize a.getD xn 0 = z at *
        generalize dsum a l m k = s at *
        have MU : Hid (Fld.mul y z = y * z % 31) := Lib.hid (Fld.mul_ok oy oz)
        have SU : Hid (Fld.sum s (Fld.mul y z) = dsum a l m (k + 1)) := Lib.hid (by
          rw [Fld.sum_ok od (Fld.mul_is _ _), MU.out, DS.out, add_short])
        clear PA hxn oz oy od hlt hlt' hr1 hr2 hr3 RR1
        go_wp2_with fail
        go_quiet (first | (go_at_call 29; exact quietMul y z _ _) | (go_at_call 28; exact quietSum s (Fld.mul y z) _ _))
        go_wp2_with fail
        go_roundw
        case rel => exact ⟨k + 1, by omega, by go_num, by rw [SU.out], grown_draws GR.out _⟩
        case measure => simp [intOf]; omega
      · obtain rfl : k = nl := by omega
        have hi : ¬ (k : Int) < (k : Int) := by omega
        rw [← RD.out]
        have L5 := Lib.hid (L4.out.trans (below_grown GR.out |>.mono L4.out.size))
        have U5 := Lib.hid (U4.out.grown GR.out)
        have V5 := Lib.hid (V4.out.grown GR.out)
        have X5 := Lib.hid (X4.out.grown GR.out)
        obtain ⟨wo, hwo⟩ : ∃ W, W = wr := ⟨_, rfl⟩
        subst hwo
        clear RR1 K4 U4 V4 X4 L4 GR
        have O0 : Hid (Own (wo.alloc (.cells #[] 3)) wo.heap.size (.slice (some ⟨wo.heap.size, 0, none⟩) 0 0) ((dbl a).take 0)) := Lib.hid (Own.made wo wo.heap.size [] (Nat.le_refl _) (by simp))
        have G0 := Lib.hid (grown_alloc (World.grownBy.refl wo none) (.cells #[] 3))
        go_wp2_with fail
        clear k1 k2
        go_loopw [11, 12] (fun o i wr => ∃ t : Nat, t ≤ 8 ∧ i = .int .i64 t ∧ wo.grownBy wr none ∧ Own wr wo.heap.size o ((dbl a).take t)) (fun _ i _ => 8 - (intOf i).toNat)
        case atStart => exact ⟨0, by omega, rfl, G0.out, O0.out⟩
        case round =>
          obtain ⟨t, ht, rfl, hg, ho⟩ := hrel
          have G := Lib.hid hg
          have O := Lib.hid ho
          clear hg ho G0 O0
          by_cases hlt : t < 8
          · have hi : (t : Int) < 8 := by omega
            obtain ⟨b3, cc3, ee3, _, _, hr3⟩ := X5.out.grown G.out
            injection ee3 with e1 e2 e3
            subst e1 e3
            clear e2
            obtain ⟨b, o, rfl, hx⟩ := hr3.at_ (k := t) (by rw [A8.out]; exact hlt)
            obtain ⟨x, hxe⟩ : ∃ x, a.getD t 0 = x := ⟨_, rfl⟩
            rw [hxe] at hx
            have ox : Fld.ok x = true := by rw [← hxe]; exact getD_ok RA.out.2 t
            have E := Lib.hid (take_snoc' (a := dbl a) (k := t) (x := (x + x) % 31) (by rw [dbl_len, A8.out]; exact hlt) (by rw [dbl_get, hxe]))
            have TL : Hid (((dbl a).take t).length = t) := Lib.hid (by rw [List.length_take, dbl_len, A8.out]; omega)
            have SX : Hid (Fld.sum x x = (x + x) % 31) := Lib.hid (Fld.sum_ok ox ox)
            have NB : Hid (some b ≠ u11.ownBlock) := Lib.hid (far_own O.out (by
              obtain ⟨b', c', e', _, _, hr⟩ := X5.out
              injection e' with e1 _ _
              subst e1
              obtain ⟨b2, o2, e, h2⟩ := hr.at_ (k := t) (by rw [A8.out]; exact hlt)
              injection e with e; injection e with e1; subst e1; exact lt_of_cell h2))
            have lb : b < wr.heap.size := lt_of_cell hx
            have hbb : wo.heap.size ≤ wr.heap.size := G.out.size
            clear hxe ox hr3
            go_wp2_with fail
            go_region_held3 (fun w' => w'.cell? ⟨b, o + t, none⟩ = some (.int .i64 x))
              (first
                | go_keep
                | (rw [hgrow.cell_far _ (by simp; omega) NB.out]; assumption))
              (first
                | (go_at_call 28; refine (implSum x x _).mono ?_; rintro e w7 ⟨rfl, rfl⟩
                   rw [SX.out])
                | (refine step_append_lies _ (by rfl) _ _ _ (by rfl) wo.heap.size 3 i0 (.int .i64 0) 1 8 Try.underlying26 I1.out I2.out I3.out I4.out rfl (by omega) u11 ((dbl a).take t).length (vals ((dbl a).take t)) (by rfl) (World.ownsRow.drew (World.ownsRow.alloc O.out _))
                     ⟨wr.heap.size, 0, none⟩ 1 1 [.int .i64 ((x + x) % 31)] (by rfl) (by rfl) (one_cell (g := 0)) (vals_one [(x + x) % 31])
                     (by omega) (by rw [TL.out]; unfold maxLen; omega) (by rw [TL.out]; omega) (by simp; omega) (wr.heap.size + 1) (by simp) ?_; intro gg cc w1 hown1 hgrow hat hlt1))
            rw [List.length_take] at hown1
            have O1 := Lib.hid (own_snoc hown1 (by simp) E.out.symm)
            have G1 : Hid (wo.grownBy w1 none) := Lib.hid (grown_own (grown_drew (grown_alloc G.out _)) hgrow (fun j hj => (World.ownsRow.lt O.out j hj).1))
            clear hown1 hgrow hat hlt1 hx
            go_wp2_with fail
            go_roundw
            case rel => exact ⟨t + 1, by omega, by go_num, G1.out, O1.out⟩
            case measure => simp [intOf]; omega
          · obtain rfl : t = 8 := by omega
            have T8 : Hid (Sl wr u11 (dbl a)) := Lib.hid (by
              have := O.out.sl
              rwa [List.take_of_length_le (by rw [dbl_len, A8.out]; omega)] at this)
            have L6 := Lib.hid (L5.out.trans (below_grown G.out |>.mono L5.out.size))
            have U6 := Lib.hid (U5.out.grown G.out)
            have V6 := Lib.hid (V5.out.grown G.out)
            have K6 := Lib.hid (KR.out.kept G.out (by simp))
            have k0 := K6.out.cell (i := 0) rfl
            have k1 := K6.out.cell (i := 1) rfl
            have k2 := K6.out.cell (i := 2) rfl
            go_wp2_with fail
            refine (implPlanDo d _ _ _ l m (dbl a) _ U6.out V6.out T8.out).mono ?_
            rintro e W7 ⟨rfl, hg⟩
            rw [D2.out.1, D2.out.2]
            have L7 := Lib.hid (L6.out.trans (below_grown hg |>.mono L6.out.size))
            clear hg k0 k1 k2
            go_wp2_with fail
            refine (implSum rn rn _).mono ?_
            rintro e W8 ⟨rfl, rfl⟩
            rw [FS.out]
            have hq : (((rn + rn) % 31) == ((rn + rn) % 31)) = true := by simp
            go_wp2_with fail
            go_ret
            exact ⟨rfl, L7.out⟩

set_option maxRecDepth 100000 in
theorem lifted (os : Os) (started : os.Started) (H : Type) (enc : TypeId × Value → H) :
    ReturnsInHanded {} Try.checked os 7 .any (Rows.fnPlanSumSpec.pre6 enc Try.prog Try.f7 Rows.fnPlanSumRow.domain false) (Rows.fnPlanSumSpec.post enc Try.prog Try.f7 false true false false) := by
  refine returnsInHanded_of_change (C := Try.checked) own started (by kernel_rfl) Try.func7
    (ChangeSpec.witness6 (enc := enc) (C := Try.checked) false ⟨#[], #[.slice none 0 0], []⟩ 8 (by kernel_rfl) (by kernel_rfl) (by kernel_rfl) (by kernel_rfl)) ?_
  intro W base args ds gs before hval0 hW hcnd _
  have hval : ∀ (j : Nat) t v, Try.f7.params[j]? = some t → args[j]? = some v → Value.okWide Try.prog W .any base t v := hval0
  have hW' := hW
  obtain ⟨p, q, hA0, hV, rfl, hfz, hnd⟩ := hW
  have hA : DataW.TrodAll enc Try.prog W 0 (fun _ => true) true Try.f7.params.toList args.toList ds p := hA0
  rw [Try.params7] at hA hval
  obtain ⟨v0, vs0, d0, ds0, p0, q0, hargs, rfl, rfl, h0, r0⟩ := trodAll_cons hA
  obtain ⟨rfl, rfl, rfl⟩ := trodAll_nil r0
  obtain rfl : args = #[v0] := by cases args; simp_all
  obtain ⟨rfl, rfl⟩ := trodVars_none hV
  obtain ⟨a0, len0, cap0, rfl⟩ := okWide_slice Try.underlying22 (hval 0 22 v0 rfl rfl)
  have k0 := h0
  have lt0 : ∀ x ∈ p0, x.block < W.heap.size := by obtain ⟨m, hm⟩ := k0; exact DataW.trod_lt m _ _ _ hm
  obtain ⟨z0, w0⟩ : ∃ zs, IsRow .u8 W a0 len0 cap0 zs := by
    obtain ⟨fuel, hf⟩ := h0
    rcases open_ints Try.underlying22 Try.underlying5 (by kernel_rfl) hf with ⟨hcs, _⟩ | ⟨x, l, c, zs, hcs, _, hl, hm, hz, _, hcell, hwz⟩
    · simp [Value.cells] at hcs
      obtain ⟨rfl, rfl, rfl⟩ := hcs
      exact ⟨[], .inl ⟨rfl, rfl, rfl, rfl⟩⟩
    · simp [Value.cells] at hcs
      obtain ⟨rfl, rfl, rfl⟩ := hcs
      exact ⟨zs, .inr ⟨_, rfl, hl, hm, by simpa using hz, hcell, hwz⟩⟩
  clear hA0 hval0
  refine (walk a0 len0 cap0 z0 W w0).mono fun e W' ⟨he, bel⟩ => ?_
  subst he
  exact ⟨_, rfl, _, _, _, [], _, [], hW', trodAll_mk1 (shut_bool Try.underlying4 _), (trodAll_cons_mk (Below.trod laidOut (by kernel_rfl) (of_decide_eq_true (by kernel_rfl)) k0 bel lt0) trodAll_mk0), rfl, bel.frame _, fun h => by cases h⟩

theorem over : Rows.fnPlanSumRow.holds Try.pinned (OpenSpec.ofChange Rows.fnPlanSumSpec) :=
  OpenClaim.holds_of_wide 7 Try.f7 rfl rfl rfl rfl rfl rfl rfl ⟨rfl, rfl, rfl, rfl, rfl⟩ rfl rfl rfl rfl rfl (by kernel_rfl) Try.func7 (by kernel_rfl)
    (of_decide_eq_true (by kernel_rfl)) (by unfold Func.isWrapper; first | (rw [if_pos (by decide +kernel)]; kernel_rfl) | (rw [if_neg (by decide +kernel)]; exact ⟨rfl, rfl⟩))
    (fun os started H enc _ => lifted os started H enc)

theorem proved : Rows.FnPlanSumSaid := over
#print axioms proved
end Go.Proofs.Ytbpkfcaokbidnaa.fnPlanSum
