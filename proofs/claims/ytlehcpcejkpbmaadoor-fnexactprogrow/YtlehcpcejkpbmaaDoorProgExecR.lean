/-
  The contract of the program's execute, on rows: what operations make of the rows of a code.
  Conditions: none.
-/
import Derived.Test.YtlehcpcejkpbmaaDoorProgExec
import Derived.Test.YtlehcpcejkpbmaaDoorRowMath
import Derived.Deep.RegionHeld3
namespace Go.Proofs.YtlehcpcejkpbmaaDoor
open Go.RowKit
set_option linter.unusedVariables false

/-- where the run on rows stands. -/
structure RunR (w : World) (ga gv gr k : Nat) (L : List Stp) (n : Nat) (wr : World) : Prop where
  grown : w.grownBy wr none
  arg : Arr wr ga 84 (grid k)
  out : Arr wr gv 83 [0, 0, 0, 0]
  res : Arr wr gr 129 (resR k L n)
theorem Arr.putQ {w : World} {g n : Nat} {t : TypeId} {l l' : List Int} (h : Arr w g t l) (a b c d : Int) (e : ((((l.set (n * 4) a).set (n * 4 + 1) b).set (n * 4 + 2) c).set (n * 4 + 3) d) = l') :
    Arr ((((w.setCell ⟨g, n * 4, none⟩ (.int .i64 a)).setCell ⟨g, n * 4 + 1, none⟩ (.int .i64 b)).setCell ⟨g, n * 4 + 2, none⟩ (.int .i64 c)).setCell ⟨g, n * 4 + 3, none⟩ (.int .i64 d)) g t l' := by
  rw [← e]; exact (((h.put _ a).put _ b).put _ c).put _ d
theorem Arr.farQ {w : World} {g r n : Nat} {t : TypeId} {l : List Int} (h : Arr w g t l) (hne : g ≠ r) (a b c d : Int) :
    Arr ((((w.setCell ⟨r, n * 4, none⟩ (.int .i64 a)).setCell ⟨r, n * 4 + 1, none⟩ (.int .i64 b)).setCell ⟨r, n * 4 + 2, none⟩ (.int .i64 c)).setCell ⟨r, n * 4 + 3, none⟩ (.int .i64 d)) g t l :=
  (((h.far (p := ⟨r, n * 4, none⟩) hne _).far (p := ⟨r, n * 4 + 1, none⟩) hne _).far (p := ⟨r, n * 4 + 2, none⟩) hne _).far (p := ⟨r, n * 4 + 3, none⟩) hne _
theorem blk_farQ {w : World} {g r n : Nat} {t : TypeId} {cs : List Value} (h : Blk w g t cs) (hne : g ≠ r) (a b c d : Int) :
    Blk ((((w.setCell ⟨r, n * 4, none⟩ (.int .i64 a)).setCell ⟨r, n * 4 + 1, none⟩ (.int .i64 b)).setCell ⟨r, n * 4 + 2, none⟩ (.int .i64 c)).setCell ⟨r, n * 4 + 3, none⟩ (.int .i64 d)) g t cs :=
  (Below.heap_setCell _ _ _ _ hne).trans ((Below.heap_setCell _ _ _ _ hne).trans ((Below.heap_setCell _ _ _ _ hne).trans ((Below.heap_setCell _ _ _ _ hne).trans h)))
theorem grown_setQ {a w : World} {g n : Nat} (h : a.grownBy w none) (hg : a.heap.size ≤ g) (x y z t : Int) :
    a.grownBy ((((w.setCell ⟨g, n * 4, none⟩ (.int .i64 x)).setCell ⟨g, n * 4 + 1, none⟩ (.int .i64 y)).setCell ⟨g, n * 4 + 2, none⟩ (.int .i64 z)).setCell ⟨g, n * 4 + 3, none⟩ (.int .i64 t)) none :=
  grown_set (grown_set (grown_set (grown_set h (p := ⟨g, n * 4, none⟩) hg _) (p := ⟨g, n * 4 + 1, none⟩) hg _) (p := ⟨g, n * 4 + 2, none⟩) hg _) (p := ⟨g, n * 4 + 3, none⟩) hg _
/-- a row's four cells. -/
theorem Arr.rowQ {w : World} {g p : Nat} {t : TypeId} {l : List Int} {a b c d : Int} (h : Arr w g t l) (hp : p * 4 + 3 < l.length) (e : ∀ i, i < 4 → l.getD (p * 4 + i) 0 = [a, b, c, d].getD i 0) :
    w.cell? ⟨g, p * 4, none⟩ = some (.int .i64 a) ∧ w.cell? ⟨g, p * 4 + 1, none⟩ = some (.int .i64 b) ∧ w.cell? ⟨g, p * 4 + 2, none⟩ = some (.int .i64 c) ∧ w.cell? ⟨g, p * 4 + 3, none⟩ = some (.int .i64 d) := by
  have c0 := h.cell (i := p * 4) (by omega)
  have c1 := h.cell (i := p * 4 + 1) (by omega)
  have c2 := h.cell (i := p * 4 + 2) (by omega)
  have c3 := h.cell (i := p * 4 + 3) (by omega)
  have e0 := e 0 (by omega)
  rw [Nat.add_zero] at e0
  rw [e0] at c0
  rw [e 1 (by omega)] at c1
  rw [e 2 (by omega)] at c2
  rw [e 3 (by omega)] at c3
  exact ⟨c0, c1, c2, c3⟩
theorem four_any (l : List Int) (p : Nat) : ∃ a b c d, ∀ i, i < 4 → l.getD (p * 4 + i) 0 = [a, b, c, d].getD i 0 := ⟨l.getD (p * 4) 0, l.getD (p * 4 + 1) 0, l.getD (p * 4 + 2) 0, l.getD (p * 4 + 3) 0, fun i hi => by
  match i, hi with
  | 0, _ => rfl
  | 1, _ => rfl
  | 2, _ => rfl
  | 3, _ => rfl⟩

theorem scaleQ (a b c d y : Int) (w : World) (h : Vec.ok [a, b, c, d] = true) (hy : Fld.ok y = true) : Calls Tryd.prog 84 #[.agg #[.int .i64 a, .int .i64 b, .int .i64 c, .int .i64 d], .int .i64 y] w fun e w' => e = .returned (.agg #[.int .i64 (a * y % 31), .int .i64 (b * y % 31), .int .i64 (c * y % 31), .int .i64 (d * y % 31)]) ∧ w.grownBy w' none :=
  rowScale [a, b, c, d] y w h hy
theorem sumQ (a b c d x y z t : Int) (w : World) (h : Vec.ok [a, b, c, d] = true) (hy : Vec.ok [x, y, z, t] = true) : Calls Tryd.prog 83 #[.agg #[.int .i64 a, .int .i64 b, .int .i64 c, .int .i64 d], .agg #[.int .i64 x, .int .i64 y, .int .i64 z, .int .i64 t]] w fun e w' => e = .returned (.agg #[.int .i64 ((a + x) % 31), .int .i64 ((b + y) % 31), .int .i64 ((c + z) % 31), .int .i64 ((d + t) % 31)]) ∧ w.grownBy w' none :=
  rowSum [a, b, c, d] [x, y, z, t] w h hy

set_option maxHeartbeats 16000000 in
set_option maxRecDepth 20000 in
theorem execRow {k : Nat} (hk : k = 1 ∨ k = 2) (v : Value) (L : List Stp) (base : Nat) (w : World) (hP : Prg w base v L) (hL : Oks L) (h1 : 1 ≤ L.length) (h16 : L.length ≤ 16) :
    Calls Tryd.prog 61 #[v, .agg (vals (grid k)).toArray] w fun e w' => e = .returned (.agg (vals (rowV k L)).toArray) ∧ w.grownBy w' none := by
  have A0 : Hid (Arr (((w.alloc (.cells (vals (grid k)).toArray 84)).alloc (.cells #[.int .i64 0, .int .i64 0, .int .i64 0, .int .i64 0] 83)).alloc (.cells (vals (List.replicate 64 0)).toArray 129)) w.heap.size 84 (grid k)) := Lib.hid (((Arr.new w _ _).alloc _).alloc _)
  have V0 : Hid (Arr (((w.alloc (.cells (vals (grid k)).toArray 84)).alloc (.cells #[.int .i64 0, .int .i64 0, .int .i64 0, .int .i64 0] 83)).alloc (.cells (vals (List.replicate 64 0)).toArray 129)) (w.heap.size + 1) 83 [0, 0, 0, 0]) := Lib.hid (by
    have := (Arr.new (w.alloc (.cells (vals (grid k)).toArray 84)) 83 [0, 0, 0, 0]).alloc (.cells (vals (List.replicate 64 0)).toArray 129)
    rw [World.size_alloc] at this
    exact this)
  have S0 : Hid (Arr (((w.alloc (.cells (vals (grid k)).toArray 84)).alloc (.cells #[.int .i64 0, .int .i64 0, .int .i64 0, .int .i64 0] 83)).alloc (.cells (vals (List.replicate 64 0)).toArray 129)) (w.heap.size + 1 + 1) 129 (resR k L 0)) := Lib.hid (by
    have := Arr.new ((w.alloc (.cells (vals (grid k)).toArray 84)).alloc (.cells #[.int .i64 0, .int .i64 0, .int .i64 0, .int .i64 0] 83)) 129 (List.replicate 64 0)
    rw [World.size_alloc, World.size_alloc] at this
    rw [resR_zero]
    exact this)
  have G0 : Hid (w.grownBy (((w.alloc (.cells (vals (grid k)).toArray 84)).alloc (.cells #[.int .i64 0, .int .i64 0, .int .i64 0, .int .i64 0] 83)).alloc (.cells (vals (List.replicate 64 0)).toArray 129)) none) := Lib.hid (grown_alloc (grown_alloc (grown_alloc (World.grownBy.refl _ _) _) _) _)
  have PH := Lib.hid hP
  have LO := Lib.hid hL
  have GL := grid_len k hk
  obtain ⟨pa, pc, pe, p1, p2⟩ := hP.form
  subst pe
  unfold maxLen at p2
  obtain ⟨len, hlen⟩ : ∃ n, n = L.length := ⟨_, rfl⟩
  rw [← hlen] at h1 h16 p1 ⊢
  have LN := Lib.hid hlen
  clear hP hL hlen
  go_enter Tryd.func61, Tryd.ntmps61
  go_upto_region 2 with fail
  change Code.wp _ _ _ _ (((w.alloc (.cells (vals (grid k)).toArray 84)).alloc (.cells #[.int .i64 0, .int .i64 0, .int .i64 0, .int .i64 0] 83)).alloc (.cells (vals (List.replicate 64 0)).toArray 129))
  generalize (((w.alloc (.cells (vals (grid k)).toArray 84)).alloc (.cells #[.int .i64 0, .int .i64 0, .int .i64 0, .int .i64 0] 83)).alloc (.cells (vals (List.replicate 64 0)).toArray 129)) = W0 at *
  obtain ⟨ga, hga⟩ : ∃ g, g = w.heap.size := ⟨_, rfl⟩
  obtain ⟨gv, hgv⟩ : ∃ g, g = w.heap.size + 1 := ⟨_, rfl⟩
  obtain ⟨gr, hgr⟩ : ∃ g, g = w.heap.size + 1 + 1 := ⟨_, rfl⟩
  rw [← hga] at A0
  rw [← hgv] at V0
  rw [← hgr] at S0
  have BG : ga ≠ gr ∧ gv ≠ gr ∧ w.heap.size ≤ gr ∧ w.heap.size ≤ gv := by omega
  rw [← hgr, ← hgv, ← hga]
  clear hga hgv hgr
  have RU0 : Hid (RunR w ga gv gr k L 0 W0) := Lib.hid ⟨G0.out, A0.out, V0.out, S0.out⟩
  clear G0 A0 V0 S0
  go_wp2_with fail
  go_loopw [13] (fun i wr => ∃ n : Nat, n ≤ len ∧ i = .int .i64 n ∧ RunR w ga gv gr k L n wr) (fun i _ => len - (intOf i).toNat)
  case atStart => exact ⟨0, by omega, rfl, RU0.out⟩
  case round =>
    obtain ⟨n, hn, rfl, hru⟩ := hrel
    have RU := Lib.hid hru
    clear hru RU0
    by_cases hlt : n < len
    · have hlt' : (n : Int) < (len : Int) := by omega
      have hn16 : (n : Int) < 16 := by omega
      have hnL : n < L.length := by rw [← LN.out]; exact hlt
      obtain ⟨g, c, e, _, cx⟩ := (PH.out.still RU.out.grown).at_ hnL
      injection e with e1 e2 e3
      subst e1 e3
      clear e2
      have OK := LO.out n hnL
      have LEN := resR_len k L n
      obtain ⟨o0, o1, o2, o3, ho4⟩ := four_any (resR k L n) n
      have OLD := Lib.hid ho4
      clear ho4
      have HL := Lib.hid hnL
      obtain ⟨s, hs⟩ : ∃ s, L.getD n szero = s := ⟨_, rfl⟩
      rw [hs] at cx OK
      have HS := Lib.hid hs
      clear hs
      obtain ⟨o, x, y⟩ := s
      rcases OK with ⟨ho, hx, hy⟩ | ⟨ho, hx, hy⟩ | ⟨ho, hx, hy⟩
      · have ho' : o = 1 := ho
        have hy' : y = 0 := hy
        subst ho' hy'
        obtain ⟨j, hj, hje⟩ := below_m (n := 8) hx.1 hx.2
        have hje' : x = j := hje
        subst hje'
        clear ho hy hx hje
        have cx' : wr.cell? ⟨g, n, none⟩ = some (.iface 121 (.agg #[.int .i64 j, .int .i64 0])) := cx
        clear cx
        have RW : Hid (rowR k L n = Sp.crow k j) := Lib.hid (rowR_load hk HL.out HS.out hj)
        obtain ⟨a0, a1, a2, a3, ec, _⟩ := crow_four hk hj
        have AG : Hid (∀ i, i < 4 → (grid k).getD (j * 4 + i) 0 = [a0, a1, a2, a3].getD i 0) := Lib.hid (fun i hi => by rw [grid_get hk hj hi, ec])
        have SET : Hid (((((resR k L n).set (n * 4) a0).set (n * 4 + 1) a1).set (n * 4 + 2) a2).set (n * 4 + 3) a3 = resR k L (n + 1)) := Lib.hid (resR_set k L (by omega) (by rw [RW.out, ec]))
        have AL := Lib.hid (RU.out.arg.alloc (.cells #[.int .i64 j, .int .i64 0] 121))
        have SL := Lib.hid (RU.out.res.alloc (.cells #[.int .i64 j, .int .i64 0] 121))
        have VL := Lib.hid (RU.out.out.alloc (.cells #[.int .i64 j, .int .i64 0] 121))
        have GLo : Hid (w.grownBy (wr.alloc (.cells #[.int .i64 j, .int .i64 0] 121)) none) := Lib.hid (grown_alloc RU.out.grown _)
        have KL : Hid (Blk (wr.alloc (.cells #[.int .i64 j, .int .i64 0] 121)) wr.heap.size 121 [.int .i64 j, .int .i64 0]) := Lib.hid (heap_alloc_new _ _)
        have hj' : (j : Int) < 8 := by omega
        have tL := taLL (j) (0) wr
        have tM := taLM (j) (0) wr
        have tA := taLA (j) (0) wr
        clear ec RW
        go_upto_region 8 with fail
        clear tL tM tA
        generalize wr.alloc (.cells #[.int .i64 j, .int .i64 0] 121) = w1 at *
        generalize wr.heap.size = bp at *
        clear cx'
        have k0 := KL.out.cell (i := 0) rfl
        obtain ⟨c0, c1, c2, c3⟩ := AL.out.rowQ (by omega) AG.out
        obtain ⟨d0, d1, d2, d3⟩ := SL.out.rowQ (by omega) OLD.out
        have f0 := SL.out.frozen (n * 4)
        have f1 := SL.out.frozen (n * 4 + 1)
        have f2 := SL.out.frozen (n * 4 + 2)
        have f3 := SL.out.frozen (n * 4 + 3)
        have RN : Hid (RunR w ga gv gr k L (n + 1) ((((w1.setCell ⟨gr, n * 4, none⟩ (.int .i64 a0)).setCell ⟨gr, n * 4 + 1, none⟩ (.int .i64 a1)).setCell ⟨gr, n * 4 + 2, none⟩ (.int .i64 a2)).setCell ⟨gr, n * 4 + 3, none⟩ (.int .i64 a3))) := Lib.hid
          ⟨grown_setQ GLo.out BG.2.2.1 _ _ _ _, AL.out.farQ BG.1 _ _ _ _, VL.out.farQ BG.2.1 _ _ _ _, SL.out.putQ _ _ _ _ SET.out⟩
        clear AL SL VL GLo KL RU SET AG OLD LEN
        go_wp2_with fail
        go_roundw
        case rel => exact ⟨n + 1, by omega, by go_num, RN.out⟩
        case measure => simp [intOf]; omega
      · have ho' : o = 2 := ho
        subst ho'
        obtain ⟨j, hj, hje⟩ := below_m (n := n) hx.1 hx.2
        have hje' : x = j := hje
        subst hje'
        have OY : Hid (Fld.ok y = true) := Lib.hid hy
        clear ho hy hx hje
        have cx' : wr.cell? ⟨g, n, none⟩ = some (.iface 123 (.agg #[.int .i64 j, .int .i64 y])) := cx
        clear cx
        obtain ⟨r0, r1, r2, r3, hr⟩ := rowR_four k L j
        have OR : Hid (Vec.ok [r0, r1, r2, r3] = true) := Lib.hid (by rw [← hr]; exact rowR_ok hk L j)
        have AG : Hid (∀ i, i < 4 → (resR k L n).getD (j * 4 + i) 0 = [r0, r1, r2, r3].getD i 0) := Lib.hid (fun i hi => by rw [resR_get k L hj (by omega) hi, hr])
        have RW := Lib.hid (rowR_mul HL.out HS.out hj hr)
        have SET := Lib.hid (resR_set k L (by omega) RW.out)
        have AL := Lib.hid (RU.out.arg.alloc (.cells #[.int .i64 j, .int .i64 y] 123))
        have SL := Lib.hid (RU.out.res.alloc (.cells #[.int .i64 j, .int .i64 y] 123))
        have VL := Lib.hid (RU.out.out.alloc (.cells #[.int .i64 j, .int .i64 y] 123))
        have hbp : gr < wr.heap.size := RU.out.res.lt
        have GLo : Hid (w.grownBy (wr.alloc (.cells #[.int .i64 j, .int .i64 y] 123)) none) := Lib.hid (grown_alloc RU.out.grown _)
        have KL : Hid (Blk (wr.alloc (.cells #[.int .i64 j, .int .i64 y] 123)) wr.heap.size 123 [.int .i64 j, .int .i64 y]) := Lib.hid (heap_alloc_new _ _)
        have hj' : (j : Int) < 16 := by omega
        have tL := taML (j) (y) wr
        have tM := taMM (j) (y) wr
        have tA := taMA (j) (y) wr
        clear hr RW
        go_upto_region 11 with fail
        clear tL tM tA
        generalize wr.alloc (.cells #[.int .i64 j, .int .i64 y] 123) = w1 at *
        generalize wr.heap.size = bp at *
        clear cx'
        have x1 : w1.drew.cell? ⟨bp, 0, none⟩ = some (.int .i64 j) := KL.out.cell (i := 0) rfl
        have x2 : w1.drew.cell? ⟨bp, 1, none⟩ = some (.int .i64 y) := KL.out.cell (i := 1) rfl
        obtain ⟨x3, x4, x5, x6⟩ := SL.out.drew.rowQ (by omega) AG.out
        go_region_held3 (fun w' => w'.cell? ⟨bp, 0, none⟩ = some (.int .i64 j) ∧ w'.cell? ⟨bp, 1, none⟩ = some (.int .i64 y) ∧ w'.cell? ⟨gr, j * 4, none⟩ = some (.int .i64 r0) ∧ w'.cell? ⟨gr, j * 4 + 1, none⟩ = some (.int .i64 r1) ∧ w'.cell? ⟨gr, j * 4 + 2, none⟩ = some (.int .i64 r2) ∧ w'.cell? ⟨gr, j * 4 + 3, none⟩ = some (.int .i64 r3))
          (first
            | with_reducible exact ⟨x1, x2, x3, x4, x5, x6⟩
            | with_reducible exact H2.out
            | with_reducible exact Z2.out)
          (first
            | (go_at_call 84; refine (scaleQ r0 r1 r2 r3 y _ OR.out OY.out).mono ?_; rintro e w2 ⟨rfl, hg⟩
               have D1 := Lib.hid hg
               have SL2 := Lib.hid (SL.out.drew.still hg)
               have KL2 : Hid (Blk w2 bp 123 [.int .i64 j, .int .i64 y]) := Lib.hid (Blk.kept (show Blk w1.drew bp 123 [.int .i64 j, .int .i64 y] from KL.out) hg (by simp))
               have H2 : Hid (w2.cell? ⟨bp, 0, none⟩ = some (.int .i64 j) ∧ w2.cell? ⟨bp, 1, none⟩ = some (.int .i64 y) ∧ w2.cell? ⟨gr, j * 4, none⟩ = some (.int .i64 r0) ∧ w2.cell? ⟨gr, j * 4 + 1, none⟩ = some (.int .i64 r1) ∧ w2.cell? ⟨gr, j * 4 + 2, none⟩ = some (.int .i64 r2) ∧ w2.cell? ⟨gr, j * 4 + 3, none⟩ = some (.int .i64 r3)) := Lib.hid (by
                 obtain ⟨q3, q4, q5, q6⟩ := SL2.out.rowQ (by omega) AG.out
                 exact ⟨KL2.out.cell (i := 0) rfl, KL2.out.cell (i := 1) rfl, q3, q4, q5, q6⟩)
               obtain ⟨d0, d1, d2, d3⟩ := SL2.out.rowQ (by omega) OLD.out
               have f0 := SL2.out.frozen (n * 4)
               have f1 := SL2.out.frozen (n * 4 + 1)
               have f2 := SL2.out.frozen (n * 4 + 2)
               have f3 := SL2.out.frozen (n * 4 + 3)
               have SP2 := Lib.hid (SL2.out.putQ _ _ _ _ SET.out)
               have Z2 : Hid (((((w2.setCell ⟨gr, n * 4, none⟩ (.int .i64 (r0 * y % 31))).setCell ⟨gr, n * 4 + 1, none⟩ (.int .i64 (r1 * y % 31))).setCell ⟨gr, n * 4 + 2, none⟩ (.int .i64 (r2 * y % 31))).setCell ⟨gr, n * 4 + 3, none⟩ (.int .i64 (r3 * y % 31))).cell? ⟨bp, 0, none⟩ = some (.int .i64 j) ∧ ((((w2.setCell ⟨gr, n * 4, none⟩ (.int .i64 (r0 * y % 31))).setCell ⟨gr, n * 4 + 1, none⟩ (.int .i64 (r1 * y % 31))).setCell ⟨gr, n * 4 + 2, none⟩ (.int .i64 (r2 * y % 31))).setCell ⟨gr, n * 4 + 3, none⟩ (.int .i64 (r3 * y % 31))).cell? ⟨bp, 1, none⟩ = some (.int .i64 y) ∧ ((((w2.setCell ⟨gr, n * 4, none⟩ (.int .i64 (r0 * y % 31))).setCell ⟨gr, n * 4 + 1, none⟩ (.int .i64 (r1 * y % 31))).setCell ⟨gr, n * 4 + 2, none⟩ (.int .i64 (r2 * y % 31))).setCell ⟨gr, n * 4 + 3, none⟩ (.int .i64 (r3 * y % 31))).cell? ⟨gr, j * 4, none⟩ = some (.int .i64 r0) ∧ ((((w2.setCell ⟨gr, n * 4, none⟩ (.int .i64 (r0 * y % 31))).setCell ⟨gr, n * 4 + 1, none⟩ (.int .i64 (r1 * y % 31))).setCell ⟨gr, n * 4 + 2, none⟩ (.int .i64 (r2 * y % 31))).setCell ⟨gr, n * 4 + 3, none⟩ (.int .i64 (r3 * y % 31))).cell? ⟨gr, j * 4 + 1, none⟩ = some (.int .i64 r1) ∧ ((((w2.setCell ⟨gr, n * 4, none⟩ (.int .i64 (r0 * y % 31))).setCell ⟨gr, n * 4 + 1, none⟩ (.int .i64 (r1 * y % 31))).setCell ⟨gr, n * 4 + 2, none⟩ (.int .i64 (r2 * y % 31))).setCell ⟨gr, n * 4 + 3, none⟩ (.int .i64 (r3 * y % 31))).cell? ⟨gr, j * 4 + 2, none⟩ = some (.int .i64 r2) ∧ ((((w2.setCell ⟨gr, n * 4, none⟩ (.int .i64 (r0 * y % 31))).setCell ⟨gr, n * 4 + 1, none⟩ (.int .i64 (r1 * y % 31))).setCell ⟨gr, n * 4 + 2, none⟩ (.int .i64 (r2 * y % 31))).setCell ⟨gr, n * 4 + 3, none⟩ (.int .i64 (r3 * y % 31))).cell? ⟨gr, j * 4 + 3, none⟩ = some (.int .i64 r3)) := Lib.hid (by
                 have KP := blk_farQ KL2.out (show bp ≠ gr by omega) (n := n) (r0 * y % 31) (r1 * y % 31) (r2 * y % 31) (r3 * y % 31)
                 have AG2 : ∀ i, i < 4 → (resR k L (n + 1)).getD (j * 4 + i) 0 = [r0, r1, r2, r3].getD i 0 := fun i hi => by rw [← SET.out, set_four hj hi]; exact AG.out i hi
                 obtain ⟨q3, q4, q5, q6⟩ := SP2.out.rowQ (by rw [resR_len]; omega) AG2
                 exact ⟨KP.cell (i := 0) rfl, KP.cell (i := 1) rfl, q3, q4, q5, q6⟩)
               clear hg))
        have RN : Hid (RunR w ga gv gr k L (n + 1) ((((w2.setCell ⟨gr, n * 4, none⟩ (.int .i64 (r0 * y % 31))).setCell ⟨gr, n * 4 + 1, none⟩ (.int .i64 (r1 * y % 31))).setCell ⟨gr, n * 4 + 2, none⟩ (.int .i64 (r2 * y % 31))).setCell ⟨gr, n * 4 + 3, none⟩ (.int .i64 (r3 * y % 31)))) := Lib.hid
          ⟨grown_setQ (grown_trans (grown_drew GLo.out) D1.out) BG.2.2.1 _ _ _ _, (AL.out.drew.still D1.out).farQ BG.1 _ _ _ _, (VL.out.drew.still D1.out).farQ BG.2.1 _ _ _ _, SP2.out⟩
        clear AL SL VL GLo KL RU SET AG OLD LEN SL2 KL2 H2 Z2 SP2 D1 x1 x2 x3 x4 x5 x6 d0 d1 d2 d3 f0 f1 f2 f3
        go_wp2_with fail
        go_roundw
        case rel => exact ⟨n + 1, by omega, by go_num, RN.out⟩
        case measure => simp [intOf]; omega
      · have ho' : o = 3 := ho
        subst ho'
        obtain ⟨j, hj, hje⟩ := below_m (n := n) hx.1 hx.2
        have hje' : x = j := hje
        subst hje'
        obtain ⟨i, hi, hie⟩ := below_m (n := n) hy.1 hy.2
        have hie' : y = i := hie
        subst hie'
        clear ho hy hx hje hie
        have cx' : wr.cell? ⟨g, n, none⟩ = some (.iface 125 (.agg #[.int .i64 j, .int .i64 i])) := cx
        clear cx
        obtain ⟨r0, r1, r2, r3, hr⟩ := rowR_four k L j
        have OR : Hid (Vec.ok [r0, r1, r2, r3] = true) := Lib.hid (by rw [← hr]; exact rowR_ok hk L j)
        have AG : Hid (∀ i, i < 4 → (resR k L n).getD (j * 4 + i) 0 = [r0, r1, r2, r3].getD i 0) := Lib.hid (fun i hi => by rw [resR_get k L hj (by omega) hi, hr])
        obtain ⟨s0, s1, s2, s3, hs'⟩ := rowR_four k L i
        have OS : Hid (Vec.ok [s0, s1, s2, s3] = true) := Lib.hid (by rw [← hs']; exact rowR_ok hk L i)
        have AI : Hid (∀ q, q < 4 → (resR k L n).getD (i * 4 + q) 0 = [s0, s1, s2, s3].getD q 0) := Lib.hid (fun q hq => by rw [resR_get k L hi (by omega) hq, hs'])
        have RW := Lib.hid (rowR_add HL.out HS.out hj hi hr hs')
        have SET := Lib.hid (resR_set k L (by omega) RW.out)
        have AL := Lib.hid (RU.out.arg.alloc (.cells #[.int .i64 j, .int .i64 i] 125))
        have SL := Lib.hid (RU.out.res.alloc (.cells #[.int .i64 j, .int .i64 i] 125))
        have VL := Lib.hid (RU.out.out.alloc (.cells #[.int .i64 j, .int .i64 i] 125))
        have hbp : gr < wr.heap.size := RU.out.res.lt
        have GLo : Hid (w.grownBy (wr.alloc (.cells #[.int .i64 j, .int .i64 i] 125)) none) := Lib.hid (grown_alloc RU.out.grown _)
        have KL : Hid (Blk (wr.alloc (.cells #[.int .i64 j, .int .i64 i] 125)) wr.heap.size 125 [.int .i64 j, .int .i64 i]) := Lib.hid (heap_alloc_new _ _)
        have hj' : (j : Int) < 16 := by omega
        have hi' : (i : Int) < 16 := by omega
        have tL := taAL (j) (i) wr
        have tM := taAM (j) (i) wr
        have tA := taAA (j) (i) wr
        clear hr RW hs'
        go_upto_region 14 with fail
        clear tL tM tA
        generalize wr.alloc (.cells #[.int .i64 j, .int .i64 i] 125) = w1 at *
        generalize wr.heap.size = bp at *
        clear cx'
        have x1 : w1.drew.cell? ⟨bp, 0, none⟩ = some (.int .i64 j) := KL.out.cell (i := 0) rfl
        have x2 : w1.drew.cell? ⟨bp, 1, none⟩ = some (.int .i64 i) := KL.out.cell (i := 1) rfl
        obtain ⟨x3, x4, x5, x6⟩ := SL.out.drew.rowQ (by omega) AG.out
        obtain ⟨y3, y4, y5, y6⟩ := SL.out.drew.rowQ (by omega) AI.out
        go_region_held3 (fun w' => w'.cell? ⟨bp, 0, none⟩ = some (.int .i64 j) ∧ w'.cell? ⟨bp, 1, none⟩ = some (.int .i64 i) ∧ w'.cell? ⟨gr, j * 4, none⟩ = some (.int .i64 r0) ∧ w'.cell? ⟨gr, j * 4 + 1, none⟩ = some (.int .i64 r1) ∧ w'.cell? ⟨gr, j * 4 + 2, none⟩ = some (.int .i64 r2) ∧ w'.cell? ⟨gr, j * 4 + 3, none⟩ = some (.int .i64 r3) ∧ w'.cell? ⟨gr, i * 4, none⟩ = some (.int .i64 s0) ∧ w'.cell? ⟨gr, i * 4 + 1, none⟩ = some (.int .i64 s1) ∧ w'.cell? ⟨gr, i * 4 + 2, none⟩ = some (.int .i64 s2) ∧ w'.cell? ⟨gr, i * 4 + 3, none⟩ = some (.int .i64 s3))
          (first
            | with_reducible exact ⟨x1, x2, x3, x4, x5, x6, y3, y4, y5, y6⟩
            | with_reducible exact H2.out
            | with_reducible exact Z2.out)
          (first
            | (go_at_call 83; refine (sumQ r0 r1 r2 r3 s0 s1 s2 s3 _ OR.out OS.out).mono ?_; rintro e w2 ⟨rfl, hg⟩
               have D1 := Lib.hid hg
               have SL2 := Lib.hid (SL.out.drew.still hg)
               have KL2 : Hid (Blk w2 bp 125 [.int .i64 j, .int .i64 i]) := Lib.hid (Blk.kept (show Blk w1.drew bp 125 [.int .i64 j, .int .i64 i] from KL.out) hg (by simp))
               have H2 : Hid (w2.cell? ⟨bp, 0, none⟩ = some (.int .i64 j) ∧ w2.cell? ⟨bp, 1, none⟩ = some (.int .i64 i) ∧ w2.cell? ⟨gr, j * 4, none⟩ = some (.int .i64 r0) ∧ w2.cell? ⟨gr, j * 4 + 1, none⟩ = some (.int .i64 r1) ∧ w2.cell? ⟨gr, j * 4 + 2, none⟩ = some (.int .i64 r2) ∧ w2.cell? ⟨gr, j * 4 + 3, none⟩ = some (.int .i64 r3) ∧ w2.cell? ⟨gr, i * 4, none⟩ = some (.int .i64 s0) ∧ w2.cell? ⟨gr, i * 4 + 1, none⟩ = some (.int .i64 s1) ∧ w2.cell? ⟨gr, i * 4 + 2, none⟩ = some (.int .i64 s2) ∧ w2.cell? ⟨gr, i * 4 + 3, none⟩ = some (.int .i64 s3)) := Lib.hid (by
                 obtain ⟨q3, q4, q5, q6⟩ := SL2.out.rowQ (by omega) AG.out
                 obtain ⟨p3, p4, p5, p6⟩ := SL2.out.rowQ (by omega) AI.out
                 exact ⟨KL2.out.cell (i := 0) rfl, KL2.out.cell (i := 1) rfl, q3, q4, q5, q6, p3, p4, p5, p6⟩)
               obtain ⟨d0, d1, d2, d3⟩ := SL2.out.rowQ (by omega) OLD.out
               have f0 := SL2.out.frozen (n * 4)
               have f1 := SL2.out.frozen (n * 4 + 1)
               have f2 := SL2.out.frozen (n * 4 + 2)
               have f3 := SL2.out.frozen (n * 4 + 3)
               have SP2 := Lib.hid (SL2.out.putQ _ _ _ _ SET.out)
               have Z2 : Hid (((((w2.setCell ⟨gr, n * 4, none⟩ (.int .i64 ((r0 + s0) % 31))).setCell ⟨gr, n * 4 + 1, none⟩ (.int .i64 ((r1 + s1) % 31))).setCell ⟨gr, n * 4 + 2, none⟩ (.int .i64 ((r2 + s2) % 31))).setCell ⟨gr, n * 4 + 3, none⟩ (.int .i64 ((r3 + s3) % 31))).cell? ⟨bp, 0, none⟩ = some (.int .i64 j) ∧ ((((w2.setCell ⟨gr, n * 4, none⟩ (.int .i64 ((r0 + s0) % 31))).setCell ⟨gr, n * 4 + 1, none⟩ (.int .i64 ((r1 + s1) % 31))).setCell ⟨gr, n * 4 + 2, none⟩ (.int .i64 ((r2 + s2) % 31))).setCell ⟨gr, n * 4 + 3, none⟩ (.int .i64 ((r3 + s3) % 31))).cell? ⟨bp, 1, none⟩ = some (.int .i64 i) ∧ ((((w2.setCell ⟨gr, n * 4, none⟩ (.int .i64 ((r0 + s0) % 31))).setCell ⟨gr, n * 4 + 1, none⟩ (.int .i64 ((r1 + s1) % 31))).setCell ⟨gr, n * 4 + 2, none⟩ (.int .i64 ((r2 + s2) % 31))).setCell ⟨gr, n * 4 + 3, none⟩ (.int .i64 ((r3 + s3) % 31))).cell? ⟨gr, j * 4, none⟩ = some (.int .i64 r0) ∧ ((((w2.setCell ⟨gr, n * 4, none⟩ (.int .i64 ((r0 + s0) % 31))).setCell ⟨gr, n * 4 + 1, none⟩ (.int .i64 ((r1 + s1) % 31))).setCell ⟨gr, n * 4 + 2, none⟩ (.int .i64 ((r2 + s2) % 31))).setCell ⟨gr, n * 4 + 3, none⟩ (.int .i64 ((r3 + s3) % 31))).cell? ⟨gr, j * 4 + 1, none⟩ = some (.int .i64 r1) ∧ ((((w2.setCell ⟨gr, n * 4, none⟩ (.int .i64 ((r0 + s0) % 31))).setCell ⟨gr, n * 4 + 1, none⟩ (.int .i64 ((r1 + s1) % 31))).setCell ⟨gr, n * 4 + 2, none⟩ (.int .i64 ((r2 + s2) % 31))).setCell ⟨gr, n * 4 + 3, none⟩ (.int .i64 ((r3 + s3) % 31))).cell? ⟨gr, j * 4 + 2, none⟩ = some (.int .i64 r2) ∧ ((((w2.setCell ⟨gr, n * 4, none⟩ (.int .i64 ((r0 + s0) % 31))).setCell ⟨gr, n * 4 + 1, none⟩ (.int .i64 ((r1 + s1) % 31))).setCell ⟨gr, n * 4 + 2, none⟩ (.int .i64 ((r2 + s2) % 31))).setCell ⟨gr, n * 4 + 3, none⟩ (.int .i64 ((r3 + s3) % 31))).cell? ⟨gr, j * 4 + 3, none⟩ = some (.int .i64 r3) ∧ ((((w2.setCell ⟨gr, n * 4, none⟩ (.int .i64 ((r0 + s0) % 31))).setCell ⟨gr, n * 4 + 1, none⟩ (.int .i64 ((r1 + s1) % 31))).setCell ⟨gr, n * 4 + 2, none⟩ (.int .i64 ((r2 + s2) % 31))).setCell ⟨gr, n * 4 + 3, none⟩ (.int .i64 ((r3 + s3) % 31))).cell? ⟨gr, i * 4, none⟩ = some (.int .i64 s0) ∧ ((((w2.setCell ⟨gr, n * 4, none⟩ (.int .i64 ((r0 + s0) % 31))).setCell ⟨gr, n * 4 + 1, none⟩ (.int .i64 ((r1 + s1) % 31))).setCell ⟨gr, n * 4 + 2, none⟩ (.int .i64 ((r2 + s2) % 31))).setCell ⟨gr, n * 4 + 3, none⟩ (.int .i64 ((r3 + s3) % 31))).cell? ⟨gr, i * 4 + 1, none⟩ = some (.int .i64 s1) ∧ ((((w2.setCell ⟨gr, n * 4, none⟩ (.int .i64 ((r0 + s0) % 31))).setCell ⟨gr, n * 4 + 1, none⟩ (.int .i64 ((r1 + s1) % 31))).setCell ⟨gr, n * 4 + 2, none⟩ (.int .i64 ((r2 + s2) % 31))).setCell ⟨gr, n * 4 + 3, none⟩ (.int .i64 ((r3 + s3) % 31))).cell? ⟨gr, i * 4 + 2, none⟩ = some (.int .i64 s2) ∧ ((((w2.setCell ⟨gr, n * 4, none⟩ (.int .i64 ((r0 + s0) % 31))).setCell ⟨gr, n * 4 + 1, none⟩ (.int .i64 ((r1 + s1) % 31))).setCell ⟨gr, n * 4 + 2, none⟩ (.int .i64 ((r2 + s2) % 31))).setCell ⟨gr, n * 4 + 3, none⟩ (.int .i64 ((r3 + s3) % 31))).cell? ⟨gr, i * 4 + 3, none⟩ = some (.int .i64 s3)) := Lib.hid (by
                 have KP := blk_farQ KL2.out (show bp ≠ gr by omega) (n := n) ((r0 + s0) % 31) ((r1 + s1) % 31) ((r2 + s2) % 31) ((r3 + s3) % 31)
                 have AG2 : ∀ i, i < 4 → (resR k L (n + 1)).getD (j * 4 + i) 0 = [r0, r1, r2, r3].getD i 0 := fun i hi => by rw [← SET.out, set_four hj hi]; exact AG.out i hi
                 obtain ⟨q3, q4, q5, q6⟩ := SP2.out.rowQ (by rw [resR_len]; omega) AG2
                 have AI2 : ∀ q, q < 4 → (resR k L (n + 1)).getD (i * 4 + q) 0 = [s0, s1, s2, s3].getD q 0 := fun q hq => by rw [← SET.out, set_four hi hq]; exact AI.out q hq
                 obtain ⟨p3, p4, p5, p6⟩ := SP2.out.rowQ (by rw [resR_len]; omega) AI2
                 exact ⟨KP.cell (i := 0) rfl, KP.cell (i := 1) rfl, q3, q4, q5, q6, p3, p4, p5, p6⟩)
               clear hg))
        have RN : Hid (RunR w ga gv gr k L (n + 1) ((((w2.setCell ⟨gr, n * 4, none⟩ (.int .i64 ((r0 + s0) % 31))).setCell ⟨gr, n * 4 + 1, none⟩ (.int .i64 ((r1 + s1) % 31))).setCell ⟨gr, n * 4 + 2, none⟩ (.int .i64 ((r2 + s2) % 31))).setCell ⟨gr, n * 4 + 3, none⟩ (.int .i64 ((r3 + s3) % 31)))) := Lib.hid
          ⟨grown_setQ (grown_trans (grown_drew GLo.out) D1.out) BG.2.2.1 _ _ _ _, (AL.out.drew.still D1.out).farQ BG.1 _ _ _ _, (VL.out.drew.still D1.out).farQ BG.2.1 _ _ _ _, SP2.out⟩
        clear AL SL VL GLo KL RU SET AG OLD LEN SL2 KL2 H2 Z2 SP2 D1 x1 x2 x3 x4 x5 x6 d0 d1 d2 d3 f0 f1 f2 f3 y3 y4 y5 y6 AI
        go_wp2_with fail
        go_roundw
        case rel => exact ⟨n + 1, by omega, by go_num, RN.out⟩
        case measure => simp [intOf]; omega
    · obtain rfl : n = len := by omega
      have hi : ¬ (n : Int) < (n : Int) := by omega
      have LEN := resR_len k L n
      obtain ⟨m, rfl⟩ : ∃ m, n = m + 1 := ⟨n - 1, by omega⟩
      obtain ⟨r0, r1, r2, r3, hr⟩ := rowR_four k L m
      have VAL : Hid (rowV k L = [r0, r1, r2, r3]) := Lib.hid (by rw [← hr]; unfold rowV; rw [← LN.out]; rfl)
      have AG : Hid (∀ i, i < 4 → (resR k L (m + 1)).getD (m * 4 + i) 0 = [r0, r1, r2, r3].getD i 0) := Lib.hid (fun i hi => by rw [resR_get k L (by omega) (by omega) hi, hr])
      obtain ⟨c0, c1, c2, c3⟩ := RU.out.res.rowQ (by omega) AG.out
      have v0 : wr.cell? ⟨gv, 0, none⟩ = some (.int .i64 0) := RU.out.out.cell (i := 0) (by simp)
      have v1 : wr.cell? ⟨gv, 1, none⟩ = some (.int .i64 0) := RU.out.out.cell (i := 1) (by simp)
      have v2 : wr.cell? ⟨gv, 2, none⟩ = some (.int .i64 0) := RU.out.out.cell (i := 2) (by simp)
      have v3 : wr.cell? ⟨gv, 3, none⟩ = some (.int .i64 0) := RU.out.out.cell (i := 3) (by simp)
      have f0 := RU.out.out.frozen 0
      have f1 := RU.out.out.frozen 1
      have f2 := RU.out.out.frozen 2
      have f3 := RU.out.out.frozen 3
      have PUT : Hid (Arr ((((wr.setCell ⟨gv, 0, none⟩ (.int .i64 r0)).setCell ⟨gv, 1, none⟩ (.int .i64 r1)).setCell ⟨gv, 2, none⟩ (.int .i64 r2)).setCell ⟨gv, 3, none⟩ (.int .i64 r3)) gv 83 [r0, r1, r2, r3]) := Lib.hid ((((RU.out.out.put 0 r0).put 1 r1).put 2 r2).put 3 r3)
      have GE : Hid (w.grownBy ((((wr.setCell ⟨gv, 0, none⟩ (.int .i64 r0)).setCell ⟨gv, 1, none⟩ (.int .i64 r1)).setCell ⟨gv, 2, none⟩ (.int .i64 r2)).setCell ⟨gv, 3, none⟩ (.int .i64 r3)) none) := Lib.hid (grown_set (grown_set (grown_set (grown_set RU.out.grown (p := ⟨gv, 0, none⟩) BG.2.2.2 _) (p := ⟨gv, 1, none⟩) BG.2.2.2 _) (p := ⟨gv, 2, none⟩) BG.2.2.2 _) (p := ⟨gv, 3, none⟩) BG.2.2.2 _)
      have hm1 : ((m + 1 : Nat) : Int) - 1 = m := by omega
      have hm2 : (m : Int) < 16 := by omega
      clear hr LEN AG RU
      go_wp2_with fail
      have z0 := PUT.out.cell (i := 0) (by simp)
      have z1 := PUT.out.cell (i := 1) (by simp)
      have z2 := PUT.out.cell (i := 2) (by simp)
      have z3 := PUT.out.cell (i := 3) (by simp)
      refine bodyPost_ret (v := .agg #[.int .i64 r0, .int .i64 r1, .int .i64 r2, .int .i64 r3]) ?_ rfl ⟨by rw [VAL.out]; rfl, GE.out⟩
      generalize (((wr.setCell ⟨gv, 0, none⟩ (.int .i64 r0)).setCell ⟨gv, 1, none⟩ (.int .i64 r1)).setCell ⟨gv, 2, none⟩ (.int .i64 r2)).setCell ⟨gv, 3, none⟩ (.int .i64 r3) = we at *
      have z0' : we.cell? ⟨gv, 0, none⟩ = some (.int .i64 r0) := z0
      have z1' : we.cell? ⟨gv, 1, none⟩ = some (.int .i64 r1) := z1
      have z2' : we.cell? ⟨gv, 2, none⟩ = some (.int .i64 r2) := z2
      have z3' : we.cell? ⟨gv, 3, none⟩ = some (.int .i64 r3) := z3
      simp [results, Tryd.results61, go_sem, z0', z1', z2', z3']
end Go.Proofs.YtlehcpcejkpbmaaDoor
