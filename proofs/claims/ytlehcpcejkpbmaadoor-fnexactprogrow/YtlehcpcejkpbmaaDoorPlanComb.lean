/-
  The contract of the program's sum of rows, each so often as told.
  Conditions: none.
-/
import Derived.Test.YtlehcpcejkpbmaaDoorPlanForm
namespace Go.Proofs.YtlehcpcejkpbmaaDoor
open Go.RowKit
set_option linter.unusedVariables false

/-- the first rows of a code, each so often as told, together. -/
def gco (k : Nat) (t : List Int) : Nat → List Int
  | 0 => [0, 0, 0, 0]
  | n + 1 => List.zipWith (fun x y => (x + y) % 31) (gco k t n) ((Sp.crow k n).map fun x => x * t.getD n 0 % 31)
theorem gco_succ {k : Nat} {t : List Int} {n : Nat} {x y z u x' y' z' u' c : Int} (h : gco k t n = [x, y, z, u]) (h' : Sp.crow k n = [x', y', z', u']) (hc : t.getD n 0 = c) : gco k t (n + 1) = [(x + x' * c) % 31, (y + y' * c) % 31, (z + z' * c) % 31, (u + u' * c) % 31] := by
  simp only [gco, h, h', hc, List.map_cons, List.map_nil, List.zipWith_cons_cons, List.zipWith_nil_right, add_short]
theorem gco_four {k : Nat} (hk : k = 1 ∨ k = 2) (t : List Int) : ∀ n, n ≤ 8 → ∃ x y z u, gco k t n = [x, y, z, u] ∧ Vec.ok [x, y, z, u] = true
  | 0, _ => ⟨0, 0, 0, 0, rfl, by decide⟩
  | n + 1, h => by
    obtain ⟨x, y, z, u, e, _⟩ := gco_four hk t n (by omega)
    obtain ⟨x', y', z', u', e', _⟩ := crow_four hk (show n < 8 by omega)
    exact ⟨_, _, _, _, gco_succ e e' rfl, Vec.ok_mk (Vec.mod_is _) (Vec.mod_is _) (Vec.mod_is _) (Vec.mod_is _)⟩

set_option maxHeartbeats 8000000 in
set_option maxRecDepth 20000 in
theorem genCombine {k : Nat} (hk : k = 1 ∨ k = 2) (t : List Int) (ht : t.length = 8) (ot : ∀ x ∈ t, Fld.ok x = true) (w : World) :
    Calls Tryd.prog 55 #[.agg (vals (grid k)).toArray, .agg (vals t).toArray] w fun e w' => e = .returned (.agg (vals (gco k t 8)).toArray) ∧ w.grownBy w' none := by
  have GL := grid_len k hk
  have IX := Lib.hid (fun (n : Nat) (h : n < 8) (W : World) => idxG hk h W)
  have OT := Lib.hid (getD_ok ot)
  have z : (vals (grid k)).toArray.size = 32 := by simp [vals_length, GL]
  have hi : (Tryd.prog.info? 85).map (·.size) = some (vals (grid k)).toArray.size := by rw [z]; kernel_rfl
  have A0 : Hid (Arr ((((w.alloc (.cells (vals (grid k)).toArray 85)).alloc (.cells (vals t).toArray 68)).alloc (.cells #[.int .i64 0, .int .i64 0, .int .i64 0, .int .i64 0] 83)).alloc (.cells #[.int .i64 0, .int .i64 0, .int .i64 0, .int .i64 0] 83)) w.heap.size 85 (grid k)) := Lib.hid ((((Arr.new w _ _).alloc _).alloc _).alloc _)
  have T0 : Hid (Arr ((((w.alloc (.cells (vals (grid k)).toArray 85)).alloc (.cells (vals t).toArray 68)).alloc (.cells #[.int .i64 0, .int .i64 0, .int .i64 0, .int .i64 0] 83)).alloc (.cells #[.int .i64 0, .int .i64 0, .int .i64 0, .int .i64 0] 83)) (w.heap.size + 1) 68 t) := Lib.hid (by
    have := ((Arr.new (w.alloc (.cells (vals (grid k)).toArray 85)) 68 t).alloc (.cells #[.int .i64 0, .int .i64 0, .int .i64 0, .int .i64 0] 83)).alloc (.cells #[.int .i64 0, .int .i64 0, .int .i64 0, .int .i64 0] 83)
    rw [World.size_alloc] at this
    exact this)
  have R0 : Hid (Arr ((((w.alloc (.cells (vals (grid k)).toArray 85)).alloc (.cells (vals t).toArray 68)).alloc (.cells #[.int .i64 0, .int .i64 0, .int .i64 0, .int .i64 0] 83)).alloc (.cells #[.int .i64 0, .int .i64 0, .int .i64 0, .int .i64 0] 83)) (w.heap.size + 2) 83 [0, 0, 0, 0]) := Lib.hid (by
    have := (Arr.new ((w.alloc (.cells (vals (grid k)).toArray 85)).alloc (.cells (vals t).toArray 68)) 83 [0, 0, 0, 0]).alloc (.cells #[.int .i64 0, .int .i64 0, .int .i64 0, .int .i64 0] 83)
    rw [World.size_alloc, World.size_alloc] at this
    exact this)
  have S0 : Hid (Arr ((((w.alloc (.cells (vals (grid k)).toArray 85)).alloc (.cells (vals t).toArray 68)).alloc (.cells #[.int .i64 0, .int .i64 0, .int .i64 0, .int .i64 0] 83)).alloc (.cells #[.int .i64 0, .int .i64 0, .int .i64 0, .int .i64 0] 83)) (w.heap.size + 3) 83 (gco k t 0)) := Lib.hid (by
    have := Arr.new (((w.alloc (.cells (vals (grid k)).toArray 85)).alloc (.cells (vals t).toArray 68)).alloc (.cells #[.int .i64 0, .int .i64 0, .int .i64 0, .int .i64 0] 83)) 83 [0, 0, 0, 0]
    rw [World.size_alloc, World.size_alloc, World.size_alloc] at this
    exact this)
  have G0 : Hid (w.grownBy ((((w.alloc (.cells (vals (grid k)).toArray 85)).alloc (.cells (vals t).toArray 68)).alloc (.cells #[.int .i64 0, .int .i64 0, .int .i64 0, .int .i64 0] 83)).alloc (.cells #[.int .i64 0, .int .i64 0, .int .i64 0, .int .i64 0] 83)) none) := Lib.hid (grown_alloc (grown_alloc (grown_alloc (grown_alloc (World.grownBy.refl _ _) _) _) _) _)
  go_enter Tryd.func55, Tryd.ntmps55
  go_upto_region 2 with fail
  generalize ((((w.alloc (.cells (vals (grid k)).toArray 85)).alloc (.cells (vals t).toArray 68)).alloc (.cells #[.int .i64 0, .int .i64 0, .int .i64 0, .int .i64 0] 83)).alloc (.cells #[.int .i64 0, .int .i64 0, .int .i64 0, .int .i64 0] 83)) = W0 at *
  obtain ⟨a, ha⟩ : ∃ a, a = w.heap.size := ⟨_, rfl⟩
  obtain ⟨b, hb⟩ : ∃ b, b = w.heap.size + 1 := ⟨_, rfl⟩
  obtain ⟨r, hr⟩ : ∃ b, b = w.heap.size + 1 + 1 := ⟨_, rfl⟩
  obtain ⟨g, hg⟩ : ∃ g, g = w.heap.size + 1 + 1 + 1 := ⟨_, rfl⟩
  rw [← hb] at T0
  rw [show w.heap.size + 2 = r from hr.symm] at R0
  rw [show w.heap.size + 3 = g from hg.symm] at S0
  rw [← hg, ← hr, ← hb]
  have BG : w.heap.size ≤ r ∧ w.heap.size ≤ g ∧ b ≠ g ∧ r ≠ g ∧ g ≠ r := by omega
  rw [← ha] at A0 ⊢
  clear ha hb hg hr
  generalize hgr : grid k = l at *
  clear hgr
  apply wp_region_lit
  refine wpList_load_row rfl _ _ rfl a rfl _ _ _ _ A0.out Tryd.underlying85 rfl hi ?_
  clear z hi A0 GL
  generalize hvl : vals l = vl at *
  clear hvl
  generalize hvt : vals t = vt at *
  clear hvt
  go_wp2_with fail
  go_loopw [9] (fun i wr => ∃ n : Nat, n ≤ 8 ∧ i = .int .i64 n ∧ w.grownBy wr none ∧ Arr wr b 68 t ∧ Arr wr r 83 [0, 0, 0, 0] ∧ Arr wr g 83 (gco k t n)) (fun i _ => 8 - (intOf i).toNat)
  case atStart => exact ⟨0, by omega, rfl, G0.out, T0.out, R0.out, S0.out⟩
  case round =>
    obtain ⟨n, hn, rfl, hgr, htt, hrr, hss⟩ := hrel
    obtain ⟨x, y, z, u, hgc, hgo⟩ := gco_four hk t n hn
    rw [hgc] at hss
    have G := Lib.hid hgr
    have T := Lib.hid htt
    have R := Lib.hid hrr
    have S := Lib.hid hss
    have GC := Lib.hid hgc
    have KX := Lib.hid hgo
    clear hgr htt hrr hss hgc hgo T0 R0 S0 G0
    by_cases hlt : n < 8
    · have hlt' : (n : Int) < 8 := by omega
      obtain ⟨x', y', z', u', hc, hok⟩ := crow_four hk hlt
      have ix0 := IX.out n hlt wr
      rw [hc] at ix0
      have ix : (Instr.index 85 (.agg vl.toArray) (.int .i64 n)).run Tryd.prog wr = .ok (.agg #[.int .i64 x', .int .i64 y', .int .i64 z', .int .i64 u']) wr := ix0
      clear ix0
      obtain ⟨c, hcc⟩ : ∃ c, t.getD n 0 = c := ⟨_, rfl⟩
      have OC := OT.out n
      rw [hcc] at OC
      have OCC := Lib.hid OC
      have GS := Lib.hid (gco_succ GC.out hc hcc)
      have KY := Lib.hid hok
      have VV : Hid (Arr (wr.alloc (.cells #[.int .i64 x', .int .i64 y', .int .i64 z', .int .i64 u'] 83)) wr.heap.size 83 [x', y', z', u']) := Lib.hid (Arr.new wr 83 [x', y', z', u'])
      have T1 := Lib.hid (T.out.alloc (.cells #[.int .i64 x', .int .i64 y', .int .i64 z', .int .i64 u'] 83))
      have R1 := Lib.hid (R.out.alloc (.cells #[.int .i64 x', .int .i64 y', .int .i64 z', .int .i64 u'] 83))
      have S1 := Lib.hid (S.out.alloc (.cells #[.int .i64 x', .int .i64 y', .int .i64 z', .int .i64 u'] 83))
      have G1 := Lib.hid (grown_alloc G.out (.cells #[.int .i64 x', .int .i64 y', .int .i64 z', .int .i64 u'] 83))
      have hcell := T1.out.cell (i := n) (by omega)
      rw [hcc] at hcell
      have HCE := Lib.hid hcell
      clear T R S G hc hok hcc OC GC hcell
      go_upto_region 5 with fail
      generalize wr.alloc (.cells #[.int .i64 x', .int .i64 y', .int .i64 z', .int .i64 u'] 83) = w1 at *
      generalize wr.heap.size = q at *
      have a0 : w1.drew.cell? ⟨g, 0, none⟩ = some (.int .i64 x) := S1.out.drew.cell (by simp)
      have a1 : w1.drew.cell? ⟨g, 1, none⟩ = some (.int .i64 y) := S1.out.drew.cell (by simp)
      have a2 : w1.drew.cell? ⟨g, 2, none⟩ = some (.int .i64 z) := S1.out.drew.cell (by simp)
      have a3 : w1.drew.cell? ⟨g, 3, none⟩ = some (.int .i64 u) := S1.out.drew.cell (by simp)
      have b0 : w1.drew.cell? ⟨q, 0, none⟩ = some (.int .i64 x') := VV.out.drew.cell (by simp)
      have b1 : w1.drew.cell? ⟨q, 1, none⟩ = some (.int .i64 y') := VV.out.drew.cell (by simp)
      have b2 : w1.drew.cell? ⟨q, 2, none⟩ = some (.int .i64 z') := VV.out.drew.cell (by simp)
      have b3 : w1.drew.cell? ⟨q, 3, none⟩ = some (.int .i64 u') := VV.out.drew.cell (by simp)
      have cn : w1.drew.cell? ⟨b, n, none⟩ = some (.int .i64 c) := HCE.out
      go_region_with (first
        | (go_at_call 84; refine (rowScale [x', y', z', u'] c _ KY.out OCC.out).mono ?_; rintro e w3 ⟨rfl, hg1⟩
           have D1 := Lib.hid hg1
           have c0 := hg1.cell b0 (by simp)
           have c1 := hg1.cell b1 (by simp)
           have c2 := hg1.cell b2 (by simp)
           have c3 := hg1.cell b3 (by simp)
           have e0 := hg1.cell a0 (by simp)
           have e1 := hg1.cell a1 (by simp)
           have e2 := hg1.cell a2 (by simp)
           have e3 := hg1.cell a3 (by simp)
           clear hg1
           simp only [List.map_cons, List.map_nil, vals])
        | (go_at_call 83; refine (rowSum [x, y, z, u] [x' * c % 31, y' * c % 31, z' * c % 31, u' * c % 31] _ KX.out ok_scale4).mono ?_; rintro e w2 ⟨rfl, hg2⟩
           have D2 := Lib.hid hg2
           have d0 := hg2.cell c0 (by simp)
           have d1 := hg2.cell c1 (by simp)
           have d2 := hg2.cell c2 (by simp)
           have d3 := hg2.cell c3 (by simp)
           have q0 := hg2.cell e0 (by simp)
           have q1 := hg2.cell e1 (by simp)
           have q2 := hg2.cell e2 (by simp)
           have q3 := hg2.cell e3 (by simp)
           have f0 := ((S1.out.drew.still D1.out).still hg2).frozen 0
           have f1 := ((S1.out.drew.still D1.out).still hg2).frozen 1
           have f2 := ((S1.out.drew.still D1.out).still hg2).frozen 2
           have f3 := ((S1.out.drew.still D1.out).still hg2).frozen 3
           clear hg2
           simp only [List.zipWith_cons_cons, List.zipWith_nil_right, List.map_cons, List.map_nil, vals]))
      all_goals
        have DD : Hid (w1.grownBy w2 none) := Lib.hid (grown_trans (grown_trans (grown_drew (World.grownBy.refl _ none)) D1.out) D2.out)
        have G2 : Hid (w.grownBy ((((w2.setCell ⟨g, 0, none⟩ (.int .i64 ((x + x' * c) % 31))).setCell ⟨g, 1, none⟩ (.int .i64 ((y + y' * c) % 31))).setCell ⟨g, 2, none⟩ (.int .i64 ((z + z' * c) % 31))).setCell ⟨g, 3, none⟩ (.int .i64 ((u + u' * c) % 31))) none) := Lib.hid (grown_set (grown_set (grown_set (grown_set (grown_trans G1.out DD.out) BG.2.1 _) BG.2.1 _) BG.2.1 _) BG.2.1 _)
        have T2 : Hid (Arr ((((w2.setCell ⟨g, 0, none⟩ (.int .i64 ((x + x' * c) % 31))).setCell ⟨g, 1, none⟩ (.int .i64 ((y + y' * c) % 31))).setCell ⟨g, 2, none⟩ (.int .i64 ((z + z' * c) % 31))).setCell ⟨g, 3, none⟩ (.int .i64 ((u + u' * c) % 31))) b 68 t) := Lib.hid ((T1.out.still DD.out).far4 BG.2.2.1 _ _ _ _)
        have R2 : Hid (Arr ((((w2.setCell ⟨g, 0, none⟩ (.int .i64 ((x + x' * c) % 31))).setCell ⟨g, 1, none⟩ (.int .i64 ((y + y' * c) % 31))).setCell ⟨g, 2, none⟩ (.int .i64 ((z + z' * c) % 31))).setCell ⟨g, 3, none⟩ (.int .i64 ((u + u' * c) % 31))) r 83 [0, 0, 0, 0]) := Lib.hid ((R1.out.still DD.out).far4 BG.2.2.2.1 _ _ _ _)
        have S2 : Hid (Arr ((((w2.setCell ⟨g, 0, none⟩ (.int .i64 ((x + x' * c) % 31))).setCell ⟨g, 1, none⟩ (.int .i64 ((y + y' * c) % 31))).setCell ⟨g, 2, none⟩ (.int .i64 ((z + z' * c) % 31))).setCell ⟨g, 3, none⟩ (.int .i64 ((u + u' * c) % 31))) g 83 (gco k t (n + 1))) := Lib.hid (by rw [GS.out]; exact (S1.out.still DD.out).put4 _ _ _ _)
        clear a0 a1 a2 a3 b0 b1 b2 b3 cn c0 c1 c2 c3 d0 d1 d2 d3 e0 e1 e2 e3 q0 q1 q2 q3 f0 f1 f2 f3 D1 D2 DD GS T1 R1 S1 G1 VV HCE KX KY OCC
        go_wp2_with fail
        go_roundw
        case rel => exact ⟨n + 1, by omega, by go_num, G2.out, T2.out, R2.out, S2.out⟩
        case measure => simp [intOf]; omega
    · obtain rfl : n = 8 := by omega
      have GC8 := GC.out
      have a0 : wr.cell? ⟨g, 0, none⟩ = some (.int .i64 x) := S.out.cell (by simp)
      have a1 : wr.cell? ⟨g, 1, none⟩ = some (.int .i64 y) := S.out.cell (by simp)
      have a2 : wr.cell? ⟨g, 2, none⟩ = some (.int .i64 z) := S.out.cell (by simp)
      have a3 : wr.cell? ⟨g, 3, none⟩ = some (.int .i64 u) := S.out.cell (by simp)
      have r0 : wr.cell? ⟨r, 0, none⟩ = some (.int .i64 0) := R.out.cell (by simp)
      have r1 : wr.cell? ⟨r, 1, none⟩ = some (.int .i64 0) := R.out.cell (by simp)
      have r2 : wr.cell? ⟨r, 2, none⟩ = some (.int .i64 0) := R.out.cell (by simp)
      have r3 : wr.cell? ⟨r, 3, none⟩ = some (.int .i64 0) := R.out.cell (by simp)
      have f0 := R.out.frozen 0
      have f1 := R.out.frozen 1
      have f2 := R.out.frozen 2
      have f3 := R.out.frozen 3
      clear GC8
      go_wp2_with fail
      refine bodyPost_ret (v := .agg #[.int .i64 x, .int .i64 y, .int .i64 z, .int .i64 u]) (by simp [results, Tryd.results55, go_sem, r0, r1, r2, r3]) rfl ⟨by rw [GC.out]; rfl, ?_⟩
      repeat' first | with_reducible exact G.out | refine grown_set ?_ BG.1 _
end Go.Proofs.YtlehcpcejkpbmaaDoor
