/-
  The program's patches between two of numbers.
  Conditions: none.
-/
import Derived.Test.YthglkgicckodaaaPatchP3
import Derived.Test.YthglkgicckodaaaG2
import Derived.Deep.RegionHeld3
namespace Go.Proofs.Ythglkgicckodaaa
open Go.RowKit
set_option linter.unusedVariables false

theorem two_cells {w : World} {x y : Value} {t : TypeId} : ∀ j v, [x, y][j]? = some v → (w.alloc (.cells #[x, y] t)).cell? ((⟨w.heap.size, 0, none⟩ : Addr).add j) = some v := by
  intro j v hj
  rw [Addr.add_lit]
  rw [show (0 + j) = j from Nat.zero_add j, cell_of_row _ w.heap.size j _ t (0, 0) (heap_alloc_new w _)]
  simpa using hj

set_option maxHeartbeats 4000000 in
set_option maxRecDepth 20000 in
theorem implPatchOf (u v : Value) (l m : List Int) (w : World) (hu : Sl w u l) (hv : Sl w v m) : Calls Try.prog 11 #[u, v] w (NewPats (patOf l m) w) := by
  have U := Lib.hid hu
  have V := Lib.hid hv
  clear hu hv
  obtain ⟨ok, hok⟩ : ∃ ok, (Vec.ok l && Vec.ok m) = ok := ⟨_, rfl⟩
  have H := Lib.hid hok
  obtain ⟨x0, x1, x2, x3, hx⟩ := Vec.or0_four l
  obtain ⟨y0, y1, y2, y3, hx'⟩ := Vec.or0_four m
  have HX := Lib.hid hx
  have HX' := Lib.hid hx'
  clear hx hx' hok
  go_enter Try.func11, Try.ntmps11
  go_wp2_with fail
  refine (implVectorsOf _ _ l m _ U.out V.out).mono ?_
  rintro e w1 ⟨rfl, hg⟩
  rw [H.out, HX.out, HX'.out, ← vals4, ← vals4]
  have G := Lib.hid hg
  clear hg U V
  cases ok
  · have E := Lib.hid (show patOf l m = [] by unfold patOf; rw [H.out]; rfl)
    go_wp2_with fail
    go_ret
    exact ⟨_, rfl, grown_alloc (grown_alloc G.out _) _, by rw [E.out]; exact POwn.none_ _ _⟩
  · have E := Lib.hid (show patOf l m = patO l m 4 by unfold patOf; rw [H.out]; rfl)
    have OL : Hid (Vec.ok l = true) := Lib.hid (by have := H.out; cases h : Vec.ok l <;> simp_all)
    have OM : Hid (Vec.ok m = true) := Lib.hid (by have := H.out; cases h : Vec.ok m <;> simp_all)
    have LX : Hid (l = [x0, x1, x2, x3]) := Lib.hid (by rw [← HX.out, Vec.or0_ok OL.out])
    have MX : Hid (m = [y0, y1, y2, y3]) := Lib.hid (by rw [← HX'.out, Vec.or0_ok OM.out])
    go_upto_region 2 with fail
    have A1 := Lib.hid ((Arr.new w1 68 [x0, x1, x2, x3]).alloc (.cells (vals [y0, y1, y2, y3]).toArray 68))
    have B1 : Hid (Arr ((w1.alloc (.cells (vals [x0, x1, x2, x3]).toArray 68)).alloc (.cells (vals [y0, y1, y2, y3]).toArray 68)) (w1.heap.size + 1) 68 [y0, y1, y2, y3]) := Lib.hid (by
      have := Arr.new (w1.alloc (.cells (vals [x0, x1, x2, x3]).toArray 68)) 68 [y0, y1, y2, y3]
      simpa using this)
    have G1 := Lib.hid (grown_alloc (grown_alloc G.out (.cells (vals [x0, x1, x2, x3]).toArray 68)) (.cells (vals [y0, y1, y2, y3]).toArray 68))
    rw [← vals4 x0] at A1 B1 G1
    rw [← vals4 y0] at A1 B1 G1
    rw [← LX.out] at A1
    rw [← MX.out] at B1
    have B0 := Lib.hid (show w.heap.size ≤ w1.heap.size from G.out.size)
    have BS : Hid (w1.heap.size + 2 ≤ ((w1.alloc (.cells #[.int .i64 x0, .int .i64 x1, .int .i64 x2, .int .i64 x3] 68)).alloc (.cells #[.int .i64 y0, .int .i64 y1, .int .i64 y2, .int .i64 y3] 68)).heap.size) := Lib.hid (by simp)
    clear G
    generalize (w1.alloc (.cells #[.int .i64 x0, .int .i64 x1, .int .i64 x2, .int .i64 x3] 68)).alloc (.cells #[.int .i64 y0, .int .i64 y1, .int .i64 y2, .int .i64 y3] 68) = w2 at *
    generalize w1.heap.size = g at *
    obtain ⟨i0, hi, hz0, hz1, hz2⟩ := info_parts infoPatch
    have I1 := Lib.hid hi
    have I2 := Lib.hid hz0
    have I3 := Lib.hid hz1
    have I4 := Lib.hid hz2
    clear hi hz0 hz1 hz2
    go_wp2_with fail
    go_loopw [8, 19] (fun ov i wr => ∃ k : Nat, k ≤ 4 ∧ i = .int .i64 k ∧ w.grownBy wr none ∧ Arr wr g 68 l ∧ Arr wr (g + 1) 68 m ∧ POwn wr (g + 2) ov (patO l m k) ∧ g + 2 ≤ wr.heap.size) (fun _ i _ => 4 - (intOf i).toNat)
    case atStart => exact ⟨0, by omega, rfl, G1.out, A1.out, B1.out, POwn.none_ _ _, BS.out⟩
    case round =>
      obtain ⟨k, hk, rfl, hg, hA, hB, hO, hS⟩ := hrel
      have G := Lib.hid hg
      have A := Lib.hid hA
      have B := Lib.hid hB
      have O := Lib.hid hO
      have BA := Lib.hid hS
      clear hg hA hB hO hS A1 B1 G1 BS
      by_cases hlt : k < 4
      · have hlt' : (k : Int) < 4 := by omega
        have ox := Vec.ok_get OL.out hlt
        have oy := Vec.ok_get OM.out hlt
        have c0 := A.out.cell (i := k) (by rw [Vec.ok_len OL.out]; exact hlt)
        have c1 := B.out.cell (i := k) (by rw [Vec.ok_len OM.out]; exact hlt)
        have PS := Lib.hid (patO_same (a := l) (b := m) (n := k))
        have PN := Lib.hid (patO_next (a := l) (b := m) (n := k))
        have PL := Lib.hid (Nat.le_trans (patO_le l m k) hk)
        clear LX MX HX HX'
        generalize l.getD k 0 = x at *
        generalize m.getD k 0 = y at *
        have c0' : wr.drew.cell? ⟨g, k, none⟩ = some (.int .i64 x) := c0
        have c1' : wr.drew.cell? ⟨g + 1, k, none⟩ = some (.int .i64 y) := c1
        by_cases hxy : x = y
        · have hne : (x != y) = false := by simp [hxy]
          have E2 := Lib.hid (PS.out hxy)
          clear PS PN hxy
          go_wp2_with fail
          go_quiet (fail)
          go_wp2_with fail
          go_roundw
          case rel => exact ⟨k + 1, by omega, by go_num, grown_draws G.out _, A.out, B.out, by rw [E2.out]; exact O.out.still (grown_still _ _), BA.out⟩
          case measure => simp [intOf]; omega
        · have hne : (x != y) = true := by simp [hxy]
          have E2 := Lib.hid (PN.out hxy)
          clear PS PN hxy
          go_wp2_with fail
          go_quiet (fail)
          go_upto_region 9 with fail
          refine wp_region_held (S := fun W' => W'.cell? ⟨g, k, none⟩ = some (.int .i64 x) ∧ W'.cell? ⟨g + 1, k, none⟩ = some (.int .i64 y)) (by kernel_rfl) ?_
          change wpAnyH _ _ _ _ _ _ _ _ (wr.drewN nq).drew
          have Z : Hid ((wr.drewN nq).drew.cell? ⟨g, k, none⟩ = some (.int .i64 x) ∧ (wr.drewN nq).drew.cell? ⟨g + 1, k, none⟩ = some (.int .i64 y)) := Lib.hid ⟨c0', c1'⟩
          replace G := Lib.hid (grown_drew (grown_draws G.out nq))
          replace A := Lib.hid (show Arr (wr.drewN nq).drew g 68 l from A.out)
          replace B := Lib.hid (show Arr (wr.drewN nq).drew (g + 1) 68 m from B.out)
          replace O := Lib.hid (show POwn (wr.drewN nq).drew (g + 2) u8 (patO l m k) from O.out.still (grown_drew (grown_still wr nq)))
          replace BA := Lib.hid (show g + 2 ≤ (wr.drewN nq).drew.heap.size from BA.out)
          have NA := Lib.hid (show some g ≠ u8.ownBlock from fun e => by have := (O.out.lt g e.symm).1; omega)
          have NB := Lib.hid (show some (g + 1) ≠ u8.ownBlock from fun e => by have := (O.out.lt (g + 1) e.symm).1; omega)
          have BL := Lib.hid (show w.heap.size ≤ g + 2 by have := B0.out; omega)
          clear c0 c1 c0' c1'
          generalize (wr.drewN nq).drew = W at *
          refine Rg.take_ 0 (some 29) (u8) rfl rfl (by kernel_rfl) (by kernel_rfl) (by kernel_rfl) (fun _ _ _ h => h) (.inl ⟨by rfl, fun W' hS => (by go_simp)⟩) Z.out ?_
          simp only [Act.put, List.setIfInBounds_toArray, List.set_cons_zero, List.set_cons_succ]
          refine Rg.take_ 1 (some 30) (.int .i64 k) rfl rfl (by kernel_rfl) (by kernel_rfl) (by kernel_rfl) (fun _ _ _ h => h) (.inl ⟨by rfl, fun W' hS => (by go_simp)⟩) Z.out ?_
          simp only [Act.put, List.setIfInBounds_toArray, List.set_cons_zero, List.set_cons_succ]
          refine Rg.take_ 2 (some 31) (.int .i64 k) rfl rfl (by kernel_rfl) (by kernel_rfl) (by kernel_rfl) (fun _ _ _ h => h) (.inl ⟨by rfl, fun W' hS => (by go_simp)⟩) Z.out ?_
          simp only [Act.put, List.setIfInBounds_toArray, List.set_cons_zero, List.set_cons_succ]
          refine Rg.take_ 3 (some 32) (.pointer (some ⟨g + 1, k, none⟩)) rfl rfl (by kernel_rfl) (by kernel_rfl) (by kernel_rfl) (fun _ _ _ h => h) (.inl ⟨by rfl, fun W' hS => (by go_simp)⟩) Z.out ?_
          simp only [Act.put, List.setIfInBounds_toArray, List.set_cons_zero, List.set_cons_succ]
          refine Rg.take_ 4 (some 33) (.int .i64 y) rfl rfl (by kernel_rfl) (by kernel_rfl) (by kernel_rfl) (fun _ _ _ h => h) (.inl ⟨by rfl, fun W' hS => (by have c0 := hS.2; go_simp)⟩) Z.out ?_
          simp only [Act.put, List.setIfInBounds_toArray, List.set_cons_zero, List.set_cons_succ]
          refine Rg.take_ 5 (some 34) (.int .i64 k) rfl rfl (by kernel_rfl) (by kernel_rfl) (by kernel_rfl) (fun _ _ _ h => h) (.inl ⟨by rfl, fun W' hS => (by go_simp)⟩) Z.out ?_
          simp only [Act.put, List.setIfInBounds_toArray, List.set_cons_zero, List.set_cons_succ]
          refine Rg.take_ 6 (some 35) (.pointer (some ⟨g, k, none⟩)) rfl rfl (by kernel_rfl) (by kernel_rfl) (by kernel_rfl) (fun _ _ _ h => h) (.inl ⟨by rfl, fun W' hS => (by go_simp)⟩) Z.out ?_
          simp only [Act.put, List.setIfInBounds_toArray, List.set_cons_zero, List.set_cons_succ]
          refine Rg.take_ 7 (some 36) (.int .i64 x) rfl rfl (by kernel_rfl) (by kernel_rfl) (by kernel_rfl) (fun _ _ _ h => h) (.inl ⟨by rfl, fun W' hS => (by have c0 := hS.1; go_simp)⟩) Z.out ?_
          simp only [Act.put, List.setIfInBounds_toArray, List.set_cons_zero, List.set_cons_succ]
          refine Rg.ready_one (i := 8) (by kernel_rfl) rfl rfl ?_
          refine Rg.call_at (some 37) (f := 44) (args := #[.int .i64 y, .int .i64 x]) rfl (by go_simp) ((elemDif y x _ oy ox).mono ?_)
          rintro e W1 ⟨rfl, rfl⟩
          refine ⟨_, rfl, Z.out, ?_⟩
          simp only [Act.put, List.setIfInBounds_toArray, List.set_cons_zero, List.set_cons_succ]
          generalize (y - x) % 31 = q at *
          refine Rg.ready_one (i := 9) (by kernel_rfl) rfl rfl ?_
          refine Rg.value_at (some 38) (.agg #[.int .i64 k, .int .i64 q]) W rfl (by go_simp) ?_
          refine ⟨Z.out, ?_⟩
          simp only [Act.put, List.setIfInBounds_toArray, List.set_cons_zero, List.set_cons_succ]
          refine Rg.ready_one (i := 10) (by kernel_rfl) rfl rfl ?_
          refine Rg.value_at (some 39) (.slice (some ⟨W.heap.size, 0, none⟩) 1 1) (W.alloc (.cells #[.int .i64 k, .int .i64 q] 32)) rfl (by go_simp) ?_
          have ga := World.grownBy_alloc W (.cells #[.int .i64 k, .int .i64 q] 32) none
          replace Z := Lib.hid (And.intro (ga.cell Z.out.1 (by simp)) (ga.cell Z.out.2 (by simp)))
          replace G := Lib.hid (grown_trans G.out ga)
          replace A := Lib.hid (A.out.still ga)
          replace B := Lib.hid (B.out.still ga)
          replace O := Lib.hid (O.out.still ga)
          have BG := Lib.hid (Nat.le_trans BA.out ga.size)
          have HC := Lib.hid (two_cells (w := W) (x := .int .i64 (k : Int)) (y := .int .i64 q) (t := 32))
          clear ga
          refine ⟨Z.out, ?_⟩
          simp only [Act.put, List.setIfInBounds_toArray, List.set_cons_zero, List.set_cons_succ]
          generalize W.heap.size = N0 at *
          generalize W.alloc (.cells #[.int .i64 k, .int .i64 q] 32) = W at *
          refine Rg.ready_one (i := 11) (by kernel_rfl) rfl rfl ?_
          refine wp_append_own _ _ _ 26 rfl (g + 2) 32 i0 (.agg #[.int .i64 0, .int .i64 0]) 2 16 Try.underlying26 I1.out I2.out I3.out I4.out rfl (by decide) _ _ _ rfl O.out ⟨N0, 0, none⟩ 1 1 [.int .i64 k, .int .i64 q] rfl rfl HC.out (vals_one [(k : Int), q]) ?_ ?_ BG.out ?_
          · have := PL.out; unfold maxLen; omega
          · have := PL.out; omega
          intro nv W2 hown hgr _
          have O2 := Lib.hid (pown_snoc hown rfl)
          replace A := Lib.hid (A.out.kept hgr NA.out)
          replace B := Lib.hid (B.out.kept hgr NB.out)
          replace Z := Lib.hid (And.intro (hgr.cell Z.out.1 NA.out) (hgr.cell Z.out.2 NB.out))
          replace G := Lib.hid (grown_own G.out hgr (fun j hj => by have h1 := (O.out.lt j hj).1; have h2 := BL.out; omega))
          have SZ := hgr.size
          replace BG := Lib.hid (Nat.le_trans BG.out SZ)
          clear hown hgr SZ O HC
          refine ⟨Z.out, ?_⟩
          simp only [Act.put, List.setIfInBounds_toArray]
          refine Rg.ready_one (i := 12) (by kernel_rfl) rfl rfl ?_
          refine Rg.value_at (some 8) nv W2 rfl (by go_simp) ?_
          refine ⟨Z.out, ?_⟩
          simp only [Act.put]
          refine wpAnyH_done (by kernel_rfl) ?_ _
          go_wp2_with fail
          go_roundw
          case rel => exact ⟨k + 1, by omega, by go_num, G.out, A.out, B.out, by rw [E2.out]; exact O2.out, BG.out⟩
          case measure => simp [intOf]; omega
      · obtain rfl : k = 4 := by omega
        have R4 := Lib.hid (show POwn wr w.heap.size u8 (patOf l m) by rw [E.out]; exact O.out.lower (by have := B0.out; omega))
        go_wp2_with fail
        go_ret
        exact ⟨_, rfl, G.out, R4.out⟩
end Go.Proofs.Ythglkgicckodaaa
