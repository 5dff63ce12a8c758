/-
  The model's patches: which are ok, patches between numbers.
  Conditions: none.
-/
import Derived.Test.YthglkgicckodaaaPatchP4
import Derived.Test.YthglkgicckodaaaG2
namespace Go.Proofs.Ythglkgicckodaaa
open Go.RowKit
set_option linter.unusedVariables false

theorem specDifIn (a b : Int) (w : World) (ha : Fld.ok a = true) (hb : Fld.ok b = true) : Calls Try.prog 45 #[.int .i64 a, .int .i64 b] w fun e w' => e = .returned (.int .i64 ((a - b) % 31)) ∧ w = w' := by
  refine (specDif a b w).mono ?_
  rintro e w' ⟨rfl, rfl⟩
  exact ⟨by unfold Fld.dif; rw [ha, hb]; rfl, rfl⟩
theorem specFSumIn (a b : Int) (w : World) (ha : Fld.ok a = true) (hb : Fld.ok b = true) : Calls Try.prog 52 #[.int .i64 a, .int .i64 b] w fun e w' => e = .returned (.int .i64 ((a + b) % 31)) ∧ w = w' := by
  refine (specFSum a b w).mono ?_
  rintro e w' ⟨rfl, rfl⟩
  exact ⟨by unfold Fld.sum; rw [ha, hb]; rfl, rfl⟩

set_option maxHeartbeats 1000000 in
set_option maxRecDepth 20000 in
theorem specPatchOk (p x : Int) (w : World) : Calls Try.prog 21 #[.agg #[.int .i64 p, .int .i64 x]] w fun e w' => e = .returned (.bool (patOk ⟨p, x⟩)) ∧ w.grownBy w' none := by
  cases h0 : (decide (0 ≤ p) && decide (p ≤ 3))
  · have e : patOk ⟨p, x⟩ = false := by
      rw [← Bool.not_eq_true, patOk_iff]
      simp at h0
      show ¬ (0 ≤ p ∧ p < 4 ∧ _)
      omega
    rw [e]
    have H := Lib.hid h0
    clear h0 e
    go_enter Try.func21, Try.ntmps21
    go_wp2_with fail
    refine (specIn _ _ _ _).mono ?_
    rintro e w' ⟨rfl, rfl⟩
    rw [H.out]
    go_wp2_with fail
    go_ret
    exact ⟨rfl, grown_alloc (World.grownBy.refl _ _) _⟩
  · have e : patOk ⟨p, x⟩ = (decide (1 ≤ x) && decide (x ≤ 30)) := by
      rw [Bool.eq_iff_iff, patOk_iff]
      simp at h0 ⊢
      omega
    rw [e]
    have H := Lib.hid h0
    clear h0 e
    go_enter Try.func21, Try.ntmps21
    go_wp2_with fail
    refine (specIn _ _ _ _).mono ?_
    rintro e w' ⟨rfl, rfl⟩
    rw [H.out]
    go_wp2_with fail
    refine (specIn _ _ _ _).mono ?_
    rintro e w' ⟨rfl, rfl⟩
    go_wp2_with fail
    go_ret
    exact ⟨rfl, grown_alloc (World.grownBy.refl _ _) _⟩

set_option maxHeartbeats 4000000 in
set_option maxRecDepth 20000 in
theorem specPatchOf (u v : Value) (l m : List Int) (w : World) (hu : Sl w u l) (hv : Sl w v m) : Calls Try.prog 13 #[u, v] w (NewPats (patOf l m) w) := by
  have U := Lib.hid hu
  have V := Lib.hid hv
  clear hu hv
  cases hl : Vec.ok l
  · have HL := Lib.hid hl
    have E := Lib.hid (show patOf l m = [] by unfold patOf; rw [hl]; rfl)
    clear hl
    go_enter Try.func13, Try.ntmps13
    go_wp2_with fail
    refine (specVecOk _ l _ (U.out.grown (grown_alloc (World.grownBy.refl _ _) _))).mono ?_
    rintro e w' ⟨rfl, rfl⟩
    rw [HL.out]
    go_wp2_with fail
    go_ret
    exact ⟨_, rfl, grown_alloc (World.grownBy.refl _ _) _, by rw [E.out]; exact POwn.made _ _ (Nat.le_refl _)⟩
  cases hm : Vec.ok m
  · have HL := Lib.hid hl
    have HM := Lib.hid hm
    have E := Lib.hid (show patOf l m = [] by unfold patOf; rw [hl, hm]; rfl)
    clear hl hm
    go_enter Try.func13, Try.ntmps13
    go_wp2_with fail
    refine (specVecOk _ l _ (U.out.grown (grown_alloc (World.grownBy.refl _ _) _))).mono ?_
    rintro e w' ⟨rfl, rfl⟩
    rw [HL.out]
    go_wp2_with fail
    refine (specVecOk _ m _ (V.out.grown (grown_alloc (World.grownBy.refl _ _) _))).mono ?_
    rintro e w' ⟨rfl, rfl⟩
    rw [HM.out]
    go_wp2_with fail
    go_ret
    exact ⟨_, rfl, grown_alloc (World.grownBy.refl _ _) _, by rw [E.out]; exact POwn.made _ _ (Nat.le_refl _)⟩
  have OL := Lib.hid hl
  have OM := Lib.hid hm
  have E := Lib.hid (show patOf l m = patO l m 4 by unfold patOf; rw [hl, hm]; rfl)
  have L4 := Lib.hid (Vec.ok_len hl)
  have M4 := Lib.hid (Vec.ok_len hm)
  clear hl hm
  have U' := U.out
  have V' := V.out
  obtain ⟨a, cap, rfl, h1, h2, hr⟩ := U'
  obtain ⟨a', cap', rfl, h1', h2', hr'⟩ := V'
  have R := Lib.hid hr
  have R' := Lib.hid hr'
  unfold maxLen at h2 h2'
  clear hr hr'
  obtain ⟨i0, hi, hz0, hz1, hz2⟩ := info_parts infoPatch
  have I1 := Lib.hid hi
  have I2 := Lib.hid hz0
  have I3 := Lib.hid hz1
  have I4 := Lib.hid hz2
  clear hi hz0 hz1 hz2
  have n4 : l.length = 4 := L4.out
  have n4' : m.length = 4 := M4.out
  rw [n4] at U h1 ⊢
  rw [n4'] at V h1' ⊢
  clear n4 n4'
  go_enter Try.func13, Try.ntmps13
  go_wp2_with fail
  refine (specVecOk _ l _ (U.out.grown (grown_alloc (World.grownBy.refl _ _) _))).mono ?_
  rintro e w' ⟨rfl, rfl⟩
  rw [OL.out]
  go_wp2_with fail
  refine (specVecOk _ m _ (V.out.grown (grown_alloc (World.grownBy.refl _ _) _))).mono ?_
  rintro e w' ⟨rfl, rfl⟩
  rw [OM.out]
  go_wp2_with fail
  go_loopw [5, 6] (fun ov i wr => ∃ k : Nat, k ≤ 4 ∧ i = .int .i64 k ∧ w.grownBy wr none ∧ POwn wr w.heap.size ov (patO l m k)) (fun _ i _ => 4 - (intOf i).toNat)
  case atStart => exact ⟨0, by omega, rfl, grown_alloc (World.grownBy.refl _ _) _, POwn.made _ _ (Nat.le_refl _)⟩
  case round =>
    obtain ⟨k, hk, rfl, hg, hO⟩ := hrel
    have G := Lib.hid hg
    have O := Lib.hid hO
    clear hg hO
    by_cases hlt : k < 4
    · have hlt' : (k : Int) < 4 := by omega
      have ox := Vec.ok_get OL.out hlt
      have oy := Vec.ok_get OM.out hlt
      obtain ⟨b, o, rfl, d0⟩ := R.out.at_ (k := k) (by rw [L4.out]; exact hlt)
      obtain ⟨b', o', rfl, d1⟩ := R'.out.at_ (k := k) (by rw [M4.out]; exact hlt)
      have c0 := G.out.cell d0 (by simp)
      have c1 := G.out.cell d1 (by simp)
      have NA := Lib.hid (show some b ≠ u5.ownBlock from fun e => by have := (O.out.lt b e.symm).1; have h2 : b < w.heap.size := lt_of_cell d0; omega)
      have NB := Lib.hid (show some b' ≠ u5.ownBlock from fun e => by have := (O.out.lt b' e.symm).1; have h2 : b' < w.heap.size := lt_of_cell d1; omega)
      have PS := Lib.hid (patO_same (a := l) (b := m) (n := k))
      have PN := Lib.hid (patO_next (a := l) (b := m) (n := k))
      have PL := Lib.hid (Nat.le_trans (patO_le l m k) hk)
      clear d0 d1
      generalize l.getD k 0 = x at *
      generalize m.getD k 0 = y at *
      have c0' : wr.drew.cell? ⟨b, o + k, none⟩ = some (.int .i64 x) := c0
      have c1' : wr.drew.cell? ⟨b', o' + k, none⟩ = some (.int .i64 y) := c1
      by_cases hxy : x = y
      · have hne : (x != y) = false := by simp [hxy]
        have E2 := Lib.hid (PS.out hxy)
        clear PS PN hxy
        go_wp2_with fail
        go_quiet (fail)
        go_wp2_with fail
        go_roundw
        case rel => exact ⟨k + 1, by omega, by go_num, grown_draws G.out _, by rw [E2.out]; exact O.out.still (grown_still _ _)⟩
        case measure => simp [intOf]; omega
      · have hne : (x != y) = true := by simp [hxy]
        have E2 := Lib.hid (PN.out hxy)
        clear PS PN hxy
        go_wp2_with fail
        go_quiet (fail)
        go_upto_region 8 with fail
        refine wp_region_held (S := fun W' => W'.cell? ⟨b, o + k, none⟩ = some (.int .i64 x) ∧ W'.cell? ⟨b', o' + k, none⟩ = some (.int .i64 y)) (by kernel_rfl) ?_
        change wpAnyH _ _ _ _ _ _ _ _ (wr.drewN nq).drew
        have Z : Hid ((wr.drewN nq).drew.cell? ⟨b, o + k, none⟩ = some (.int .i64 x) ∧ (wr.drewN nq).drew.cell? ⟨b', o' + k, none⟩ = some (.int .i64 y)) := Lib.hid ⟨c0', c1'⟩
        replace G := Lib.hid (grown_drew (grown_draws G.out nq))
        replace O := Lib.hid (show POwn (wr.drewN nq).drew w.heap.size u5 (patO l m k) from O.out.still (grown_drew (grown_still wr nq)))
        have BA := Lib.hid (show w.heap.size ≤ (wr.drewN nq).drew.heap.size from G.out.size)
        have BL := Lib.hid (Nat.le_refl w.heap.size)
        clear c0 c1 c0' c1'
        generalize (wr.drewN nq).drew = W at *
        refine Rg.take_ 0 (some 32) (u5) rfl rfl (by kernel_rfl) (by kernel_rfl) (by kernel_rfl) (fun _ _ _ h => h) (.inl ⟨by rfl, fun W' hS => (by go_simp)⟩) Z.out ?_
        simp only [Act.put, List.setIfInBounds_toArray, List.set_cons_zero, List.set_cons_succ]
        refine Rg.take_ 1 (some 33) (.int .i64 k) rfl rfl (by kernel_rfl) (by kernel_rfl) (by kernel_rfl) (fun _ _ _ h => h) (.inl ⟨by rfl, fun W' hS => (by go_simp)⟩) Z.out ?_
        simp only [Act.put, List.setIfInBounds_toArray, List.set_cons_zero, List.set_cons_succ]
        refine Rg.take_ 2 (some 34) (.slice (some ⟨b', o', none⟩) 4 cap') rfl rfl (by kernel_rfl) (by kernel_rfl) (by kernel_rfl) (fun _ _ _ h => h) (.inl ⟨by rfl, fun W' hS => (by go_simp)⟩) Z.out ?_
        simp only [Act.put, List.setIfInBounds_toArray, List.set_cons_zero, List.set_cons_succ]
        refine Rg.take_ 3 (some 35) (.int .i64 k) rfl rfl (by kernel_rfl) (by kernel_rfl) (by kernel_rfl) (fun _ _ _ h => h) (.inl ⟨by rfl, fun W' hS => (by go_simp)⟩) Z.out ?_
        simp only [Act.put, List.setIfInBounds_toArray, List.set_cons_zero, List.set_cons_succ]
        refine Rg.take_ 4 (some 36) (.pointer (some ⟨b', o' + k, none⟩)) rfl rfl (by kernel_rfl) (by kernel_rfl) (by kernel_rfl) (fun _ _ _ h => h) (.inl ⟨by rfl, fun W' hS => (by go_simp)⟩) Z.out ?_
        simp only [Act.put, List.setIfInBounds_toArray, List.set_cons_zero, List.set_cons_succ]
        refine Rg.take_ 5 (some 37) (.int .i64 y) rfl rfl (by kernel_rfl) (by kernel_rfl) (by kernel_rfl) (fun _ _ _ h => h) (.inl ⟨by rfl, fun W' hS => (by have c0 := hS.2; go_simp)⟩) Z.out ?_
        simp only [Act.put, List.setIfInBounds_toArray, List.set_cons_zero, List.set_cons_succ]
        refine Rg.take_ 6 (some 38) (.slice (some ⟨b, o, none⟩) 4 cap) rfl rfl (by kernel_rfl) (by kernel_rfl) (by kernel_rfl) (fun _ _ _ h => h) (.inl ⟨by rfl, fun W' hS => (by go_simp)⟩) Z.out ?_
        simp only [Act.put, List.setIfInBounds_toArray, List.set_cons_zero, List.set_cons_succ]
        refine Rg.take_ 7 (some 39) (.int .i64 k) rfl rfl (by kernel_rfl) (by kernel_rfl) (by kernel_rfl) (fun _ _ _ h => h) (.inl ⟨by rfl, fun W' hS => (by go_simp)⟩) Z.out ?_
        simp only [Act.put, List.setIfInBounds_toArray, List.set_cons_zero, List.set_cons_succ]
        refine Rg.take_ 8 (some 40) (.pointer (some ⟨b, o + k, none⟩)) rfl rfl (by kernel_rfl) (by kernel_rfl) (by kernel_rfl) (fun _ _ _ h => h) (.inl ⟨by rfl, fun W' hS => (by go_simp)⟩) Z.out ?_
        simp only [Act.put, List.setIfInBounds_toArray, List.set_cons_zero, List.set_cons_succ]
        refine Rg.take_ 9 (some 41) (.int .i64 x) rfl rfl (by kernel_rfl) (by kernel_rfl) (by kernel_rfl) (fun _ _ _ h => h) (.inl ⟨by rfl, fun W' hS => (by have c0 := hS.1; go_simp)⟩) Z.out ?_
        simp only [Act.put, List.setIfInBounds_toArray, List.set_cons_zero, List.set_cons_succ]
        refine Rg.ready_one (i := 10) (by kernel_rfl) rfl rfl ?_
        refine Rg.call_at (some 42) (f := 45) (args := #[.int .i64 y, .int .i64 x]) rfl (by go_simp) ((specDifIn y x _ oy ox).mono ?_)
        rintro e W1 ⟨rfl, rfl⟩
        refine ⟨_, rfl, Z.out, ?_⟩
        simp only [Act.put, List.setIfInBounds_toArray, List.set_cons_zero, List.set_cons_succ]
        generalize (y - x) % 31 = q at *
        refine Rg.ready_one (i := 11) (by kernel_rfl) rfl rfl ?_
        refine Rg.value_at (some 43) (.agg #[.int .i64 k, .int .i64 q]) W rfl (by go_simp) ?_
        refine ⟨Z.out, ?_⟩
        simp only [Act.put, List.setIfInBounds_toArray, List.set_cons_zero, List.set_cons_succ]
        refine Rg.ready_one (i := 12) (by kernel_rfl) rfl rfl ?_
        refine Rg.value_at (some 44) (.slice (some ⟨W.heap.size, 0, none⟩) 1 1) (W.alloc (.cells #[.int .i64 k, .int .i64 q] 32)) rfl (by go_simp) ?_
        have ga := World.grownBy_alloc W (.cells #[.int .i64 k, .int .i64 q] 32) none
        replace Z := Lib.hid (And.intro (ga.cell Z.out.1 (by simp)) (ga.cell Z.out.2 (by simp)))
        replace G := Lib.hid (grown_trans G.out ga)
        replace O := Lib.hid (O.out.still ga)
        have BG := Lib.hid (Nat.le_trans BA.out ga.size)
        have HC := Lib.hid (two_cells (w := W) (x := .int .i64 (k : Int)) (y := .int .i64 q) (t := 32))
        clear ga
        refine ⟨Z.out, ?_⟩
        simp only [Act.put, List.setIfInBounds_toArray, List.set_cons_zero, List.set_cons_succ]
        generalize W.heap.size = N0 at *
        generalize W.alloc (.cells #[.int .i64 k, .int .i64 q] 32) = W at *
        refine Rg.ready_one (i := 13) (by kernel_rfl) rfl rfl ?_
        refine wp_append_own _ _ _ 26 rfl w.heap.size 32 i0 (.agg #[.int .i64 0, .int .i64 0]) 2 16 Try.underlying26 I1.out I2.out I3.out I4.out rfl (by decide) _ _ _ rfl O.out ⟨N0, 0, none⟩ 1 1 [.int .i64 k, .int .i64 q] rfl rfl HC.out (vals_one [(k : Int), q]) ?_ ?_ BG.out ?_
        · have := PL.out; unfold maxLen; omega
        · have := PL.out; omega
        intro nv W2 hown hgr _
        have O2 := Lib.hid (pown_snoc hown rfl)
        replace Z := Lib.hid (And.intro (hgr.cell Z.out.1 NA.out) (hgr.cell Z.out.2 NB.out))
        replace G := Lib.hid (grown_own G.out hgr (fun j hj => by have h1 := (O.out.lt j hj).1; have h2 := BL.out; omega))
        have SZ := hgr.size
        replace BG := Lib.hid (Nat.le_trans BG.out SZ)
        clear hown hgr SZ O HC
        refine ⟨Z.out, ?_⟩
        simp only [Act.put, List.setIfInBounds_toArray]
        refine Rg.ready_one (i := 14) (by kernel_rfl) rfl rfl ?_
        refine Rg.value_at (some 5) nv W2 rfl (by go_simp) ?_
        refine ⟨Z.out, ?_⟩
        simp only [Act.put]
        refine wpAnyH_done (by kernel_rfl) ?_ _
        go_wp2_with fail
        go_roundw
        case rel => exact ⟨k + 1, by omega, by go_num, G.out, by rw [E2.out]; exact O2.out⟩
        case measure => simp [intOf]; omega
    · obtain rfl : k = 4 := by omega
      have R4 := Lib.hid (show POwn wr w.heap.size u5 (patOf l m) by rw [E.out]; exact O.out)
      go_wp2_with fail
      go_ret
      exact ⟨_, rfl, G.out, R4.out⟩
end Go.Proofs.Ythglkgicckodaaa
