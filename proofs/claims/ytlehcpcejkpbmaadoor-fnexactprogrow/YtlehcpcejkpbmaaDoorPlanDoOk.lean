/-
  The contracts of the program's PlanOk and PlanDo.
  Conditions: none.
-/
import Derived.Test.YtlehcpcejkpbmaaDoorPlanSums
import Derived.Test.YtlehcpcejkpbmaaDoorSpanSame
namespace Go.Proofs.YtlehcpcejkpbmaaDoor
open Go.RowKit
set_option linter.unusedVariables false

theorem storeT (w : World) {l : List Int} (hl : l.length = 8) : (storeCells ⟨w.heap.size, 0, none⟩ (vals l) 0).run Tryd.prog (w.alloc (.cells #[.int .i64 0, .int .i64 0, .int .i64 0, .int .i64 0, .int .i64 0, .int .i64 0, .int .i64 0, .int .i64 0] 68)) = .ok () (w.alloc (.cells (vals l).toArray 68)) := by
  have h := run_storeCells_from (P := Tryd.prog) w.heap.size 68 (vals l) 0 _ (w.alloc (.cells #[.int .i64 0, .int .i64 0, .int .i64 0, .int .i64 0, .int .i64 0, .int .i64 0, .int .i64 0, .int .i64 0] 68)) (heap_alloc_last w _) (by rw [vals_length, hl]; rfl) (vals_one l)
  rw [h, World.setRow_alloc_new]
  rfl
theorem planV_four (k : Nat) (l m : List Int) (i : Nat) : ∃ x y z u, planV k l m i = [x, y, z, u] ∧ Vec.ok [x, y, z, u] = true := ⟨_, _, _, _, rfl, planV_ok k l m i⟩

/-- what the last test of PlanOk looks at. -/
structure HeldP (k bg bt bp n : Nat) (t : List Int) (W : World) : Prop where
  arr : Arr W bg 85 (grid k)
  tim : Arr W bt 68 t
  lost : W.cell? ⟨bp, 0, none⟩ = some (.int .i64 n)
theorem HeldP.keep {k bg bt bp n : Nat} {t : List Int} {W W' : World} (h : HeldP k bg bt bp n t W) (hg : W.grownBy W' none) : HeldP k bg bt bp n t W' :=
  ⟨h.arr.still hg, h.tim.still hg, hg.cell h.lost (by simp)⟩
theorem HeldP.row {k bg bt bp n : Nat} {t : List Int} {W : World} (h : HeldP k bg bt bp n t W) (GG : ∀ i, i < 4 → (grid k).getD (n * 4 + i) 0 = (Sp.crow k n).getD i 0) {x0 x1 x2 x3 : Int} (hc : Sp.crow k n = [x0, x1, x2, x3]) (GL : (grid k).length = 32) (hl : n < 8) :
    W.cell? ⟨bg, n * 4, none⟩ = some (.int .i64 x0) ∧ W.cell? ⟨bg, n * 4 + 1, none⟩ = some (.int .i64 x1) ∧ W.cell? ⟨bg, n * 4 + 2, none⟩ = some (.int .i64 x2) ∧ W.cell? ⟨bg, n * 4 + 3, none⟩ = some (.int .i64 x3) := by
  have key : ∀ i, i < 4 → W.cell? ⟨bg, n * 4 + i, none⟩ = some (.int .i64 ((Sp.crow k n).getD i 0)) := fun i hi => by rw [h.arr.cell (by omega), GG i hi]
  rw [hc] at key
  exact ⟨key 0 (by omega), key 1 (by omega), key 2 (by omega), key 3 (by omega)⟩

set_option maxHeartbeats 8000000 in
set_option maxRecDepth 20000 in
theorem implPlanOk (k n : Int) (u v : Value) (l m : List Int) (w : World) (hu : Sl w u l) (hv : Sl w v m) :
    Calls Tryd.prog 22 #[.int .i64 k, .agg #[.int .i64 n, u, v]] w fun e w' => e = .returned (.bool (okP k n l m)) ∧ w.grownBy w' none := by
  have U := Lib.hid hu
  have V := Lib.hid hv
  obtain ⟨a1, c1, e1, _, _, _⟩ := hu
  obtain ⟨a2, c2, e2, _, _, _⟩ := hv
  subst e1 e2
  obtain ⟨nl, hnl⟩ : ∃ x, l.length = x := ⟨_, rfl⟩
  obtain ⟨ml, hml⟩ : ∃ x, m.length = x := ⟨_, rfl⟩
  rw [hnl] at U ⊢
  rw [hml] at V ⊢
  clear hnl hml
  have R0 : Hid (Blk (w.alloc (.cells #[.int .i64 n, .slice a1 nl c1, .slice a2 ml c2] 25)) w.heap.size 25 [.int .i64 n, .slice a1 nl c1, .slice a2 ml c2]) := Lib.hid (heap_alloc_new _ _)
  have G0 := Lib.hid (grown_alloc (World.grownBy.refl w none) (.cells #[.int .i64 n, .slice a1 nl c1, .slice a2 ml c2] 25))
  go_enter Tryd.func22, Tryd.ntmps22
  go_wp2_with fail
  generalize w.alloc (.cells #[.int .i64 n, .slice a1 nl c1, .slice a2 ml c2] 25) = w0 at *
  generalize w.heap.size = bp at *
  refine (implGen k _).mono ?_
  rintro e w1 ⟨L, bk, hL, hbk, hbL, rfl, hg⟩
  have hs := storeNew w1 hL
  have hvl : (vals L).length = 32 := by rw [vals_length]; exact hL
  have G2 := Lib.hid (grown_alloc (grown_trans G0.out hg) (.cells (vals L).toArray 85))
  have A2 := Lib.hid (Arr.new w1 85 L)
  have R2 := Lib.hid ((R0.out.kept hg (by simp)).kept (World.grownBy_alloc w1 (.cells (vals L).toArray 85) none) (by simp))
  have k0 := R2.out.cell (i := 0) rfl
  have k1 := R2.out.cell (i := 1) rfl
  have k2 := R2.out.cell (i := 2) rfl
  have HL := Lib.hid hL
  have BK := Lib.hid hbk
  have BL := Lib.hid hbL
  clear hg hL hbk hbL R0 G0
  go_upto_region 2 with fail
  clear hs hvl
  generalize w1.alloc (.cells (vals L).toArray 85) = w2 at *
  generalize w1.heap.size = g at *
  go_wp2_with fail
  refine (implTimes n _ _ l m _ (U.out.grown G2.out) (V.out.grown G2.out)).mono ?_
  rintro e w5 ⟨rfl, hg⟩
  have hT := sprOr_len n l m
  have OT := Lib.hid (sprOr_ok n l m)
  have GP := Lib.hid (fun (k : Nat) (hk : k = 1 ∨ k = 2) (h : pForm n l m = true) => gco_plan hk h)
  obtain ⟨t, ht⟩ : ∃ t, sprOr n l m = t := ⟨_, rfl⟩
  rw [ht] at hT OT GP ⊢
  clear ht
  have hs := storeT w5 hT
  have hvl : (vals t).length = 8 := by rw [vals_length]; exact hT
  have G6 := Lib.hid (grown_alloc (grown_trans G2.out hg) (.cells (vals t).toArray 68))
  have A6 := Lib.hid ((A2.out.still hg).alloc (.cells (vals t).toArray 68))
  have R6 := Lib.hid ((R2.out.kept hg (by simp)).kept (World.grownBy_alloc w5 (.cells (vals t).toArray 68) none) (by simp))
  have T6 := Lib.hid (Arr.new w5 68 t)
  have HT := Lib.hid hT
  have KO : Hid (okP k n l m = (decide (k = 1 ∨ k = 2) && (pForm n l m && decide (planV k.toNat l m l.length = Sp.crow k.toNat n.toNat)))) := Lib.hid rfl
  have PF : Hid (pForm n l m = true → 0 ≤ n ∧ n < 8) := Lib.hid (fun h => (of_decide_eq_true (pForm_out h).1).1)
  obtain ⟨q, hq⟩ : ∃ q, pForm n l m = q := ⟨_, rfl⟩
  rw [hq] at KO GP PF ⊢
  clear hq hg A2 R2 G2 hT U V k0 k1 k2
  go_upto_region 3 with fail
  clear hs hvl
  generalize w5.alloc (.cells (vals t).toArray 68) = w6 at *
  generalize w5.heap.size = gt at *
  cases bk with
  | false =>
    have NO : Hid (okP k n l m = false) := Lib.hid (by rw [KO.out, show decide (k = 1 ∨ k = 2) = false from decide_eq_false (fun h => by have := BK.out.2 h; cases this)]; rfl)
    clear KO A6 R6 T6
    go_quiet (fail)
    go_wp2_with fail
    go_ret
    exact ⟨by rw [NO.out]; rfl, grown_draws G6.out _⟩
  | true =>
    cases q with
    | false =>
      have NO : Hid (okP k n l m = false) := Lib.hid (by rw [KO.out]; simp)
      clear KO A6 R6 T6
      go_quiet (fail)
      go_wp2_with fail
      go_ret
      exact ⟨by rw [NO.out]; rfl, grown_draws G6.out _⟩
    | true =>
      have kk := BK.out.1 rfl
      obtain ⟨j, rfl, hj⟩ : ∃ j : Nat, k = j ∧ (j = 1 ∨ j = 2) := ⟨k.toNat, by omega, by omega⟩
      obtain rfl : L = grid j := by have := BL.out rfl; simpa using this
      have hn := PF.out rfl
      obtain ⟨i, rfl⟩ : ∃ i : Nat, n = i := ⟨n.toNat, by omega⟩
      have hi8 : i < 8 := by omega
      obtain ⟨x0, x1, x2, x3, hcr, _⟩ := crow_four hj hi8
      have GG := Lib.hid (fun p (hp : p < 4) => grid_get hj hi8 (i := p) hp)
      have SS : Hid (HeldP j g gt bp i t w6.drew) := Lib.hid ⟨A6.out.drew, T6.out.drew, R6.out.cell (i := 0) rfl⟩
      have GL := grid_len j hj
      have zg : (Tryd.prog.info? 85).map (·.size) = some (vals (grid j)).toArray.size := by rw [show (vals (grid j)).toArray.size = 32 by simp [vals_length, GL]]; kernel_rfl
      have zx : (Tryd.prog.info? 68).map (·.size) = some (vals t).toArray.size := by rw [show (vals t).toArray.size = 8 by simp [vals_length, HT.out]]; kernel_rfl
      have EC := enters_of (P := Tryd.prog) Tryd.func55 (by kernel_rfl) rfl
      refine wp_region_held (S := HeldP j g gt bp i t) (by kernel_rfl) ?_
      refine take_ 0 (some 19) (.bool true) rfl rfl (by kernel_rfl) (by kernel_rfl) (by kernel_rfl) (fun _ _ _ h => h) (.inl ⟨by rfl, fun W' hS => (by go_simp)⟩) SS.out ?_
      simp only [Act.put, List.setIfInBounds_toArray, List.set_cons_zero, List.set_cons_succ]
      refine take_ 1 (some 20) (.bool true) rfl rfl (by kernel_rfl) (by kernel_rfl) (by kernel_rfl) (fun _ _ _ h => h) (.inl ⟨by rfl, fun W' hS => (by go_simp)⟩) SS.out ?_
      simp only [Act.put, List.setIfInBounds_toArray, List.set_cons_zero, List.set_cons_succ]
      refine take_ 2 (some 21) (.bool true) rfl rfl (by kernel_rfl) (by kernel_rfl) (by kernel_rfl) (fun _ _ _ h => h) (.inl ⟨by rfl, fun W' hS => (by go_simp)⟩) SS.out ?_
      simp only [Act.put, List.setIfInBounds_toArray, List.set_cons_zero, List.set_cons_succ]
      refine take_ 3 (some 22) (.bool true) rfl rfl (by kernel_rfl) (by kernel_rfl) (by kernel_rfl) (fun _ _ _ h => h) (.inl ⟨by rfl, fun W' hS => (by go_simp)⟩) SS.out ?_
      simp only [Act.put, List.setIfInBounds_toArray, List.set_cons_zero, List.set_cons_succ]
      refine take_ 4 (some 23) (.bool true) rfl rfl (by kernel_rfl) (by kernel_rfl) (by kernel_rfl) (fun _ _ _ h => h) (.inl ⟨by rfl, fun W' hS => (by go_simp)⟩) SS.out ?_
      simp only [Act.put, List.setIfInBounds_toArray, List.set_cons_zero, List.set_cons_succ]
      refine take_ 5 (some 24) (.agg (vals (grid j)).toArray) rfl rfl (by kernel_rfl) (by kernel_rfl) (by kernel_rfl) (fun _ _ _ h => h) (yields_row _ _ rfl rfl g rfl _ _ _ (fun W' hS => hS.arr) Tryd.underlying85 rfl zg) SS.out ?_
      simp only [Act.put, List.setIfInBounds_toArray, List.set_cons_zero, List.set_cons_succ]
      refine take_ 6 (some 25) (.agg (vals t).toArray) rfl rfl (by kernel_rfl) (by kernel_rfl) (by kernel_rfl) (fun _ _ _ h => h) (yields_row _ _ rfl rfl gt rfl _ _ _ (fun W' hS => hS.tim) Tryd.underlying68 rfl zx) SS.out ?_
      simp only [Act.put, List.setIfInBounds_toArray, List.set_cons_zero, List.set_cons_succ]
      refine take_ 8 (some 27) (.pointer (some ⟨bp, 0, none⟩)) rfl rfl (by kernel_rfl) (by kernel_rfl) (by kernel_rfl) (fun _ _ _ h => h) (.inl ⟨by rfl, fun W' hS => (by go_simp)⟩) SS.out ?_
      simp only [Act.put, List.setIfInBounds_toArray, List.set_cons_zero, List.set_cons_succ]
      refine take_ 9 (some 28) (.int .i64 i) rfl rfl (by kernel_rfl) (by kernel_rfl) (by kernel_rfl) (fun _ _ _ h => h) (.inl ⟨by rfl, fun W' hS => (by have cl := hS.lost; go_simp)⟩) SS.out ?_
      simp only [Act.put, List.setIfInBounds_toArray, List.set_cons_zero, List.set_cons_succ]
      refine take_ 10 (some 29) (.pointer (some ⟨g, i * 4, none⟩)) rfl rfl (by kernel_rfl) (by kernel_rfl) (by kernel_rfl) (fun _ _ _ h => h) (.inl ⟨by rfl, fun W' hS => (by go_simp)⟩) SS.out ?_
      simp only [Act.put, List.setIfInBounds_toArray, List.set_cons_zero, List.set_cons_succ]
      refine take_ 11 (some 30) (.agg #[.int .i64 x0, .int .i64 x1, .int .i64 x2, .int .i64 x3]) rfl rfl (by kernel_rfl) (by kernel_rfl) (by kernel_rfl) (fun _ _ _ h => h) (.inl ⟨by rfl, fun W' hS => (by obtain ⟨c0, c1, c2, c3⟩ := hS.row GG.out hcr GL hi8; go_simp)⟩) SS.out ?_
      simp only [Act.put, List.setIfInBounds_toArray, List.set_cons_zero, List.set_cons_succ]
      obtain ⟨y0, y1, y2, y3, hpv, _⟩ := planV_four j l m l.length
      have HPV := Lib.hid hpv
      refine ready_one (i := 7) (by kernel_rfl) rfl rfl ?_
      refine call_at (some 26) (f := 55) (args := #[.agg (vals (grid j)).toArray, .agg (vals t).toArray]) rfl (by go_simp) ((genCombine hj t HT.out OT.out _).mono ?_)
      rintro e w7 ⟨rfl, hg⟩
      rw [GP.out j hj rfl, hpv]
      have S7 := Lib.hid (SS.out.keep hg)
      have G7 := Lib.hid (grown_trans (grown_drew G6.out) hg)
      refine ⟨.agg #[.int .i64 y0, .int .i64 y1, .int .i64 y2, .int .i64 y3], rfl, S7.out, ?_⟩
      simp only [Act.put, List.setIfInBounds_toArray, List.set_cons_zero, List.set_cons_succ]
      have heq : ∀ W : World, (Op.equalIn 10000 83 (.agg #[.int .i64 y0, .int .i64 y1, .int .i64 y2, .int .i64 y3]) (.agg #[.int .i64 x0, .int .i64 x1, .int .i64 x2, .int .i64 x3])).run Tryd.prog W = .ok (decide ([y0, y1, y2, y3] = [x0, x1, x2, x3])) W := fun W => rowsEq _ _ _ _ _ _ _ _ W
      have OK : Hid (okP j i l m = decide ([y0, y1, y2, y3] = [x0, x1, x2, x3])) := Lib.hid (by
        rw [KO.out, show decide ((j : Int) = 1 ∨ (j : Int) = 2) = true from decide_eq_true (by omega)]
        simp only [Int.toNat_natCast, HPV.out, hcr, Bool.true_and])
      generalize decide ([y0, y1, y2, y3] = [x0, x1, x2, x3]) = r at *
      refine take_ 12 (some 31) (.bool r) rfl rfl (by kernel_rfl) (by kernel_rfl) (by kernel_rfl) (fun _ _ _ h => h) (.inl ⟨by rfl, fun W' hS => (by have he := heq W'; go_simp)⟩) S7.out ?_
      simp only [Act.put, List.setIfInBounds_toArray, List.set_cons_zero, List.set_cons_succ]
      refine take_ 13 (some 32) (.bool r) rfl rfl (by kernel_rfl) (by kernel_rfl) (by kernel_rfl) (fun _ _ _ h => h) (.inl ⟨by rfl, fun W' hS => (by go_simp)⟩) S7.out ?_
      simp only [Act.put, List.setIfInBounds_toArray, List.set_cons_zero, List.set_cons_succ]
      refine take_ 14 (some 4) (.bool r) rfl rfl (by kernel_rfl) (by kernel_rfl) (by kernel_rfl) (fun _ _ _ h => h) (.inl ⟨by rfl, fun W' hS => (by go_simp)⟩) S7.out ?_
      simp only [Act.put, List.setIfInBounds_toArray, List.set_cons_zero, List.set_cons_succ]
      refine wpAnyH_done (by kernel_rfl) ?_ _
      clear heq
      go_wp2_with fail
      go_ret
      exact ⟨by rw [OK.out]; rfl, G7.out⟩

set_option maxHeartbeats 8000000 in
set_option maxRecDepth 20000 in
theorem implPlanDo (n : Int) (u v x : Value) (l m a : List Int) (w : World) (hu : Sl w u l) (hv : Sl w v m) (hx : Sl w x a) :
    Calls Tryd.prog 18 #[.agg #[.int .i64 n, u, v], x] w fun e w' => e = .returned (.tuple #[.int .i64 (doN n l m a), .bool (doP n l m a)]) ∧ w.grownBy w' none := by
  have U := Lib.hid hu
  have V := Lib.hid hv
  have X := Lib.hid hx
  clear hx
  obtain ⟨a1, c1, e1, _, _, _⟩ := hu
  obtain ⟨a2, c2, e2, _, _, _⟩ := hv
  subst e1 e2
  obtain ⟨nl, hnl⟩ : ∃ x, l.length = x := ⟨_, rfl⟩
  obtain ⟨ml, hml⟩ : ∃ x, m.length = x := ⟨_, rfl⟩
  rw [hnl] at U ⊢
  rw [hml] at V ⊢
  clear hnl hml
  have R0 : Hid (Blk (w.alloc (.cells #[.int .i64 n, .slice a1 nl c1, .slice a2 ml c2] 25)) w.heap.size 25 [.int .i64 n, .slice a1 nl c1, .slice a2 ml c2]) := Lib.hid (heap_alloc_new _ _)
  have G0 := Lib.hid (grown_alloc (World.grownBy.refl w none) (.cells #[.int .i64 n, .slice a1 nl c1, .slice a2 ml c2] 25))
  go_enter Tryd.func18, Tryd.ntmps18
  go_upto_region 1 with fail
  generalize w.alloc (.cells #[.int .i64 n, .slice a1 nl c1, .slice a2 ml c2] 25) = w0 at *
  generalize w.heap.size = bp at *
  have k0 := R0.out.cell (i := 0) rfl
  have k1 := R0.out.cell (i := 1) rfl
  have k2 := R0.out.cell (i := 2) rfl
  go_wp2_with fail
  refine (implTimes n _ _ l m _ (U.out.grown G0.out) (V.out.grown G0.out)).mono ?_
  rintro e w5 ⟨rfl, hg⟩
  have hT := sprOr_len n l m
  have OT := Lib.hid (sprOr_ok n l m)
  have DS : Hid (pForm n l m = true → Sp.csum a (sprOr n l m) 8 = dsum a l m l.length) := Lib.hid (fun h => by
    rw [show sprOr n l m = spr l m l.length by simp [sprOr, h]]
    exact csum_spr a _ (pForm_out h).2)
  have DN : Hid (doN n l m a = bif (pForm n l m && shOk a) then dsum a l m l.length else 0) := Lib.hid rfl
  have DP : Hid (doP n l m a = (pForm n l m && shOk a)) := Lib.hid rfl
  obtain ⟨t, ht⟩ : ∃ t, sprOr n l m = t := ⟨_, rfl⟩
  rw [ht] at hT OT DS ⊢
  clear ht
  have hs := storeT w5 hT
  have hvl : (vals t).length = 8 := by rw [vals_length]; exact hT
  have G6 := Lib.hid (grown_alloc (grown_trans G0.out hg) (.cells (vals t).toArray 68))
  have T6 := Lib.hid (Arr.new w5 68 t)
  have HT := Lib.hid hT
  obtain ⟨q, hq⟩ : ∃ q, pForm n l m = q := ⟨_, rfl⟩
  rw [hq] at DS DN DP ⊢
  clear hq hg R0 G0 hT U V k0 k1 k2
  go_upto_region 2 with fail
  clear hs hvl
  generalize w5.alloc (.cells (vals t).toArray 68) = w6 at *
  generalize w5.heap.size = gt at *
  go_wp2_with fail
  refine (implShards x a _ (X.out.grown G6.out)).mono ?_
  rintro e w7 ⟨rfl, hg⟩
  have hS := shOr_len a
  have RA : Hid (shOk a = true → shOr a = a ∧ ∀ y ∈ a, Fld.ok y = true) := Lib.hid (fun h => ⟨by simp [shOr, h], (shOk_row.1 h).2⟩)
  obtain ⟨b, hb⟩ : ∃ b, shOr a = b := ⟨_, rfl⟩
  rw [hb] at hS RA ⊢
  clear hb
  have hs := storeS w7 hS
  have hvl : (vals b).length = 8 := by rw [vals_length]; exact hS
  have G8 := Lib.hid (grown_alloc (grown_trans G6.out hg) (.cells (vals b).toArray 77))
  have T8 := Lib.hid ((T6.out.still hg).alloc (.cells (vals b).toArray 77))
  have S8 := Lib.hid (Arr.new w7 77 b)
  have HS := Lib.hid hS
  obtain ⟨p, hp⟩ : ∃ q, shOk a = q := ⟨_, rfl⟩
  rw [hp] at RA DN DP ⊢
  clear hp hg T6 G6 hS X
  go_upto_region 3 with fail
  clear hs hvl
  generalize w7.alloc (.cells (vals b).toArray 77) = w8 at *
  generalize w7.heap.size = gs at *
  cases q with
  | false =>
    clear T8 S8
    go_wp2_with fail
    exact bodyPost_ret (v := .tuple #[.int .i64 0, .bool false]) (by simp [results, Tryd.results18, go_sem]) rfl ⟨by rw [DN.out, DP.out]; rfl, G8.out⟩
  | true =>
    cases p with
    | false =>
      clear T8 S8
      go_wp2_with fail
      exact bodyPost_ret (v := .tuple #[.int .i64 0, .bool false]) (by simp [results, Tryd.results18, go_sem]) rfl ⟨by rw [DN.out, DP.out]; rfl, G8.out⟩
    | true =>
      obtain ⟨rfl, oa⟩ := RA.out rfl
      have OA := Lib.hid oa
      clear oa
      have zs : (Tryd.prog.info? 77).map (·.size) = some (vals b).toArray.size := by rw [show (vals b).toArray.size = 8 by simp [vals_length, HS.out]]; kernel_rfl
      have zt : (Tryd.prog.info? 68).map (·.size) = some (vals t).toArray.size := by rw [show (vals t).toArray.size = 8 by simp [vals_length, HT.out]]; kernel_rfl
      go_upto_region 5 with fail
      apply wp_region_lit
      refine wpList_load_row rfl _ _ rfl gs rfl _ _ _ _ S8.out Tryd.underlying77 rfl zs ?_
      refine wpList_load_row rfl _ _ rfl gt rfl _ _ _ _ T8.out Tryd.underlying68 rfl zt ?_
      clear zs zt
      go_wp2_with fail
      refine (combine b t HS.out HT.out OA.out OT.out _).mono ?_
      rintro e w9 ⟨rfl, hg⟩
      have G9 := Lib.hid (grown_trans G8.out hg)
      clear hg
      go_wp2_with fail
      exact bodyPost_ret (v := .tuple #[.int .i64 (Sp.csum b t 8), .bool true]) (by simp [results, Tryd.results18, go_sem]) rfl ⟨by rw [DN.out, DP.out, ← DS.out trivial]; rfl, G9.out⟩
end Go.Proofs.YtlehcpcejkpbmaaDoor
