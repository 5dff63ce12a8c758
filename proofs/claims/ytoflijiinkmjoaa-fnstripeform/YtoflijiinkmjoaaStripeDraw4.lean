/-
  The contract of DrawStripeOk: a stripe, spoilt or not.
  Conditions: none.
-/
import Derived.Test.YtoflijiinkmjoaaStripeDraw3
namespace Go.Proofs.Ytoflijiinkmjoaa
open Go.RowKit Go.Shelf
set_option linter.unusedVariables false
set_option linter.unusedSimpArgs false
attribute [local go_sem] Oper.semAt_some

set_option maxHeartbeats 4000000 in
set_option maxRecDepth 20000 in
theorem drawStripeOk (b : Option Addr) (len cap : Nat) (w : World) (h : Code w b len cap) : Calls Try.prog 26 #[.slice b len cap] w (DrawnS w) := by
  have Z0 : Hid (Blk (w.alloc (.cells #[.int .i64 0, .slice none 0 0, .slice none 0 0, .slice none 0 0] 26)) w.heap.size 26 [.int .i64 0, .slice none 0 0, .slice none 0 0, .slice none 0 0]) := Lib.hid (heap_alloc_new _ _)
  have G0 := Lib.hid (grown_alloc (World.grownBy.refl w none) (.cells #[.int .i64 0, .slice none 0 0, .slice none 0 0, .slice none 0 0] 26))
  have S0 : w.heap.size + 1 = (w.alloc (.cells #[.int .i64 0, .slice none 0 0, .slice none 0 0, .slice none 0 0] 26)).heap.size := by simp
  have H0 : Hid (Code (w.alloc (.cells #[.int .i64 0, .slice none 0 0, .slice none 0 0, .slice none 0 0] 26)) b len cap) := Lib.hid (h.below (below_grown G0.out))
  clear h
  go_enter Try.func26, Try.ntmps26
  go_wp2_with fail
  generalize w.alloc (.cells #[.int .i64 0, .slice none 0 0, .slice none 0 0, .slice none 0 0] 26) = w0 at *
  obtain ⟨gz, hgz⟩ : ∃ r, r = w.heap.size := ⟨_, rfl⟩
  rw [← hgz] at Z0 ⊢
  have HZ : w.heap.size ≤ gz := by omega
  have HZ2 : gz < w0.heap.size := by omega
  clear hgz S0
  refine (openR b len cap _ H0.out).mono ?_
  rintro e w1 ⟨rfl, hb1, h1⟩
  have B1 : Hid (Below w.heap.size w w1) := Lib.hid ((below_grown G0.out).trans (hb1.mono (by omega)))
  have Z1 : Hid (Blk w1 gz 26 [.int .i64 0, .slice none 0 0, .slice none 0 0, .slice none 0 0]) := Lib.hid ((hb1.block gz HZ2).trans Z0.out)
  have R1 := Lib.hid h1
  have C1 := h1.lt
  have SW : w.heap.size ≤ w1.heap.size := B1.out.size
  obtain ⟨c, hc⟩ : ∃ c, c = w0.heap.size := ⟨_, rfl⟩
  rw [← hc] at R1 C1 HZ2 ⊢
  have HC : w.heap.size ≤ c := by omega
  clear hb1 h1 Z0 G0 H0 hc
  go_wp2_with fail
  refine (drawStripe c 0 _ R1.out (by omega)).mono ?_
  rintro e wr ⟨k, u, x, y, a, v, f, la, lv, lf, rfl, hf, hr, ho⟩
  obtain ⟨g1, g2, g3, d1, d2, d3, e1, e2, e3, hS⟩ := StAt.new (w := wr) (w' := wr) (k := k) ho la lv lf
  subst e1 e2 e3
  have CP := hS.cap
  unfold maxLen at CP
  have A := Lib.hid hS
  have F := Lib.hid (hf.trans (Far.alloc wr (.cells #[.int .i64 k, .slice (some ⟨g1, 0, none⟩) 8 d1, .slice (some ⟨g2, 0, none⟩) 8 d2, .slice (some ⟨g3, 0, none⟩) 8 d3] 26)))
  have R := Lib.hid (hr.alloc (.cells #[.int .i64 k, .slice (some ⟨g1, 0, none⟩) 8 d1, .slice (some ⟨g2, 0, none⟩) 8 d2, .slice (some ⟨g3, 0, none⟩) 8 d3] 26))
  have Z : Hid (Blk (wr.alloc (.cells #[.int .i64 k, .slice (some ⟨g1, 0, none⟩) 8 d1, .slice (some ⟨g2, 0, none⟩) 8 d2, .slice (some ⟨g3, 0, none⟩) 8 d3] 26)) gz 26 [.int .i64 0, .slice none 0 0, .slice none 0 0, .slice none 0 0]) := Lib.hid ((Z1.out.kept (far_grown hf) (fun e => by injection e with e; omega)).kept (World.grownBy_alloc wr _ none) (by simp))
  have HSC : wr.heap.size ≠ c := by have := hr.lt; omega
  have HSZ : gz < wr.heap.size := by have := hr.lt; omega
  clear hf hr ho la lv lf hS R1 Z1
  go_upto_region 3 with fail
  generalize hwx : wr.alloc (.cells #[.int .i64 k, .slice (some ⟨g1, 0, none⟩) 8 d1, .slice (some ⟨g2, 0, none⟩) 8 d2, .slice (some ⟨g3, 0, none⟩) 8 d3] 26) = wx at *
  generalize wr.heap.size = t at *
  clear hwx wr
  go_wp2_with fail
  refine (pick c _ _ _ R.out (by omega) (by omega) (by omega)).mono ?_
  rintro e wr ⟨m, m0, m1, rfl, hf, hr⟩
  replace A := Lib.hid (A.out.far hf C1 HSC)
  replace F := Lib.hid (F.out.trans hf)
  replace R := Lib.hid hr
  replace Z : Hid (Blk wr gz 26 [.int .i64 0, .slice none 0 0, .slice none 0 0, .slice none 0 0]) := Lib.hid (Z.out.kept (far_grown hf) (fun e => by injection e with e; omega))
  clear hf hr
  by_cases hm : m = 0
  · subst hm
    have EP := enters_of (P := Try.prog) Try.func58 (by kernel_rfl) rfl
    go_upto_region 4 with fail
    refine wp_region_held (S := fun W => Blk W t 26 [.int .i64 k, .slice (some ⟨g1, 0, none⟩) 8 d1, .slice (some ⟨g2, 0, none⟩) 8 d2, .slice (some ⟨g3, 0, none⟩) 8 d3]) (by kernel_rfl) ?_
    change wpAnyH _ _ _ _ _ _ _ _ wr.drew
    have hg := grown_drew (World.grownBy.refl wr none)
    replace A := Lib.hid (A.out.still hg)
    replace F := Lib.hid (Far.own F.out hg (by simp))
    replace R := Lib.hid (R.out.up hg (by simp))
    replace Z : Hid (Blk wr.drew gz 26 [.int .i64 0, .slice none 0 0, .slice none 0 0, .slice none 0 0]) := Lib.hid (Z.out.kept hg (by simp))
    clear hg
    generalize wr.drew = wr at *
    refine Rg.take_ 0 (some 12) (.pointer (some ⟨t, 1, none⟩)) rfl rfl (by kernel_rfl) (by kernel_rfl) (by kernel_rfl) (fun _ _ _ h => h) (.inl ⟨by rfl, fun W' hS => (by go_simp)⟩) A.out.blk ?_
    simp only [Act.put, List.setIfInBounds_toArray, List.set_cons_zero, List.set_cons_succ]
    refine Rg.take_ 1 (some 13) (.slice (some ⟨g1, 0, none⟩) 8 d1) rfl rfl (by kernel_rfl) (by kernel_rfl) (by kernel_rfl) (fun _ _ _ h => h) (.inl ⟨by rfl, fun W' hS => (by have c0 := hS.cell (i := 1) rfl; go_simp)⟩) A.out.blk ?_
    simp only [Act.put, List.setIfInBounds_toArray, List.set_cons_zero, List.set_cons_succ]
    refine Rg.take_ 2 (some 14) (.pointer (some ⟨c, 0, none⟩)) rfl rfl (by kernel_rfl) (by kernel_rfl) (by kernel_rfl) (fun _ _ _ h => h) (.inl ⟨by rfl, fun W' hS => (by go_simp)⟩) A.out.blk ?_
    simp only [Act.put, List.setIfInBounds_toArray, List.set_cons_zero, List.set_cons_succ]
    refine Rg.take_ 4 (some 16) (.pointer (some ⟨c, 0, none⟩)) rfl rfl (by kernel_rfl) (by kernel_rfl) (by kernel_rfl) (fun _ _ _ h => h) (.inl ⟨by rfl, fun W' hS => (by go_simp)⟩) A.out.blk ?_
    simp only [Act.put, List.setIfInBounds_toArray, List.set_cons_zero, List.set_cons_succ]
    refine Rg.ready_one (i := 3) (by kernel_rfl) rfl rfl ?_
    refine Rg.call_at (some 15) (f := 58) (args := #[.pointer (some ⟨c, 0, none⟩), .int .i64 8]) rfl (by go_simp) ((pick c _ 8 _ R.out (by omega) (by omega) (by omega)).mono ?_)
    rintro e wr ⟨i, q0, q1, rfl, hf, hr⟩
    replace A := Lib.hid (A.out.far hf C1 HSC)
    replace F := Lib.hid (F.out.trans hf)
    replace R := Lib.hid hr
    replace Z : Hid (Blk wr gz 26 [.int .i64 0, .slice none 0 0, .slice none 0 0, .slice none 0 0]) := Lib.hid (Z.out.kept (far_grown hf) (fun e => by injection e with e; omega))
    clear hf hr
    refine ⟨_, rfl, A.out.blk, ?_⟩
    simp only [Act.put, List.setIfInBounds_toArray, List.set_cons_zero, List.set_cons_succ]
    obtain ⟨i, rfl⟩ : ∃ ii : Nat, i = ii := ⟨i.toNat, by omega⟩
    have hi8 : i < 8 := by omega
    have hi8i : (i : Int) < 8 := by omega
    clear q0 q1
    refine Rg.ready_one (i := 5) (by kernel_rfl) rfl rfl ?_
    refine Rg.call_at (some 17) (f := 58) (args := #[.pointer (some ⟨c, 0, none⟩), .int .i64 31]) rfl (by go_simp) ((pick c _ 31 _ R.out (by omega) (by omega) (by omega)).mono ?_)
    rintro e wr ⟨z, q0, q1, rfl, hf, hr⟩
    replace A := Lib.hid (A.out.far hf C1 HSC)
    replace F := Lib.hid (F.out.trans hf)
    replace R := Lib.hid hr
    replace Z : Hid (Blk wr gz 26 [.int .i64 0, .slice none 0 0, .slice none 0 0, .slice none 0 0]) := Lib.hid (Z.out.kept (far_grown hf) (fun e => by injection e with e; omega))
    clear hf hr
    refine ⟨_, rfl, A.out.blk, ?_⟩
    simp only [Act.put, List.setIfInBounds_toArray, List.set_cons_zero, List.set_cons_succ]
    clear q0 q1
    refine Rg.take_ 6 (some 18) (.pointer (some ⟨g1, i, none⟩)) rfl rfl (by kernel_rfl) (by kernel_rfl) (by kernel_rfl) (fun _ _ _ h => h) (.inl ⟨by rfl, fun W' hS => (by go_simp)⟩) A.out.blk ?_
    simp only [Act.put, List.setIfInBounds_toArray, List.set_cons_zero, List.set_cons_succ]
    refine Rg.ready_one (i := 7) (by kernel_rfl) rfl rfl ?_
    obtain ⟨x1, f1, b1⟩ := A.out.cellA hi8
    refine storeOne 3 _ _ rfl rfl g1 i (.int .i64 z) (wr.setCell ⟨g1, i, none⟩ (.int .i64 z)) rfl rfl (by go_simp) ?_
    have hg := grownCell wr ⟨g1, i, none⟩ (.int .i64 z)
    have NG : gz ≠ g1 := by omega
    replace F := Lib.hid (Far.own F.out hg (fun k hk => by injection hk with hk; subst hk; exact b1))
    replace Z : Hid (Blk (wr.setCell ⟨g1, i, none⟩ (.int .i64 z)) gz 26 [.int .i64 0, .slice none 0 0, .slice none 0 0, .slice none 0 0]) := Lib.hid (Z.out.kept hg (by simpa using NG))
    replace A := Lib.hid (A.out.putA i z)
    clear x1 f1 hg R
    refine ⟨A.out.blk, ?_⟩
    simp only [Act.put, List.setIfInBounds_toArray]
    generalize wr.setCell ⟨g1, i, none⟩ (.int .i64 z) = wr at *
    refine wpAnyH_done (by kernel_rfl) ?_ _
    have z0 := Z.out.cell (i := 0) rfl
    have f0 := Z.out.frozen 0
    have t0 := A.out.blk.cell (i := 0) rfl
    have z1 := Z.out.cell (i := 1) rfl
    have f1 := Z.out.frozen 1
    have t1 := A.out.blk.cell (i := 1) rfl
    have z2 := Z.out.cell (i := 2) rfl
    have f2 := Z.out.frozen 2
    have t2 := A.out.blk.cell (i := 2) rfl
    have z3 := Z.out.cell (i := 3) rfl
    have f3 := Z.out.frozen 3
    have t3 := A.out.blk.cell (i := 3) rfl
    have GS : Hid (wr.grownBy ((((wr.setCell ⟨gz, 0, none⟩ (.int .i64 k)).setCell ⟨gz, 1, none⟩ (.slice (some ⟨g1, 0, none⟩) 8 d1)).setCell ⟨gz, 2, none⟩ (.slice (some ⟨g2, 0, none⟩) 8 d2)).setCell ⟨gz, 3, none⟩ (.slice (some ⟨g3, 0, none⟩) 8 d3)) (some gz)) := Lib.hid (grown_trans (grown_trans (grown_trans (grownCell _ _ _) (grownCell _ _ _)) (grownCell _ _ _)) (grownCell _ _ _))
    have OZ := Lib.hid (outRow (A.out.own.lower SW) GS.out Z.out)
    have BZ := Lib.hid (below_rowS (B1.out.trans (F.out.below HC SW)) GS.out HZ (Nat.le_refl _))
    have LL := Lib.hid (And.intro A.out.la (And.intro A.out.lv A.out.lf))
    clear GS A
    go_wp2_with fail
    refine bodyPost_ret (v := .agg #[.int .i64 k, .slice (some ⟨g1, 0, none⟩) 8 d1, .slice (some ⟨g2, 0, none⟩) 8 d2, .slice (some ⟨g3, 0, none⟩) 8 d3]) (by simp [results, Try.results26, go_sem, z0, z1, z2, z3]) rfl ?_
    exact ⟨_, _, _, _, _, _, _, LL.out.1, LL.out.2.1, LL.out.2.2, rfl, BZ.out, OZ.out⟩
  · have hm' : (m == 0) = false := by rw [beq_eq_false_iff_ne]; exact hm
    have z0 := Z.out.cell (i := 0) rfl
    have f0 := Z.out.frozen 0
    have t0 := A.out.blk.cell (i := 0) rfl
    have z1 := Z.out.cell (i := 1) rfl
    have f1 := Z.out.frozen 1
    have t1 := A.out.blk.cell (i := 1) rfl
    have z2 := Z.out.cell (i := 2) rfl
    have f2 := Z.out.frozen 2
    have t2 := A.out.blk.cell (i := 2) rfl
    have z3 := Z.out.cell (i := 3) rfl
    have f3 := Z.out.frozen 3
    have t3 := A.out.blk.cell (i := 3) rfl
    have GS : Hid (wr.grownBy ((((wr.setCell ⟨gz, 0, none⟩ (.int .i64 k)).setCell ⟨gz, 1, none⟩ (.slice (some ⟨g1, 0, none⟩) 8 d1)).setCell ⟨gz, 2, none⟩ (.slice (some ⟨g2, 0, none⟩) 8 d2)).setCell ⟨gz, 3, none⟩ (.slice (some ⟨g3, 0, none⟩) 8 d3)) (some gz)) := Lib.hid (grown_trans (grown_trans (grown_trans (grownCell _ _ _) (grownCell _ _ _)) (grownCell _ _ _)) (grownCell _ _ _))
    have OZ := Lib.hid (outRow (A.out.own.lower SW) GS.out Z.out)
    have BZ := Lib.hid (below_rowS (B1.out.trans (F.out.below HC SW)) GS.out HZ (Nat.le_refl _))
    have LL := Lib.hid (And.intro A.out.la (And.intro A.out.lv A.out.lf))
    clear GS A
    go_wp2_with fail
    refine bodyPost_ret (v := .agg #[.int .i64 k, .slice (some ⟨g1, 0, none⟩) 8 d1, .slice (some ⟨g2, 0, none⟩) 8 d2, .slice (some ⟨g3, 0, none⟩) 8 d3]) (by simp [results, Try.results26, go_sem, z0, z1, z2, z3]) rfl ?_
    exact ⟨_, _, _, _, _, _, _, LL.out.1, LL.out.2.1, LL.out.2.2, rfl, BZ.out, OZ.out⟩
end Go.Proofs.Ytoflijiinkmjoaa
