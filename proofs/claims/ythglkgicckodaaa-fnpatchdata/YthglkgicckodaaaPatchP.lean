/-
  The program's patches: which are ok, the change that a patch makes, numbers behind patches, patches between numbers.
  Conditions: none.
-/
import Derived.Test.YthglkgicckodaaaPatchMath
import Derived.Test.YthglkgicckodaaaPatchHelp
import Derived.Test.YthglkgicckodaaaG1
import Derived.Test.YthglkgicckodaaaReadTake
namespace Go.Proofs.Ythglkgicckodaaa
open Go.RowKit
set_option linter.unusedVariables false

set_option maxHeartbeats 1000000 in
set_option maxRecDepth 20000 in
theorem implPatchOk (p x : Int) (w : World) : Calls Try.prog 15 #[.agg #[.int .i64 p, .int .i64 x]] w fun e w' => e = .returned (.bool (patOk ⟨p, x⟩)) ∧ w.grownBy w' none := by
  by_cases h0 : 0 ≤ p
  · by_cases h1 : p < 4
    · by_cases h2 : x = 0
      · have h2' : (x != 0) = false := by simp [h2]
        have e : patOk ⟨p, x⟩ = false := by simp [patOk, h2]
        rw [e]
        go_enter Try.func15, Try.ntmps15
        go_wp2_with fail
        go_ret
        exact ⟨rfl, grown_alloc (World.grownBy.refl _ _) _⟩
      · have h2' : (x != 0) = true := by simp [h2]
        have e : patOk ⟨p, x⟩ = Fld.ok x := by simp [patOk, h0, h1, h2]
        rw [e]
        clear e
        go_enter Try.func15, Try.ntmps15
        go_wp2_with fail
        refine (implOk _ _).mono ?_
        rintro e w' ⟨rfl, rfl⟩
        go_wp2_with fail
        go_ret
        exact ⟨rfl, grown_alloc (World.grownBy.refl _ _) _⟩
    · have e : patOk ⟨p, x⟩ = false := by simp [patOk, h1]
      rw [e]
      go_enter Try.func15, Try.ntmps15
      go_wp2_with fail
      go_ret
      exact ⟨rfl, grown_alloc (World.grownBy.refl _ _) _⟩
  · have e : patOk ⟨p, x⟩ = false := by simp [patOk, h0]
    rw [e]
    go_enter Try.func15, Try.ntmps15
    go_wp2_with fail
    go_ret
    exact ⟨rfl, grown_alloc (World.grownBy.refl _ _) _⟩

theorem skip_at {P : Program} {o : Oper} {a : Act} {w : World} {K : Act → World → Prop} {Q : Exit → Act → World → Prop} (d : Option Tmp) (w' : World) (hd : o.dst = d) (hr : (execOp a.eval o).run P w = .ok .skip w') (h : K (a.put d undef) w') : o.wp P a w K Q := by
  subst hd
  unfold Oper.wp
  rw [hr]
  exact h
theorem cell_far_ (w : World) (p : Addr) (v : Value) (q : Addr) (h : q.block ≠ p.block) : (w.setCell p v).cell? q = w.cell? q := by
  unfold World.cell?
  rw [Below.heap_setCell w p v q.block h]
/-- a change that bears a patch: two cells of its own. -/
def ChangeAt (w : World) (base : Nat) (f : Value) (p x : Int) : Prop := ∃ b c, f = .func (.func 69) #[] #[.pointer (some ⟨b, 0, none⟩), .pointer (some ⟨c, 0, none⟩)] ∧ base ≤ b ∧ base ≤ c ∧ w.cell? ⟨b, 0, none⟩ = some (.int .i64 p) ∧ w.cell? ⟨c, 0, none⟩ = some (.int .i64 x)

set_option maxHeartbeats 1000000 in
set_option maxRecDepth 20000 in
theorem changeNo (p x : Int) (w : World) (h : patOk ⟨p, x⟩ = false) : Calls Try.prog 49 #[.agg #[.int .i64 p, .int .i64 x]] w fun e w' => e = .returned (.tuple #[.nilFunc, .bool false]) ∧ w.grownBy w' none := by
  have H := Lib.hid h
  clear h
  go_enter Try.func49, Try.ntmps49
  go_wp2_with fail
  refine (implPatchOk p x _).mono ?_
  rintro e w2 ⟨rfl, hg⟩
  rw [H.out]
  have G := Lib.hid (grown_trans (grown_alloc (World.grownBy.refl w none) _) hg)
  clear hg
  go_wp2_with fail
  go_ret2
  exact ⟨rfl, G.out⟩
set_option maxHeartbeats 2000000 in
set_option maxRecDepth 20000 in
theorem changeYes (p x : Int) (w : World) (h : patOk ⟨p, x⟩ = true) : Calls Try.prog 49 #[.agg #[.int .i64 p, .int .i64 x]] w fun e w' => ∃ f, e = .returned (.tuple #[f, .bool true]) ∧ w.grownBy w' none ∧ ChangeAt w' w.heap.size f p x := by
  have H := Lib.hid h
  clear h
  go_enter Try.func49, Try.ntmps49
  go_wp2_with fail
  refine (implPatchOk p x _).mono ?_
  rintro e w2 ⟨rfl, hg⟩
  rw [H.out]
  have A : Blk (w.alloc (.cells #[.int .i64 p, .int .i64 x] 32)) w.heap.size 32 [.int .i64 p, .int .i64 x] := heap_alloc_new _ _
  have A2 := A.kept hg (by simp)
  have r0 := A2.cell (i := 0) rfl
  have r1 := A2.cell (i := 1) rfl
  have G := Lib.hid (grown_trans (grown_alloc (World.grownBy.refl w none) _) hg)
  clear hg A A2
  obtain ⟨n, hn⟩ : ∃ n, n = w.heap.size := ⟨_, rfl⟩
  rw [← hn] at r0 r1 ⊢
  have NB := Lib.hid hn
  clear hn
  have z0 : w2.drew.cell? ⟨n, 0, none⟩ = some (.int .i64 p) := r0
  have z1 : w2.drew.cell? ⟨n, 1, none⟩ = some (.int .i64 x) := r1
  have G := Lib.hid (grown_drew G.out)
  have N : Hid (n < w2.drew.heap.size) := by
    rcases Nat.lt_or_ge n w2.drew.heap.size with h | h
    · exact Lib.hid h
    · unfold World.cell? at z0; rw [Array.getElem?_eq_none h] at z0; cases z0
  clear r0 r1
  go_upto_region 3 with fail
  refine wp_region_held (S := fun W' => W'.cell? ⟨n, 0, none⟩ = some (.int .i64 p) ∧ W'.cell? ⟨n, 1, none⟩ = some (.int .i64 x)) (by kernel_rfl) ?_
  change wpAnyH _ _ _ _ _ _ _ _ w2.drew
  generalize w2.drew = W at *
  refine Rg.take_ 0 (some 9) (.pointer (some ⟨n, 0, none⟩)) rfl rfl (by kernel_rfl) (by kernel_rfl) (by kernel_rfl) (fun _ _ _ h => h) (.inl ⟨by rfl, fun W' hS => (by go_simp)⟩) ⟨z0, z1⟩ ?_
  simp only [Act.put, List.setIfInBounds_toArray, List.set_cons_zero, List.set_cons_succ]
  refine Rg.take_ 1 (some 10) (.int .i64 p) rfl rfl (by kernel_rfl) (by kernel_rfl) (by kernel_rfl) (fun _ _ _ h => h) (.inl ⟨by rfl, fun W' hS => (by have c0 := hS.1; go_simp)⟩) ⟨z0, z1⟩ ?_
  simp only [Act.put, List.setIfInBounds_toArray, List.set_cons_zero, List.set_cons_succ]
  refine Rg.take_ 2 (some 11) (.pointer (some ⟨n, 1, none⟩)) rfl rfl (by kernel_rfl) (by kernel_rfl) (by kernel_rfl) (fun _ _ _ h => h) (.inl ⟨by rfl, fun W' hS => (by go_simp)⟩) ⟨z0, z1⟩ ?_
  simp only [Act.put, List.setIfInBounds_toArray, List.set_cons_zero, List.set_cons_succ]
  refine Rg.take_ 3 (some 12) (.int .i64 x) rfl rfl (by kernel_rfl) (by kernel_rfl) (by kernel_rfl) (fun _ _ _ h => h) (.inl ⟨by rfl, fun W' hS => (by have c0 := hS.2; go_simp)⟩) ⟨z0, z1⟩ ?_
  simp only [Act.put, List.setIfInBounds_toArray, List.set_cons_zero, List.set_cons_succ]
  have Z := Lib.hid (And.intro z0 z1)
  clear z0 z1
  refine Rg.ready_two (i := 4) (k := 5) (by kernel_rfl) rfl rfl rfl rfl ?_ ?_
  · refine Rg.value_at (some 4) (.pointer (some ⟨W.heap.size, 0, none⟩)) (W.alloc (.cells #[.int .i64 0] 3)) rfl (by go_simp) ?_
    have ga := World.grownBy_alloc W (.cells #[.int .i64 0] 3) none
    have K4 := Lib.hid (show Arr (W.alloc (.cells #[.int .i64 0] 3)) W.heap.size 3 [0] from heap_alloc_new _ _)
    have L4 := Lib.hid (show w.heap.size ≤ W.heap.size from G.out.size)
    replace Z := Lib.hid (And.intro (ga.cell Z.out.1 (by simp)) (ga.cell Z.out.2 (by simp)))
    replace G := Lib.hid (grown_trans G.out ga)
    have LT4 := Lib.hid (show W.heap.size < (W.alloc (.cells #[.int .i64 0] 3)).heap.size by simp)
    have NN4 := Lib.hid (show n ≠ W.heap.size from fun e => by have := N.out; omega)
    replace N := Lib.hid (Nat.lt_of_lt_of_le N.out ga.size)
    clear ga
    refine ⟨Z.out, ?_⟩
    simp only [Act.put, List.setIfInBounds_toArray, List.set_cons_zero, List.set_cons_succ]
    generalize W.heap.size = B4 at *
    generalize W.alloc (.cells #[.int .i64 0] 3) = W at *
    refine Rg.ready_one (i := 5) (by kernel_rfl) rfl rfl ?_
    refine Rg.value_at (some 5) (.pointer (some ⟨W.heap.size, 0, none⟩)) (W.alloc (.cells #[.int .i64 0] 66)) rfl (by go_simp) ?_
    have ga := World.grownBy_alloc W (.cells #[.int .i64 0] 66) none
    have K5 := Lib.hid (show Arr (W.alloc (.cells #[.int .i64 0] 66)) W.heap.size 66 [0] from heap_alloc_new _ _)
    have L5 := Lib.hid (show w.heap.size ≤ W.heap.size from G.out.size)
    replace K4 := Lib.hid (K4.out.still ga)
    have NE := Lib.hid (show B4 ≠ W.heap.size from fun e => by have := LT4.out; omega)
    replace Z := Lib.hid (And.intro (ga.cell Z.out.1 (by simp)) (ga.cell Z.out.2 (by simp)))
    replace G := Lib.hid (grown_trans G.out ga)
    have LT5 := Lib.hid (show W.heap.size < (W.alloc (.cells #[.int .i64 0] 66)).heap.size by simp)
    replace LT4 := Lib.hid (Nat.lt_of_lt_of_le LT4.out ga.size)
    have NN5 := Lib.hid (show n ≠ W.heap.size from fun e => by have := N.out; omega)
    replace N := Lib.hid (Nat.lt_of_lt_of_le N.out ga.size)
    clear ga
    refine ⟨Z.out, ?_⟩
    simp only [Act.put, List.setIfInBounds_toArray, List.set_cons_zero, List.set_cons_succ]
    generalize W.heap.size = B5 at *
    generalize W.alloc (.cells #[.int .i64 0] 66) = W at *
    refine Rg.ready_one (i := 6) (by kernel_rfl) rfl rfl ?_
    have k4 : W.cell? ⟨B4, 0, none⟩ = some (.int .i64 0) := K4.out.cell (i := 0) (by simp)
    have f4 : W.frozen? ⟨B4, 0, none⟩ = false := K4.out.frozen 0
    refine skip_at none (W.setCell ⟨B4, 0, none⟩ (.int .i64 p)) rfl (by go_simp) ?_
    have C4 := Lib.hid (show (W.setCell ⟨B4, 0, none⟩ (.int .i64 p)).cell? ⟨B4, 0, none⟩ = some (.int .i64 p) from (K4.out.put 0 p).cell (i := 0) (by simp))
    replace K5 := Lib.hid (K5.out.far (p := ⟨B4, 0, none⟩) (by have := NE.out; first | exact this | exact Ne.symm this) (.int .i64 p))
    replace Z := Lib.hid (And.intro ((cell_far_ W ⟨B4, 0, none⟩ (.int .i64 p) _ NN4.out).trans Z.out.1) ((cell_far_ W ⟨B4, 0, none⟩ (.int .i64 p) _ NN4.out).trans Z.out.2))
    replace G := Lib.hid (grown_set G.out (p := ⟨B4, 0, none⟩) (by have := L4.out; exact this) (.int .i64 p))
    replace LT4 := Lib.hid (show B4 < (W.setCell ⟨B4, 0, none⟩ (.int .i64 p)).heap.size by have := LT4.out; simpa using this)
    replace LT5 := Lib.hid (show B5 < (W.setCell ⟨B4, 0, none⟩ (.int .i64 p)).heap.size by have := LT5.out; simpa using this)
    replace N := Lib.hid (show n < (W.setCell ⟨B4, 0, none⟩ (.int .i64 p)).heap.size by have := N.out; simpa using this)
    clear k4 f4 K4
    refine ⟨Z.out, ?_⟩
    simp only [Act.put]
    generalize W.setCell ⟨B4, 0, none⟩ (.int .i64 p) = W at *
    refine Rg.ready_one (i := 7) (by kernel_rfl) rfl rfl ?_
    have k5 : W.cell? ⟨B5, 0, none⟩ = some (.int .i64 0) := K5.out.cell (i := 0) (by simp)
    have f5 : W.frozen? ⟨B5, 0, none⟩ = false := K5.out.frozen 0
    refine skip_at none (W.setCell ⟨B5, 0, none⟩ (.int .i64 x)) rfl (by go_simp) ?_
    have C5 := Lib.hid (show (W.setCell ⟨B5, 0, none⟩ (.int .i64 x)).cell? ⟨B5, 0, none⟩ = some (.int .i64 x) from (K5.out.put 0 x).cell (i := 0) (by simp))
    replace C4 := Lib.hid (show (W.setCell ⟨B5, 0, none⟩ (.int .i64 x)).cell? ⟨B4, 0, none⟩ = _ from (cell_far_ W ⟨B5, 0, none⟩ _ _ (by have := NE.out; first | exact this | exact Ne.symm this)).trans C4.out)
    replace Z := Lib.hid (And.intro ((cell_far_ W ⟨B5, 0, none⟩ (.int .i64 x) _ NN5.out).trans Z.out.1) ((cell_far_ W ⟨B5, 0, none⟩ (.int .i64 x) _ NN5.out).trans Z.out.2))
    replace G := Lib.hid (grown_set G.out (p := ⟨B5, 0, none⟩) (by have := L5.out; exact this) (.int .i64 x))
    replace LT4 := Lib.hid (show B4 < (W.setCell ⟨B5, 0, none⟩ (.int .i64 x)).heap.size by have := LT4.out; simpa using this)
    replace LT5 := Lib.hid (show B5 < (W.setCell ⟨B5, 0, none⟩ (.int .i64 x)).heap.size by have := LT5.out; simpa using this)
    replace N := Lib.hid (show n < (W.setCell ⟨B5, 0, none⟩ (.int .i64 x)).heap.size by have := N.out; simpa using this)
    clear k5 f5 K5
    refine ⟨Z.out, ?_⟩
    simp only [Act.put]
    generalize W.setCell ⟨B5, 0, none⟩ (.int .i64 x) = W at *
    refine wpAnyH_done (by kernel_rfl) ?_ _
    go_wp2_with fail
    go_ret2
    exact ⟨_, rfl, G.out, B4, B5, rfl, by have h1 := L4.out; have h2 := NB.out; omega, by have h1 := L5.out; have h2 := NB.out; omega, C4.out, C5.out⟩
  · refine Rg.value_at (some 5) (.pointer (some ⟨W.heap.size, 0, none⟩)) (W.alloc (.cells #[.int .i64 0] 66)) rfl (by go_simp) ?_
    have ga := World.grownBy_alloc W (.cells #[.int .i64 0] 66) none
    have K5 := Lib.hid (show Arr (W.alloc (.cells #[.int .i64 0] 66)) W.heap.size 66 [0] from heap_alloc_new _ _)
    have L5 := Lib.hid (show w.heap.size ≤ W.heap.size from G.out.size)
    replace Z := Lib.hid (And.intro (ga.cell Z.out.1 (by simp)) (ga.cell Z.out.2 (by simp)))
    replace G := Lib.hid (grown_trans G.out ga)
    have LT5 := Lib.hid (show W.heap.size < (W.alloc (.cells #[.int .i64 0] 66)).heap.size by simp)
    have NN5 := Lib.hid (show n ≠ W.heap.size from fun e => by have := N.out; omega)
    replace N := Lib.hid (Nat.lt_of_lt_of_le N.out ga.size)
    clear ga
    refine ⟨Z.out, ?_⟩
    simp only [Act.put, List.setIfInBounds_toArray, List.set_cons_zero, List.set_cons_succ]
    generalize W.heap.size = B5 at *
    generalize W.alloc (.cells #[.int .i64 0] 66) = W at *
    refine Rg.ready_one (i := 4) (by kernel_rfl) rfl rfl ?_
    refine Rg.value_at (some 4) (.pointer (some ⟨W.heap.size, 0, none⟩)) (W.alloc (.cells #[.int .i64 0] 3)) rfl (by go_simp) ?_
    have ga := World.grownBy_alloc W (.cells #[.int .i64 0] 3) none
    have K4 := Lib.hid (show Arr (W.alloc (.cells #[.int .i64 0] 3)) W.heap.size 3 [0] from heap_alloc_new _ _)
    have L4 := Lib.hid (show w.heap.size ≤ W.heap.size from G.out.size)
    replace K5 := Lib.hid (K5.out.still ga)
    have NE := Lib.hid (show B5 ≠ W.heap.size from fun e => by have := LT5.out; omega)
    replace Z := Lib.hid (And.intro (ga.cell Z.out.1 (by simp)) (ga.cell Z.out.2 (by simp)))
    replace G := Lib.hid (grown_trans G.out ga)
    have LT4 := Lib.hid (show W.heap.size < (W.alloc (.cells #[.int .i64 0] 3)).heap.size by simp)
    replace LT5 := Lib.hid (Nat.lt_of_lt_of_le LT5.out ga.size)
    have NN4 := Lib.hid (show n ≠ W.heap.size from fun e => by have := N.out; omega)
    replace N := Lib.hid (Nat.lt_of_lt_of_le N.out ga.size)
    clear ga
    refine ⟨Z.out, ?_⟩
    simp only [Act.put, List.setIfInBounds_toArray, List.set_cons_zero, List.set_cons_succ]
    generalize W.heap.size = B4 at *
    generalize W.alloc (.cells #[.int .i64 0] 3) = W at *
    refine Rg.ready_one (i := 6) (by kernel_rfl) rfl rfl ?_
    have k4 : W.cell? ⟨B4, 0, none⟩ = some (.int .i64 0) := K4.out.cell (i := 0) (by simp)
    have f4 : W.frozen? ⟨B4, 0, none⟩ = false := K4.out.frozen 0
    refine skip_at none (W.setCell ⟨B4, 0, none⟩ (.int .i64 p)) rfl (by go_simp) ?_
    have C4 := Lib.hid (show (W.setCell ⟨B4, 0, none⟩ (.int .i64 p)).cell? ⟨B4, 0, none⟩ = some (.int .i64 p) from (K4.out.put 0 p).cell (i := 0) (by simp))
    replace K5 := Lib.hid (K5.out.far (p := ⟨B4, 0, none⟩) (by have := NE.out; first | exact this | exact Ne.symm this) (.int .i64 p))
    replace Z := Lib.hid (And.intro ((cell_far_ W ⟨B4, 0, none⟩ (.int .i64 p) _ NN4.out).trans Z.out.1) ((cell_far_ W ⟨B4, 0, none⟩ (.int .i64 p) _ NN4.out).trans Z.out.2))
    replace G := Lib.hid (grown_set G.out (p := ⟨B4, 0, none⟩) (by have := L4.out; exact this) (.int .i64 p))
    replace LT4 := Lib.hid (show B4 < (W.setCell ⟨B4, 0, none⟩ (.int .i64 p)).heap.size by have := LT4.out; simpa using this)
    replace LT5 := Lib.hid (show B5 < (W.setCell ⟨B4, 0, none⟩ (.int .i64 p)).heap.size by have := LT5.out; simpa using this)
    replace N := Lib.hid (show n < (W.setCell ⟨B4, 0, none⟩ (.int .i64 p)).heap.size by have := N.out; simpa using this)
    clear k4 f4 K4
    refine ⟨Z.out, ?_⟩
    simp only [Act.put]
    generalize W.setCell ⟨B4, 0, none⟩ (.int .i64 p) = W at *
    refine Rg.ready_one (i := 7) (by kernel_rfl) rfl rfl ?_
    have k5 : W.cell? ⟨B5, 0, none⟩ = some (.int .i64 0) := K5.out.cell (i := 0) (by simp)
    have f5 : W.frozen? ⟨B5, 0, none⟩ = false := K5.out.frozen 0
    refine skip_at none (W.setCell ⟨B5, 0, none⟩ (.int .i64 x)) rfl (by go_simp) ?_
    have C5 := Lib.hid (show (W.setCell ⟨B5, 0, none⟩ (.int .i64 x)).cell? ⟨B5, 0, none⟩ = some (.int .i64 x) from (K5.out.put 0 x).cell (i := 0) (by simp))
    replace C4 := Lib.hid (show (W.setCell ⟨B5, 0, none⟩ (.int .i64 x)).cell? ⟨B4, 0, none⟩ = _ from (cell_far_ W ⟨B5, 0, none⟩ _ _ (by have := NE.out; first | exact this | exact Ne.symm this)).trans C4.out)
    replace Z := Lib.hid (And.intro ((cell_far_ W ⟨B5, 0, none⟩ (.int .i64 x) _ NN5.out).trans Z.out.1) ((cell_far_ W ⟨B5, 0, none⟩ (.int .i64 x) _ NN5.out).trans Z.out.2))
    replace G := Lib.hid (grown_set G.out (p := ⟨B5, 0, none⟩) (by have := L5.out; exact this) (.int .i64 x))
    replace LT4 := Lib.hid (show B4 < (W.setCell ⟨B5, 0, none⟩ (.int .i64 x)).heap.size by have := LT4.out; simpa using this)
    replace LT5 := Lib.hid (show B5 < (W.setCell ⟨B5, 0, none⟩ (.int .i64 x)).heap.size by have := LT5.out; simpa using this)
    replace N := Lib.hid (show n < (W.setCell ⟨B5, 0, none⟩ (.int .i64 x)).heap.size by have := N.out; simpa using this)
    clear k5 f5 K5
    refine ⟨Z.out, ?_⟩
    simp only [Act.put]
    generalize W.setCell ⟨B5, 0, none⟩ (.int .i64 x) = W at *
    refine wpAnyH_done (by kernel_rfl) ?_ _
    go_wp2_with fail
    go_ret2
    exact ⟨_, rfl, G.out, B4, B5, rfl, by have h1 := L4.out; have h2 := NB.out; omega, by have h1 := L5.out; have h2 := NB.out; omega, C4.out, C5.out⟩

end Go.Proofs.Ythglkgicckodaaa
