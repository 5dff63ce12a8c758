/-
  What the law FnProgPlan draws: a code and a plan.
  Conditions: none.
-/
import Derived.Test.YtlehcpcejkpbmaaDoorDrawProg2
namespace Go.Proofs.YtlehcpcejkpbmaaDoor
open Go.RowKit
set_option linter.unusedVariables false

/-- a code and a plan. -/
def DrawnKP (w : World) (e : Ending) (w' : World) : Prop := ∃ (k : Nat) (d : Int) (u v : Value) (l m : List Int), (k = 1 ∨ k = 2) ∧ e = .returned (.tuple #[.int .i64 k, .agg #[.int .i64 d, u, v]]) ∧ Sl w' u l ∧ Sl w' v m ∧ Below w.heap.size w w'

set_option maxHeartbeats 4000000 in
set_option maxRecDepth 20000 in
theorem drawPlanOk (a : Option Addr) (len cap : Nat) (w : World) (h : Code w a len cap) : Calls Tryd.prog 21 #[.slice a len cap] w (DrawnKP w) := by
  have Z0 : Hid (Blk (w.alloc (.cells #[.int .i64 0, .slice none 0 0, .slice none 0 0] 25)) w.heap.size 25 [.int .i64 0, .slice none 0 0, .slice none 0 0]) := Lib.hid (heap_alloc_new _ _)
  have G0 := Lib.hid (grown_alloc (World.grownBy.refl w none) (.cells #[.int .i64 0, .slice none 0 0, .slice none 0 0] 25))
  have S0 : w.heap.size + 1 = (w.alloc (.cells #[.int .i64 0, .slice none 0 0, .slice none 0 0] 25)).heap.size := by simp
  have H0 : Hid (Code (w.alloc (.cells #[.int .i64 0, .slice none 0 0, .slice none 0 0] 25)) a len cap) := Lib.hid (h.below (below_grown G0.out))
  clear h
  go_enter Tryd.func21, Tryd.ntmps21
  go_wp2_with fail
  generalize w.alloc (.cells #[.int .i64 0, .slice none 0 0, .slice none 0 0] 25) = w0 at *
  obtain ⟨r, hr⟩ : ∃ r, r = w.heap.size := ⟨_, rfl⟩
  rw [← hr] at Z0 S0 ⊢
  have hr1 : w.heap.size ≤ r := by omega
  have hr2 : r ≤ w.heap.size := by omega
  clear hr
  refine (openR a len cap _ H0.out).mono ?_
  rintro e w1 ⟨rfl, hb1, h1⟩
  have B1 : Hid (Below w.heap.size w w1) := Lib.hid ((below_grown G0.out).trans (hb1.mono (by omega)))
  have R1 := Lib.hid h1
  have Z1 : Hid (Blk w1 r 25 [.int .i64 0, .slice none 0 0, .slice none 0 0]) := Lib.hid ((hb1.block r (by omega)).trans Z0.out)
  obtain ⟨c, hc⟩ : ∃ c, c = w0.heap.size := ⟨_, rfl⟩
  have C1 := h1.lt
  rw [← hc] at R1 C1 ⊢
  have hc1 : r < c := by omega
  have hs1 : w0.heap.size ≤ w1.heap.size := hb1.size
  clear hb1 h1 Z0 G0 H0 S0 hc
  go_wp2_with fail
  refine (drawPlan c 0 _ R1.out (by omega)).mono ?_
  rintro e w3 ⟨k, d, u, v, l, m, hk, rfl, hl4, hu, hv, hf, h2⟩
  obtain ⟨au, cu, eu, _, _, _⟩ := hu.sl
  obtain ⟨av, cv, ev, _, _, _⟩ := hv.sl
  subst eu ev
  obtain ⟨nl, hnl⟩ : ∃ x, x = l.length := ⟨_, rfl⟩
  obtain ⟨ml, hml⟩ : ∃ x, x = m.length := ⟨_, rfl⟩
  rw [← hnl] at hu ⊢
  rw [← hml] at hv ⊢
  clear hnl hml
  have HK := Lib.hid hk
  have U3 := Lib.hid hu
  have V3 := Lib.hid hv
  have Z3 : Hid (Blk w3 r 25 [.int .i64 0, .slice none 0 0, .slice none 0 0]) := Lib.hid (Z1.out.kept (far_grown hf) (fun e => by injection e with e; omega))
  have B3 : Hid (Below w.heap.size w w3) := Lib.hid (B1.out.trans (hf.below (by omega) B1.out.size))
  clear hu hv hf h2 R1 Z1 B1 hk
  have z0 := Z3.out.cell (i := 0) rfl
  have z1 := Z3.out.cell (i := 1) rfl
  have z2 := Z3.out.cell (i := 2) rfl
  have f0 := Z3.out.frozen 0
  have f1 := Z3.out.frozen 1
  have f2 := Z3.out.frozen 2
  have GS : Hid (w3.grownBy (((w3.setCell ⟨r, 0, none⟩ (.int .i64 d)).setCell ⟨r, 1, none⟩ (.slice au nl cu)).setCell ⟨r, 2, none⟩ (.slice av ml cv)) (some r)) := Lib.hid (grown_trans (grown_trans (grown_cell _ _ _) (grown_cell _ _ _)) (grown_cell _ _ _))
  have UZ := Lib.hid (U3.out.kept GS.out (own_far U3.out (by omega))).sl
  have VZ := Lib.hid (V3.out.kept GS.out (own_far V3.out (by omega))).sl
  have BZ : Hid (Below w.heap.size w (((w3.setCell ⟨r, 0, none⟩ (.int .i64 d)).setCell ⟨r, 1, none⟩ (.slice au nl cu)).setCell ⟨r, 2, none⟩ (.slice av ml cv))) := Lib.hid (B3.out.trans ⟨GS.out.os, GS.out.tape, GS.out.output, GS.out.size, fun k hk => GS.out.block k (Nat.lt_of_lt_of_le hk B3.out.size) (fun e => by injection e with e; omega)⟩)
  clear GS Z3 U3 V3 B3
  go_wp2_with fail
  refine bodyPost_ret (v := .tuple #[.int .i64 k, .agg #[.int .i64 d, .slice au nl cu, .slice av ml cv]]) (by simp [results, Tryd.results21, go_sem, z0, z1, z2]) rfl ?_
  exact ⟨k, d, _, _, l, m, HK.out, rfl, UZ.out, VZ.out, BZ.out⟩
end Go.Proofs.YtlehcpcejkpbmaaDoor
