/-
  A plan and values that are drawn; what a plan makes of twice as much.
  Conditions: none.
-/
import Derived.Test.YtbpkfcaokbidnaaDrawPlan
import Derived.Test.YtbpkfcaokbidnaaG4
namespace Go.Proofs.Ytbpkfcaokbidnaa
open Go.RowKit
set_option linter.unusedVariables false

theorem slNot {w w' : World} {r : Nat} {x : Value} {z : List Int} {a b c : Value} (h : Sl w x z) (hz : z.length = 8) (hg : w.grownBy w' (some r)) (k : Blk w r 28 [a, b, c]) : Sl w' x z := by
  obtain ⟨ad, cap, rfl, h1, h2, hr⟩ := h
  refine ⟨ad, cap, rfl, h1, h2, ?_⟩
  rcases hr with h0 | ⟨b', o, rfl, hr⟩
  · exact .inl h0
  · refine .inr ⟨b', o, rfl, fun i hi => ?_⟩
    refine hg.cell (hr i hi) (fun e => ?_)
    injection e with e
    have e' : b' = r := e
    subst e'
    have h7 := hr 7 (by omega)
    rw [cell_of_row w b' (o + 7) _ _ (0, 0) k] at h7
    simp at h7
theorem below_row {w w' : World} {B r : Nat} (hg : w.grownBy w' (some r)) (hB : B ≤ r) (hs : B ≤ w.heap.size) : Below B w w' :=
  ⟨hg.os, hg.tape, hg.output, hg.size, fun k hk => hg.block k (by omega) (fun e => by injection e with e; omega)⟩
/-- a plan, and values. -/
def DrawnPD (w : World) (e : Ending) (w' : World) : Prop :=
  ∃ (d : Int) (u v x : Value) (l m a : List Int), e = .returned (.tuple #[.agg #[.int .i64 d, u, v], x]) ∧ a.length = 8 ∧ Sl w' u l ∧ Sl w' v m ∧ Sl w' x a ∧ Below w.heap.size w w'

set_option maxHeartbeats 8000000 in
set_option maxRecDepth 20000 in
theorem drawPlanDo (a : Option Addr) (len cap : Nat) (w : World) (h : Code w a len cap) : Calls Try.prog 25 #[.slice a len cap] w (DrawnPD w) := by
  have Z0 : Hid (Blk (w.alloc (.cells #[.int .i64 0, .slice none 0 0, .slice none 0 0] 28)) w.heap.size 28 [.int .i64 0, .slice none 0 0, .slice none 0 0]) := Lib.hid (heap_alloc_new _ _)
  have G0 := Lib.hid (grown_alloc (World.grownBy.refl w none) (.cells #[.int .i64 0, .slice none 0 0, .slice none 0 0] 28))
  have S0 : w.heap.size + 1 = (w.alloc (.cells #[.int .i64 0, .slice none 0 0, .slice none 0 0] 28)).heap.size := by simp
  have H0 : Hid (Code (w.alloc (.cells #[.int .i64 0, .slice none 0 0, .slice none 0 0] 28)) a len cap) := Lib.hid (h.below (below_grown G0.out))
  clear h
  go_enter Try.func25, Try.ntmps25
  go_wp2_with fail
  generalize w.alloc (.cells #[.int .i64 0, .slice none 0 0, .slice none 0 0] 28) = w0 at *
  obtain ⟨r, hr⟩ : ∃ r, r = w.heap.size := ⟨_, rfl⟩
  rw [← hr] at Z0 S0 ⊢
  have hr1 : w.heap.size ≤ r := by omega
  have hr2 : r ≤ w.heap.size := by omega
  clear hr
  refine (openR a len cap _ H0.out).mono ?_
  rintro e w1 ⟨rfl, hb1, h1⟩
  have B1 : Hid (Below w.heap.size w w1) := Lib.hid ((below_grown G0.out).trans (hb1.mono (by omega)))
  have R1 := Lib.hid h1
  have Z1 : Hid (Blk w1 r 28 [.int .i64 0, .slice none 0 0, .slice none 0 0]) := Lib.hid ((hb1.block r (by omega)).trans Z0.out)
  obtain ⟨c, hc⟩ : ∃ c, c = w0.heap.size := ⟨_, rfl⟩
  have C1 := h1.lt
  rw [← hc] at R1 C1 ⊢
  have hc1 : r < c := by omega
  have hs1 : w0.heap.size ≤ w1.heap.size := hb1.size
  clear hb1 h1 Z0 G0 H0 S0 hc
  go_wp2_with fail
  refine (drawPlan c 0 _ R1.out (by omega)).mono ?_
  rintro e w2 ⟨k, d, u, v, l, m, hk, rfl, hl4, hu, hv, hf, h2⟩
  obtain ⟨au, cu, eu, _, _, _⟩ := hu.sl
  obtain ⟨av, cv, ev, _, _, _⟩ := hv.sl
  subst eu ev
  obtain ⟨nl, hnl⟩ : ∃ x, x = l.length := ⟨_, rfl⟩
  obtain ⟨ml, hml⟩ : ∃ x, x = m.length := ⟨_, rfl⟩
  rw [← hnl] at hu ⊢
  rw [← hml] at hv ⊢
  clear hnl hml
  have ga := World.grownBy_alloc w2 (.cells #[.int .i64 d, .slice au nl cu, .slice av ml cv] 28) none
  have F3 : Hid (Far c w1 (w2.alloc (.cells #[.int .i64 d, .slice au nl cu, .slice av ml cv] 28))) := Lib.hid (hf.trans (Far.alloc _ _))
  have R3 := Lib.hid (h2.alloc (.cells #[.int .i64 d, .slice au nl cu, .slice av ml cv] 28))
  have U3 := Lib.hid (hu.still ga)
  have V3 := Lib.hid (hv.still ga)
  have K3 : Hid (Blk (w2.alloc (.cells #[.int .i64 d, .slice au nl cu, .slice av ml cv] 28)) w2.heap.size 28 [.int .i64 d, .slice au nl cu, .slice av ml cv]) := Lib.hid (heap_alloc_new _ _)
  have S3 : c < w2.heap.size := by have := hf.size; omega
  clear hu hv hf h2 ga R1
  go_upto_region 3 with fail
  generalize w2.alloc (.cells #[.int .i64 d, .slice au nl cu, .slice av ml cv] 28) = w3 at *
  generalize w2.heap.size = bp at *
  go_wp2_with fail
  refine (drawVals c (0 + 15) _ R3.out (by omega)).mono ?_
  rintro e w5 ⟨k', x, y, z, f, _, rfl, hz8, hf8, hx, hy, hf⟩
  have F5 := Lib.hid (F3.out.trans hf)
  have U5 := Lib.hid (U3.out.far hf C1)
  have V5 := Lib.hid (V3.out.far hf C1)
  have K5 : Hid (Blk w5 bp 28 [.int .i64 d, .slice au nl cu, .slice av ml cv]) := Lib.hid (K3.out.kept (far_grown hf) (fun e => by injection e with e; omega))
  have Z5 : Hid (Blk w5 r 28 [.int .i64 0, .slice none 0 0, .slice none 0 0]) := Lib.hid (Z1.out.kept (far_grown F5.out) (fun e => by injection e with e; omega))
  have X5 := Lib.hid hx
  have BE5 : Hid (Below w.heap.size w w5) := Lib.hid (B1.out.trans (F5.out.below (by omega) B1.out.size))
  clear hx hy hf F3 R3 U3 V3 K3 Z1 F5 hf8
  have k0 := K5.out.cell (i := 0) rfl
  have k1 := K5.out.cell (i := 1) rfl
  have k2 := K5.out.cell (i := 2) rfl
  have z0 := Z5.out.cell (i := 0) rfl
  have z1 := Z5.out.cell (i := 1) rfl
  have z2 := Z5.out.cell (i := 2) rfl
  have f0 := Z5.out.frozen 0
  have f1 := Z5.out.frozen 1
  have f2 := Z5.out.frozen 2
  have GS : Hid (w5.grownBy (((w5.setCell ⟨r, 0, none⟩ (.int .i64 d)).setCell ⟨r, 1, none⟩ (.slice au nl cu)).setCell ⟨r, 2, none⟩ (.slice av ml cv)) (some r)) := Lib.hid (grown_trans (grown_trans (grown_cell _ _ _) (grown_cell _ _ _)) (grown_cell _ _ _))
  have UZ := Lib.hid (U5.out.kept GS.out (own_far U5.out (by omega))).sl
  have VZ := Lib.hid (V5.out.kept GS.out (own_far V5.out (by omega))).sl
  have XZ : Hid (Sl (((w5.setCell ⟨r, 0, none⟩ (.int .i64 d)).setCell ⟨r, 1, none⟩ (.slice au nl cu)).setCell ⟨r, 2, none⟩ (.slice av ml cv)) x z) := Lib.hid (slNot X5.out hz8 GS.out Z5.out)
  have BZ : Hid (Below w.heap.size w (((w5.setCell ⟨r, 0, none⟩ (.int .i64 d)).setCell ⟨r, 1, none⟩ (.slice au nl cu)).setCell ⟨r, 2, none⟩ (.slice av ml cv))) := Lib.hid (BE5.out.trans (below_row GS.out hr1 BE5.out.size))
  clear GS K5 Z5 U5 V5 X5 BE5 B1
  go_wp2_with fail
  refine bodyPost_ret (v := .tuple #[.agg #[.int .i64 d, .slice au nl cu, .slice av ml cv], x]) (by simp [results, Try.results25, go_sem, z0, z1, z2]) rfl ?_
  exact ⟨d, _, _, x, l, m, z, rfl, hz8, UZ.out, VZ.out, XZ.out, BZ.out⟩
end Go.Proofs.Ytbpkfcaokbidnaa
