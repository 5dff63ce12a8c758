/-
  The contracts of what the laws of chapter 21 draw from bytes: a stripe; a stripe and a shard; a stripe, spoilt or not.
  Conditions: none.
-/
import Derived.Test.YtoflijiinkmjoaaStripeDraw2
namespace Go.Proofs.Ytoflijiinkmjoaa
open Go.RowKit Go.Shelf
set_option linter.unusedVariables false
set_option linter.unusedSimpArgs false
attribute [local go_sem] Oper.semAt_some

/-- a stripe that is drawn. -/
def DrawnS (w : World) (e : Ending) (w' : World) : Prop := ∃ (k : Int) (u x y : Value) (a v : List Int) (f : List Bool), a.length = 8 ∧ v.length = 8 ∧ f.length = 8 ∧ e = .returned (.agg #[.int .i64 k, u, x, y]) ∧ Below w.heap.size w w' ∧ StOwn w' w.heap.size u x y a v f
/-- a stripe and a shard. -/
def DrawnSN (w : World) (e : Ending) (w' : World) : Prop := ∃ (k : Int) (u x y : Value) (a v : List Int) (f : List Bool) (n : Nat), n < 16 ∧ a.length = 8 ∧ v.length = 8 ∧ f.length = 8 ∧ e = .returned (.tuple #[.agg #[.int .i64 k, u, x, y], .int .i64 n]) ∧ Below w.heap.size w w' ∧ StOwn w' w.heap.size u x y a v f
theorem outC_below {w w' : World} {gz B : Nat} (h : OutC w gz) (hb : Below B w w') (hg : gz < B) : OutC w' gz := by
  obtain ⟨old, h1, h2⟩ := h
  exact ⟨old, (hb.block gz hg).trans h1, h2⟩
theorem below_rowS {B g : Nat} {w W W' : World} (h : Below B w W) (hg : W.grownBy W' (some g)) (hb : B ≤ g) (hB : B ≤ w.heap.size) : Below B w W' :=
  ⟨hg.os.trans h.os, hg.tape.trans h.tape, hg.output.trans h.output, Nat.le_trans h.size hg.size, fun k hk => (hg.block k (by have := h.size; omega) (by intro e; injection e; omega)).trans (h.block k hk)⟩
/-- what a law holds of a stripe that it has drawn into block t. -/
structure LS (w : World) (t : Nat) (k : Int) (u x y : Value) (a v : List Int) (f : List Bool) (W : World) : Prop where
  bel : Below w.heap.size w W
  blk : Blk W t 26 [.int .i64 k, u, x, y]
  own : StOwn W w.heap.size u x y a v f
theorem LS.still {w W W' : World} {t : Nat} {k : Int} {u x y : Value} {a v : List Int} {f : List Bool} (h : LS w t k u x y a v f W) (hg : W.grownBy W' none) : LS w t k u x y a v f W' :=
  ⟨h.bel.trans ((below_grown hg).mono h.bel.size), h.blk.kept hg (by simp), h.own.still hg⟩
/-- where it is laid. -/
theorem LS.new {w W : World} {k : Int} {u x y : Value} {a v : List Int} {f : List Bool} (hb : Below w.heap.size w W) (ho : StOwn W w.heap.size u x y a v f) : LS w W.heap.size k u x y a v f (W.alloc (.cells #[.int .i64 k, u, x, y] 26)) :=
  ⟨hb.trans ((below_grown (World.grownBy_alloc W _ none)).mono hb.size), heap_alloc_new _ _, ho.still (World.grownBy_alloc W _ none)⟩
set_option maxHeartbeats 4000000 in
set_option maxRecDepth 20000 in
theorem drawStripeRead (b : Option Addr) (len cap : Nat) (w : World) (h : Code w b len cap) : Calls Try.prog 12 #[.slice b len cap] w (DrawnS w) := by
  have Z0 : Hid (Blk (w.alloc (.cells #[.int .i64 0, .slice none 0 0, .slice none 0 0, .slice none 0 0] 26)) w.heap.size 26 [.int .i64 0, .slice none 0 0, .slice none 0 0, .slice none 0 0]) := Lib.hid (heap_alloc_new _ _)
  have G0 := Lib.hid (grown_alloc (World.grownBy.refl w none) (.cells #[.int .i64 0, .slice none 0 0, .slice none 0 0, .slice none 0 0] 26))
  have S0 : w.heap.size + 1 = (w.alloc (.cells #[.int .i64 0, .slice none 0 0, .slice none 0 0, .slice none 0 0] 26)).heap.size := by simp
  have H0 : Hid (Code (w.alloc (.cells #[.int .i64 0, .slice none 0 0, .slice none 0 0, .slice none 0 0] 26)) b len cap) := Lib.hid (h.below (below_grown G0.out))
  clear h
  go_enter Try.func12, Try.ntmps12
  go_wp2_with fail
  generalize w.alloc (.cells #[.int .i64 0, .slice none 0 0, .slice none 0 0, .slice none 0 0] 26) = w0 at *
  obtain ⟨gz, hgz⟩ : ∃ r, r = w.heap.size := ⟨_, rfl⟩
  rw [← hgz] at Z0 ⊢
  have HZ : w.heap.size ≤ gz := by omega
  have HZ2 : gz < w0.heap.size := by omega
  clear hgz S0
  refine (openR b len cap _ H0.out).mono ?_
  rintro e w1 ⟨rfl, hb1, h1⟩
  have B1 : Hid (Below w.heap.size w w1) := Lib.hid ((below_grown G0.out).trans (hb1.mono (by omega)))
  have Z1 : Hid (Blk w1 gz 26 [.int .i64 0, .slice none 0 0, .slice none 0 0, .slice none 0 0]) := Lib.hid ((hb1.block gz HZ2).trans Z0.out)
  have R1 := Lib.hid h1
  have C1 := h1.lt
  have SW : w.heap.size ≤ w1.heap.size := B1.out.size
  obtain ⟨c, hc⟩ : ∃ c, c = w0.heap.size := ⟨_, rfl⟩
  rw [← hc] at R1 C1 HZ2 ⊢
  have HC : w.heap.size ≤ c := by omega
  clear hb1 h1 Z0 G0 H0 hc
  go_wp2_with fail
  refine (drawStripe c 0 _ R1.out (by omega)).mono ?_
  rintro e w2 ⟨k, u, x, y, a, v, f, la, lv, lf, rfl, hf, hr, ho⟩
  have L := Lib.hid (And.intro la (And.intro lv lf))
  have O2 := Lib.hid (ho.lower SW)
  have OB := Lib.hid ho
  have R2 := Lib.hid hr
  have F2 := Lib.hid hf
  have Z2 : Hid (Blk w2 gz 26 [.int .i64 0, .slice none 0 0, .slice none 0 0, .slice none 0 0]) := Lib.hid (Z1.out.kept (far_grown hf) (fun e => by injection e with e; omega))
  obtain ⟨b1, d1, e1, -, -, -⟩ := ho.a
  obtain ⟨b2, d2, e2, -, -, -⟩ := ho.v
  obtain ⟨b3, d3, e3, -, -, -⟩ := ho.f
  rw [la] at e1
  rw [lv] at e2
  rw [lf] at e3
  subst e1 e2 e3
  clear la lv lf hf hr ho R1 Z1
  have z0 := Z2.out.cell (i := 0) rfl
  have f0 := Z2.out.frozen 0
  have z1 := Z2.out.cell (i := 1) rfl
  have f1 := Z2.out.frozen 1
  have z2 := Z2.out.cell (i := 2) rfl
  have f2 := Z2.out.frozen 2
  have z3 := Z2.out.cell (i := 3) rfl
  have f3 := Z2.out.frozen 3
  have GS : Hid (w2.grownBy ((((w2.setCell ⟨gz, 0, none⟩ (.int .i64 k)).setCell ⟨gz, 1, none⟩ (.slice b1 8 d1)).setCell ⟨gz, 2, none⟩ (.slice b2 8 d2)).setCell ⟨gz, 3, none⟩ (.slice b3 8 d3)) (some gz)) := Lib.hid (grown_trans (grown_trans (grown_trans (grownCell _ _ _) (grownCell _ _ _)) (grownCell _ _ _)) (grownCell _ _ _))
  have OZ := Lib.hid (outRow O2.out GS.out Z2.out)
  have BZ := Lib.hid (below_rowS (B1.out.trans (F2.out.below HC SW)) GS.out HZ (Nat.le_refl _))
  clear GS
  go_wp2_with fail
  refine bodyPost_ret (v := .agg #[.int .i64 k, .slice b1 8 d1, .slice b2 8 d2, .slice b3 8 d3]) (by simp [results, Try.results12, go_sem, z0, z1, z2, z3]) rfl ?_
  exact ⟨_, _, _, _, _, _, _, L.out.1, L.out.2.1, L.out.2.2, rfl, BZ.out, OZ.out⟩
set_option maxHeartbeats 4000000 in
set_option maxRecDepth 20000 in
theorem drawStripeLose (b : Option Addr) (len cap : Nat) (w : World) (h : Code w b len cap) : Calls Try.prog 21 #[.slice b len cap] w (DrawnSN w) := by
  have Z0 : Hid (Blk (w.alloc (.cells #[.int .i64 0, .slice none 0 0, .slice none 0 0, .slice none 0 0] 26)) w.heap.size 26 [.int .i64 0, .slice none 0 0, .slice none 0 0, .slice none 0 0]) := Lib.hid (heap_alloc_new _ _)
  have G0 := Lib.hid (grown_alloc (World.grownBy.refl w none) (.cells #[.int .i64 0, .slice none 0 0, .slice none 0 0, .slice none 0 0] 26))
  have S0 : w.heap.size + 1 = (w.alloc (.cells #[.int .i64 0, .slice none 0 0, .slice none 0 0, .slice none 0 0] 26)).heap.size := by simp
  have H0 : Hid (Code (w.alloc (.cells #[.int .i64 0, .slice none 0 0, .slice none 0 0, .slice none 0 0] 26)) b len cap) := Lib.hid (h.below (below_grown G0.out))
  clear h
  go_enter Try.func21, Try.ntmps21
  go_wp2_with fail
  generalize w.alloc (.cells #[.int .i64 0, .slice none 0 0, .slice none 0 0, .slice none 0 0] 26) = w0 at *
  obtain ⟨gz, hgz⟩ : ∃ r, r = w.heap.size := ⟨_, rfl⟩
  rw [← hgz] at Z0 ⊢
  have HZ : w.heap.size ≤ gz := by omega
  have HZ2 : gz < w0.heap.size := by omega
  clear hgz S0
  refine (openR b len cap _ H0.out).mono ?_
  rintro e w1 ⟨rfl, hb1, h1⟩
  have B1 : Hid (Below w.heap.size w w1) := Lib.hid ((below_grown G0.out).trans (hb1.mono (by omega)))
  have Z1 : Hid (Blk w1 gz 26 [.int .i64 0, .slice none 0 0, .slice none 0 0, .slice none 0 0]) := Lib.hid ((hb1.block gz HZ2).trans Z0.out)
  have R1 := Lib.hid h1
  have C1 := h1.lt
  have SW : w.heap.size ≤ w1.heap.size := B1.out.size
  obtain ⟨c, hc⟩ : ∃ c, c = w0.heap.size := ⟨_, rfl⟩
  rw [← hc] at R1 C1 HZ2 ⊢
  have HC : w.heap.size ≤ c := by omega
  clear hb1 h1 Z0 G0 H0 hc
  go_wp2_with fail
  refine (drawStripe c 0 _ R1.out (by omega)).mono ?_
  rintro e w2 ⟨k, u, x, y, a, v, f, la, lv, lf, rfl, hf, hr, ho⟩
  have L := Lib.hid (And.intro la (And.intro lv lf))
  have O2 := Lib.hid (ho.lower SW)
  have OB := Lib.hid ho
  have R2 := Lib.hid hr
  have F2 := Lib.hid hf
  have Z2 : Hid (Blk w2 gz 26 [.int .i64 0, .slice none 0 0, .slice none 0 0, .slice none 0 0]) := Lib.hid (Z1.out.kept (far_grown hf) (fun e => by injection e with e; omega))
  obtain ⟨b1, d1, e1, -, -, -⟩ := ho.a
  obtain ⟨b2, d2, e2, -, -, -⟩ := ho.v
  obtain ⟨b3, d3, e3, -, -, -⟩ := ho.f
  rw [la] at e1
  rw [lv] at e2
  rw [lf] at e3
  subst e1 e2 e3
  clear la lv lf hf hr ho R1 Z1
  go_wp2_with fail
  refine (pick c _ _ _ R2.out (by omega) (by omega) (by omega)).mono ?_
  rintro e w3 ⟨n1, n10, n11, rfl, hf, hr⟩
  have C2 : c < w1.heap.size := C1
  have O3 := Lib.hid (OB.out.far hf C1)
  have F3 := Lib.hid (F2.out.trans hf)
  have R3 := Lib.hid hr
  have Z3 : Hid (Blk w3 gz 26 [.int .i64 0, .slice none 0 0, .slice none 0 0, .slice none 0 0]) := Lib.hid (Z2.out.kept (far_grown hf) (fun e => by injection e with e; omega))
  clear hf hr O2 OB F2 R2 Z2
  go_wp2_with fail
  refine (pick c _ _ _ R3.out (by omega) (by omega) (by omega)).mono ?_
  rintro e w4 ⟨n2, n20, n21, rfl, hf, hr⟩
  have O4 := Lib.hid ((O3.out.far hf C1).lower SW)
  have F4 := Lib.hid (F3.out.trans hf)
  have Z4 : Hid (Blk w4 gz 26 [.int .i64 0, .slice none 0 0, .slice none 0 0, .slice none 0 0]) := Lib.hid (Z3.out.kept (far_grown hf) (fun e => by injection e with e; omega))
  clear hf hr O3 F3 R3 Z3
  obtain ⟨m, hm, hm2⟩ : ∃ m : Int, n2.tdiv 23 = m ∧ 0 ≤ m ∧ m ≤ 1 := ⟨_, rfl, by rw [Int.tdiv_eq_ediv_of_nonneg n20]; omega⟩
  have w1' : IntKind.i64.wrap m = m := IntWalk.i64_in _ (by omega)
  have w2' : IntKind.i64.wrap (m * 8) = m * 8 := IntWalk.i64_in _ (by omega)
  have w3' : IntKind.i64.wrap (n1 + m * 8) = n1 + m * 8 := IntWalk.i64_in _ (by omega)
  have z0 := Z4.out.cell (i := 0) rfl
  have f0 := Z4.out.frozen 0
  have z1 := Z4.out.cell (i := 1) rfl
  have f1 := Z4.out.frozen 1
  have z2 := Z4.out.cell (i := 2) rfl
  have f2 := Z4.out.frozen 2
  have z3 := Z4.out.cell (i := 3) rfl
  have f3 := Z4.out.frozen 3
  have GS : Hid (w4.grownBy ((((w4.setCell ⟨gz, 0, none⟩ (.int .i64 k)).setCell ⟨gz, 1, none⟩ (.slice b1 8 d1)).setCell ⟨gz, 2, none⟩ (.slice b2 8 d2)).setCell ⟨gz, 3, none⟩ (.slice b3 8 d3)) (some gz)) := Lib.hid (grown_trans (grown_trans (grown_trans (grownCell _ _ _) (grownCell _ _ _)) (grownCell _ _ _)) (grownCell _ _ _))
  have OZ := Lib.hid (outRow O4.out GS.out Z4.out)
  have BZ := Lib.hid (below_rowS (B1.out.trans (F4.out.below HC SW)) GS.out HZ (Nat.le_refl _))
  clear GS
  go_wp2_with fail
  refine bodyPost_ret (v := .tuple #[.agg #[.int .i64 k, .slice b1 8 d1, .slice b2 8 d2, .slice b3 8 d3], .int .i64 (n1 + m * 8)]) (by simp [results, Try.results21, go_sem, z0, z1, z2, z3]) rfl ?_
  exact ⟨_, _, _, _, _, _, _, (n1 + m * 8).toNat, by omega, L.out.1, L.out.2.1, L.out.2.2, by first | rfl | (rw [Int.toNat_of_nonneg (by omega)]), BZ.out, OZ.out⟩
end Go.Proofs.Ytoflijiinkmjoaa
