/-
  The contracts of l21Lose and StripeLose in the model; a stripe whose shard is written anew.
  Conditions: none.
-/
import Derived.Test.YtoflijiinkmjoaaStripeCopy
namespace Go.Proofs.Ytoflijiinkmjoaa
open Go.RowKit Go.Shelf
set_option linter.unusedVariables false
set_option linter.unusedSimpArgs false
attribute [local go_sem] Oper.semAt_some

theorem ownEight {w : World} {base : Nat} {u : Value} {l : List Int} (h : Own w base u l) (hl : l.length = 8) : ∃ g c, u = .slice (some ⟨g, 0, none⟩) 8 c ∧ base ≤ g ∧ g < w.heap.size ∧ c ≤ maxLen ∧ (∀ i, i < 8 → w.cell? ⟨g, i, none⟩ = some (.int .i64 (l.getD i 0))) ∧ ∀ i, w.frozen? ⟨g, i, none⟩ = false := by
  have h' := h
  unfold Own at h'
  rcases h.2 with ⟨_, h0⟩ | ⟨g, c, cur, h0, hb, hh, _, hc, _⟩
  · rw [hl] at h0; cases h0
  · refine ⟨g, c, by rw [h0, hl], hb, (Array.getElem?_eq_some_iff.1 hh).1, hc, fun i hi => ?_, fun i => World.ownsRow.frozenAt (by rw [h0] at h'; exact h') i⟩
    obtain ⟨a', c', e, _, _, hr⟩ := h.sl
    rw [h0] at e
    injection e with e1 e2 e3
    obtain ⟨b', o', e', hx⟩ := hr.at_ (k := i) (by omega)
    rw [← e1] at e'
    injection e' with e'
    injection e' with e1 e4
    subst e1 e4
    rw [Nat.zero_add] at hx
    exact hx
theorem ownPut {w : World} {base g c : Nat} {l : List Int} (h : Own w base (.slice (some ⟨g, 0, none⟩) 8 c) l) (hl : l.length = 8) (i : Nat) (x : Int) : Own (w.setCell ⟨g, i, none⟩ (.int .i64 x)) base (.slice (some ⟨g, 0, none⟩) 8 c) (l.set i x) := by
  unfold Own at h
  rw [hl] at h
  have hs := World.ownsRow.stored h i (.int .i64 x)
  refine own_len (n := 8) ?_ (by rw [List.length_set]; exact hl)
  rw [← vals_set]
  exact hs.1
/-- one of three rows is written. -/
theorem stPutA {w : World} {base g c : Nat} {x y : Value} {a v : List Int} {f : List Bool} (h : StOwn w base (.slice (some ⟨g, 0, none⟩) 8 c) x y a v f) (ha : a.length = 8) (i : Nat) (z : Int) : StOwn (w.setCell ⟨g, i, none⟩ (.int .i64 z)) base (.slice (some ⟨g, 0, none⟩) 8 c) x y (a.set i z) v f := by
  obtain ⟨h0, h1, h2, ab, ac, bc⟩ := own3 h
  have hg := grownCell w ⟨g, i, none⟩ (.int .i64 z)
  exact mk3 (row1_own.2 (ownPut (row1_own.1 h0) ha i z)) (World.ownsRow.kept h1 hg (by rcases ab.symm with e | e; exact .inl e; exact .inr e)) (World.ownsRow.kept h2 hg (by rcases ac.symm with e | e; exact .inl e; exact .inr e)) ab ac bc
theorem stPutV {w : World} {base g c : Nat} {u y : Value} {a v : List Int} {f : List Bool} (h : StOwn w base u (.slice (some ⟨g, 0, none⟩) 8 c) y a v f) (hv : v.length = 8) (i : Nat) (z : Int) : StOwn (w.setCell ⟨g, i, none⟩ (.int .i64 z)) base u (.slice (some ⟨g, 0, none⟩) 8 c) y a (v.set i z) f := by
  obtain ⟨h0, h1, h2, ab, ac, bc⟩ := own3 h
  have hg := grownCell w ⟨g, i, none⟩ (.int .i64 z)
  exact mk3 (World.ownsRow.kept h0 hg (by rcases ab with e | e; exact .inl e; exact .inr e)) (row1_own.2 (ownPut (row1_own.1 h1) hv i z)) (World.ownsRow.kept h2 hg (by rcases bc.symm with e | e; exact .inl e; exact .inr e)) ab ac bc
theorem stPutF {w : World} {base g c : Nat} {u x : Value} {a v : List Int} {f : List Bool} (h : StOwn w base u x (.slice (some ⟨g, 0, none⟩) 8 c) a v f) (hf : f.length = 8) (i : Nat) (z : Bool) : StOwn (w.setCell ⟨g, i, none⟩ (.bool z)) base u x (.slice (some ⟨g, 0, none⟩) 8 c) a v (f.set i z) := by
  obtain ⟨h0, h1, h2, ab, ac, bc⟩ := own3 h
  have hg := grownCell w ⟨g, i, none⟩ (.bool z)
  have hb := (BOwn.put (bool1_own.1 h2) hf.symm i z).1
  exact mk3 (World.ownsRow.kept h0 hg (by rcases ac with e | e; exact .inl e; exact .inr e)) (World.ownsRow.kept h1 hg (by rcases bc with e | e; exact .inl e; exact .inr e)) (bool1_own.2 hb) ab ac bc

/-- a stripe that is told by its parts lies in a block, with its three rows. -/
structure StAt (w : World) (base s g1 g2 g3 d1 d2 d3 : Nat) (k : Int) (a v : List Int) (f : List Bool) : Prop where
  blk : Blk w s 26 [.int .i64 k, .slice (some ⟨g1, 0, none⟩) 8 d1, .slice (some ⟨g2, 0, none⟩) 8 d2, .slice (some ⟨g3, 0, none⟩) 8 d3]
  own : StOwn w base (.slice (some ⟨g1, 0, none⟩) 8 d1) (.slice (some ⟨g2, 0, none⟩) 8 d2) (.slice (some ⟨g3, 0, none⟩) 8 d3) a v f
  la : a.length = 8
  lv : v.length = 8
  lf : f.length = 8
  ne1 : s ≠ g1
  ne2 : s ≠ g2
  ne3 : s ≠ g3
namespace StAt
variable {w w' : World} {base s g1 g2 g3 d1 d2 d3 : Nat} {k : Int} {a v : List Int} {f : List Bool}
theorem cap (h : StAt w base s g1 g2 g3 d1 d2 d3 k a v f) : d1 ≤ maxLen ∧ d2 ≤ maxLen ∧ d3 ≤ maxLen := by
  obtain ⟨h0, h1, h2, _⟩ := own3 h.own
  refine ⟨?_, ?_, ?_⟩
  · obtain ⟨_, _, e, _, hc, _⟩ := (row1_own.1 h0).sl; injection e with _ _ e; omega
  · obtain ⟨_, _, e, _, hc, _⟩ := (row1_own.1 h1).sl; injection e with _ _ e; omega
  · obtain ⟨_, _, e, _, hc, _⟩ := (bool1_own.1 h2).bl; injection e with _ _ e; omega
theorem still (h : StAt w base s g1 g2 g3 d1 d2 d3 k a v f) (hg : w.grownBy w' none) : StAt w' base s g1 g2 g3 d1 d2 d3 k a v f :=
  ⟨h.blk.kept hg (by simp), h.own.still hg, h.la, h.lv, h.lf, h.ne1, h.ne2, h.ne3⟩
theorem cellA (h : StAt w base s g1 g2 g3 d1 d2 d3 k a v f) {i : Nat} (hi : i < 8) : w.cell? ⟨g1, i, none⟩ = some (.int .i64 (a.getD i 0)) ∧ w.frozen? ⟨g1, i, none⟩ = false ∧ base ≤ g1 := by
  obtain ⟨g, c, e, hb, _, _, hc, hf⟩ := ownEight (row1_own.1 (own3 h.own).1) h.la
  injection e with e _ _
  injection e with e
  injection e with e
  subst e
  exact ⟨hc i hi, hf i, hb⟩
theorem cellV (h : StAt w base s g1 g2 g3 d1 d2 d3 k a v f) {i : Nat} (hi : i < 8) : w.cell? ⟨g2, i, none⟩ = some (.int .i64 (v.getD i 0)) ∧ w.frozen? ⟨g2, i, none⟩ = false ∧ base ≤ g2 := by
  obtain ⟨g, c, e, hb, _, _, hc, hf⟩ := ownEight (row1_own.1 (own3 h.own).2.1) h.lv
  injection e with e _ _
  injection e with e
  injection e with e
  subst e
  exact ⟨hc i hi, hf i, hb⟩
theorem cellF (h : StAt w base s g1 g2 g3 d1 d2 d3 k a v f) {i : Nat} (hi : i < 8) : w.cell? ⟨g3, i, none⟩ = some (.bool (f.getD i false)) ∧ w.frozen? ⟨g3, i, none⟩ = false ∧ base ≤ g3 := by
  obtain ⟨g, c, e, hb, _, _, _, hc, hf⟩ := (bool1_own.1 (own3 h.own).2.2.1).eight h.lf
  injection e with e _ _
  injection e with e
  injection e with e
  subst e
  exact ⟨hc i hi, hf i, hb⟩
theorem putA (h : StAt w base s g1 g2 g3 d1 d2 d3 k a v f) (i : Nat) (z : Int) : StAt (w.setCell ⟨g1, i, none⟩ (.int .i64 z)) base s g1 g2 g3 d1 d2 d3 k (a.set i z) v f :=
  ⟨(Below.heap_setCell _ _ _ _ h.ne1).trans h.blk, stPutA h.own h.la i z, by rw [List.length_set]; exact h.la, h.lv, h.lf, h.ne1, h.ne2, h.ne3⟩
theorem putV (h : StAt w base s g1 g2 g3 d1 d2 d3 k a v f) (i : Nat) (z : Int) : StAt (w.setCell ⟨g2, i, none⟩ (.int .i64 z)) base s g1 g2 g3 d1 d2 d3 k a (v.set i z) f :=
  ⟨(Below.heap_setCell _ _ _ _ h.ne2).trans h.blk, stPutV h.own h.lv i z, h.la, by rw [List.length_set]; exact h.lv, h.lf, h.ne1, h.ne2, h.ne3⟩
theorem putF (h : StAt w base s g1 g2 g3 d1 d2 d3 k a v f) (i : Nat) (z : Bool) : StAt (w.setCell ⟨g3, i, none⟩ (.bool z)) base s g1 g2 g3 d1 d2 d3 k a v (f.set i z) :=
  ⟨(Below.heap_setCell _ _ _ _ h.ne3).trans h.blk, stPutF h.own h.lf i z, h.la, h.lv, by rw [List.length_set]; exact h.lf, h.ne1, h.ne2, h.ne3⟩
end StAt
/-- a stripe that has come back is laid in a block. -/
theorem StAt.new {w w' : World} {base : Nat} {k : Int} {u x y : Value} {a v : List Int} {f : List Bool} (ho : StOwn w base u x y a v f) (la : a.length = 8) (lv : v.length = 8) (lf : f.length = 8) :
    ∃ g1 g2 g3 d1 d2 d3, u = .slice (some ⟨g1, 0, none⟩) 8 d1 ∧ x = .slice (some ⟨g2, 0, none⟩) 8 d2 ∧ y = .slice (some ⟨g3, 0, none⟩) 8 d3 ∧ StAt (w.alloc (.cells #[.int .i64 k, .slice (some ⟨g1, 0, none⟩) 8 d1, .slice (some ⟨g2, 0, none⟩) 8 d2, .slice (some ⟨g3, 0, none⟩) 8 d3] 26)) base w.heap.size g1 g2 g3 d1 d2 d3 k a v f := by
  obtain ⟨h0, h1, h2, _⟩ := own3 ho
  obtain ⟨g1, d1, e1, _, l1, _⟩ := ownEight (row1_own.1 h0) la
  obtain ⟨g2, d2, e2, _, l2, _⟩ := ownEight (row1_own.1 h1) lv
  obtain ⟨g3, d3, e3, _, l3, _⟩ := (bool1_own.1 h2).eight lf
  have e1' : u = .slice (some ⟨g1, 0, none⟩) 8 d1 := e1
  have e2' : x = .slice (some ⟨g2, 0, none⟩) 8 d2 := e2
  have e3' : y = .slice (some ⟨g3, 0, none⟩) 8 d3 := e3
  subst e1' e2' e3'
  have l3' : g3 < w.heap.size := by
    rcases h2.2 with ⟨h, _⟩ | ⟨g, c, cur, h, _, hh, _⟩
    · cases h
    · have e : g3 = g := by
        have h' : Value.slice (some ⟨g3, 0, none⟩) 8 d3 = .slice (some ⟨g, 0, none⟩) (bool1 (.slice (some ⟨g3, 0, none⟩) 8 d3) f).cs.length c := h
        injection h' with h' _ _
        injection h' with h'
        injection h'
      rw [e]
      exact (Array.getElem?_eq_some_iff.1 hh).1
  exact ⟨g1, g2, g3, d1, d2, d3, rfl, rfl, rfl, heap_alloc_new _ _, ho.still (World.grownBy_alloc w _ none), la, lv, lf, by omega, by omega, by omega⟩

set_option maxHeartbeats 8000000 in
set_option maxRecDepth 20000 in
theorem specL21Lose (k : Int) (u x y : Value) (a v : List Int) (f : List Bool) (n : Nat) (hn : n < 8) (w : World) (hu : Sl w u a) (hx : Sl w x v) (hy : Bl w y f) (ha : a.length = 8) (hv : v.length = 8) (hf : f.length = 8) :
    Calls Try.prog 63 #[.agg #[.int .i64 k, u, x, y], .int .i64 n] w (NewSt k (a.set n 0) (v.set n 0) (f.set n false) w) := by
  have U := Lib.hid hu
  have X := Lib.hid hx
  have Y := Lib.hid hy
  obtain ⟨a1, c1, e1, -, -, -⟩ := hu
  obtain ⟨a2, c2, e2, -, -, -⟩ := hx
  obtain ⟨a3, c3, e3, -, -, -⟩ := hy
  subst e1 e2 e3
  obtain ⟨l1, hl1⟩ : ∃ n, n = a.length := ⟨_, rfl⟩
  obtain ⟨l2, hl2⟩ : ∃ n, n = v.length := ⟨_, rfl⟩
  obtain ⟨l3, hl3⟩ : ∃ n, n = f.length := ⟨_, rfl⟩
  rw [← hl1] at U ⊢
  rw [← hl2] at X ⊢
  rw [← hl3] at Y ⊢
  have NL1 := Lib.hid hl1
  have NL2 := Lib.hid hl2
  have NL3 := Lib.hid hl3
  clear hl1 hl2 hl3
  obtain rfl : l1 = 8 := NL1.out.trans ha
  obtain rfl : l2 = 8 := NL2.out.trans hv
  obtain rfl : l3 = 8 := NL3.out.trans hf
  have EA := Lib.hid ha
  have EV := Lib.hid hv
  have EF := Lib.hid hf
  have hn' : (n : Int) < 8 := by omega
  have K0 : Hid (Blk ((w.alloc (.cells #[.int .i64 k, .slice a1 8 c1, .slice a2 8 c2, .slice a3 8 c3] 26)).alloc (.cells #[.int .i64 0, .slice none 0 0, .slice none 0 0, .slice none 0 0] 26)) w.heap.size 26 [.int .i64 k, .slice a1 8 c1, .slice a2 8 c2, .slice a3 8 c3]) := Lib.hid (by
    have h : Blk (w.alloc (.cells #[.int .i64 k, .slice a1 8 c1, .slice a2 8 c2, .slice a3 8 c3] 26)) w.heap.size 26 [.int .i64 k, .slice a1 8 c1, .slice a2 8 c2, .slice a3 8 c3] := heap_alloc_new _ _
    exact h.kept (World.grownBy_alloc _ _ none) (by simp))
  have Z0 : Hid (OutC ((w.alloc (.cells #[.int .i64 k, .slice a1 8 c1, .slice a2 8 c2, .slice a3 8 c3] 26)).alloc (.cells #[.int .i64 0, .slice none 0 0, .slice none 0 0, .slice none 0 0] 26)) (w.heap.size + 1)) := Lib.hid (by
    have := heap_alloc_new (w.alloc (.cells #[.int .i64 k, .slice a1 8 c1, .slice a2 8 c2, .slice a3 8 c3] 26)) (.cells #[.int .i64 0, .slice none 0 0, .slice none 0 0, .slice none 0 0] 26)
    rw [World.size_alloc] at this
    exact ⟨_, this, rfl⟩)
  have G0 := Lib.hid (grown_alloc (World.grownBy_alloc w (.cells #[.int .i64 k, .slice a1 8 c1, .slice a2 8 c2, .slice a3 8 c3] 26) none) (.cells #[.int .i64 0, .slice none 0 0, .slice none 0 0, .slice none 0 0] 26))
  have LL : w.heap.size + 1 < ((w.alloc (.cells #[.int .i64 k, .slice a1 8 c1, .slice a2 8 c2, .slice a3 8 c3] 26)).alloc (.cells #[.int .i64 0, .slice none 0 0, .slice none 0 0, .slice none 0 0] 26)).heap.size := by simp
  clear ha hv hf
  go_enter Try.func63, Try.ntmps63
  go_upto_region 1 with fail
  generalize (w.alloc (.cells #[.int .i64 k, .slice a1 8 c1, .slice a2 8 c2, .slice a3 8 c3] 26)).alloc (.cells #[.int .i64 0, .slice none 0 0, .slice none 0 0, .slice none 0 0] 26) = W0 at *
  obtain ⟨g, hg⟩ : ∃ g, g = w.heap.size := ⟨_, rfl⟩
  obtain ⟨gz, hgz⟩ : ∃ g, g = w.heap.size + 1 := ⟨_, rfl⟩
  have LZ : w.heap.size ≤ gz := by omega
  have LW : gz < W0.heap.size := by omega
  rw [← hg] at K0
  rw [← hgz] at Z0
  rw [← hgz, ← hg]
  clear hg hgz LL
  have k0 := K0.out.cell (i := 0) rfl
  have k1 := K0.out.cell (i := 1) rfl
  have k2 := K0.out.cell (i := 2) rfl
  have k3 := K0.out.cell (i := 3) rfl
  go_wp2_with fail
  refine (specCopy k _ _ _ a v f _ (U.out.grown G0.out) (X.out.grown G0.out) (Y.out.grown G0.out) EA.out EV.out EF.out).mono ?_
  rintro e w1 ⟨u', x', y', rfl, hg, ho⟩
  obtain ⟨g1, g2, g3, d1, d2, d3, e1, e2, e3, hS⟩ := StAt.new (w' := w1) (k := k) ho EA.out EV.out EF.out
  subst e1 e2 e3
  have S1 := Lib.hid hS
  have ga := World.grownBy_alloc w1 (.cells #[.int .i64 k, .slice (some ⟨g1, 0, none⟩) 8 d1, .slice (some ⟨g2, 0, none⟩) 8 d2, .slice (some ⟨g3, 0, none⟩) 8 d3] 26) none
  have G1 := Lib.hid (grown_trans (grown_trans G0.out hg) ga)
  have Z1 : Hid (OutC (w1.alloc (.cells #[.int .i64 k, .slice (some ⟨g1, 0, none⟩) 8 d1, .slice (some ⟨g2, 0, none⟩) 8 d2, .slice (some ⟨g3, 0, none⟩) 8 d3] 26)) gz) := Lib.hid (by
    obtain ⟨old, h1, h2⟩ := Z0.out
    exact ⟨old, (ga.block gz (Nat.lt_of_lt_of_le LW hg.size) (by simp)).trans ((hg.block gz LW (by simp)).trans h1), h2⟩)
  have LB : gz < W0.heap.size := LW
  have SW := hg.size
  clear hg ho ga hS G0 K0 Z0 k0 k1 k2 k3
  go_upto_region 2 with fail
  generalize w1.alloc (.cells #[.int .i64 k, .slice (some ⟨g1, 0, none⟩) 8 d1, .slice (some ⟨g2, 0, none⟩) 8 d2, .slice (some ⟨g3, 0, none⟩) 8 d3] 26) = w2 at *
  generalize hs : w1.heap.size = s at *
  clear hs
  have CP := S1.out.cap
  unfold maxLen at CP
  have BW : w.heap.size ≤ W0.heap.size := by omega
  have k1 := S1.out.blk.cell (i := 1) rfl
  obtain ⟨x1, f1, b1⟩ := S1.out.cellA hn
  have S2 := Lib.hid (S1.out.putA n 0)
  have G2 := Lib.hid (grown_set G1.out (p := ⟨g1, n, none⟩) (Nat.le_trans BW b1) (.int .i64 0))
  have Z2 : Hid (OutC (w2.setCell ⟨g1, n, none⟩ (.int .i64 0)) gz) := Lib.hid (by
    obtain ⟨old, h1, h2⟩ := Z1.out
    exact ⟨old, (Below.heap_setCell _ _ _ _ (by simp; omega)).trans h1, h2⟩)
  go_upto_region 3 with fail
  clear k1 x1 f1 b1 S1 G1 Z1
  generalize w2.setCell ⟨g1, n, none⟩ (.int .i64 0) = w3 at *
  have k2 := S2.out.blk.cell (i := 2) rfl
  obtain ⟨x2, f2, b2⟩ := S2.out.cellV hn
  have S3 := Lib.hid (S2.out.putV n 0)
  have G3 := Lib.hid (grown_set G2.out (p := ⟨g2, n, none⟩) (Nat.le_trans BW b2) (.int .i64 0))
  have Z3 : Hid (OutC (w3.setCell ⟨g2, n, none⟩ (.int .i64 0)) gz) := Lib.hid (by
    obtain ⟨old, h1, h2⟩ := Z2.out
    exact ⟨old, (Below.heap_setCell _ _ _ _ (by simp; omega)).trans h1, h2⟩)
  go_upto_region 4 with fail
  clear k2 x2 f2 b2 S2 G2 Z2
  generalize w3.setCell ⟨g2, n, none⟩ (.int .i64 0) = w4 at *
  have k3 := S3.out.blk.cell (i := 3) rfl
  obtain ⟨x3, f3, b3⟩ := S3.out.cellF hn
  have S4 := Lib.hid (S3.out.putF n false)
  have G4 := Lib.hid (grown_set G3.out (p := ⟨g3, n, none⟩) (Nat.le_trans BW b3) (.bool false))
  have Z4 : Hid (OutC (w4.setCell ⟨g3, n, none⟩ (.bool false)) gz) := Lib.hid (by
    obtain ⟨old, h1, h2⟩ := Z3.out
    exact ⟨old, (Below.heap_setCell _ _ _ _ (by simp; omega)).trans h1, h2⟩)
  go_upto_region 5 with fail
  clear k3 x3 f3 b3 S3 G3 Z3
  generalize w4.setCell ⟨g3, n, none⟩ (.bool false) = w5 at *
  apply wp_region_lit
  refine wpList_load_row rfl _ _ rfl s rfl _ _ _ _ S4.out.blk Try.underlying26 rfl infoPub ?_
  simp only [Act.put, List.setIfInBounds_toArray, List.set_cons_succ, List.set_cons_zero]
  obtain ⟨old, ho, hz⟩ := Z4.out
  refine wpList_store_row rfl _ _ _ rfl gz #[.int .i64 k, .slice (some ⟨g1, 0, none⟩) 8 d1, .slice (some ⟨g2, 0, none⟩) 8 d2, .slice (some ⟨g3, 0, none⟩) 8 d3] rfl rfl _ _ ho infoPub (by rw [hz]; rfl) (by kernel_rfl) ?_
  have B9 : Hid ((w5.setRow gz #[.int .i64 k, .slice (some ⟨g1, 0, none⟩) 8 d1, .slice (some ⟨g2, 0, none⟩) 8 d2, .slice (some ⟨g3, 0, none⟩) 8 d3]).heap[gz]? = some (.cells #[.int .i64 k, .slice (some ⟨g1, 0, none⟩) 8 d1, .slice (some ⟨g2, 0, none⟩) 8 d2, .slice (some ⟨g3, 0, none⟩) 8 d3] 26 (0, 0))) := Lib.hid (setRow_heap w5 gz old _ _ (0, 0) ho)
  have gr := grownRow ho #[.int .i64 k, .slice (some ⟨g1, 0, none⟩) 8 d1, .slice (some ⟨g2, 0, none⟩) 8 d2, .slice (some ⟨g3, 0, none⟩) 8 d3]
  have FIN : Hid (NewSt k (a.set n 0) (v.set n 0) (f.set n false) w (.returned (.agg #[.int .i64 k, .slice (some ⟨g1, 0, none⟩) 8 d1, .slice (some ⟨g2, 0, none⟩) 8 d2, .slice (some ⟨g3, 0, none⟩) 8 d3])) (w5.setRow gz #[.int .i64 k, .slice (some ⟨g1, 0, none⟩) 8 d1, .slice (some ⟨g2, 0, none⟩) 8 d2, .slice (some ⟨g3, 0, none⟩) 8 d3])) := Lib.hid ⟨_, _, _, rfl, grown_own G4.out gr (fun i hi => by injection hi with hi; omega), (outRow S4.out.own gr ho).lower BW⟩
  clear ho hz gr
  generalize w5.setRow gz #[.int .i64 k, .slice (some ⟨g1, 0, none⟩) 8 d1, .slice (some ⟨g2, 0, none⟩) 8 d2, .slice (some ⟨g3, 0, none⟩) 8 d3] = w9 at *
  go_wp2_with fail
  refine bodyPost_ret (v := .agg #[.int .i64 k, .slice (some ⟨g1, 0, none⟩) 8 d1, .slice (some ⟨g2, 0, none⟩) 8 d2, .slice (some ⟨g3, 0, none⟩) 8 d3]) ?_ rfl FIN.out
  exact results_cell_row Try.results63 _ _ gz _ _ _ _ rfl B9.out Try.underlying26 rfl infoPub

/-- what StripeLose answers, told. -/
def LoseT' (k : Int) (a v : List Int) (f : List Bool) (n : Int) (w : World) (e : Ending) (w' : World) : Prop := ∃ k' a' v' f', SLoseT k a v f n k' a' v' f' ∧ NewSt k' a' v' f' w e w'

theorem builtNone' : Try.prog.built 26 [] = some #[.int .i64 0, .slice none 0 0, .slice none 0 0, .slice none 0 0] := by kernel_rfl

theorem StOwn.none' (w : World) (b : Nat) : StOwn w b (.slice none 0 0) (.slice none 0 0) (.slice none 0 0) [] [] [] :=
  mk3 (row1_own.2 (Own.none_ w b)) (row1_own.2 (Own.none_ w b)) (bool1_own.2 (BOwn.none_ w b)) (.inl rfl) (.inl rfl) (.inl rfl)

set_option maxHeartbeats 8000000 in
set_option maxRecDepth 20000 in
theorem specStripeLose (k : Int) (u x y : Value) (a v : List Int) (f : List Bool) (n : Int) (w : World) (hu : Sl w u a) (hx : Sl w x v) (hy : Bl w y f) (hal : a.length ≤ 1048576) : Calls Try.prog 24 #[.agg #[.int .i64 k, u, x, y], .int .i64 n] w (LoseT' k a v f n w) := by
  have U := Lib.hid hu
  have X := Lib.hid hx
  have Y := Lib.hid hy
  obtain ⟨a1, c1, e1, -, -, -⟩ := hu
  obtain ⟨a2, c2, e2, -, -, -⟩ := hx
  obtain ⟨a3, c3, e3, -, -, -⟩ := hy
  subst e1 e2 e3
  obtain ⟨l1, hl1⟩ : ∃ n, n = a.length := ⟨_, rfl⟩
  obtain ⟨l2, hl2⟩ : ∃ n, n = v.length := ⟨_, rfl⟩
  obtain ⟨l3, hl3⟩ : ∃ n, n = f.length := ⟨_, rfl⟩
  rw [← hl1] at U ⊢
  rw [← hl2] at X ⊢
  rw [← hl3] at Y ⊢
  have NL1 := Lib.hid hl1
  have NL2 := Lib.hid hl2
  have NL3 := Lib.hid hl3
  clear hl1 hl2 hl3
  have K0 : Hid (Blk ((w.alloc (.cells #[.int .i64 k, .slice a1 l1 c1, .slice a2 l2 c2, .slice a3 l3 c3] 26)).alloc (.cells #[.int .i64 0, .slice none 0 0, .slice none 0 0, .slice none 0 0] 26)) w.heap.size 26 [.int .i64 k, .slice a1 l1 c1, .slice a2 l2 c2, .slice a3 l3 c3]) := Lib.hid (by
    have h : Blk (w.alloc (.cells #[.int .i64 k, .slice a1 l1 c1, .slice a2 l2 c2, .slice a3 l3 c3] 26)) w.heap.size 26 [.int .i64 k, .slice a1 l1 c1, .slice a2 l2 c2, .slice a3 l3 c3] := heap_alloc_new _ _
    exact h.kept (World.grownBy_alloc _ _ none) (by simp))
  have Z0 : Hid (OutC ((w.alloc (.cells #[.int .i64 k, .slice a1 l1 c1, .slice a2 l2 c2, .slice a3 l3 c3] 26)).alloc (.cells #[.int .i64 0, .slice none 0 0, .slice none 0 0, .slice none 0 0] 26)) (w.heap.size + 1)) := Lib.hid (by
    have := heap_alloc_new (w.alloc (.cells #[.int .i64 k, .slice a1 l1 c1, .slice a2 l2 c2, .slice a3 l3 c3] 26)) (.cells #[.int .i64 0, .slice none 0 0, .slice none 0 0, .slice none 0 0] 26)
    rw [World.size_alloc] at this
    exact ⟨_, this, rfl⟩)
  have G0 := Lib.hid (grown_alloc (World.grownBy_alloc w (.cells #[.int .i64 k, .slice a1 l1 c1, .slice a2 l2 c2, .slice a3 l3 c3] 26) none) (.cells #[.int .i64 0, .slice none 0 0, .slice none 0 0, .slice none 0 0] 26))
  have LL : w.heap.size + 1 < ((w.alloc (.cells #[.int .i64 k, .slice a1 l1 c1, .slice a2 l2 c2, .slice a3 l3 c3] 26)).alloc (.cells #[.int .i64 0, .slice none 0 0, .slice none 0 0, .slice none 0 0] 26)).heap.size := by simp
  go_enter Try.func24, Try.ntmps24
  go_upto_region 1 with fail
  generalize (w.alloc (.cells #[.int .i64 k, .slice a1 l1 c1, .slice a2 l2 c2, .slice a3 l3 c3] 26)).alloc (.cells #[.int .i64 0, .slice none 0 0, .slice none 0 0, .slice none 0 0] 26) = W0 at *
  obtain ⟨g, hg⟩ : ∃ g, g = w.heap.size := ⟨_, rfl⟩
  obtain ⟨gz, hgz⟩ : ∃ g, g = w.heap.size + 1 := ⟨_, rfl⟩
  have LZ : w.heap.size ≤ gz := by omega
  have LW : gz < W0.heap.size := by omega
  rw [← hg] at K0
  rw [← hgz] at Z0
  rw [← hgz, ← hg]
  clear hg hgz LL
  have k0 := K0.out.cell (i := 0) rfl
  have k1 := K0.out.cell (i := 1) rfl
  have k2 := K0.out.cell (i := 2) rfl
  have k3 := K0.out.cell (i := 3) rfl
  go_wp2_with fail
  refine (specStripeOk k _ _ _ a v f _ (U.out.grown G0.out) (X.out.grown G0.out) (Y.out.grown G0.out) hal).mono ?_
  rintro e w1 ⟨q, rfl, hq, hg⟩
  have Q := Lib.hid hq
  have G1 := Lib.hid (grown_trans G0.out hg)
  have K1 := Lib.hid (K0.out.kept hg (by simp))
  have Z1 : Hid (OutC w1 gz) := Lib.hid (by
    obtain ⟨old, h1, h2⟩ := Z0.out
    exact ⟨old, (hg.block gz LW (by simp)).trans h1, h2⟩)
  have LW1 : gz < w1.heap.size := Nat.lt_of_lt_of_le LW hg.size
  clear hq hg k0 k1 k2 k3 G0 K0 Z0 LW
  cases q with
  | false =>
    have NO : Hid (¬ (StOk k a v f ∧ 0 ≤ n ∧ n < 8)) := Lib.hid (fun h => by have := Q.out.2 h.1; cases this)
    go_upto_region 2 with fail
    apply wp_region_lit
    refine wpBuild0 rfl _ rfl _ builtNone' ?_
    simp only [Act.put, List.setIfInBounds_toArray, List.set_cons_succ, List.set_cons_zero]
    obtain ⟨old, ho, hz⟩ := Z1.out
    refine wpList_store_row rfl _ _ _ rfl gz #[.int .i64 0, .slice none 0 0, .slice none 0 0, .slice none 0 0] rfl rfl _ _ ho infoPub (by rw [hz]; rfl) (by kernel_rfl) ?_
    have B9 : Hid ((w1.setRow gz #[.int .i64 0, .slice none 0 0, .slice none 0 0, .slice none 0 0]).heap[gz]? = some (.cells #[.int .i64 0, .slice none 0 0, .slice none 0 0, .slice none 0 0] 26 (0, 0))) := Lib.hid (setRow_heap w1 gz old _ _ (0, 0) ho)
    have FIN : Hid (LoseT' k a v f n w (.returned (.agg #[.int .i64 0, .slice none 0 0, .slice none 0 0, .slice none 0 0])) (w1.setRow gz #[.int .i64 0, .slice none 0 0, .slice none 0 0, .slice none 0 0])) := Lib.hid ⟨_, _, _, _, .inr ⟨NO.out, rfl, rfl, rfl, rfl⟩, _, _, _, rfl, grown_own G1.out (grownRow ho _) (fun i hi => by injection hi with hi; omega), StOwn.none' _ _⟩
    clear ho hz
    generalize w1.setRow gz #[.int .i64 0, .slice none 0 0, .slice none 0 0, .slice none 0 0] = w9 at *
    go_wp2_with fail
    refine bodyPost_ret (v := .agg #[.int .i64 0, .slice none 0 0, .slice none 0 0, .slice none 0 0]) ?_ rfl FIN.out
    exact results_cell_row Try.results24 _ _ gz _ _ _ _ rfl B9.out Try.underlying26 rfl infoPub
  | true =>
    have OK := Lib.hid (Q.out.1 rfl)
    clear Q
    by_cases hn : 0 ≤ n ∧ n < 8
    · obtain ⟨m, rfl, hm⟩ : ∃ m : Nat, n = m ∧ m < 8 := ⟨n.toNat, by omega, by omega⟩
      have HM := Lib.hid hm
      have SI := Lib.hid (fun W => inIsS (x := (m : Int)) (a := 0) (b := 7) (v := true) (by rw [decide_eq_true hn.1, decide_eq_true (by omega)]; rfl) W)
      clear hn hm
      go_wp2_with fail
      refine (SI.out _).mono ?_
      rintro e w' ⟨rfl, rfl⟩
      have k0 := K1.out.cell (i := 0) rfl
      have k1 := K1.out.cell (i := 1) rfl
      have k2 := K1.out.cell (i := 2) rfl
      have k3 := K1.out.cell (i := 3) rfl
      go_wp2_with fail
      refine (specL21Lose k _ _ _ a v f m HM.out _ (U.out.grown G1.out) (X.out.grown G1.out) (Y.out.grown G1.out) (shOk_row.1 OK.out.sh).1 OK.out.v8 OK.out.f8).mono ?_
      rintro e w2 ⟨u', x', y', rfl, hg, ho⟩
      have G2 := Lib.hid (grown_trans G1.out hg)
      have O2 := Lib.hid (ho.lower G1.out.size)
      have Z2 : Hid (OutC w2 gz) := Lib.hid (by
        obtain ⟨old, h1, h2⟩ := Z1.out
        exact ⟨old, (hg.block gz LW1 (by simp)).trans h1, h2⟩)
      obtain ⟨b1, d1, e1, -, -, -⟩ := ho.a
      obtain ⟨b2, d2, e2, -, -, -⟩ := ho.v
      obtain ⟨b3, d3, e3, -, -, -⟩ := ho.f
      rw [List.length_set, (shOk_row.1 OK.out.sh).1] at e1
      rw [List.length_set, OK.out.v8] at e2
      rw [List.length_set, OK.out.f8] at e3
      subst e1 e2 e3
      clear hg ho k0 k1 k2 k3
      rename_i hK
      refine hK _ _ ?_
      clear hK
      obtain ⟨old, ho, hz⟩ := Z2.out
      refine wpList_store_row rfl _ _ _ rfl gz #[.int .i64 k, .slice b1 8 d1, .slice b2 8 d2, .slice b3 8 d3] rfl rfl _ _ ho infoPub (by rw [hz]; rfl) (by kernel_rfl) ?_
      have B9 : Hid ((w2.setRow gz #[.int .i64 k, .slice b1 8 d1, .slice b2 8 d2, .slice b3 8 d3]).heap[gz]? = some (.cells #[.int .i64 k, .slice b1 8 d1, .slice b2 8 d2, .slice b3 8 d3] 26 (0, 0))) := Lib.hid (setRow_heap w2 gz old _ _ (0, 0) ho)
      have gr := grownRow ho #[.int .i64 k, .slice b1 8 d1, .slice b2 8 d2, .slice b3 8 d3]
      have FIN : Hid (LoseT' k a v f m w (.returned (.agg #[.int .i64 k, .slice b1 8 d1, .slice b2 8 d2, .slice b3 8 d3])) (w2.setRow gz #[.int .i64 k, .slice b1 8 d1, .slice b2 8 d2, .slice b3 8 d3])) := Lib.hid ⟨_, _, _, _, .inl ⟨OK.out, m, rfl, HM.out, rfl, rfl, rfl, rfl⟩, _, _, _, rfl, grown_own G2.out gr (fun i hi => by injection hi with hi; omega), outRow O2.out gr ho⟩
      clear ho hz gr
      generalize w2.setRow gz #[.int .i64 k, .slice b1 8 d1, .slice b2 8 d2, .slice b3 8 d3] = w9 at *
      go_wp2_with fail
      refine bodyPost_ret (v := .agg #[.int .i64 k, .slice b1 8 d1, .slice b2 8 d2, .slice b3 8 d3]) ?_ rfl FIN.out
      exact results_cell_row Try.results24 _ _ gz _ _ _ _ rfl B9.out Try.underlying26 rfl infoPub
    · have NO : Hid (¬ (StOk k a v f ∧ 0 ≤ n ∧ n < 8)) := Lib.hid (fun h => hn h.2)
      have SI := Lib.hid (fun W => inIsS (x := n) (a := 0) (b := 7) (v := false) (by rw [Bool.and_eq_false_iff]; simp only [decide_eq_false_iff_not]; omega) W)
      clear hn
      go_wp2_with fail
      refine (SI.out _).mono ?_
      rintro e w' ⟨rfl, rfl⟩
      go_upto_region 2 with fail
      apply wp_region_lit
      refine wpBuild0 rfl _ rfl _ builtNone' ?_
      simp only [Act.put, List.setIfInBounds_toArray, List.set_cons_succ, List.set_cons_zero]
      obtain ⟨old, ho, hz⟩ := Z1.out
      refine wpList_store_row rfl _ _ _ rfl gz #[.int .i64 0, .slice none 0 0, .slice none 0 0, .slice none 0 0] rfl rfl _ _ ho infoPub (by rw [hz]; rfl) (by kernel_rfl) ?_
      have B9 : Hid ((w'.setRow gz #[.int .i64 0, .slice none 0 0, .slice none 0 0, .slice none 0 0]).heap[gz]? = some (.cells #[.int .i64 0, .slice none 0 0, .slice none 0 0, .slice none 0 0] 26 (0, 0))) := Lib.hid (setRow_heap w' gz old _ _ (0, 0) ho)
      have FIN : Hid (LoseT' k a v f n w (.returned (.agg #[.int .i64 0, .slice none 0 0, .slice none 0 0, .slice none 0 0])) (w'.setRow gz #[.int .i64 0, .slice none 0 0, .slice none 0 0, .slice none 0 0])) := Lib.hid ⟨_, _, _, _, .inr ⟨NO.out, rfl, rfl, rfl, rfl⟩, _, _, _, rfl, grown_own G1.out (grownRow ho _) (fun i hi => by injection hi with hi; omega), StOwn.none' _ _⟩
      clear ho hz
      generalize w'.setRow gz #[.int .i64 0, .slice none 0 0, .slice none 0 0, .slice none 0 0] = w9 at *
      go_wp2_with fail
      refine bodyPost_ret (v := .agg #[.int .i64 0, .slice none 0 0, .slice none 0 0, .slice none 0 0]) ?_ rfl FIN.out
      exact results_cell_row Try.results24 _ _ gz _ _ _ _ rfl B9.out Try.underlying26 rfl infoPub
end Go.Proofs.Ytoflijiinkmjoaa
