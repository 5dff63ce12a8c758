/-
  What this claim wants of the texts of earlier chapters.
  Conditions: none.
-/
import Derived.Test.YthglkgicckodaaaZStripeCopy
namespace Go.Proofs.Ythglkgicckodaaa
open Go.RowKit Go.Shelf
set_option linter.unusedVariables false
set_option linter.unusedSimpArgs false
attribute [local go_sem] Oper.semAt_some
theorem ownEight {w : World} {base : Nat} {u : Value} {l : List Int} (h : Own w base u l) (hl : l.length = 8) : ∃ g c, u = .slice (some ⟨g, 0, none⟩) 8 c ∧ base ≤ g ∧ g < w.heap.size ∧ c ≤ maxLen ∧ (∀ i, i < 8 → w.cell? ⟨g, i, none⟩ = some (.int .i64 (l.getD i 0))) ∧ ∀ i, w.frozen? ⟨g, i, none⟩ = false := by
  have h' := h
  unfold Own at h'
  rcases h.2 with ⟨_, h0⟩ | ⟨g, c, cur, h0, hb, hh, _, hc, _⟩
  · rw [hl] at h0; cases h0
  · refine ⟨g, c, by rw [h0, hl], hb, (Array.getElem?_eq_some_iff.1 hh).1, hc, fun i hi => ?_, fun i => World.ownsRow.frozenAt (by rw [h0] at h'; exact h') i⟩
    obtain ⟨a', c', e, _, _, hr⟩ := h.sl
    rw [h0] at e
    injection e with e1 e2 e3
    obtain ⟨b', o', e', hx⟩ := hr.at_ (k := i) (by omega)
    rw [← e1] at e'
    injection e' with e'
    injection e' with e1 e4
    subst e1 e4
    rw [Nat.zero_add] at hx
    exact hx
theorem ownPut {w : World} {base g c : Nat} {l : List Int} (h : Own w base (.slice (some ⟨g, 0, none⟩) 8 c) l) (hl : l.length = 8) (i : Nat) (x : Int) : Own (w.setCell ⟨g, i, none⟩ (.int .i64 x)) base (.slice (some ⟨g, 0, none⟩) 8 c) (l.set i x) := by
  unfold Own at h
  rw [hl] at h
  have hs := World.ownsRow.stored h i (.int .i64 x)
  refine own_len (n := 8) ?_ (by rw [List.length_set]; exact hl)
  rw [← vals_set]
  exact hs.1
theorem stPutA {w : World} {base g c : Nat} {x y : Value} {a v : List Int} {f : List Bool} (h : StOwn w base (.slice (some ⟨g, 0, none⟩) 8 c) x y a v f) (ha : a.length = 8) (i : Nat) (z : Int) : StOwn (w.setCell ⟨g, i, none⟩ (.int .i64 z)) base (.slice (some ⟨g, 0, none⟩) 8 c) x y (a.set i z) v f := by
  obtain ⟨h0, h1, h2, ab, ac, bc⟩ := own3 h
  have hg := grownCell w ⟨g, i, none⟩ (.int .i64 z)
  exact mk3 (row1_own.2 (ownPut (row1_own.1 h0) ha i z)) (World.ownsRow.kept h1 hg (by rcases ab.symm with e | e; exact .inl e; exact .inr e)) (World.ownsRow.kept h2 hg (by rcases ac.symm with e | e; exact .inl e; exact .inr e)) ab ac bc
theorem stPutV {w : World} {base g c : Nat} {u y : Value} {a v : List Int} {f : List Bool} (h : StOwn w base u (.slice (some ⟨g, 0, none⟩) 8 c) y a v f) (hv : v.length = 8) (i : Nat) (z : Int) : StOwn (w.setCell ⟨g, i, none⟩ (.int .i64 z)) base u (.slice (some ⟨g, 0, none⟩) 8 c) y a (v.set i z) f := by
  obtain ⟨h0, h1, h2, ab, ac, bc⟩ := own3 h
  have hg := grownCell w ⟨g, i, none⟩ (.int .i64 z)
  exact mk3 (World.ownsRow.kept h0 hg (by rcases ab with e | e; exact .inl e; exact .inr e)) (row1_own.2 (ownPut (row1_own.1 h1) hv i z)) (World.ownsRow.kept h2 hg (by rcases bc.symm with e | e; exact .inl e; exact .inr e)) ab ac bc
theorem stPutF {w : World} {base g c : Nat} {u x : Value} {a v : List Int} {f : List Bool} (h : StOwn w base u x (.slice (some ⟨g, 0, none⟩) 8 c) a v f) (hf : f.length = 8) (i : Nat) (z : Bool) : StOwn (w.setCell ⟨g, i, none⟩ (.bool z)) base u x (.slice (some ⟨g, 0, none⟩) 8 c) a v (f.set i z) := by
  obtain ⟨h0, h1, h2, ab, ac, bc⟩ := own3 h
  have hg := grownCell w ⟨g, i, none⟩ (.bool z)
  have hb := (BOwn.put (bool1_own.1 h2) hf.symm i z).1
  exact mk3 (World.ownsRow.kept h0 hg (by rcases ac with e | e; exact .inl e; exact .inr e)) (World.ownsRow.kept h1 hg (by rcases bc with e | e; exact .inl e; exact .inr e)) (bool1_own.2 hb) ab ac bc
structure StAt (w : World) (base s g1 g2 g3 d1 d2 d3 : Nat) (k : Int) (a v : List Int) (f : List Bool) : Prop where
  blk : Blk w s 45 [.int .i64 k, .slice (some ⟨g1, 0, none⟩) 8 d1, .slice (some ⟨g2, 0, none⟩) 8 d2, .slice (some ⟨g3, 0, none⟩) 8 d3]
  own : StOwn w base (.slice (some ⟨g1, 0, none⟩) 8 d1) (.slice (some ⟨g2, 0, none⟩) 8 d2) (.slice (some ⟨g3, 0, none⟩) 8 d3) a v f
  la : a.length = 8
  lv : v.length = 8
  lf : f.length = 8
  ne1 : s ≠ g1
  ne2 : s ≠ g2
  ne3 : s ≠ g3
namespace StAt
variable {w w' : World} {base s g1 g2 g3 d1 d2 d3 : Nat} {k : Int} {a v : List Int} {f : List Bool}
theorem cap (h : StAt w base s g1 g2 g3 d1 d2 d3 k a v f) : d1 ≤ maxLen ∧ d2 ≤ maxLen ∧ d3 ≤ maxLen := by
  obtain ⟨h0, h1, h2, _⟩ := own3 h.own
  refine ⟨?_, ?_, ?_⟩
  · obtain ⟨_, _, e, _, hc, _⟩ := (row1_own.1 h0).sl; injection e with _ _ e; omega
  · obtain ⟨_, _, e, _, hc, _⟩ := (row1_own.1 h1).sl; injection e with _ _ e; omega
  · obtain ⟨_, _, e, _, hc, _⟩ := (bool1_own.1 h2).bl; injection e with _ _ e; omega
theorem still (h : StAt w base s g1 g2 g3 d1 d2 d3 k a v f) (hg : w.grownBy w' none) : StAt w' base s g1 g2 g3 d1 d2 d3 k a v f :=
  ⟨h.blk.kept hg (by simp), h.own.still hg, h.la, h.lv, h.lf, h.ne1, h.ne2, h.ne3⟩
theorem cellA (h : StAt w base s g1 g2 g3 d1 d2 d3 k a v f) {i : Nat} (hi : i < 8) : w.cell? ⟨g1, i, none⟩ = some (.int .i64 (a.getD i 0)) ∧ w.frozen? ⟨g1, i, none⟩ = false ∧ base ≤ g1 := by
  obtain ⟨g, c, e, hb, _, _, hc, hf⟩ := ownEight (row1_own.1 (own3 h.own).1) h.la
  injection e with e _ _
  injection e with e
  injection e with e
  subst e
  exact ⟨hc i hi, hf i, hb⟩
theorem cellV (h : StAt w base s g1 g2 g3 d1 d2 d3 k a v f) {i : Nat} (hi : i < 8) : w.cell? ⟨g2, i, none⟩ = some (.int .i64 (v.getD i 0)) ∧ w.frozen? ⟨g2, i, none⟩ = false ∧ base ≤ g2 := by
  obtain ⟨g, c, e, hb, _, _, hc, hf⟩ := ownEight (row1_own.1 (own3 h.own).2.1) h.lv
  injection e with e _ _
  injection e with e
  injection e with e
  subst e
  exact ⟨hc i hi, hf i, hb⟩
theorem cellF (h : StAt w base s g1 g2 g3 d1 d2 d3 k a v f) {i : Nat} (hi : i < 8) : w.cell? ⟨g3, i, none⟩ = some (.bool (f.getD i false)) ∧ w.frozen? ⟨g3, i, none⟩ = false ∧ base ≤ g3 := by
  obtain ⟨g, c, e, hb, _, _, _, hc, hf⟩ := (bool1_own.1 (own3 h.own).2.2.1).eight h.lf
  injection e with e _ _
  injection e with e
  injection e with e
  subst e
  exact ⟨hc i hi, hf i, hb⟩
theorem putA (h : StAt w base s g1 g2 g3 d1 d2 d3 k a v f) (i : Nat) (z : Int) : StAt (w.setCell ⟨g1, i, none⟩ (.int .i64 z)) base s g1 g2 g3 d1 d2 d3 k (a.set i z) v f :=
  ⟨(Below.heap_setCell _ _ _ _ h.ne1).trans h.blk, stPutA h.own h.la i z, by rw [List.length_set]; exact h.la, h.lv, h.lf, h.ne1, h.ne2, h.ne3⟩
theorem putV (h : StAt w base s g1 g2 g3 d1 d2 d3 k a v f) (i : Nat) (z : Int) : StAt (w.setCell ⟨g2, i, none⟩ (.int .i64 z)) base s g1 g2 g3 d1 d2 d3 k a (v.set i z) f :=
  ⟨(Below.heap_setCell _ _ _ _ h.ne2).trans h.blk, stPutV h.own h.lv i z, h.la, by rw [List.length_set]; exact h.lv, h.lf, h.ne1, h.ne2, h.ne3⟩
theorem putF (h : StAt w base s g1 g2 g3 d1 d2 d3 k a v f) (i : Nat) (z : Bool) : StAt (w.setCell ⟨g3, i, none⟩ (.bool z)) base s g1 g2 g3 d1 d2 d3 k a v (f.set i z) :=
  ⟨(Below.heap_setCell _ _ _ _ h.ne3).trans h.blk, stPutF h.own h.lf i z, h.la, h.lv, by rw [List.length_set]; exact h.lf, h.ne1, h.ne2, h.ne3⟩
end StAt
theorem StAt.new {w w' : World} {base : Nat} {k : Int} {u x y : Value} {a v : List Int} {f : List Bool} (ho : StOwn w base u x y a v f) (la : a.length = 8) (lv : v.length = 8) (lf : f.length = 8) :
    ∃ g1 g2 g3 d1 d2 d3, u = .slice (some ⟨g1, 0, none⟩) 8 d1 ∧ x = .slice (some ⟨g2, 0, none⟩) 8 d2 ∧ y = .slice (some ⟨g3, 0, none⟩) 8 d3 ∧ StAt (w.alloc (.cells #[.int .i64 k, .slice (some ⟨g1, 0, none⟩) 8 d1, .slice (some ⟨g2, 0, none⟩) 8 d2, .slice (some ⟨g3, 0, none⟩) 8 d3] 45)) base w.heap.size g1 g2 g3 d1 d2 d3 k a v f := by
  obtain ⟨h0, h1, h2, _⟩ := own3 ho
  obtain ⟨g1, d1, e1, _, l1, _⟩ := ownEight (row1_own.1 h0) la
  obtain ⟨g2, d2, e2, _, l2, _⟩ := ownEight (row1_own.1 h1) lv
  obtain ⟨g3, d3, e3, _, l3, _⟩ := (bool1_own.1 h2).eight lf
  have e1' : u = .slice (some ⟨g1, 0, none⟩) 8 d1 := e1
  have e2' : x = .slice (some ⟨g2, 0, none⟩) 8 d2 := e2
  have e3' : y = .slice (some ⟨g3, 0, none⟩) 8 d3 := e3
  subst e1' e2' e3'
  have l3' : g3 < w.heap.size := by
    rcases h2.2 with ⟨h, _⟩ | ⟨g, c, cur, h, _, hh, _⟩
    · cases h
    · have e : g3 = g := by
        have h' : Value.slice (some ⟨g3, 0, none⟩) 8 d3 = .slice (some ⟨g, 0, none⟩) (bool1 (.slice (some ⟨g3, 0, none⟩) 8 d3) f).cs.length c := h
        injection h' with h' _ _
        injection h' with h'
        injection h'
      rw [e]
      exact (Array.getElem?_eq_some_iff.1 hh).1
  exact ⟨g1, g2, g3, d1, d2, d3, rfl, rfl, rfl, heap_alloc_new _ _, ho.still (World.grownBy_alloc w _ none), la, lv, lf, by omega, by omega, by omega⟩
theorem builtNone' : Try.prog.built 45 [] = some #[.int .i64 0, .slice none 0 0, .slice none 0 0, .slice none 0 0] := by kernel_rfl
theorem StOwn.none' (w : World) (b : Nat) : StOwn w b (.slice none 0 0) (.slice none 0 0) (.slice none 0 0) [] [] [] :=
  mk3 (row1_own.2 (Own.none_ w b)) (row1_own.2 (Own.none_ w b)) (bool1_own.2 (BOwn.none_ w b)) (.inl rfl) (.inl rfl) (.inl rfl)
end Go.Proofs.Ythglkgicckodaaa
