/-
  The contracts of the model's drawing of rows: from whatever bytes they come, what is drawn is a slice of three to five integers from -1 to 31 in memory of its own, and nothing that was there is changed.
  Conditions: none.
-/
import Derived.Test.YtbpkfcaokbidnabDrawField
import Derived.Test.YtbpkfcaokbidnabInts
import Derived.Test.YtbpkfcaokbidnabHelp
import Derived.Test.YtbpkfcaokbidnabVecSpec
import Derived.ArgAppend
namespace Go.Proofs.Ytbpkfcaokbidnab
open Go.RowKit
set_option linter.unusedVariables false

theorem quietSum (a b : Int) (w : World) (n : Nat) : Calls Try.prog 52 #[.int .i64 a, .int .i64 b] (w.drewN n) fun e w' => e = .returned (.int .i64 (Fld.sum a b)) ∧ ∃ m, w' = w.drewN m :=
  (implSum a b _).mono fun _ _ ⟨h1, h2⟩ => ⟨h1, n, h2.symm⟩

theorem far_grown {c : Nat} {w w' : World} (h : Far c w w') : w.grownBy w' (some c) := ⟨h.os, h.tape, h.output, h.size, fun k hk hc => h.block k hk (fun e => hc (by rw [e]))⟩
theorem Own.far {w w' : World} {base c : Nat} {v : Value} {l : List Int} (h : Own w base v l) (hf : Far c w w') (hc : c < base) : Own w' base v l :=
  h.kept (far_grown hf) (.inr fun e => by have := (World.ownsRow.lt h c e).1; omega)
theorem Arr.farr {w w' : World} {g c : Nat} {t : TypeId} {l : List Int} (h : Arr w g t l) (hf : Far c w w') (hc : g ≠ c) : Arr w' g t l := h.kept (far_grown hf) (fun e => hc (by injection e))
theorem Far.own {w w' : World} {c : Nat} {a : World} {r : Option Nat} (h : Far c a w) (hg : w.grownBy w' r) (hr : ∀ k, r = some k → a.heap.size ≤ k) : Far c a w' :=
  ⟨hg.os.trans h.os, hg.tape.trans h.tape, hg.output.trans h.output, Nat.le_trans h.size hg.size, fun k hk hc => (hg.block k (Nat.lt_of_lt_of_le hk h.size) (fun e => by have := hr k e.symm; omega)).trans (h.block k hk hc)⟩

/-- 'numbers from -1 to 31', of which all but the ends are numbers of the field. -/
def Near (l : List Int) : Prop := ∀ x ∈ l, -1 ≤ x ∧ x ≤ 31
theorem Near.snoc {l : List Int} (h : Near l) {x : Int} (h0 : -1 ≤ x) (h1 : x ≤ 31) : Near (l ++ [x]) := by
  intro y hy
  rcases List.mem_append.1 hy with hy | hy
  · exact h y hy
  · simp at hy; subst hy; exact ⟨h0, h1⟩
theorem Near.set {l : List Int} (h : Near l) {i : Nat} {x : Int} (h0 : -1 ≤ x) (h1 : x ≤ 31) : Near (l.set i x) := by
  intro y hy
  rcases List.mem_or_eq_of_mem_set hy with hy | rfl
  · exact h y hy
  · exact ⟨h0, h1⟩

/-- where the drawing of a row stands: k are drawn. -/
structure Drawing (c p : Nat) (w : World) (k : Nat) (v : Value) (wr : World) : Prop where
  far : Far c w wr
  rd : Rd wr c (p + 4 * k)
  own : ∃ l : List Int, l.length = k ∧ Near l ∧ Own wr w.heap.size v l

theorem below_four {m : Int} (h0 : 0 ≤ m) (h1 : m < 4) : ∃ j : Nat, j < 4 ∧ m = j := ⟨m.toNat, by omega, by omega⟩
theorem pick4 {m1 m2 m3 : Int} (a0 : 0 ≤ m1) (a1 : m1 < 4) (b0 : 0 ≤ m2) (b1 : m2 < 31) (c0 : 0 ≤ m3) (c1 : m3 < 31) {j : Nat} (hj : j < 4) : 0 ≤ [0, m1, m2, m3].getD j 0 ∧ [0, m1, m2, m3].getD j 0 ≤ 30 := by
  match j, hj with
  | 0, _ => simp
  | 1, _ => simp; omega
  | 2, _ => simp; omega
  | 3, _ => simp; omega

theorem four_of {l : List Int} (h : l.length = 4) : ∃ x y z t, l = [x, y, z, t] := by
  match l, h with
  | [x, y, z, t], _ => exact ⟨x, y, z, t, rfl⟩
theorem Own.four {w : World} {base : Nat} {v : Value} {l : List Int} (h : Own w base v l) (h4 : l.length = 4) :
    ∃ g cap, v = .slice (some ⟨g, 0, none⟩) 4 cap ∧ base ≤ g ∧ g < w.heap.size ∧ 4 ≤ cap ∧ cap ≤ maxLen ∧ (∀ j, j < 4 → w.cell? ⟨g, j, none⟩ = some (.int .i64 (l.getD j 0))) ∧ ∀ j, w.frozen? ⟨g, j, none⟩ = false := by
  have hs := h.sl
  unfold Own at h
  rw [h4] at h
  rcases h.2 with ⟨_, h0⟩ | ⟨g, cap, cur, rfl, hb, hg, h1, h2, h3, ht⟩
  · omega
  · refine ⟨g, cap, rfl, hb, (Array.getElem?_eq_some_iff.1 hg).1, h1, h2, fun j hj => ?_, fun j => World.ownsRow.frozenAt h j⟩
    have hc := World.ownsRow.cells h (g := g) rfl j _ (vals_get l j (by omega))
    rw [Addr.add_lit] at hc
    simpa using hc
theorem Own.put4 {w : World} {base : Nat} {g cap : Nat} {l : List Int} (h : Own w base (.slice (some ⟨g, 0, none⟩) 4 cap) l) (h4 : l.length = 4) (j : Nat) (x : Int) :
    Own (w.setCell ⟨g, j, none⟩ (.int .i64 x)) base (.slice (some ⟨g, 0, none⟩) 4 cap) (l.set j x) := by
  unfold Own at h
  rw [h4] at h
  have hs := World.ownsRow.stored h j (.int .i64 x)
  refine own_len (n := 4) ?_ (by rw [List.length_set]; exact h4)
  rw [← vals_set]
  exact hs.1
/-- a row without its first. -/
theorem Own.tail {w : World} {base : Nat} {g cap : Nat} {l : List Int} (h : Own w base (.slice (some ⟨g, 0, none⟩) 4 cap) l) (h4 : l.length = 4) :
    Sl w (.slice (some ⟨g, 1, none⟩) 3 (cap - 1)) l.tail := by
  obtain ⟨g', cap', e, _, _, h1, h2, hc, _⟩ := h.four h4
  injection e with e1 e2 e3
  injection e1 with e1
  injection e1 with e1
  subst e1 e3
  have e3 : l.tail.length = 3 := by rw [List.length_tail]; omega
  refine ⟨some ⟨g, 1, none⟩, cap - 1, by rw [e3], by omega, by omega, .inr ⟨g, 1, rfl, fun i hi => ?_⟩⟩
  rw [Nat.add_comm 1 i, hc (i + 1) (by omega)]
  congr 2
  obtain ⟨x, y, z, t, rfl⟩ := four_of h4
  rfl

/-- a slice that reads as a list, its cells in blocks from B on. -/
def SlUp (w : World) (B : Nat) (v : Value) (l : List Int) : Prop := Sl w v l ∧ ∀ x n cap, v = .slice (some x) n cap → B ≤ x.block
theorem SlUp.far {w w' : World} {B c : Nat} {v : Value} {l : List Int} (h : SlUp w B v l) (hf : Far c w w') (hc : c < B) : SlUp w' B v l := by
  refine ⟨?_, h.2⟩
  obtain ⟨a, cap, rfl, h1, h2, hr⟩ := h.1
  refine ⟨a, cap, rfl, h1, h2, ?_⟩
  rcases hr with h0 | ⟨b, o, rfl, hr⟩
  · exact .inl h0
  · have hb : B ≤ b := h.2 _ _ _ rfl
    refine .inr ⟨b, o, rfl, fun i hi => ?_⟩
    have hx := hr i hi
    exact (hf.cell (p := ⟨b, o + i, none⟩) (lt_of_cell hx) (by show b ≠ c; omega)).trans hx
theorem slUp_at {B g o n cap : Nat} (h : B ≤ g) : ∀ x m k, Value.slice (some ⟨g, o, none⟩) n cap = .slice (some x) m k → B ≤ x.block := by
  intro x m k e
  injection e with e
  injection e with e
  subst e
  exact h

/-- a slice over a block of integers, whole up to its capacity, none frozen. -/
def RowAt (w : World) (v : Value) : Prop := ∃ g o n cap cur, v = .slice (some ⟨g, o, none⟩) n cap ∧ w.heap[g]? = some (.cells cur 3 (0, 0)) ∧ cur.size = o + cap
theorem Own.rowAt {w : World} {base : Nat} {v : Value} {l : List Int} (h : Own w base v l) (hl : 0 < l.length) : RowAt w v := by
  rcases h.2 with ⟨_, h0⟩ | ⟨g, cap, cur, rfl, _, hg, _, _, hc, _⟩
  · omega
  · exact ⟨g, 0, _, cap, cur, rfl, hg, by omega⟩
theorem RowAt.tail {w : World} {g n cap : Nat} (h : RowAt w (.slice (some ⟨g, 0, none⟩) n cap)) (hc : 1 ≤ cap) (m : Nat) : RowAt w (.slice (some ⟨g, 1, none⟩) m (cap - 1)) := by
  obtain ⟨g', o, n', cap', cur, e, hg, hs⟩ := h
  injection e with e1 e2 e3
  injection e1 with e1
  injection e1 with e1 e4
  subst e1 e3 e4
  exact ⟨g, 1, m, cap - 1, cur, rfl, hg, by omega⟩

/-- what drawing a row leaves: a slice that reads as a list, in new memory. -/
def DrawnRow (c p : Nat) (w : World) (e : Ending) (w' : World) : Prop :=
  ∃ v l, e = .returned v ∧ Near l ∧ Far c w w' ∧ SlUp w' w.heap.size v l ∧ l.length ≤ 4 ∧ Rd w' c (p + 20) ∧ RowAt w' v

/-- two rows of a law's own. -/
def DrawnRows (w : World) (e : Ending) (w' : World) : Prop :=
  ∃ u v l m, e = .returned (.tuple #[u, v]) ∧ Near l ∧ Near m ∧ l.length ≤ 4 ∧ m.length ≤ 4 ∧ w.grownBy w' none ∧ Sl w' u l ∧ Sl w' v m
def DrawnRowNum (w : World) (e : Ending) (w' : World) : Prop :=
  ∃ u l n, e = .returned (.tuple #[u, .int .i64 n]) ∧ Near l ∧ -1 ≤ n ∧ n ≤ 31 ∧ l.length ≤ 4 ∧ w.grownBy w' none ∧ Sl w' u l
def DrawnOne (w : World) (e : Ending) (w' : World) : Prop :=
  ∃ u l, e = .returned u ∧ Near l ∧ l.length ≤ 5 ∧ w.grownBy w' none ∧ Sl w' u l

theorem grown_of {a b w : World} (h : Below a.heap.size a b) (hf : Far a.heap.size b w) : a.grownBy w none :=
  ⟨hf.os.trans h.os, hf.tape.trans h.tape, hf.output.trans h.output, Nat.le_trans h.size hf.size, fun i hi _ => (hf.block i (Nat.lt_of_lt_of_le hi h.size) (Nat.ne_of_lt hi)).trans (h.block i hi)⟩

/-- one more behind a row that has room. -/
theorem sl_room {w : World} {g o cap : Nat} {cur : Array Value} {l : List Int} (hs : Sl w (.slice (some ⟨g, o, none⟩) l.length cap) l) (hg : w.heap[g]? = some (.cells cur 3 (0, 0))) (hc : cur.size = o + cap) (hroom : l.length + 1 ≤ cap) (x : Int) :
    Sl (w.setCell ⟨g, o + l.length, none⟩ (.int .i64 x)) (.slice (some ⟨g, o, none⟩) (l.length + 1) cap) (l ++ [x]) := by
  obtain ⟨a, cap', e, h1, h2, hr⟩ := hs
  injection e with e1 e2 e3
  subst e1 e3
  refine ⟨_, cap, by simp, by simpa using hroom, h2, .inr ⟨g, o, rfl, fun i hi => ?_⟩⟩
  have hi' : i < l.length + 1 := by simpa using hi
  by_cases hil : i = l.length
  · subst hil
    have hcell : w.cell? ⟨g, o + l.length, none⟩ = cur[o + l.length]? := cell_of_row w g (o + l.length) cur 3 (0, 0) hg
    rw [Array.getElem?_eq_getElem (by omega)] at hcell
    rw [World.cell?_setCell_same _ _ _ hcell]
    simp
  · rw [World.cell?_setCell_other _ _ _ _ (by intro e; injection e with _ e; omega)]
    rcases hr with h0 | ⟨b, o', e, hr⟩
    · subst h0; simp at hi' hil; omega
    · injection e with e
      injection e with e1 e2
      subst e1 e2
      rw [hr i (by omega)]
      simp [List.getD_eq_getElem?_getD, List.getElem?_append_left (show i < l.length by omega)]

theorem vals_cells {w : World} {g o cap : Nat} {l : List Int} (hs : Sl w (.slice (some ⟨g, o, none⟩) l.length cap) l) : ∀ j u, (vals l)[j]? = some u → w.cell? ⟨g, o + j, none⟩ = some u := by
  intro j u hu
  obtain ⟨a, cap', e, h1, h2, hr⟩ := hs
  injection e with e1 e2 e3
  subst e1
  have hj : j < l.length := by have := (List.getElem?_eq_some_iff.1 hu).1; simpa [vals] using this
  rcases hr with h0 | ⟨b, o', e, hr⟩
  · subst h0; simp at hj
  · injection e with e
    injection e with e1 e2
    subst e1 e2
    rw [hr j hj, ← hu, vals_get l j hj]