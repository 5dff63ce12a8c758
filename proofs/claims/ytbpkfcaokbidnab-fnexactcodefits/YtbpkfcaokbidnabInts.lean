/-
  Words on slices of integers: a value that reads as a list; a value that owns a new row; what is live while a law runs. It speaks of no program, but for the number of the type int.
  Conditions: none.
-/
import Derived.Test.YtbpkfcaokbidnabMem
import Derived.OwnWalk
import Derived.ProofKit
import Derived.OpenShut
import Derived.Laws.OwnMore
namespace Go.Proofs.Ytbpkfcaokbidnab
open Go.RowKit
set_option linter.unusedVariables false

/-- integers as values. -/
def vals (l : List Int) : List Value := l.map (Value.int .i64)
theorem vals_length (l : List Int) : (vals l).length = l.length := by simp [vals]
theorem vals_get (l : List Int) (i : Nat) (h : i < l.length) : (vals l)[i]? = some (.int .i64 (l.getD i 0)) := by
  simp [vals, List.getD_eq_getElem?_getD, h]
theorem vals_set (l : List Int) (i : Nat) (x : Int) : (vals l).set i (.int .i64 x) = vals (l.set i x) := by
  simp [vals, List.map_set]
theorem vals_append (l : List Int) (x : Int) : vals l ++ [.int .i64 x] = vals (l ++ [x]) := by simp [vals]
theorem vals_one (l : List Int) : ∀ u ∈ vals l, u.oneCell' = true := ints_oneCell .i64 l

/-- the cells from an address on read as a list. -/
def Rds (w : World) (a : Option Addr) (l : List Int) : Prop :=
  l = [] ∨ ∃ b o, a = some ⟨b, o, none⟩ ∧ ∀ i, i < l.length → w.cell? ⟨b, o + i, none⟩ = some (.int .i64 (l.getD i 0))

theorem Rds.at_ {w : World} {a : Option Addr} {l : List Int} (h : Rds w a l) {k : Nat} (hk : k < l.length) :
    ∃ b o, a = some ⟨b, o, none⟩ ∧ w.cell? ⟨b, o + k, none⟩ = some (.int .i64 (l.getD k 0)) := by
  rcases h with rfl | ⟨b, o, rfl, h⟩
  · simp at hk
  · exact ⟨b, o, rfl, h k hk⟩
theorem Rds.grown {w w' : World} {a : Option Addr} {l : List Int} (h : Rds w a l) (hg : w.grownBy w' none) : Rds w' a l := by
  rcases h with rfl | ⟨b, o, rfl, h⟩
  · exact .inl rfl
  · exact .inr ⟨b, o, rfl, fun i hi => hg.cell (h i hi) (by simp)⟩

/-- a slice that reads as a list. -/
def Sl (w : World) (v : Value) (l : List Int) : Prop := ∃ a cap, v = .slice a l.length cap ∧ l.length ≤ cap ∧ cap ≤ maxLen ∧ Rds w a l
/-- a slice that owns a row among the blocks from base on. -/
def Own (w : World) (base : Nat) (v : Value) (l : List Int) : Prop := w.ownsRow base 3 1 v l.length (vals l)

theorem Sl.grown {w w' : World} {v : Value} {l : List Int} (h : Sl w v l) (hg : w.grownBy w' none) : Sl w' v l := by
  obtain ⟨a, cap, rfl, h1, h2, h⟩ := h
  exact ⟨a, cap, rfl, h1, h2, h.grown hg⟩
theorem Own.sl {w : World} {base : Nat} {v : Value} {l : List Int} (h : Own w base v l) : Sl w v l := by
  rcases h.2 with ⟨rfl, h0⟩ | ⟨g, cap, cur, rfl, _, hg, h1, h2, _, ht⟩
  · exact ⟨none, 0, by rw [h0], by omega, by omega, .inl (List.eq_nil_of_length_eq_zero h0)⟩
  · refine ⟨_, cap, rfl, h1, h2, .inr ⟨g, 0, rfl, fun i hi => ?_⟩⟩
    rw [cell_of_row w g (0 + i) cur 3 (0, 0) hg]
    have hv := vals_get l i hi
    rw [← ht, List.getElem?_take, if_pos (by omega)] at hv
    simpa using hv
theorem Own.lower {w : World} {base base' : Nat} {v : Value} {l : List Int} (h : Own w base v l) (hb : base' ≤ base) : Own w base' v l := by
  refine ⟨h.1, ?_⟩
  rcases h.2 with h0 | ⟨g, cap, cur, hv, hg, r⟩
  · exact .inl h0
  · exact .inr ⟨g, cap, cur, hv, by omega, r⟩
theorem Own.kept {w w' : World} {base : Nat} {v : Value} {l : List Int} {row : Option Nat} (h : Own w base v l) (hg : w.grownBy w' row) (hne : v.ownBlock = none ∨ v.ownBlock ≠ row) : Own w' base v l :=
  World.ownsRow.kept h hg hne
theorem Own.still {w w' : World} {base : Nat} {v : Value} {l : List Int} (h : Own w base v l) (hg : w.grownBy w' none) : Own w' base v l :=
  h.kept hg (by cases h : v.ownBlock <;> simp)
/-- an empty slice that was written out. -/
theorem Own.none_ (w : World) (base : Nat) : Own w base (.slice none 0 0) [] := World.ownsRow_nil _ _ _ _
/-- a row that was just made. -/
theorem Own.made (w : World) (base : Nat) (l : List Int) (hb : base ≤ w.heap.size) (hl : l.length ≤ maxLen) :
    Own (w.alloc (.cells (vals l).toArray 3)) base (.slice (some ⟨w.heap.size, 0, none⟩) l.length l.length) l :=
  ⟨by simp [vals], .inr ⟨w.heap.size, l.length, _, rfl, hb, heap_alloc_new w _, Nat.le_refl _, hl, by simp [vals], by
    show List.take _ (vals l) = vals l
    exact List.take_of_length_le (by simp [vals])⟩⟩

theorem grown_still (w : World) (n : Nat) : w.grownBy (w.drewN n) none := ⟨rfl, rfl, rfl, Nat.le_refl _, fun _ _ _ => rfl⟩
theorem grown_trans {a b c : World} {r : Option Nat} (h : a.grownBy b r) (k : b.grownBy c r) : a.grownBy c r :=
  ⟨k.os.trans h.os, k.tape.trans h.tape, k.output.trans h.output, Nat.le_trans h.size k.size, fun i hi hr => (k.block i (Nat.lt_of_lt_of_le hi h.size) hr).trans (h.block i hi hr)⟩
theorem grown_alloc {a w : World} {r : Option Nat} (h : a.grownBy w r) (o : Obj) : a.grownBy (w.alloc o) r := grown_trans h (World.grownBy_alloc w o r)
theorem grown_draws {a w : World} {r : Option Nat} (h : a.grownBy w r) (n : Nat) : a.grownBy (w.drewN n) r := ⟨h.os, h.tape, h.output, h.size, h.block⟩
theorem grown_drew {a w : World} {r : Option Nat} (h : a.grownBy w r) : a.grownBy w.drew r := ⟨h.os, h.tape, h.output, h.size, h.block⟩
theorem grown_below {a w : World} {B : Nat} (h : Below B a w) (hB : a.heap.size ≤ B) (r : Option Nat) : a.grownBy w r := ⟨h.os, h.tape, h.output, h.size, fun i hi _ => h.block i (by omega)⟩
theorem below_grown {a w : World} (h : a.grownBy w none) : Below a.heap.size a w := ⟨h.os, h.tape, h.output, h.size, fun i hi => h.block i hi (by simp)⟩
/-- a store into a block that was not there. -/
theorem grown_set {a w : World} {r : Option Nat} (h : a.grownBy w r) {p : Addr} (hp : a.heap.size ≤ p.block) (u : Value) : a.grownBy (w.setCell p u) r :=
  ⟨h.os, h.tape, h.output, by simpa [World.setCell] using h.size, fun i hi hr => (Below.heap_setCell w p u i (by omega)).trans (h.block i hi hr)⟩
theorem grown_set4 {a w : World} {r : Option Nat} (h : a.grownBy w r) {k : Nat} (hk : a.heap.size ≤ k) (x y z u : Value) :
    a.grownBy ((((w.setCell ⟨k, 0, none⟩ x).setCell ⟨k, 1, none⟩ y).setCell ⟨k, 2, none⟩ z).setCell ⟨k, 3, none⟩ u) r :=
  grown_set (grown_set (grown_set (grown_set h (p := ⟨k, 0, none⟩) hk x) (p := ⟨k, 1, none⟩) hk y) (p := ⟨k, 2, none⟩) hk z) (p := ⟨k, 3, none⟩) hk u
/-- writing to a row that was not there before. -/
theorem grown_own {a w w' : World} {r : Option Nat} (h : a.grownBy w none) (hg : w.grownBy w' r) (hr : ∀ k, r = some k → a.heap.size ≤ k) : a.grownBy w' none :=
  ⟨hg.os.trans h.os, hg.tape.trans h.tape, hg.output.trans h.output, Nat.le_trans h.size hg.size, fun i hi _ =>
    (hg.block i (Nat.lt_of_lt_of_le hi h.size) (fun e => by have := hr i e.symm; omega)).trans (h.block i hi (by simp))⟩

/-- block g is an array of integers, whole. -/
def Arr (w : World) (g : Nat) (t : TypeId) (l : List Int) : Prop := w.heap[g]? = some (.cells (vals l).toArray t (0, 0))
namespace Arr
variable {w w' : World} {g : Nat} {t : TypeId} {l : List Int}
theorem lt (h : Arr w g t l) : g < w.heap.size := by
  rcases Nat.lt_or_ge g w.heap.size with hlt | hge
  · exact hlt
  · unfold Arr at h; rw [Array.getElem?_eq_none hge] at h; cases h
theorem cell (h : Arr w g t l) {i : Nat} (hi : i < l.length) : w.cell? ⟨g, i, none⟩ = some (.int .i64 (l.getD i 0)) := by
  rw [cell_of_row w g i _ t (0, 0) h, ← vals_get l i hi]; simp
theorem frozen (h : Arr w g t l) (i : Nat) : w.frozen? ⟨g, i, none⟩ = false := frozen_of_row w g i _ t h
theorem new (w : World) (t : TypeId) (l : List Int) : Arr (w.alloc (.cells (vals l).toArray t)) w.heap.size t l := heap_alloc_new w _
theorem alloc (h : Arr w g t l) (o : Obj) : Arr (w.alloc o) g t l := (Below.heap_alloc w o g h.lt).trans h
theorem drew (h : Arr w g t l) : Arr w.drew g t l := h
theorem kept {r : Option Nat} (h : Arr w g t l) (hg : w.grownBy w' r) (hr : some g ≠ r) : Arr w' g t l := (hg.block g h.lt hr).trans h
theorem still (h : Arr w g t l) (hg : w.grownBy w' none) : Arr w' g t l := h.kept hg (by simp)
theorem far (h : Arr w g t l) {p : Addr} (hp : g ≠ p.block) (u : Value) : Arr (w.setCell p u) g t l := (Below.heap_setCell w p u g hp).trans h
theorem put (h : Arr w g t l) (i : Nat) (x : Int) : Arr (w.setCell ⟨g, i, none⟩ (.int .i64 x)) g t (l.set i x) := by
  have e := heap_setCell_same w g i _ t (.int .i64 x) h
  unfold Arr
  rw [e, ← vals_set]
  simp
/-- four cells written, of an array of four. -/
theorem put4 {a b c d : Int} (h : Arr w g t [a, b, c, d]) (x y z u : Int) :
    Arr ((((w.setCell ⟨g, 0, none⟩ (.int .i64 x)).setCell ⟨g, 1, none⟩ (.int .i64 y)).setCell ⟨g, 2, none⟩ (.int .i64 z)).setCell ⟨g, 3, none⟩ (.int .i64 u)) g t [x, y, z, u] :=
  (((h.put 0 x).put 1 y).put 2 z).put 3 u
theorem far4 {k : Nat} (h : Arr w g t l) (hk : g ≠ k) (x y z u : Value) :
    Arr ((((w.setCell ⟨k, 0, none⟩ x).setCell ⟨k, 1, none⟩ y).setCell ⟨k, 2, none⟩ z).setCell ⟨k, 3, none⟩ u) g t l :=
  (((h.far (p := ⟨k, 0, none⟩) hk x).far (p := ⟨k, 1, none⟩) hk y).far (p := ⟨k, 2, none⟩) hk z).far (p := ⟨k, 3, none⟩) hk u
/-- as a row that a slice over it owns. -/
theorem own {n : Nat} (h : Arr w g 3 l) (hn : n = l.length) (base : Nat) (hb : base ≤ g) (hl : l.length ≤ maxLen) : Own w base (.slice (some ⟨g, 0, none⟩) n n) l := by
  subst hn
  exact ⟨by simp [vals], .inr ⟨g, l.length, _, rfl, hb, h, Nat.le_refl _, hl, by simp [vals], by
    show List.take _ (vals l) = vals l
    exact List.take_of_length_le (by simp [vals])⟩⟩
end Arr

/-- what a call that makes a slice leaves. -/
def NewInts (l : List Int) (w : World) (e : Ending) (w' : World) : Prop := ∃ v, e = .returned v ∧ w.grownBy w' none ∧ Own w' w.heap.size v l
/-- the same, with a bool beside it. -/
def NewInts2 (l : List Int) (b : Bool) (w : World) (e : Ending) (w' : World) : Prop := ∃ v, e = .returned (.tuple #[v, .bool b]) ∧ w.grownBy w' none ∧ Own w' w.heap.size v l

theorem new_after {l : List Int} {a w w' : World} {v : Value} (h : a.grownBy w none) (hg : w.grownBy w' none) (ho : Own w' w.heap.size v l) : NewInts l a (.returned v) w' :=
  ⟨v, rfl, grown_trans h hg, ho.lower h.size⟩
theorem new2_after {l : List Int} {b : Bool} {a w w' : World} {v : Value} (h : a.grownBy w none) (hg : w.grownBy w' none) (ho : Own w' w.heap.size v l) : NewInts2 l b a (.returned (.tuple #[v, .bool b])) w' :=
  ⟨v, rfl, grown_trans h hg, ho.lower h.size⟩

/-- what is live while a law runs that began in w0: rows of its own, apart from one another; all that was there is as it was. -/
structure Live (w0 w : World) (L : List (Value × List Int)) : Prop where
  below : Below w0.heap.size w0 w
  own : ∀ p ∈ L, Own w w0.heap.size p.1 p.2
  apart : L.Pairwise fun p q => p.1.ownBlock = none ∨ p.1.ownBlock ≠ q.1.ownBlock

namespace Live
variable {w0 w w' : World} {L : List (Value × List Int)} {v : Value} {l : List Int}
theorem start (w : World) : Live w w [] := ⟨Below.refl _ _, by simp, List.Pairwise.nil⟩
theorem still (h : Live w0 w L) (hg : w.grownBy w' none) : Live w0 w' L :=
  ⟨h.below.grown hg h.below.size (by simp), fun p hp => (h.own p hp).still hg, h.apart⟩
theorem new (h : Live w0 w L) (hg : w.grownBy w' none) (ho : Own w' w.heap.size v l) : Live w0 w' ((v, l) :: L) := by
  refine ⟨h.below.grown hg h.below.size (by simp), ?_, ?_⟩
  · intro p hp
    rcases List.mem_cons.1 hp with rfl | hp
    · exact ho.lower h.below.size
    · exact (h.own p hp).still hg
  · refine List.Pairwise.cons (fun q hq => ?_) h.apart
    cases hv : v.ownBlock with
    | none => exact .inl rfl
    | some k =>
      refine .inr fun e => ?_
      have h1 := (World.ownsRow.lt ho k hv).1
      have h2 := (World.ownsRow.lt (h.own q hq) k e.symm).2
      omega
theorem sl (h : Live w0 w L) (p : Value × List Int) (hp : p ∈ L) : Sl w p.1 p.2 := (h.own p hp).sl
theorem arg (h : Live w0 w L) (hs : Sl w0 v l) : Sl w v l := hs.grown (grown_below h.below (Nat.le_refl _) none)
/-- the first row is written anew. -/
theorem put (h : Live w0 w ((v, l) :: L)) {l' : List Int} (hg : w.grownBy w' v.ownBlock) (ho : Own w' w0.heap.size v l') : Live w0 w' ((v, l') :: L) := by
  have hh := h.apart
  rw [List.pairwise_cons] at hh
  refine ⟨?_, ?_, ?_⟩
  · exact h.below.grown hg h.below.size (fun k hk => (World.ownsRow.lt (h.own (v, l) (by simp)) k hk).1)
  · intro p hp
    rcases List.mem_cons.1 hp with rfl | hp
    · exact ho
    · refine (h.own p (by simp [hp])).kept hg ?_
      rcases hh.1 p hp with e | e
      · cases hq : p.1.ownBlock with
        | none => exact .inl rfl
        | some k => right; rw [show v.ownBlock = none from e]; simp
      · exact .inr fun x => e x.symm
  · rw [List.pairwise_cons]; exact hh
theorem drop (h : Live w0 w ((v, l) :: L)) : Live w0 w L :=
  ⟨h.below, fun p hp => h.own p (by simp [hp]), (List.pairwise_cons.1 h.apart).2⟩
theorem swap {a b : Value × List Int} (h : Live w0 w (a :: b :: L)) : Live w0 w (b :: a :: L) := by
  have hh := h.apart
  simp only [List.pairwise_cons, List.mem_cons, forall_eq_or_imp] at hh
  refine ⟨h.below, fun p hp => h.own p (by simp only [List.mem_cons] at hp ⊢; rcases hp with h | h | h <;> simp [h]), ?_⟩
  simp only [List.pairwise_cons, List.mem_cons, forall_eq_or_imp]
  refine ⟨⟨?_, hh.2.1⟩, hh.1.2, hh.2.2⟩
  rcases hh.1.1 with e | e
  · cases hb : b.1.ownBlock with
    | none => exact .inl rfl
    | some k => right; rw [e]; simp
  · exact .inr fun x => e x.symm
/-- the i-th row to the front. -/
theorem front {L' : List (Value × List Int)} (h : Live w0 w (L ++ (v, l) :: L')) : Live w0 w ((v, l) :: (L ++ L')) := by
  induction L with
  | nil => exact h
  | cons a L ih =>
    have h1 : Live w0 w ((v, l) :: (L ++ L')) := ih ⟨h.below, fun p hp => h.own p (by simp at hp ⊢; rcases hp with h | h | h <;> simp [h]), (List.pairwise_cons.1 h.apart).2⟩
    have h2 : Live w0 w (a :: (v, l) :: (L ++ L')) := by
      refine ⟨h.below, ?_, ?_⟩
      · intro p hp
        simp at hp
        exact h.own p (by simp; rcases hp with h | h | h | h <;> simp [h])
      · rw [List.pairwise_cons]
        refine ⟨?_, h1.apart⟩
        intro q hq
        have := (List.pairwise_cons.1 h.apart).1 q
        exact this (by simp at hq ⊢; rcases hq with h | h | h <;> simp [h])
    exact h2.swap
end Live

/-- what is known while a law runs that began in w0 and writes nothing of its own: slices and what they read. -/
structure Seen (w0 w : World) (L : List (Value × List Int)) : Prop where
  below : Below w0.heap.size w0 w
  sls : ∀ p ∈ L, Sl w p.1 p.2

namespace Seen
variable {w0 w w' : World} {L : List (Value × List Int)} {v : Value} {l : List Int}
theorem start (w : World) : Seen w w [] := ⟨Below.refl _ _, by simp⟩
theorem still (h : Seen w0 w L) (hg : w.grownBy w' none) : Seen w0 w' L :=
  ⟨h.below.grown hg h.below.size (by simp), fun p hp => (h.sls p hp).grown hg⟩
theorem add (h : Seen w0 w L) (hs : Sl w v l) : Seen w0 w ((v, l) :: L) :=
  ⟨h.below, fun p hp => by
    rcases List.mem_cons.1 hp with rfl | hp
    · exact hs
    · exact h.sls p hp⟩
theorem new {b : Nat} (h : Seen w0 w L) (hg : w.grownBy w' none) (ho : Own w' b v l) : Seen w0 w' ((v, l) :: L) := (h.still hg).add ho.sl
theorem sl (h : Seen w0 w L) (p : Value × List Int) (hp : p ∈ L) : Sl w p.1 p.2 := h.sls p hp
theorem arg (h : Seen w0 w L) (hs : Sl w0 v l) : Sl w v l := hs.grown (grown_below h.below (Nat.le_refl _) none)
end Seen

/-- an argument of a law, as the frame tells it. -/
theorem sl_of {w : World} {a : Option Addr} {len cap : Nat} {zs : List Int}
    (h : (a = none ∧ len = 0 ∧ cap = 0 ∧ zs = []) ∨ ∃ x, a = some x ∧ len ≤ cap ∧ cap ≤ maxLen ∧ zs.length = cap ∧ (∀ i, i < zs.length → w.cell? (x.add i) = some (.int .i64 (zs.getD i 0))) ∧ ∀ n ∈ zs, (Lit.int .i64 n).wf = true) :
    ∃ l : List Int, len = l.length ∧ len ≤ cap ∧ cap ≤ maxLen ∧ Sl w (.slice a len cap) l := by
  rcases h with ⟨rfl, rfl, rfl, rfl⟩ | ⟨x, rfl, hl, hm, hz, hc, hw⟩
  · exact ⟨[], rfl, by omega, by omega, none, 0, rfl, by simp, by omega, .inl rfl⟩
  · have e : len = (zs.take len).length := by rw [List.length_take]; omega
    refine ⟨zs.take len, e, hl, hm, some x, cap, by rw [← e], by omega, hm, ?_⟩
    by_cases h0 : len = 0
    · exact .inl (by rw [h0]; simp)
    · obtain ⟨xb, xo, rfl, hx⟩ := ints_at hc (by omega)
      refine .inr ⟨xb, xo, rfl, fun i hi => ?_⟩
      rw [hx i (by omega)]
      have hi' : i < len := by omega
      simp [List.getD_eq_getElem?_getD, hi']
end Go.Proofs.Ytbpkfcaokbidnab
