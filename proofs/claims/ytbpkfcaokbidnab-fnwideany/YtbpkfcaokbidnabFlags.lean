/-
  Words on slices of flags: a value that reads as a list of flags; a value that owns a new row of flags. It speaks of no program, but for the number of the type bool.
  Conditions: none.
-/
import Derived.Test.YtbpkfcaokbidnabTabs
namespace Go.Proofs.Ytbpkfcaokbidnab
open Go.RowKit Go.ChangeShapes
set_option linter.unusedVariables false

/-- flags as values. -/
def bvals (l : List Bool) : List Value := l.map Value.bool
theorem bvals_length (l : List Bool) : (bvals l).length = l.length := by simp [bvals]
theorem bvals_get (l : List Bool) (i : Nat) (h : i < l.length) : (bvals l)[i]? = some (.bool (l.getD i false)) := by
  simp [bvals, List.getD_eq_getElem?_getD, h]
theorem bvals_set (l : List Bool) (i : Nat) (x : Bool) : (bvals l).set i (.bool x) = bvals (l.set i x) := by
  simp [bvals, List.map_set]
theorem bvals_append (l : List Bool) (x : Bool) : bvals l ++ [.bool x] = bvals (l ++ [x]) := by simp [bvals]
theorem bvals_one (l : List Bool) : ∀ u ∈ bvals l, u.oneCell' = true := by
  intro u hu
  obtain ⟨b, _, rfl⟩ := List.mem_map.1 hu
  rfl

/-- the cells from an address on read as flags. -/
def BRds (w : World) (a : Option Addr) (l : List Bool) : Prop :=
  l = [] ∨ ∃ b o, a = some ⟨b, o, none⟩ ∧ ∀ i, i < l.length → w.cell? ⟨b, o + i, none⟩ = some (.bool (l.getD i false))
theorem BRds.at_ {w : World} {a : Option Addr} {l : List Bool} (h : BRds w a l) {k : Nat} (hk : k < l.length) :
    ∃ b o, a = some ⟨b, o, none⟩ ∧ w.cell? ⟨b, o + k, none⟩ = some (.bool (l.getD k false)) := by
  rcases h with rfl | ⟨b, o, rfl, h⟩
  · simp at hk
  · exact ⟨b, o, rfl, h k hk⟩
theorem BRds.grown {w w' : World} {a : Option Addr} {l : List Bool} (h : BRds w a l) (hg : w.grownBy w' none) : BRds w' a l := by
  rcases h with rfl | ⟨b, o, rfl, h⟩
  · exact .inl rfl
  · exact .inr ⟨b, o, rfl, fun i hi => hg.cell (h i hi) (by simp)⟩
/-- a slice that reads as flags. -/
def Bl (w : World) (v : Value) (l : List Bool) : Prop := ∃ a cap, v = .slice a l.length cap ∧ l.length ≤ cap ∧ cap ≤ maxLen ∧ BRds w a l
/-- a slice that owns a row of flags among the blocks from base on. -/
def BOwn (w : World) (base : Nat) (v : Value) (l : List Bool) : Prop := w.ownsRow base 4 1 v l.length (bvals l)
theorem Bl.grown {w w' : World} {v : Value} {l : List Bool} (h : Bl w v l) (hg : w.grownBy w' none) : Bl w' v l := by
  obtain ⟨a, cap, rfl, h1, h2, h⟩ := h
  exact ⟨a, cap, rfl, h1, h2, h.grown hg⟩
theorem BOwn.bl {w : World} {base : Nat} {v : Value} {l : List Bool} (h : BOwn w base v l) : Bl w v l := by
  rcases h.2 with ⟨rfl, h0⟩ | ⟨g, cap, cur, rfl, _, hg, h1, h2, _, ht⟩
  · exact ⟨none, 0, by rw [h0], by omega, by omega, .inl (List.eq_nil_of_length_eq_zero h0)⟩
  · refine ⟨_, cap, rfl, h1, h2, .inr ⟨g, 0, rfl, fun i hi => ?_⟩⟩
    rw [cell_of_row w g (0 + i) cur 4 (0, 0) hg]
    have hv := bvals_get l i hi
    rw [← ht, List.getElem?_take, if_pos (by omega)] at hv
    simpa using hv
theorem BOwn.lower {w : World} {base base' : Nat} {v : Value} {l : List Bool} (h : BOwn w base v l) (hb : base' ≤ base) : BOwn w base' v l := by
  refine ⟨h.1, ?_⟩
  rcases h.2 with h0 | ⟨g, cap, cur, hv, hg, r⟩
  · exact .inl h0
  · exact .inr ⟨g, cap, cur, hv, by omega, r⟩
theorem BOwn.kept {w w' : World} {base : Nat} {v : Value} {l : List Bool} {row : Option Nat} (h : BOwn w base v l) (hg : w.grownBy w' row) (hne : v.ownBlock = none ∨ v.ownBlock ≠ row) : BOwn w' base v l :=
  World.ownsRow.kept h hg hne
theorem BOwn.still {w w' : World} {base : Nat} {v : Value} {l : List Bool} (h : BOwn w base v l) (hg : w.grownBy w' none) : BOwn w' base v l :=
  h.kept hg (by cases h : v.ownBlock <;> simp)
theorem BOwn.none_ (w : World) (base : Nat) : BOwn w base (.slice none 0 0) [] := World.ownsRow_nil _ _ _ _
/-- a block of flags. -/
def BArr (w : World) (g : Nat) (t : TypeId) (l : List Bool) : Prop := w.heap[g]? = some (.cells (bvals l).toArray t (0, 0))
namespace BArr
variable {w w' : World} {g : Nat} {t : TypeId} {l : List Bool}
theorem lt (h : BArr w g t l) : g < w.heap.size := by
  unfold BArr at h
  exact (Array.getElem?_eq_some_iff.1 h).1
theorem cell (h : BArr w g t l) {i : Nat} (hi : i < l.length) : w.cell? ⟨g, i, none⟩ = some (.bool (l.getD i false)) := by
  rw [cell_of_row w g i _ t (0, 0) h]; simpa using bvals_get l i hi
theorem frozen (h : BArr w g t l) (i : Nat) : w.frozen? ⟨g, i, none⟩ = false := frozen_of_row w g i _ t h
theorem new (w : World) (t : TypeId) (l : List Bool) : BArr (w.alloc (.cells (bvals l).toArray t)) w.heap.size t l := heap_alloc_new w _
theorem alloc (h : BArr w g t l) (o : Obj) : BArr (w.alloc o) g t l := (Below.heap_alloc w o g h.lt).trans h
theorem drew (h : BArr w g t l) : BArr w.drew g t l := h
theorem kept {r : Option Nat} (h : BArr w g t l) (hg : w.grownBy w' r) (hr : some g ≠ r) : BArr w' g t l := (hg.block g h.lt hr).trans h
theorem still (h : BArr w g t l) (hg : w.grownBy w' none) : BArr w' g t l := h.kept hg (by simp)
theorem far (h : BArr w g t l) {p : Addr} (hp : g ≠ p.block) (u : Value) : BArr (w.setCell p u) g t l := (Below.heap_setCell w p u g hp).trans h
theorem put (h : BArr w g t l) (i : Nat) (x : Bool) : BArr (w.setCell ⟨g, i, none⟩ (.bool x)) g t (l.set i x) := by
  have e := heap_setCell_same w g i _ t (.bool x) h
  unfold BArr
  rw [e, ← bvals_set]
  simp
theorem own {n : Nat} (h : BArr w g 4 l) (hn : n = l.length) (base : Nat) (hb : base ≤ g) (hl : l.length ≤ maxLen) : BOwn w base (.slice (some ⟨g, 0, none⟩) n n) l := by
  subst hn
  exact ⟨by simp [bvals], .inr ⟨g, l.length, _, rfl, hb, h, Nat.le_refl _, hl, by simp [bvals], by
    show List.take _ (bvals l) = bvals l
    exact List.take_of_length_le (by simp [bvals])⟩⟩
end BArr

/-- a new slice of flags. -/
def NewBools (l : List Bool) (w : World) (e : Ending) (w' : World) : Prop := ∃ v, e = .returned v ∧ w.grownBy w' none ∧ BOwn w' w.heap.size v l
def bool1 (v : Value) (l : List Bool) : Item := ⟨v, 4, bvals l⟩
theorem bool1_own {w : World} {base : Nat} {v : Value} {l : List Bool} : (bool1 v l).Own w base ↔ BOwn w base v l := by
  unfold Item.Own bool1 BOwn
  simp [bvals_length]
namespace Lives
variable {w0 w w' : World} {L : List Item}
theorem newB (h : Lives w0 w L) {v : Value} {l : List Bool} (hg : w.grownBy w' none) (k : BOwn w' w.heap.size v l) : Lives w0 w' (bool1 v l :: L) :=
  h.new (M := [bool1 v l]) hg ⟨fun x hx => by simp at hx; subst hx; exact bool1_own.2 k, by simp⟩
theorem bl (h : Lives w0 w L) {v : Value} {l : List Bool} (hm : bool1 v l ∈ L) : Bl w v l := (bool1_own.1 (h.own.1 _ hm)).bl
theorem argB (h : Lives w0 w L) {v : Value} {l : List Bool} (hs : Bl w0 v l) : Bl w v l := hs.grown (grown_below h.below (Nat.le_refl _) none)
end Lives

/-- an argument of a law, as the frame tells it. -/
theorem bl_of {H : Type} {enc : TypeId × Value → H} {P : Program} {w : World} {t e : TypeId} {a : Option Addr} {len cap : Nat} {d : DataW H} {ps : List MemPlace} (ht : P.underlying t = some (.slice e)) (he : P.underlying e = some .bool)
    (ce : P.cellsOf e = 1) (h : DataW.Trod enc P w 0 (fun _ => true) true t (.slice a len cap) d ps) : ∃ l : List Bool, len = l.length ∧ len ≤ cap ∧ cap ≤ maxLen ∧ Bl w (.slice a len cap) l := by
  obtain ⟨fuel, hf⟩ := h
  rcases DataW.trod_slice ht hf with ⟨hcs, _⟩ | ⟨x, len', cap', elems, rest, n, _, hcs, _, hb, hl, hm, hlen, hel, _, _⟩
  · simp [Value.cells] at hcs
    obtain ⟨rfl, rfl, rfl⟩ := hcs
    exact ⟨[], rfl, by omega, by omega, none, 0, rfl, by simp, by omega, .inl rfl⟩
  · simp [Value.cells] at hcs
    obtain ⟨rfl, rfl, rfl⟩ := hcs
    have each : ∀ i, i < len → ∃ b, w.cell? (x.add i) = some (.bool b) := by
      intro i hi
      have h1 := hel i hi
      rw [ce, Nat.mul_one, List.getElem?_eq_getElem (by omega), Option.bind_eq_some_iff] at h1
      obtain ⟨cs', hcs', hy⟩ := h1
      obtain ⟨b, h2, _⟩ := DataW.trod_bool he hy
      subst h2
      exact ⟨b, cell_of_cells?_one hcs'⟩
    refine ⟨(List.range len).map fun i => (match w.cell? (x.add i) with | some (.bool b) => b | _ => false), by simp, hl, hm, some x, cap, by simp, by simpa using hl, hm, ?_⟩
    by_cases h0 : len = 0
    · exact .inl (by simp [h0])
    · right
      obtain ⟨xb, xo, sp⟩ := x
      have hsp : sp = none := by
        obtain ⟨b, hb0⟩ := each 0 (by omega)
        simpa [Addr.add] using World.cell?_spot hb0
      subst hsp
      refine ⟨xb, xo, rfl, fun i hi => ?_⟩
      have hi' : i < len := by simpa using hi
      obtain ⟨b, hb1⟩ := each i hi'
      have e1 : (Addr.mk xb xo none).add i = ⟨xb, xo + i, none⟩ := Addr.add_lit ..
      rw [e1] at hb1
      simp [List.getD_eq_getElem?_getD, hi', e1, hb1]
end Go.Proofs.Ytbpkfcaokbidnab
