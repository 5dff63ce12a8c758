/-
  Words on tables (slices of slices of integers) and on any rows of one-cell elements: what reads as a table; what a call owns; what is live while a law runs. It speaks of no program, but for the numbers of the types int and []int.
  Conditions: none.
-/
import Derived.Test.YtbpkfcaokbidnabInts
import Derived.Deep.Matrix
namespace Go.Proofs.Ytbpkfcaokbidnab
open Go.RowKit
set_option linter.unusedVariables false

/-- the slice v holds the slices us, which read as the rows m. -/
structure Tab (w : World) (v : Value) (us : List Value) (m : List (List Int)) : Prop where
  len : us.length = m.length
  top : ∃ a cap, v = .slice a m.length cap ∧ m.length ≤ cap ∧ cap ≤ maxLen ∧ (m = [] ∨ ∃ b o, a = some ⟨b, o, none⟩ ∧ ∀ (i : Nat) (u : Value), us[i]? = some u → w.cell? ⟨b, o + i, none⟩ = some u)
  rows : ∀ (i : Nat) (u : Value) (l : List Int), us[i]? = some u → m[i]? = some l → Sl w u l

theorem Tab.grown {w w' : World} {v : Value} {us : List Value} {m : List (List Int)} (h : Tab w v us m) (hg : w.grownBy w' none) : Tab w' v us m := by
  refine ⟨h.len, ?_, fun i u l hu hl => (h.rows i u l hu hl).grown hg⟩
  obtain ⟨a, cap, e, h1, h2, h3⟩ := h.top
  refine ⟨a, cap, e, h1, h2, ?_⟩
  rcases h3 with h3 | ⟨b, o, e', h3⟩
  · exact .inl h3
  · exact .inr ⟨b, o, e', fun i u hu => hg.cell (h3 i u hu) (by simp)⟩
/-- the i-th row. -/
theorem Tab.at_ {w : World} {v : Value} {us : List Value} {m : List (List Int)} (h : Tab w v us m) {i : Nat} (hi : i < m.length) :
    ∃ b o cap u, v = .slice (some ⟨b, o, none⟩) m.length cap ∧ us[i]? = some u ∧ w.cell? ⟨b, o + i, none⟩ = some u ∧ Sl w u (m.getD i []) := by
  obtain ⟨a, cap, e, h1, h2, h3⟩ := h.top
  have hlt : i < us.length := by rw [h.len]; exact hi
  have hu : us[i]? = some us[i] := List.getElem?_eq_getElem hlt
  rcases h3 with h3 | ⟨b, o, rfl, h3⟩
  · subst h3; simp at hi
  · refine ⟨b, o, cap, _, e, hu, h3 i _ hu, h.rows i _ _ hu ?_⟩
    rw [List.getElem?_eq_getElem hi]; simp [List.getD_eq_getElem?_getD, hi]

/-- an argument of a law that is a table, as it is read. -/
theorem tab_of {H : Type} {enc : TypeId × Value → H} {P : Program} {w : World} {t e q : TypeId} {a : Option Addr} {len cap : Nat} {d : DataW H} {ps : List MemPlace} (ht : P.underlying t = some (.slice e)) (he : P.underlying e = some (.slice q)) (hq : P.underlying q = some (.int .i64))
    (ce : P.cellsOf e = 1) (cq : P.cellsOf q = 1) (h : DataW.Trod enc P w 0 (fun _ => true) true t (.slice a len cap) d ps) : ∃ us m, len = m.length ∧ len ≤ cap ∧ cap ≤ maxLen ∧ Tab w (.slice a len cap) us m := by
  obtain ⟨fuel, hf⟩ := h
  rcases Go.Deep.open_int_rows ht he hq ce cq hf with ⟨hcs, _⟩ | ⟨x, len', cap', A, L, C, Z, hcs, _, hl, hm, _, hr⟩
  · simp [Value.cells] at hcs
    obtain ⟨rfl, rfl, rfl⟩ := hcs
    exact ⟨[], [], rfl, by omega, by omega, rfl, ⟨none, 0, rfl, by simp, by omega, .inl rfl⟩, by simp⟩
  · simp [Value.cells] at hcs
    obtain ⟨rfl, rfl, rfl⟩ := hcs
    have hrow : ∀ r, r < len → Sl w (.slice (A r) (L r) (C r)) ((Z r).take (L r)) := by
      intro r hrl
      obtain ⟨_, h1, h2, h3, h4, h5, h6⟩ := hr r (by omega)
      have e1 : ((Z r).take (L r)).length = L r := by rw [List.length_take]; omega
      refine ⟨A r, C r, by rw [e1], by omega, h2, ?_⟩
      by_cases h0 : L r = 0
      · exact .inl (by rw [h0]; simp)
      · cases hA : A r with
        | none => have := h5 hA; omega
        | some x' =>
          have hc := (h6 x' hA).2
          obtain ⟨xb, xo, rfl, hx⟩ := ints_at (zs := Z r) (fun i hi => hc i (by omega)) (by omega)
          refine .inr ⟨xb, xo, rfl, fun i hi => ?_⟩
          rw [hx i (by omega)]
          have hi' : i < L r := by omega
          simp [List.getD_eq_getElem?_getD, hi']
    refine ⟨(List.range len).map fun r => .slice (A r) (L r) (C r), (List.range len).map fun r => (Z r).take (L r), by simp, hl, hm, by simp, ?_, ?_⟩
    · refine ⟨some x, cap, by simp, by simpa using hl, hm, ?_⟩
      by_cases h0 : len = 0
      · exact .inl (by simp [h0])
      · right
        obtain ⟨xb, xo, sp⟩ := x
        have hsp : sp = none := by simpa [Addr.add] using World.cell?_spot (hr 0 (by omega)).1
        subst hsp
        refine ⟨xb, xo, rfl, fun i u hu => ?_⟩
        have hi : i < len := by have := (List.getElem?_eq_some_iff.1 hu).1; simpa using this
        simp only [List.getElem?_map, List.getElem?_range hi, Option.map_some, Option.some.injEq] at hu
        subst hu
        have h1 := (hr i (by omega)).1
        rw [Addr.add_lit] at h1
        exact h1
    · intro i u l hu hl'
      have hi : i < len := by have := (List.getElem?_eq_some_iff.1 hu).1; simpa using this
      simp only [List.getElem?_map, List.getElem?_range hi, Option.map_some, Option.some.injEq] at hu hl'
      subst hu hl'
      exact hrow i hi

/-- a row of one-cell elements that a call owns: the slice, the elements' type, the cells. -/
structure Item where
  v : Value
  e : TypeId
  cs : List Value
def Item.Own (w : World) (base : Nat) (x : Item) : Prop := w.ownsRow base x.e 1 x.v x.cs.length x.cs
def Item.Apart (x y : Item) : Prop := x.v.ownBlock = none ∨ x.v.ownBlock ≠ y.v.ownBlock
theorem Item.Apart.symm {x y : Item} (h : x.Apart y) : y.Apart x := by
  rcases h with h | h
  · cases hy : y.v.ownBlock with
    | none => exact .inl hy
    | some k => exact .inr (by rw [h, hy]; simp)
  · exact .inr fun e => h e.symm
theorem Item.Own.still {w w' : World} {base : Nat} {x : Item} (h : x.Own w base) (hg : w.grownBy w' none) : x.Own w' base :=
  World.ownsRow.kept h hg (by cases h : x.v.ownBlock <;> simp)
theorem Item.Own.lower {w : World} {base base' : Nat} {x : Item} (h : x.Own w base) (hb : base' ≤ base) : x.Own w base' := by
  refine ⟨h.1, ?_⟩
  rcases h.2 with h0 | ⟨g, cap, cur, hv, hg, r⟩
  · exact .inl h0
  · exact .inr ⟨g, cap, cur, hv, by omega, r⟩
/-- rows that are owned, apart from one another. -/
def OwnAll (w : World) (base : Nat) (L : List Item) : Prop := (∀ x ∈ L, x.Own w base) ∧ L.Pairwise Item.Apart
theorem OwnAll.still {w w' : World} {base : Nat} {L : List Item} (h : OwnAll w base L) (hg : w.grownBy w' none) : OwnAll w' base L := ⟨fun x hx => (h.1 x hx).still hg, h.2⟩
theorem OwnAll.lower {w : World} {base base' : Nat} {L : List Item} (h : OwnAll w base L) (hb : base' ≤ base) : OwnAll w base' L := ⟨fun x hx => (h.1 x hx).lower hb, h.2⟩
/-- new rows beside elder ones. -/
theorem OwnAll.join {w w' : World} {base : Nat} {L M : List Item} (h : OwnAll w base L) (hg : w.grownBy w' none) (k : OwnAll w' w.heap.size M) (hb : base ≤ w.heap.size) : OwnAll w' base (M ++ L) := by
  refine ⟨fun x hx => ?_, ?_⟩
  · rcases List.mem_append.1 hx with hx | hx
    · exact (k.1 x hx).lower hb
    · exact (h.1 x hx).still hg
  · rw [List.pairwise_append]
    refine ⟨k.2, h.2, fun x hx y hy => ?_⟩
    cases hv : x.v.ownBlock with
    | none => exact .inl hv
    | some b =>
      refine .inr fun e => ?_
      have h1 := (World.ownsRow.lt (k.1 x hx) b hv).1
      have h2 := (World.ownsRow.lt (h.1 y hy) b (by rw [← e]; exact hv)).2
      omega
theorem OwnAll.left {w : World} {base : Nat} {L M : List Item} (h : OwnAll w base (L ++ M)) : OwnAll w base L := ⟨fun x hx => h.1 x (by simp [hx]), (List.pairwise_append.1 h.2).1⟩
theorem OwnAll.right {w : World} {base : Nat} {L M : List Item} (h : OwnAll w base (L ++ M)) : OwnAll w base M := ⟨fun x hx => h.1 x (by simp [hx]), (List.pairwise_append.1 h.2).2.1⟩

/-- an item of integers. -/
def row1 (v : Value) (l : List Int) : Item := ⟨v, 3, vals l⟩
theorem row1_own {w : World} {base : Nat} {v : Value} {l : List Int} : (row1 v l).Own w base ↔ Own w base v l := by
  unfold Item.Own Go.Proofs.Ytbpkfcaokbidnab.Own row1
  rw [vals_length]
/-- the items of a table. -/
def tabItems (v : Value) (us : List Value) (m : List (List Int)) : List Item := ⟨v, 33, us⟩ :: List.zipWith row1 us m
/-- what a call that makes a table leaves. -/
def NewTab (m : List (List Int)) (w : World) (e : Ending) (w' : World) : Prop := ∃ v us, e = .returned v ∧ w.grownBy w' none ∧ us.length = m.length ∧ OwnAll w' w.heap.size (tabItems v us m)
theorem tab_each {w : World} {base : Nat} {v : Value} {us : List Value} {m : List (List Int)} (hl : us.length = m.length) (h : ∀ x ∈ tabItems v us m, x.Own w base) : Tab w v us m := by
  have h0 := h ⟨v, 33, us⟩ (by simp [tabItems])
  refine ⟨hl, ?_, ?_⟩
  · rcases h0.2 with ⟨e, hn⟩ | ⟨g, cap, cur, e, _, hg, h1, h2, _, ht⟩
    · have hu : us = [] := List.eq_nil_of_length_eq_zero hn
      subst hu
      have hm : m = [] := List.eq_nil_of_length_eq_zero hl.symm
      subst hm
      exact ⟨none, 0, e, by simp, by omega, .inl rfl⟩
    · have h1' : us.length ≤ cap := h1
      refine ⟨some ⟨g, 0, none⟩, cap, by rw [← hl]; exact e, by omega, h2, .inr ⟨g, 0, rfl, fun i u hu => ?_⟩⟩
      rw [cell_of_row w g (0 + i) cur 33 (0, 0) hg]
      have ht' : cur.toList.take (us.length * 1) = us := ht
      rw [← ht', List.getElem?_take] at hu
      split at hu
      · simpa using hu
      · cases hu
  · intro i u l hu hl'
    have hm : row1 u l ∈ tabItems v us m := by
      refine List.mem_cons_of_mem _ (List.mem_iff_getElem?.2 ⟨i, ?_⟩)
      rw [List.getElem?_zipWith, hu, hl']
    exact (row1_own.1 (h _ hm)).sl
theorem tab_own {w : World} {base : Nat} {v : Value} {us : List Value} {m : List (List Int)} (hl : us.length = m.length) (h : OwnAll w base (tabItems v us m)) : Tab w v us m := tab_each hl h.1

/-- what is live while a law runs that began in w0. -/
structure Lives (w0 w : World) (L : List Item) : Prop where
  below : Below w0.heap.size w0 w
  own : OwnAll w w0.heap.size L
namespace Lives
variable {w0 w w' : World} {L M : List Item}
theorem start (w : World) : Lives w w [] := ⟨Below.refl _ _, by simp, List.Pairwise.nil⟩
theorem still (h : Lives w0 w L) (hg : w.grownBy w' none) : Lives w0 w' L := ⟨h.below.grown hg h.below.size (by simp), h.own.still hg⟩
theorem new (h : Lives w0 w L) (hg : w.grownBy w' none) (k : OwnAll w' w.heap.size M) : Lives w0 w' (M ++ L) := ⟨h.below.grown hg h.below.size (by simp), h.own.join hg k h.below.size⟩
theorem new1 (h : Lives w0 w L) {v : Value} {l : List Int} (hg : w.grownBy w' none) (k : Own w' w.heap.size v l) : Lives w0 w' (row1 v l :: L) :=
  h.new (M := [row1 v l]) hg ⟨fun x hx => by simp at hx; subst hx; exact row1_own.2 k, by simp⟩
theorem arg (h : Lives w0 w L) {v : Value} {us : List Value} {m : List (List Int)} (hs : Tab w0 v us m) : Tab w v us m := hs.grown (grown_below h.below (Nat.le_refl _) none)
theorem arg1 (h : Lives w0 w L) {v : Value} {l : List Int} (hs : Sl w0 v l) : Sl w v l := hs.grown (grown_below h.below (Nat.le_refl _) none)
theorem tab (h : Lives w0 w L) {v : Value} {us : List Value} {m : List (List Int)} (hl : us.length = m.length) (hm : ∀ x ∈ tabItems v us m, x ∈ L) : Tab w v us m := tab_each hl fun x hx => h.own.1 x (hm x hx)
theorem sl (h : Lives w0 w L) {v : Value} {l : List Int} (hm : row1 v l ∈ L) : Sl w v l := (row1_own.1 (h.own.1 _ hm)).sl
/-- rows of a part are written anew; all else stays. -/
theorem turn {A A' B C : List Item} (h : Lives w0 w (B ++ A ++ C)) (he : A'.map (fun x => x.v.ownBlock) = A.map (fun x => x.v.ownBlock)) (ho : OwnAll w' w0.heap.size A')
    (h1 : w'.os = w.os) (h2 : w'.tape = w.tape) (h3 : w'.output = w.output) (h4 : w.heap.size ≤ w'.heap.size) (hk : ∀ k, k < w.heap.size → (∀ x ∈ A, x.v.ownBlock ≠ some k) → w'.heap[k]? = w.heap[k]?) : Lives w0 w' (B ++ A' ++ C) := by
  have hmem : ∀ x' ∈ A', ∃ x ∈ A, x.v.ownBlock = x'.v.ownBlock := by
    intro x' hx'
    have : x'.v.ownBlock ∈ A'.map (fun x => x.v.ownBlock) := List.mem_map.2 ⟨x', hx', rfl⟩
    rw [he] at this
    obtain ⟨x, hx, e⟩ := List.mem_map.1 this
    exact ⟨x, hx, e⟩
  have hp := h.own.2
  rw [List.append_assoc, List.pairwise_append, List.pairwise_append] at hp
  have keep : ∀ y, (y ∈ B ∨ y ∈ C) → y.Own w' w0.heap.size := by
    intro y hy
    have hyo := h.own.1 y (by simp; rcases hy with h | h <;> simp [h])
    have hya : ∀ x ∈ A, y.Apart x := by
      intro x hx
      rcases hy with hy | hy
      · exact hp.2.2 y hy x (by simp [hx])
      · exact (hp.2.1.2.2 x hx y hy).symm
    refine ⟨hyo.1, ?_⟩
    rcases hyo.2 with h0 | ⟨g, cap, cur, hv, hb, hg, r⟩
    · exact .inl h0
    · refine .inr ⟨g, cap, cur, hv, hb, ?_, r⟩
      have hyg : y.v.ownBlock = some g := by rw [hv]; rfl
      rw [hk g (Array.getElem?_eq_some_iff.1 hg).1 (fun x hx e => by
        rcases hya x hx with h | h
        · rw [hyg] at h; cases h
        · exact h (by rw [hyg, e]))]
      exact hg
  refine ⟨⟨h1.trans h.below.os, h2.trans h.below.tape, h3.trans h.below.output, Nat.le_trans h.below.size h4, fun k hk' => ?_⟩, ?_, ?_⟩
  · rw [hk k (Nat.lt_of_lt_of_le hk' h.below.size) (fun x hx e => by
      have := (World.ownsRow.lt (h.own.1 x (by simp [hx])) k e).1; omega)]
    exact h.below.block k hk'
  · intro x hx
    simp only [List.mem_append] at hx
    rcases hx with (hx | hx) | hx
    · exact keep x (.inl hx)
    · exact ho.1 x hx
    · exact keep x (.inr hx)
  · rw [List.append_assoc, List.pairwise_append, List.pairwise_append]
    refine ⟨hp.1, ⟨ho.2, hp.2.1.2.1, ?_⟩, ?_⟩
    · intro x' hx' y hy
      obtain ⟨x, hx, e⟩ := hmem x' hx'
      have := hp.2.1.2.2 x hx y hy
      unfold Item.Apart at this ⊢
      rw [← e]; exact this
    · intro y hy z hz
      rcases List.mem_append.1 hz with hz | hz
      · obtain ⟨x, hx, e⟩ := hmem z hz
        have := hp.2.2 y hy x (by simp [hx])
        unfold Item.Apart at this ⊢
        rw [← e]; exact this
      · exact hp.2.2 y hy z (by simp [hz])
end Lives
end Go.Proofs.Ytbpkfcaokbidnab
