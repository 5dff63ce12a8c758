/-
  Plans in a slice of their own: how they lie in memory, how one is put behind them.
  Conditions: none.
-/
import Derived.Test.YtbpkfcaokbidnabPlanEq
namespace Go.Proofs.Ytbpkfcaokbidnab
open Go.RowKit
set_option linter.unusedVariables false

/-- a plan in memory: its shard, its two slices, what they read. -/
structure PIt where
  d : Int
  u : Value
  v : Value
  l : List Int
  m : List Int
def PIt.cells (x : PIt) : List Value := [.int .i64 x.d, x.u, x.v]
def pcells (L : List PIt) : List Value := L.flatMap PIt.cells
def pitems (L : List PIt) : List Item := L.flatMap fun x => [row1 x.u x.l, row1 x.v x.m]
theorem pcells_len : ∀ L : List PIt, (pcells L).length = L.length * 3
  | [] => rfl
  | x :: L => by
    have := pcells_len L
    simp only [pcells, List.flatMap_cons, List.length_append, List.length_cons] at this ⊢
    show 3 + _ = _
    omega
theorem pcells_snoc (L : List PIt) (x : PIt) : pcells (L ++ [x]) = pcells L ++ x.cells := by simp [pcells]
theorem pitems_snoc (L : List PIt) (x : PIt) : pitems (L ++ [x]) = pitems L ++ [row1 x.u x.l, row1 x.v x.m] := by simp [pitems]
theorem pcells_get : ∀ (L : List PIt) {i : Nat} {x : PIt}, L[i]? = some x → ∀ c, c < 3 → (pcells L)[i * 3 + c]? = x.cells[c]?
  | [], i, x, h, _, _ => by simp at h
  | y :: L, 0, x, h, c, hc => by
    simp at h
    subst h
    show (y.cells ++ pcells L)[0 * 3 + c]? = _
    rw [List.getElem?_append_left (by show 0 * 3 + c < 3; omega)]
    simp
  | y :: L, i + 1, x, h, c, hc => by
    have h' : L[i]? = some x := by simpa using h
    have ih := pcells_get L h' c hc
    show (y.cells ++ pcells L)[(i + 1) * 3 + c]? = _
    rw [List.getElem?_append_right (by show 3 ≤ _; omega)]
    rw [← ih]
    congr 1
    show (i + 1) * 3 + c - 3 = _
    omega
/-- plans in a slice that is owned, and so are all their slices. -/
structure PTab (w : World) (base : Nat) (vv : Value) (L : List PIt) : Prop where
  top : w.ownsRow base 35 3 vv L.length (pcells L)
  own : OwnAll w base (pitems L)
namespace PTab
variable {w w' : World} {base base' : Nat} {vv : Value} {L : List PIt}
theorem still (h : PTab w base vv L) (hg : w.grownBy w' none) : PTab w' base vv L :=
  ⟨World.ownsRow.kept h.top hg (by cases vv.ownBlock <;> simp), h.own.still hg⟩
theorem lower (h : PTab w base vv L) (hb : base' ≤ base) : PTab w base' vv L := by
  refine ⟨?_, h.own.lower hb⟩
  rcases h.top with ⟨h1, h2⟩
  refine ⟨h1, ?_⟩
  rcases h2 with h2 | ⟨g, cap, cur, e, hb', h3⟩
  · exact .inl h2
  · exact .inr ⟨g, cap, cur, e, Nat.le_trans hb hb', h3⟩
theorem none_ (w : World) (base : Nat) : PTab w base (.slice none 0 0) [] := ⟨World.ownsRow_nil _ _ _ _, ⟨by simp [pitems], by simp [pitems]⟩⟩
theorem made (w : World) (base : Nat) (hb : base ≤ w.heap.size) : PTab (w.alloc (.cells #[] 35)) base (.slice (some ⟨w.heap.size, 0, none⟩) 0 0) [] :=
  ⟨⟨by simp [pcells], .inr ⟨w.heap.size, 0, #[], rfl, hb, heap_alloc_new w _, Nat.le_refl _, by simp [maxLen], by simp, by simp [pcells]⟩⟩, ⟨by simp [pitems], by simp [pitems]⟩⟩
theorem form (h : PTab w base vv L) : ∃ a c, vv = .slice a L.length c ∧ L.length ≤ c ∧ c ≤ maxLen := by
  rcases h.top.2 with ⟨e, h0⟩ | ⟨g, cap, cur, e, _, _, h1, h2, _⟩
  · exact ⟨none, 0, by rw [e, h0], by omega, by simp [maxLen]⟩
  · exact ⟨_, cap, e, h1, h2⟩
/-- a block of plans is no block of integers. -/
theorem apart {n : Nat} {xs : List Value} (h : w.ownsRow base 35 3 vv n xs) {x : Item} (k : x.Own w base') (he : x.e = 3) : x.v.ownBlock = none ∨ x.v.ownBlock ≠ vv.ownBlock := by
  rcases k.2 with ⟨e, _⟩ | ⟨g, cap, cur, e, _, hg, _⟩
  · left; rw [e]; rfl
  · rcases h.2 with ⟨e', _⟩ | ⟨g', cap', cur', e', _, hg', _⟩
    · right; rw [e, e']; simp [Value.ownBlock]
    · right
      rw [e, e']
      intro eq
      injection eq with eq
      have eq' : g = g' := eq
      subst eq'
      rw [hg] at hg'
      injection hg' with hg'
      injection hg' with _ ht
      rw [he] at ht
      exact absurd ht (by decide)
theorem items_int : ∀ (L : List PIt), ∀ x ∈ pitems L, x.e = 3 := by
  intro L x hx
  obtain ⟨y, _, hy⟩ := List.mem_flatMap.1 hx
  simp at hy
  rcases hy with rfl | rfl <;> rfl
theorem kept_own {L : List Item} {r : Option Nat} (h : OwnAll w base L) (hg : w.grownBy w' r) (hr : ∀ x ∈ L, x.v.ownBlock = none ∨ x.v.ownBlock ≠ r) : OwnAll w' base L :=
  ⟨fun x hx => World.ownsRow.kept (h.1 x hx) hg (hr x hx), h.2⟩
theorem swap {L M : List Item} (h : OwnAll w base (M ++ L)) : OwnAll w base (L ++ M) := by
  refine ⟨fun x hx => h.1 x (by simp only [List.mem_append] at hx ⊢; exact hx.symm), ?_⟩
  obtain ⟨h1, h2, h3⟩ := List.pairwise_append.1 h.2
  exact List.pairwise_append.2 ⟨h2, h1, fun a ha b hb => (h3 b hb a ha).symm⟩
/-- one plan more. -/
theorem snoc {w1 w2 : World} {o' u v : Value} {d : Int} {l m : List Int} {n : Nat} (h : PTab w base vv L) (hb : base ≤ w.heap.size) (hg : w.grownBy w1 none) (ht : TwoOwn w1 w.heap.size u v l m) (hg2 : w1.grownBy w2 vv.ownBlock)
    (ho : w2.ownsRow base 35 3 o' n (pcells L ++ [.int .i64 d, u, v])) (hn : n = L.length + 1) : PTab w2 base o' (L ++ [⟨d, u, v, l, m⟩]) := by
  subst hn
  have hj := swap (h.own.join hg ht.all hb)
  have htop := (h.still hg).top
  refine ⟨?_, ?_⟩
  · rw [pcells_snoc, List.length_append]
    exact ho
  · rw [pitems_snoc]
    refine kept_own hj hg2 (fun x hx => ?_)
    refine apart htop (hj.1 x hx) ?_
    rcases List.mem_append.1 hx with hx | hx
    · exact items_int L x hx
    · simp at hx
      rcases hx with rfl | rfl <;> rfl
/-- one plan's cells. -/
theorem at_ (h : PTab w base vv L) {i : Nat} {x : PIt} (hi : L[i]? = some x) : ∃ g c, vv = .slice (some ⟨g, 0, none⟩) L.length c ∧ base ≤ g ∧ w.cell? ⟨g, i * 3, none⟩ = some (.int .i64 x.d) ∧ w.cell? ⟨g, i * 3 + 1, none⟩ = some x.u ∧ w.cell? ⟨g, i * 3 + 2, none⟩ = some x.v ∧ Own w base x.u x.l ∧ Own w base x.v x.m := by
  have hlt := (List.getElem?_eq_some_iff.1 hi).1
  have hx : x ∈ L := List.mem_of_getElem? hi
  rcases h.top.2 with ⟨_, h0⟩ | ⟨g, cap, cur, e, hb, hg, h1, h2, h3, h4⟩
  · omega
  · have key : ∀ c v, x.cells[c]? = some v → c < 3 → w.cell? ⟨g, i * 3 + c, none⟩ = some v := by
      intro c v hv hc
      have := World.ownsRow.cells (by rw [e] at h; exact h.top) (g := g) rfl (i * 3 + c) v (by rw [pcells_get L hi c hc]; exact hv)
      rw [Addr.add_lit] at this
      simpa using this
    exact ⟨g, cap, e, hb, key 0 _ rfl (by omega), key 1 _ rfl (by omega), key 2 _ rfl (by omega), row1_own.1 (h.own.1 _ (List.mem_flatMap.2 ⟨x, hx, by simp⟩)), row1_own.1 (h.own.1 _ (List.mem_flatMap.2 ⟨x, hx, by simp⟩))⟩
end PTab
/-- which shards are not there, of the first ones. -/
def unav (f : List Bool) (n : Nat) : List Nat := (List.range n).filter fun i => !(f.getD i false)
theorem unav_yes {f : List Bool} {n : Nat} (h : f.getD n false = true) : unav f (n + 1) = unav f n := by
  rw [List.getD_eq_getElem?_getD] at h
  simp [unav, List.range_succ, h]
theorem unav_no {f : List Bool} {n : Nat} (h : f.getD n false = false) : unav f (n + 1) = unav f n ++ [n] := by
  rw [List.getD_eq_getElem?_getD] at h
  simp [unav, List.range_succ, h]
/-- plans of those of the first shards that are not there, in order. -/
def PAll (k : Int) (f : List Bool) (n : Nat) (L : List PIt) : Prop := L.length = (unav f n).length ∧ ∀ j x, L[j]? = some x → PlanT k ((unav f n).getD j 0 : Nat) f x.d x.l x.m true
theorem PAll.start (k : Int) (f : List Bool) : PAll k f 0 [] := ⟨rfl, by simp⟩
theorem PAll.yes {k : Int} {f : List Bool} {n : Nat} {L : List PIt} (h : PAll k f n L) (hf : f.getD n false = true) : PAll k f (n + 1) L := by
  unfold PAll; rw [unav_yes hf]; exact h
theorem PAll.no {k : Int} {f : List Bool} {n : Nat} {L : List PIt} (h : PAll k f n L) (hf : f.getD n false = false) {d : Int} {u v : Value} {l m : List Int} (ht : PlanT k (n : Nat) f d l m true) : PAll k f (n + 1) (L ++ [⟨d, u, v, l, m⟩]) := by
  unfold PAll
  rw [unav_no hf]
  refine ⟨by rw [List.length_append, List.length_append, h.1]; rfl, fun j x hj => ?_⟩
  rcases Nat.lt_or_ge j L.length with hlt | hge
  · rw [List.getElem?_append_left hlt] at hj
    have := h.2 j x hj
    rw [List.getD_eq_getElem?_getD, List.getElem?_append_left (by rw [← h.1]; exact hlt), ← List.getD_eq_getElem?_getD]
    exact this
  · rw [List.getElem?_append_right hge] at hj
    have e : j - L.length = 0 := by
      rcases Nat.eq_zero_or_pos (j - L.length) with h0 | h0
      · exact h0
      · rw [List.getElem?_eq_none (by simp; omega)] at hj; cases hj
    rw [e] at hj
    simp at hj
    subst hj
    have ej : j = (unav f n).length := by rw [← h.1]; omega
    rw [ej, List.getD_eq_getElem?_getD, List.getElem?_append_right (Nat.le_refl _)]
    simpa using ht
/-- what PlanAll answers. -/
def AllT (k : Int) (f : List Bool) (b : Bool) (L : List PIt) : Prop :=
  (b = true ∧ (k = 1 ∨ k = 2) ∧ f.length = 8 ∧ PAll k f 8 L) ∨
  (b = false ∧ L = [] ∧ ((k = 1 ∨ k = 2) → f.length = 8 → ∃ i, i < 8 ∧ f.getD i false = false ∧ Sp.planM k.toNat i f = none))
theorem planT_none {k : Nat} {n : Nat} {f : List Bool} {d : Int} {l m : List Int} (hk : k = 1 ∨ k = 2) (hn : n < 8) (hf : f.length = 8) (h : PlanT k n f d l m false) : Sp.planM k n f = none := by
  rcases h with ⟨h, _⟩ | ⟨_, _, _, _, h⟩
  · cases h
  · exact h k n rfl hk rfl hn hf
theorem planT_some {k : Int} {n : Nat} {f : List Bool} {d : Int} {l m : List Int} (h : PlanT k n f d l m true) : Sp.planM k.toNat n f ≠ none := by
  rcases h with ⟨_, k1, l1, S, rfl, _, e, _, _, hp, _⟩ | ⟨h, _⟩
  · obtain rfl : n = l1 := by omega
    rw [Int.toNat_natCast, hp]; simp
  · cases h
theorem unav_mem {f : List Bool} {i n : Nat} (hi : i < n) (hf : f.getD i false = false) : ∃ j, (unav f n).getD j 0 = i ∧ j < (unav f n).length := by
  have hm : i ∈ unav f n := by simp only [unav, List.mem_filter, List.mem_range]; exact ⟨hi, by rw [hf]; rfl⟩
  obtain ⟨j, hj, e⟩ := List.mem_iff_getElem.1 hm
  exact ⟨j, by rw [List.getD_eq_getElem?_getD, List.getElem?_eq_getElem hj]; exact e, hj⟩
theorem AllT.one {k : Int} {f : List Bool} {b b' : Bool} {L L' : List PIt} (h : AllT k f b L) (h' : AllT k f b' L') : b = b' ∧ L.length = L'.length ∧ ∀ (j : Nat) (x y : PIt), L[j]? = some x → L'[j]? = some y → x.d = y.d ∧ x.l = y.l ∧ x.m = y.m := by
  rcases h with ⟨rfl, hk, hf, h⟩ | ⟨rfl, rfl, h⟩
  · rcases h' with ⟨rfl, _, _, h'⟩ | ⟨rfl, rfl, h'⟩
    · refine ⟨rfl, by rw [h.1, h'.1], fun j x y hx hy => ?_⟩
      obtain ⟨e1, e2, e3, _⟩ := (h.2 j x hx).one (h'.2 j y hy)
      exact ⟨e1, e2, e3⟩
    · obtain ⟨i, hi, hfi, hp⟩ := h' hk hf
      obtain ⟨j, e, hj⟩ := unav_mem hi hfi
      have hL : j < L.length := by rw [h.1]; exact hj
      have := h.2 j L[j] (List.getElem?_eq_getElem hL)
      rw [e] at this
      exact absurd hp (planT_some this)
  · rcases h' with ⟨rfl, hk, hf, h'⟩ | ⟨rfl, rfl, h'⟩
    · obtain ⟨i, hi, hfi, hp⟩ := h hk hf
      obtain ⟨j, e, hj⟩ := unav_mem hi hfi
      have hL : j < L'.length := by rw [h'.1]; exact hj
      have := h'.2 j L'[j] (List.getElem?_eq_getElem hL)
      rw [e] at this
      exact absurd hp (planT_some this)
    · exact ⟨rfl, rfl, by simp⟩
/-- a call that answers with plans. -/
def NewAll (k : Int) (f : List Bool) (w : World) (e : Ending) (w' : World) : Prop := ∃ b L vv, AllT k f b L ∧ e = .returned (.tuple #[vv, .bool b]) ∧ w.grownBy w' none ∧ PTab w' w.heap.size vv L
end Go.Proofs.Ytbpkfcaokbidnab
