/-
  Plans, plainly: the first of the smallest sets of shards that make a lost one; what such a plan is like. Plain mathematics.
  Conditions: none.
-/
import Derived.Test.YtlehcpcejkpbmaaDoorG3
import Derived.Test.YtlehcpcejkpbmaaDoorG1
namespace Go.Proofs.YtlehcpcejkpbmaaDoor
set_option linter.unusedVariables false
namespace Sp

/-- the rows of shards. -/
def prow (k : Nat) (S : List Nat) : List (List Int) := S.map (crow k)
/-- none is made of those ahead. -/
def free (m : List (List Int)) : Bool := decide ((firsts has m).length = m.length)
/-- these shards make the lost one, each in one way alone. -/
def can (k lost : Nat) (S : List Nat) : Bool := free (prow k S) && has (prow k S) (crow k lost)
/-- the first of so many shards more, from a place on. -/
def search (k lost : Nat) (f : List Bool) : Nat → List Nat → Nat → Option (List Nat)
  | 0, S, _ => if can k lost S then some S else none
  | n + 1, S, at_ => (List.range 8).findSome? fun i => if at_ ≤ i ∧ f.getD i false = true ∧ i ≠ lost then search k lost f n (S ++ [i]) (i + 1) else none
/-- the plan: of fewest shards, and of these the first. -/
def planM (k lost : Nat) (f : List Bool) : Option (List Nat) := (List.range 4).findSome? fun n => search k lost f (n + 1) [] 0

theorem findSome_none {g : Nat → Option (List Nat)} {n : Nat} (h : ∀ i, i < n → g i = none) : (List.range n).findSome? g = none := by
  rw [List.findSome?_eq_none_iff]
  intro i hi; exact h i (List.mem_range.1 hi)
theorem findSome_some {g : Nat → Option (List Nat)} {n i : Nat} {r : List Nat} (hi : i < n) (h : ∀ j, j < i → g j = none) (hr : g i = some r) : (List.range n).findSome? g = some r := by
  have e : List.range n = List.range i ++ (i :: (List.range (n - i - 1)).map (fun x => i + 1 + x)) := by
    have h1 : n = i + (1 + (n - i - 1)) := by omega
    conv => lhs; rw [h1, List.range_add, List.range_add]
    simp [List.range_succ, List.map_map, Function.comp_def, Nat.add_assoc]
  rw [e, List.findSome?_append, findSome_none h]
  simp [hr]
theorem findSome_get {g : Nat → Option (List Nat)} {n : Nat} {r : List Nat} (h : (List.range n).findSome? g = some r) : ∃ i, i < n ∧ g i = some r ∧ ∀ j, j < i → g j = none := by
  induction n with
  | zero => simp at h
  | succ n ih =>
    rw [List.range_succ, List.findSome?_append] at h
    cases hq : (List.range n).findSome? g with
    | some r' =>
      rw [hq] at h
      simp at h
      subst h
      obtain ⟨i, h1, h2, h3⟩ := ih hq
      exact ⟨i, by omega, h2, h3⟩
    | none =>
      rw [hq] at h
      have h' : g n = some r := by simpa using h
      exact ⟨n, by omega, h', fun j hj => (List.findSome?_eq_none_iff.1 hq) j (List.mem_range.2 hj)⟩
theorem findSome_out {g : Nat → Option (List Nat)} {n : Nat} (h : (List.range n).findSome? g = none) : ∀ i, i < n → g i = none :=
  fun i hi => (List.findSome?_eq_none_iff.1 h) i (List.mem_range.2 hi)

/-- shards that are there, ascending from a place on, the lost one not among them. -/
structure Up (lost : Nat) (f : List Bool) (at_ : Nat) (E : List Nat) : Prop where
  up : E.Pairwise (· < ·)
  le : ∀ i ∈ E, at_ ≤ i
  lt : ∀ i ∈ E, i < 8
  there : ∀ i ∈ E, f.getD i false = true
  other : ∀ i ∈ E, i ≠ lost
theorem Up.nil (lost : Nat) (f : List Bool) (at_ : Nat) : Up lost f at_ [] := ⟨List.Pairwise.nil, by simp, by simp, by simp, by simp⟩
theorem Up.cons {lost : Nat} {f : List Bool} {at_ i : Nat} {E : List Nat} (h : Up lost f (i + 1) E) (h1 : at_ ≤ i) (h2 : i < 8) (h3 : f.getD i false = true) (h4 : i ≠ lost) : Up lost f at_ (i :: E) := by
  refine ⟨List.pairwise_cons.2 ⟨fun j hj => by have := h.le j hj; omega, h.up⟩, ?_, ?_, ?_, ?_⟩ <;> intro j hj <;> rcases List.mem_cons.1 hj with rfl | hj
  · exact h1
  · have := h.le j hj; omega
  · exact h2
  · exact h.lt j hj
  · exact h3
  · exact h.there j hj
  · exact h4
  · exact h.other j hj
theorem Up.tail {lost : Nat} {f : List Bool} {at_ i : Nat} {E : List Nat} (h : Up lost f at_ (i :: E)) : Up lost f (i + 1) E ∧ at_ ≤ i ∧ i < 8 ∧ f.getD i false = true ∧ i ≠ lost := by
  have hp := List.pairwise_cons.1 h.up
  exact ⟨⟨hp.2, fun j hj => hp.1 j hj, fun j hj => h.lt j (by simp [hj]), fun j hj => h.there j (by simp [hj]), fun j hj => h.other j (by simp [hj])⟩, h.le i (by simp), h.lt i (by simp), h.there i (by simp), h.other i (by simp)⟩
theorem Up.sub {lost : Nat} {f : List Bool} {at_ : Nat} {E E' : List Nat} (h : Up lost f at_ E) (hs : E'.Sublist E) : Up lost f at_ E' :=
  ⟨h.up.sublist hs, fun i hi => h.le i (hs.subset hi), fun i hi => h.lt i (hs.subset hi), fun i hi => h.there i (hs.subset hi), fun i hi => h.other i (hs.subset hi)⟩
theorem Up.len {lost : Nat} {f : List Bool} {at_ : Nat} {E : List Nat} (h : Up lost f at_ E) : E.length ≤ 8 := up_len h.up h.lt
theorem Up.more {lost : Nat} {f f' : List Bool} {at_ : Nat} {E : List Nat} (h : Up lost f at_ E) (hf : ∀ i, i < 8 → i ≠ lost → f.getD i false = true → f'.getD i false = true) : Up lost f' at_ E :=
  ⟨h.up, h.le, h.lt, fun i hi => hf i (h.lt i hi) (h.other i hi) (h.there i hi), h.other⟩

theorem search_some {k lost : Nat} {f : List Bool} : ∀ (n : Nat) (S : List Nat) (at_ : Nat) (r : List Nat), search k lost f n S at_ = some r → ∃ E, r = S ++ E ∧ E.length = n ∧ Up lost f at_ E ∧ can k lost r = true := by
  intro n
  induction n with
  | zero =>
    intro S at_ r h
    unfold search at h
    split at h
    · rename_i hc
      injection h with h
      subst h
      exact ⟨[], by simp, rfl, Up.nil _ _ _, hc⟩
    · cases h
  | succ n ih =>
    intro S at_ r h
    unfold search at h
    obtain ⟨i, hi, hg, _⟩ := findSome_get h
    split at hg
    · rename_i hc
      obtain ⟨E, rfl, hl, hu, hcan⟩ := ih _ _ _ hg
      exact ⟨i :: E, by simp, by simp [hl], hu.cons hc.1 hi hc.2.1 hc.2.2, hcan⟩
    · cases hg
theorem search_none {k lost : Nat} {f : List Bool} : ∀ (n : Nat) (S : List Nat) (at_ : Nat), search k lost f n S at_ = none → ∀ E, E.length = n → Up lost f at_ E → can k lost (S ++ E) = false := by
  intro n
  induction n with
  | zero =>
    intro S at_ h E hl _
    have : E = [] := List.eq_nil_of_length_eq_zero hl
    subst this
    unfold search at h
    split at h
    · cases h
    · rename_i hc; simpa using hc
  | succ n ih =>
    intro S at_ h E hl hu
    cases E with
    | nil => simp at hl
    | cons i E =>
      obtain ⟨ht, h1, h2, h3, h4⟩ := hu.tail
      unfold search at h
      have hg := findSome_out h i h2
      rw [if_pos ⟨h1, h3, h4⟩] at hg
      have := ih _ _ hg E (by simpa using hl) ht
      simpa using this

theorem prow_row {k : Nat} (hk : k = 1 ∨ k = 2) {S : List Nat} (h : ∀ i ∈ S, i < 8) : ∀ r ∈ prow k S, Row 4 r := by
  intro r hr
  obtain ⟨i, hi, rfl⟩ := List.mem_map.1 hr
  exact crow_row hk (h i hi)
theorem prow_ok {k : Nat} (hk : k = 1 ∨ k = 2) {S : List Nat} (h : ∀ i ∈ S, i < 8) (h8 : S.length ≤ 8) : okM (prow k S) = true := by
  refine okM_yes (by unfold prow; rw [List.length_map]; exact h8) fun i hi => ?_
  have e : (prow k S).getD i [] = (prow k S)[i] := by simp [List.getD_eq_getElem?_getD, hi]
  rw [e]
  exact row_ok.2 (prow_row hk h _ (List.getElem_mem hi))
theorem prow_len (k : Nat) (S : List Nat) : (prow k S).length = S.length := by simp [prow]

/-- the first rows of shards are rows of some of them. -/
theorem sel_prow (k : Nat) (T : List Nat) : sel (prow k T) (firsts has (prow k T)) = prow k ((firsts has (prow k T)).map fun j => T.getD j 0) := by
  unfold sel prow
  rw [List.map_map]
  refine List.map_congr_left fun j hj => ?_
  have hl : j < T.length := by have := first_lt j hj; simpa using this
  simp [List.getD_eq_getElem?_getD, hl]
theorem pick_sublist {T : List Nat} : ∀ {F : List Nat}, F.Pairwise (· < ·) → (∀ j ∈ F, j < T.length) → (F.map fun j => T.getD j 0).Sublist T := by
  intro F
  have key : ∀ (T F : List Nat), F.Pairwise (· < ·) → (∀ j ∈ F, j < T.length) → (F.map fun j => T.getD j 0).Sublist T := by
    intro T
    induction T with
    | nil =>
      intro F _ h
      cases F with
      | nil => simp
      | cons x F => have := h x (by simp); simp at this
    | cons t T ih =>
      intro F hp h
      have shift : ∀ G : List Nat, (∀ j ∈ G, 0 < j) → G.Pairwise (· < ·) → (∀ j ∈ G, j < (t :: T).length) → (G.map fun j => (t :: T).getD j 0).Sublist T := by
        intro G h0 hp h
        have e : (G.map fun j => (t :: T).getD j 0) = (G.map (· - 1)).map fun j => T.getD j 0 := by
          rw [List.map_map]
          refine List.map_congr_left fun j hj => ?_
          obtain ⟨j', rfl⟩ : ∃ j', j = j' + 1 := ⟨j - 1, by have := h0 j hj; omega⟩
          rfl
        rw [e]
        refine ih _ ?_ ?_
        · rw [List.pairwise_map]
          exact hp.imp_of_mem fun ha hb hab => by have := h0 _ ha; omega
        · intro j hj
          obtain ⟨i, hi, rfl⟩ := List.mem_map.1 hj
          have := h i hi; have := h0 i hi
          simp at *; omega
      cases F with
      | nil => simp
      | cons x F =>
        have hp' := List.pairwise_cons.1 hp
        by_cases hx : x = 0
        · subst hx
          have := shift F (fun j hj => hp'.1 j hj) hp'.2 (fun j hj => h j (by simp [hj]))
          simpa using this.cons_cons t
        · exact (shift (x :: F) (fun j hj => by
            rcases List.mem_cons.1 hj with rfl | hj
            · omega
            · have := hp'.1 j hj; omega) hp h).cons t
  exact key T F
theorem firsts_four {k : Nat} (hk : k = 1 ∨ k = 2) {S : List Nat} (h : ∀ i ∈ S, i < 8) : (firsts has (prow k S)).length ≤ 4 := by
  have hr := prow_row hk h
  rw [← ltidy_firsts (fun m v hm hv => has_iff hm hv) _ rfl hr]
  obtain ⟨L, hi, _⟩ := ltidy_is hr
  exact hi.len_le
theorem crow_some {k : Nat} (hk : k = 1 ∨ k = 2) : ∀ {n : Nat}, n < 8 → ∃ j, toV (crow k n) j ≠ 0 := by
  have h1 : ∀ n : Nat, n < 8 → toV (crow 1 n) 0 ≠ 0 ∨ toV (crow 1 n) 1 ≠ 0 ∨ toV (crow 1 n) 2 ≠ 0 ∨ toV (crow 1 n) 3 ≠ 0 := by decide +kernel
  have h2 : ∀ n : Nat, n < 8 → toV (crow 2 n) 0 ≠ 0 ∨ toV (crow 2 n) 1 ≠ 0 ∨ toV (crow 2 n) 2 ≠ 0 ∨ toV (crow 2 n) 3 ≠ 0 := by decide +kernel
  intro n hn
  rcases hk with rfl | rfl
  · rcases h1 n hn with h | h | h | h <;> exact ⟨_, h⟩
  · rcases h2 n hn with h | h | h | h <;> exact ⟨_, h⟩

/-- of shards that make the lost one, some make it, each in one way alone: four at most. -/
theorem some_can {k lost : Nat} (hk : k = 1 ∨ k = 2) (hl : lost < 8) {T : List Nat} (hT : ∀ i ∈ T, i < 8) (h8 : T.length ≤ 8) (h : Made (prow k T) (crow k lost)) :
    ∃ S, S.Sublist T ∧ can k lost S = true ∧ 1 ≤ S.length ∧ S.length ≤ 4 := by
  have hok := prow_ok hk hT h8
  refine ⟨(firsts has (prow k T)).map fun j => T.getD j 0, pick_sublist (firsts_up _) (fun j hj => by have := first_lt j hj; rwa [prow_len] at this), ?_, ?_, ?_⟩
  · have e := sel_prow k T
    unfold can
    rw [← e]
    rw [Bool.and_eq_true]
    constructor
    · unfold free
      rw [decide_eq_true_eq]
      have h1 : ∀ i, i < (sel (prow k T) (firsts has (prow k T))).length → i ∈ firsts has (sel (prow k T) (firsts has (prow k T))) := fun i hi => sel_first hok hi
      have h2 : firsts has (sel (prow k T) (firsts has (prow k T))) = List.range (sel (prow k T) (firsts has (prow k T))).length := by
        unfold firsts
        rw [List.filter_eq_self]
        intro i hi
        have := h1 i (List.mem_range.1 hi)
        unfold firsts at this
        exact (List.mem_filter.1 this).2
      rw [h2, List.length_range]
    · refine (has_iff (okM_all (sel_ok hok)) (crow_row hk hl)).2 ?_
      exact ((sel_same hok).iff _).2 h
  · rw [List.length_map]
    rcases Nat.eq_zero_or_pos (firsts has (prow k T)).length with h0 | h0
    · exfalso
      have hz : firsts has (prow k T) = [] := List.eq_nil_of_length_eq_zero h0
      have hm : In ((sel (prow k T) (firsts has (prow k T))).map toV) (toV (crow k lost)) := ((sel_same hok).iff _).2 h
      rw [hz] at hm
      obtain ⟨c, hc⟩ := hm
      obtain ⟨j, hj⟩ := crow_some hk hl
      exact hj (hc j)
    · exact h0
  · rw [List.length_map]; exact firsts_four hk hT

theorem can_made {k lost : Nat} (hk : k = 1 ∨ k = 2) (hl : lost < 8) {S : List Nat} (hS : ∀ i ∈ S, i < 8) (h : can k lost S = true) : Made (prow k S) (crow k lost) := by
  unfold can at h
  rw [Bool.and_eq_true] at h
  exact (has_iff (prow_row hk hS) (crow_row hk hl)).1 h.2

/-- a plan: what there is of it. -/
theorem plan_some {k lost : Nat} {f : List Bool} {S : List Nat} (h : planM k lost f = some S) : 1 ≤ S.length ∧ S.length ≤ 4 ∧ Up lost f 0 S ∧ can k lost S = true ∧ ∀ E, Up lost f 0 E → 1 ≤ E.length → E.length < S.length → can k lost E = false := by
  unfold planM at h
  obtain ⟨n, hn, hg, hno⟩ := findSome_get h
  obtain ⟨E, rfl, hl, hu, hc⟩ := search_some _ _ _ _ hg
  refine ⟨by omega, by omega, hu, hc, fun E' hu' h1 h2 => ?_⟩
  have := search_none _ _ _ (hno (E'.length - 1) (by omega)) E' (by omega) hu'
  simpa using this
theorem plan_none {k lost : Nat} {f : List Bool} (h : planM k lost f = none) : ∀ E, Up lost f 0 E → 1 ≤ E.length → E.length ≤ 4 → can k lost E = false := by
  intro E hu h1 h4
  unfold planM at h
  have := search_none _ _ _ (findSome_out h (E.length - 1) (by omega)) E (by omega) hu
  simpa using this

/-- shards that are there, but for the lost one. -/
def others (lost : Nat) (f : List Bool) : List Nat := (List.range 8).filter fun i => f.getD i false && i != lost
theorem others_up (lost : Nat) (f : List Bool) : Up lost f 0 (others lost f) := by
  have hm : ∀ i ∈ others lost f, i < 8 ∧ f.getD i false = true ∧ i ≠ lost := by
    intro i hi
    obtain ⟨h1, h2⟩ := List.mem_filter.1 hi
    simp only [Bool.and_eq_true, bne_iff_ne] at h2
    exact ⟨List.mem_range.1 h1, h2.1, h2.2⟩
  exact ⟨List.Pairwise.filter _ List.pairwise_lt_range, fun i _ => Nat.zero_le _, fun i hi => (hm i hi).1, fun i hi => (hm i hi).2.1, fun i hi => (hm i hi).2.2⟩
theorem Up.others {lost : Nat} {f : List Bool} {E : List Nat} (h : Up lost f 0 E) : ∀ i ∈ E, i ∈ Sp.others lost f := by
  intro i hi
  refine List.mem_filter.2 ⟨List.mem_range.2 (h.lt i hi), ?_⟩
  rw [h.there i hi]
  simp [h.other i hi]
/-- there is a plan, if and only if the row is made of the others. -/
theorem plan_iff {k lost : Nat} (hk : k = 1 ∨ k = 2) (hl : lost < 8) (f : List Bool) : (planM k lost f).isSome = has (prow k (others lost f)) (crow k lost) := by
  have hu := others_up lost f
  have hi := has_iff (prow_row hk hu.lt) (crow_row hk hl)
  cases hp : planM k lost f with
  | some S =>
    obtain ⟨h1, h2, hus, hc, _⟩ := plan_some hp
    have hm := can_made hk hl hus.lt hc
    refine (hi.2 (hm.mono fun a ha => ?_)).symm
    obtain ⟨r, hr, rfl⟩ := List.mem_map.1 ha
    obtain ⟨i, hi', rfl⟩ := List.mem_map.1 hr
    exact List.mem_map.2 ⟨_, List.mem_map.2 ⟨i, hus.others i hi', rfl⟩, rfl⟩
  | none =>
    cases hh : has (prow k (others lost f)) (crow k lost) with
    | false => rfl
    | true =>
      obtain ⟨S, hs, hc, h1, h4⟩ := some_can hk hl hu.lt hu.len (hi.1 hh)
      have := plan_none hp S (hu.sub hs) h1 h4
      rw [hc] at this; cases this
/-- of fewer shards there is no plan. -/
theorem plan_least {k lost : Nat} (hk : k = 1 ∨ k = 2) (hl : lost < 8) {f : List Bool} {S : List Nat} (h : planM k lost f = some S) {E : List Nat} (hu : Up lost f 0 E) (hE : E.length < S.length) : ¬ Made (prow k E) (crow k lost) := by
  intro hm
  obtain ⟨S', hs, hc, h1, _⟩ := some_can hk hl hu.lt hu.len hm
  obtain ⟨_, _, _, _, hno⟩ := plan_some h
  have := hno S' (hu.sub hs) h1 (by have := hs.length_le; omega)
  rw [hc] at this; cases this
/-- with more there, a plan is no longer. -/
theorem plan_more {k lost : Nat} (hk : k = 1 ∨ k = 2) (hl : lost < 8) {f f' : List Bool} (hf : ∀ i, i < 8 → i ≠ lost → f.getD i false = true → f'.getD i false = true) {S : List Nat} (h : planM k lost f = some S) : ∃ S', planM k lost f' = some S' ∧ S'.length ≤ S.length := by
  obtain ⟨h1, h4, hu, hc, _⟩ := plan_some h
  cases h' : planM k lost f' with
  | none =>
    have := plan_none h' S (hu.more hf) h1 h4
    rw [hc] at this; cases this
  | some S' =>
    refine ⟨S', rfl, ?_⟩
    rcases Nat.lt_or_ge S.length S'.length with hlt | hge
    · have := (plan_some h').2.2.2.2 S (hu.more hf) h1 hlt
      rw [hc] at this; cases this
    · exact hge
/-- whether the lost shard is there does not matter. -/
theorem search_own {k lost : Nat} {f f' : List Bool} (hf : ∀ i, i < 8 → i ≠ lost → f.getD i false = f'.getD i false) : ∀ (n : Nat) (S : List Nat) (at_ : Nat), search k lost f n S at_ = search k lost f' n S at_ := by
  intro n
  induction n with
  | zero => intro S at_; rfl
  | succ n ih =>
    intro S at_
    have e : ∀ i, i < 8 → (if at_ ≤ i ∧ f.getD i false = true ∧ i ≠ lost then search k lost f n (S ++ [i]) (i + 1) else none) = (if at_ ≤ i ∧ f'.getD i false = true ∧ i ≠ lost then search k lost f' n (S ++ [i]) (i + 1) else none) := by
      intro i hi
      by_cases hl : i = lost
      · simp [hl]
      · rw [hf i hi hl, ih]
    show (List.range 8).findSome? _ = (List.range 8).findSome? _
    cases hq : (List.range 8).findSome? (fun i => if at_ ≤ i ∧ f.getD i false = true ∧ i ≠ lost then search k lost f n (S ++ [i]) (i + 1) else none) with
    | none => exact (findSome_none fun i hi => by rw [← e i hi]; exact findSome_out hq i hi).symm
    | some r =>
      obtain ⟨i, hi, hg, hno⟩ := findSome_get hq
      exact (findSome_some hi (fun j hj => by rw [← e j (by omega)]; exact hno j hj) (by rw [← e i hi]; exact hg)).symm
theorem plan_own {k lost : Nat} {f f' : List Bool} (hf : ∀ i, i < 8 → i ≠ lost → f.getD i false = f'.getD i false) : planM k lost f = planM k lost f' := by
  unfold planM
  simp only [search_own hf]

/-- the numbers of a plan. -/
def PlanBy (k lost : Nat) (S : List Nat) (c : List Int) : Prop := Row S.length c ∧ ∀ j, toV (crow k lost) j = comb (toV c) ((prow k S).map toV) j
theorem PlanBy.isBy {k lost : Nat} {S : List Nat} {c : List Int} (h : PlanBy k lost S c) (hf : free (prow k S) = true) : IsBy (prow k S) (crow k lost) c := by
  refine ⟨by rw [prow_len]; exact h.1, fun i hi hn => absurd ?_ hn, h.2⟩
  unfold free at hf
  rw [decide_eq_true_eq] at hf
  have e : firsts has (prow k S) = List.range (prow k S).length := by
    unfold firsts at hf ⊢
    exact List.Sublist.eq_of_length List.filter_sublist (by rw [hf, List.length_range])
  rw [e]; exact List.mem_range.2 hi
theorem PlanBy.one {k lost : Nat} (hk : k = 1 ∨ k = 2) {S : List Nat} (hS : ∀ i ∈ S, i < 8) {c d : List Int} (hc : PlanBy k lost S c) (hd : PlanBy k lost S d) (hf : free (prow k S) = true) : c = d :=
  (hc.isBy hf).one (prow_row hk hS) (hd.isBy hf)
theorem can_by {k lost : Nat} (hk : k = 1 ∨ k = 2) (hl : lost < 8) {S : List Nat} (hS : ∀ i ∈ S, i < 8) {b : Bool} {c : List Int} (hf : free (prow k S) = true) (h : Answers (prow k S) (crow k lost) b c) : b = can k lost S ∧ (b = true → PlanBy k lost S c) := by
  unfold can
  rw [hf, Bool.true_and]
  have hi := has_iff (prow_row hk hS) (crow_row hk hl)
  rcases h with ⟨rfl, hm, hr, hc⟩ | ⟨rfl, hm, _⟩
  · exact ⟨(hi.2 hm).symm, fun _ => ⟨by rw [← prow_len k S]; exact hr, hc⟩⟩
  · refine ⟨?_, fun h => by cases h⟩
    cases hh : has (prow k S) (crow k lost) with
    | false => rfl
    | true => exact absurd (hi.1 hh) hm

theorem in_erase (A : List V) : ∀ (i : Nat) (c : Nat → F), c i = 0 → In (A.eraseIdx i) (fun j => comb c A j) := by
  induction A with
  | nil => intro i c _; exact ⟨c, fun j => rfl⟩
  | cons a A ih =>
    intro i c hc
    cases i with
    | zero =>
      refine ⟨fun n => c (n + 1), fun j => ?_⟩
      show comb c (a :: A) j = comb (fun n => c (n + 1)) A j
      rw [comb_cons, hc]; grind
    | succ i =>
      obtain ⟨d, hd⟩ := ih i (fun n => c (n + 1)) hc
      refine ⟨fun n => match n with | 0 => c 0 | n + 1 => d n, fun j => ?_⟩
      show comb c (a :: A) j = comb (fun n => match n with | 0 => c 0 | n + 1 => d n) (a :: A.eraseIdx i) j
      rw [comb_cons, comb_cons]
      have := hd j
      simp only at this ⊢
      rw [this]
theorem erase_map {α β : Type} (g : α → β) : ∀ (l : List α) (i : Nat), (l.map g).eraseIdx i = (l.eraseIdx i).map g
  | [], _ => rfl
  | _ :: _, 0 => rfl
  | a :: l, i + 1 => by simp only [List.map_cons, List.eraseIdx_cons_succ]; rw [erase_map g l i]
/-- each shard of a plan is taken: no number of it is 0. -/
theorem plan_by {k lost : Nat} (hk : k = 1 ∨ k = 2) (hl : lost < 8) {f : List Bool} {S : List Nat} (h : planM k lost f = some S) {c : List Int} (hc : PlanBy k lost S c) : ∀ i, i < S.length → c.getD i 0 ≠ 0 := by
  intro i hi h0
  obtain ⟨h1, h4, hu, hcan, _⟩ := plan_some h
  have hz : toV c i = 0 := by unfold toV; rw [h0]; rfl
  have hin := in_erase ((prow k S).map toV) i (toV c) hz
  have hm : Made (prow k (S.eraseIdx i)) (crow k lost) := by
    have e : ((prow k S).map toV).eraseIdx i = (prow k (S.eraseIdx i)).map toV := by unfold prow; rw [erase_map, erase_map]
    rw [e] at hin
    exact hin.eq hc.2
  exact plan_least hk hl h (hu.sub (List.eraseIdx_sublist _ _)) (by rw [List.length_eraseIdx_of_lt hi]; omega) hm
end Sp
end Go.Proofs.YtlehcpcejkpbmaaDoor
