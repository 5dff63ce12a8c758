/-
  The program's way to a plan, plainly: sets of shards as flags, in order, the first that makes the row; it is the model's. It speaks of no program.
  Conditions: none.
-/
import Derived.Test.YtlehcpcejkpbmaaDoorPlanMath
import Derived.Test.YtlehcpcejkpbmaaDoorG3
namespace Go.Proofs.YtlehcpcejkpbmaaDoor.Sp
set_option linter.unusedVariables false

/-- a set of shards as flags. -/
def flag (S : List Nat) : List Bool := (List.range 8).map fun i => decide (i ∈ S)
theorem flag_len (S : List Nat) : (flag S).length = 8 := by simp [flag]
theorem flag_get (S : List Nat) {i : Nat} (h : i < 8) : (flag S).getD i false = decide (i ∈ S) := by simp [flag, List.getD_eq_getElem?_getD, h]
theorem flag_snoc (S : List Nat) {i : Nat} (h : i < 8) : (flag S).set i true = flag (S ++ [i]) := by
  apply List.ext_getElem
  · simp [flag]
  · intro j h1 h2
    simp [flag, List.getElem_set]
    by_cases e : i = j
    · simp [e]
    · have e' : ¬ j = i := fun h => e h.symm
      simp [e, e']
/-- all sets of so many shards more, from a place on, in order. -/
def sets (lost : Nat) (f : List Bool) : Nat → List Nat → Nat → List (List Nat)
  | 0, S, _ => [S]
  | n + 1, S, at_ => (List.range 8).flatMap fun i => if at_ ≤ i ∧ f.getD i false = true ∧ i ≠ lost then sets lost f n (S ++ [i]) (i + 1) else []
/-- the same, as the program has them. -/
def subs (f : List Bool) : Nat → List Bool → Nat → List (List Bool)
  | 0, c, _ => [c]
  | n + 1, c, at_ => (List.range 8).flatMap fun i => if at_ ≤ i ∧ f.getD i false = true then subs f n (c.set i true) (i + 1) else []
theorem subs_len {f : List Bool} : ∀ (n : Nat) (c : List Bool) (at_ : Nat), ∀ x ∈ subs f n c at_, x.length = c.length := by
  intro n
  induction n with
  | zero => intro c at_ x hx; simp [subs] at hx; rw [hx]
  | succ n ih =>
    intro c at_ x hx
    unfold subs at hx
    obtain ⟨i, _, hi⟩ := List.mem_flatMap.1 hx
    split at hi
    · have := ih _ _ x hi; simpa using this
    · simp at hi
theorem off_get {f : List Bool} (hf : f.length = 8) {lost i : Nat} (hi : i < 8) : (f.set lost false).getD i false = true ↔ f.getD i false = true ∧ i ≠ lost := by
  by_cases e : lost = i
  · subst e
    rw [List.getD_eq_getElem?_getD, List.getElem?_set_self (by omega)]
    simp
  · rw [List.getD_eq_getElem?_getD, List.getElem?_set_ne e, ← List.getD_eq_getElem?_getD]
    have e' : i ≠ lost := fun h => e h.symm
    exact ⟨fun h => ⟨h, e'⟩, fun h => h.1⟩
theorem flatMap_congr {α β : Type} {l : List α} {f g : α → List β} (h : ∀ x ∈ l, f x = g x) : l.flatMap f = l.flatMap g := by
  induction l with
  | nil => rfl
  | cons a l ih => simp only [List.flatMap_cons]; rw [h a (by simp), ih fun x hx => h x (by simp [hx])]
theorem subs_flag {lost : Nat} {f : List Bool} (hf : f.length = 8) : ∀ (n : Nat) (S : List Nat) (at_ : Nat), subs (f.set lost false) n (flag S) at_ = (sets lost f n S at_).map flag := by
  intro n
  induction n with
  | zero => intro S at_; rfl
  | succ n ih =>
    intro S at_
    unfold subs sets
    rw [List.map_flatMap]
    refine flatMap_congr fun i hi => ?_
    have hi8 := List.mem_range.1 hi
    rw [apply_ite (List.map flag), flag_snoc S hi8, ih]
    simp only [off_get hf hi8, List.map_nil]
theorem find_flatMap {α β : Type} (p : β → Bool) (g : α → List β) : ∀ l : List α, (l.flatMap g).find? p = l.findSome? fun x => (g x).find? p
  | [] => rfl
  | a :: l => by
    rw [List.flatMap_cons, List.find?_append, List.findSome?_cons, find_flatMap p g l]
    cases (g a).find? p <;> rfl
theorem search_sets {k lost : Nat} {f : List Bool} : ∀ (n : Nat) (S : List Nat) (at_ : Nat), search k lost f n S at_ = (sets lost f n S at_).find? (can k lost) := by
  intro n
  induction n with
  | zero =>
    intro S at_
    unfold search sets
    simp [List.find?_cons]
    cases can k lost S <;> rfl
  | succ n ih =>
    intro S at_
    unfold search sets
    rw [find_flatMap]
    congr 1
    funext i
    split
    · exact ih _ _
    · rfl
theorem sets_up {lost : Nat} {f : List Bool} : ∀ (n : Nat) (S : List Nat) (at_ : Nat), ∀ T ∈ sets lost f n S at_, ∃ E, T = S ++ E ∧ E.length = n ∧ Up lost f at_ E := by
  intro n
  induction n with
  | zero => intro S at_ T hT; simp [sets] at hT; subst hT; exact ⟨[], by simp, rfl, Up.nil _ _ _⟩
  | succ n ih =>
    intro S at_ T hT
    unfold sets at hT
    obtain ⟨i, hi, hx⟩ := List.mem_flatMap.1 hT
    split at hx
    · rename_i hc
      obtain ⟨E, rfl, hl, hu⟩ := ih _ _ T hx
      exact ⟨i :: E, by simp, by simp [hl], hu.cons hc.1 (List.mem_range.1 hi) hc.2.1 hc.2.2⟩
    · simp at hx

/-- the set makes the row. -/
def mk (k lost : Nat) (x : List Bool) : Bool := has (padd k x) (crow k lost)
theorem flag_same {k : Nat} {S : List Nat} (hS : ∀ i ∈ S, i < 8) : Same ((padd k (flag S)).map toV) ((prow k S).map toV) := by
  constructor
  · intro a ha
    obtain ⟨r, hr, rfl⟩ := List.mem_map.1 ha
    obtain ⟨i, hi, rfl⟩ := List.mem_map.1 hr
    rw [flag_get S (List.mem_range.1 hi)]
    by_cases h : i ∈ S
    · simp only [h, decide_true, if_true]
      exact In.mem (List.mem_map.2 ⟨crow k i, List.mem_map.2 ⟨i, h, rfl⟩, rfl⟩)
    · simp only [h, decide_false]
      exact (In.zero _).eq toV_none4
  · intro b hb
    obtain ⟨r, hr, rfl⟩ := List.mem_map.1 hb
    obtain ⟨i, hi, rfl⟩ := List.mem_map.1 hr
    refine In.mem (List.mem_map.2 ⟨_, List.mem_map.2 ⟨i, List.mem_range.2 (hS i hi), rfl⟩, ?_⟩)
    rw [flag_get S (hS i hi)]
    simp [hi]
theorem mk_made {k lost : Nat} (hk : k = 1 ∨ k = 2) (hl : lost < 8) {S : List Nat} (hS : ∀ i ∈ S, i < 8) : mk k lost (flag S) = true ↔ Made (prow k S) (crow k lost) := by
  unfold mk
  rw [has_iff (padd_row hk _) (crow_row hk hl)]
  exact (flag_same hS).iff _
theorem find_congr {α : Type} {p q : α → Bool} {l : List α} (h : ∀ x ∈ l, p x = q x) : l.find? p = l.find? q := by
  induction l with
  | nil => rfl
  | cons a l ih =>
    rw [List.find?_cons, List.find?_cons, h a (by simp), ih fun x hx => h x (by simp [hx])]
/-- so many shards, where fewer make nothing: the program's first is the model's. -/
theorem level {k lost : Nat} (hk : k = 1 ∨ k = 2) (hl : lost < 8) {f : List Bool} (hf : f.length = 8) {n : Nat} (hno : ∀ m, m < n → search k lost f (m + 1) [] 0 = none) :
    (subs (f.set lost false) (n + 1) (flag []) 0).find? (mk k lost) = (search k lost f (n + 1) [] 0).map flag := by
  rw [subs_flag hf, search_sets, List.find?_map]
  refine congrArg (Option.map flag) (find_congr fun S hS => ?_)
  obtain ⟨E, e0, hlen, hu⟩ := sets_up _ _ _ S hS
  rw [List.nil_append] at e0
  subst e0
  rw [Bool.eq_iff_iff, Function.comp_apply, mk_made hk hl hu.lt]
  constructor
  · intro hm
    obtain ⟨S', hs, hc, h1, h4⟩ := some_can hk hl hu.lt hu.len hm
    rcases Nat.lt_or_ge S'.length (n + 1) with hlt | hge
    · have := search_none _ _ _ (hno (S'.length - 1) (by omega)) S' (by omega) (hu.sub hs)
      rw [List.nil_append, hc] at this; cases this
    · have : S' = S := hs.eq_of_length (by have := hs.length_le; omega)
      rw [← this]; exact hc
  · exact can_made hk hl hu.lt

/-- the program's plan, as flags. -/
def planF (k lost : Nat) (f : List Bool) (n : Nat) : Option (List Bool) := (subs (f.set lost false) (n + 1) (flag []) 0).find? (mk k lost)
theorem planF_first {k lost : Nat} (hk : k = 1 ∨ k = 2) (hl : lost < 8) {f : List Bool} (hf : f.length = 8) {n : Nat} (hn : n < 4) (hno : ∀ m, m < n → planF k lost f m = none) {x : List Bool} (hx : planF k lost f n = some x) : ∃ S, planM k lost f = some S ∧ x = flag S := by
  have h : ∀ j, j ≤ n → ∀ m, m < j → search k lost f (m + 1) [] 0 = none := by
    intro j
    induction j with
    | zero => intro _ m hm; omega
    | succ j ih =>
      intro hj m hm
      by_cases e : m = j
      · subst e
        have := hno m (by omega)
        unfold planF at this
        rw [level hk hl hf (ih (by omega))] at this
        simpa using this
      · exact ih (by omega) m (by omega)
  have h0 := h n (Nat.le_refl _)
  unfold planF at hx
  rw [level hk hl hf h0] at hx
  obtain ⟨S, hS, rfl⟩ := Option.map_eq_some_iff.1 hx
  exact ⟨S, findSome_some hn h0 hS, rfl⟩
theorem planF_none {k lost : Nat} (hk : k = 1 ∨ k = 2) (hl : lost < 8) {f : List Bool} (hf : f.length = 8) (hno : ∀ m, m < 4 → planF k lost f m = none) : planM k lost f = none := by
  have h : ∀ j, j ≤ 4 → ∀ m, m < j → search k lost f (m + 1) [] 0 = none := by
    intro j
    induction j with
    | zero => intro _ m hm; omega
    | succ j ih =>
      intro hj m hm
      by_cases e : m = j
      · subst e
        have := hno m (by omega)
        unfold planF at this
        rw [level hk hl hf (ih (by omega))] at this
        simpa using this
      · exact ih (by omega) m (by omega)
  exact findSome_none fun i hi => h 4 (Nat.le_refl _) i hi

theorem range_up (n : Nat) : (List.range n).Pairwise (· < ·) := List.pairwise_lt_range
theorem up_filter {S : List Nat} (hu : S.Pairwise (· < ·)) (h8 : ∀ i ∈ S, i < 8) : (List.range 8).filter (fun i => decide (i ∈ S)) = S :=
  up_ext (List.Pairwise.filter _ (range_up 8)) hu fun i => by
    rw [List.mem_filter, List.mem_range]
    constructor
    · rintro ⟨_, h⟩; simpa using h
    · intro h; exact ⟨h8 i h, by simpa using h⟩
/-- rows of those that are told, or nothing in their place. -/
theorem comb_filter (p : Nat → Bool) (c : Nat → Int) (v : Nat → V) (j : Nat) : ∀ l : List Nat, comb (toV ((l.filter p).map c)) ((l.filter p).map v) j = comb (toV (l.map c)) (l.map fun i => if p i then v i else fun _ => 0) j
  | [] => rfl
  | a :: l => by
    have ih := comb_filter p c v j l
    cases h : p a with
    | true =>
      rw [List.filter_cons_of_pos h, List.map_cons, List.map_cons, List.map_cons, List.map_cons, comb_cons, comb_cons]
      have e1 : (fun n => toV (c a :: (l.filter p).map c) (n + 1)) = toV ((l.filter p).map c) := rfl
      have e2 : (fun n => toV (c a :: l.map c) (n + 1)) = toV (l.map c) := rfl
      rw [e1, e2, ih]
      simp [h]
      rfl
    | false =>
      rw [List.filter_cons_of_neg (by simp [h]), List.map_cons, List.map_cons, comb_cons]
      have e2 : (fun n => toV (c a :: l.map c) (n + 1)) = toV (l.map c) := rfl
      rw [e2, ih]
      simp [h]
      grind
theorem list_range8 {c : List Int} (h : c.length = 8) : (List.range 8).map (fun i => c.getD i 0) = c := by
  apply List.ext_getElem
  · simp [h]
  · intro j h1 h2
    simp [List.getD_eq_getElem?_getD, h2]
/-- what the program takes of each shard, those left out that are taken 0 times. -/
def taken (c : List Int) (n : Nat) : List Nat := (List.range n).filter fun i => c.getD i 0 != 0
theorem taken_succ (c : List Int) (n : Nat) : taken c (n + 1) = if c.getD n 0 = 0 then taken c n else taken c n ++ [n] := by
  unfold taken
  rw [List.range_succ, List.filter_append]
  by_cases h : c.getD n 0 = 0
  · rw [if_pos h, List.filter_cons_of_neg (by rw [h]; simp)]; simp
  · rw [if_neg h, List.filter_cons_of_pos (by simpa using h)]; simp
/-- the numbers of shards. -/
def ints (S : List Nat) : List Int := S.map fun (i : Nat) => (i : Int)
def nums (c : List Int) (S : List Nat) : List Int := S.map fun i => c.getD i 0
theorem taken_plan {k lost : Nat} (hk : k = 1 ∨ k = 2) (hl : lost < 8) {f : List Bool} {S : List Nat} (h : planM k lost f = some S) {c : List Int} (hc : IsBy (padd k (flag S)) (crow k lost) c) : taken c 8 = S ∧ PlanBy k lost S (nums c S) := by
  obtain ⟨h1, h4, hu, hcan, _⟩ := plan_some h
  have hlen : c.length = 8 := by have := hc.row.1; rwa [padd_len] at this
  have hS := up_filter hu.up hu.lt
  have hz : ∀ i, i < 8 → i ∉ S → c.getD i 0 = 0 := by
    intro i hi hn
    refine hc.zero i (by rw [padd_len]; exact hi) fun hf => hn ?_
    have := (padd_first hk hf).2.1
    rw [flag_get S hi] at this
    simpa using this
  have hb : PlanBy k lost S (nums c S) := by
    refine ⟨⟨by simp [nums], fun x hx => ?_⟩, fun j => ?_⟩
    · obtain ⟨i, hi, rfl⟩ := List.mem_map.1 hx
      exact hc.row.get i
    · rw [hc.sum j]
      have e1 : (prow k S).map toV = S.map (fun i => toV (crow k i)) := by unfold prow; rw [List.map_map]; rfl
      have e2 : (padd k (flag S)).map toV = (List.range 8).map (fun i => if decide (i ∈ S) then toV (crow k i) else fun _ => 0) := by
        unfold padd
        rw [List.map_map]
        refine List.map_congr_left fun i hi => ?_
        rw [Function.comp_apply, flag_get S (List.mem_range.1 hi)]
        by_cases hm : i ∈ S
        · simp [hm]
        · simp only [hm, decide_false]
          funext j
          exact toV_none4 j
      have e3 := comb_filter (fun i => decide (i ∈ S)) (fun i => c.getD i 0) (fun i => toV (crow k i)) j (List.range 8)
      rw [hS, list_range8 hlen] at e3
      rw [e1, e2]
      exact e3.symm
  refine ⟨?_, hb⟩
  have hne := plan_by hk hl h hb
  unfold taken
  refine Eq.trans ?_ hS
  refine List.filter_congr fun i hi => ?_
  have hi8 := List.mem_range.1 hi
  by_cases hm : i ∈ S
  · obtain ⟨j, hj, rfl⟩ := List.mem_iff_getElem.1 hm
    have := hne j hj
    unfold nums at this
    simp [List.getD_eq_getElem?_getD, hj] at this
    simp [hm]
    rw [← List.getD_eq_getElem?_getD] at this
    simpa [List.getD_eq_getElem?_getD] using this
  · have := hz i hi8 hm
    simp [hm]
    simpa [List.getD_eq_getElem?_getD] using this
theorem nums_taken (c : List Int) (n : Nat) : nums c (taken c (n + 1)) = if c.getD n 0 = 0 then nums c (taken c n) else nums c (taken c n) ++ [c.getD n 0] := by
  rw [taken_succ]
  split
  · rfl
  · simp [nums]
end Go.Proofs.YtlehcpcejkpbmaaDoor.Sp
