/-
  Pivot rows (those not made of the rows ahead): the same is made of them alone, each row in one way, and there are as many as tidy rows. It speaks of no program.
  Conditions: none.
-/
import Derived.Test.YtbpkfcaokbidnabSpanTidy
namespace Go.Proofs.Ytbpkfcaokbidnab.Sp
set_option linter.unusedVariables false

/-- the rows that are told. -/
def pick (b : Nat → Bool) : List V → List V
  | [] => []
  | a :: A => if b 0 then a :: pick (fun i => b (i + 1)) A else pick (fun i => b (i + 1)) A
theorem mem_pick {A : List V} : ∀ {b : Nat → Bool} {i : Nat} (h : i < A.length), b i = true → A[i] ∈ pick b A := by
  induction A with
  | nil => intro b i h; simp at h
  | cons a A ih =>
    intro b i h hb
    unfold pick
    cases i with
    | zero => simp [hb]
    | succ i =>
      have := ih (b := fun i => b (i + 1)) (i := i) (by simpa using h) hb
      split
      · simp [this]
      · simpa using this
theorem pick_mem {A : List V} : ∀ {b : Nat → Bool} {v : V}, v ∈ pick b A → v ∈ A := by
  induction A with
  | nil => intro b v h; simp [pick] at h
  | cons a A ih =>
    intro b v h
    unfold pick at h
    split at h
    · rcases List.mem_cons.1 h with rfl | h
      · simp
      · exact List.mem_cons_of_mem _ (ih h)
    · exact List.mem_cons_of_mem _ (ih h)
/-- of rows that are not made of those ahead the same is made as of all. -/
theorem pick_same {A : List V} {b : Nat → Bool} (h : ∀ i (hi : i < A.length), b i = false → In (A.take i) A[i]) : Same (pick b A) A := by
  refine ⟨fun a ha => In.mem (pick_mem ha), fun a ha => ?_⟩
  have key : ∀ k, k ≤ A.length → ∀ v ∈ A.take k, In (pick b A) v := by
    intro k
    induction k with
    | zero => intro _ v hv; simp at hv
    | succ k ih =>
      intro hk v hv
      rw [List.take_succ_eq_append_getElem (by omega)] at hv
      rcases List.mem_append.1 hv with hv | hv
      · exact ih (by omega) v hv
      · simp only [List.mem_singleton] at hv
        subst hv
        cases hb : b k with
        | true => exact In.mem (mem_pick (by omega) hb)
        | false => exact (h k (by omega) hb).trans (ih (by omega))
  exact key A.length (Nat.le_refl _) a (by simpa using ha)

/-- ONE ALONE: of rows that are not made of those ahead each is taken as often as told, and not otherwise. -/
theorem comb_one_way {A : List V} {b : Nat → Bool} (h : ∀ i (hi : i < A.length), b i = true → ¬ In (A.take i) A[i]) {e : Nat → F}
    (hz : ∀ i, i < A.length → b i = false → e i = 0) (h0 : ∀ j, comb e A j = 0) : ∀ i, i < A.length → e i = 0 := by
  have key : ∀ t, ∀ i, A.length ≤ i + t → i < A.length → e i = 0 := by
    intro t
    induction t with
    | zero => intro i h1 h2; omega
    | succ t ih =>
      intro i h1 h2
      cases hb : b i with
      | false => exact hz i h2 hb
      | true =>
        refine Classical.byContradiction fun hne => h i h2 hb ?_
        have hs : ∀ j, comb e A j = comb e (A.take i) j + e i * A[i] j := by
          intro j
          conv => lhs; rw [← List.take_append_drop i A]
          rw [comb_append, List.drop_eq_getElem_cons h2, comb_cons]
          have hl : (A.take i).length = i := by rw [List.length_take]; omega
          rw [hl, comb_congr _ j (fun k => (fun k => e (k + i)) (k + 1)) (fun _ => 0), comb_zero]
          · simp only [Nat.zero_add]; grind
          · intro k hk
            have hk' : k < A.length - (i + 1) := by simpa using hk
            exact ih (k + 1 + i) (by omega) (by omega)
        have hinv : ∃ c : F, e i * c = 1 := by
          have : ∀ a : F, a ≠ 0 → ∃ c : F, a * c = 1 := by decide
          exact this _ hne
        obtain ⟨c, hc⟩ := hinv
        refine ⟨fun k => (-c) * e k, fun j => ?_⟩
        rw [comb_mul]
        have h1 := hs j
        rw [h0 j] at h1
        grind
  intro i hi
  exact key A.length i (by omega) hi
theorem comb_way {A : List V} {b : Nat → Bool} (h : ∀ i (hi : i < A.length), b i = true → ¬ In (A.take i) A[i]) {c d : Nat → F}
    (hc : ∀ i, i < A.length → b i = false → c i = 0) (hd : ∀ i, i < A.length → b i = false → d i = 0) (he : ∀ j, comb c A j = comb d A j) : ∀ i, i < A.length → c i = d i := by
  intro i hi
  have h0 := comb_one_way h (e := fun k => c k + (-1) * d k) (fun k hk hb => by rw [hc k hk hb, hd k hk hb]; grind) (fun j => by
    rw [comb_add, comb_mul, he]; grind) i hi
  grind

/-- tidy rows of n numbers are at most n. -/
theorem up_len : ∀ {l : List Nat} {n : Nat}, l.Pairwise (· < ·) → (∀ x ∈ l, x < n) → l.length ≤ n := by
  intro l
  have key : ∀ (l : List Nat) (lo n : Nat), l.Pairwise (· < ·) → (∀ x ∈ l, lo ≤ x ∧ x < n) → l.length ≤ n - lo := by
    intro l
    induction l with
    | nil => intro lo n _ _; simp
    | cons x l ih =>
      intro lo n h hx
      have h' := List.pairwise_cons.1 h
      have := ih (x + 1) n h'.2 (fun y hy => ⟨h'.1 y hy, (hx y (by simp [hy])).2⟩)
      have := hx x (by simp)
      simp only [List.length_cons]; omega
  intro n h hx
  have := key l 0 n h (fun x hxl => ⟨Nat.zero_le _, hx x hxl⟩)
  omega
theorem Is.len_le {n : Nat} {T : List (List Int)} {L : List (Nat × V)} (h : Is n T L) : T.length ≤ n := by
  have hl : ∀ p ∈ L.map Prod.fst, p < n := by
    intro p hp
    obtain ⟨x, hx, rfl⟩ := List.mem_map.1 hp
    have hm : x.2 ∈ T.map toV := by rw [h.same]; exact List.mem_map.2 ⟨x, hx, rfl⟩
    obtain ⟨r, hr, e⟩ := List.mem_map.1 hm
    rcases Nat.lt_or_ge x.1 n with h1 | h1
    · exact h1
    · have h2 := toV_out (h.row r hr) h1
      rw [e, h.tidy.one x hx] at h2
      exact absurd h2 (by decide)
  have := up_len (List.pairwise_map.2 h.tidy.up) hl
  rw [h.length]; simpa using this

theorem ltidy_snoc (m : List (List Int)) (v : List Int) : ltidy (m ++ [v]) = ladd1 (ltidy m) v := by simp [ltidy]
/-- a row more is a tidy row more, unless it is made of the others. -/
theorem ltidy_more {n : Nat} {m : List (List Int)} {v : List Int} (hm : ∀ r ∈ m, Row n r) (hv : Row n v) :
    (Made m v ∧ (ltidy (m ++ [v])).length = (ltidy m).length) ∨ (¬ Made m v ∧ (ltidy (m ++ [v])).length = (ltidy m).length + 1) := by
  rw [ltidy_snoc]
  obtain ⟨L, h, s⟩ := ltidy_is hm
  have hs : Made m v ↔ In (rows L) (toV v) := (s.iff (toV v)).symm
  rcases ladd1_is h hv with ⟨hin, he⟩ | ⟨hno, L', h', hlen, _⟩
  · exact .inl ⟨hs.2 hin, by rw [he]⟩
  · exact .inr ⟨fun k => hno (hs.1 k), by rw [h'.length, h.length, hlen]⟩
/-- the places of pivot rows. -/
def firsts (has : List (List Int) → List Int → Bool) (m : List (List Int)) : List Nat := (List.range m.length).filter fun i => !has (m.take i) (m.getD i [])
theorem firsts_snoc (has : List (List Int) → List Int → Bool) (m : List (List Int)) (v : List Int) : firsts has (m ++ [v]) = firsts has m ++ (if has m v then [] else [m.length]) := by
  unfold firsts
  rw [List.length_append, List.length_singleton, List.range_succ, List.filter_append]
  congr 1
  · refine List.filter_congr fun i hi => ?_
    have hi' : i < m.length := by simpa using hi
    rw [List.take_append_of_le_length (by omega), List.getD_eq_getElem?_getD, List.getElem?_append_left hi', ← List.getD_eq_getElem?_getD]
  · simp only [List.filter_cons, List.filter_nil, List.take_left', List.getD_eq_getElem?_getD]
    simp
    cases has m v <;> simp
theorem ltidy_firsts {n : Nat} {has : List (List Int) → List Int → Bool} (hh : ∀ m v, (∀ r ∈ m, Row n r) → Row n v → (has m v = true ↔ Made m v)) :
    ∀ (k : Nat) {m : List (List Int)}, m.length = k → (∀ r ∈ m, Row n r) → (ltidy m).length = (firsts has m).length := by
  intro k
  induction k with
  | zero => intro m h _; have : m = [] := List.eq_nil_of_length_eq_zero h; subst this; rfl
  | succ k ih =>
    intro m h hm
    have hne : m ≠ [] := by intro e; rw [e] at h; simp at h
    have e := List.dropLast_concat_getLast hne
    generalize hv : m.getLast hne = v at e
    generalize hq : m.dropLast = q at e
    subst e
    have hq1 : ∀ r ∈ q, Row n r := fun r hr => hm r (by simp [hr])
    have hv1 : Row n v := hm v (by simp)
    have ih' := ih (m := q) (by simp at h; exact h) hq1
    rw [firsts_snoc, List.length_append]
    rcases ltidy_more hq1 hv1 with ⟨h1, h2⟩ | ⟨h1, h2⟩
    · rw [h2, ih', (hh q v hq1 hv1).2 h1]; simp
    · have : has q v = false := by
        rw [← Bool.not_eq_true]; intro k; exact h1 ((hh q v hq1 hv1).1 k)
      rw [h2, ih', this]; simp
end Go.Proofs.Ytbpkfcaokbidnab.Sp
