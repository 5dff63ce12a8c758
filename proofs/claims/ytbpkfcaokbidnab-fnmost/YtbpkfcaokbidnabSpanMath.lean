/-
  Plain linear algebra over the field of 31 numbers: combinations of rows, spans, tidy rows (the reduced echelon form) and that they are one alone of a span. It speaks of no program.
  Conditions: none.
-/
import Derived.Below
namespace Go.Proofs.Ytbpkfcaokbidnab.Sp
set_option linter.unusedVariables false

/-- a number of the field. -/
abbrev F := Fin 31
/-- a row: a number at each place. -/
abbrev V := Nat → F

theorem mul_none (a b : F) : a * b = 0 → a = 0 ∨ b = 0 := by revert a b; decide

/-- rows, each so often, together. -/
def comb (c : Nat → F) : List V → V
  | [] => fun _ => 0
  | a :: A => fun j => c 0 * a j + comb (fun i => c (i + 1)) A j

theorem comb_nil (c : Nat → F) (j : Nat) : comb c [] j = 0 := rfl
theorem comb_cons (c : Nat → F) (a : V) (A : List V) (j : Nat) : comb c (a :: A) j = c 0 * a j + comb (fun i => c (i + 1)) A j := rfl
theorem comb_add (A : List V) : ∀ (c d : Nat → F) (j : Nat), comb (fun i => c i + d i) A j = comb c A j + comb d A j := by
  induction A with
  | nil => intro c d j; simp [comb]
  | cons a A ih => intro c d j; simp only [comb_cons, ih]; grind
theorem comb_mul (A : List V) : ∀ (k : F) (c : Nat → F) (j : Nat), comb (fun i => k * c i) A j = k * comb c A j := by
  induction A with
  | nil => intro k c j; simp only [comb_nil]; grind
  | cons a A ih => intro k c j; simp only [comb_cons, ih]; grind
theorem comb_zero (A : List V) : ∀ (j : Nat), comb (fun _ => 0) A j = 0 := by
  induction A with
  | nil => intro j; rfl
  | cons a A ih => intro j; simp only [comb_cons, ih]; grind
theorem comb_at_zero (A : List V) (p : Nat) : ∀ (c : Nat → F), (∀ a ∈ A, a p = 0) → comb c A p = 0 := by
  induction A with
  | nil => intro c _; rfl
  | cons a A ih =>
    intro c h
    rw [comb_cons, ih _ (fun b hb => h b (List.mem_cons_of_mem _ hb)), h a (by simp)]
    grind
theorem comb_congr (A : List V) (j : Nat) : ∀ (c d : Nat → F), (∀ i, i < A.length → c i = d i) → comb c A j = comb d A j := by
  induction A with
  | nil => intro c d _; rfl
  | cons a A ih =>
    intro c d h
    rw [comb_cons, comb_cons, h 0 (by simp), ih _ (fun i => d (i + 1)) (fun i hi => h (i + 1) (by simpa using hi))]
/-- the i-th row alone. -/
def one (i : Nat) : Nat → F := fun k => if k = i then 1 else 0
theorem comb_one (A : List V) : ∀ (i : Nat) (h : i < A.length) (j : Nat), comb (one i) A j = A[i] j := by
  induction A with
  | nil => intro i h; simp at h
  | cons a A ih =>
    intro i h j
    cases i with
    | zero =>
      rw [comb_cons, comb_congr A j (fun i => one 0 (i + 1)) (fun _ => 0) (fun i _ => by simp [one]), comb_zero]
      simp only [one, if_true, List.getElem_cons_zero]; grind
    | succ i =>
      rw [comb_cons, comb_congr A j (fun k => one (i + 1) (k + 1)) (one i) (fun k _ => by simp [one]), ih i (by simpa using h)]
      have e : one (i + 1) 0 = 0 := by simp [one]
      rw [e, List.getElem_cons_succ]; grind
theorem comb_append (A B : List V) (j : Nat) : ∀ (c : Nat → F), comb c (A ++ B) j = comb c A j + comb (fun i => c (i + A.length)) B j := by
  induction A with
  | nil => intro c; simp [comb]
  | cons a A ih =>
    intro c
    rw [List.cons_append, comb_cons, ih, comb_cons]
    have e : (fun i => (fun i => c (i + 1)) (i + A.length)) = fun i => c (i + (a :: A).length) := by
      funext i; simp [Nat.add_assoc]
    rw [e]
    grind

/-- 'v is made of the rows A'. -/
def In (A : List V) (v : V) : Prop := ∃ c, ∀ j, v j = comb c A j
theorem In.zero (A : List V) : In A (fun _ => 0) := ⟨fun _ => 0, fun j => (comb_zero A j).symm⟩
theorem In.add {A : List V} {u v : V} (h : In A u) (k : In A v) : In A (fun j => u j + v j) := by
  obtain ⟨c, hc⟩ := h
  obtain ⟨d, hd⟩ := k
  exact ⟨fun i => c i + d i, fun j => by show u j + v j = _; rw [comb_add, hc, hd]⟩
theorem In.mul {A : List V} {v : V} (h : In A v) (k : F) : In A (fun j => k * v j) := by
  obtain ⟨c, hc⟩ := h
  exact ⟨fun i => k * c i, fun j => by show k * v j = _; rw [comb_mul, hc]⟩
theorem In.mem {A : List V} {a : V} (h : a ∈ A) : In A a := by
  obtain ⟨i, hi, rfl⟩ := List.getElem_of_mem h
  exact ⟨one i, fun j => (comb_one A i hi j).symm⟩
theorem In.eq {A : List V} {u v : V} (h : In A u) (e : ∀ j, v j = u j) : In A v := by
  obtain ⟨c, hc⟩ := h
  exact ⟨c, fun j => (e j).trans (hc j)⟩
theorem in_comb {A B : List V} : ∀ (c : Nat → F), (∀ a ∈ A, In B a) → In B (comb c A) := by
  induction A with
  | nil => intro c _; exact In.zero B
  | cons a A ih =>
    intro c h
    exact ((h a (by simp)).mul (c 0)).add (ih _ (fun b hb => h b (List.mem_cons_of_mem _ hb)))
theorem In.trans {A B : List V} {v : V} (h : In A v) (k : ∀ a ∈ A, In B a) : In B v := by
  obtain ⟨c, hc⟩ := h
  exact (in_comb c k).eq hc
theorem In.sub {A : List V} {u v : V} (h : In A u) (k : In A v) (c : F) : In A (fun j => u j - c * v j) :=
  (h.add (k.mul (-c))).eq (fun j => by grind)
theorem In.mono {A B : List V} {v : V} (h : In A v) (k : ∀ a ∈ A, a ∈ B) : In B v := h.trans fun a ha => In.mem (k a ha)
theorem in_nil {v : V} : In [] v ↔ ∀ j, v j = 0 := ⟨fun ⟨c, hc⟩ j => hc j, fun h => ⟨fun _ => 0, h⟩⟩
/-- the same rows are made. -/
def Same (A B : List V) : Prop := (∀ a ∈ A, In B a) ∧ ∀ b ∈ B, In A b
theorem Same.refl (A : List V) : Same A A := ⟨fun _ h => In.mem h, fun _ h => In.mem h⟩
theorem Same.symm {A B : List V} (h : Same A B) : Same B A := ⟨h.2, h.1⟩
theorem Same.iff {A B : List V} (h : Same A B) (v : V) : In A v ↔ In B v := ⟨fun k => k.trans h.1, fun k => k.trans h.2⟩
theorem Same.trans {A B C : List V} (h : Same A B) (k : Same B C) : Same A C := ⟨fun a ha => (h.1 a ha).trans k.1, fun c hc => (k.2 c hc).trans h.2⟩
theorem Same.of {A B : List V} (h : ∀ v, In A v ↔ In B v) : Same A B := ⟨fun a ha => (h a).1 (In.mem ha), fun b hb => (h b).2 (In.mem hb)⟩

/-- tidy rows, each with the place of its leading 1: the places go up, ahead of its place a row is 0, and at its place all others are 0. -/
structure Tidy (L : List (Nat × V)) : Prop where
  up : L.Pairwise fun x y => x.1 < y.1
  one : ∀ x ∈ L, x.2 x.1 = 1
  ahead : ∀ x ∈ L, ∀ j, j < x.1 → x.2 j = 0
  others : ∀ x ∈ L, ∀ y ∈ L, x.1 ≠ y.1 → y.2 x.1 = 0
/-- the rows alone. -/
def rows (L : List (Nat × V)) : List V := L.map Prod.snd

theorem Tidy.nil : Tidy [] := ⟨List.Pairwise.nil, by simp, by simp, by simp⟩
theorem Tidy.tail {x : Nat × V} {L : List (Nat × V)} (h : Tidy (x :: L)) : Tidy L :=
  ⟨(List.pairwise_cons.1 h.up).2, fun y hy => h.one y (by simp [hy]), fun y hy => h.ahead y (by simp [hy]), fun y hy z hz => h.others y (by simp [hy]) z (by simp [hz])⟩
theorem Tidy.head_lt {x : Nat × V} {L : List (Nat × V)} (h : Tidy (x :: L)) : ∀ y ∈ L, x.1 < y.1 := (List.pairwise_cons.1 h.up).1
theorem Tidy.eq_of {L : List (Nat × V)} (h : Tidy L) {x y : Nat × V} (hx : x ∈ L) (hy : y ∈ L) (e : x.1 = y.1) : x = y := by
  induction L with
  | nil => simp at hx
  | cons z L ih =>
    rcases List.mem_cons.1 hx with rfl | hx' <;> rcases List.mem_cons.1 hy with rfl | hy'
    · rfl
    · have := h.head_lt y hy'; omega
    · have := h.head_lt x hx'; omega
    · exact ih h.tail hx' hy'

/-- how often a tidy row is taken stands at its place. -/
theorem comb_at {L : List (Nat × V)} (h : Tidy L) : ∀ (c : Nat → F) (i : Nat) (hi : i < L.length), comb c (rows L) (L[i]).1 = c i := by
  induction L with
  | nil => intro c i hi; simp at hi
  | cons x L ih =>
    intro c i hi
    cases i with
    | zero =>
      show comb c (x.2 :: rows L) x.1 = c 0
      rw [comb_cons, h.one x (by simp), comb_at_zero]
      · grind
      · intro a ha
        obtain ⟨y, hy, rfl⟩ := List.mem_map.1 ha
        exact h.others x (by simp) y (by simp [hy]) (by have := h.head_lt y hy; omega)
    | succ i =>
      have hi' : i < L.length := by simpa using hi
      show comb c (x.2 :: rows L) (L[i]).1 = c (i + 1)
      have hm : L[i] ∈ L := List.getElem_mem hi'
      rw [comb_cons, ih h.tail _ i hi', h.others L[i] (by simp [hm]) x (by simp) (by have := h.head_lt _ hm; omega)]
      grind
/-- what is made of tidy rows is told by what stands at their places. -/
theorem In.at_ {L : List (Nat × V)} (h : Tidy L) {v : V} (k : In (rows L) v) (j : Nat) : v j = comb (fun i => if hi : i < L.length then v (L[i]).1 else 0) (rows L) j := by
  obtain ⟨c, hc⟩ := k
  rw [hc]
  refine comb_congr _ _ _ _ fun i hi => ?_
  have hi' : i < L.length := by simpa [rows] using hi
  rw [dif_pos hi', hc, comb_at h c i hi']
/-- what is made of tidy rows, and is 0 at all their places, is 0. -/
theorem In.none_ {L : List (Nat × V)} (h : Tidy L) {v : V} (k : In (rows L) v) (z : ∀ x ∈ L, v x.1 = 0) (j : Nat) : v j = 0 := by
  rw [k.at_ h j, ← comb_zero (rows L) j]
  refine comb_congr _ _ _ _ fun i hi => ?_
  have hi' : i < L.length := by simpa [rows] using hi
  rw [dif_pos hi']
  exact z _ (List.getElem_mem hi')

/-- a row that is not 0 begins at p. -/
def Lead (v : V) (p : Nat) : Prop := v p ≠ 0 ∧ ∀ j, j < p → v j = 0
theorem Lead.one {v : V} {p q : Nat} (h : Lead v p) (k : Lead v q) : p = q := by
  rcases Nat.lt_trichotomy p q with hl | hl | hl
  · exact absurd (k.2 p hl) h.1
  · exact hl
  · exact absurd (h.2 q hl) k.1
/-- what is made of tidy rows begins where one of them begins. -/
theorem lead_in {L : List (Nat × V)} : Tidy L → ∀ {v : V} {p : Nat}, In (rows L) v → Lead v p → ∃ x ∈ L, x.1 = p := by
  induction L with
  | nil => intro h v p k hl; exact absurd ((in_nil.1 k) p) hl.1
  | cons x L ih =>
    intro h v p k hl
    by_cases hv : v x.1 = 0
    · have hin : In (rows L) v := by
        obtain ⟨c, hc⟩ := k
        refine ⟨fun i => c (i + 1), fun j => ?_⟩
        have h0 : c 0 = 0 := by
          rw [← comb_at h c 0 (by simp), ← hc]; exact hv
        rw [hc]
        show comb c (x.2 :: rows L) j = _
        rw [comb_cons, h0]
        grind
      obtain ⟨y, hy, e⟩ := ih h.tail hin hl
      exact ⟨y, by simp [hy], e⟩
    · refine ⟨x, by simp, ?_⟩
      refine Lead.one ⟨hv, fun j hj => ?_⟩ hl
      obtain ⟨c, hc⟩ := k
      rw [hc]
      refine comb_at_zero _ _ _ fun a ha => ?_
      obtain ⟨y, hy, rfl⟩ := List.mem_map.1 ha
      rcases List.mem_cons.1 hy with rfl | hy'
      · exact h.ahead y (by simp) j hj
      · exact h.ahead y (by simp [hy']) j (by have := h.head_lt y hy'; omega)
theorem Tidy.lead {L : List (Nat × V)} (h : Tidy L) {x : Nat × V} (hx : x ∈ L) : Lead x.2 x.1 := ⟨by rw [h.one x hx]; decide, h.ahead x hx⟩

/-- rows that go up and have the same members are the same. -/
theorem up_ext : ∀ {l m : List Nat}, l.Pairwise (· < ·) → m.Pairwise (· < ·) → (∀ x, x ∈ l ↔ x ∈ m) → l = m := by
  intro l
  induction l with
  | nil =>
    intro m _ _ h
    match m with
    | [] => rfl
    | y :: m => exact absurd ((h y).2 (by simp)) (by simp)
  | cons x l ih =>
    intro m hl hm h
    match m with
    | [] => exact absurd ((h x).1 (by simp)) (by simp)
    | y :: m =>
      have hl' := List.pairwise_cons.1 hl
      have hm' := List.pairwise_cons.1 hm
      have exy : x = y := by
        have h1 := (h x).1 (by simp)
        have h2 := (h y).2 (by simp)
        rcases List.mem_cons.1 h1 with e | h1
        · exact e
        · rcases List.mem_cons.1 h2 with e | h2
          · exact e.symm
          · have := hm'.1 x h1; have := hl'.1 y h2; omega
      subst exy
      rw [ih hl'.2 hm'.2 (fun z => ?_)]
      constructor
      · intro hz
        rcases List.mem_cons.1 ((h z).1 (by simp [hz])) with e | h'
        · have := hl'.1 z hz; omega
        · exact h'
      · intro hz
        rcases List.mem_cons.1 ((h z).2 (by simp [hz])) with e | h'
        · have := hm'.1 z hz; omega
        · exact h'

/-- ONE WAY: tidy rows of which the same rows are made are the same. -/
theorem tidy_one {L M : List (Nat × V)} (h : Tidy L) (k : Tidy M) (s : Same (rows L) (rows M)) : L = M := by
  have hle : ∀ {L M : List (Nat × V)}, Tidy L → Tidy M → Same (rows L) (rows M) → ∀ p, p ∈ L.map Prod.fst → p ∈ M.map Prod.fst := by
    intro L M h k s p hp
    obtain ⟨x, hx, rfl⟩ := List.mem_map.1 hp
    obtain ⟨y, hy, e⟩ := lead_in k (s.1 x.2 (List.mem_map.2 ⟨x, hx, rfl⟩)) (h.lead hx)
    exact List.mem_map.2 ⟨y, hy, e⟩
  have hu : ∀ {L : List (Nat × V)}, Tidy L → (L.map Prod.fst).Pairwise (· < ·) := fun h => List.pairwise_map.2 h.up
  have he : L.map Prod.fst = M.map Prod.fst := up_ext (hu h) (hu k) fun p => ⟨hle h k s p, hle k h s.symm p⟩
  have hlen : L.length = M.length := by simpa using congrArg List.length he
  refine List.ext_getElem hlen fun i hi hi' => ?_
  have e1 : ∀ n (a : n < L.length) (b : n < M.length), (L[n]).1 = (M[n]).1 := by
    intro n a b
    have := congrArg (fun l => l[n]?) he
    simpa [a, b] using this
  refine Prod.ext (e1 i hi hi') (funext fun j => ?_)
  have hx : L[i] ∈ L := List.getElem_mem hi
  have hin : In (rows M) (L[i]).2 := s.1 _ (List.mem_map.2 ⟨L[i], hx, rfl⟩)
  rw [hin.at_ k j]
  have hrow : (M[i]).2 j = comb (one i) (rows M) j := by rw [comb_one (rows M) i (by simpa [rows] using hi')]; unfold rows; rw [List.getElem_map]
  rw [hrow]
  refine comb_congr _ _ _ _ fun n hn => ?_
  have hn' : n < M.length := by simpa [rows] using hn
  have hn'' : n < L.length := by omega
  rw [dif_pos hn', ← e1 n hn'' hn']
  by_cases hni : n = i
  · subst hni; simp [Sp.one, h.one _ hx]
  · simp only [Sp.one, if_neg hni]
    refine h.others _ (List.getElem_mem hn'') _ hx fun e => hni ?_
    have hp := List.pairwise_iff_getElem.1 h.up
    rcases Nat.lt_trichotomy n i with hl | hl | hl
    · have := hp n i hn'' hi hl; omega
    · exact hl
    · have := hp i n hi hn'' hl; omega
end Go.Proofs.Ytbpkfcaokbidnab.Sp
