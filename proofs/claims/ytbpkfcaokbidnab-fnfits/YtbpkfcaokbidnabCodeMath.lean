/-
  Plain linear algebra for codes: rows times numbers, rows that are enough, rows that are not made of others and what numbers they leave free, numbers found for whatever values. It speaks of no program.
  Conditions: none.
-/
import Derived.Test.YtbpkfcaokbidnabSpanMore
namespace Go.Proofs.Ytbpkfcaokbidnab.Sp
set_option linter.unusedVariables false

/-- a row times numbers. -/
def dot (u d : V) : F := u 0 * d 0 + u 1 * d 1 + u 2 * d 2 + u 3 * d 3
theorem dot_add (u v d : V) : dot (fun j => u j + v j) d = dot u d + dot v d := by unfold dot; grind
theorem dot_mul (k : F) (u d : V) : dot (fun j => k * u j) d = k * dot u d := by unfold dot; grind
theorem dot_add_r (u d e : V) : dot u (fun j => d j + e j) = dot u d + dot u e := by unfold dot; grind
theorem dot_mul_r (k : F) (u d : V) : dot u (fun j => k * d j) = k * dot u d := by unfold dot; grind
theorem dot_eq {u v : V} (h : ∀ j, j < 4 → u j = v j) (d : V) : dot u d = dot v d := by
  unfold dot; rw [h 0 (by omega), h 1 (by omega), h 2 (by omega), h 3 (by omega)]
theorem dot_comm (u d : V) : dot u d = dot d u := by unfold dot; grind
theorem dot_none (d : V) : dot (fun _ => 0) d = 0 := by unfold dot; grind
theorem dot_none_r (u : V) : dot u (fun _ => 0) = 0 := by unfold dot; grind
theorem dot_comb (a : V) (A : List V) (c : Nat → F) (d : V) : dot (comb c (a :: A)) d = c 0 * dot a d + dot (comb (fun i => c (i + 1)) A) d := by
  have e : dot (comb c (a :: A)) d = dot (fun j => c 0 * a j + comb (fun i => c (i + 1)) A j) d := rfl
  rw [e, dot_add, dot_mul]
theorem dot_same {d e : V} {A : List V} (k : ∀ a ∈ A, dot a d = dot a e) : ∀ c : Nat → F, dot (comb c A) d = dot (comb c A) e := by
  induction A with
  | nil => intro c; exact (dot_none d).trans (dot_none e).symm
  | cons a A ih => intro c; rw [dot_comb, dot_comb, k a (by simp), ih (fun b hb => k b (by simp [hb]))]
theorem In.dot_same {A : List V} {v : V} (h : In A v) {d e : V} (k : ∀ a ∈ A, dot a d = dot a e) : dot v d = dot v e := by
  obtain ⟨c, hc⟩ := h
  rw [dot_eq (u := v) (v := comb c A) (fun j _ => hc j), dot_eq (u := v) (v := comb c A) (fun j _ => hc j)]
  exact Sp.dot_same k c
theorem In.dot_zero {A : List V} {v : V} (h : In A v) {d : V} (k : ∀ a ∈ A, dot a d = 0) : dot v d = 0 :=
  (h.dot_same (d := d) (e := fun _ => 0) (fun a ha => by rw [k a ha, dot_none_r])).trans (dot_none_r v)

/-- a row of four places. -/
def Four (v : V) : Prop := ∀ j, 4 ≤ j → v j = 0
theorem four_toV {l : List Int} (h : Row 4 l) : Four (toV l) := fun j hj => toV_out h hj
theorem vred_four {L : List (Nat × V)} (h : ∀ x ∈ L, Four x.2) : ∀ {u : V}, Four u → Four (vred L u) := by
  induction L with
  | nil => intro u hu; exact hu
  | cons x L ih =>
    intro u hu
    rw [vred_cons]
    refine ih (fun y hy => h y (by simp [hy])) fun j hj => ?_
    show u j - u x.1 * x.2 j = 0
    rw [hu j hj, h x (by simp) j hj]; grind
theorem Is.four {T : List (List Int)} {L : List (Nat × V)} (h : Is 4 T L) : ∀ x ∈ L, Four x.2 := by
  intro x hx
  have hm : x.2 ∈ T.map toV := by rw [h.same]; exact List.mem_map.2 ⟨x, hx, rfl⟩
  obtain ⟨r, hr, e⟩ := List.mem_map.1 hm
  rw [← e]; exact four_toV (h.row r hr)
theorem Is.lead_lt {T : List (List Int)} {L : List (Nat × V)} (h : Is 4 T L) : ∀ x ∈ L, x.1 < 4 := by
  intro x hx
  rcases Nat.lt_or_ge x.1 4 with h1 | h1
  · exact h1
  · have h2 := h.four x hx x.1 h1
    rw [h.tidy.one x hx] at h2
    exact absurd h2 (by decide)
/-- four places that go up, below 4, are all. -/
theorem up_all {l : List Nat} (h : l.Pairwise (· < ·)) (hb : ∀ x ∈ l, x < 4) (hl : l.length = 4) : ∀ j, j < 4 → j ∈ l := by
  match l, hl with
  | [a, b, c, d], _ =>
    simp at h hb
    intro j hj
    simp
    omega
/-- four tidy rows are enough: every row is made of them. -/
theorem Is.full {T : List (List Int)} {L : List (Nat × V)} (h : Is 4 T L) (hl : T.length = 4) {v : V} (hv : Four v) : In (rows L) v := by
  refine (in_iff_red h.tidy v).2 fun j => ?_
  by_cases hj : j < 4
  · have hm := up_all (List.pairwise_map.2 h.tidy.up) (fun p hp => by
      obtain ⟨x, hx, rfl⟩ := List.mem_map.1 hp; exact h.lead_lt x hx) (by rw [List.length_map, ← h.length, hl]) j hj
    obtain ⟨x, hx, rfl⟩ := List.mem_map.1 hm
    exact vred_zero h.tidy v x hx
  · exact vred_four h.four hv j (by omega)

theorem sum_two (f : Nat → F) {p q : Nat} (hp : p < 4) (hq : q < 4) (hne : p ≠ q) (h : ∀ j, j < 4 → j ≠ p → j ≠ q → f j = 0) : f 0 + f 1 + f 2 + f 3 = f p + f q := by
  have h0 := h 0 (by omega)
  have h1 := h 1 (by omega)
  have h2 := h 2 (by omega)
  have h3 := h 3 (by omega)
  rcases (by omega : p = 0 ∨ p = 1 ∨ p = 2 ∨ p = 3) with rfl | rfl | rfl | rfl <;> rcases (by omega : q = 0 ∨ q = 1 ∨ q = 2 ∨ q = 3) with rfl | rfl | rfl | rfl <;> first | (exact absurd rfl hne) | (simp at h0 h1 h2 h3; grind)
theorem sum_one (f : Nat → F) {p : Nat} (hp : p < 4) (h : ∀ j, j < 4 → j ≠ p → f j = 0) : f 0 + f 1 + f 2 + f 3 = f p := by
  have h0 := h 0 (by omega)
  have h1 := h 1 (by omega)
  have h2 := h 2 (by omega)
  have h3 := h 3 (by omega)
  rcases (by omega : p = 0 ∨ p = 1 ∨ p = 2 ∨ p = 3) with rfl | rfl | rfl | rfl <;> (simp at h0 h1 h2 h3; grind)

/-- numbers with which tidy rows are 0, and a place of its own is 1. -/
def freeAt (L : List (Nat × V)) (p : Nat) : V := fun j => if j = p then 1 else match L.find? (fun x => x.1 == j) with | some x => - x.2 p | none => 0
theorem freeAt_self (L : List (Nat × V)) (p : Nat) : freeAt L p p = 1 := by simp [freeAt]
theorem freeAt_at {L : List (Nat × V)} (h : Tidy L) {x : Nat × V} (hx : x ∈ L) {p : Nat} (hp : x.1 ≠ p) : freeAt L p x.1 = - x.2 p := by
  unfold freeAt
  rw [if_neg hp]
  have hs : ∃ y, L.find? (fun y => y.1 == x.1) = some y := by
    cases hf : L.find? (fun y => y.1 == x.1) with
    | some y => exact ⟨y, rfl⟩
    | none => exact absurd (List.find?_eq_none.1 hf x hx) (by simp)
  obtain ⟨y, hy⟩ := hs
  have e : y = x := h.eq_of (List.mem_of_find?_eq_some hy) hx (by simpa using List.find?_some hy)
  rw [hy, e]
theorem freeAt_none {L : List (Nat × V)} {p j : Nat} (hj : j ≠ p) (h : ∀ x ∈ L, x.1 ≠ j) : freeAt L p j = 0 := by
  unfold freeAt
  rw [if_neg hj]
  have hn : L.find? (fun x => x.1 == j) = none := List.find?_eq_none.2 fun x hx => by simpa using h x hx
  rw [hn]
theorem dot_free {L : List (Nat × V)} (h : Tidy L) (hb : ∀ x ∈ L, x.1 < 4) {p : Nat} (hp : p < 4) (hpl : ∀ x ∈ L, x.1 ≠ p) {x : Nat × V} (hx : x ∈ L) : dot x.2 (freeAt L p) = 0 := by
  unfold dot
  rw [sum_two (fun j => x.2 j * freeAt L p j) hp (hb x hx) (fun e => hpl x hx e.symm)]
  · show x.2 p * freeAt L p p + x.2 x.1 * freeAt L p x.1 = 0
    rw [freeAt_self, freeAt_at h hx (hpl x hx), h.one x hx]; grind
  · intro j hj hjp hjx
    show x.2 j * freeAt L p j = 0
    by_cases hm : ∃ y ∈ L, y.1 = j
    · obtain ⟨y, hy, rfl⟩ := hm
      rw [h.others y hy x hx hjx]; grind
    · rw [freeAt_none hjp (fun y hy e => hm ⟨y, hy, e⟩)]; grind
/-- what is not made of tidy rows is told apart from them by some numbers. -/
theorem Is.dual {T : List (List Int)} {L : List (Nat × V)} (h : Is 4 T L) {r : V} (hr : Four r) (hn : ¬ In (rows L) r) : ∃ d, (∀ a ∈ rows L, dot a d = 0) ∧ dot r d ≠ 0 := by
  have hex : ∃ p, vred L r p ≠ 0 := by
    rcases Classical.em (∃ p, vred L r p ≠ 0) with h1 | h1
    · exact h1
    · exact absurd ((in_iff_red h.tidy r).2 fun j => Classical.byContradiction fun hj => h1 ⟨j, hj⟩) hn
  obtain ⟨p, hp⟩ := hex
  have hp4 : p < 4 := by
    rcases Nat.lt_or_ge p 4 with h1 | h1
    · exact h1
    · exact absurd (vred_four h.four hr p h1) hp
  have hpl : ∀ x ∈ L, x.1 ≠ p := fun x hx e => hp (by rw [← e]; exact vred_zero h.tidy r x hx)
  refine ⟨freeAt L p, ?_, ?_⟩
  · intro a ha
    obtain ⟨x, hx, rfl⟩ := List.mem_map.1 ha
    exact dot_free h.tidy h.lead_lt hp4 hpl hx
  · have h1 : dot (fun j => r j - vred L r j) (freeAt L p) = 0 := (vred_in (L := L) r).dot_zero fun a ha => by
      obtain ⟨x, hx, rfl⟩ := List.mem_map.1 ha
      exact dot_free h.tidy h.lead_lt hp4 hpl hx
    have h2 : dot (vred L r) (freeAt L p) = vred L r p := by
      unfold dot
      rw [sum_one (fun j => vred L r j * freeAt L p j) hp4]
      · show vred L r p * freeAt L p p = _
        rw [freeAt_self]; grind
      · intro j hj hjp
        show vred L r j * freeAt L p j = 0
        by_cases hm : ∃ y ∈ L, y.1 = j
        · obtain ⟨y, hy, rfl⟩ := hm
          rw [vred_zero h.tidy r y hy]; grind
        · rw [freeAt_none hjp (fun y hy e => hm ⟨y, hy, e⟩)]; grind
    have h3 : dot r (freeAt L p) = dot (fun j => r j - vred L r j) (freeAt L p) + dot (vred L r) (freeAt L p) := by unfold dot; grind
    rw [h3, h1, h2]
    intro e
    apply hp
    grind
/-- rows none of which is made of those ahead take whatever values, of some numbers. -/
theorem solve {m : List (List Int)} : ∀ (k : Nat), m.length = k → (∀ r ∈ m, Row 4 r) → (∀ i (hi : i < m.length), ¬ Made (m.take i) m[i]) → ∀ g : Nat → F, ∃ d : V, ∀ i (hi : i < m.length), dot (toV m[i]) d = g i := by
  intro k
  induction k generalizing m with
  | zero =>
    intro h _ _ g
    exact ⟨fun _ => 0, fun i hi => by omega⟩
  | succ k ih =>
    intro h hm hi g
    have hne : m ≠ [] := by intro e; rw [e] at h; simp at h
    have e := List.dropLast_concat_getLast hne
    generalize hv : m.getLast hne = v at e
    generalize hq : m.dropLast = q at e
    subst e
    have hqk : q.length = k := by simp at h; exact h
    have hq1 : ∀ r ∈ q, Row 4 r := fun r hr => hm r (by simp [hr])
    have hv1 : Row 4 v := hm v (by simp)
    obtain ⟨d, hd⟩ := ih hqk hq1 (fun i hi' => by
      have := hi i (by simp; omega)
      rw [List.take_append_of_le_length (by omega), List.getElem_append_left hi'] at this
      exact this) g
    have hnot : ¬ Made q v := by
      have := hi q.length (by simp)
      rw [List.take_append_of_le_length (Nat.le_refl _), List.take_length] at this
      simpa using this
    obtain ⟨L, hL, s⟩ := ltidy_is hq1
    obtain ⟨f, hf0, hf1⟩ := hL.dual (four_toV hv1) (fun k => hnot ((s.iff (toV v)).1 k))
    have hf2 : ∀ i (hi' : i < q.length), dot (toV q[i]) f = 0 := fun i hi' => (s.2 (toV q[i]) (List.mem_map.2 ⟨q[i], List.getElem_mem hi', rfl⟩)).dot_zero hf0
    have hinv : ∃ c : F, dot (toV v) f * c = 1 := by
      have : ∀ a : F, a ≠ 0 → ∃ c : F, a * c = 1 := by decide
      exact this _ hf1
    obtain ⟨c, hc⟩ := hinv
    refine ⟨fun j => d j + ((g q.length - dot (toV v) d) * c) * f j, fun i hi' => ?_⟩
    rw [dot_add_r, dot_mul_r]
    by_cases hlt : i < q.length
    · rw [List.getElem_append_left hlt, hd i hlt, hf2 i hlt]; grind
    · have hieq : i = q.length := by simp at hi'; omega
      subst hieq
      simp only [List.getElem_concat_length]
      grind
end Go.Proofs.Ytbpkfcaokbidnab.Sp
