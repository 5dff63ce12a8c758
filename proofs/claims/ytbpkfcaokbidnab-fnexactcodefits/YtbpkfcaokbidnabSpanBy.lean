/-
  How often each row is taken to make a row: the model's elimination, as plain mathematics: it tells the numbers if the row is made of the rows, and says so if it is not. It speaks of no program.
  Conditions: none.
-/
import Derived.Test.YtbpkfcaokbidnabSpanMore
namespace Go.Proofs.Ytbpkfcaokbidnab.Sp
set_option linter.unusedVariables false

/-- the first four places of a row, 0 behind. -/
def left (v : V) : V := fun j => if j < 4 then v j else 0
theorem left_lt (v : V) {j : Nat} (h : j < 4) : left v j = v j := by simp [left, h]
theorem left_ge (v : V) {j : Nat} (h : 4 ≤ j) : left v j = 0 := by simp [left, show ¬ j < 4 by omega]
theorem comb_left (A : List V) (c : Nat → F) (j : Nat) : comb c (A.map left) j = left (comb c A) j := by
  induction A generalizing c with
  | nil => simp [comb, left]
  | cons a A ih =>
    rw [List.map_cons, comb_cons, ih]
    by_cases hj : j < 4
    · rw [left_lt _ hj, left_lt _ hj, left_lt _ hj, comb_cons]
    · rw [left_ge _ (by omega), left_ge _ (by omega), left_ge _ (by omega)]; grind
theorem comb_only (A : List V) (q : Nat) : ∀ (f : Nat → F) (j : Nat) (h : j < A.length), (∀ i (hi : i < A.length), i ≠ j → A[i] q = 0) → comb f A q = f j * A[j] q := by
  induction A with
  | nil => intro f j h; simp at h
  | cons a A ih =>
    intro f j h hz
    rw [comb_cons]
    cases j with
    | zero =>
      rw [comb_at_zero A q _ (fun b hb => by
        obtain ⟨i, hi, rfl⟩ := List.getElem_of_mem hb
        exact hz (i + 1) (by simpa using hi) (by omega))]
      simp only [List.getElem_cons_zero]; grind
    | succ j =>
      rw [ih (fun i => f (i + 1)) j (by simpa using h) (fun i hi hne => hz (i + 1) (by simpa using hi) (by omega))]
      have h0 : a q = 0 := hz 0 (by simp) (by omega)
      simp only [List.getElem_cons_succ]
      rw [h0]; grind
theorem comb_each (A : List V) (c : Nat) : ∀ (f : Nat → F), (∀ i (hi : i < A.length), f i * A[i] c = 0) → comb f A c = 0 := by
  induction A with
  | nil => intro f _; rfl
  | cons a A ih =>
    intro f h
    rw [comb_cons, ih (fun i => f (i + 1)) (fun i hi => h (i + 1) (by simpa using hi))]
    have h0 : f 0 * a c = 0 := h 0 (by simp)
    rw [h0]; grind

/-- k rows, as a list. -/
def rl (k : Nat) (R : Nat → V) : List V := (List.range k).map R
theorem rl_length (k : Nat) (R : Nat → V) : (rl k R).length = k := by simp [rl]
theorem rl_get {k : Nat} {R : Nat → V} {i : Nat} (h : i < (rl k R).length) : (rl k R)[i] = R i := by simp [rl]

/-- where the elimination stands: columns ahead of 'at' are done. -/
structure Elim (k : Nat) (M : List V) (v : V) (at_ : Nat) (R : Nat → V) (s : V) : Prop where
  rel : ∀ j, j < k → ∀ c, c < 4 → R j c = comb (fun i => R j (4 + i)) M c
  srel : ∀ c, c < 4 → s c = v c + comb (fun i => s (4 + i)) M c
  piv : ∀ q, q < at_ → ∀ j, j < k → Lead (R j) q → (∀ i, i < k → i ≠ j → R i q = 0) ∧ s q = 0
  back : ∀ a ∈ M, In ((rl k R).map left) (left a)

theorem Elim.skip {k : Nat} {M : List V} {v : V} {p : Nat} {R : Nat → V} {s : V} (h : Elim k M v p R s) (hn : ∀ j, j < k → ¬ Lead (R j) p) : Elim k M v (p + 1) R s := by
  refine ⟨h.rel, h.srel, fun q hq j hj hl => ?_, h.back⟩
  by_cases e : q = p
  · subst e; exact absurd hl (hn j hj)
  · exact h.piv q (by omega) j hj hl

/-- a column is cleared by the row that begins there. -/
theorem Elim.step {k : Nat} {M : List V} {v : V} {p : Nat} {R R' : Nat → V} {s s' : V} (h : Elim k M v p R s) {i : Nat} (hi : i < k) (hl : Lead (R i) p) {c : F} (hc : R i p * c = 1)
    (hi' : ∀ j, R' i j = R i j) (hR : ∀ n, n < k → n ≠ i → ∀ j, R' n j = R n j - R n p * c * R i j) (hs : ∀ j, s' j = s j - s p * c * R i j) : Elim k M v (p + 1) R' s' := by
  have hlin : ∀ (x y : Nat → F) (a : F) (j : Nat), comb (fun n => x n - a * y n) M j = comb x M j - a * comb y M j := by
    intro x y a j
    have e : (fun n => x n - a * y n) = fun n => x n + (-a) * y n := by funext n; grind
    rw [e, comb_add, comb_mul]; grind
  refine ⟨?_, ?_, ?_, ?_⟩
  · intro n hn j hj
    by_cases e : n = i
    · subst e
      rw [hi', h.rel n hn j hj]
      exact comb_congr _ _ _ _ fun m _ => (hi' _).symm
    · rw [hR n hn e, h.rel n hn j hj, h.rel i hi j hj, ← hlin]
      exact comb_congr _ _ _ _ fun m _ => (hR n hn e _).symm
  · intro j hj
    rw [hs, h.srel j hj, h.rel i hi j hj]
    have : comb (fun m => s' (4 + m)) M j = comb (fun m => s (4 + m)) M j - s p * c * comb (fun m => R i (4 + m)) M j := by
      rw [← hlin]
      exact comb_congr _ _ _ _ fun m _ => hs _
    rw [this]; grind
  · intro q hq j hj hlq
    by_cases e : q = p
    · subst e
      have hji : j = i := by
        refine Classical.byContradiction fun hne => hlq.1 ?_
        rw [hR j hj hne]; grind
      subst hji
      refine ⟨fun n hn hne => ?_, ?_⟩
      · rw [hR n hn hne]; grind
      · rw [hs]; grind
    · have hqp : q < p := by omega
      have hz : ∀ m, m ≤ q → R i m = 0 := fun m hm => hl.2 m (by omega)
      have hsame : ∀ n, n < k → ∀ m, m ≤ q → R' n m = R n m := by
        intro n hn m hm
        by_cases e' : n = i
        · subst e'; exact hi' m
        · rw [hR n hn e', hz m hm]; grind
      have hlq' : Lead (R j) q := ⟨by rw [← hsame j hj q (Nat.le_refl _)]; exact hlq.1, fun m hm => by rw [← hsame j hj m (by omega)]; exact hlq.2 m hm⟩
      obtain ⟨g1, g2⟩ := h.piv q hqp j hj hlq'
      refine ⟨fun n hn hne => by rw [hsame n hn q (Nat.le_refl _)]; exact g1 n hn hne, ?_⟩
      rw [hs, hz q (Nat.le_refl _), g2]; grind
  · intro a ha
    refine (h.back a ha).trans fun b hb => ?_
    obtain ⟨b', hb', rfl⟩ := List.mem_map.1 hb
    obtain ⟨n, hn, rfl⟩ := List.mem_map.1 hb'
    have hn' : n < k := by simpa using hn
    have hmem : ∀ m, m < k → In ((rl k R').map left) (left (R' m)) := fun m hm => In.mem (List.mem_map.2 ⟨R' m, List.mem_map.2 ⟨m, by simpa using hm, rfl⟩, rfl⟩)
    by_cases e : n = i
    · subst e
      exact (hmem n hn').eq fun j => by
        by_cases hj : j < 4
        · rw [left_lt _ hj, left_lt _ hj, hi']
        · rw [left_ge _ (by omega), left_ge _ (by omega)]
    · refine ((hmem n hn').add ((hmem i hi).mul (R n p * c))).eq fun j => ?_
      by_cases hj : j < 4
      · rw [left_lt _ hj, left_lt _ hj, left_lt _ hj, hi', hR n hn' e]; grind
      · rw [left_ge _ (by omega), left_ge _ (by omega), left_ge _ (by omega)]; grind

/-- nothing is left: the row is made so. -/
theorem Elim.yes {k : Nat} {M : List V} {v : V} {p : Nat} {R : Nat → V} {s : V} (h : Elim k M v p R s) (hz : ∀ c, c < 4 → s c = 0) : ∀ c, c < 4 → v c = comb (fun i => -(s (4 + i))) M c := by
  intro c hc
  have h1 := h.srel c hc
  rw [hz c hc] at h1
  have e : (fun i => -(s (4 + i))) = fun i => (-1) * s (4 + i) := by funext i; grind
  rw [e, comb_mul]; grind
/-- of a row that is made of the rows nothing is left. -/
theorem Elim.no {k : Nat} {M : List V} {v : V} {R : Nat → V} {s : V} (h : Elim k M v 4 R s) (hv : In (M.map left) (left v)) : ∀ c, c < 4 → s c = 0 := by
  have hs : In (M.map left) (left s) := by
    have h1 : In (M.map left) (comb (fun i => s (4 + i)) (M.map left)) := ⟨_, fun _ => rfl⟩
    refine (hv.add h1).eq fun j => ?_
    rw [comb_left]
    by_cases hj : j < 4
    · rw [left_lt _ hj, left_lt _ hj, left_lt _ hj]; exact h.srel j hj
    · rw [left_ge _ (by omega), left_ge _ (by omega), left_ge _ (by omega)]; grind
  have hs' : In ((rl k R).map left) (left s) := hs.trans fun a ha => by
    obtain ⟨b, hb, rfl⟩ := List.mem_map.1 ha
    exact h.back b hb
  obtain ⟨f, hf⟩ := hs'
  have hlen : ((rl k R).map left).length = k := by simp [rl]
  have hget : ∀ i (hi : i < ((rl k R).map left).length), ((rl k R).map left)[i] = left (R i) := by intro i hi; simp [rl]
  intro c hc
  rw [← left_lt s hc, hf]
  refine comb_each _ _ _ fun i hi => ?_
  have hik : i < k := by omega
  rw [hget]
  by_cases hz : ∀ j, j < 4 → R i j = 0
  · rw [left_lt _ hc, hz c hc]; grind
  · -- the row begins ahead of 4
    have hex : ∃ q, q < 4 ∧ Lead (R i) q := by
      have : ∀ m, m ≤ 4 → (∃ q, q < m ∧ R i q ≠ 0) → ∃ q, q < m ∧ Lead (R i) q := by
        intro m
        induction m with
        | zero => rintro _ ⟨q, hq, _⟩; omega
        | succ m ih =>
          rintro hm ⟨q, hq, hne⟩
          rcases Classical.em (∃ q, q < m ∧ R i q ≠ 0) with hh | hh
          · obtain ⟨r, hr, hl⟩ := ih (by omega) hh; exact ⟨r, by omega, hl⟩
          · have : q = m := by
              rcases Nat.lt_or_ge q m with hlt | hge
              · exact absurd ⟨q, hlt, hne⟩ hh
              · omega
            subst this
            exact ⟨q, by omega, hne, fun j hj => Classical.byContradiction fun hj' => hh ⟨j, hj, hj'⟩⟩
      refine this 4 (Nat.le_refl _) ?_
      rcases Classical.em (∃ q, q < 4 ∧ R i q ≠ 0) with hh | hh
      · exact hh
      · exact absurd (fun j hj => Classical.byContradiction fun hj' => hh ⟨j, hj, hj'⟩) hz
    obtain ⟨q, hq, hl⟩ := hex
    obtain ⟨g1, g2⟩ := h.piv q hq i hik hl
    have h1 := hf q
    rw [left_lt _ hq, g2, comb_only _ q f i hi (fun n hn hne => by rw [hget, left_lt _ hq]; exact g1 n (by omega) hne), hget, left_lt _ hq] at h1
    rcases mul_none _ _ h1.symm with h2 | h2
    · rw [h2]; grind
    · exact absurd h2 hl.1
end Go.Proofs.Ytbpkfcaokbidnab.Sp
