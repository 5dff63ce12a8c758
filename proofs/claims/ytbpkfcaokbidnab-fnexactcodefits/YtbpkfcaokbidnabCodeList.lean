/-
  The two codes as plain functions of lists: their rows, which shards are enough, how many may be lost, how far apart shards are, whether values fit. It speaks of no program.
  Conditions: none.
-/
import Derived.Test.YtbpkfcaokbidnabCodeMath
namespace Go.Proofs.Ytbpkfcaokbidnab.Sp
set_option linter.unusedVariables false

/-- the row of a shard. -/
def crow (kind at_ : Nat) : List Int :=
  if kind = 1 then [[1, 0, 0, 0], [0, 1, 0, 0], [0, 0, 1, 0], [0, 0, 0, 1], [1, 1, 0, 0], [0, 0, 1, 1], [1, 2, 4, 8], [1, 3, 9, 27]].getD at_ []
  else [1, at_ + 1, (at_ + 1) * (at_ + 1) % 31, (at_ + 1) * (at_ + 1) * (at_ + 1) % 31]
/-- rows of shards that are there. -/
def crows (kind : Nat) (there : List Bool) : List (List Int) := ((List.range 8).filter fun i => there.getD i false).map (crow kind)
def bears (kind : Nat) (there : List Bool) : Bool := (ltidy (crows kind there)).length == 4
/-- flags by the bits of a number. -/
def bits (n : Nat) : List Bool := (List.range 8).map fun i => n / 2 ^ i % 2 == 1
def many (there : List Bool) : Nat := there.count true
def most (kind : Nat) : Nat := if kind = 1 then 3 else 4

theorem crow_row {kind at_ : Nat} (hk : kind = 1 ∨ kind = 2) (ha : at_ < 8) : Row 4 (crow kind at_) := by
  rw [← row_ok]
  have h1 : ∀ a : Nat, a < 8 → Vec.ok (crow 1 a) = true := by decide +kernel
  have h2 : ∀ a : Nat, a < 8 → Vec.ok (crow 2 a) = true := by decide +kernel
  rcases hk with rfl | rfl
  · exact h1 _ ha
  · exact h2 _ ha
theorem crows_row {kind : Nat} (hk : kind = 1 ∨ kind = 2) (there : List Bool) : ∀ r ∈ crows kind there, Row 4 r := by
  intro r hr
  obtain ⟨i, hi, rfl⟩ := List.mem_map.1 hr
  exact crow_row hk (by have := (List.mem_filter.1 hi).1; simpa using this)

/-- flags as a number. -/
def num : List Bool → Nat
  | [] => 0
  | b :: l => (if b then 1 else 0) + 2 * num l
theorem bits_num {there : List Bool} (h : there.length = 8) : bits (num there) = there ∧ num there < 256 := by
  have key : ∀ a b c d e f g k : Bool, bits (num [a, b, c, d, e, f, g, k]) = [a, b, c, d, e, f, g, k] ∧ num [a, b, c, d, e, f, g, k] < 256 := by decide +kernel
  match there, h with
  | [a, b, c, d, e, f, g, k], _ => exact key a b c d e f g k
theorem by_bits {P : List Bool → Prop} (h : ∀ n, n < 256 → P (bits n)) {there : List Bool} (hl : there.length = 8) : P there := by
  obtain ⟨h1, h2⟩ := bits_num hl
  rw [← h1]; exact h _ h2

/-- BEARS SO MANY. -/
theorem bears_few {kind : Nat} (hk : kind = 1 ∨ kind = 2) {there : List Bool} (hl : there.length = 8) (h : 8 - many there ≤ most kind) : bears kind there = true := by
  have h1 : ∀ n, n < 256 → (8 - many (bits n) ≤ most 1 → bears 1 (bits n) = true) := by decide +kernel
  have h2 : ∀ n, n < 256 → (8 - many (bits n) ≤ most 2 → bears 2 (bits n) = true) := by decide +kernel
  rcases hk with rfl | rfl
  · exact by_bits (P := fun t => 8 - many t ≤ most 1 → bears 1 t = true) h1 hl h
  · exact by_bits (P := fun t => 8 - many t ≤ most 2 → bears 2 t = true) h2 hl h
/-- and not more. -/
theorem bears_not {kind : Nat} (hk : kind = 1 ∨ kind = 2) : ∃ n, n < 256 ∧ 8 - many (bits n) = most kind + 1 ∧ bears kind (bits n) = false := by
  rcases hk with rfl | rfl
  · exact ⟨23, by decide +kernel⟩
  · exact ⟨7, by decide +kernel⟩
/-- ANY ARE ENOUGH. -/
theorem wide_any {there : List Bool} (hl : there.length = 8) : bears 2 there = decide (4 ≤ many there) := by
  have h : ∀ n, n < 256 → bears 2 (bits n) = decide (4 ≤ many (bits n)) := by decide +kernel
  exact by_bits (P := fun t => bears 2 t = decide (4 ≤ many t)) h hl

/-- enough shards: every row is made of theirs. -/
theorem bears_full {kind : Nat} (hk : kind = 1 ∨ kind = 2) {there : List Bool} (h : bears kind there = true) {v : V} (hv : Four v) : In ((crows kind there).map toV) v := by
  obtain ⟨L, hL, s⟩ := ltidy_is (crows_row hk there)
  exact (s.iff v).1 (hL.full (by simpa [bears] using h) hv)
/-- numbers that are alike in enough shards are alike. -/
theorem same_data {kind : Nat} (hk : kind = 1 ∨ kind = 2) {there : List Bool} (h : bears kind there = true) {a b : V} (hs : ∀ r ∈ crows kind there, dot (toV r) a = dot (toV r) b) : ∀ j, j < 4 → a j = b j := by
  intro j hj
  have hu : Four (fun i => if i = j then (1 : F) else 0) := fun i hi => by simp [show i ≠ j by omega]
  have h1 := (bears_full hk h hu).dot_same (d := a) (e := b) fun r hr => by
    obtain ⟨r', hr', rfl⟩ := List.mem_map.1 hr
    exact hs r' hr'
  have hd : ∀ x : V, dot (fun i => if i = j then (1 : F) else 0) x = x j := by
    intro x
    unfold dot
    rcases (by omega : j = 0 ∨ j = 1 ∨ j = 2 ∨ j = 3) with rfl | rfl | rfl | rfl <;> (simp; grind)
  rw [hd, hd] at h1
  exact h1
/-- FAR APART: numbers that are not alike differ in more shards than may be lost. -/
theorem far_apart {kind : Nat} (hk : kind = 1 ∨ kind = 2) {a b : V} (hne : ∃ j, j < 4 ∧ a j ≠ b j) : most kind < 8 - many ((List.range 8).map fun i => decide (dot (toV (crow kind i)) a = dot (toV (crow kind i)) b)) := by
  refine Classical.byContradiction fun hle => ?_
  obtain ⟨j, hj, hab⟩ := hne
  refine hab (same_data hk (there := (List.range 8).map fun i => decide (dot (toV (crow kind i)) a = dot (toV (crow kind i)) b)) (bears_few hk (by simp) (by omega)) ?_ j hj)
  intro r hr
  obtain ⟨i, hi, rfl⟩ := List.mem_map.1 hr
  have h1 := List.mem_filter.1 hi
  have hi8 : i < 8 := by simpa using h1.1
  have h2 := h1.2
  simp [List.getD_eq_getElem?_getD, hi8] at h2
  exact h2

/-- numbers, each so often, together. -/
def wsum (c g : Nat → F) : Nat → F
  | 0 => 0
  | n + 1 => c 0 * g 0 + wsum (fun i => c (i + 1)) (fun i => g (i + 1)) n
theorem wsum_congr : ∀ (n : Nat) {c d g h : Nat → F}, (∀ i, i < n → c i = d i) → (∀ i, i < n → g i = h i) → wsum c g n = wsum d h n := by
  intro n
  induction n with
  | zero => intro c d g h _ _; rfl
  | succ n ih =>
    intro c d g h h1 h2
    show c 0 * g 0 + _ = d 0 * h 0 + _
    rw [h1 0 (by omega), h2 0 (by omega), ih (fun i hi => h1 (i + 1) (by omega)) (fun i hi => h2 (i + 1) (by omega))]
theorem dot_wsum (d : V) : ∀ (A : List V) (c : Nat → F), dot (comb c A) d = wsum c (fun i => dot (A.getD i (fun _ => 0)) d) A.length := by
  intro A
  induction A with
  | nil => intro c; exact dot_none d
  | cons a A ih =>
    intro c
    rw [dot_comb, ih]
    rfl

/-- the model's way to tell whether values fit: by rows that are not made of those ahead. -/
def fit (has : List (List Int) → List Int → Bool) (by_ : List (List Int) → List Int → List Int) : List (List Int × Int) → List (List Int) → List Int → Prop
  | [], _, _ => True
  | (r, x) :: ps, R, G => if has R r then (wsum (fun i => toF ((by_ R r).getD i 0)) (fun i => toF (G.getD i 0)) R.length = toF x ∧ fit has by_ ps R G) else fit has by_ ps (R ++ [r]) (G ++ [x])
/-- values fit, if they are all of one of numbers. -/
theorem fit_iff {has : List (List Int) → List Int → Bool} {by_ : List (List Int) → List Int → List Int} (hh : ∀ m v, (∀ r ∈ m, Row 4 r) → Row 4 v → (has m v = true ↔ Made m v))
    (hb : ∀ m v, (∀ r ∈ m, Row 4 r) → Row 4 v → Made m v → ∀ j, j < 4 → toV v j = comb (fun i => toF ((by_ m v).getD i 0)) (m.map toV) j) :
    ∀ (ps : List (List Int × Int)) (R : List (List Int)) (G : List Int), (∀ p ∈ ps, Row 4 p.1) → (∀ r ∈ R, Row 4 r) → R.length = G.length → (∀ i (hi : i < R.length), ¬ Made (R.take i) R[i]) →
      (fit has by_ ps R G ↔ ∃ d : V, (∀ i (hi : i < R.length), dot (toV R[i]) d = toF (G.getD i 0)) ∧ ∀ p ∈ ps, dot (toV p.1) d = toF p.2) := by
  intro ps
  induction ps with
  | nil =>
    intro R G _ hR hl hi
    obtain ⟨d, hd⟩ := solve R.length rfl hR hi (fun i => toF (G.getD i 0))
    exact ⟨fun _ => ⟨d, hd, by simp⟩, fun _ => trivial⟩
  | cons p ps ih =>
    intro R G hp hR hl hi
    obtain ⟨r, x⟩ := p
    have hr : Row 4 r := hp (r, x) (by simp)
    have hps : ∀ p ∈ ps, Row 4 p.1 := fun p h => hp p (by simp [h])
    unfold fit
    by_cases hm : has R r = true
    · rw [if_pos hm]
      have hmade := (hh R r hR hr).1 hm
      have hdot : ∀ d : V, (∀ i (hi : i < R.length), dot (toV R[i]) d = toF (G.getD i 0)) → dot (toV r) d = wsum (fun i => toF ((by_ R r).getD i 0)) (fun i => toF (G.getD i 0)) R.length := by
        intro d hd
        rw [dot_eq (u := toV r) (hb R r hR hr hmade), dot_wsum, List.length_map]
        refine wsum_congr _ (fun _ _ => rfl) fun i hi' => ?_
        rw [List.getD_eq_getElem?_getD, List.getElem?_map, List.getElem?_eq_getElem hi']
        exact hd i hi'
      rw [ih R G hps hR hl hi]
      constructor
      · rintro ⟨h1, d, h2, h3⟩
        refine ⟨d, h2, fun q hq => ?_⟩
        rcases List.mem_cons.1 hq with rfl | hq
        · rw [hdot d h2]; exact h1
        · exact h3 q hq
      · rintro ⟨d, h2, h3⟩
        exact ⟨by rw [← hdot d h2]; exact h3 (r, x) (by simp), d, h2, fun q hq => h3 q (by simp [hq])⟩
    · rw [if_neg hm]
      have hno : ¬ Made R r := fun k => hm ((hh R r hR hr).2 k)
      rw [ih (R ++ [r]) (G ++ [x]) hps (fun s hs => by
        rcases List.mem_append.1 hs with hs | hs
        · exact hR s hs
        · simp at hs; subst hs; exact hr) (by simp [hl]) (fun i hi' => by
          by_cases hlt : i < R.length
          · rw [List.take_append_of_le_length (by omega), List.getElem_append_left hlt]; exact hi i hlt
          · have e : i = R.length := by simp at hi'; omega
            subst e
            rw [List.take_append_of_le_length (Nat.le_refl _), List.take_length]
            simpa using hno)]
      constructor
      · rintro ⟨d, h2, h3⟩
        refine ⟨d, fun i hi' => ?_, fun q hq => ?_⟩
        · have := h2 i (by simp; omega)
          rw [List.getElem_append_left hi', List.getD_eq_getElem?_getD, List.getElem?_append_left (by omega), ← List.getD_eq_getElem?_getD] at this
          exact this
        · rcases List.mem_cons.1 hq with rfl | hq
          · have := h2 R.length (by simp)
            simp only [List.getElem_concat_length] at this
            rw [this, List.getD_eq_getElem?_getD, hl]
            simp
          · exact h3 q hq
      · rintro ⟨d, h2, h3⟩
        refine ⟨d, fun i hi' => ?_, fun q hq => h3 q (by simp [hq])⟩
        by_cases hlt : i < R.length
        · rw [List.getElem_append_left hlt, List.getD_eq_getElem?_getD, List.getElem?_append_left (by omega), ← List.getD_eq_getElem?_getD]
          exact h2 i hlt
        · have e : i = R.length := by simp at hi'; omega
          subst e
          simp only [List.getElem_concat_length]
          rw [h3 (r, x) (by simp), List.getD_eq_getElem?_getD, hl]
          simp
end Go.Proofs.Ytbpkfcaokbidnab.Sp
