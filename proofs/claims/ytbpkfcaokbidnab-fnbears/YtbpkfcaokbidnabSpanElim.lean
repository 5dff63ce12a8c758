/-
  The model's elimination on lists (its l3By): rows of 4 + k numbers, a column cleared, what is left of the row that is looked for. Plain mathematics: it speaks of no program.
  Conditions: none.
-/
import Derived.Test.YtbpkfcaokbidnabSpanWork
namespace Go.Proofs.Ytbpkfcaokbidnab.Sp
set_option linter.unusedVariables false

/-- so many zeros; a 1 among them. -/
theorem row_zeros (k : Nat) : Row k (List.replicate k (0 : Int)) := ⟨by simp, fun x hx => by rw [List.eq_of_mem_replicate hx]; rfl⟩
theorem row_unit (k i : Nat) : Row k ((List.replicate k (0 : Int)).set i 1) := ⟨by simp, fun x hx => by
  rcases List.mem_or_eq_of_mem_set hx with h | rfl
  · exact (row_zeros k).2 x h
  · rfl⟩
theorem toV_zeros (k i : Nat) : toV (List.replicate k (0 : Int)) i = 0 := by
  unfold toV
  rw [List.getD_eq_getElem?_getD, List.getElem?_replicate]
  split <;> rfl
theorem toV_unit {k n : Nat} (hn : n < k) (i : Nat) : toV ((List.replicate k (0 : Int)).set n 1) i = one n i := by
  unfold one
  by_cases h : i = n
  · subst h
    unfold toV
    rw [List.getD_eq_getElem?_getD, List.getElem?_set_self (by simp; exact hn), if_pos rfl]; rfl
  · rw [if_neg h, ← toV_zeros k i]
    unfold toV
    rw [List.getD_eq_getElem?_getD, List.getElem?_set_ne (fun e => h e.symm), ← List.getD_eq_getElem?_getD]

/-- where the elimination stands, in lists. -/
structure El (m : List (List Int)) (v : List Int) (p : Nat) (R : List (List Int)) (s : List Int) : Prop where
  len : R.length = m.length
  row : ∀ i, i < m.length → Row (4 + m.length) (R.getD i [])
  rest : Row (4 + m.length) s
  is : Elim m.length (m.map toV) (toV v) p (fun i => toV (R.getD i [])) (toV s)

/-- the rows that it starts from: so many of them. -/
def start (m : List (List Int)) (n : Nat) : List (List Int) := (List.range n).map fun i => m.getD i [] ++ (List.replicate m.length (0 : Int)).set i 1
theorem start_succ (m : List (List Int)) (n : Nat) : start m (n + 1) = start m n ++ [m.getD n [] ++ (List.replicate m.length (0 : Int)).set n 1] := by simp [start, List.range_succ]
theorem start_length (m : List (List Int)) (n : Nat) : (start m n).length = n := by simp [start]
theorem start_get {m : List (List Int)} {n i : Nat} (h : i < n) : (start m n).getD i [] = m.getD i [] ++ (List.replicate m.length (0 : Int)).set i 1 := by
  simp [start, List.getD_eq_getElem?_getD, List.getElem?_range h]
theorem El.start {m : List (List Int)} {v : List Int} (hm : ∀ r ∈ m, Row 4 r) (hv : Row 4 v) : El m v 0 (start m m.length) (v ++ List.replicate m.length 0) := by
  have hr : ∀ i, i < m.length → Row 4 (m.getD i []) := fun i hi => by
    rw [List.getD_eq_getElem?_getD, List.getElem?_eq_getElem hi]; exact hm _ (List.getElem_mem hi)
  refine ⟨start_length _ _, fun i hi => ?_, row_join hv (row_zeros _), ?_, ?_, fun q hq => by omega, ?_⟩
  · rw [start_get hi]; exact row_join (hr i hi) (row_unit _ _)
  · intro j hj c hc
    rw [start_get hj, toV_left (hr j hj) hc]
    have e : (fun i => toV (m.getD j [] ++ (List.replicate m.length (0 : Int)).set j 1) (4 + i)) = one j := by
      funext i; rw [toV_right (hr j hj), toV_unit hj]
    rw [e, comb_one _ j (by simpa using hj)]
    simp [List.getD_eq_getElem?_getD, hj]
  · intro c hc
    have e : (fun i => toV (v ++ List.replicate m.length 0) (4 + i)) = fun _ => 0 := by funext i; rw [toV_right hv, toV_zeros]
    rw [e, comb_zero, toV_left hv hc]; grind
  · intro a ha
    obtain ⟨r, hr', rfl⟩ := List.mem_map.1 ha
    obtain ⟨j, hj, rfl⟩ := List.getElem_of_mem hr'
    refine (In.mem (List.mem_map.2 ⟨_, List.mem_map.2 ⟨j, by simpa using hj, rfl⟩, rfl⟩)).eq fun c => ?_
    have e : m[j] = m.getD j [] := by simp [List.getD_eq_getElem?_getD, hj]
    by_cases hc : c < 4
    · rw [left_lt _ hc, left_lt _ hc]; rw [start_get hj, toV_left (hr j hj) hc, e]
    · rw [left_ge _ (by omega), left_ge _ (by omega)]

/-- no row begins in the column. -/
theorem El.skip {m : List (List Int)} {v : List Int} {p : Nat} {R : List (List Int)} {s : List Int} (h : El m v p R s) (hn : ∀ i, i < m.length → Vec.first (R.getD i []) 0 ≠ (p : Int)) : El m v (p + 1) R s :=
  ⟨h.len, h.row, h.rest, h.is.skip fun j hj hl => hn j hj (first_lead (h.row j hj) hl)⟩

/-- the rows with the column cleared, so many of them. -/
def clr (p i : Nat) (R : List (List Int)) : Nat → List (List Int)
  | 0 => R
  | n + 1 => if n ≠ i ∧ ((clr p i R n).getD n []).getD p 0 ≠ 0 then (clr p i R n).set n (lless ((clr p i R n).getD n []) ((clr p i R n).getD i [])) else clr p i R n
theorem clr_length (p i : Nat) (R : List (List Int)) : ∀ n, (clr p i R n).length = R.length
  | 0 => rfl
  | n + 1 => by
    rw [clr]
    split
    · rw [List.length_set]; exact clr_length p i R n
    · exact clr_length p i R n
theorem clr_own (p i : Nat) (R : List (List Int)) : ∀ n, (clr p i R n).getD i [] = R.getD i []
  | 0 => rfl
  | n + 1 => by
    rw [clr]
    split
    · rename_i h
      rw [List.getD_eq_getElem?_getD, List.getElem?_set_ne h.1, ← List.getD_eq_getElem?_getD]; exact clr_own p i R n
    · exact clr_own p i R n
theorem clr_far (p i : Nat) (R : List (List Int)) (j : Nat) : ∀ n, n ≤ j → (clr p i R n).getD j [] = R.getD j []
  | 0, _ => rfl
  | n + 1, h => by
    rw [clr]
    split
    · rw [List.getD_eq_getElem?_getD, List.getElem?_set_ne (by omega), ← List.getD_eq_getElem?_getD]; exact clr_far p i R j n (by omega)
    · exact clr_far p i R j n (by omega)
/-- a row that has been done. -/
theorem clr_done (p i : Nat) (R : List (List Int)) (j : Nat) (hj : j < R.length) : ∀ n, j < n → (clr p i R n).getD j [] = if j ≠ i ∧ (R.getD j []).getD p 0 ≠ 0 then lless (R.getD j []) (R.getD i []) else R.getD j []
  | 0, h => by omega
  | n + 1, h => by
    by_cases e : j = n
    · subst e
      rw [clr, clr_far p i R j j (Nat.le_refl _), clr_own]
      by_cases hc : j ≠ i ∧ (R.getD j []).getD p 0 ≠ 0
      · rw [if_pos hc, if_pos hc, List.getD_eq_getElem?_getD, List.getElem?_set_self (by rw [clr_length]; exact hj)]; rfl
      · rw [if_neg hc, if_neg hc]; exact clr_far p i R j j (Nat.le_refl _)
    · rw [← clr_done p i R j hj n (by omega), clr]
      split
      · rw [List.getD_eq_getElem?_getD, List.getElem?_set_ne (by omega), ← List.getD_eq_getElem?_getD]
      · rfl
/-- rows are rows all the while. -/
theorem clr_row {p i k : Nat} {R : List (List Int)} (h : ∀ j, j < R.length → Row k (R.getD j [])) (hi : i < R.length) : ∀ n, ∀ j, j < R.length → Row k ((clr p i R n).getD j []) := by
  intro n j hj
  rcases Nat.lt_or_ge j n with hl | hl
  · rw [clr_done p i R j hj n hl]
    split
    · exact row_lless (h j hj) (h i hi)
    · exact h j hj
  · rw [clr_far p i R j n hl]; exact h j hj

/-- a column is cleared by a row that begins there. -/
theorem El.step {m : List (List Int)} {v : List Int} {p : Nat} {R : List (List Int)} {s : List Int} (h : El m v p R s) {i : Nat} (hi : i < m.length) (hp : Vec.first (R.getD i []) 0 = (p : Int)) (hl : Lead (toV (R.getD i [])) p) :
    El m v (p + 1) (clr p i R m.length) (lless s (R.getD i [])) := by
  have hri := h.row i hi
  have hlen := h.len
  have hne : (R.getD i []).getD p 0 ≠ 0 := fun e => hl.1 (by unfold toV; rw [e]; rfl)
  refine ⟨by rw [clr_length]; exact hlen, fun j hj => clr_row (fun j hj => h.row j (by omega)) (by omega) _ j (by omega), row_lless h.rest hri, ?_⟩
  refine h.is.step hi hl (c := toF (Fld.inv ((R.getD i []).getD p 0))) (toF_inv (hri.get p) hne) (fun j => ?_) (fun n hn hne' j => ?_) (fun j => toV_lless h.rest hri hl j)
  · rw [clr_own]
  · rw [clr_done p i R n (by omega) _ hn]
    split
    · exact toV_lless (h.row n hn) hri hl j
    · rename_i hc
      have h0 : toV (R.getD n []) p = 0 := by
        unfold toV
        rcases Classical.em ((R.getD n []).getD p 0 = 0) with e | e
        · rw [e]; rfl
        · exact absurd ⟨hne', e⟩ hc
      rw [h0]; grind
/-- where a row begins. -/
theorem lead_of {n : Nat} {l : List Int} (h : Row n l) {p : Nat} (hp : Vec.first l 0 = (p : Int)) : p < n ∧ Lead (toV l) p := by
  rcases lead_or h with hz | ⟨q, hq, hl⟩
  · have := first_none h hz
    rw [hp] at this; omega
  · have := first_lead h hl
    have e : q = p := by rw [hp] at this; omega
    subst e
    exact ⟨hq, hl⟩

/-- what l3By answers: numbers that make the row, if it is made of the rows. -/
def Answers (m : List (List Int)) (v : List Int) (b : Bool) (l : List Int) : Prop :=
  (b = true ∧ Made m v ∧ Row m.length l ∧ ∀ j, toV v j = comb (toV l) (m.map toV) j) ∨ (b = false ∧ ¬ Made m v ∧ l = [])
theorem El.no {m : List (List Int)} {v : List Int} {R : List (List Int)} {s : List Int} (h : El m v 4 R s) (hm : ∀ r ∈ m, Row 4 r) (hv : Row 4 v) {p : Nat} (hp : Vec.first s 0 = (p : Int)) (h4 : p < 4) : Answers m v false [] := by
  refine .inr ⟨rfl, fun hmade => ?_, rfl⟩
  obtain ⟨_, hl⟩ := lead_of h.rest hp
  refine hl.1 (h.is.no ?_ p h4)
  have e : (m.map toV).map left = m.map toV := by
    rw [List.map_map]
    exact List.map_congr_left fun r hr => left_row (hm r hr)
  rw [e, left_row hv]; exact hmade
theorem El.yes {m : List (List Int)} {v : List Int} {R : List (List Int)} {s : List Int} (h : El m v 4 R s) (hm : ∀ r ∈ m, Row 4 r) (hv : Row 4 v) (hp : ∀ p : Nat, p < 4 → Vec.first s 0 ≠ (p : Int)) : Answers m v true (lmul (s.drop 4) 30) := by
  have hz : ∀ c, c < 4 → toV s c = 0 := by
    rcases lead_or h.rest with hz | ⟨q, hq, hl⟩
    · exact fun c _ => hz c
    · have hq4 : 4 ≤ q := by
        rcases Nat.lt_or_ge q 4 with hlt | hge
        · exact absurd (first_lead h.rest hl) (hp q hlt)
        · exact hge
      exact fun c hc => hl.2 c (by omega)
  have hd : Row m.length (s.drop 4) := ⟨by rw [List.length_drop, h.rest.1]; omega, fun x hx => h.rest.2 x (List.mem_of_mem_drop hx)⟩
  have h30 : toF 30 = -1 := by decide
  have e : ∀ i, toV (lmul (s.drop 4) 30) i = -(toV s (4 + i)) := by
    intro i
    rw [toV_lmul hd, h30]
    have : toV (s.drop 4) i = toV s (4 + i) := by unfold toV; rw [List.getD_eq_getElem?_getD, List.getElem?_drop, ← List.getD_eq_getElem?_getD]
    rw [this]; grind
  have hsum : ∀ j, toV v j = comb (toV (lmul (s.drop 4) 30)) (m.map toV) j := by
    intro j
    by_cases hj : j < 4
    · rw [h.is.yes hz j hj]
      exact comb_congr _ _ _ _ fun i _ => (e i).symm
    · rw [toV_out hv (by omega)]
      refine (comb_at_zero _ j _ fun x hx => ?_).symm
      obtain ⟨r, hr, rfl⟩ := List.mem_map.1 hx
      exact toV_out (hm r hr) (by omega)
  exact .inl ⟨rfl, ⟨_, hsum⟩, row_lmul hd 30, hsum⟩
end Go.Proofs.Ytbpkfcaokbidnab.Sp
