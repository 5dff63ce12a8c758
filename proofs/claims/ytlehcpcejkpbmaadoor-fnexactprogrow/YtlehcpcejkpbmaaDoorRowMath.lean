/-
  What a program makes of the rows of a code, row by row; rows laid one behind another.
  Conditions: none.
-/
import Derived.Test.YtlehcpcejkpbmaaDoorProgMath
import Derived.Test.YtlehcpcejkpbmaaDoorG3
namespace Go.Proofs.YtlehcpcejkpbmaaDoor
open Go.RowKit
set_option linter.unusedVariables false

/-- rows of four, one behind another. -/
def quad (f : Nat → List Int) (m : Nat) : List Int := (List.range m).flatMap f
theorem quad_succ (f : Nat → List Int) (m : Nat) : quad f (m + 1) = quad f m ++ f m := by simp [quad, List.range_succ]
theorem quad_len {f : Nat → List Int} (hf : ∀ p, (f p).length = 4) : ∀ m, (quad f m).length = m * 4
  | 0 => rfl
  | m + 1 => by rw [quad_succ, List.length_append, quad_len hf m, hf]; omega
theorem quad_get {f : Nat → List Int} (hf : ∀ p, (f p).length = 4) : ∀ m {p : Nat}, p < m → ∀ {c : Nat}, c < 4 → (quad f m).getD (p * 4 + c) 0 = (f p).getD c 0
  | 0, p, h, _, _ => by omega
  | m + 1, p, h, c, hc => by
    rw [quad_succ]
    by_cases hp : p < m
    · rw [getD_left (by rw [quad_len hf]; omega), quad_get hf m hp hc]
    · obtain rfl : p = m := by omega
      rw [List.getD_eq_getElem?_getD, List.getElem?_append_right (by rw [quad_len hf]; omega), quad_len hf, show p * 4 + c - p * 4 = c by omega, ← List.getD_eq_getElem?_getD]
theorem quad_set {f g : Nat → List Int} {a b c d : Int} {p : Nat} (hf : ∀ q, (f q).length = 4) (hp : g p = [a, b, c, d]) : ∀ m, p < m → (∀ q, q ≠ p → g q = f q) →
    ((((quad f m).set (p * 4) a).set (p * 4 + 1) b).set (p * 4 + 2) c).set (p * 4 + 3) d = quad g m
  | 0, h, _ => by omega
  | m + 1, h, hg => by
    have hl := quad_len hf m
    rw [quad_succ, quad_succ]
    by_cases hpm : p < m
    · rw [List.set_append_left _ _ (by omega), List.set_append_left _ _ (by simp; omega), List.set_append_left _ _ (by simp; omega), List.set_append_left _ _ (by simp; omega), quad_set hf hp m hpm hg, hg m (by omega)]
    · obtain rfl : p = m := by omega
      have e : quad g p = quad f p := by
        unfold quad
        rw [List.flatMap_def, List.flatMap_def]
        congr 1
        exact List.map_congr_left fun q hq => hg q (by have := List.mem_range.1 hq; omega)
      rw [List.set_append_right _ _ (by omega), List.set_append_right _ _ (by omega), List.set_append_right _ _ (by omega), List.set_append_right _ _ (by omega), hl, Nat.sub_self, e, hp, show p * 4 + 1 - p * 4 = 1 by omega, show p * 4 + 2 - p * 4 = 2 by omega, show p * 4 + 3 - p * 4 = 3 by omega]
      have h4 := hf p
      obtain ⟨x, y, z, t, e4⟩ : ∃ x y z t, f p = [x, y, z, t] := by
        match h : f p, h4 with
        | [x, y, z, t], _ => exact ⟨x, y, z, t, rfl⟩
      rw [e4]
      rfl
theorem set_far {l : List Int} {i q : Nat} (h : i ≠ q) (a : Int) : (l.set i a).getD q 0 = l.getD q 0 := by simp [List.getD_eq_getElem?_getD, h]
theorem set_four {l : List Int} {n j e : Nat} (h : j < n) (he : e < 4) (a b c d : Int) : ((((l.set (n * 4) a).set (n * 4 + 1) b).set (n * 4 + 2) c).set (n * 4 + 3) d).getD (j * 4 + e) 0 = l.getD (j * 4 + e) 0 := by
  rw [set_far (by omega), set_far (by omega), set_far (by omega), set_far (by omega)]

/-- the results behind the first n steps, as rows. -/
def resF (k : Nat) (L : List Stp) (n p : Nat) : List Int := if p < n then rowR k L p else [0, 0, 0, 0]
def resR (k : Nat) (L : List Stp) (n : Nat) : List Int := quad (resF k L n) 16
theorem resF_len (k : Nat) (L : List Stp) (n p : Nat) : (resF k L n p).length = 4 := by unfold resF; split <;> rfl
theorem resR_len (k : Nat) (L : List Stp) (n : Nat) : (resR k L n).length = 64 := quad_len (resF_len k L n) 16
theorem resR_get (k : Nat) (L : List Stp) {n p c : Nat} (hp : p < n) (h : p < 16) (hc : c < 4) : (resR k L n).getD (p * 4 + c) 0 = (rowR k L p).getD c 0 := by
  rw [resR, quad_get (resF_len k L n) 16 h hc, resF, if_pos hp]
theorem resR_set (k : Nat) (L : List Stp) {n : Nat} {a b c d : Int} (h : n < 16) (hr : rowR k L n = [a, b, c, d]) : ((((resR k L n).set (n * 4) a).set (n * 4 + 1) b).set (n * 4 + 2) c).set (n * 4 + 3) d = resR k L (n + 1) :=
  quad_set (resF_len k L n) (by rw [resF, if_pos (by omega)]; exact hr) 16 h (fun q hq => by
    unfold resF
    by_cases h1 : q < n
    · rw [if_pos h1, if_pos (by omega)]
    · rw [if_neg h1, if_neg (by omega)])
theorem resR_zero (k : Nat) (L : List Stp) : resR k L 0 = List.replicate 64 0 := rfl

/-! ### a step's row -/
theorem runS_at (a : List Int) {L : List Stp} {n : Nat} (h : n < L.length) : (runS a L).getD n 0 = stepV a (runS a (L.take n)) (L.getD n szero) := by
  have e : L = (L.take n ++ [L.getD n szero]) ++ L.drop (n + 1) := by rw [← take_snocS h, List.take_append_drop]
  have hl : (L.take n).length = n := by rw [List.length_take]; omega
  have := runS_last a (L := L.take n) (L.getD n szero) (L.drop (n + 1))
  rw [← e, hl] at this
  exact this
theorem runS_before (a : List Int) {L : List Stp} {n p : Nat} (h : n ≤ L.length) (hp : p < n) : (runS a (L.take n)).getD p 0 = (runS a L).getD p 0 := by
  have := runS_get a (L.take n) (L.drop n) (p := p) (by rw [List.length_take]; omega)
  rw [List.take_append_drop] at this
  exact this.symm
theorem rowR_four (k : Nat) (L : List Stp) (p : Nat) : ∃ a b c d, rowR k L p = [a, b, c, d] := ⟨_, _, _, _, rfl⟩
theorem rowR_load {k : Nat} (hk : k = 1 ∨ k = 2) {L : List Stp} {n j : Nat} (h : n < L.length) (hs : L.getD n szero = ⟨1, (j : Int), 0⟩) (hj : j < 8) : rowR k L n = Sp.crow k j := by
  obtain ⟨a, b, c, d, e, _⟩ := crow_four hk hj
  have g : ∀ i, stepV (col k i) (runS (col k i) (L.take n)) ⟨1, (j : Int), 0⟩ = (Sp.crow k j).getD i 0 := fun i => by
    rw [← col_get k i hj]; rfl
  unfold rowR
  rw [runS_at _ h, runS_at _ h, runS_at _ h, runS_at _ h, hs, g, g, g, g, e]
  rfl
theorem rowR_mul {k : Nat} {L : List Stp} {n j : Nat} {y a b c d : Int} (h : n < L.length) (hs : L.getD n szero = ⟨2, (j : Int), y⟩) (hj : j < n) (hr : rowR k L j = [a, b, c, d]) : rowR k L n = [a * y % 31, b * y % 31, c * y % 31, d * y % 31] := by
  have g : ∀ v, stepV v (runS v (L.take n)) ⟨2, (j : Int), y⟩ = (runS v L).getD j 0 * y % 31 := fun v => by
    rw [← runS_before v (Nat.le_of_lt h) hj]; rfl
  unfold rowR at hr ⊢
  injection hr with h0 hr
  injection hr with h1 hr
  injection hr with h2 hr
  injection hr with h3 hr
  rw [runS_at _ h, runS_at _ h, runS_at _ h, runS_at _ h, hs, g, g, g, g, h0, h1, h2, h3]
theorem rowR_add {k : Nat} {L : List Stp} {n j i : Nat} {a b c d a' b' c' d' : Int} (h : n < L.length) (hs : L.getD n szero = ⟨3, (j : Int), (i : Int)⟩) (hj : j < n) (hi : i < n) (hr : rowR k L j = [a, b, c, d]) (hr' : rowR k L i = [a', b', c', d']) :
    rowR k L n = [(a + a') % 31, (b + b') % 31, (c + c') % 31, (d + d') % 31] := by
  have g : ∀ v, stepV v (runS v (L.take n)) ⟨3, (j : Int), (i : Int)⟩ = ((runS v L).getD j 0 + (runS v L).getD i 0) % 31 := fun v => by
    rw [← runS_before v (Nat.le_of_lt h) hj, ← runS_before v (Nat.le_of_lt h) hi]; rfl
  unfold rowR at hr hr' ⊢
  injection hr with h0 hr
  injection hr with h1 hr
  injection hr with h2 hr
  injection hr with h3 hr
  injection hr' with q0 hr'
  injection hr' with q1 hr'
  injection hr' with q2 hr'
  injection hr' with q3 hr'
  rw [runS_at _ h, runS_at _ h, runS_at _ h, runS_at _ h, hs, g, g, g, g, h0, h1, h2, h3, q0, q1, q2, q3]
end Go.Proofs.YtlehcpcejkpbmaaDoor
