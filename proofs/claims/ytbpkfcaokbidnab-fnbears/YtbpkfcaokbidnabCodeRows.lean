/-
  CodeRow, of the program and of the model, at whatever two integers.
  Conditions: none.
-/
import Derived.Test.YtbpkfcaokbidnabCodeGen3
import Derived.Test.YtbpkfcaokbidnabCodeSpec
namespace Go.Proofs.Ytbpkfcaokbidnab
open Go.RowKit
set_option linter.unusedVariables false

/-- the row that CodeRow answers, and whether there is one. -/
def rowM (k n : Int) : List Int := if (k = 1 ∨ k = 2) ∧ 0 ≤ n ∧ n < 8 then Sp.crow k.toNat n.toNat else []
def rowB (k n : Int) : Bool := decide ((k = 1 ∨ k = 2) ∧ 0 ≤ n ∧ n < 8)
theorem row_cases (k n : Int) : (∃ a i : Nat, k = a ∧ n = i ∧ (a = 1 ∨ a = 2) ∧ i < 8 ∧ rowM k n = Sp.crow a i ∧ rowB k n = true) ∨ (rowM k n = [] ∧ rowB k n = false ∧ ((∃ a : Nat, k = a ∧ (a = 1 ∨ a = 2) ∧ (n < 0 ∨ 8 ≤ n)) ∨ (k ≠ 1 ∧ k ≠ 2))) := by
  by_cases h : (k = 1 ∨ k = 2) ∧ 0 ≤ n ∧ n < 8
  · left
    refine ⟨k.toNat, n.toNat, by omega, by omega, by omega, by omega, ?_, ?_⟩
    · unfold rowM; rw [if_pos h]
    · unfold rowB; exact decide_eq_true h
  · right
    refine ⟨by unfold rowM; rw [if_neg h], by unfold rowB; exact decide_eq_false h, ?_⟩
    by_cases hk : k = 1 ∨ k = 2
    · exact .inl ⟨k.toNat, by omega, by omega, by omega⟩
    · exact .inr ⟨by omega, by omega⟩
theorem rowM_len (k n : Int) : (rowM k n).length ≤ 4 := by
  rcases row_cases k n with ⟨a, i, rfl, rfl, ha, hi, h1, h2⟩ | ⟨h1, h2, _⟩
  · rw [h1, (Sp.crow_row ha hi).1]; omega
  · rw [h1]; simp

theorem specRow (k n : Int) (w : World) : Calls Try.prog 31 #[.int .i64 k, .int .i64 n] w (NewInts2 (rowM k n) (rowB k n) w) := by
  rcases row_cases k n with ⟨a, i, rfl, rfl, ha, hi, h1, h2⟩ | ⟨h1, h2, ⟨a, rfl, ha, hn⟩ | ⟨h3, h4⟩⟩
  · rw [h1, h2]; exact specRowYes ha hi w
  · rw [h1, h2]; exact specRowOut ha hn w
  · rw [h1, h2]; exact specRowNo h3 h4 n w

theorem implRow (k n : Int) (w : World) : Calls Try.prog 32 #[.int .i64 k, .int .i64 n] w (NewInts2 (rowM k n) (rowB k n) w) := by
  rcases row_cases k n with ⟨a, i, rfl, rfl, ha, hi, h1, h2⟩ | ⟨h1, h2, ⟨a, rfl, ha, hn⟩ | ⟨h3, h4⟩⟩
  · rw [h1, h2]; exact codeRowYes ha hi w
  · rw [h1, h2]; exact codeRowOut ha hn w
  · rw [h1, h2]; exact codeRowNo h3 h4 n w
end Go.Proofs.Ytbpkfcaokbidnab
