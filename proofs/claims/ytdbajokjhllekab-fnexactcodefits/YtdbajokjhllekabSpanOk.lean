/-
  Whether a table is a matrix (at most eight rows of four numbers of the field each): the contracts of the program's SpanOk and of its model's.
  Conditions: none.
-/
import Derived.Test.YtdbajokjhllekabSpanHelp2
import Derived.Test.YtdbajokjhllekabSpanWork
namespace Go.Proofs.Ytdbajokjhllekab
open Go.RowKit
set_option linter.unusedVariables false

/-- a matrix. -/
def okM (m : List (List Int)) : Bool := decide (m.length ≤ 8) && m.all Vec.ok
theorem okM_len {m : List (List Int)} (h : okM m = true) : m.length ≤ 8 := by simp [okM] at h; exact h.1
theorem okM_all {m : List (List Int)} (h : okM m = true) : ∀ r ∈ m, Sp.Row 4 r := by
  intro r hr
  simp only [okM, Bool.and_eq_true, List.all_eq_true] at h
  exact Sp.row_ok.1 (h.2 r hr)
theorem okM_get {m : List (List Int)} (h : okM m = true) {i : Nat} (hi : i < m.length) : Vec.ok (m.getD i []) = true := by
  rw [List.getD_eq_getElem?_getD, List.getElem?_eq_getElem hi]; exact Sp.row_ok.2 (okM_all h _ (List.getElem_mem hi))
theorem okM_yes {m : List (List Int)} (h8 : m.length ≤ 8) (h : ∀ i, i < m.length → Vec.ok (m.getD i []) = true) : okM m = true := by
  simp only [okM, Bool.and_eq_true, List.all_eq_true, decide_eq_true_eq]
  refine ⟨h8, fun r hr => ?_⟩
  obtain ⟨i, hi, rfl⟩ := List.getElem_of_mem hr
  have := h i hi
  simpa [List.getD_eq_getElem?_getD, hi] using this
theorem okM_many {m : List (List Int)} (h : ¬ m.length ≤ 8) : okM m = false := by simp [okM, h]
theorem okM_no {m : List (List Int)} {i : Nat} (hi : i < m.length) (h : Vec.ok (m.getD i []) = false) : okM m = false := by
  cases e : okM m with
  | false => rfl
  | true => rw [okM_get e hi] at h; cases h