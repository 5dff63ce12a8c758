/-
  The first rows, plainly: where they stand, that they make the same rows, that none is made of those ahead.
  Conditions: none.
-/
import Derived.Test.YtdbajokjhllekaaSpanLaws
namespace Go.Proofs.Ytdbajokjhllekaa
open Go.RowKit
set_option linter.unusedVariables false
namespace Sp

theorem firsts_split {m : List (List Int)} {i : Nat} (hi : i < m.length) : ∃ R, firsts has m = firsts has (m.take (i + 1)) ++ R ∧ ∀ r ∈ R, i < r := by
  have key : ∀ j, i + 1 + j ≤ m.length → ∃ R, firsts has (m.take (i + 1 + j)) = firsts has (m.take (i + 1)) ++ R ∧ ∀ r ∈ R, i < r := by
    intro j
    induction j with
    | zero => intro _; exact ⟨[], by simp, by simp⟩
    | succ j ih =>
      intro h
      obtain ⟨R, e, hR⟩ := ih (by omega)
      have := firsts_take (m := m) (k := i + 1 + j) (by omega)
      refine ⟨R ++ (if has (m.take (i + 1 + j)) (m.getD (i + 1 + j) []) then [] else [i + 1 + j]), ?_, ?_⟩
      · rw [show i + 1 + (j + 1) = (i + 1 + j) + 1 by omega, this, e, List.append_assoc]
      · intro r hr
        rcases List.mem_append.1 hr with h | h
        · exact hR r h
        · split at h
          · cases h
          · simp at h; omega
  obtain ⟨R, e, hR⟩ := key (m.length - (i + 1)) (by omega)
  rw [show i + 1 + (m.length - (i + 1)) = m.length by omega, List.take_length] at e
  exact ⟨R, e, hR⟩
/-- a row that is a first one stands where as many have come ahead. -/
theorem firsts_yes {m : List (List Int)} {i : Nat} (hi : i < m.length) (h : has (m.take i) (m.getD i []) = false) : (firsts has (m.take i)).length < (firsts has m).length ∧ (firsts has m).getD (firsts has (m.take i)).length 0 = i := by
  obtain ⟨R, e, _⟩ := firsts_split hi
  rw [firsts_take hi, h] at e
  have e' : firsts has m = firsts has (m.take i) ++ (i :: R) := by rw [e]; simp
  rw [e']
  exact ⟨by simp, by simp [List.getD_eq_getElem?_getD]⟩
theorem firsts_no {m : List (List Int)} {i : Nat} (hi : i < m.length) (h : has (m.take i) (m.getD i []) = true) (hl : (firsts has (m.take i)).length < (firsts has m).length) : (firsts has m).getD (firsts has (m.take i)).length 0 ≠ i := by
  obtain ⟨R, e, hR⟩ := firsts_split hi
  rw [firsts_take hi, h] at e
  have e' : firsts has m = firsts has (m.take i) ++ R := by rw [e]; simp
  rw [e'] at hl ⊢
  rw [List.getD_eq_getElem?_getD, List.getElem?_append_right (Nat.le_refl _), Nat.sub_self]
  cases R with
  | nil => simp at hl
  | cons r R => simp; have := hR r (by simp); omega
/-- rows told by their places. -/
def sel (m : List (List Int)) (F : List Nat) : List (List Int) := F.map fun j => m.getD j []
theorem first_lt {m : List (List Int)} : ∀ j ∈ firsts has m, j < m.length := fun j hj => by
  unfold firsts at hj; exact List.mem_range.1 (List.mem_filter.1 hj).1
theorem sel_ok {m : List (List Int)} (hm : okM m = true) : okM (sel m (firsts has m)) = true := by
  have h8 := okM_len hm
  have hl := first_len m
  refine okM_yes (by unfold sel; rw [List.length_map]; omega) (fun i hi => ?_)
  unfold sel at hi ⊢
  rw [List.length_map] at hi
  rw [List.getD_eq_getElem?_getD, List.getElem?_map, List.getElem?_eq_getElem hi]
  exact okM_get hm (first_lt _ (List.getElem_mem hi))
theorem sel_same {m : List (List Int)} (hm : okM m = true) : Same ((sel m (firsts has m)).map toV) (m.map toV) := by
  constructor
  · intro a ha
    obtain ⟨r, hr, rfl⟩ := List.mem_map.1 ha
    obtain ⟨j, hj, rfl⟩ := List.mem_map.1 hr
    have hl := first_lt j hj
    refine In.mem (List.mem_map.2 ⟨m.getD j [], ?_, rfl⟩)
    rw [List.getD_eq_getElem?_getD, List.getElem?_eq_getElem hl]; exact List.getElem_mem hl
  · have key : ∀ k, k ≤ m.length → ∀ a ∈ (m.take k).map toV, In ((sel m (firsts has m)).map toV) a := by
      intro k
      induction k with
      | zero => intro _ a ha; simp at ha
      | succ k ih =>
        intro hk a ha
        rw [Sp.take_more m (by omega), List.map_append] at ha
        rcases List.mem_append.1 ha with ha | ha
        · exact ih (by omega) a ha
        · simp only [List.map_cons, List.map_nil, List.mem_singleton] at ha
          subst ha
          have hr := fresh_row (okM_all hm) (show k < m.length by omega)
          cases hh : has (m.take k) (m.getD k []) with
          | true => exact ((has_iff (fun r h => okM_all hm r (List.mem_of_mem_take h)) hr).1 hh).trans (ih (by omega))
          | false =>
            refine In.mem (List.mem_map.2 ⟨m.getD k [], List.mem_map.2 ⟨k, ?_, rfl⟩, rfl⟩)
            unfold firsts
            rw [List.mem_filter]
            exact ⟨List.mem_range.2 (by omega), by rw [hh]; rfl⟩
    intro b hb
    exact key m.length (Nat.le_refl _) b (by rw [List.take_length]; exact hb)
theorem sel_sameM {m : List (List Int)} (hm : okM m = true) : sameM (sel m (firsts has m)) m = true := by
  have := (ltidy_same (okM_all (sel_ok hm)) (okM_all hm)).2 (sel_same hm)
  simp [sameM, hm, sel_ok hm, this]
end Sp
theorem has_hasM {m : List (List Int)} (hm : okM m = true) {i : Nat} (hi : i < m.length) : hasM (m.take i) (m.getD i []) = Sp.has (m.take i) (m.getD i []) := by
  simp only [hasM, okM_take hm i, okM_get hm hi, Bool.and_self, Bool.true_and]
end Go.Proofs.Ytdbajokjhllekaa
