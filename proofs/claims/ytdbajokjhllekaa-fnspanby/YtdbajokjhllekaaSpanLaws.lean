/-
  Words for the laws of chapter 3: a table that is copied row by row, its parts, and what is plain of matrices and their parts.
  Conditions: none.
-/
import Derived.Test.YtdbajokjhllekaaSpanSpec4
namespace Go.Proofs.Ytdbajokjhllekaa
open Go.RowKit
set_option linter.unusedVariables false

theorem tab_one {w : World} {v : Value} {us : List Value} {m : List (List Int)} (h : Tab w v us m) : ∀ u ∈ us, u.oneCell' = true := by
  intro u hu
  obtain ⟨i, hi, rfl⟩ := List.getElem_of_mem hu
  have hm : i < m.length := by rw [← h.len]; exact hi
  obtain ⟨a, cap, e, _⟩ := h.rows i us[i] m[i] (List.getElem?_eq_getElem hi) (List.getElem?_eq_getElem hm)
  rw [e]; rfl
theorem tab_cells {w : World} {b o cap n : Nat} {us : List Value} {m : List (List Int)} (h : Tab w (.slice (some ⟨b, o, none⟩) n cap) us m) : ∀ (j : Nat) (u : Value), us[j]? = some u → w.cell? ((⟨b, o, none⟩ : Addr).add j) = some u := by
  intro j u hu
  obtain ⟨a, cap', e, _, _, h3⟩ := h.top
  injection e with e1 e2 e3
  subst e1
  rcases h3 with rfl | ⟨b', o', e, h3⟩
  · rw [List.eq_nil_of_length_eq_zero (l := us) (by simpa using h.len)] at hu
    simp at hu
  · injection e with e
    injection e with e e'
    subst e e'
    rw [Addr.add_lit]; exact h3 j u hu
/-- 'append([][]int{}, m...)'. -/
theorem stab_copy {w w2 : World} {base n : Nat} {o o' : Value} {us : List Value} {m : List (List Int)} (ho : w.ownsRow base 24 1 o 0 []) (hl : us.length = m.length) (hr : ∀ (i : Nat) (u : Value) (l : List Int), us[i]? = some u → m[i]? = some l → Sl w u l ∧ IntRow w u)
    (hg : w.grownBy w2 o.ownBlock) (ho2 : w2.ownsRow base 24 1 o' n ([] ++ us)) (hn : n = us.length) : STab w2 base o' us m := by
  subst hn
  exact ⟨ho2, hl, fun i u l hu hlm => row_kept (hr i u l hu hlm) ho hg⟩
theorem Tab.drop {w : World} {b o cap : Nat} {us : List Value} {m : List (List Int)} (h : Tab w (.slice (some ⟨b, o, none⟩) m.length cap) us m) {k : Nat} (hk : k ≤ m.length) {a : Option Addr} (ha : ¬ cap = k → a = some ⟨b, o + k, none⟩) : Tab w (.slice a (m.length - k) (cap - k)) (us.drop k) (m.drop k) := by
  obtain ⟨a', cap', e, h1, h2, h3⟩ := h.top
  injection e with e1 e2 e3
  subst e1 e3
  refine ⟨by rw [List.length_drop, List.length_drop, h.len], ?_, fun i u l hu hl => ?_⟩
  · refine ⟨a, cap - k, by rw [List.length_drop], by rw [List.length_drop]; omega, by omega, ?_⟩
    by_cases hkm : m.length = k
    · left; rw [← hkm]; simp
    · right
      rcases h3 with rfl | ⟨b', o', e, h3⟩
      · simp at hkm hk; omega
      · injection e with e
        injection e with e e'
        subst e e'
        refine ⟨b, o + k, ha (by omega), fun i u hu => ?_⟩
        rw [List.getElem?_drop] at hu
        have := h3 (k + i) u hu
        rw [show o + k + i = o + (k + i) by omega]
        exact this
  · rw [List.getElem?_drop] at hu hl
    exact h.rows (k + i) u l hu hl
theorem drawn_form {w : World} {base : Nat} {v : Value} {us : List Value} {m : List (List Int)} (h : STab w base v us m) (hn : ∃ x n c, v = .slice (some x) n c) : ∃ b o cap, v = .slice (some ⟨b, o, none⟩) m.length cap ∧ m.length ≤ cap ∧ cap ≤ maxLen := by
  obtain ⟨a, cap, e, h1, h2, _⟩ := h.tab.top
  obtain ⟨x, n, c, e'⟩ := hn
  rcases h.top.2 with ⟨e2, _⟩ | ⟨g, c2, cur, e2, _⟩
  · rw [e2] at e'; cases e'
  · rw [e2] at e
    injection e with e3 e4 e5
    subst e3
    exact ⟨g, 0, cap, by rw [e2, e4, e5], h1, h2⟩
theorem okM_take {m : List (List Int)} (h : okM m = true) (k : Nat) : okM (m.take k) = true := by
  have h8 := okM_len h
  refine okM_yes (by rw [List.length_take]; omega) (fun i hi => ?_)
  rw [List.length_take] at hi
  have := okM_get h (i := i) (by omega)
  rwa [List.getD_eq_getElem?_getD, List.getElem?_take, if_pos (by omega), ← List.getD_eq_getElem?_getD]
theorem okM_drop {m : List (List Int)} (h : okM m = true) (k : Nat) : okM (m.drop k) = true := by
  have h8 := okM_len h
  refine okM_yes (by rw [List.length_drop]; omega) (fun i hi => ?_)
  rw [List.length_drop] at hi
  have := okM_get h (i := k + i) (by omega)
  rwa [List.getD_eq_getElem?_getD, List.getElem?_drop, ← List.getD_eq_getElem?_getD]
theorem okM_bad (m : List (List Int)) : okM (m ++ [[1, 2, 3]]) = false := okM_no (i := m.length) (by simp) (by simp; rfl)
theorem stab_take {w : World} {base : Nat} {v : Value} {us : List Value} {m : List (List Int)} (h : STab w base v us m) (k : Nat) : (us.take k).length = (m.take k).length ∧ ∀ (i : Nat) (u : Value) (l : List Int), (us.take k)[i]? = some u → (m.take k)[i]? = some l → Sl w u l ∧ IntRow w u := by
  refine ⟨by rw [List.length_take, List.length_take, h.len], fun i u l hu hl => ?_⟩
  rw [List.getElem?_take] at hu hl
  split at hu
  · rename_i hi
    rw [if_pos hi] at hl
    exact h.rows i u l hu hl
  · cases hu
end Go.Proofs.Ytdbajokjhllekaa
