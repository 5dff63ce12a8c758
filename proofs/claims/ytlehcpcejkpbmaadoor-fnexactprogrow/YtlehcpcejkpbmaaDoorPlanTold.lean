/-
  A plan that is found makes its row: plainly.
  Conditions: none.
-/
import Derived.Test.YtlehcpcejkpbmaaDoorPlanSpecDo
namespace Go.Proofs.YtlehcpcejkpbmaaDoor
open Go.RowKit
set_option linter.unusedVariables false

theorem comb_wsum (j : Nat) : ∀ (A : List Sp.V) (c : Nat → Sp.F), Sp.comb c A j = Sp.wsum c (fun i => (A.getD i (fun _ => 0)) j) A.length
  | [], c => rfl
  | a :: A, c => by
    rw [Sp.comb_cons, comb_wsum j A]
    rfl
theorem dsum_is (a l m : List Int) : ∀ i, Sp.toF (dsum a l m i) = Sp.wsum (Sp.toV m) (fun t => Sp.toF (a.getD (l.getD t 0).toNat 0)) i
  | 0 => rfl
  | i + 1 => by
    rw [Sp.wsum_snoc, ← dsum_is a l m i]
    show Sp.toF ((dsum a l m i + m.getD i 0 * a.getD (l.getD i 0).toNat 0) % 31) = _
    have e : Sp.toF ((dsum a l m i + m.getD i 0 * a.getD (l.getD i 0).toNat 0) % 31) = Sp.toF ((dsum a l m i + m.getD i 0 * a.getD (l.getD i 0).toNat 0 % 31) % 31) := Sp.toF_eq (by omega)
    rw [e, Sp.toF_add, Sp.toF_mul]
    rfl
theorem ints_at {S : List Nat} {i : Nat} (h : i < S.length) : (Sp.ints S).getD i 0 = ((S.getD i 0 : Nat) : Int) := by
  simp [Sp.ints, List.getD_eq_getElem?_getD, h]
theorem getD_memN {S : List Nat} {i : Nat} (h : i < S.length) : S.getD i 0 ∈ S := by
  rw [List.getD_eq_getElem?_getD, List.getElem?_eq_getElem h]; exact List.getElem_mem h
/-- what a plan that is told makes of rows is its row. -/
theorem by_planV {k n : Nat} (hk : k = 1 ∨ k = 2) (hn : n < 8) {S : List Nat} (hS : ∀ i ∈ S, i < 8) {c : List Int} (h : Sp.PlanBy k n S c) : planV k (Sp.ints S) c S.length = Sp.crow k n := by
  have key : ∀ j, j < 4 → dsum (col k j) (Sp.ints S) c S.length = (Sp.crow k n).getD j 0 := by
    intro j hj
    refine Sp.toF_inj (dsum_ok _ _ _ _) ((Sp.crow_row hk hn).get j) ?_
    rw [dsum_is]
    have e := h.2 j
    rw [comb_wsum] at e
    show _ = Sp.toV (Sp.crow k n) j
    rw [e]
    simp only [Sp.prow, List.length_map]
    refine Sp.wsum_congr _ (fun _ _ => rfl) (fun i hi => ?_)
    rw [ints_at hi, Int.toNat_natCast, col_get k j (hS _ (getD_memN hi))]
    simp [List.getD_eq_getElem?_getD, hi, Sp.toV]
  obtain ⟨x, y, z, u, hc, _⟩ := crow_four hk hn
  unfold planV
  rw [key 0 (by omega), key 1 (by omega), key 2 (by omega), key 3 (by omega), hc]
  rfl
theorem up_form {n : Nat} (hn : n < 8) {f : List Bool} {S : List Nat} (hu : Sp.Up n f 0 S) (h1 : 1 ≤ S.length) (h4 : S.length ≤ 4) {c : List Int} (hr : Sp.Row S.length c) (hz : ∀ i, i < S.length → c.getD i 0 ≠ 0) : pForm n (Sp.ints S) c = true := by
  refine pForm_all (decide_eq_true ⟨by omega, by rw [ints_len]; omega, by rw [ints_len]; exact h4, by rw [ints_len]; exact hr.1⟩) (fun i hi => ?_)
  rw [ints_len] at hi
  have hm := getD_memN hi
  have h8 := hu.lt _ hm
  refine decide_eq_true ⟨by rw [ints_at hi]; omega, ?_, by rw [ints_at hi]; have := hu.other _ hm; omega, hr.get i, hz i hi⟩
  rw [ints_at hi]
  cases i with
  | zero => show (-1 : Int) < _; omega
  | succ i =>
    show (Sp.ints S).getD i 0 < _
    rw [ints_at (by omega)]
    have := List.pairwise_iff_getElem.1 hu.up i (i + 1) (by omega) hi (by omega)
    have e1 : S.getD i 0 = S[i] := by simp [List.getD_eq_getElem?_getD, show i < S.length by omega]
    have e2 : S.getD (i + 1) 0 = S[i + 1] := by simp [List.getD_eq_getElem?_getD, hi]
    rw [e1, e2]; omega
theorem plan_told {k n : Int} {f : List Bool} {d : Int} {l m : List Int} (h : PlanT k n f d l m true) : okP k d l m = true ∧ d = n ∧ l.length ≤ 4 ∧ f.length = 8 ∧ (k = 1 ∨ k = 2) ∧ (0 ≤ n ∧ n < 8) ∧ ∀ i, i < l.length → ∃ p : Nat, l.getD i 0 = p ∧ p < 8 ∧ f.getD p false = true ∧ (p : Int) ≠ n := by
  rcases h with ⟨_, k1, l1, S, rfl, hk, rfl, hl, hf, hp, hc, rfl, rfl⟩ | ⟨h, _⟩
  · obtain ⟨h1, h4, hu, _, _⟩ := Sp.plan_some hp
    refine ⟨?_, rfl, by rw [ints_len]; exact h4, hf, by omega, by omega, fun i hi => ?_⟩
    · unfold okP
      rw [show decide ((k1 : Int) = 1 ∨ (k1 : Int) = 2) = true from decide_eq_true (by omega), up_form hl hu h1 h4 hc.1 (Sp.plan_by hk hl hp hc), Int.toNat_natCast, Int.toNat_natCast, ints_len, by_planV hk hl hu.lt hc]
      simp
    · rw [ints_len] at hi
      have hm := getD_memN hi
      exact ⟨S.getD i 0, ints_at hi, hu.lt _ hm, hu.there _ hm, by have := hu.other _ hm; omega⟩
  · cases h
end Go.Proofs.YtlehcpcejkpbmaaDoor
