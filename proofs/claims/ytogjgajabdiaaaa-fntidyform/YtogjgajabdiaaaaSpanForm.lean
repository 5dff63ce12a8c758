/-
  What tidy rows are like, plainly; and the contract of the program's VecLead at them.
  Conditions: none.
-/
import Derived.Test.YtogjgajabdiaaaaSpanSpec4
import Derived.Test.YtogjgajabdiaaaaVec2
namespace Go.Proofs.Ytogjgajabdiaaaa
open Go.RowKit
set_option linter.unusedVariables false

/-- a tidy row: it begins with 1, behind those ahead, where all others have 0. -/
theorem tidy_form {m : List (List Int)} (hm : okM m = true) {i : Nat} (hi : i < (Sp.ltidy m).length) :
    ∃ p : Nat, p < 4 ∧ Vec.lead ((Sp.ltidy m).getD i []) = p ∧ ((Sp.ltidy m).getD i []).getD p 0 = 1 ∧ (∀ k, k < (Sp.ltidy m).length → k ≠ i → ((Sp.ltidy m).getD k []).getD p 0 = 0) ∧ (0 < i → Vec.lead ((Sp.ltidy m).getD (i - 1) []) < p) := by
  obtain ⟨L, h, _⟩ := Sp.ltidy_is (okM_all hm)
  obtain ⟨T, hT⟩ : ∃ T, Sp.ltidy m = T := ⟨_, rfl⟩
  rw [hT] at h hi ⊢
  have hlen : T.length = L.length := h.length
  have key : ∀ k (hk : k < T.length), Sp.toV (T.getD k []) = (L[k]'(by omega)).2 ∧ Sp.Row 4 (T.getD k []) := by
    intro k hk
    have e := congrArg (fun l => l[k]?) h.same
    simp only [List.getElem?_map, Sp.rows, List.getElem?_eq_getElem hk, List.getElem?_eq_getElem (show k < L.length by omega), Option.map_some, Option.some.injEq] at e
    have e2 : T.getD k [] = T[k] := by simp [List.getD_eq_getElem?_getD, hk]
    rw [e2]
    exact ⟨e, h.row _ (List.getElem_mem hk)⟩
  have lead : ∀ k (hk : k < T.length), Vec.lead (T.getD k []) = ((L[k]'(by omega)).1 : Int) := by
    intro k hk
    obtain ⟨e, hr⟩ := key k hk
    rw [Vec.lead_ok (Sp.row_ok.2 hr)]
    refine Sp.first_lead hr ?_
    rw [e]
    exact h.tidy.lead (List.getElem_mem _)
  have hiL : i < L.length := by omega
  obtain ⟨e, hr⟩ := key i hi
  have h1 := h.tidy.one L[i] (List.getElem_mem hiL)
  refine ⟨(L[i]).1, ?_, lead i hi, ?_, ?_, ?_⟩
  · rcases Nat.lt_or_ge (L[i]).1 4 with hl | hl
    · exact hl
    · have := Sp.toV_out hr hl
      rw [e, h1] at this
      exact absurd this (by decide)
  · refine Sp.toF_inj (hr.get _) rfl ?_
    show Sp.toV (T.getD i []) _ = _
    rw [e, h1]; rfl
  · intro k hk hne
    obtain ⟨ek, hrk⟩ := key k hk
    have hkL : k < L.length := by omega
    refine Sp.toF_none (hrk.get _) ?_
    show Sp.toV (T.getD k []) _ = _
    rw [ek]
    refine h.tidy.others L[i] (List.getElem_mem hiL) L[k] (List.getElem_mem hkL) (fun e => hne ?_)
    have hp := List.pairwise_iff_getElem.1 h.tidy.up
    rcases Nat.lt_trichotomy i k with hl | hl | hl
    · have := hp i k hiL hkL hl; omega
    · exact hl.symm
    · have := hp k i hkL hiL hl; omega
  · intro h0
    rw [lead (i - 1) (by omega)]
    have hp := List.pairwise_iff_getElem.1 h.tidy.up (i - 1) i (by omega) hiL (by omega)
    omega
end Go.Proofs.Ytogjgajabdiaaaa
