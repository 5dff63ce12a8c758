/-
  Whether a table is a matrix (at most eight rows of four numbers of the field each): the contracts of the program's SpanOk and of its model's.
  Conditions: none.
-/
import Derived.Test.YtbpkfcaokbidnabSpanHelp2
import Derived.Test.YtbpkfcaokbidnabSpanWork
namespace Go.Proofs.Ytbpkfcaokbidnab
open Go.RowKit
set_option linter.unusedVariables false

/-- a matrix. -/
def okM (m : List (List Int)) : Bool := decide (m.length ≤ 8) && m.all Vec.ok
theorem okM_len {m : List (List Int)} (h : okM m = true) : m.length ≤ 8 := by simp [okM] at h; exact h.1
theorem okM_all {m : List (List Int)} (h : okM m = true) : ∀ r ∈ m, Sp.Row 4 r := by
  intro r hr
  simp only [okM, Bool.and_eq_true, List.all_eq_true] at h
  exact Sp.row_ok.1 (h.2 r hr)
theorem okM_get {m : List (List Int)} (h : okM m = true) {i : Nat} (hi : i < m.length) : Vec.ok (m.getD i []) = true := by
  rw [List.getD_eq_getElem?_getD, List.getElem?_eq_getElem hi]; exact Sp.row_ok.2 (okM_all h _ (List.getElem_mem hi))
theorem okM_yes {m : List (List Int)} (h8 : m.length ≤ 8) (h : ∀ i, i < m.length → Vec.ok (m.getD i []) = true) : okM m = true := by
  simp only [okM, Bool.and_eq_true, List.all_eq_true, decide_eq_true_eq]
  refine ⟨h8, fun r hr => ?_⟩
  obtain ⟨i, hi, rfl⟩ := List.getElem_of_mem hr
  have := h i hi
  simpa [List.getD_eq_getElem?_getD, hi] using this
theorem okM_many {m : List (List Int)} (h : ¬ m.length ≤ 8) : okM m = false := by simp [okM, h]
theorem okM_no {m : List (List Int)} {i : Nat} (hi : i < m.length) (h : Vec.ok (m.getD i []) = false) : okM m = false := by
  cases e : okM m with
  | false => rfl
  | true => rw [okM_get e hi] at h; cases h

set_option maxHeartbeats 1000000 in
set_option maxRecDepth 20000 in
theorem implSpanOk (v : Value) (us : List Value) (m : List (List Int)) (w : World) (h : Tab w v us m) : Calls Try.prog 116 #[v] w fun e w' => e = .returned (.bool (okM m)) ∧ w = w' := by
  have T := Lib.hid h
  obtain ⟨a, cap, rfl, h1, h2, h3⟩ := h.top
  clear h h3
  unfold maxLen at h2
  by_cases hb : (m.length : Int) > 8
  · have D : Hid (okM m = false) := Lib.hid (okM_many (by omega))
    go_enter Try.func116, Try.ntmps116
    go_wp2_with fail
    go_ret
    exact ⟨ret_bool D.out, rfl⟩
  go_enter Try.func116, Try.ntmps116
  go_wp2_with fail
  go_loop [10] (fun i => ∃ k : Nat, k ≤ m.length ∧ i = .int .i64 k ∧ ∀ j, j < k → Vec.ok (m.getD j []) = true) (fun i => m.length - (intOf i).toNat)
  case atStart => exact ⟨0, Nat.zero_le _, rfl, by omega⟩
  case round =>
    obtain ⟨k, hk, rfl, ha⟩ := hrel
    have A := Lib.hid ha
    clear ha
    by_cases hlt : k < m.length
    · have hlt' : (k : Int) < (m.length : Int) := by omega
      obtain ⟨b, o, cap', u, e, hu, hx, hs⟩ := T.out.at_ hlt
      injection e with e1 e2 e3
      subst e1 e3
      have S := Lib.hid hs
      clear hs hu
      obtain ⟨q, hq⟩ : ∃ q, Vec.ok (m.getD k []) = q := ⟨_, rfl⟩
      have C := Lib.hid (implVecOk u (m.getD k []) w S.out)
      rw [hq] at C
      have Q := Lib.hid hq
      clear hq
      go_wp2_with fail
      refine C.out.mono ?_
      rintro e w' ⟨rfl, rfl⟩
      cases q
      · have D : Hid (okM m = false) := Lib.hid (okM_no hlt Q.out)
        go_wp2_with fail
        go_ret
        exact ⟨ret_bool D.out, rfl⟩
      · go_wp2_with fail
        go_round
        case rel => exact ⟨k + 1, by omega, by go_num, fun j hj => by
          by_cases e : j = k
          · rw [e, Q.out]
          · exact A.out j (by omega)⟩
        case measure => simp [intOf]; omega
    · have D : Hid (okM m = true) := Lib.hid (okM_yes (by omega) (fun i hi => A.out i (by omega)))
      go_wp2_with fail
      go_ret
      exact ⟨ret_bool D.out, rfl⟩