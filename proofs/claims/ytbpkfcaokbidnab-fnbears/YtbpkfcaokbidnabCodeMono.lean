/-
  Plain facts on shards that are enough: with one more they are enough still; they are four at least; their rows have rank four.
  Conditions: none.
-/
import Derived.Test.YtbpkfcaokbidnabSpanTops
import Derived.Test.YtbpkfcaokbidnabCodeSpec3
namespace Go.Proofs.Ytbpkfcaokbidnab
open Go.RowKit
set_option linter.unusedVariables false

theorem local_more : ∀ n : Nat, n < 256 → ∀ i : Nat, i < 8 → Sp.bears 1 (Sp.bits n) = true → Sp.bears 1 ((Sp.bits n).set i true) = true := by decide +kernel
theorem local_many : ∀ n : Nat, n < 256 → Sp.bears 1 (Sp.bits n) = true → 4 ≤ Sp.many (Sp.bits n) := by decide +kernel
theorem many_set (f : List Bool) (i : Nat) : Sp.many f ≤ Sp.many (f.set i true) := by
  unfold Sp.many
  induction f generalizing i with
  | nil => simp
  | cons b f ih =>
    cases i with
    | zero => cases b <;> simp
    | succ i => simp only [List.set_cons_succ, List.count_cons]; have := ih i; omega
/-- with one more shard they are enough still. -/
theorem bears_set {k : Nat} (hk : k = 1 ∨ k = 2) {f : List Bool} (hf : f.length = 8) {i : Nat} (hi : i < 8) (h : Sp.bears k f = true) : Sp.bears k (f.set i true) = true := by
  rcases hk with rfl | rfl
  · revert h
    exact Sp.by_bits (P := fun f => Sp.bears 1 f = true → Sp.bears 1 (f.set i true) = true) (fun n hn => local_more n hn i hi) hf
  · rw [Sp.wide_any hf, decide_eq_true_eq] at h
    rw [Sp.wide_any (by rw [List.length_set]; exact hf), decide_eq_true_eq]
    exact Nat.le_trans h (many_set f i)
/-- they are four at least. -/
theorem bears_many {k : Nat} (hk : k = 1 ∨ k = 2) {f : List Bool} (hf : f.length = 8) (h : Sp.bears k f = true) : 4 ≤ Sp.many f := by
  rcases hk with rfl | rfl
  · revert h
    exact Sp.by_bits (P := fun f => Sp.bears 1 f = true → 4 ≤ Sp.many f) (fun n hn => local_many n hn) hf
  · rwa [Sp.wide_any hf, decide_eq_true_eq] at h
theorem crows_ok {k : Nat} (hk : k = 1 ∨ k = 2) (f : List Bool) : okM (Sp.crows k f) = true := by
  refine okM_yes ?_ fun i hi => ?_
  · unfold Sp.crows
    rw [List.length_map]
    have := List.length_filter_le (fun i => f.getD i false) (List.range 8)
    rwa [List.length_range] at this
  · have hr := Sp.crows_row hk f
    have e : (Sp.crows k f).getD i [] = (Sp.crows k f)[i] := by simp [List.getD_eq_getElem?_getD, hi]
    rw [e]
    exact Sp.row_ok.2 (hr _ (List.getElem_mem hi))
theorem rank_bears {k : Nat} (hk : k = 1 ∨ k = 2) (f : List Bool) : Sp.bears k f = (rankM (Sp.crows k f) == 4) := by
  rw [rankM_yes (crows_ok hk f)]
  unfold Sp.bears
  rw [Bool.eq_iff_iff, beq_iff_eq, beq_iff_eq]
  omega
end Go.Proofs.Ytbpkfcaokbidnab
