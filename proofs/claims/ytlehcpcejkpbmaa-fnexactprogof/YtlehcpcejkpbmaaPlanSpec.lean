/-
  The model's plans: a plan of just these shards.
  Conditions: none.
-/
import Derived.Test.YtlehcpcejkpbmaaPlanTop
import Derived.Test.YtlehcpcejkpbmaaG3
import Derived.Test.YtlehcpcejkpbmaaG4
namespace Go.Proofs.Ytlehcpcejkpbmaa
open Go.RowKit
set_option linter.unusedVariables false

/-- what a search leaves. -/
def FoundP (k lost : Nat) (q : Option (List Nat)) (w : World) (e : Ending) (w' : World) : Prop :=
  w.grownBy w' none ∧ ((∃ S c u v, q = some S ∧ Sp.PlanBy k lost S c ∧ e = .returned (.tuple #[.agg #[.int .i64 lost, u, v], .bool true]) ∧ TwoOwn w' w.heap.size u v (Sp.ints S) c) ∨
    (q = none ∧ e = .returned (.tuple #[.agg #[.int .i64 0, .slice none 0 0, .slice none 0 0], .bool false])))
theorem prow_snoc {k : Nat} {S : List Nat} {n : Nat} (hn : n < S.length) : Sp.prow k (S.take n) ++ [Sp.crow k (S.getD n 0)] = Sp.prow k (S.take (n + 1)) := by
  unfold Sp.prow
  rw [List.take_succ_eq_append_getElem hn, List.map_append]
  simp [List.getD_eq_getElem?_getD, hn]
theorem ints_get {S : List Nat} {n : Nat} (hn : n < S.length) : (Sp.ints S).getD n 0 = (S.getD n 0 : Nat) := by
  simp [Sp.ints, List.getD_eq_getElem?_getD, hn]
theorem getD_lt {S : List Nat} (h : ∀ i ∈ S, i < 8) (n : Nat) : S.getD n 0 < 8 := by
  rw [List.getD_eq_getElem?_getD]
  by_cases hn : n < S.length
  · rw [List.getElem?_eq_getElem hn]; exact h _ (List.getElem_mem hn)
  · rw [List.getElem?_eq_none (by omega)]; decide

end Go.Proofs.Ytlehcpcejkpbmaa
