/-
  The contracts of SpanSame, of the program and of its model.
  Conditions: none.
-/
import Derived.Test.YtdbajokjhllekaaSpanSpec4
import Derived.Deep.QuietTactic
import Derived.Laws.StructEq
import Derived.ChangeKeysEq
namespace Go.Proofs.Ytdbajokjhllekaa
open Go.RowKit
set_option linter.unusedVariables false

theorem four_row {T : List (List Int)} (h : ∀ r ∈ T, r.length = 4) {k : Nat} (hk : k < T.length) : ∃ x y z t, T.getD k [] = [x, y, z, t] := by
  have h4 : (T.getD k []).length = 4 := by rw [List.getD_eq_getElem?_getD, List.getElem?_eq_getElem hk]; exact h _ (List.getElem_mem hk)
  match T.getD k [], h4 with
  | [x, y, z, t], _ => exact ⟨x, y, z, t, rfl⟩

theorem rowsEq (x y z t x' y' z' t' : Int) (W : World) : (Op.equalIn 10000 79 (.agg #[.int .i64 x, .int .i64 y, .int .i64 z, .int .i64 t]) (.agg #[.int .i64 x', .int .i64 y', .int .i64 z', .int .i64 t'])).run Try.prog W = .ok (decide ([x, y, z, t] = [x', y', z', t'])) W := by
  obtain ⟨i0, hi, _⟩ := info_parts (show (Try.prog.info? 77).map (fun i => (i.zero, i.size, i.bytes)) = some (some (.int .i64 0), 1, 8) by kernel_rfl)
  have hc : Try.prog.cellsOf 77 = 1 := by kernel_rfl
  have ue := Try.underlying77
  rw [show (10000 : Nat) = 9999 + 1 from rfl, run_equalIn_array W 9999 _ _ Try.underlying79 hi, hc, show List.range 4 = [0, 1, 2, 3] from rfl]
  by_cases h0 : x = x' <;> by_cases h1 : y = y' <;> by_cases h2 : z = z' <;> by_cases h3 : t = t' <;>
    simp [Op.eqItems, Sem.run_bind, Go.part, isAgg, run_underlying ue, run_equalIn_int, ue, h0, h1, h2, h3, show (9999 : Nat) = 9998 + 1 from rfl]

theorem tidy_len {m : List (List Int)} (hm : okM m = true) : ∀ r ∈ Sp.ltidy m, r.length = 4 := fun r hr => (tidy_rows hm r hr).1