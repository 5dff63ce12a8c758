/-
  The contracts of SpanSame, of the program and of its model.
  Conditions: none.
-/
import Derived.Test.YtlehcpcejkpbmaaG2
import Derived.Deep.QuietTactic
import Derived.Laws.StructEq
import Derived.ChangeKeysEq
namespace Go.Proofs.Ytlehcpcejkpbmaa
open Go.RowKit
set_option linter.unusedVariables false

theorem four_row {T : List (List Int)} (h : ∀ r ∈ T, r.length = 4) {k : Nat} (hk : k < T.length) : ∃ x y z t, T.getD k [] = [x, y, z, t] := by
  have h4 : (T.getD k []).length = 4 := by rw [List.getD_eq_getElem?_getD, List.getElem?_eq_getElem hk]; exact h _ (List.getElem_mem hk)
  match T.getD k [], h4 with
  | [x, y, z, t], _ => exact ⟨x, y, z, t, rfl⟩

theorem tidy_len {m : List (List Int)} (hm : okM m = true) : ∀ r ∈ Sp.ltidy m, r.length = 4 := fun r hr => (tidy_rows hm r hr).1

end Go.Proofs.Ytlehcpcejkpbmaa
