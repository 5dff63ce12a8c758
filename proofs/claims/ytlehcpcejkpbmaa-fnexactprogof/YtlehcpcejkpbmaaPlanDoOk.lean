/-
  The contracts of the program's PlanOk and PlanDo.
  Conditions: none.
-/
import Derived.Test.YtlehcpcejkpbmaaPlanSums
import Derived.Test.YtlehcpcejkpbmaaSpanSame
namespace Go.Proofs.Ytlehcpcejkpbmaa
open Go.RowKit
set_option linter.unusedVariables false

theorem storeT (w : World) {l : List Int} (hl : l.length = 8) : (storeCells ⟨w.heap.size, 0, none⟩ (vals l) 0).run Try.prog (w.alloc (.cells #[.int .i64 0, .int .i64 0, .int .i64 0, .int .i64 0, .int .i64 0, .int .i64 0, .int .i64 0, .int .i64 0] 42)) = .ok () (w.alloc (.cells (vals l).toArray 42)) := by
  have h := run_storeCells_from (P := Try.prog) w.heap.size 42 (vals l) 0 _ (w.alloc (.cells #[.int .i64 0, .int .i64 0, .int .i64 0, .int .i64 0, .int .i64 0, .int .i64 0, .int .i64 0, .int .i64 0] 42)) (heap_alloc_last w _) (by rw [vals_length, hl]; rfl) (vals_one l)
  rw [h, World.setRow_alloc_new]
  rfl
theorem planV_four (k : Nat) (l m : List Int) (i : Nat) : ∃ x y z u, planV k l m i = [x, y, z, u] ∧ Vec.ok [x, y, z, u] = true := ⟨_, _, _, _, rfl, planV_ok k l m i⟩

end Go.Proofs.Ytlehcpcejkpbmaa
