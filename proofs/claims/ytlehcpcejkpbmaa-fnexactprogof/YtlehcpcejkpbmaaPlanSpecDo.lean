/-
  What a plan makes of values, and whether it makes its row: in the model.
  Conditions: none.
-/
import Derived.Test.YtlehcpcejkpbmaaPlanSpecForm
namespace Go.Proofs.Ytlehcpcejkpbmaa
open Go.RowKit
set_option linter.unusedVariables false

theorem small_prod {x y : Int} (hx : Fld.ok x = true) (hy : Fld.ok y = true) : 0 ≤ x * y ∧ x * y ≤ 900 := by
  have h1 := Fld.ok_iff.1 hx
  have h2 := Fld.ok_iff.1 hy
  refine ⟨Int.mul_nonneg h1.1 h2.1, ?_⟩
  have h3 : x * y ≤ 30 * y := Int.mul_le_mul_of_nonneg_right (by omega) h2.1
  omega

theorem planV_succ {k : Nat} (hk : k = 1 ∨ k = 2) {l m : List Int} {i xn : Nat} (hx : l.getD i 0 = xn) (h8 : xn < 8) : planV k l m (i + 1) = Sp.ladd (planV k l m i) (Sp.lmul (Sp.crow k xn) (m.getD i 0)) := by
  obtain ⟨r0, r1, r2, r3, hc, _⟩ := crow_four hk h8
  simp only [planV, dsum, hx, Int.toNat_natCast, col_get k _ h8, hc, Sp.ladd, Sp.lmul, List.map_cons, List.map_nil, List.zipWith_cons_cons, List.zipWith_nil_right, add_short]
  simp only [Int.mul_comm (m.getD i 0)]
  rfl
theorem tabOne {w : World} {g : Nat} {u : Value} {l : List Int} (hg : Blk w g 22 [u]) (hu : Sl w u l) : Tab w (.slice (some ⟨g, 0, none⟩) 1 1) [u] [l] := by
  refine ⟨rfl, ⟨_, _, rfl, by simp, by simp [maxLen], .inr ⟨g, 0, rfl, fun i v hv => ?_⟩⟩, fun i v m hv hm => ?_⟩
  · cases i with
    | zero => simp at hv; subst hv; exact hg.cell (i := 0) rfl
    | succ i => simp at hv
  · cases i with
    | zero => simp at hv hm; subst hv hm; exact hu
    | succ i => simp at hv
theorem makeZeros (W : World) : (Instr.makeSlice 22 (.int .i64 4) (.int .i64 4)).run Try.prog W = .ok (.slice (some ⟨W.heap.size, 0, none⟩) 4 4) (W.alloc (.cells #[.int .i64 0, .int .i64 0, .int .i64 0, .int .i64 0] 3)) := makeFour W

end Go.Proofs.Ytlehcpcejkpbmaa
