/-
  What this claim wants of the texts of earlier chapters.
  Conditions: none.
-/
import Derived.Test.YthglkgicckodaaaZReadTop2
namespace Go.Proofs.Ythglkgicckodaaa
open Go.RowKit
set_option linter.unusedVariables false
def okR (k : Int) (a : List Int) (f : List Bool) : Prop := (k = 1 ∨ k = 2) ∧ shOk a = true ∧ f.length = 8
def FindT (k : Int) (a : List Int) (f : List Bool) (r : Int) : Prop := (okR k a f ∧ Sp.Found k.toNat f a r) ∨ (¬ okR k a f ∧ r = -2)
theorem FindT.one {k : Int} {a : List Int} {f : List Bool} {r s : Int} (h : FindT k a f r) (h' : FindT k a f s) : r = s := by
  rcases h with ⟨h1, h2⟩ | ⟨h1, rfl⟩
  · rcases h' with ⟨_, h2'⟩ | ⟨h1', _⟩
    · exact h2.unique h2'
    · exact absurd h1 h1'
  · rcases h' with ⟨h1', _⟩ | ⟨_, rfl⟩
    · exact absurd h1' h1
    · rfl
theorem idxF (b0 b1 b2 b3 b4 b5 b6 b7 : Bool) {n : Nat} (hn : n < 8) (W : World) : (Instr.index 92 (.agg (bvals [b0, b1, b2, b3, b4, b5, b6, b7]).toArray) (.int .i64 n)).run Try.prog W = .ok (.bool ([b0, b1, b2, b3, b4, b5, b6, b7].getD n false)) W := by
  rcases (by omega : n = 0 ∨ n = 1 ∨ n = 2 ∨ n = 3 ∨ n = 4 ∨ n = 5 ∨ n = 6 ∨ n = 7) with rfl | rfl | rfl | rfl | rfl | rfl | rfl | rfl <;> kernel_rfl
end Go.Proofs.Ythglkgicckodaaa
