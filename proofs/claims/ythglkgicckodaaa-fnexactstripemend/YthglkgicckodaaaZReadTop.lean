/-
  What this claim wants of the texts of earlier chapters.
  Conditions: none.
-/
import Derived.Test.YthglkgicckodaaaZReadProg
import Derived.Test.YthglkgicckodaaaZReadTake
namespace Go.Proofs.Ythglkgicckodaaa
open Go.RowKit
set_option linter.unusedVariables false
theorem bearsM_iff {k : Int} {f : List Bool} : bearsM k f = true ↔ (k = 1 ∨ k = 2) ∧ f.length = 8 ∧ Sp.bears k.toNat f = true := by
  simp [bearsM, and_assoc]
end Go.Proofs.Ythglkgicckodaaa
