/-
  The contracts of the program's ReadFrom and ReadData.
  Conditions: none.
-/
import Derived.Test.YtoflijiinkmjoaaReadProg
import Derived.Test.YtoflijiinkmjoaaReadTake
namespace Go.Proofs.Ytoflijiinkmjoaa
open Go.RowKit
set_option linter.unusedVariables false

/-- the first shards that are enough; none, if they are not. -/
def fromM (k : Int) (f : List Bool) : List Int := bif bearsM k f then ints (Sp.fromK k.toNat f) else []
theorem fromM_no {k : Int} {f : List Bool} (h : bearsM k f = false) : fromM k f = [] := by simp [fromM, h]
theorem fromM_yes {k : Nat} {f : List Bool} (h : bearsM k f = true) : fromM k f = ints (Sp.fromK k f) := by simp [fromM, h]
theorem bearsM_iff {k : Int} {f : List Bool} : bearsM k f = true ↔ (k = 1 ∨ k = 2) ∧ f.length = 8 ∧ Sp.bears k.toNat f = true := by
  simp [bearsM, and_assoc]

end Go.Proofs.Ytoflijiinkmjoaa
