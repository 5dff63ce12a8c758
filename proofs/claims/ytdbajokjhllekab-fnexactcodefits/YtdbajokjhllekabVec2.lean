/-
  The contracts of chapter 2's exported functions, program's and model's.
  Conditions: none.
-/
import Derived.Test.YtdbajokjhllekabVec
import Derived.Deep.AppendLies
import Derived.Deep.RegionLaw
namespace Go.Proofs.Ytdbajokjhllekab
open Go.RowKit
set_option linter.unusedVariables false

/-- what a call leaves that only computes a number, and may make memory. -/
def IntOf (n : Int) (w : World) (e : Ending) (w' : World) : Prop := e = .returned (.int .i64 n) ∧ w.grownBy w' none