/-
  The contracts of the model's drawing of tables for the laws.
  Conditions: none.
-/
import Derived.Test.YtdbajokjhllekaaDrawSpan
namespace Go.Proofs.Ytdbajokjhllekaa
open Go.RowKit
set_option linter.unusedVariables false

/-- a table of a law's own. -/
def DrawnT (w : World) (e : Ending) (w' : World) : Prop := ∃ v us m, e = .returned v ∧ w.grownBy w' none ∧ m.length ≤ 10 ∧ STab w' w.heap.size v us m ∧ ∃ x n cap, v = .slice (some x) n cap