/-
  The model's PlanOf.
  Conditions: none.
-/
import Derived.Test.YtlehcpcejkpbmaaPlanSearch
namespace Go.Proofs.Ytlehcpcejkpbmaa
open Go.RowKit
set_option linter.unusedVariables false

end Go.Proofs.Ytlehcpcejkpbmaa
