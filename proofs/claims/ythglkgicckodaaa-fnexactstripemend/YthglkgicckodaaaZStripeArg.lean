/-
  What this claim wants of the texts of earlier chapters.
  Conditions: none.
-/
import Derived.Test.YthglkgicckodaaaZStripeHelp
import Derived.Lib.SmallJoins
import Derived.OpenShut
namespace Go.Proofs.Ythglkgicckodaaa
open Go.RowKit Go.ChangeShapes Go.Joins Go.WideShapes Go.Deep
set_option linter.unusedVariables false
end Go.Proofs.Ythglkgicckodaaa
