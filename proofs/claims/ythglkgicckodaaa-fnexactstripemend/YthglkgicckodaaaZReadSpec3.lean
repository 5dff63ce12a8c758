/-
  What this claim wants of the texts of earlier chapters.
  Conditions: none.
-/
import Derived.Test.YthglkgicckodaaaZReadSpec2
import Derived.Test.YthglkgicckodaaaZG3
import Derived.Test.YthglkgicckodaaaZG4
namespace Go.Proofs.Ythglkgicckodaaa
open Go.RowKit
set_option linter.unusedVariables false
theorem brds_news {w : World} {b o : Nat} {l : List Bool} (h : BRds w (some ⟨b, o, none⟩) l) : ∀ j u, (bvals l)[j]? = some u → w.cell? ((⟨b, o, none⟩ : Addr).add j) = some u := by
  intro j u hj
  have hl : j < l.length := by have := (List.getElem?_eq_some_iff.1 hj).1; rwa [bvals_length] at this
  obtain ⟨b', o', e, hc⟩ := h.at_ hl
  injection e with e
  injection e with e1 e2
  subst e1 e2
  rw [bvals_get l j hl] at hj
  injection hj with hj
  subst hj
  rw [Addr.add_lit]; exact hc
end Go.Proofs.Ythglkgicckodaaa
