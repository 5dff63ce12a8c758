/-
  A law's argument that is a patch.
  Conditions: none.
-/
import Derived.Test.YthglkgicckodaaaPatchTab
import Derived.Lib.SmallJoins
namespace Go.Proofs.Ythglkgicckodaaa
open Go.RowKit Go.ChangeShapes Go.WideShapes Go.ChangeAt Go.Deep Go.Lib
set_option linter.unusedVariables false

theorem pat_of {H : Type} {enc : TypeId × Value → H} {P : Program} {w : World} {r : Reach} {b0 : Nat} {t : TypeId} {f0 f1 : Field} {v : Value} {d : DataW H} {p : List MemPlace} (hs : P.underlying t = some (.struct #[f0, f1])) (hone : oneCellFields P #[f0, f1] = true) (hC : P.cellsOf t = 2)
    (u0 : P.underlying f0.type = some (.int .i64)) (u1 : P.underlying f1.type = some (.int .i64))
    (hv : Value.okWide P w r b0 t v) (h : DataW.Trod enc P w 0 (fun _ => true) true t v d p) : ∃ x y : Int, v = .agg #[.int .i64 x, .int .i64 y] := by
  obtain ⟨v0, v1, y0, y1, k, rfl, _, _, h0, h1⟩ := Go.Joins.open_agg2 hs hone hC hv h
  obtain ⟨x, e0, _, _⟩ := DataW.trod_int u0 h0
  injection e0 with e0
  subst e0
  obtain ⟨y, e1, _, _⟩ := DataW.trod_int u1 h1
  injection e1 with e1
  subst e1
  exact ⟨x, y, rfl⟩
end Go.Proofs.Ythglkgicckodaaa
