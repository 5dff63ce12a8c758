/-
  An argument of a law that is a stripe: what is told of it.
  Conditions: none.
-/
import Derived.Test.YtoflijiinkmjoaaStripeHelp
import Derived.Lib.SmallJoins
import Derived.OpenShut
namespace Go.Proofs.Ytoflijiinkmjoaa
open Go.RowKit Go.ChangeShapes Go.Joins Go.WideShapes Go.Deep
set_option linter.unusedVariables false

theorem slField {H : Type} {enc : TypeId × Value → H} {P : Program} {w : World} {t e : TypeId} {fuel : Nat} {v : Value} {y : DataW H × List MemPlace} (ht : P.underlying t = some (.slice e)) (he : P.underlying e = some (.int .i64)) (ce : P.cellsOf e = 1)
    (h : DataW.trod enc P w 0 (fun _ => true) true fuel t [v] = some y) : ∃ l, Sl w v l := by
  rcases open_ints ht he ce h with ⟨hcs, _⟩ | ⟨x, len, cap, zs, hcs, _, hl, hm, hz, _, hc, hw⟩
  · injection hcs with hcs
    subst hcs
    exact ⟨[], none, 0, rfl, by simp, by omega, .inl rfl⟩
  · injection hcs with hcs
    subst hcs
    obtain ⟨l, _, _, _, hs⟩ := sl_of (w := w) (a := some x) (len := len) (cap := cap) (zs := zs) (.inr ⟨x, rfl, hl, hm, by simpa using hz, hc, hw⟩)
    exact ⟨l, hs⟩
theorem blField {H : Type} {enc : TypeId × Value → H} {P : Program} {w : World} {t e : TypeId} {fuel : Nat} {v : Value} {y : DataW H × List MemPlace} (ht : P.underlying t = some (.slice e)) (he : P.underlying e = some .bool) (ce : P.cellsOf e = 1)
    (h : DataW.trod enc P w 0 (fun _ => true) true fuel t [v] = some y) : ∃ l, Bl w v l := by
  have h' := h
  rcases DataW.trod_slice ht h with ⟨hcs, _⟩ | ⟨x, len', cap', elems, rest, n, _, hcs, _⟩
  · injection hcs with hcs
    subst hcs
    exact ⟨[], none, 0, rfl, by simp, by omega, .inl rfl⟩
  · injection hcs with hcs
    subst hcs
    obtain ⟨l, _, _, _, hs⟩ := bl_of (w := w) (d := y.1) (ps := y.2) ht he ce ⟨fuel, h'⟩
    exact ⟨l, hs⟩
/-- a stripe that a law is handed. -/
theorem stripe_of {H : Type} {enc : TypeId × Value → H} {P : Program} {w : World} {r : Reach} {b0 : Nat} {t e e' : TypeId} {f0 f1 f2 f3 : Field} {v : Value} {d : DataW H} {p : List MemPlace} (hs : P.underlying t = some (.struct #[f0, f1, f2, f3])) (hone : oneCellFields P #[f0, f1, f2, f3] = true) (hC : P.cellsOf t = 4)
    (u0 : P.underlying f0.type = some (.int .i64)) (u1 : P.underlying f1.type = some (.slice e)) (u2 : P.underlying f2.type = some (.slice e)) (u3 : P.underlying f3.type = some (.slice e')) (ue : P.underlying e = some (.int .i64)) (ue' : P.underlying e' = some .bool) (ce : P.cellsOf e = 1) (ce' : P.cellsOf e' = 1)
    (hv : Value.okWide P w r b0 t v) (h : DataW.Trod enc P w 0 (fun _ => true) true t v d p) : ∃ (n : Int) (x y z : Value) (l m : List Int) (g : List Bool), v = .agg #[.int .i64 n, x, y, z] ∧ Sl w x l ∧ Sl w y m ∧ Bl w z g := by
  obtain ⟨v0, v1, v2, v3, y0, y1, y2, y3, k, rfl, _, _, h0, h1, h2, h3⟩ := open_agg4 hs hone hC hv h
  obtain ⟨n, e0, _, _⟩ := DataW.trod_int u0 h0
  injection e0 with e0
  subst e0
  obtain ⟨l, hl⟩ := slField u1 ue ce h1
  obtain ⟨m, hm⟩ := slField u2 ue ce h2
  obtain ⟨g, hg⟩ := blField u3 ue' ce' h3
  exact ⟨n, v1, v2, v3, l, m, g, rfl, hl, hm, hg⟩
end Go.Proofs.Ytoflijiinkmjoaa
