/-
  A plan as an argument of a law: how it reads, how long it is, a plan of its own.
  Conditions: none.
-/
import Derived.Test.YtlehcpcejkpbmaaDoorPlanTold
import Derived.Lib.SmallJoins
import Derived.OpenShut
namespace Go.Proofs.YtlehcpcejkpbmaaDoor
open Go.RowKit Go.ChangeShapes Go.WideShapes Go.ChangeAt Go.Deep Go.Lib
set_option linter.unusedVariables false

theorem sl_field {H : Type} {enc : TypeId × Value → H} {P : Program} {w : World} {t e : TypeId} {fuel : Nat} {v : Value} {y : DataW H × List MemPlace} (ht : P.underlying t = some (.slice e)) (he : P.underlying e = some (.int .i64)) (ce : P.cellsOf e = 1)
    (h : DataW.trod enc P w 0 (fun _ => true) true fuel t [v] = some y) : ∃ l, Sl w v l := by
  rcases open_ints ht he ce h with ⟨hcs, _⟩ | ⟨x, len, cap, zs, hcs, _, hl, hm, hz, _, hc, hw⟩
  · injection hcs with hcs
    subst hcs
    exact ⟨[], none, 0, rfl, by simp, by omega, .inl rfl⟩
  · injection hcs with hcs
    subst hcs
    obtain ⟨l, _, _, _, hs⟩ := sl_of (w := w) (a := some x) (len := len) (cap := cap) (zs := zs) (.inr ⟨x, rfl, hl, hm, by simpa using hz, hc, hw⟩)
    exact ⟨l, hs⟩
/-- a plan that a law is handed. -/
theorem plan_of {H : Type} {enc : TypeId × Value → H} {P : Program} {w : World} {r : Reach} {b0 : Nat} {t e : TypeId} {f0 f1 f2 : Field} {v : Value} {d : DataW H} {p : List MemPlace} (hs : P.underlying t = some (.struct #[f0, f1, f2])) (hone : oneCellFields P #[f0, f1, f2] = true) (hC : P.cellsOf t = 3)
    (u0 : P.underlying f0.type = some (.int .i64)) (u1 : P.underlying f1.type = some (.slice e)) (u2 : P.underlying f2.type = some (.slice e)) (ue : P.underlying e = some (.int .i64)) (ce : P.cellsOf e = 1)
    (hv : Value.okWide P w r b0 t v) (h : DataW.Trod enc P w 0 (fun _ => true) true t v d p) : ∃ (n : Int) (x y : Value) (l m : List Int), v = .agg #[.int .i64 n, x, y] ∧ Sl w x l ∧ Sl w y m := by
  obtain ⟨v0, v1, v2, y0, y1, y2, k, rfl, _, _, h0, h1, h2⟩ := Go.Joins.open_agg3 hs hone hC hv h
  obtain ⟨n, e0, _, _⟩ := DataW.trod_int u0 h0
  injection e0 with e0
  subst e0
  obtain ⟨l, hl⟩ := sl_field u1 ue ce h1
  obtain ⟨m, hm⟩ := sl_field u2 ue ce h2
  exact ⟨n, v1, v2, l, m, rfl, hl, hm⟩

theorem grown_cell (w : World) (p : Addr) (v : Value) : w.grownBy (w.setCell p v) (some p.block) :=
  ⟨rfl, rfl, rfl, by simp, fun i hi hne => Below.heap_setCell w p v i (fun e => hne (by rw [e]))⟩
theorem own_far {w : World} {base b : Nat} {v : Value} {l : List Int} (h : Own w base v l) (hb : b < base) : v.ownBlock = none ∨ v.ownBlock ≠ some b := .inr (fun e => far_own h hb e.symm)

end Go.Proofs.YtlehcpcejkpbmaaDoor
