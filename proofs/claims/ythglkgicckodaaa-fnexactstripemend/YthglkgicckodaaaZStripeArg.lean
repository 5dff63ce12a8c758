/-
  What this claim wants of the texts of earlier chapters.
  Conditions: none.
-/
import Derived.Test.YthglkgicckodaaaZStripeHelp
import Derived.Lib.SmallJoins
import Derived.OpenShut
namespace Go.Proofs.Ythglkgicckodaaa
open Go.RowKit Go.ChangeShapes Go.Joins Go.WideShapes Go.Deep
set_option linter.unusedVariables false
theorem sl_of {w : World} {a : Option Addr} {len cap : Nat} {zs : List Int}
    (h : (a = none ∧ len = 0 ∧ cap = 0 ∧ zs = []) ∨ ∃ x, a = some x ∧ len ≤ cap ∧ cap ≤ maxLen ∧ zs.length = cap ∧ (∀ i, i < zs.length → w.cell? (x.add i) = some (.int .i64 (zs.getD i 0))) ∧ ∀ n ∈ zs, (Lit.int .i64 n).wf = true) :
    ∃ l : List Int, len = l.length ∧ len ≤ cap ∧ cap ≤ maxLen ∧ Sl w (.slice a len cap) l := by
  rcases h with ⟨rfl, rfl, rfl, rfl⟩ | ⟨x, rfl, hl, hm, hz, hc, hw⟩
  · exact ⟨[], rfl, by omega, by omega, none, 0, rfl, by simp, by omega, .inl rfl⟩
  · have e : len = (zs.take len).length := by rw [List.length_take]; omega
    refine ⟨zs.take len, e, hl, hm, some x, cap, by rw [← e], by omega, hm, ?_⟩
    by_cases h0 : len = 0
    · exact .inl (by rw [h0]; simp)
    · obtain ⟨xb, xo, rfl, hx⟩ := ints_at hc (by omega)
      refine .inr ⟨xb, xo, rfl, fun i hi => ?_⟩
      rw [hx i (by omega)]
      have hi' : i < len := by omega
      simp [List.getD_eq_getElem?_getD, hi']
theorem bl_of {H : Type} {enc : TypeId × Value → H} {P : Program} {w : World} {t e : TypeId} {a : Option Addr} {len cap : Nat} {d : DataW H} {ps : List MemPlace} (ht : P.underlying t = some (.slice e)) (he : P.underlying e = some .bool)
    (ce : P.cellsOf e = 1) (h : DataW.Trod enc P w 0 (fun _ => true) true t (.slice a len cap) d ps) : ∃ l : List Bool, len = l.length ∧ len ≤ cap ∧ cap ≤ maxLen ∧ Bl w (.slice a len cap) l := by
  obtain ⟨fuel, hf⟩ := h
  rcases DataW.trod_slice ht hf with ⟨hcs, _⟩ | ⟨x, len', cap', elems, rest, n, _, hcs, _, hb, hl, hm, hlen, hel, _, _⟩
  · simp [Value.cells] at hcs
    obtain ⟨rfl, rfl, rfl⟩ := hcs
    exact ⟨[], rfl, by omega, by omega, none, 0, rfl, by simp, by omega, .inl rfl⟩
  · simp [Value.cells] at hcs
    obtain ⟨rfl, rfl, rfl⟩ := hcs
    have each : ∀ i, i < len → ∃ b, w.cell? (x.add i) = some (.bool b) := by
      intro i hi
      have h1 := hel i hi
      rw [ce, Nat.mul_one, List.getElem?_eq_getElem (by omega), Option.bind_eq_some_iff] at h1
      obtain ⟨cs', hcs', hy⟩ := h1
      obtain ⟨b, h2, _⟩ := DataW.trod_bool he hy
      subst h2
      exact ⟨b, cell_of_cells?_one hcs'⟩
    refine ⟨(List.range len).map fun i => (match w.cell? (x.add i) with | some (.bool b) => b | _ => false), by simp, hl, hm, some x, cap, by simp, by simpa using hl, hm, ?_⟩
    by_cases h0 : len = 0
    · exact .inl (by simp [h0])
    · right
      obtain ⟨xb, xo, sp⟩ := x
      have hsp : sp = none := by
        obtain ⟨b, hb0⟩ := each 0 (by omega)
        simpa [Addr.add] using World.cell?_spot hb0
      subst hsp
      refine ⟨xb, xo, rfl, fun i hi => ?_⟩
      have hi' : i < len := by simpa using hi
      obtain ⟨b, hb1⟩ := each i hi'
      have e1 : (Addr.mk xb xo none).add i = ⟨xb, xo + i, none⟩ := Addr.add_lit ..
      rw [e1] at hb1
      simp [List.getD_eq_getElem?_getD, hi', e1, hb1]
theorem slField {H : Type} {enc : TypeId × Value → H} {P : Program} {w : World} {t e : TypeId} {fuel : Nat} {v : Value} {y : DataW H × List MemPlace} (ht : P.underlying t = some (.slice e)) (he : P.underlying e = some (.int .i64)) (ce : P.cellsOf e = 1)
    (h : DataW.trod enc P w 0 (fun _ => true) true fuel t [v] = some y) : ∃ l, Sl w v l := by
  rcases open_ints ht he ce h with ⟨hcs, _⟩ | ⟨x, len, cap, zs, hcs, _, hl, hm, hz, _, hc, hw⟩
  · injection hcs with hcs
    subst hcs
    exact ⟨[], none, 0, rfl, by simp, by omega, .inl rfl⟩
  · injection hcs with hcs
    subst hcs
    obtain ⟨l, _, _, _, hs⟩ := sl_of (w := w) (a := some x) (len := len) (cap := cap) (zs := zs) (.inr ⟨x, rfl, hl, hm, by simpa using hz, hc, hw⟩)
    exact ⟨l, hs⟩
theorem blField {H : Type} {enc : TypeId × Value → H} {P : Program} {w : World} {t e : TypeId} {fuel : Nat} {v : Value} {y : DataW H × List MemPlace} (ht : P.underlying t = some (.slice e)) (he : P.underlying e = some .bool) (ce : P.cellsOf e = 1)
    (h : DataW.trod enc P w 0 (fun _ => true) true fuel t [v] = some y) : ∃ l, Bl w v l := by
  have h' := h
  rcases DataW.trod_slice ht h with ⟨hcs, _⟩ | ⟨x, len', cap', elems, rest, n, _, hcs, _⟩
  · injection hcs with hcs
    subst hcs
    exact ⟨[], none, 0, rfl, by simp, by omega, .inl rfl⟩
  · injection hcs with hcs
    subst hcs
    obtain ⟨l, _, _, _, hs⟩ := bl_of (w := w) (d := y.1) (ps := y.2) ht he ce ⟨fuel, h'⟩
    exact ⟨l, hs⟩
theorem stripe_of {H : Type} {enc : TypeId × Value → H} {P : Program} {w : World} {r : Reach} {b0 : Nat} {t e e' : TypeId} {f0 f1 f2 f3 : Field} {v : Value} {d : DataW H} {p : List MemPlace} (hs : P.underlying t = some (.struct #[f0, f1, f2, f3])) (hone : oneCellFields P #[f0, f1, f2, f3] = true) (hC : P.cellsOf t = 4)
    (u0 : P.underlying f0.type = some (.int .i64)) (u1 : P.underlying f1.type = some (.slice e)) (u2 : P.underlying f2.type = some (.slice e)) (u3 : P.underlying f3.type = some (.slice e')) (ue : P.underlying e = some (.int .i64)) (ue' : P.underlying e' = some .bool) (ce : P.cellsOf e = 1) (ce' : P.cellsOf e' = 1)
    (hv : Value.okWide P w r b0 t v) (h : DataW.Trod enc P w 0 (fun _ => true) true t v d p) : ∃ (n : Int) (x y z : Value) (l m : List Int) (g : List Bool), v = .agg #[.int .i64 n, x, y, z] ∧ Sl w x l ∧ Sl w y m ∧ Bl w z g := by
  obtain ⟨v0, v1, v2, v3, y0, y1, y2, y3, k, rfl, _, _, h0, h1, h2, h3⟩ := open_agg4 hs hone hC hv h
  obtain ⟨n, e0, _, _⟩ := DataW.trod_int u0 h0
  injection e0 with e0
  subst e0
  obtain ⟨l, hl⟩ := slField u1 ue ce h1
  obtain ⟨m, hm⟩ := slField u2 ue ce h2
  obtain ⟨g, hg⟩ := blField u3 ue' ce' h3
  exact ⟨n, v1, v2, v3, l, m, g, rfl, hl, hm, hg⟩
end Go.Proofs.Ythglkgicckodaaa
