/-
  Patches in a slice: how they lie in memory, how they are read, owned, put behind one another.
  Conditions: none.
-/
import Derived.Test.YthglkgicckodaaaG1
import Derived.Deep.Slices
namespace Go.Proofs.Ythglkgicckodaaa
open Go.RowKit Go.ChangeShapes Go.WideShapes Go.ChangeAt Go.Deep
set_option linter.unusedVariables false

/-- a patch: which number, by how much. -/
structure Pat where
  at' : Int
  dif : Int
def pat0 : Pat := ⟨0, 0⟩
/-- patches, number by number. -/
def pflat (L : List Pat) : List Int := L.flatMap fun s => [s.at', s.dif]
theorem pflat_app (L M : List Pat) : pflat (L ++ M) = pflat L ++ pflat M := by simp [pflat]
theorem pflat_one (s : Pat) : pflat [s] = [s.at', s.dif] := rfl
theorem pflat_cons (s : Pat) (L : List Pat) : pflat (s :: L) = [s.at', s.dif] ++ pflat L := by simp [pflat]
theorem pflat_len : ∀ L : List Pat, (pflat L).length = L.length * 2
  | [] => rfl
  | s :: L => by
    have h := pflat_len L
    rw [pflat_cons, List.length_append, h]
    show 2 + L.length * 2 = (L.length + 1) * 2
    omega
theorem pflat_get : ∀ (L : List Pat) {i : Nat}, i < L.length → (pflat L).getD (i * 2) 0 = (L.getD i pat0).at' ∧ (pflat L).getD (i * 2 + 1) 0 = (L.getD i pat0).dif
  | [], i, h => by simp at h
  | s :: L, 0, _ => ⟨rfl, rfl⟩
  | s :: L, i + 1, h => by
    have ih := pflat_get L (i := i) (by simpa using h)
    have e : ∀ c, (pflat (s :: L)).getD ((i + 1) * 2 + c) 0 = (pflat L).getD (i * 2 + c) 0 := by
      intro c
      rw [pflat_cons, List.getD_eq_getElem?_getD, List.getElem?_append_right (by show 2 ≤ _; omega), List.getD_eq_getElem?_getD]
      congr 2
      show (i + 1) * 2 + c - 2 = _
      omega
    exact ⟨(e 0).trans ih.1, (e 1).trans ih.2⟩
/-- a slice that reads as patches. -/
def PSl (w : World) (v : Value) (L : List Pat) : Prop := ∃ a cap, v = .slice a L.length cap ∧ L.length ≤ cap ∧ cap ≤ maxLen ∧ Rds w a (pflat L)
/-- a slice of patches that is owned. -/
def POwn (w : World) (base : Nat) (v : Value) (L : List Pat) : Prop := w.ownsRow base 32 2 v L.length (vals (pflat L))
theorem PSl.grown {w w' : World} {v : Value} {L : List Pat} (h : PSl w v L) (hg : w.grownBy w' none) : PSl w' v L := by
  obtain ⟨a, cap, rfl, h1, h2, h⟩ := h
  exact ⟨a, cap, rfl, h1, h2, h.grown hg⟩
theorem pcells {w : World} {a : Option Addr} {L : List Pat} (h : Rds w a (pflat L)) {k : Nat} (hk : k < L.length) :
    ∃ b o, a = some ⟨b, o, none⟩ ∧ w.cell? ⟨b, o + k * 2, none⟩ = some (.int .i64 (L.getD k pat0).at') ∧ w.cell? ⟨b, o + k * 2 + 1, none⟩ = some (.int .i64 (L.getD k pat0).dif) := by
  obtain ⟨e0, e1⟩ := pflat_get L hk
  have hl := pflat_len L
  rcases h with h0 | ⟨b, o, rfl, h⟩
  · rw [h0] at hl; simp at hl; omega
  · refine ⟨b, o, rfl, ?_, ?_⟩
    · rw [← e0]; exact h (k * 2) (by omega)
    · rw [← e1]; exact h (k * 2 + 1) (by omega)
theorem POwn.sl {w : World} {base : Nat} {v : Value} {L : List Pat} (h : POwn w base v L) : PSl w v L := by
  rcases h.2 with ⟨rfl, h0⟩ | ⟨g, cap, cur, rfl, _, hg, h1, h2, _, ht⟩
  · have : L = [] := List.eq_nil_of_length_eq_zero h0
    subst this
    exact ⟨none, 0, rfl, by simp, by simp [maxLen], .inl rfl⟩
  · refine ⟨_, cap, rfl, h1, h2, .inr ⟨g, 0, rfl, fun i hi => ?_⟩⟩
    rw [cell_of_row w g (0 + i) cur 32 (0, 0) hg]
    have hv := vals_get (pflat L) i hi
    rw [pflat_len] at hi
    rw [← ht, List.getElem?_take, if_pos hi] at hv
    simpa using hv
theorem POwn.lower {w : World} {base base' : Nat} {v : Value} {L : List Pat} (h : POwn w base v L) (hb : base' ≤ base) : POwn w base' v L := by
  refine ⟨h.1, ?_⟩
  rcases h.2 with h0 | ⟨g, cap, cur, hv, hg, r⟩
  · exact .inl h0
  · exact .inr ⟨g, cap, cur, hv, by omega, r⟩
theorem POwn.kept {w w' : World} {base : Nat} {v : Value} {L : List Pat} {row : Option Nat} (h : POwn w base v L) (hg : w.grownBy w' row) (hne : v.ownBlock = none ∨ v.ownBlock ≠ row) : POwn w' base v L :=
  World.ownsRow.kept h hg hne
theorem POwn.still {w w' : World} {base : Nat} {v : Value} {L : List Pat} (h : POwn w base v L) (hg : w.grownBy w' none) : POwn w' base v L :=
  h.kept hg (by cases h : v.ownBlock <;> simp)
theorem POwn.none_ (w : World) (base : Nat) : POwn w base (.slice none 0 0) [] := World.ownsRow_nil _ _ _ _
theorem POwn.made (w : World) (base : Nat) (hb : base ≤ w.heap.size) : POwn (w.alloc (.cells #[] 32)) base (.slice (some ⟨w.heap.size, 0, none⟩) 0 0) [] :=
  ⟨by simp [pflat, vals], .inr ⟨w.heap.size, 0, #[], rfl, hb, heap_alloc_new w _, Nat.le_refl _, by simp [maxLen], by simp, by simp [pflat, vals]⟩⟩
theorem pown_len {w : World} {base : Nat} {v : Value} {L : List Pat} {n : Nat} (h : w.ownsRow base 32 2 v n (vals (pflat L))) (hl : L.length = n) : POwn w base v L := by subst hl; exact h
/-- one patch more. -/
theorem pown_snoc {w : World} {base : Nat} {v : Value} {L : List Pat} {x y : Int} {n : Nat} (h : w.ownsRow base 32 2 v n (vals (pflat L) ++ [.int .i64 x, .int .i64 y])) (hn : n = L.length + 1) : POwn w base v (L ++ [⟨x, y⟩]) := by
  refine pown_len (n := n) ?_ (by simp [hn])
  rw [pflat_app, pflat_one]
  simpa [vals] using h
theorem POwn.form {w : World} {base : Nat} {v : Value} {L : List Pat} (h : POwn w base v L) : ∃ a c, v = .slice a L.length c ∧ L.length ≤ c ∧ c ≤ maxLen := by
  obtain ⟨a, c, e, h1, h2, _⟩ := h.sl
  exact ⟨a, c, e, h1, h2⟩
theorem POwn.lt {w : World} {base : Nat} {v : Value} {L : List Pat} (h : POwn w base v L) (k : Nat) (hk : v.ownBlock = some k) : base ≤ k ∧ k < w.heap.size := World.ownsRow.lt h k hk
theorem pfar {w : World} {base b : Nat} {v : Value} {L : List Pat} (h : POwn w base v L) (hb : b < base) : v.ownBlock = none ∨ v.ownBlock ≠ some b := .inr fun e => by have := (h.lt b e).1; omega
theorem infoPatch : (Try.prog.info? 32).map (fun i => (i.zero, i.size, i.bytes)) = some (some (.agg #[.int .i64 0, .int .i64 0]), 2, 16) := by kernel_rfl
/-- a call that answers with new patches. -/
def NewPats (L : List Pat) (w : World) (e : Ending) (w' : World) : Prop := ∃ v, e = .returned v ∧ w.grownBy w' none ∧ POwn w' w.heap.size v L

/-- an argument of a law that is a slice of patches. -/
theorem psl_of {H : Type} {enc : TypeId × Value → H} {P : Program} {w : World} {t e : TypeId} {f0 f1 : Field} {a : Option Addr} {len cap : Nat} {d : DataW H} {ps : List MemPlace} (ht : P.underlying t = some (.slice e)) (he : P.underlying e = some (.struct #[f0, f1])) (ce : P.cellsOf e = 2)
    (ho : f0.offset = 0 ∧ f1.offset = 1) (u0 : P.underlying f0.type = some (.int .i64)) (u1 : P.underlying f1.type = some (.int .i64)) (c0 : P.cellsOf f0.type = 1) (c1 : P.cellsOf f1.type = 1)
    (h : DataW.Trod enc P w 0 (fun _ => true) true t (.slice a len cap) d ps) : ∃ L : List Pat, len = L.length ∧ len ≤ cap ∧ cap ≤ maxLen ∧ PSl w (.slice a len cap) L := by
  obtain ⟨o0, o1⟩ := ho
  obtain ⟨fuel, hf⟩ := h
  rcases open_slice ht hf with ⟨hcs, _⟩ | ⟨x, len', cap', m, n, D, Pl, hcs, _, hl, hm, hmm, _, hx⟩
  · simp [Value.cells] at hcs
    obtain ⟨rfl, rfl, rfl⟩ := hcs
    exact ⟨[], rfl, by omega, by simp [maxLen], none, 0, rfl, by simp, by simp [maxLen], .inl rfl⟩
  · simp [Value.cells] at hcs
    obtain ⟨rfl, rfl, rfl⟩ := hcs
    have hm' : m = cap := by rw [hmm]; simp
    subst hm'
    have each : ∀ i, i < len → ∃ s : Pat, w.cell? (x.add (i * 2)) = some (.int .i64 s.at') ∧ w.cell? (x.add (i * 2 + 1)) = some (.int .i64 s.dif) := by
      intro i hi
      obtain ⟨cs', h1, h2⟩ := hx i (by omega)
      rw [ce] at h1
      obtain ⟨_, hlen, hcell⟩ := World.cells?_some h1
      obtain ⟨xs, k, hk, hxy, _, hxl, hg⟩ := DataW.trod_struct he h2
      match xs, hxl, cs', hlen with
      | [y0, y1], _, [v0, v1], _ =>
        have g0 := hg 0 f0 rfl
        have g1 := hg 1 f1 rfl
        simp [o0, o1, c0, c1] at g0 g1
        obtain ⟨p0, q0, _, _⟩ := DataW.trod_int u0 g0
        obtain ⟨p1, q1, _, _⟩ := DataW.trod_int u1 g1
        injection q0 with q0
        injection q1 with q1
        have e0 := hcell 0 (by omega)
        have e1 := hcell 1 (by omega)
        rw [add_add] at e0 e1
        exact ⟨⟨p0, p1⟩, by simpa [q0] using e0, by simpa [q1] using e1⟩
    obtain ⟨S, hS⟩ : ∃ S : Nat → Pat, ∀ i, i < len → w.cell? (x.add (i * 2)) = some (.int .i64 (S i).at') ∧ w.cell? (x.add (i * 2 + 1)) = some (.int .i64 (S i).dif) := by
      haveI : Inhabited Pat := ⟨pat0⟩
      exact choose_lt each
    refine ⟨(List.range len).map S, by simp, hl, hm, some x, m, by simp, by simpa using hl, hm, ?_⟩
    by_cases h0 : len = 0
    · left; subst h0; rfl
    · right
      obtain ⟨xb, xo, sp⟩ := x
      have hsp : sp = none := by simpa [Addr.add] using World.cell?_spot (hS 0 (by omega)).1
      subst hsp
      refine ⟨xb, xo, rfl, fun i hi => ?_⟩
      rw [pflat_len] at hi
      simp only [List.length_map, List.length_range] at hi
      have hq : i / 2 < len := by omega
      have hq' : i / 2 < ((List.range len).map S).length := by simpa using hq
      obtain ⟨s0, s1⟩ := pflat_get ((List.range len).map S) hq'
      have es : ((List.range len).map S).getD (i / 2) pat0 = S (i / 2) := by simp [List.getD_eq_getElem?_getD, hq]
      obtain ⟨h0, h1⟩ := hS _ hq
      rw [es] at s0 s1
      rw [Addr.add_lit] at h0 h1
      rcases (by omega : i = i / 2 * 2 ∨ i = i / 2 * 2 + 1) with e | e
      · have e' : (pflat ((List.range len).map S)).getD i 0 = (S (i / 2)).at' := by rw [← s0, ← e]
        rw [e', show xo + i = xo + i / 2 * 2 by omega]; exact h0
      · have e' : (pflat ((List.range len).map S)).getD i 0 = (S (i / 2)).dif := by rw [← s1, ← e]
        rw [e', show xo + i = xo + (i / 2 * 2 + 1) by omega]; exact h1
end Go.Proofs.Ythglkgicckodaaa
