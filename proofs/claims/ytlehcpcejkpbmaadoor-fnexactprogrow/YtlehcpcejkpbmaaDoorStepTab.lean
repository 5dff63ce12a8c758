/-
  Steps in a slice: how they lie in memory, how they are read, owned, put behind one another.
  Conditions: none.
-/
import Derived.Test.YtlehcpcejkpbmaaDoorStepMath
import Derived.Deep.Slices
namespace Go.Proofs.YtlehcpcejkpbmaaDoor
open Go.RowKit Go.ChangeShapes Go.WideShapes Go.ChangeAt Go.Deep
set_option linter.unusedVariables false

/-- steps, number by number. -/
def sflat (L : List Stp) : List Int := L.flatMap fun s => [s.op, s.a, s.b]
theorem sflat_app (L M : List Stp) : sflat (L ++ M) = sflat L ++ sflat M := by simp [sflat]
theorem sflat_one (s : Stp) : sflat [s] = [s.op, s.a, s.b] := rfl
theorem sflat_cons (s : Stp) (L : List Stp) : sflat (s :: L) = [s.op, s.a, s.b] ++ sflat L := by simp [sflat]
theorem sflat_len : ∀ L : List Stp, (sflat L).length = L.length * 3
  | [] => rfl
  | s :: L => by
    have h := sflat_len L
    rw [sflat_cons, List.length_append, h]
    show 3 + L.length * 3 = (L.length + 1) * 3
    omega
theorem sflat_get : ∀ (L : List Stp) {i : Nat}, i < L.length → (sflat L).getD (i * 3) 0 = (L.getD i szero).op ∧ (sflat L).getD (i * 3 + 1) 0 = (L.getD i szero).a ∧ (sflat L).getD (i * 3 + 2) 0 = (L.getD i szero).b
  | [], i, h => by simp at h
  | s :: L, 0, _ => ⟨rfl, rfl, rfl⟩
  | s :: L, i + 1, h => by
    have ih := sflat_get L (i := i) (by simpa using h)
    have e : ∀ c, (sflat (s :: L)).getD ((i + 1) * 3 + c) 0 = (sflat L).getD (i * 3 + c) 0 := by
      intro c
      rw [sflat_cons, List.getD_eq_getElem?_getD, List.getElem?_append_right (by show 3 ≤ _; omega), List.getD_eq_getElem?_getD]
      congr 2
      show (i + 1) * 3 + c - 3 = _
      omega
    exact ⟨(e 0).trans ih.1, (e 1).trans ih.2.1, (e 2).trans ih.2.2⟩
/-- a slice that reads as steps. -/
def SSl (w : World) (v : Value) (L : List Stp) : Prop := ∃ a cap, v = .slice a L.length cap ∧ L.length ≤ cap ∧ cap ≤ maxLen ∧ Rds w a (sflat L)
/-- a slice of steps that is owned. -/
def SOwn (w : World) (base : Nat) (v : Value) (L : List Stp) : Prop := w.ownsRow base 49 3 v L.length (vals (sflat L))
theorem SSl.grown {w w' : World} {v : Value} {L : List Stp} (h : SSl w v L) (hg : w.grownBy w' none) : SSl w' v L := by
  obtain ⟨a, cap, rfl, h1, h2, h⟩ := h
  exact ⟨a, cap, rfl, h1, h2, h.grown hg⟩
theorem cells3 {w : World} {a : Option Addr} {L : List Stp} (h : Rds w a (sflat L)) {k : Nat} (hk : k < L.length) :
    ∃ b o, a = some ⟨b, o, none⟩ ∧ w.cell? ⟨b, o + k * 3, none⟩ = some (.int .i64 (L.getD k szero).op) ∧ w.cell? ⟨b, o + k * 3 + 1, none⟩ = some (.int .i64 (L.getD k szero).a) ∧ w.cell? ⟨b, o + k * 3 + 2, none⟩ = some (.int .i64 (L.getD k szero).b) := by
  obtain ⟨e0, e1, e2⟩ := sflat_get L hk
  have hl := sflat_len L
  rcases h with h0 | ⟨b, o, rfl, h⟩
  · rw [h0] at hl; simp at hl; omega
  · refine ⟨b, o, rfl, ?_, ?_, ?_⟩
    · rw [← e0]; exact h (k * 3) (by omega)
    · rw [← e1]; exact h (k * 3 + 1) (by omega)
    · rw [← e2]; exact h (k * 3 + 2) (by omega)
theorem SOwn.sl {w : World} {base : Nat} {v : Value} {L : List Stp} (h : SOwn w base v L) : SSl w v L := by
  rcases h.2 with ⟨rfl, h0⟩ | ⟨g, cap, cur, rfl, _, hg, h1, h2, _, ht⟩
  · have : L = [] := List.eq_nil_of_length_eq_zero h0
    subst this
    exact ⟨none, 0, rfl, by simp, by simp [maxLen], .inl rfl⟩
  · refine ⟨_, cap, rfl, h1, h2, .inr ⟨g, 0, rfl, fun i hi => ?_⟩⟩
    rw [cell_of_row w g (0 + i) cur 49 (0, 0) hg]
    have hv := vals_get (sflat L) i hi
    rw [sflat_len] at hi
    rw [← ht, List.getElem?_take, if_pos hi] at hv
    simpa using hv
theorem SOwn.lower {w : World} {base base' : Nat} {v : Value} {L : List Stp} (h : SOwn w base v L) (hb : base' ≤ base) : SOwn w base' v L := by
  refine ⟨h.1, ?_⟩
  rcases h.2 with h0 | ⟨g, cap, cur, hv, hg, r⟩
  · exact .inl h0
  · exact .inr ⟨g, cap, cur, hv, by omega, r⟩
theorem SOwn.kept {w w' : World} {base : Nat} {v : Value} {L : List Stp} {row : Option Nat} (h : SOwn w base v L) (hg : w.grownBy w' row) (hne : v.ownBlock = none ∨ v.ownBlock ≠ row) : SOwn w' base v L :=
  World.ownsRow.kept h hg hne
theorem SOwn.still {w w' : World} {base : Nat} {v : Value} {L : List Stp} (h : SOwn w base v L) (hg : w.grownBy w' none) : SOwn w' base v L :=
  h.kept hg (by cases h : v.ownBlock <;> simp)
theorem SOwn.none_ (w : World) (base : Nat) : SOwn w base (.slice none 0 0) [] := World.ownsRow_nil _ _ _ _
theorem SOwn.made (w : World) (base : Nat) (hb : base ≤ w.heap.size) : SOwn (w.alloc (.cells #[] 49)) base (.slice (some ⟨w.heap.size, 0, none⟩) 0 0) [] :=
  ⟨by simp [sflat, vals], .inr ⟨w.heap.size, 0, #[], rfl, hb, heap_alloc_new w _, Nat.le_refl _, by simp [maxLen], by simp, by simp [sflat, vals]⟩⟩
theorem sown_len {w : World} {base : Nat} {v : Value} {L : List Stp} {n : Nat} (h : w.ownsRow base 49 3 v n (vals (sflat L))) (hl : L.length = n) : SOwn w base v L := by subst hl; exact h
/-- one step more. -/
theorem sown_snoc {w : World} {base : Nat} {v : Value} {L : List Stp} {x y z : Int} {n : Nat} (h : w.ownsRow base 49 3 v n (vals (sflat L) ++ [.int .i64 x, .int .i64 y, .int .i64 z])) (hn : n = L.length + 1) : SOwn w base v (L ++ [⟨x, y, z⟩]) := by
  refine sown_len (n := n) ?_ (by simp [hn])
  rw [sflat_app, sflat_one]
  simpa [vals] using h
theorem SOwn.form {w : World} {base : Nat} {v : Value} {L : List Stp} (h : SOwn w base v L) : ∃ a c, v = .slice a L.length c ∧ L.length ≤ c ∧ c ≤ maxLen := by
  obtain ⟨a, c, e, h1, h2, _⟩ := h.sl
  exact ⟨a, c, e, h1, h2⟩
theorem SOwn.lt {w : World} {base : Nat} {v : Value} {L : List Stp} (h : SOwn w base v L) (k : Nat) (hk : v.ownBlock = some k) : base ≤ k ∧ k < w.heap.size := World.ownsRow.lt h k hk
theorem sfar {w : World} {base b : Nat} {v : Value} {L : List Stp} (h : SOwn w base v L) (hb : b < base) : v.ownBlock = none ∨ v.ownBlock ≠ some b := .inr fun e => by have := (h.lt b e).1; omega
theorem cells_of3 {w : World} {x y z : Value} {t : TypeId} : ∀ j v, [x, y, z][j]? = some v → (w.alloc (.cells #[x, y, z] t)).cell? ((⟨w.heap.size, 0, none⟩ : Addr).add j) = some v := by
  intro j v hj
  rw [Addr.add_lit]
  rw [show (0 + j) = j from Nat.zero_add j, cell_of_row _ w.heap.size j _ t (0, 0) (heap_alloc_new w _)]
  simpa using hj
theorem infoStep : (Tryd.prog.info? 49).map (fun i => (i.zero, i.size, i.bytes)) = some (some (.agg #[.int .i64 0, .int .i64 0, .int .i64 0]), 3, 24) := by kernel_rfl
/-- a call that answers with new steps, and whether they are any. -/
def NewSteps2 (L : List Stp) (b : Bool) (w : World) (e : Ending) (w' : World) : Prop := ∃ v, e = .returned (.tuple #[v, .bool b]) ∧ w.grownBy w' none ∧ SOwn w' w.heap.size v L
def NewSteps (L : List Stp) (w : World) (e : Ending) (w' : World) : Prop := ∃ v, e = .returned v ∧ w.grownBy w' none ∧ SOwn w' w.heap.size v L

/-- an argument of a law that is a slice of steps. -/
theorem ssl_of {H : Type} {enc : TypeId × Value → H} {P : Program} {w : World} {t e : TypeId} {f0 f1 f2 : Field} {a : Option Addr} {len cap : Nat} {d : DataW H} {ps : List MemPlace} (ht : P.underlying t = some (.slice e)) (he : P.underlying e = some (.struct #[f0, f1, f2])) (ce : P.cellsOf e = 3)
    (ho : f0.offset = 0 ∧ f1.offset = 1 ∧ f2.offset = 2) (u0 : P.underlying f0.type = some (.int .i64)) (u1 : P.underlying f1.type = some (.int .i64)) (u2 : P.underlying f2.type = some (.int .i64)) (c0 : P.cellsOf f0.type = 1) (c1 : P.cellsOf f1.type = 1) (c2 : P.cellsOf f2.type = 1)
    (h : DataW.Trod enc P w 0 (fun _ => true) true t (.slice a len cap) d ps) : ∃ L : List Stp, len = L.length ∧ len ≤ cap ∧ cap ≤ maxLen ∧ SSl w (.slice a len cap) L := by
  obtain ⟨o0, o1, o2⟩ := ho
  obtain ⟨fuel, hf⟩ := h
  rcases open_slice ht hf with ⟨hcs, _⟩ | ⟨x, len', cap', m, n, D, Pl, hcs, _, hl, hm, hmm, _, hx⟩
  · simp [Value.cells] at hcs
    obtain ⟨rfl, rfl, rfl⟩ := hcs
    exact ⟨[], rfl, by omega, by simp [maxLen], none, 0, rfl, by simp, by simp [maxLen], .inl rfl⟩
  · simp [Value.cells] at hcs
    obtain ⟨rfl, rfl, rfl⟩ := hcs
    have hm' : m = cap := by rw [hmm]; simp
    subst hm'
    have each : ∀ i, i < len → ∃ s : Stp, w.cell? (x.add (i * 3)) = some (.int .i64 s.op) ∧ w.cell? (x.add (i * 3 + 1)) = some (.int .i64 s.a) ∧ w.cell? (x.add (i * 3 + 2)) = some (.int .i64 s.b) := by
      intro i hi
      obtain ⟨cs', h1, h2⟩ := hx i (by omega)
      rw [ce] at h1
      obtain ⟨_, hlen, hcell⟩ := World.cells?_some h1
      obtain ⟨xs, k, hk, hxy, _, hxl, hg⟩ := DataW.trod_struct he h2
      match xs, hxl, cs', hlen with
      | [y0, y1, y2], _, [v0, v1, v2], _ =>
        have g0 := hg 0 f0 rfl
        have g1 := hg 1 f1 rfl
        have g2 := hg 2 f2 rfl
        simp [o0, o1, o2, c0, c1, c2] at g0 g1 g2
        obtain ⟨p0, q0, _, _⟩ := DataW.trod_int u0 g0
        obtain ⟨p1, q1, _, _⟩ := DataW.trod_int u1 g1
        obtain ⟨p2, q2, _, _⟩ := DataW.trod_int u2 g2
        injection q0 with q0
        injection q1 with q1
        injection q2 with q2
        have e0 := hcell 0 (by omega)
        have e1 := hcell 1 (by omega)
        have e2 := hcell 2 (by omega)
        rw [add_add] at e0 e1 e2
        exact ⟨⟨p0, p1, p2⟩, by simpa [q0] using e0, by simpa [q1] using e1, by simpa [q2] using e2⟩
    obtain ⟨S, hS⟩ : ∃ S : Nat → Stp, ∀ i, i < len → w.cell? (x.add (i * 3)) = some (.int .i64 (S i).op) ∧ w.cell? (x.add (i * 3 + 1)) = some (.int .i64 (S i).a) ∧ w.cell? (x.add (i * 3 + 2)) = some (.int .i64 (S i).b) := by
      haveI : Inhabited Stp := ⟨szero⟩
      exact choose_lt each
    refine ⟨(List.range len).map S, by simp, hl, hm, some x, m, by simp, by simpa using hl, hm, ?_⟩
    by_cases h0 : len = 0
    · left; subst h0; rfl
    · right
      obtain ⟨xb, xo, sp⟩ := x
      have hsp : sp = none := by simpa [Addr.add] using World.cell?_spot (hS 0 (by omega)).1
      subst hsp
      refine ⟨xb, xo, rfl, fun i hi => ?_⟩
      rw [sflat_len] at hi
      simp only [List.length_map, List.length_range] at hi
      have hq : i / 3 < len := by omega
      have hq' : i / 3 < ((List.range len).map S).length := by simpa using hq
      obtain ⟨s0, s1, s2⟩ := sflat_get ((List.range len).map S) hq'
      have es : ((List.range len).map S).getD (i / 3) szero = S (i / 3) := by simp [List.getD_eq_getElem?_getD, hq]
      obtain ⟨h0, h1, h2⟩ := hS _ hq
      rw [es] at s0 s1 s2
      rw [Addr.add_lit] at h0 h1 h2
      rcases (by omega : i = i / 3 * 3 ∨ i = i / 3 * 3 + 1 ∨ i = i / 3 * 3 + 2) with e | e | e
      · have e' : (sflat ((List.range len).map S)).getD i 0 = (S (i / 3)).op := by rw [← s0, ← e]
        rw [e', show xo + i = xo + i / 3 * 3 by omega]; exact h0
      · have e' : (sflat ((List.range len).map S)).getD i 0 = (S (i / 3)).a := by rw [← s1, ← e]
        rw [e', show xo + i = xo + (i / 3 * 3 + 1) by omega]; exact h1
      · have e' : (sflat ((List.range len).map S)).getD i 0 = (S (i / 3)).b := by rw [← s2, ← e]
        rw [e', show xo + i = xo + (i / 3 * 3 + 2) by omega]; exact h2
end Go.Proofs.YtlehcpcejkpbmaaDoor
