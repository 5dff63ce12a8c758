/-
  The contracts of the program's elimination of a whole matrix, of its rows, of SpanRank, SpanFirst and SpanTidy.
  Conditions: none.
-/
import Derived.Test.YtdbajokjhllekabSpanTake
import Derived.Test.YtdbajokjhllekabSpanOk
namespace Go.Proofs.Ytdbajokjhllekab
open Go.RowKit
set_option linter.unusedVariables false

theorem grown_then {a w w' : World} (h : a.grownBy w none) (hb : Below a.heap.size w w') : a.grownBy w' none :=
  ⟨hb.os.trans h.os, hb.tape.trans h.tape, hb.output.trans h.output, Nat.le_trans h.size hb.size, fun i hi _ => (hb.block i hi).trans (h.block i hi (by simp))⟩

/-- what the elimination of a matrix leaves; nil and false of what is none. -/
def EchOf (m : List (List Int)) (w : World) (e : Ending) (w' : World) : Prop :=
  w.grownBy w' none ∧ ((okM m = false ∧ e = .returned (.tuple #[.pointer none, .bool false])) ∨
    (okM m = true ∧ ∃ g q S pv pn, e = .returned (.tuple #[.pointer (some ⟨g, 0, none⟩), .bool true]) ∧ Ech w' w.heap.size g q S pv (pn.map fun (i : Nat) => (i : Int)) ∧ Sp.Stand m m.length S pn))

/-- rows of four, one behind the other. -/
def flat (T : List (List Int)) : List Value := T.flatMap vals
def Vs (w : World) (base : Nat) (v : Value) (T : List (List Int)) : Prop := w.ownsRow base 44 4 v T.length (flat T)
theorem flat_len {T : List (List Int)} (h : ∀ r ∈ T, r.length = 4) : (flat T).length = T.length * 4 := by
  induction T with
  | nil => rfl
  | cons a T ih =>
    unfold flat at ih ⊢
    rw [List.flatMap_cons, List.length_append, ih (fun r hr => h r (by simp [hr])), vals_length, h a (by simp), List.length_cons]; omega
theorem flat_get {T : List (List Int)} : (∀ r ∈ T, r.length = 4) → ∀ {k i : Nat}, k < T.length → i < 4 → (flat T)[k * 4 + i]? = some (.int .i64 ((T.getD k []).getD i 0)) := by
  induction T with
  | nil => intro _ k i hk; simp at hk
  | cons a T ih =>
    intro h k i hk hi
    have ha : (vals a).length = 4 := by rw [vals_length]; exact h a (by simp)
    unfold flat at ih ⊢
    rw [List.flatMap_cons]
    cases k with
    | zero =>
      rw [List.getElem?_append_left (by omega)]
      have := vals_get a i (by rw [h a (by simp)]; exact hi)
      simpa using this
    | succ k =>
      rw [List.getElem?_append_right (by omega), ha, show (k + 1) * 4 + i - 4 = k * 4 + i by omega, ih (fun r hr => h r (by simp [hr])) (by simpa using hk) hi]
      rfl
theorem Vs.at_ {w : World} {base : Nat} {v : Value} {T : List (List Int)} (h : Vs w base v T) (hT : ∀ r ∈ T, r.length = 4) {k : Nat} (hk : k < T.length) :
    ∃ g cap, v = .slice (some ⟨g, 0, none⟩) T.length cap ∧ g < w.heap.size ∧ ∀ i, i < 4 → w.cell? ⟨g, k * 4 + i, none⟩ = some (.int .i64 ((T.getD k []).getD i 0)) := by
  rcases h.2 with ⟨_, h0⟩ | ⟨g, cap, cur, e, _, hg, _⟩
  · omega
  · refine ⟨g, cap, e, (Array.getElem?_eq_some_iff.1 hg).1, fun i hi => ?_⟩
    subst e
    have := World.ownsRow.cells h (g := g) rfl (k * 4 + i) _ (flat_get hT hk hi)
    rw [Addr.add_lit] at this
    simpa using this
theorem Vs.form {w : World} {base : Nat} {v : Value} {T : List (List Int)} (h : Vs w base v T) : ∃ a cap, v = .slice a T.length cap ∧ T.length ≤ cap ∧ cap ≤ maxLen := by
  rcases h.2 with ⟨rfl, h0⟩ | ⟨g, cap, cur, rfl, _, hg, h1, h2, _⟩
  · exact ⟨none, 0, by rw [h0], by omega, by omega⟩
  · exact ⟨_, cap, rfl, h1, h2⟩
theorem Vs.still {w w' : World} {base : Nat} {v : Value} {T : List (List Int)} (h : Vs w base v T) (hg : w.grownBy w' none) : Vs w' base v T :=
  World.ownsRow.kept h hg (by cases h : v.ownBlock <;> simp)
theorem Vs.snoc {w : World} {base : Nat} {v : Value} {T T' : List (List Int)} {l : List Int} {n : Nat} (h : w.ownsRow base 44 4 v n (flat T ++ vals l)) (hn : n = T.length + 1) (e : T ++ [l] = T') : Vs w base v T' := by
  subst e hn
  have e : flat (T ++ [l]) = flat T ++ vals l := by simp [flat]
  unfold Vs
  rw [e, List.length_append]
  exact h

/-- the first k columns' lines. -/
def colK (S : Sp.Cols) (k : Nat) : List (List Int) := ((List.range k).filterMap S).map (List.take 4)
theorem colK_none {S : Sp.Cols} {k : Nat} (h : S k = none) : colK S (k + 1) = colK S k := by
  unfold colK; rw [List.range_succ, List.filterMap_append]; simp [h]
theorem colK_some {S : Sp.Cols} {k : Nat} {l : List Int} (h : S k = some l) : colK S (k + 1) = colK S k ++ [l.take 4] := by
  unfold colK; rw [List.range_succ, List.filterMap_append]; simp [h]
theorem colK_len (S : Sp.Cols) (k : Nat) : (colK S k).length ≤ k := by
  unfold colK
  rw [List.length_map]
  have := List.length_filterMap_le S (List.range k)
  rwa [List.length_range] at this
theorem list_cells {w : World} {l : List Value} {t : TypeId} : ∀ j u, l[j]? = some u → (w.alloc (.cells l.toArray t)).cell? ((⟨w.heap.size, 0, none⟩ : Addr).add j) = some u := by
  intro j u hu
  rw [Addr.add_lit, cell_of_row _ _ _ _ t (0, 0) (heap_alloc_new w _)]
  simpa using hu
theorem infoRow : (Try.prog.info? 44).map (fun i => (i.zero, i.size, i.bytes)) = some (some (.agg #[.int .i64 0, .int .i64 0, .int .i64 0, .int .i64 0]), 4, 32) := by kernel_rfl

/-- what the rows of the elimination are. -/
def NewVs (T : List (List Int)) (w : World) (e : Ending) (w' : World) : Prop := ∃ v, e = .returned v ∧ w.grownBy w' none ∧ Vs w' w.heap.size v T