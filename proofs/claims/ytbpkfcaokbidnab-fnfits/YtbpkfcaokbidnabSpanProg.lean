/-
  The contracts of the program's elimination of a whole matrix, of its rows, of SpanRank, SpanFirst and SpanTidy.
  Conditions: none.
-/
import Derived.Test.YtbpkfcaokbidnabSpanTake
import Derived.Test.YtbpkfcaokbidnabSpanOk
namespace Go.Proofs.Ytbpkfcaokbidnab
open Go.RowKit
set_option linter.unusedVariables false

theorem grown_then {a w w' : World} (h : a.grownBy w none) (hb : Below a.heap.size w w') : a.grownBy w' none :=
  ⟨hb.os.trans h.os, hb.tape.trans h.tape, hb.output.trans h.output, Nat.le_trans h.size hb.size, fun i hi _ => (hb.block i hi).trans (h.block i hi (by simp))⟩

/-- what the elimination of a matrix leaves; nil and false of what is none. -/
def EchOf (m : List (List Int)) (w : World) (e : Ending) (w' : World) : Prop :=
  w.grownBy w' none ∧ ((okM m = false ∧ e = .returned (.tuple #[.pointer none, .bool false])) ∨
    (okM m = true ∧ ∃ g q S pv pn, e = .returned (.tuple #[.pointer (some ⟨g, 0, none⟩), .bool true]) ∧ Ech w' w.heap.size g q S pv (pn.map fun (i : Nat) => (i : Int)) ∧ Sp.Stand m m.length S pn))

set_option maxHeartbeats 2000000 in
set_option maxRecDepth 20000 in
theorem echelonOf (v : Value) (us : List Value) (m : List (List Int)) (w : World) (h : Tab w v us m) : Calls Try.prog 90 #[v] w (EchOf m w) := by
  have T := Lib.hid h
  obtain ⟨a, cap, rfl, h1, h2, h3⟩ := h.top
  clear h h3
  unfold maxLen at h2
  have C := Lib.hid (implSpanOk _ us m w T.out)
  cases hq : okM m with
  | false =>
    rw [hq] at C
    have Q := Lib.hid hq
    clear hq
    go_enter Try.func90, Try.ntmps90
    go_wp2_with fail
    refine C.out.mono ?_
    rintro e w' ⟨rfl, rfl⟩
    go_wp2_with fail
    go_ret2
    exact ⟨World.grownBy.refl _ _, .inl ⟨Q.out, rfl⟩⟩
  | true =>
    rw [hq] at C
    have Q := Lib.hid hq
    have h8 := okM_len hq
    have HM := Lib.hid (okM_all hq)
    have E0 : Hid (Ech (w.alloc (.cells #[.pointer none, .pointer none, .pointer none, .pointer none, .slice none 0 0] 150)) w.heap.size w.heap.size (fun _ => none) (fun _ => none) (.slice none 0 0) []) := Lib.hid
      ⟨Nat.le_refl _, heap_alloc_new w _, fun j => .inl ⟨rfl, rfl⟩, fun i j b h => (by cases h), fun j _ => rfl, Own.none_ _ _⟩
    clear hq
    go_enter Try.func90, Try.ntmps90
    go_wp2_with fail
    refine C.out.mono ?_
    rintro e w' ⟨rfl, rfl⟩
    go_wp2_with fail
    go_loopw [16] (fun i wr => ∃ k : Nat, k ≤ m.length ∧ i = .int .i64 k ∧ w.grownBy wr none ∧ ∃ q S pv pn, Ech wr w.heap.size w.heap.size q S pv (pn.map fun (i : Nat) => (i : Int)) ∧ Sp.Stand m k S pn) (fun i _ => m.length - (intOf i).toNat)
    case atStart => exact ⟨0, Nat.zero_le _, rfl, grown_alloc (World.grownBy.refl _ _) _, _, _, _, [], E0.out, Sp.Stand.start m⟩
    case round =>
      obtain ⟨k, hk, rfl, hg, q, S, pv, pn, he, hst⟩ := hrel
      have G := Lib.hid hg
      have E := Lib.hid he
      have ST := Lib.hid hst
      clear hg he hst E0
      by_cases hlt : k < m.length
      · have hlt' : (k : Int) < (m.length : Int) := by omega
        obtain ⟨b, o, cap', u, e, hu, hx, hs⟩ := (T.out.grown G.out).at_ hlt
        injection e with e1 e2 e3
        subst e1 e3
        have ok := okM_get Q.out hlt
        obtain ⟨x, y, z, t, hv, _⟩ := Vec.ok_four ok
        rw [hv] at hs ok
        have S4 := Lib.hid hs
        have HV := Lib.hid hv
        have OK := Lib.hid ok
        clear hs hu hv ok
        go_wp2_with fail
        refine (implVectorYes u x y z t _ S4.out OK.out).mono ?_
        rintro e w2 ⟨rfl, hg⟩
        have E3 := Lib.hid (E.out.grown (grown_alloc hg (.cells #[.int .i64 x, .int .i64 y, .int .i64 z, .int .i64 t] 74)))
        have G3 := Lib.hid (grown_trans G.out (grown_alloc hg (.cells #[.int .i64 x, .int .i64 y, .int .i64 z, .int .i64 t] 74)))
        clear hg hx
        go_wp2_with fail
        refine (echTake w.heap.size w.heap.size k q S pv pn m x y z t _ E3.out G3.out.size ST.out HM.out hlt h8 HV.out).mono ?_
        rintro e w4 ⟨rfl, hbl, q', S', pv', pn', he, hst⟩
        have G4 := Lib.hid (grown_then G3.out hbl)
        have E4 := Lib.hid he
        have ST4 := Lib.hid hst
        clear hbl he hst E3 G3
        go_wp2_with fail
        go_roundw
        case rel => exact ⟨k + 1, by omega, by go_num, G4.out, q', S', pv', pn', E4.out, ST4.out⟩
        case measure => simp [intOf]; omega
      · have : k = m.length := by omega
        subst this
        go_wp2_with fail
        go_ret2
        exact ⟨G.out, .inr ⟨Q.out, _, q, S, pv, pn, rfl, E.out, ST.out⟩⟩

/-- rows of four, one behind the other. -/
def flat (T : List (List Int)) : List Value := T.flatMap vals
def Vs (w : World) (base : Nat) (v : Value) (T : List (List Int)) : Prop := w.ownsRow base 74 4 v T.length (flat T)
theorem flat_len {T : List (List Int)} (h : ∀ r ∈ T, r.length = 4) : (flat T).length = T.length * 4 := by
  induction T with
  | nil => rfl
  | cons a T ih =>
    unfold flat at ih ⊢
    rw [List.flatMap_cons, List.length_append, ih (fun r hr => h r (by simp [hr])), vals_length, h a (by simp), List.length_cons]; omega
theorem flat_get {T : List (List Int)} : (∀ r ∈ T, r.length = 4) → ∀ {k i : Nat}, k < T.length → i < 4 → (flat T)[k * 4 + i]? = some (.int .i64 ((T.getD k []).getD i 0)) := by
  induction T with
  | nil => intro _ k i hk; simp at hk
  | cons a T ih =>
    intro h k i hk hi
    have ha : (vals a).length = 4 := by rw [vals_length]; exact h a (by simp)
    unfold flat at ih ⊢
    rw [List.flatMap_cons]
    cases k with
    | zero =>
      rw [List.getElem?_append_left (by omega)]
      have := vals_get a i (by rw [h a (by simp)]; exact hi)
      simpa using this
    | succ k =>
      rw [List.getElem?_append_right (by omega), ha, show (k + 1) * 4 + i - 4 = k * 4 + i by omega, ih (fun r hr => h r (by simp [hr])) (by simpa using hk) hi]
      rfl
theorem Vs.at_ {w : World} {base : Nat} {v : Value} {T : List (List Int)} (h : Vs w base v T) (hT : ∀ r ∈ T, r.length = 4) {k : Nat} (hk : k < T.length) :
    ∃ g cap, v = .slice (some ⟨g, 0, none⟩) T.length cap ∧ g < w.heap.size ∧ ∀ i, i < 4 → w.cell? ⟨g, k * 4 + i, none⟩ = some (.int .i64 ((T.getD k []).getD i 0)) := by
  rcases h.2 with ⟨_, h0⟩ | ⟨g, cap, cur, e, _, hg, _⟩
  · omega
  · refine ⟨g, cap, e, (Array.getElem?_eq_some_iff.1 hg).1, fun i hi => ?_⟩
    subst e
    have := World.ownsRow.cells h (g := g) rfl (k * 4 + i) _ (flat_get hT hk hi)
    rw [Addr.add_lit] at this
    simpa using this
theorem Vs.form {w : World} {base : Nat} {v : Value} {T : List (List Int)} (h : Vs w base v T) : ∃ a cap, v = .slice a T.length cap ∧ T.length ≤ cap ∧ cap ≤ maxLen := by
  rcases h.2 with ⟨rfl, h0⟩ | ⟨g, cap, cur, rfl, _, hg, h1, h2, _⟩
  · exact ⟨none, 0, by rw [h0], by omega, by omega⟩
  · exact ⟨_, cap, rfl, h1, h2⟩
theorem Vs.still {w w' : World} {base : Nat} {v : Value} {T : List (List Int)} (h : Vs w base v T) (hg : w.grownBy w' none) : Vs w' base v T :=
  World.ownsRow.kept h hg (by cases h : v.ownBlock <;> simp)
theorem Vs.snoc {w : World} {base : Nat} {v : Value} {T T' : List (List Int)} {l : List Int} {n : Nat} (h : w.ownsRow base 74 4 v n (flat T ++ vals l)) (hn : n = T.length + 1) (e : T ++ [l] = T') : Vs w base v T' := by
  subst e hn
  have e : flat (T ++ [l]) = flat T ++ vals l := by simp [flat]
  unfold Vs
  rw [e, List.length_append]
  exact h

/-- the first k columns' lines. -/
def colK (S : Sp.Cols) (k : Nat) : List (List Int) := ((List.range k).filterMap S).map (List.take 4)
theorem colK_none {S : Sp.Cols} {k : Nat} (h : S k = none) : colK S (k + 1) = colK S k := by
  unfold colK; rw [List.range_succ, List.filterMap_append]; simp [h]
theorem colK_some {S : Sp.Cols} {k : Nat} {l : List Int} (h : S k = some l) : colK S (k + 1) = colK S k ++ [l.take 4] := by
  unfold colK; rw [List.range_succ, List.filterMap_append]; simp [h]
theorem colK_len (S : Sp.Cols) (k : Nat) : (colK S k).length ≤ k := by
  unfold colK
  rw [List.length_map]
  have := List.length_filterMap_le S (List.range k)
  rwa [List.length_range] at this
theorem list_cells {w : World} {l : List Value} {t : TypeId} : ∀ j u, l[j]? = some u → (w.alloc (.cells l.toArray t)).cell? ((⟨w.heap.size, 0, none⟩ : Addr).add j) = some u := by
  intro j u hu
  rw [Addr.add_lit, cell_of_row _ _ _ _ t (0, 0) (heap_alloc_new w _)]
  simpa using hu
theorem infoRow : (Try.prog.info? 74).map (fun i => (i.zero, i.size, i.bytes)) = some (some (.agg #[.int .i64 0, .int .i64 0, .int .i64 0, .int .i64 0]), 4, 32) := by kernel_rfl

/-- what the rows of the elimination are. -/
def NewVs (T : List (List Int)) (w : World) (e : Ending) (w' : World) : Prop := ∃ v, e = .returned v ∧ w.grownBy w' none ∧ Vs w' w.heap.size v T

set_option maxHeartbeats 2000000 in
set_option maxRecDepth 20000 in
theorem echRows (base g : Nat) (q : Nat → Option Addr) (S : Sp.Cols) (pv : Value) (ps : List Int) (w : World) (hE : Ech w base g q S pv ps) (hS : ∀ j l, S j = some l → Sp.Row 12 l) :
    Calls Try.prog 91 #[.pointer (some ⟨g, 0, none⟩)] w (NewVs (colK S 4) w) := by
  have c0 := hE.blk.cell (i := 0) rfl
  have c1 := hE.blk.cell (i := 1) rfl
  have c2 := hE.blk.cell (i := 2) rfl
  have c3 := hE.blk.cell (i := 3) rfl
  have E := Lib.hid hE
  have RS := Lib.hid hS
  clear hE hS
  obtain ⟨i0, hi, hz0, hz1, hz2⟩ := info_parts infoRow
  have I1 := Lib.hid hi
  have I2 := Lib.hid hz0
  have I3 := Lib.hid hz1
  have I4 := Lib.hid hz2
  clear hi hz0 hz1 hz2
  go_enter Try.func91, Try.ntmps91
  go_wp2_with fail
  clear c0 c1 c2 c3
  go_loopw [3, 10] (fun o i wr => ∃ k : Nat, k ≤ 4 ∧ i = .int .i64 k ∧ w.grownBy wr none ∧ Vs wr w.heap.size o (colK S k)) (fun _ i _ => 4 - (intOf i).toNat)
  case atStart => exact ⟨0, by omega, rfl, World.grownBy.refl _ _, World.ownsRow_nil _ _ _ _⟩
  case round =>
    obtain ⟨k, hk, rfl, hg, hv⟩ := hrel
    have G := Lib.hid hg
    have V := Lib.hid hv
    clear hg hv
    by_cases hlt : k < 4
    · have hlt' : (k : Int) < 4 := by omega
      have hidx := idxP q k hlt wr
      rcases E.out.col k with ⟨hq, hs⟩ | ⟨b, m, hq, hs, hb, hm⟩
      · rw [hq] at hidx
        have CN := Lib.hid (colK_none hs)
        clear hq hs
        go_wp2_with fail
        go_roundw
        case rel => exact ⟨k + 1, by omega, by go_num, G.out, by rw [CN.out]; exact V.out⟩
        case measure => simp [intOf]; omega
      · rw [hq] at hidx
        have CN := Lib.hid (colK_some hs)
        have MR := RS.out k m hs
        have M := hm.still G.out
        obtain ⟨x, y, z, t, r, rfl, _, _⟩ := four_of_row MR
        have a0 : wr.cell? ⟨b, 0, none⟩ = some (.int .i64 x) := M.cell (by simp)
        have a1 : wr.cell? ⟨b, 1, none⟩ = some (.int .i64 y) := M.cell (by simp)
        have a2 : wr.cell? ⟨b, 2, none⟩ = some (.int .i64 z) := M.cell (by simp)
        have a3 : wr.cell? ⟨b, 3, none⟩ = some (.int .i64 t) := M.cell (by simp)
        have cl := colK_len S k
        have sb : w.heap.size ≤ wr.heap.size := G.out.size
        clear hq hs hm MR M
        go_wp2_with (first
          | (at_builtin; refine wpList_append_own _ rfl _ _ 117 rfl w.heap.size 74 i0 (.agg #[.int .i64 0, .int .i64 0, .int .i64 0, .int .i64 0]) 4 32 Try.underlying117 I1.out I2.out I3.out I4.out rfl (by decide) _ _ _ rfl (World.ownsRow.alloc V.out _) ⟨wr.heap.size, 0, none⟩ 1 1 (vals [x, y, z, t]) rfl rfl (list_cells (l := vals [x, y, z, t])) (vals_one _) ?c3 ?c4 ?c5 ?_))
        case c3 => unfold maxLen; omega
        case c4 => omega
        case c5 => simp; omega
        intro o' w5 ho hg _
        have V1 : Hid (Vs w5 w.heap.size o' (colK S (k + 1))) := Lib.hid (Vs.snoc (l := [x, y, z, t]) ho rfl (by rw [CN.out]; rfl))
        have G1 : Hid (w.grownBy w5 none) := Lib.hid (grown_own (grown_alloc G.out _) hg (fun j hj => (World.ownsRow.lt V.out j hj).1))
        clear ho hg a0 a1 a2 a3 hidx
        go_wp2_with fail
        go_roundw
        case rel => exact ⟨k + 1, by omega, by go_num, G1.out, V1.out⟩
        case measure => simp [intOf]; omega
    · have : k = 4 := by omega
      subst this
      go_wp2_with fail
      go_ret
      exact ⟨_, rfl, G.out, V.out⟩
end Go.Proofs.Ytbpkfcaokbidnab
