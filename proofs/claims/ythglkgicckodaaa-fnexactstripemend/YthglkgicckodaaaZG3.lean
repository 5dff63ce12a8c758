/-
  What this claim wants of the texts of earlier chapters.
  Conditions: none.
-/
import Derived.Test.YthglkgicckodaaaZG2
import Derived.Test.YthglkgicckodaaaZG1
import Derived.Deep.RegionHeld3
import Derived.Test.YthglkgicckodaaaRows
import Derived.WalkKit
import Derived.ProofKit
import Derived.Lib.Hide
import Derived.OpenShut
import Derived.Deep.QuietTactic
import Derived.BigQuiet
import Derived.ArgAppend
import Derived.Conc.Holds
import Derived.Deep.WholeRow
import Derived.Deep.MidRow
import Derived.Deep.Cut
import Derived.Laws.Cover3

namespace Go.Proofs.Ythglkgicckodaaa
open Go.RowKit
set_option linter.unusedVariables false
namespace Sp
def sel (m : List (List Int)) (F : List Nat) : List (List Int) := F.map fun j => m.getD j []
theorem first_lt {m : List (List Int)} : ∀ j ∈ firsts has m, j < m.length := fun j hj => by
  unfold firsts at hj; exact List.mem_range.1 (List.mem_filter.1 hj).1
theorem sel_ok {m : List (List Int)} (hm : okM m = true) : okM (sel m (firsts has m)) = true := by
  have h8 := okM_len hm
  have hl := first_len m
  refine okM_yes (by unfold sel; rw [List.length_map]; omega) (fun i hi => ?_)
  unfold sel at hi ⊢
  rw [List.length_map] at hi
  rw [List.getD_eq_getElem?_getD, List.getElem?_map, List.getElem?_eq_getElem hi]
  exact okM_get hm (first_lt _ (List.getElem_mem hi))
theorem sel_same {m : List (List Int)} (hm : okM m = true) : Same ((sel m (firsts has m)).map toV) (m.map toV) := by
  constructor
  · intro a ha
    obtain ⟨r, hr, rfl⟩ := List.mem_map.1 ha
    obtain ⟨j, hj, rfl⟩ := List.mem_map.1 hr
    have hl := first_lt j hj
    refine In.mem (List.mem_map.2 ⟨m.getD j [], ?_, rfl⟩)
    rw [List.getD_eq_getElem?_getD, List.getElem?_eq_getElem hl]; exact List.getElem_mem hl
  · have key : ∀ k, k ≤ m.length → ∀ a ∈ (m.take k).map toV, In ((sel m (firsts has m)).map toV) a := by
      intro k
      induction k with
      | zero => intro _ a ha; simp at ha
      | succ k ih =>
        intro hk a ha
        rw [Sp.take_more m (by omega), List.map_append] at ha
        rcases List.mem_append.1 ha with ha | ha
        · exact ih (by omega) a ha
        · simp only [List.map_cons, List.map_nil, List.mem_singleton] at ha
          subst ha
          have hr := fresh_row (okM_all hm) (show k < m.length by omega)
          cases hh : has (m.take k) (m.getD k []) with
          | true => exact ((has_iff (fun r h => okM_all hm r (List.mem_of_mem_take h)) hr).1 hh).trans (ih (by omega))
          | false =>
            refine In.mem (List.mem_map.2 ⟨m.getD k [], List.mem_map.2 ⟨k, ?_, rfl⟩, rfl⟩)
            unfold firsts
            rw [List.mem_filter]
            exact ⟨List.mem_range.2 (by omega), by rw [hh]; rfl⟩
    intro b hb
    exact key m.length (Nat.le_refl _) b (by rw [List.take_length]; exact hb)
end Sp
end Go.Proofs.Ythglkgicckodaaa
namespace Go.Proofs.Ythglkgicckodaaa
open Go.RowKit
set_option linter.unusedVariables false
namespace Sp
theorem mem_firsts {m : List (List Int)} {i : Nat} : i ∈ firsts has m ↔ i < m.length ∧ has (m.take i) (m.getD i []) = false := by
  unfold firsts; rw [List.mem_filter, List.mem_range, Bool.not_eq_true']
theorem firsts_up (m : List (List Int)) : (firsts has m).Pairwise (· < ·) := by
  unfold firsts; exact List.Pairwise.filter _ List.pairwise_lt_range
theorem sel_get {m : List (List Int)} {F : List Nat} {i : Nat} (hi : i < F.length) : (sel m F).getD i [] = m.getD F[i] [] := by
  unfold sel
  rw [List.getD_eq_getElem?_getD, List.getElem?_map, List.getElem?_eq_getElem hi]; rfl
theorem sel_first {m : List (List Int)} (hm : okM m = true) {i : Nat} (hi : i < (sel m (firsts has m)).length) : i ∈ firsts has (sel m (firsts has m)) := by
  have hi' : i < (firsts has m).length := by unfold sel at hi; rwa [List.length_map] at hi
  have hS := okM_all (sel_ok hm)
  obtain ⟨hlt, hno⟩ := first_not (okM_all hm) (List.getElem_mem hi')
  rw [mem_firsts]
  refine ⟨hi, ?_⟩
  cases hb : has ((sel m (firsts has m)).take i) ((sel m (firsts has m)).getD i []) with
  | false => rfl
  | true =>
    exfalso
    have hmade := (has_iff (fun r h => hS r (List.mem_of_mem_take h)) (fresh_row hS hi)).1 hb
    refine hno ?_
    rw [sel_get hi'] at hmade
    refine In.trans hmade (fun a ha => In.mem ?_)
    obtain ⟨r, hr, rfl⟩ := List.mem_map.1 ha
    refine List.mem_map.2 ⟨r, ?_, rfl⟩
    obtain ⟨j, hj, rfl⟩ := List.getElem_of_mem hr
    rw [List.length_take] at hj
    have hj' : j < (firsts has m).length := by omega
    rw [List.getElem_take]
    have e : (sel m (firsts has m))[j]'(by unfold sel; rw [List.length_map]; exact hj') = m.getD (firsts has m)[j] [] := by simp [sel]
    rw [e]
    have hup := List.pairwise_iff_getElem.1 (firsts_up m) j i hj' hi' (by omega)
    have hjm : (firsts has m)[j] < m.length := first_lt _ (List.getElem_mem hj')
    refine List.mem_iff_getElem?.2 ⟨(firsts has m)[j], ?_⟩
    rw [List.getElem?_take, if_pos hup]
    simp [List.getD_eq_getElem?_getD, hjm]
end Sp
end Go.Proofs.Ythglkgicckodaaa
namespace Go.Proofs.Ythglkgicckodaaa
open Go.RowKit
set_option linter.unusedVariables false
def Bytes (w : World) (c : Nat) (xb xo len : Nat) (z : Nat → Int) : Prop :=
  xb < c ∧ ∀ i, i < len → w.cell? ⟨xb, xo + i, none⟩ = some (.int .u8 (z i)) ∧ 0 ≤ z i ∧ z i ≤ 255
def Rd (w : World) (c p : Nat) : Prop :=
  ∃ q : Nat, q ≤ p ∧ w.cell? ⟨c, 1, none⟩ = some (.int .i64 q) ∧ w.frozen? ⟨c, 1, none⟩ = false ∧
    ∃ a len cap, w.cell? ⟨c, 0, none⟩ = some (.slice a len cap) ∧ len ≤ 2000 ∧ (len = 0 ∨ ∃ xb xo z, a = some ⟨xb, xo, none⟩ ∧ Bytes w c xb xo len z)
theorem Rd.lt {w : World} {c p : Nat} (h : Rd w c p) : c < w.heap.size := by
  obtain ⟨q, _, h, _⟩ := h; exact lt_of_cell h
theorem Rd.mono {w : World} {c p q : Nat} (h : Rd w c p) (hq : p ≤ q) : Rd w c q := by
  obtain ⟨r, hr, h⟩ := h; exact ⟨r, by omega, h⟩
theorem Bytes.far {w w' : World} {c d xb xo len : Nat} {z : Nat → Int} (h : Bytes w c xb xo len z) (hf : Far d w w') (hd : xb ≠ d) : Bytes w' c xb xo len z :=
  ⟨h.1, fun i hi => by
    obtain ⟨hc, hz⟩ := h.2 i hi
    exact ⟨(hf.cell (p := ⟨xb, xo + i, none⟩) (lt_of_cell hc) hd).trans hc, hz⟩⟩
theorem Rd.next {w : World} {c q k : Nat} (hp : w.cell? ⟨c, 1, none⟩ = some (.int .i64 q)) (hf : w.frozen? ⟨c, 1, none⟩ = false) {a : Option Addr} {len cap : Nat} (hs : w.cell? ⟨c, 0, none⟩ = some (.slice a len cap)) (hl : len ≤ 2000)
    (hb : len = 0 ∨ ∃ xb xo z, a = some ⟨xb, xo, none⟩ ∧ Bytes w c xb xo len z) : Rd ((w.setCell ⟨c, 1, none⟩ (.int .i64 ((q : Int) + 1))).drewN k) c (q + 1) := by
  have hfar := (Far.set w c 1 (.int .i64 ((q : Int) + 1))).draws k
  refine ⟨q + 1, Nat.le_refl _, ?_, ?_, a, len, cap, ?_, hl, ?_⟩
  · exact World.cell?_setCell_same _ _ _ hp
  · show (w.setCell ⟨c, 1, none⟩ (.int .i64 ((q : Int) + 1))).frozen? _ = _
    rw [World.frozen?_setCell]; exact hf
  · show (w.setCell ⟨c, 1, none⟩ (.int .i64 ((q : Int) + 1))).cell? _ = _
    rw [World.cell?_setCell_other _ _ _ _ (by intro e; injection e with _ e; cases e)]; exact hs
  · rcases hb with rfl | ⟨xb, xo, z, rfl, hb⟩
    · exact .inl rfl
    · exact .inr ⟨xb, xo, z, rfl, hb.far hfar (Nat.ne_of_lt hb.1)⟩
theorem Rd.up {w w' : World} {c p : Nat} {r : Option Nat} (h : Rd w c p) (hg : w.grownBy w' r) (hr : ∀ k, r = some k → c < k) : Rd w' c p := by
  obtain ⟨q, hq, hc, hf, a, len, cap, hs, hl, hb⟩ := h
  have hlt := lt_of_cell hc
  have hcr : some c ≠ r := fun e => by have := hr c e.symm; omega
  have hbc : w'.heap[c]? = w.heap[c]? := hg.block c hlt hcr
  refine ⟨q, hq, (World.cell?_of_block (w := w) hbc).trans hc, (World.frozen?_of_block (w := w) hbc).trans hf, a, len, cap, (World.cell?_of_block (w := w) hbc).trans hs, hl, ?_⟩
  rcases hb with h | ⟨xb, xo, z, rfl, hb⟩
  · exact .inl h
  · refine .inr ⟨xb, xo, z, rfl, hb.1, fun i hi => ⟨?_, (hb.2 i hi).2⟩⟩
    have hx := (hb.2 i hi).1
    exact (World.cell?_of_block (w := w) (hg.block xb (lt_of_cell hx) (fun e => by have := hr xb e.symm; have := hb.1; omega))).trans hx
end Go.Proofs.Ythglkgicckodaaa
namespace Go.Proofs.Ythglkgicckodaaa
open Go.RowKit
set_option linter.unusedVariables false
def Code (w : World) (a : Option Addr) (len cap : Nat) : Prop :=
  len ≤ cap ∧ cap ≤ maxLen ∧ (len = 0 ∨ ∃ xb xo z, a = some ⟨xb, xo, none⟩ ∧ xb < w.heap.size ∧ Bytes w w.heap.size xb xo len z)
theorem Code.below {w w' : World} {a : Option Addr} {len cap : Nat} (h : Code w a len cap) (hb : Below w.heap.size w w') : Code w' a len cap := by
  obtain ⟨h1, h2, h⟩ := h
  refine ⟨h1, h2, ?_⟩
  rcases h with h | ⟨xb, xo, z, rfl, hx, hz⟩
  · exact .inl h
  · have := hb.size
    exact .inr ⟨xb, xo, z, rfl, by omega, by omega, fun i hi => ⟨(hb.cell (p := ⟨xb, xo + i, none⟩) hx).trans (hz.2 i hi).1, (hz.2 i hi).2⟩⟩
theorem Rd.far {w w' : World} {c d p : Nat} (h : Rd w c p) (hf : Far d w w') (hd : w.heap.size ≤ d) : Rd w' c p := by
  obtain ⟨q, hq, hc, hz, a, len, cap, hs, hl, hb⟩ := h
  have hlt := lt_of_cell hc
  have hcd : c ≠ d := by have : c < w.heap.size := hlt; omega
  refine ⟨q, hq, (hf.cell (p := ⟨c, 1, none⟩) hlt hcd).trans hc, (hf.frozen (p := ⟨c, 1, none⟩) hlt hcd).trans hz, a, len, cap, (hf.cell (p := ⟨c, 0, none⟩) hlt hcd).trans hs, hl, ?_⟩
  rcases hb with h | ⟨xb, xo, z, rfl, hb⟩
  · exact .inl h
  · by_cases h0 : len = 0
    · exact .inl h0
    · have hx : xb < w.heap.size := lt_of_cell (hb.2 0 (by omega)).1
      exact .inr ⟨xb, xo, z, rfl, hb.far hf (by omega)⟩
theorem Rd.alloc {w : World} {c p : Nat} (h : Rd w c p) (o : Obj) : Rd (w.alloc o) c p := h.far (Far.alloc (c := w.heap.size) w o) (Nat.le_refl _)
end Go.Proofs.Ythglkgicckodaaa
namespace Go.Proofs.Ythglkgicckodaaa
open Go.RowKit
set_option linter.unusedVariables false
theorem far_grown {c : Nat} {w w' : World} (h : Far c w w') : w.grownBy w' (some c) := ⟨h.os, h.tape, h.output, h.size, fun k hk hc => h.block k hk (fun e => hc (by rw [e]))⟩
theorem Own.far {w w' : World} {base c : Nat} {v : Value} {l : List Int} (h : Own w base v l) (hf : Far c w w') (hc : c < base) : Own w' base v l :=
  h.kept (far_grown hf) (.inr fun e => by have := (World.ownsRow.lt h c e).1; omega)
theorem Far.own {w w' : World} {c : Nat} {a : World} {r : Option Nat} (h : Far c a w) (hg : w.grownBy w' r) (hr : ∀ k, r = some k → a.heap.size ≤ k) : Far c a w' :=
  ⟨hg.os.trans h.os, hg.tape.trans h.tape, hg.output.trans h.output, Nat.le_trans h.size hg.size, fun k hk hc => (hg.block k (Nat.lt_of_lt_of_le hk h.size) (fun e => by have := hr k e.symm; omega)).trans (h.block k hk hc)⟩
def Near (l : List Int) : Prop := ∀ x ∈ l, -1 ≤ x ∧ x ≤ 31
theorem Near.snoc {l : List Int} (h : Near l) {x : Int} (h0 : -1 ≤ x) (h1 : x ≤ 31) : Near (l ++ [x]) := by
  intro y hy
  rcases List.mem_append.1 hy with hy | hy
  · exact h y hy
  · simp at hy; subst hy; exact ⟨h0, h1⟩
theorem Near.set {l : List Int} (h : Near l) {i : Nat} {x : Int} (h0 : -1 ≤ x) (h1 : x ≤ 31) : Near (l.set i x) := by
  intro y hy
  rcases List.mem_or_eq_of_mem_set hy with hy | rfl
  · exact h y hy
  · exact ⟨h0, h1⟩
structure Drawing (c p : Nat) (w : World) (k : Nat) (v : Value) (wr : World) : Prop where
  far : Far c w wr
  rd : Rd wr c (p + 4 * k)
  own : ∃ l : List Int, l.length = k ∧ Near l ∧ Own wr w.heap.size v l
theorem four_of {l : List Int} (h : l.length = 4) : ∃ x y z t, l = [x, y, z, t] := by
  match l, h with
  | [x, y, z, t], _ => exact ⟨x, y, z, t, rfl⟩
theorem Own.four {w : World} {base : Nat} {v : Value} {l : List Int} (h : Own w base v l) (h4 : l.length = 4) :
    ∃ g cap, v = .slice (some ⟨g, 0, none⟩) 4 cap ∧ base ≤ g ∧ g < w.heap.size ∧ 4 ≤ cap ∧ cap ≤ maxLen ∧ (∀ j, j < 4 → w.cell? ⟨g, j, none⟩ = some (.int .i64 (l.getD j 0))) ∧ ∀ j, w.frozen? ⟨g, j, none⟩ = false := by
  have hs := h.sl
  unfold Own at h
  rw [h4] at h
  rcases h.2 with ⟨_, h0⟩ | ⟨g, cap, cur, rfl, hb, hg, h1, h2, h3, ht⟩
  · omega
  · refine ⟨g, cap, rfl, hb, (Array.getElem?_eq_some_iff.1 hg).1, h1, h2, fun j hj => ?_, fun j => World.ownsRow.frozenAt h j⟩
    have hc := World.ownsRow.cells h (g := g) rfl j _ (vals_get l j (by omega))
    rw [Addr.add_lit] at hc
    simpa using hc
theorem Own.tail {w : World} {base : Nat} {g cap : Nat} {l : List Int} (h : Own w base (.slice (some ⟨g, 0, none⟩) 4 cap) l) (h4 : l.length = 4) :
    Sl w (.slice (some ⟨g, 1, none⟩) 3 (cap - 1)) l.tail := by
  obtain ⟨g', cap', e, _, _, h1, h2, hc, _⟩ := h.four h4
  injection e with e1 e2 e3
  injection e1 with e1
  injection e1 with e1
  subst e1 e3
  have e3 : l.tail.length = 3 := by rw [List.length_tail]; omega
  refine ⟨some ⟨g, 1, none⟩, cap - 1, by rw [e3], by omega, by omega, .inr ⟨g, 1, rfl, fun i hi => ?_⟩⟩
  rw [Nat.add_comm 1 i, hc (i + 1) (by omega)]
  congr 2
  obtain ⟨x, y, z, t, rfl⟩ := four_of h4
  rfl
def SlUp (w : World) (B : Nat) (v : Value) (l : List Int) : Prop := Sl w v l ∧ ∀ x n cap, v = .slice (some x) n cap → B ≤ x.block
theorem SlUp.far {w w' : World} {B c : Nat} {v : Value} {l : List Int} (h : SlUp w B v l) (hf : Far c w w') (hc : c < B) : SlUp w' B v l := by
  refine ⟨?_, h.2⟩
  obtain ⟨a, cap, rfl, h1, h2, hr⟩ := h.1
  refine ⟨a, cap, rfl, h1, h2, ?_⟩
  rcases hr with h0 | ⟨b, o, rfl, hr⟩
  · exact .inl h0
  · have hb : B ≤ b := h.2 _ _ _ rfl
    refine .inr ⟨b, o, rfl, fun i hi => ?_⟩
    have hx := hr i hi
    exact (hf.cell (p := ⟨b, o + i, none⟩) (lt_of_cell hx) (by show b ≠ c; omega)).trans hx
def RowAt (w : World) (v : Value) : Prop := ∃ g o n cap cur, v = .slice (some ⟨g, o, none⟩) n cap ∧ w.heap[g]? = some (.cells cur 3 (0, 0)) ∧ cur.size = o + cap
theorem RowAt.tail {w : World} {g n cap : Nat} (h : RowAt w (.slice (some ⟨g, 0, none⟩) n cap)) (hc : 1 ≤ cap) (m : Nat) : RowAt w (.slice (some ⟨g, 1, none⟩) m (cap - 1)) := by
  obtain ⟨g', o, n', cap', cur, e, hg, hs⟩ := h
  injection e with e1 e2 e3
  injection e1 with e1
  injection e1 with e1 e4
  subst e1 e3 e4
  exact ⟨g, 1, m, cap - 1, cur, rfl, hg, by omega⟩
end Go.Proofs.Ythglkgicckodaaa
namespace Go.Proofs.Ythglkgicckodaaa.Sp
set_option linter.unusedVariables false
def dot (u d : V) : F := u 0 * d 0 + u 1 * d 1 + u 2 * d 2 + u 3 * d 3
theorem dot_add (u v d : V) : dot (fun j => u j + v j) d = dot u d + dot v d := by unfold dot; grind
theorem dot_mul (k : F) (u d : V) : dot (fun j => k * u j) d = k * dot u d := by unfold dot; grind
theorem dot_add_r (u d e : V) : dot u (fun j => d j + e j) = dot u d + dot u e := by unfold dot; grind
theorem dot_mul_r (k : F) (u d : V) : dot u (fun j => k * d j) = k * dot u d := by unfold dot; grind
theorem dot_eq {u v : V} (h : ∀ j, j < 4 → u j = v j) (d : V) : dot u d = dot v d := by
  unfold dot; rw [h 0 (by omega), h 1 (by omega), h 2 (by omega), h 3 (by omega)]
theorem dot_none (d : V) : dot (fun _ => 0) d = 0 := by unfold dot; grind
theorem dot_none_r (u : V) : dot u (fun _ => 0) = 0 := by unfold dot; grind
theorem dot_comb (a : V) (A : List V) (c : Nat → F) (d : V) : dot (comb c (a :: A)) d = c 0 * dot a d + dot (comb (fun i => c (i + 1)) A) d := by
  have e : dot (comb c (a :: A)) d = dot (fun j => c 0 * a j + comb (fun i => c (i + 1)) A j) d := rfl
  rw [e, dot_add, dot_mul]
theorem dot_same {d e : V} {A : List V} (k : ∀ a ∈ A, dot a d = dot a e) : ∀ c : Nat → F, dot (comb c A) d = dot (comb c A) e := by
  induction A with
  | nil => intro c; exact (dot_none d).trans (dot_none e).symm
  | cons a A ih => intro c; rw [dot_comb, dot_comb, k a (by simp), ih (fun b hb => k b (by simp [hb]))]
theorem In.dot_same {A : List V} {v : V} (h : In A v) {d e : V} (k : ∀ a ∈ A, dot a d = dot a e) : dot v d = dot v e := by
  obtain ⟨c, hc⟩ := h
  rw [dot_eq (u := v) (v := comb c A) (fun j _ => hc j), dot_eq (u := v) (v := comb c A) (fun j _ => hc j)]
  exact Sp.dot_same k c
theorem In.dot_zero {A : List V} {v : V} (h : In A v) {d : V} (k : ∀ a ∈ A, dot a d = 0) : dot v d = 0 :=
  (h.dot_same (d := d) (e := fun _ => 0) (fun a ha => by rw [k a ha, dot_none_r])).trans (dot_none_r v)
def Four (v : V) : Prop := ∀ j, 4 ≤ j → v j = 0
theorem four_toV {l : List Int} (h : Row 4 l) : Four (toV l) := fun j hj => toV_out h hj
theorem vred_four {L : List (Nat × V)} (h : ∀ x ∈ L, Four x.2) : ∀ {u : V}, Four u → Four (vred L u) := by
  induction L with
  | nil => intro u hu; exact hu
  | cons x L ih =>
    intro u hu
    rw [vred_cons]
    refine ih (fun y hy => h y (by simp [hy])) fun j hj => ?_
    show u j - u x.1 * x.2 j = 0
    rw [hu j hj, h x (by simp) j hj]; grind
theorem Is.four {T : List (List Int)} {L : List (Nat × V)} (h : Is 4 T L) : ∀ x ∈ L, Four x.2 := by
  intro x hx
  have hm : x.2 ∈ T.map toV := by rw [h.same]; exact List.mem_map.2 ⟨x, hx, rfl⟩
  obtain ⟨r, hr, e⟩ := List.mem_map.1 hm
  rw [← e]; exact four_toV (h.row r hr)
theorem Is.lead_lt {T : List (List Int)} {L : List (Nat × V)} (h : Is 4 T L) : ∀ x ∈ L, x.1 < 4 := by
  intro x hx
  rcases Nat.lt_or_ge x.1 4 with h1 | h1
  · exact h1
  · have h2 := h.four x hx x.1 h1
    rw [h.tidy.one x hx] at h2
    exact absurd h2 (by decide)
theorem up_all {l : List Nat} (h : l.Pairwise (· < ·)) (hb : ∀ x ∈ l, x < 4) (hl : l.length = 4) : ∀ j, j < 4 → j ∈ l := by
  match l, hl with
  | [a, b, c, d], _ =>
    simp at h hb
    intro j hj
    simp
    omega
theorem Is.full {T : List (List Int)} {L : List (Nat × V)} (h : Is 4 T L) (hl : T.length = 4) {v : V} (hv : Four v) : In (rows L) v := by
  refine (in_iff_red h.tidy v).2 fun j => ?_
  by_cases hj : j < 4
  · have hm := up_all (List.pairwise_map.2 h.tidy.up) (fun p hp => by
      obtain ⟨x, hx, rfl⟩ := List.mem_map.1 hp; exact h.lead_lt x hx) (by rw [List.length_map, ← h.length, hl]) j hj
    obtain ⟨x, hx, rfl⟩ := List.mem_map.1 hm
    exact vred_zero h.tidy v x hx
  · exact vred_four h.four hv j (by omega)
theorem sum_two (f : Nat → F) {p q : Nat} (hp : p < 4) (hq : q < 4) (hne : p ≠ q) (h : ∀ j, j < 4 → j ≠ p → j ≠ q → f j = 0) : f 0 + f 1 + f 2 + f 3 = f p + f q := by
  have h0 := h 0 (by omega)
  have h1 := h 1 (by omega)
  have h2 := h 2 (by omega)
  have h3 := h 3 (by omega)
  rcases (by omega : p = 0 ∨ p = 1 ∨ p = 2 ∨ p = 3) with rfl | rfl | rfl | rfl <;> rcases (by omega : q = 0 ∨ q = 1 ∨ q = 2 ∨ q = 3) with rfl | rfl | rfl | rfl <;> first | (exact absurd rfl hne) | (simp at h0 h1 h2 h3; grind)
theorem sum_one (f : Nat → F) {p : Nat} (hp : p < 4) (h : ∀ j, j < 4 → j ≠ p → f j = 0) : f 0 + f 1 + f 2 + f 3 = f p := by
  have h0 := h 0 (by omega)
  have h1 := h 1 (by omega)
  have h2 := h 2 (by omega)
  have h3 := h 3 (by omega)
  rcases (by omega : p = 0 ∨ p = 1 ∨ p = 2 ∨ p = 3) with rfl | rfl | rfl | rfl <;> (simp at h0 h1 h2 h3; grind)
def freeAt (L : List (Nat × V)) (p : Nat) : V := fun j => if j = p then 1 else match L.find? (fun x => x.1 == j) with | some x => - x.2 p | none => 0
theorem freeAt_self (L : List (Nat × V)) (p : Nat) : freeAt L p p = 1 := by simp [freeAt]
theorem freeAt_at {L : List (Nat × V)} (h : Tidy L) {x : Nat × V} (hx : x ∈ L) {p : Nat} (hp : x.1 ≠ p) : freeAt L p x.1 = - x.2 p := by
  unfold freeAt
  rw [if_neg hp]
  have hs : ∃ y, L.find? (fun y => y.1 == x.1) = some y := by
    cases hf : L.find? (fun y => y.1 == x.1) with
    | some y => exact ⟨y, rfl⟩
    | none => exact absurd (List.find?_eq_none.1 hf x hx) (by simp)
  obtain ⟨y, hy⟩ := hs
  have e : y = x := h.eq_of (List.mem_of_find?_eq_some hy) hx (by simpa using List.find?_some hy)
  rw [hy, e]
theorem freeAt_none {L : List (Nat × V)} {p j : Nat} (hj : j ≠ p) (h : ∀ x ∈ L, x.1 ≠ j) : freeAt L p j = 0 := by
  unfold freeAt
  rw [if_neg hj]
  have hn : L.find? (fun x => x.1 == j) = none := List.find?_eq_none.2 fun x hx => by simpa using h x hx
  rw [hn]
theorem dot_free {L : List (Nat × V)} (h : Tidy L) (hb : ∀ x ∈ L, x.1 < 4) {p : Nat} (hp : p < 4) (hpl : ∀ x ∈ L, x.1 ≠ p) {x : Nat × V} (hx : x ∈ L) : dot x.2 (freeAt L p) = 0 := by
  unfold dot
  rw [sum_two (fun j => x.2 j * freeAt L p j) hp (hb x hx) (fun e => hpl x hx e.symm)]
  · show x.2 p * freeAt L p p + x.2 x.1 * freeAt L p x.1 = 0
    rw [freeAt_self, freeAt_at h hx (hpl x hx), h.one x hx]; grind
  · intro j hj hjp hjx
    show x.2 j * freeAt L p j = 0
    by_cases hm : ∃ y ∈ L, y.1 = j
    · obtain ⟨y, hy, rfl⟩ := hm
      rw [h.others y hy x hx hjx]; grind
    · rw [freeAt_none hjp (fun y hy e => hm ⟨y, hy, e⟩)]; grind
theorem Is.dual {T : List (List Int)} {L : List (Nat × V)} (h : Is 4 T L) {r : V} (hr : Four r) (hn : ¬ In (rows L) r) : ∃ d, (∀ a ∈ rows L, dot a d = 0) ∧ dot r d ≠ 0 := by
  have hex : ∃ p, vred L r p ≠ 0 := by
    rcases Classical.em (∃ p, vred L r p ≠ 0) with h1 | h1
    · exact h1
    · exact absurd ((in_iff_red h.tidy r).2 fun j => Classical.byContradiction fun hj => h1 ⟨j, hj⟩) hn
  obtain ⟨p, hp⟩ := hex
  have hp4 : p < 4 := by
    rcases Nat.lt_or_ge p 4 with h1 | h1
    · exact h1
    · exact absurd (vred_four h.four hr p h1) hp
  have hpl : ∀ x ∈ L, x.1 ≠ p := fun x hx e => hp (by rw [← e]; exact vred_zero h.tidy r x hx)
  refine ⟨freeAt L p, ?_, ?_⟩
  · intro a ha
    obtain ⟨x, hx, rfl⟩ := List.mem_map.1 ha
    exact dot_free h.tidy h.lead_lt hp4 hpl hx
  · have h1 : dot (fun j => r j - vred L r j) (freeAt L p) = 0 := (vred_in (L := L) r).dot_zero fun a ha => by
      obtain ⟨x, hx, rfl⟩ := List.mem_map.1 ha
      exact dot_free h.tidy h.lead_lt hp4 hpl hx
    have h2 : dot (vred L r) (freeAt L p) = vred L r p := by
      unfold dot
      rw [sum_one (fun j => vred L r j * freeAt L p j) hp4]
      · show vred L r p * freeAt L p p = _
        rw [freeAt_self]; grind
      · intro j hj hjp
        show vred L r j * freeAt L p j = 0
        by_cases hm : ∃ y ∈ L, y.1 = j
        · obtain ⟨y, hy, rfl⟩ := hm
          rw [vred_zero h.tidy r y hy]; grind
        · rw [freeAt_none hjp (fun y hy e => hm ⟨y, hy, e⟩)]; grind
    have h3 : dot r (freeAt L p) = dot (fun j => r j - vred L r j) (freeAt L p) + dot (vred L r) (freeAt L p) := by unfold dot; grind
    rw [h3, h1, h2]
    intro e
    apply hp
    grind
theorem solve {m : List (List Int)} : ∀ (k : Nat), m.length = k → (∀ r ∈ m, Row 4 r) → (∀ i (hi : i < m.length), ¬ Made (m.take i) m[i]) → ∀ g : Nat → F, ∃ d : V, ∀ i (hi : i < m.length), dot (toV m[i]) d = g i := by
  intro k
  induction k generalizing m with
  | zero =>
    intro h _ _ g
    exact ⟨fun _ => 0, fun i hi => by omega⟩
  | succ k ih =>
    intro h hm hi g
    have hne : m ≠ [] := by intro e; rw [e] at h; simp at h
    have e := List.dropLast_concat_getLast hne
    generalize hv : m.getLast hne = v at e
    generalize hq : m.dropLast = q at e
    subst e
    have hqk : q.length = k := by simp at h; exact h
    have hq1 : ∀ r ∈ q, Row 4 r := fun r hr => hm r (by simp [hr])
    have hv1 : Row 4 v := hm v (by simp)
    obtain ⟨d, hd⟩ := ih hqk hq1 (fun i hi' => by
      have := hi i (by simp; omega)
      rw [List.take_append_of_le_length (by omega), List.getElem_append_left hi'] at this
      exact this) g
    have hnot : ¬ Made q v := by
      have := hi q.length (by simp)
      rw [List.take_append_of_le_length (Nat.le_refl _), List.take_length] at this
      simpa using this
    obtain ⟨L, hL, s⟩ := ltidy_is hq1
    obtain ⟨f, hf0, hf1⟩ := hL.dual (four_toV hv1) (fun k => hnot ((s.iff (toV v)).1 k))
    have hf2 : ∀ i (hi' : i < q.length), dot (toV q[i]) f = 0 := fun i hi' => (s.2 (toV q[i]) (List.mem_map.2 ⟨q[i], List.getElem_mem hi', rfl⟩)).dot_zero hf0
    have hinv : ∃ c : F, dot (toV v) f * c = 1 := by
      have : ∀ a : F, a ≠ 0 → ∃ c : F, a * c = 1 := by decide
      exact this _ hf1
    obtain ⟨c, hc⟩ := hinv
    refine ⟨fun j => d j + ((g q.length - dot (toV v) d) * c) * f j, fun i hi' => ?_⟩
    rw [dot_add_r, dot_mul_r]
    by_cases hlt : i < q.length
    · rw [List.getElem_append_left hlt, hd i hlt, hf2 i hlt]; grind
    · have hieq : i = q.length := by simp at hi'; omega
      subst hieq
      simp only [List.getElem_concat_length]
      grind
end Go.Proofs.Ythglkgicckodaaa.Sp
namespace Go.Proofs.Ythglkgicckodaaa.Sp
set_option linter.unusedVariables false
def crow (kind at_ : Nat) : List Int :=
  if kind = 1 then [[1, 0, 0, 0], [0, 1, 0, 0], [0, 0, 1, 0], [0, 0, 0, 1], [1, 1, 0, 0], [0, 0, 1, 1], [1, 2, 4, 8], [1, 3, 9, 27]].getD at_ []
  else [1, at_ + 1, (at_ + 1) * (at_ + 1) % 31, (at_ + 1) * (at_ + 1) * (at_ + 1) % 31]
def crows (kind : Nat) (there : List Bool) : List (List Int) := ((List.range 8).filter fun i => there.getD i false).map (crow kind)
def bears (kind : Nat) (there : List Bool) : Bool := (ltidy (crows kind there)).length == 4
def bits (n : Nat) : List Bool := (List.range 8).map fun i => n / 2 ^ i % 2 == 1
def most (kind : Nat) : Nat := if kind = 1 then 3 else 4
theorem crow_row {kind at_ : Nat} (hk : kind = 1 ∨ kind = 2) (ha : at_ < 8) : Row 4 (crow kind at_) := by
  rw [← row_ok]
  have h1 : ∀ a : Nat, a < 8 → Vec.ok (crow 1 a) = true := by decide +kernel
  have h2 : ∀ a : Nat, a < 8 → Vec.ok (crow 2 a) = true := by decide +kernel
  rcases hk with rfl | rfl
  · exact h1 _ ha
  · exact h2 _ ha
theorem crows_row {kind : Nat} (hk : kind = 1 ∨ kind = 2) (there : List Bool) : ∀ r ∈ crows kind there, Row 4 r := by
  intro r hr
  obtain ⟨i, hi, rfl⟩ := List.mem_map.1 hr
  exact crow_row hk (by have := (List.mem_filter.1 hi).1; simpa using this)
def num : List Bool → Nat
  | [] => 0
  | b :: l => (if b then 1 else 0) + 2 * num l
theorem bits_num {there : List Bool} (h : there.length = 8) : bits (num there) = there ∧ num there < 256 := by
  have key : ∀ a b c d e f g k : Bool, bits (num [a, b, c, d, e, f, g, k]) = [a, b, c, d, e, f, g, k] ∧ num [a, b, c, d, e, f, g, k] < 256 := by decide +kernel
  match there, h with
  | [a, b, c, d, e, f, g, k], _ => exact key a b c d e f g k
theorem by_bits {P : List Bool → Prop} (h : ∀ n, n < 256 → P (bits n)) {there : List Bool} (hl : there.length = 8) : P there := by
  obtain ⟨h1, h2⟩ := bits_num hl
  rw [← h1]; exact h _ h2
theorem bears_full {kind : Nat} (hk : kind = 1 ∨ kind = 2) {there : List Bool} (h : bears kind there = true) {v : V} (hv : Four v) : In ((crows kind there).map toV) v := by
  obtain ⟨L, hL, s⟩ := ltidy_is (crows_row hk there)
  exact (s.iff v).1 (hL.full (by simpa [bears] using h) hv)
def wsum (c g : Nat → F) : Nat → F
  | 0 => 0
  | n + 1 => c 0 * g 0 + wsum (fun i => c (i + 1)) (fun i => g (i + 1)) n
theorem wsum_congr : ∀ (n : Nat) {c d g h : Nat → F}, (∀ i, i < n → c i = d i) → (∀ i, i < n → g i = h i) → wsum c g n = wsum d h n := by
  intro n
  induction n with
  | zero => intro c d g h _ _; rfl
  | succ n ih =>
    intro c d g h h1 h2
    show c 0 * g 0 + _ = d 0 * h 0 + _
    rw [h1 0 (by omega), h2 0 (by omega), ih (fun i hi => h1 (i + 1) (by omega)) (fun i hi => h2 (i + 1) (by omega))]
theorem dot_wsum (d : V) : ∀ (A : List V) (c : Nat → F), dot (comb c A) d = wsum c (fun i => dot (A.getD i (fun _ => 0)) d) A.length := by
  intro A
  induction A with
  | nil => intro c; exact dot_none d
  | cons a A ih =>
    intro c
    rw [dot_comb, ih]
    rfl
def fit (has : List (List Int) → List Int → Bool) (by_ : List (List Int) → List Int → List Int) : List (List Int × Int) → List (List Int) → List Int → Prop
  | [], _, _ => True
  | (r, x) :: ps, R, G => if has R r then (wsum (fun i => toF ((by_ R r).getD i 0)) (fun i => toF (G.getD i 0)) R.length = toF x ∧ fit has by_ ps R G) else fit has by_ ps (R ++ [r]) (G ++ [x])
end Go.Proofs.Ythglkgicckodaaa.Sp
namespace Go.Proofs.Ythglkgicckodaaa.Sp
set_option linter.unusedVariables false
def padd (kind : Nat) (there : List Bool) : List (List Int) := (List.range 8).map fun i => if there.getD i false then crow kind i else [0, 0, 0, 0]
theorem padd_len (kind : Nat) (there : List Bool) : (padd kind there).length = 8 := by simp [padd]
theorem padd_get {kind : Nat} {there : List Bool} {i : Nat} (hi : i < 8) : (padd kind there).getD i [] = if there.getD i false then crow kind i else [0, 0, 0, 0] := by
  simp [padd, List.getD_eq_getElem?_getD, hi]
theorem row_none4 : Row 4 [0, 0, 0, 0] := row_ok.1 rfl
theorem toV_none4 (j : Nat) : toV [0, 0, 0, 0] j = 0 := by
  unfold toV
  match j with
  | 0 => rfl
  | 1 => rfl
  | 2 => rfl
  | 3 => rfl
  | j + 4 => rfl
theorem padd_row {kind : Nat} (hk : kind = 1 ∨ kind = 2) (there : List Bool) : ∀ r ∈ padd kind there, Row 4 r := by
  intro r hr
  obtain ⟨i, hi, rfl⟩ := List.mem_map.1 hr
  have := List.mem_range.1 hi
  split
  · exact crow_row hk this
  · exact row_none4
theorem padd_same (kind : Nat) (there : List Bool) : Same ((padd kind there).map toV) ((crows kind there).map toV) := by
  constructor
  · intro a ha
    obtain ⟨r, hr, rfl⟩ := List.mem_map.1 ha
    obtain ⟨i, hi, rfl⟩ := List.mem_map.1 hr
    split
    · next h => exact In.mem (List.mem_map.2 ⟨crow kind i, List.mem_map.2 ⟨i, List.mem_filter.2 ⟨hi, h⟩, rfl⟩, rfl⟩)
    · exact (In.zero _).eq toV_none4
  · intro b hb
    obtain ⟨r, hr, rfl⟩ := List.mem_map.1 hb
    obtain ⟨i, hi, rfl⟩ := List.mem_map.1 hr
    obtain ⟨h1, h2⟩ := List.mem_filter.1 hi
    exact In.mem (List.mem_map.2 ⟨crow kind i, List.mem_map.2 ⟨i, h1, by simp only [h2, if_true]⟩, rfl⟩)
theorem padd_bears {kind : Nat} (hk : kind = 1 ∨ kind = 2) (there : List Bool) : bears kind there = ((firsts has (padd kind there)).length == 4) := by
  unfold bears
  rw [← ltidy_firsts (fun m v hm hv => has_iff hm hv) 8 (padd_len _ _) (padd_row hk there), (ltidy_same (padd_row hk there) (crows_row hk there)).2 (padd_same kind there)]
theorem Stand.none_ {kind : Nat} {there : List Bool} {n : Nat} {S : Cols} {ps : List Nat} (h : Stand (padd kind there) n S ps) (hk : kind = 1 ∨ kind = 2) (hn : n < 8) (ht : there.getD n false = false) : Stand (padd kind there) (n + 1) S ps := by
  have hl : n < (padd kind there).length := by rw [padd_len]; exact hn
  have h8 : (padd kind there).length ≤ 8 := by rw [padd_len]; exact Nat.le_refl _
  refine h.skip (padd_row hk there) hl h8 ?_
  obtain ⟨h1, h2, h3⟩ := fresh_off (padd_row hk there) hl h8 ps
  rw [first4 (red_is h.row h1).1]
  refine (h.made h1 (fresh_row (padd_row hk there) hl) h2).1 ?_
  rw [padd_get hn, ht]
  exact (In.zero _).eq toV_none4
def Fit (kind : Nat) (there : List Bool) (vals : List Int) : Prop := ∃ d : V, ∀ i, i < 8 → there.getD i false = true → dot (toV (crow kind i)) d = toF (vals.getD i 0)
theorem wsum_snoc : ∀ (n : Nat) (c g : Nat → F), wsum c g (n + 1) = wsum c g n + c n * g n := by
  intro n
  induction n with
  | zero => intro c g; show c 0 * g 0 + 0 = 0 + c 0 * g 0; grind
  | succ n ih =>
    intro c g
    show c 0 * g 0 + wsum (fun i => c (i + 1)) (fun i => g (i + 1)) (n + 1) = (c 0 * g 0 + wsum (fun i => c (i + 1)) (fun i => g (i + 1)) n) + c (n + 1) * g (n + 1)
    rw [ih]; grind
def csum (a c : List Int) : Nat → Int
  | 0 => 0
  | n + 1 => (csum a c n + a.getD n 0 * c.getD n 0 % 31) % 31
theorem csum_ok (a c : List Int) (n : Nat) : Fld.ok (csum a c n) = true := by
  cases n with
  | zero => rfl
  | succ n => exact Vec.mod_is _
theorem csum_is (a c : List Int) (n : Nat) : toF (csum a c n) = wsum (toV c) (toV a) n := by
  induction n with
  | zero => rfl
  | succ n ih =>
    rw [wsum_snoc, ← ih]
    show toF ((csum a c n + a.getD n 0 * c.getD n 0 % 31) % 31) = _ + toF (c.getD n 0) * toF (a.getD n 0)
    rw [toF_add, toF_mul]
    generalize toF (csum a c n) = p
    generalize toF (a.getD n 0) = q
    generalize toF (c.getD n 0) = r
    grind
def msum (c g : List Int) : Nat → Int
  | 0 => 0
  | n + 1 => (msum c g n + c.getD n 0 * g.getD n 0) % 31
theorem msum_ok (a c : List Int) (n : Nat) : Fld.ok (msum a c n) = true := by
  cases n with
  | zero => rfl
  | succ n => exact Vec.mod_is _
theorem msum_is (c g : List Int) (n : Nat) : toF (msum c g n) = wsum (toV c) (toV g) n := by
  induction n with
  | zero => rfl
  | succ n ih =>
    rw [wsum_snoc, ← ih]
    show toF ((msum c g n + c.getD n 0 * g.getD n 0) % 31) = _
    have e : toF ((msum c g n + c.getD n 0 * g.getD n 0) % 31) = toF ((msum c g n + c.getD n 0 * g.getD n 0 % 31) % 31) := toF_eq (by omega)
    rw [e, toF_add, toF_mul]
    rfl
theorem firsts_free {m : List (List Int)} (hm : ∀ r ∈ m, Row 4 r) (g : Nat → F) : ∃ d : V, ∀ i ∈ firsts has m, dot (toV (m.getD i [])) d = g i := by
  obtain ⟨F, hF⟩ : ∃ F, firsts has m = F := ⟨_, rfl⟩
  have hup : F.Pairwise (· < ·) := by rw [← hF]; exact List.Pairwise.filter _ List.pairwise_lt_range
  have hin : ∀ i ∈ F, i < m.length ∧ ¬ Made (m.take i) (m.getD i []) := fun i hi => first_not hm (by rw [hF]; exact hi)
  obtain ⟨d, hd⟩ := solve (m := F.map fun j => m.getD j []) _ rfl (fun r hr => by
      obtain ⟨j, hj, rfl⟩ := List.mem_map.1 hr
      exact fresh_row hm (hin j hj).1) (fun i hi hmade => by
      have hi' : i < F.length := by simpa using hi
      have e : (F.map fun j => m.getD j [])[i] = m.getD F[i] [] := by simp
      rw [e] at hmade
      refine (hin F[i] (List.getElem_mem hi')).2 (hmade.mono fun a ha => ?_)
      obtain ⟨r, hr, rfl⟩ := List.mem_map.1 ha
      rw [List.mem_take_iff_getElem] at hr
      obtain ⟨j, hj, rfl⟩ := hr
      have hjF : j < F.length := by simp at hj; omega
      have hji : j < i := by omega
      have hlt : F[j] < F[i] := List.pairwise_iff_getElem.1 hup j i hjF hi' hji
      refine List.mem_map.2 ⟨_, ?_, rfl⟩
      rw [List.getElem_map, List.mem_take_iff_getElem]
      have hjm := (hin F[j] (List.getElem_mem hjF)).1
      exact ⟨F[j], by omega, by rw [List.getD_eq_getElem?_getD, List.getElem?_eq_getElem hjm]; rfl⟩) (fun k => g (F.getD k 0))
  rw [hF]
  refine ⟨d, fun i hi => ?_⟩
  obtain ⟨k, hk, rfl⟩ := List.mem_iff_getElem.1 hi
  have := hd k (by simpa using hk)
  rw [List.getElem_map] at this
  rw [this, List.getD_eq_getElem?_getD, List.getElem?_eq_getElem hk]
  rfl
theorem by_dot {m : List (List Int)} {v c : List Int} (h : IsBy m v c) (d : V) : dot (toV v) d = wsum (toV c) (fun i => dot (toV (m.getD i [])) d) m.length := by
  rw [dot_eq (fun j _ => h.sum j), dot_wsum, List.length_map]
  refine wsum_congr _ (fun _ _ => rfl) fun i hi => ?_
  rw [List.getD_eq_getElem?_getD, List.getElem?_map, List.getElem?_eq_getElem hi, List.getD_eq_getElem?_getD, List.getElem?_eq_getElem hi]
  rfl
theorem wsum_by {m : List (List Int)} {v c : List Int} (h : IsBy m v c) {f g : Nat → F} (e : ∀ i, i < m.length → i ∈ firsts has m → f i = g i) : wsum (toV c) f m.length = wsum (toV c) g m.length := by
  have key : ∀ n, n ≤ m.length → wsum (toV c) f n = wsum (toV c) g n := by
    intro n
    induction n with
    | zero => intro _; rfl
    | succ n ih =>
      intro hn
      rw [wsum_snoc, wsum_snoc, ih (by omega)]
      by_cases hf : n ∈ firsts has m
      · rw [e n (by omega) hf]
      · have : toV c n = 0 := by unfold toV; rw [h.zero n (by omega) hf]; rfl
        rw [this]; grind
  exact key _ (Nat.le_refl _)
theorem padd_first {kind : Nat} (hk : kind = 1 ∨ kind = 2) {there : List Bool} {i : Nat} (hi : i ∈ firsts has (padd kind there)) : i < 8 ∧ there.getD i false = true ∧ (padd kind there).getD i [] = crow kind i := by
  have h := first_not (padd_row hk there) hi
  have h8 : i < 8 := by have := h.1; rw [padd_len] at this; exact this
  have e := padd_get (kind := kind) (there := there) h8
  cases ht : there.getD i false with
  | true => rw [ht] at e; exact ⟨h8, rfl, e⟩
  | false =>
    rw [ht] at e
    exact absurd (by rw [e]; exact (In.zero _).eq toV_none4) h.2
theorem fit_no {kind : Nat} (hk : kind = 1 ∨ kind = 2) {there : List Bool} {vals c : List Int} (hv : Row 8 vals) {i : Nat} (hi : i < 8) (ht : there.getD i false = true) (hc : IsBy (padd kind there) (crow kind i) c) (hne : csum vals c 8 ≠ vals.getD i 0) : ¬ Fit kind there vals := by
  rintro ⟨d, hd⟩
  refine hne (toF_inj (csum_ok _ _ _) (hv.get i) ?_)
  rw [csum_is, ← hd i hi ht, by_dot hc d]
  have := wsum_by hc (f := toV vals) (g := fun i => dot (toV ((padd kind there).getD i [])) d) fun j hj hf => by
    obtain ⟨h1, h2, h3⟩ := padd_first hk hf
    show _ = dot (toV ((padd kind there).getD j [])) d
    rw [h3, hd j h1 h2]; rfl
  rw [padd_len] at this ⊢
  exact this
theorem fit_yes {kind : Nat} (hk : kind = 1 ∨ kind = 2) {there : List Bool} {vals : List Int} (h : ∀ i, i < 8 → there.getD i false = true → ∃ c, IsBy (padd kind there) (crow kind i) c ∧ csum vals c 8 = vals.getD i 0) : Fit kind there vals := by
  obtain ⟨d, hd⟩ := firsts_free (padd_row hk there) (toV vals)
  refine ⟨d, fun i hi ht => ?_⟩
  obtain ⟨c, hc, e⟩ := h i hi ht
  rw [← e, csum_is, by_dot hc d]
  have := wsum_by hc (f := fun i => dot (toV ((padd kind there).getD i [])) d) (g := toV vals) fun j hj hf => hd j hf
  rw [padd_len] at this ⊢
  exact this
structure Fits (kind : Nat) (there : List Bool) (vals : List Int) (k : Nat) (R : List (List Int)) (G : List Int) : Prop where
  row : ∀ r ∈ R, Row 4 r
  got : Row R.length G
  few : R.length ≤ k
  free : ∀ i (hi : i < R.length), ¬ Made (R.take i) R[i]
  to_ : ∀ d : V, (∀ i, i < k → there.getD i false = true → dot (toV (crow kind i)) d = toF (vals.getD i 0)) → ∀ i, i < R.length → dot (toV (R.getD i [])) d = toF (G.getD i 0)
  of_ : ∀ d : V, (∀ i, i < R.length → dot (toV (R.getD i [])) d = toF (G.getD i 0)) → ∀ i, i < k → there.getD i false = true → dot (toV (crow kind i)) d = toF (vals.getD i 0)
theorem Fits.start (kind : Nat) (there : List Bool) (vals : List Int) : Fits kind there vals 0 [] [] := ⟨by simp, ⟨rfl, by simp⟩, by simp, by simp, by simp, by omega⟩
theorem Fits.skip {kind : Nat} {there : List Bool} {vals : List Int} {k : Nat} {R : List (List Int)} {G : List Int} (h : Fits kind there vals k R G) (ht : there.getD k false = false) : Fits kind there vals (k + 1) R G :=
  ⟨h.row, h.got, by have := h.few; omega, h.free, fun d hd => h.to_ d fun i hi => hd i (by omega), fun d hd i hi hti => by
    by_cases e : i = k
    · subst e; rw [ht] at hti; cases hti
    · exact h.of_ d hd i (by omega) hti⟩
theorem Fits.dot {kind : Nat} {there : List Bool} {vals : List Int} {k : Nat} {R : List (List Int)} {G : List Int} (h : Fits kind there vals k R G) {v l : List Int} (hl : ∀ j, toV v j = comb (toV l) (R.map toV) j) (d : V) (hd : ∀ i, i < R.length → Sp.dot (toV (R.getD i [])) d = toF (G.getD i 0)) : Sp.dot (toV v) d = toF (msum l G R.length) := by
  rw [dot_eq (fun j _ => hl j), dot_wsum, List.length_map, msum_is]
  refine wsum_congr _ (fun _ _ => rfl) fun i hi => ?_
  have := hd i hi
  rw [List.getD_eq_getElem?_getD, List.getElem?_map, List.getElem?_eq_getElem hi]
  rw [List.getD_eq_getElem?_getD, List.getElem?_eq_getElem hi] at this
  exact this
theorem Fits.made {kind : Nat} {there : List Bool} {vals : List Int} {k : Nat} {R : List (List Int)} {G l : List Int} (h : Fits kind there vals k R G) (hl : ∀ j, toV (crow kind k) j = comb (toV l) (R.map toV) j) (e : msum l G R.length = vals.getD k 0) : Fits kind there vals (k + 1) R G :=
  ⟨h.row, h.got, by have := h.few; omega, h.free, fun d hd => h.to_ d fun i hi => hd i (by omega), fun d hd i hi hti => by
    by_cases ei : i = k
    · subst ei; rw [h.dot hl d hd, e]
    · exact h.of_ d hd i (by omega) hti⟩
theorem Fits.no {kind : Nat} {there : List Bool} {vals : List Int} {k : Nat} {R : List (List Int)} {G l : List Int} (h : Fits kind there vals k R G) (hv : Row 8 vals) (hk : k < 8) (ht : there.getD k false = true) (hl : ∀ j, toV (crow kind k) j = comb (toV l) (R.map toV) j) (e : msum l G R.length ≠ vals.getD k 0) : ¬ Fit kind there vals := by
  rintro ⟨d, hd⟩
  refine e (toF_inj (msum_ok _ _ _) (hv.get k) ?_)
  rw [← h.dot hl d (h.to_ d fun i hi => hd i (by omega))]
  exact hd k hk ht
theorem Fits.more {kind : Nat} (hkind : kind = 1 ∨ kind = 2) {there : List Bool} {vals : List Int} {k : Nat} {R : List (List Int)} {G : List Int} (h : Fits kind there vals k R G) (hv : Row 8 vals) (hk : k < 8) (ht : there.getD k false = true) (hn : ¬ Made R (crow kind k)) : Fits kind there vals (k + 1) (R ++ [crow kind k]) (G ++ [vals.getD k 0]) := by
  have hlen := h.got.1
  have g1 : ∀ i, i < R.length → (R ++ [crow kind k]).getD i [] = R.getD i [] := fun i hi => by
    rw [List.getD_eq_getElem?_getD, List.getElem?_append_left hi, ← List.getD_eq_getElem?_getD]
  have g2 : ∀ i, i < R.length → (G ++ [vals.getD k 0]).getD i 0 = G.getD i 0 := fun i hi => by
    rw [List.getD_eq_getElem?_getD, List.getElem?_append_left (by omega), ← List.getD_eq_getElem?_getD]
  have g3 : (R ++ [crow kind k]).getD R.length [] = crow kind k := by simp [List.getD_eq_getElem?_getD]
  have g4 : (G ++ [vals.getD k 0]).getD R.length 0 = vals.getD k 0 := by rw [← hlen]; simp [List.getD_eq_getElem?_getD]
  refine ⟨fun r hr => ?_, ⟨by simp [hlen], fun x hx => ?_⟩, by simp; exact h.few, fun i hi => ?_, fun d hd i hi => ?_, fun d hd i hi hti => ?_⟩
  · rcases List.mem_append.1 hr with hr | hr
    · exact h.row r hr
    · simp at hr; subst hr; exact crow_row hkind hk
  · rcases List.mem_append.1 hx with hx | hx
    · exact h.got.2 x hx
    · simp at hx; subst hx; exact hv.get k
  · by_cases hlt : i < R.length
    · rw [List.take_append_of_le_length (by omega), List.getElem_append_left hlt]; exact h.free i hlt
    · have e : i = R.length := by simp at hi; omega
      subst e
      rw [List.take_append_of_le_length (Nat.le_refl _), List.take_length]
      simpa using hn
  · by_cases hlt : i < R.length
    · rw [g1 i hlt, g2 i hlt]
      exact h.to_ d (fun j hj => hd j (by omega)) i hlt
    · have e : i = R.length := by simp at hi; omega
      subst e
      rw [g3, g4]; exact hd k (by omega) ht
  · by_cases e : i = k
    · subst e
      have := hd R.length (by simp)
      rw [g3, g4] at this; exact this
    · exact h.of_ d (fun j hj => by have := hd j (by simp; omega); rwa [g1 j hj, g2 j hj] at this) i (by omega) hti
theorem Fits.done {kind : Nat} {there : List Bool} {vals : List Int} {R : List (List Int)} {G : List Int} (h : Fits kind there vals 8 R G) : Fit kind there vals := by
  obtain ⟨d, hd⟩ := solve R.length rfl h.row h.free (fun i => toF (G.getD i 0))
  exact ⟨d, h.of_ d fun i hi => by rw [← hd i hi, List.getD_eq_getElem?_getD, List.getElem?_eq_getElem hi]; rfl⟩
end Go.Proofs.Ythglkgicckodaaa.Sp
namespace Go.Proofs.Ythglkgicckodaaa
open Go.RowKit Go.ChangeShapes
set_option linter.unusedVariables false
def bvals (l : List Bool) : List Value := l.map Value.bool
theorem bvals_length (l : List Bool) : (bvals l).length = l.length := by simp [bvals]
theorem bvals_get (l : List Bool) (i : Nat) (h : i < l.length) : (bvals l)[i]? = some (.bool (l.getD i false)) := by
  simp [bvals, List.getD_eq_getElem?_getD, h]
theorem bvals_set (l : List Bool) (i : Nat) (x : Bool) : (bvals l).set i (.bool x) = bvals (l.set i x) := by
  simp [bvals, List.map_set]
theorem bvals_append (l : List Bool) (x : Bool) : bvals l ++ [.bool x] = bvals (l ++ [x]) := by simp [bvals]
theorem bvals_one (l : List Bool) : ∀ u ∈ bvals l, u.oneCell' = true := by
  intro u hu
  obtain ⟨b, _, rfl⟩ := List.mem_map.1 hu
  rfl
def BRds (w : World) (a : Option Addr) (l : List Bool) : Prop :=
  l = [] ∨ ∃ b o, a = some ⟨b, o, none⟩ ∧ ∀ i, i < l.length → w.cell? ⟨b, o + i, none⟩ = some (.bool (l.getD i false))
theorem BRds.at_ {w : World} {a : Option Addr} {l : List Bool} (h : BRds w a l) {k : Nat} (hk : k < l.length) :
    ∃ b o, a = some ⟨b, o, none⟩ ∧ w.cell? ⟨b, o + k, none⟩ = some (.bool (l.getD k false)) := by
  rcases h with rfl | ⟨b, o, rfl, h⟩
  · simp at hk
  · exact ⟨b, o, rfl, h k hk⟩
theorem BRds.grown {w w' : World} {a : Option Addr} {l : List Bool} (h : BRds w a l) (hg : w.grownBy w' none) : BRds w' a l := by
  rcases h with rfl | ⟨b, o, rfl, h⟩
  · exact .inl rfl
  · exact .inr ⟨b, o, rfl, fun i hi => hg.cell (h i hi) (by simp)⟩
def Bl (w : World) (v : Value) (l : List Bool) : Prop := ∃ a cap, v = .slice a l.length cap ∧ l.length ≤ cap ∧ cap ≤ maxLen ∧ BRds w a l
def BOwn (w : World) (base : Nat) (v : Value) (l : List Bool) : Prop := w.ownsRow base 4 1 v l.length (bvals l)
theorem Bl.grown {w w' : World} {v : Value} {l : List Bool} (h : Bl w v l) (hg : w.grownBy w' none) : Bl w' v l := by
  obtain ⟨a, cap, rfl, h1, h2, h⟩ := h
  exact ⟨a, cap, rfl, h1, h2, h.grown hg⟩
theorem BOwn.bl {w : World} {base : Nat} {v : Value} {l : List Bool} (h : BOwn w base v l) : Bl w v l := by
  rcases h.2 with ⟨rfl, h0⟩ | ⟨g, cap, cur, rfl, _, hg, h1, h2, _, ht⟩
  · exact ⟨none, 0, by rw [h0], by omega, by omega, .inl (List.eq_nil_of_length_eq_zero h0)⟩
  · refine ⟨_, cap, rfl, h1, h2, .inr ⟨g, 0, rfl, fun i hi => ?_⟩⟩
    rw [cell_of_row w g (0 + i) cur 4 (0, 0) hg]
    have hv := bvals_get l i hi
    rw [← ht, List.getElem?_take, if_pos (by omega)] at hv
    simpa using hv
theorem BOwn.lower {w : World} {base base' : Nat} {v : Value} {l : List Bool} (h : BOwn w base v l) (hb : base' ≤ base) : BOwn w base' v l := by
  refine ⟨h.1, ?_⟩
  rcases h.2 with h0 | ⟨g, cap, cur, hv, hg, r⟩
  · exact .inl h0
  · exact .inr ⟨g, cap, cur, hv, by omega, r⟩
theorem BOwn.kept {w w' : World} {base : Nat} {v : Value} {l : List Bool} {row : Option Nat} (h : BOwn w base v l) (hg : w.grownBy w' row) (hne : v.ownBlock = none ∨ v.ownBlock ≠ row) : BOwn w' base v l :=
  World.ownsRow.kept h hg hne
theorem BOwn.still {w w' : World} {base : Nat} {v : Value} {l : List Bool} (h : BOwn w base v l) (hg : w.grownBy w' none) : BOwn w' base v l :=
  h.kept hg (by cases h : v.ownBlock <;> simp)
theorem BOwn.none_ (w : World) (base : Nat) : BOwn w base (.slice none 0 0) [] := World.ownsRow_nil _ _ _ _
def BArr (w : World) (g : Nat) (t : TypeId) (l : List Bool) : Prop := w.heap[g]? = some (.cells (bvals l).toArray t (0, 0))
namespace BArr
variable {w w' : World} {g : Nat} {t : TypeId} {l : List Bool}
theorem lt (h : BArr w g t l) : g < w.heap.size := by
  unfold BArr at h
  exact (Array.getElem?_eq_some_iff.1 h).1
theorem cell (h : BArr w g t l) {i : Nat} (hi : i < l.length) : w.cell? ⟨g, i, none⟩ = some (.bool (l.getD i false)) := by
  rw [cell_of_row w g i _ t (0, 0) h]; simpa using bvals_get l i hi
theorem frozen (h : BArr w g t l) (i : Nat) : w.frozen? ⟨g, i, none⟩ = false := frozen_of_row w g i _ t h
theorem new (w : World) (t : TypeId) (l : List Bool) : BArr (w.alloc (.cells (bvals l).toArray t)) w.heap.size t l := heap_alloc_new w _
theorem alloc (h : BArr w g t l) (o : Obj) : BArr (w.alloc o) g t l := (Below.heap_alloc w o g h.lt).trans h
theorem drew (h : BArr w g t l) : BArr w.drew g t l := h
theorem kept {r : Option Nat} (h : BArr w g t l) (hg : w.grownBy w' r) (hr : some g ≠ r) : BArr w' g t l := (hg.block g h.lt hr).trans h
theorem still (h : BArr w g t l) (hg : w.grownBy w' none) : BArr w' g t l := h.kept hg (by simp)
theorem far (h : BArr w g t l) {p : Addr} (hp : g ≠ p.block) (u : Value) : BArr (w.setCell p u) g t l := (Below.heap_setCell w p u g hp).trans h
theorem put (h : BArr w g t l) (i : Nat) (x : Bool) : BArr (w.setCell ⟨g, i, none⟩ (.bool x)) g t (l.set i x) := by
  have e := heap_setCell_same w g i _ t (.bool x) h
  unfold BArr
  rw [e, ← bvals_set]
  simp
theorem own {n : Nat} (h : BArr w g 4 l) (hn : n = l.length) (base : Nat) (hb : base ≤ g) (hl : l.length ≤ maxLen) : BOwn w base (.slice (some ⟨g, 0, none⟩) n n) l := by
  subst hn
  exact ⟨by simp [bvals], .inr ⟨g, l.length, _, rfl, hb, h, Nat.le_refl _, hl, by simp [bvals], by
    show List.take _ (bvals l) = bvals l
    exact List.take_of_length_le (by simp [bvals])⟩⟩
end BArr
def NewBools (l : List Bool) (w : World) (e : Ending) (w' : World) : Prop := ∃ v, e = .returned v ∧ w.grownBy w' none ∧ BOwn w' w.heap.size v l
def bool1 (v : Value) (l : List Bool) : Item := ⟨v, 4, bvals l⟩
theorem bool1_own {w : World} {base : Nat} {v : Value} {l : List Bool} : (bool1 v l).Own w base ↔ BOwn w base v l := by
  unfold Item.Own bool1 BOwn
  simp [bvals_length]
namespace Lives
variable {w0 w w' : World} {L : List Item}
theorem bl (h : Lives w0 w L) {v : Value} {l : List Bool} (hm : bool1 v l ∈ L) : Bl w v l := (bool1_own.1 (h.own.1 _ hm)).bl
theorem argB (h : Lives w0 w L) {v : Value} {l : List Bool} (hs : Bl w0 v l) : Bl w v l := hs.grown (grown_below h.below (Nat.le_refl _) none)
end Lives
end Go.Proofs.Ythglkgicckodaaa
namespace Go.Proofs.Ythglkgicckodaaa
open Go.RowKit
set_option linter.unusedVariables false
theorem infoBool : (Try.prog.info? 4).map (fun i => (i.zero, i.size, i.bytes)) = some (some (.bool false), 1, 1) := by kernel_rfl
def bpart (l : List Bool) (k : Nat) : List Bool := l.take k ++ List.replicate (l.length - k) false
theorem bpart_length (l : List Bool) (k : Nat) (h : k ≤ l.length) : (bpart l k).length = l.length := by simp [bpart]; omega
theorem bpart_all (l : List Bool) : bpart l l.length = l := by simp [bpart]
theorem bpart_set (l : List Bool) (k : Nat) (h : k < l.length) : (bpart l k).set k (l.getD k false) = bpart l (k + 1) := by
  unfold bpart
  rw [List.set_append_right _ _ (by simp; omega)]
  have e : l.take (k + 1) = l.take k ++ [l.getD k false] := by
    rw [List.take_succ_eq_append_getElem h]; simp [List.getD_eq_getElem?_getD, h]
  rw [e, List.append_assoc]
  congr 1
  have e2 : l.length - k = (l.length - (k + 1)) + 1 := by omega
  rw [e2, List.replicate_succ]
  simp [Nat.min_eq_left (Nat.le_of_lt h)]
theorem bpart_none (l : List Bool) : bvals (bpart l 0) = (madeCells #[Value.bool false] l.length).toList := by
  rw [toList_madeCells_one]; simp [bpart, bvals]
def BCopied (w : World) (l : List Bool) (g k : Nat) (wr : World) : Prop :=
  k ≤ l.length ∧ w.grownBy wr none ∧ w.heap.size ≤ g ∧ BOwn wr w.heap.size (.slice (some ⟨g, 0, none⟩) l.length l.length) (bpart l k)
theorem bown_len {w : World} {base : Nat} {v : Value} {l : List Bool} {n : Nat} (h : w.ownsRow base 4 1 v n (bvals l)) (hl : l.length = n) : BOwn w base v l := by
  subst hl; exact h
theorem BCopied.cell {w wr : World} {l : List Bool} {g k : Nat} (h : BCopied w l g k wr) (hk : k < l.length) : wr.cell? ⟨g, k, none⟩ = some (.bool ((bpart l k).getD k false)) ∧ wr.frozen? ⟨g, k, none⟩ = false := by
  obtain ⟨h0, h1, h2, h3⟩ := h
  unfold BOwn at h3
  rw [bpart_length l k h0] at h3
  have hc := World.ownsRow.cells h3 (g := g) rfl k _ (bvals_get (bpart l k) k (by rw [bpart_length l k h0]; exact hk))
  rw [Addr.add_lit] at hc
  exact ⟨by simpa using hc, World.ownsRow.frozenAt h3 k⟩
theorem BCopied.next {w wr : World} {l : List Bool} {g k : Nat} (h : BCopied w l g k wr) (hk : k < l.length) : BCopied w l g (k + 1) (wr.setCell ⟨g, k, none⟩ (.bool (l.getD k false))) := by
  obtain ⟨h0, h1, h2, h3⟩ := h
  unfold BOwn at h3
  rw [bpart_length l k h0] at h3
  have hs := World.ownsRow.stored h3 k (.bool (l.getD k false))
  refine ⟨hk, grown_set h1 (p := ⟨g, k, none⟩) h2 _, h2, ?_⟩
  refine bown_len (n := l.length) ?_ (bpart_length l (k + 1) hk)
  rw [← bpart_set l k hk, ← bvals_set]
  exact hs.1
set_option maxHeartbeats 1000000 in
set_option maxRecDepth 20000 in
theorem toBoolS (v : Value) (l : List Bool) (w : World) (h : Bl w v l) (hl : l.length ≤ 1048576) : Calls Try.prog 59 #[v] w (NewBools l w) := by
  obtain ⟨a, cap, rfl, hlc, hcm, hr⟩ := h
  have R := Lib.hid hr
  clear hr
  obtain ⟨i0, hi, hz0, hz1, hz2⟩ := info_parts infoBool
  have I1 := Lib.hid hi
  have I2 := Lib.hid hz0
  have I3 := Lib.hid hz1
  have I4 := Lib.hid hz2
  clear hi hz0 hz1 hz2
  unfold maxLen at hcm
  have hn0 : (0 : Int) ≤ (l.length : Int) := by omega
  go_enter Try.func59, Try.ntmps59
  go_wp2_with (at_make; refine wpList_make_full _ rfl _ _ 41 rfl w.heap.size 4 i0 (.bool false) 1 Try.underlying41 I1.out I2.out I3.out _ _ _ _ l.length rfl rfl rfl rfl ?b1 ?b2 ?b3 ?_)
  case b1 => rw [I4.out]; omega
  case b2 => unfold maxLen; omega
  case b3 => exact Nat.le_refl _
  intro w1 ho hg
  have C0 : Hid (BCopied w l w.heap.size 0 w1) := by
    refine ⟨Nat.zero_le _, hg, Nat.le_refl _, bown_len (n := l.length) ?_ (bpart_length l 0 (Nat.zero_le _))⟩
    rw [bpart_none]
    simpa using ho
  clear ho hg
  go_wp2_with fail
  go_loopw [4] (fun i wr => ∃ k : Nat, i = .int .i64 k ∧ BCopied w l w.heap.size k wr) (fun i _ => l.length - (intOf i).toNat)
  case atStart => exact ⟨0, rfl, C0.out⟩
  case round =>
    obtain ⟨k, rfl, hc⟩ := hrel
    have hk := hc.1
    have C := Lib.hid hc
    clear hc
    by_cases hlt : k < l.length
    · obtain ⟨hx, hf⟩ := C.out.cell hlt
      obtain ⟨b, o, rfl, hx2⟩ := (R.out.grown C.out.2.1).at_ hlt
      obtain ⟨x, hxe⟩ : ∃ x, l.getD k false = x := ⟨_, rfl⟩
      rw [hxe] at hx2
      have E := Lib.hid hxe
      clear hxe
      go_wp2_with fail
      go_roundw
      case rel => exact ⟨k + 1, by go_num, by rw [← E.out]; exact C.out.next hlt⟩
      case measure => simp [intOf]; omega
    · have : k = l.length := by omega
      subst this
      go_wp2_with fail
      go_ret
      refine ⟨_, rfl, C.out.2.1, ?_⟩
      have := C.out.2.2.2
      rwa [bpart_all] at this
set_option maxHeartbeats 1000000 in
set_option maxRecDepth 20000 in
theorem eqSameB (u v : Value) (l : List Bool) (w : World) (h : Bl w u l) (k : Bl w v l) : Calls Try.prog 64 #[u, v] w fun e w' => e = .returned (.bool true) ∧ w.grownBy w' none := by
  obtain ⟨a, cap, rfl, hlc, hcm, hr⟩ := h
  obtain ⟨a', cap', rfl, hlc', hcm', hr'⟩ := k
  have R := Lib.hid hr
  have R' := Lib.hid hr'
  clear hr hr'
  unfold maxLen at hcm hcm'
  have hne : ((l.length : Int) != (l.length : Int)) = false := by simp
  go_enter Try.func64, Try.ntmps64
  go_wp2_with fail
  go_loopw [5] (fun i wr => ∃ k : Nat, i = .int .i64 k ∧ k ≤ l.length ∧ w.grownBy wr none) (fun i _ => l.length - (intOf i).toNat)
  case atStart => exact ⟨0, rfl, Nat.zero_le _, World.grownBy.refl _ _⟩
  case round =>
    obtain ⟨k, rfl, hk, hg⟩ := hrel
    have G := Lib.hid hg
    clear hg
    by_cases hlt : k < l.length
    · have hlt' : (k : Int) < (l.length : Int) := by omega
      obtain ⟨b, o, rfl, hx⟩ := (R.out.grown G.out).at_ hlt
      obtain ⟨b', o', rfl, hx'⟩ := (R'.out.grown G.out).at_ hlt
      generalize l.getD k false = x at hx hx'
      go_wp2_with fail
      go_quiet (fail)
      go_wp2_with fail
      go_roundw
      case rel => exact ⟨k + 1, by go_num, by omega, grown_draws G.out _⟩
      case measure => simp [intOf]; omega
    · go_wp2_with fail
      go_ret
      exact ⟨rfl, G.out⟩
end Go.Proofs.Ythglkgicckodaaa
namespace Go.Proofs.Ythglkgicckodaaa
set_option linter.unusedVariables false
end Go.Proofs.Ythglkgicckodaaa
namespace Go.Proofs.Ythglkgicckodaaa
open Go.RowKit
set_option linter.unusedVariables false
set_option maxHeartbeats 2000000 in
set_option maxRecDepth 20000 in
theorem implPowers (x : Int) (w : World) (hx : Fld.ok x = true) :
    Calls Try.prog 116 #[.int .i64 x] w fun e w' => e = .returned (.agg #[.int .i64 1, .int .i64 (x % 31), .int .i64 (x % 31 * x % 31), .int .i64 (x % 31 * x % 31 * x % 31)]) ∧ w.grownBy w' none := by
  have ⟨x0, x1⟩ := Fld.ok_iff.1 hx
  have ⟨b0, b1⟩ := Fld.mul_le (Vec.mod_is x) hx
  have ⟨c0, c1⟩ := Fld.mul_le (Vec.mod_is (x % 31 * x)) hx
  have ⟨d0, d1⟩ := Fld.mul_le (Vec.mod_is (x % 31 * x % 31 * x)) hx
  have o : (1 : Int) * x = x := by omega
  clear hx
  go_enter Try.func116, Try.ntmps116
  go_wp2_with fail
  go_rounds 5
  refine bodyPost_ret (v := .agg #[.int .i64 1, .int .i64 (x % 31), .int .i64 (x % 31 * x % 31), .int .i64 (x % 31 * x % 31 * x % 31)]) (by simp [results, Try.results116, go_sem]) rfl ⟨rfl, ?_⟩
  repeat' first | exact World.grownBy.refl _ _ | refine grown_alloc ?_ _ | refine grown_set ?_ (by simp; try omega) _
theorem powOf (x : Int) (a b c : Int) (w : World) (hx : Fld.ok x = true) (ha : x % 31 = a) (hb : a * x % 31 = b) (hc : b * x % 31 = c) :
    Calls Try.prog 116 #[.int .i64 x] w fun e w' => e = .returned (.agg #[.int .i64 1, .int .i64 a, .int .i64 b, .int .i64 c]) ∧ w.grownBy w' none := by
  subst ha hb hc; exact implPowers x w hx
def grid (kind : Nat) : List Int := (List.range 8).flatMap (Sp.crow kind)
theorem Arr.row {w : World} {g : Nat} {t : TypeId} {l l' : List Int} (h : Arr w g t l) : Arr (w.setRow g (vals l').toArray) g t l' := setRow_heap w g _ _ t _ h
theorem grown_row {a w : World} {r : Option Nat} {g : Nat} {t : TypeId} {l : List Int} (h : a.grownBy w r) (ha : Arr w g t l) (hg : a.heap.size ≤ g) (cs : Array Value) : a.grownBy (w.setRow g cs) r := by
  refine ⟨h.os, h.tape, h.output, ?_, fun i hi hr => ?_⟩
  · have := h.size
    simpa [World.setRow] using this
  · rw [← h.block i hi hr]
    simp [World.setRow, Array.getElem?_modify, show g ≠ i by omega]
set_option maxHeartbeats 4000000 in
set_option maxRecDepth 20000 in
theorem implLocal (w : World) : Calls Try.prog 98 #[] w fun e w' => e = .returned (.agg (vals (grid 1)).toArray) ∧ w.grownBy w' none := by
  have A0 := Lib.hid (Arr.new w 87 (List.replicate 32 0))
  have G0 := Lib.hid (grown_alloc (World.grownBy.refl w none) (.cells (vals (List.replicate 32 0)).toArray 87))
  go_enter Try.func98, Try.ntmps98
  go_wp2_with fail
  change Calls _ _ _ (w.alloc (.cells (vals (List.replicate 32 0)).toArray 87)) _
  generalize w.alloc (.cells (vals (List.replicate 32 0)).toArray 87) = W0 at *
  obtain ⟨g, hg0⟩ : ∃ g, g = w.heap.size := ⟨_, rfl⟩
  rw [← hg0] at A0 ⊢
  have GE : w.heap.size ≤ g := by omega
  clear hg0
  refine (powOf 2 2 4 8 _ rfl rfl rfl rfl).mono ?_
  rintro e w1 ⟨rfl, hg⟩
  have A1 := Lib.hid (A0.out.still hg)
  have G1 := Lib.hid (grown_trans G0.out hg)
  clear A0 G0 hg
  go_wp2_with fail
  refine (powOf 3 3 9 27 _ rfl rfl rfl rfl).mono ?_
  rintro e w2 ⟨rfl, hg⟩
  have A2 := Lib.hid (A1.out.still hg)
  have G2 := Lib.hid (grown_trans G1.out hg)
  clear A1 G1 hg
  rename_i h2
  refine h2 _ _ ?_
  clear h2
  refine wpList_build rfl _ _ rfl (by kernel_rfl) ?_
  refine wpList_store_row rfl _ _ _ rfl g (vals (grid 1)).toArray rfl (by kernel_rfl) 87 _ A2.out (by kernel_rfl) (by kernel_rfl) (by kernel_rfl) ?_
  have A3 := Lib.hid (A2.out.row (l' := grid 1))
  have G3 := Lib.hid (grown_row G2.out A2.out GE (vals (grid 1)).toArray)
  clear A2 G2
  generalize w2.setRow g (vals (grid 1)).toArray = w3 at *
  go_wp2_with fail
  exact bodyPost_ret (v := .agg (vals (grid 1)).toArray) (results_cell_row Try.results98 _ _ g _ _ _ _ rfl A3.out Try.underlying87 rfl (by kernel_rfl)) rfl ⟨rfl, G3.out⟩
end Go.Proofs.Ythglkgicckodaaa
namespace Go.Proofs.Ythglkgicckodaaa
open Go.RowKit
set_option linter.unusedVariables false
def gridK (k : Nat) : List Int := (grid 2).take (k * 4) ++ List.replicate (32 - k * 4) 0
theorem gridK_step : ∀ k : Nat, k < 8 → ((((gridK k).set (k * 4) 1).set (k * 4 + 1) ((Sp.crow 2 k).getD 1 0)).set (k * 4 + 2) ((Sp.crow 2 k).getD 2 0)).set (k * 4 + 3) ((Sp.crow 2 k).getD 3 0) = gridK (k + 1) := by decide +kernel
theorem gridK_len : ∀ k : Nat, k ≤ 8 → (gridK k).length = 32 := by decide +kernel
theorem pow_wide : ∀ k : Nat, k < 8 → Fld.ok ((k : Int) + 1) = true ∧ ((k : Int) + 1) % 31 = (Sp.crow 2 k).getD 1 0 ∧ (Sp.crow 2 k).getD 1 0 * ((k : Int) + 1) % 31 = (Sp.crow 2 k).getD 2 0 ∧ (Sp.crow 2 k).getD 2 0 * ((k : Int) + 1) % 31 = (Sp.crow 2 k).getD 3 0 := by decide +kernel
set_option maxHeartbeats 4000000 in
set_option maxRecDepth 20000 in
theorem implWide (w : World) : Calls Try.prog 99 #[] w fun e w' => e = .returned (.agg (vals (grid 2)).toArray) ∧ w.grownBy w' none := by
  obtain ⟨l, hl⟩ : ∃ l, l = grid 2 := ⟨_, rfl⟩
  rw [← hl]
  have E8 : Hid (gridK 8 = l) := Lib.hid (by rw [hl]; decide +kernel)
  clear hl
  have A0 : Hid (Arr ((w.alloc (.cells (vals (List.replicate 32 0)).toArray 87)).alloc (.cells (vals (List.replicate 32 0)).toArray 87)) w.heap.size 87 (List.replicate 32 0)) := Lib.hid ((Arr.new w 87 (List.replicate 32 0)).alloc _)
  have B0 : Hid (Arr ((w.alloc (.cells (vals (List.replicate 32 0)).toArray 87)).alloc (.cells (vals (List.replicate 32 0)).toArray 87)) (w.heap.size + 1) 87 (List.replicate 32 0)) := Lib.hid (by
    have := Arr.new (w.alloc (.cells (vals (List.replicate 32 0)).toArray 87)) 87 (List.replicate 32 0)
    rw [World.size_alloc] at this
    exact this)
  have G0 : Hid (w.grownBy ((w.alloc (.cells (vals (List.replicate 32 0)).toArray 87)).alloc (.cells (vals (List.replicate 32 0)).toArray 87)) none) := Lib.hid (grown_alloc (grown_alloc (World.grownBy.refl w none) _) _)
  go_enter Try.func99, Try.ntmps99
  go_wp2_with fail
  change Code.wp _ _ _ _ ((w.alloc (.cells (vals (List.replicate 32 0)).toArray 87)).alloc (.cells (vals (List.replicate 32 0)).toArray 87))
  generalize (w.alloc (.cells (vals (List.replicate 32 0)).toArray 87)).alloc (.cells (vals (List.replicate 32 0)).toArray 87) = W0 at *
  obtain ⟨g, hg0⟩ : ∃ g, g = w.heap.size + 1 := ⟨_, rfl⟩
  obtain ⟨r, hr0⟩ : ∃ r, r = w.heap.size := ⟨_, rfl⟩
  rw [← hg0] at B0 ⊢
  rw [← hr0] at A0 ⊢
  have NE : w.heap.size ≤ r ∧ w.heap.size ≤ g ∧ r ≠ g := by omega
  clear hg0 hr0
  go_loopw [3] (fun i wr => ∃ k : Nat, k ≤ 8 ∧ i = .int .i64 k ∧ Arr wr g 87 (gridK k) ∧ Arr wr r 87 (List.replicate 32 0) ∧ w.grownBy wr none) (fun i _ => 8 - (intOf i).toNat)
  case atStart => exact ⟨0, by omega, rfl, B0.out, A0.out, G0.out⟩
  case round =>
    obtain ⟨k, hk, rfl, hb, ha, hw⟩ := hrel
    have A := Lib.hid ha
    have B := Lib.hid hb
    have G := Lib.hid hw
    clear ha hb hw A0 B0 G0
    by_cases hlt : k < 8
    · have hlt' : (k : Int) < 8 := by omega
      have hp := pow_wide k hlt
      have ST := Lib.hid (gridK_step k hlt)
      obtain ⟨a, ea⟩ : ∃ a, (Sp.crow 2 k).getD 1 0 = a := ⟨_, rfl⟩
      obtain ⟨b, eb⟩ : ∃ b, (Sp.crow 2 k).getD 2 0 = b := ⟨_, rfl⟩
      obtain ⟨c, ec⟩ : ∃ c, (Sp.crow 2 k).getD 3 0 = c := ⟨_, rfl⟩
      rw [ea, eb, ec] at hp ST
      have HP := Lib.hid hp
      clear ea eb ec hp
      go_wp2_with fail
      refine (powOf _ _ _ _ _ HP.out.1 HP.out.2.1 HP.out.2.2.1 HP.out.2.2.2).mono ?_
      rintro e w1 ⟨rfl, hg⟩
      have A1 := Lib.hid (A.out.still hg)
      have B1 := Lib.hid (B.out.still hg)
      have G1 := Lib.hid (grown_trans G.out hg)
      clear A B G hg HP
      have hl := gridK_len k hk
      have c0 : w1.cell? ⟨g, k * 4, none⟩ = some (.int .i64 ((gridK k).getD (k * 4) 0)) := B1.out.cell (by omega)
      have c1 : w1.cell? ⟨g, k * 4 + 1, none⟩ = some (.int .i64 ((gridK k).getD (k * 4 + 1) 0)) := B1.out.cell (by omega)
      have c2 : w1.cell? ⟨g, k * 4 + 2, none⟩ = some (.int .i64 ((gridK k).getD (k * 4 + 2) 0)) := B1.out.cell (by omega)
      have c3 : w1.cell? ⟨g, k * 4 + 3, none⟩ = some (.int .i64 ((gridK k).getD (k * 4 + 3) 0)) := B1.out.cell (by omega)
      have f0 := B1.out.frozen (k * 4)
      have f1 := B1.out.frozen (k * 4 + 1)
      have f2 := B1.out.frozen (k * 4 + 2)
      have f3 := B1.out.frozen (k * 4 + 3)
      clear hl
      go_wp2_with fail
      refine ⟨⟨k + 1, by omega, by go_num, ?_, ?_, ?_⟩, by simp [intOf]; omega⟩
      · rw [← ST.out]
        exact (((B1.out.put (k * 4) 1).put (k * 4 + 1) a).put (k * 4 + 2) b).put (k * 4 + 3) c
      · exact (((A1.out.far (p := ⟨g, k * 4, none⟩) NE.2.2 _).far (p := ⟨g, k * 4 + 1, none⟩) NE.2.2 _).far (p := ⟨g, k * 4 + 2, none⟩) NE.2.2 _).far (p := ⟨g, k * 4 + 3, none⟩) NE.2.2 _
      · exact grown_set (grown_set (grown_set (grown_set G1.out (p := ⟨g, k * 4, none⟩) NE.2.1 _) (p := ⟨g, k * 4 + 1, none⟩) NE.2.1 _) (p := ⟨g, k * 4 + 2, none⟩) NE.2.1 _) (p := ⟨g, k * 4 + 3, none⟩) NE.2.1 _
    · obtain rfl : k = 8 := by omega
      rw [E8.out] at B
      have z : l.length = 32 := by rw [← E8.out]; decide +kernel
      have z' : (vals l).toArray.size = 32 := by simp [vals_length, z]
      have hi : (Try.prog.info? 87).map (·.size) = some (vals l).toArray.size := by rw [z']; kernel_rfl
      go_upto_region 7 with fail
      apply wp_region_lit
      refine wpList_load_row rfl _ _ rfl g rfl _ _ _ _ B.out Try.underlying87 rfl hi ?_
      refine wpList_store_row rfl _ _ _ rfl r (vals l).toArray rfl rfl _ _ A.out hi (by rw [z']; kernel_rfl) (all_oneCell_toArray (vals_one l)) ?_
      have A3 := Lib.hid (A.out.row (l' := l))
      have G3 := Lib.hid (grown_row G.out A.out NE.1 (vals l).toArray)
      clear A B G z z'
      generalize wr.setRow r (vals l).toArray = w3 at *
      go_wp2_with fail
      refine bodyPost_ret (v := .agg (vals l).toArray) ?_ rfl ⟨rfl, G3.out⟩
      exact results_cell_row Try.results99 _ _ r _ _ _ _ rfl A3.out Try.underlying87 rfl hi
end Go.Proofs.Ythglkgicckodaaa
namespace Go.Proofs.Ythglkgicckodaaa
open Go.RowKit
set_option linter.unusedVariables false
theorem results_row_slot {P : Program} {fn : Func} {p q : Tmp} {ty : TypeId} (h : fn.results = #[.cell p ty, .tmp q]) (tmps : Array Value) (w : World) (g : Nat) (t : TypeId) (cs : Array Value) (fr : Nat × Nat) (d : TypeDesc) (v : Value)
    (hp : tmps.getD p undef = .pointer (some ⟨g, 0, none⟩)) (hq : tmps.getD q undef = v) (hg : w.heap[g]? = some (.cells cs t fr))
    (hu : P.underlying ty = some d) (hd : (match d with | .struct _ | .array _ _ => true | _ => false) = true) (hi : (P.info? ty).map (·.size) = some cs.size) :
    (results fn tmps).run P w = .ok (.tuple #[.agg cs, v]) w := by
  have hp' : tmps[p]?.getD undef = .pointer (some ⟨g, 0, none⟩) := by simpa using hp
  have hq' : tmps[q]?.getD undef = v := by simpa using hq
  simp [results, h, hp', hq', asAddr, run_loadVar_row w g t ty cs fr d hg hu hd hi]
set_option maxHeartbeats 4000000 in
set_option maxRecDepth 20000 in
theorem genLocal (w : World) : Calls Try.prog 79 #[.int .i64 1] w fun e w' => e = .returned (.tuple #[.agg (vals (grid 1)).toArray, .bool true]) ∧ w.grownBy w' none := by
  obtain ⟨l, hl⟩ : ∃ l, l = grid 1 := ⟨_, rfl⟩
  have IL := Lib.hid (fun w => implLocal w)
  rw [← hl] at IL ⊢
  have z : (vals l).toArray.size = 32 := by rw [hl]; decide +kernel
  clear hl
  have hi : (Try.prog.info? 87).map (·.size) = some (vals l).toArray.size := by rw [z]; kernel_rfl
  have A0 := Lib.hid (Arr.new w 87 (List.replicate 32 0))
  have G0 := Lib.hid (grown_alloc (World.grownBy.refl w none) (.cells (vals (List.replicate 32 0)).toArray 87))
  go_enter Try.func79, Try.ntmps79
  go_wp2_with fail
  change Calls _ _ _ (w.alloc (.cells (vals (List.replicate 32 0)).toArray 87)) _
  generalize w.alloc (.cells (vals (List.replicate 32 0)).toArray 87) = W0 at *
  obtain ⟨g, hg0⟩ : ∃ g, g = w.heap.size := ⟨_, rfl⟩
  rw [← hg0] at A0 ⊢
  have GE : w.heap.size ≤ g := by omega
  clear hg0
  refine (IL.out _).mono ?_
  rintro e w1 ⟨rfl, hg⟩
  have A1 := Lib.hid (A0.out.still hg)
  have G1 := Lib.hid (grown_trans G0.out hg)
  clear A0 G0 hg
  rename_i h2
  refine h2 _ _ ?_
  clear h2
  refine wpList_store_row rfl _ _ _ rfl g (vals l).toArray rfl rfl _ _ A1.out hi (by rw [z]; kernel_rfl) (all_oneCell_toArray (vals_one l)) ?_
  have A3 := Lib.hid (A1.out.row (l' := l))
  have G3 := Lib.hid (grown_row G1.out A1.out GE (vals l).toArray)
  clear A1 G1 z
  generalize w1.setRow g (vals l).toArray = w3 at *
  go_wp2_with fail
  refine bodyPost_ret (v := .tuple #[.agg (vals l).toArray, .bool true]) ?_ rfl ⟨rfl, G3.out⟩
  exact results_row_slot Try.results79 _ _ g _ _ _ _ _ rfl rfl A3.out Try.underlying87 rfl hi
set_option maxHeartbeats 4000000 in
set_option maxRecDepth 20000 in
theorem genWide (w : World) : Calls Try.prog 79 #[.int .i64 2] w fun e w' => e = .returned (.tuple #[.agg (vals (grid 2)).toArray, .bool true]) ∧ w.grownBy w' none := by
  obtain ⟨l, hl⟩ : ∃ l, l = grid 2 := ⟨_, rfl⟩
  have IL := Lib.hid (fun w => implWide w)
  rw [← hl] at IL ⊢
  have z : (vals l).toArray.size = 32 := by rw [hl]; decide +kernel
  clear hl
  have hi : (Try.prog.info? 87).map (·.size) = some (vals l).toArray.size := by rw [z]; kernel_rfl
  have A0 := Lib.hid (Arr.new w 87 (List.replicate 32 0))
  have G0 := Lib.hid (grown_alloc (World.grownBy.refl w none) (.cells (vals (List.replicate 32 0)).toArray 87))
  go_enter Try.func79, Try.ntmps79
  go_wp2_with fail
  change Calls _ _ _ (w.alloc (.cells (vals (List.replicate 32 0)).toArray 87)) _
  generalize w.alloc (.cells (vals (List.replicate 32 0)).toArray 87) = W0 at *
  obtain ⟨g, hg0⟩ : ∃ g, g = w.heap.size := ⟨_, rfl⟩
  rw [← hg0] at A0 ⊢
  have GE : w.heap.size ≤ g := by omega
  clear hg0
  refine (IL.out _).mono ?_
  rintro e w1 ⟨rfl, hg⟩
  have A1 := Lib.hid (A0.out.still hg)
  have G1 := Lib.hid (grown_trans G0.out hg)
  clear A0 G0 hg
  rename_i h2
  refine h2 _ _ ?_
  clear h2
  refine wpList_store_row rfl _ _ _ rfl g (vals l).toArray rfl rfl _ _ A1.out hi (by rw [z]; kernel_rfl) (all_oneCell_toArray (vals_one l)) ?_
  have A3 := Lib.hid (A1.out.row (l' := l))
  have G3 := Lib.hid (grown_row G1.out A1.out GE (vals l).toArray)
  clear A1 G1 z
  generalize w1.setRow g (vals l).toArray = w3 at *
  go_wp2_with fail
  refine bodyPost_ret (v := .tuple #[.agg (vals l).toArray, .bool true]) ?_ rfl ⟨rfl, G3.out⟩
  exact results_row_slot Try.results79 _ _ g _ _ _ _ _ rfl rfl A3.out Try.underlying87 rfl hi
set_option maxHeartbeats 4000000 in
set_option maxRecDepth 20000 in
theorem genNone (kind : Int) (w : World) (h1 : kind ≠ 1) (h2 : kind ≠ 2) : Calls Try.prog 79 #[.int .i64 kind] w fun e w' => e = .returned (.tuple #[.agg (vals (List.replicate 32 0)).toArray, .bool false]) ∧ w.grownBy w' none := by
  obtain ⟨l, hl⟩ : ∃ l : List Int, l = List.replicate 32 0 := ⟨_, rfl⟩
  have z : (vals l).toArray.size = 32 := by rw [hl]; decide +kernel
  have hi : (Try.prog.info? 87).map (·.size) = some (vals l).toArray.size := by rw [z]; kernel_rfl
  have A0 := Lib.hid (Arr.new w 87 (List.replicate 32 0))
  have G0 := Lib.hid (grown_alloc (World.grownBy.refl w none) (.cells (vals (List.replicate 32 0)).toArray 87))
  go_enter Try.func79, Try.ntmps79
  go_upto_region 6 with fail
  change Code.wp _ _ _ _ (w.alloc (.cells (vals (List.replicate 32 0)).toArray 87))
  generalize w.alloc (.cells (vals (List.replicate 32 0)).toArray 87) = W0 at *
  obtain ⟨g, hg0⟩ : ∃ g, g = w.heap.size := ⟨_, rfl⟩
  rw [← hg0] at A0 ⊢
  have GE : w.heap.size ≤ g := by omega
  clear hg0
  apply wp_region_lit
  refine wpList_build rfl _ _ rfl (by kernel_rfl) ?_
  refine wpList_store_row rfl _ _ _ rfl g (vals (List.replicate 32 0)).toArray rfl (by kernel_rfl) _ _ A0.out (by kernel_rfl) (by kernel_rfl) (by kernel_rfl) ?_
  have A3 := Lib.hid (A0.out.row (l' := l))
  have G3 := Lib.hid (grown_row G0.out A0.out GE (vals l).toArray)
  rw [hl] at A3 G3 hi
  clear A0 G0 z hl
  generalize W0.setRow g (vals (List.replicate 32 0)).toArray = w3 at *
  go_wp2_with fail
  refine bodyPost_ret (v := .tuple #[.agg (vals (List.replicate 32 0)).toArray, .bool false]) ?_ rfl ⟨rfl, G3.out⟩
  exact results_row_slot Try.results79 _ _ g _ _ _ _ _ rfl rfl A3.out Try.underlying87 rfl hi
theorem storeNew (w : World) {l : List Int} (hl : l.length = 32) : (storeCells ⟨w.heap.size, 0, none⟩ (vals l) 0).run Try.prog (w.alloc (.cells #[.int .i64 0, .int .i64 0, .int .i64 0, .int .i64 0, .int .i64 0, .int .i64 0, .int .i64 0, .int .i64 0, .int .i64 0, .int .i64 0, .int .i64 0, .int .i64 0, .int .i64 0, .int .i64 0, .int .i64 0, .int .i64 0, .int .i64 0, .int .i64 0, .int .i64 0, .int .i64 0, .int .i64 0, .int .i64 0, .int .i64 0, .int .i64 0, .int .i64 0, .int .i64 0, .int .i64 0, .int .i64 0, .int .i64 0, .int .i64 0, .int .i64 0, .int .i64 0] 87)) = .ok () (w.alloc (.cells (vals l).toArray 87)) := by
  have h := run_storeCells_from (P := Try.prog) w.heap.size 87 (vals l) 0 _ (w.alloc (.cells #[.int .i64 0, .int .i64 0, .int .i64 0, .int .i64 0, .int .i64 0, .int .i64 0, .int .i64 0, .int .i64 0, .int .i64 0, .int .i64 0, .int .i64 0, .int .i64 0, .int .i64 0, .int .i64 0, .int .i64 0, .int .i64 0, .int .i64 0, .int .i64 0, .int .i64 0, .int .i64 0, .int .i64 0, .int .i64 0, .int .i64 0, .int .i64 0, .int .i64 0, .int .i64 0, .int .i64 0, .int .i64 0, .int .i64 0, .int .i64 0, .int .i64 0, .int .i64 0] 87)) (heap_alloc_last w _) (by rw [vals_length, hl]; rfl) (vals_one l)
  rw [h, World.setRow_alloc_new]
  rfl
theorem grid_len : ∀ k : Nat, k = 1 ∨ k = 2 → (grid k).length = 32 := by
  rintro k (rfl | rfl) <;> decide +kernel
theorem grid_get {k : Nat} (hk : k = 1 ∨ k = 2) : ∀ {n : Nat}, n < 8 → ∀ {i : Nat}, i < 4 → (grid k).getD (n * 4 + i) 0 = (Sp.crow k n).getD i 0 := by
  have h1 : ∀ n : Nat, n < 8 → ∀ i : Nat, i < 4 → (grid 1).getD (n * 4 + i) 0 = (Sp.crow 1 n).getD i 0 := by decide +kernel
  have h2 : ∀ n : Nat, n < 8 → ∀ i : Nat, i < 4 → (grid 2).getD (n * 4 + i) 0 = (Sp.crow 2 n).getD i 0 := by decide +kernel
  intro n hn i hi
  rcases hk with rfl | rfl
  · exact h1 n hn i hi
  · exact h2 n hn i hi
theorem crow_four {k n : Nat} (hk : k = 1 ∨ k = 2) (hn : n < 8) : ∃ a b c d, Sp.crow k n = [a, b, c, d] ∧ Vec.ok [a, b, c, d] = true := by
  have h := Sp.crow_row hk hn
  obtain ⟨x, y, z, t, e, _⟩ := Vec.ok_four (Sp.row_ok.2 h)
  exact ⟨x, y, z, t, e, by rw [← e]; exact Sp.row_ok.2 h⟩
theorem genYes {k : Nat} (hk : k = 1 ∨ k = 2) (w : World) : Calls Try.prog 79 #[.int .i64 k] w fun e w' => e = .returned (.tuple #[.agg (vals (grid k)).toArray, .bool true]) ∧ w.grownBy w' none := by
  rcases hk with rfl | rfl
  · exact genLocal w
  · exact genWide w
theorem shardIn (n : Int) (h0 : 0 ≤ n) (h1 : n < 8) (w : World) : Calls Try.prog 61 #[.int .i64 n] w fun e w' => e = .returned (.bool true) ∧ w = w' := by
  go_enter Try.func61, Try.ntmps61
  go_wp2_with fail
  go_ret
  exact ⟨rfl, rfl⟩
theorem shardOut (n : Int) (h : n < 0 ∨ 8 ≤ n) (w : World) : Calls Try.prog 61 #[.int .i64 n] w fun e w' => e = .returned (.bool false) ∧ w = w' := by
  rcases h with h | h
  · have h0 : ¬ (0 ≤ n) := by omega
    go_enter Try.func61, Try.ntmps61
    go_wp2_with fail
    go_ret
    exact ⟨rfl, rfl⟩
  · have h0 : 0 ≤ n := by omega
    have h8 : ¬ (n < 8) := by omega
    go_enter Try.func61, Try.ntmps61
    go_wp2_with fail
    go_ret
    exact ⟨rfl, rfl⟩
end Go.Proofs.Ythglkgicckodaaa
namespace Go.Proofs.Ythglkgicckodaaa
open Go.RowKit
set_option linter.unusedVariables false
def kindM (k : Int) : Bool := decide (1 ≤ k) && decide (k ≤ 2)
theorem kindM_yes {k : Nat} (h : k = 1 ∨ k = 2) : kindM k = true := by rcases h with rfl | rfl <;> rfl
theorem kindM_no {k : Int} (h1 : k ≠ 1) (h2 : k ≠ 2) : kindM k = false := by
  unfold kindM
  by_cases h : 1 ≤ k
  · have : ¬ k ≤ 2 := by omega
    simp [this]
  · simp [h]
set_option maxHeartbeats 1000000 in
set_option maxRecDepth 20000 in
theorem specKind (k : Int) (w : World) : Calls Try.prog 71 #[.int .i64 k] w fun e w' => e = .returned (.bool (kindM k)) ∧ w = w' := by
  go_enter Try.func71, Try.ntmps71
  go_wp2_with fail
  refine (specIn k 1 2 _).mono ?_
  rintro e w' ⟨rfl, rfl⟩
  go_wp2_with fail
  go_ret
  exact ⟨rfl, rfl⟩
theorem Arr.newAt {w : World} {g : Nat} {o : Obj} {t : TypeId} {l : List Int} (hg : w.heap.size = g) (ho : o = .cells (vals l).toArray t) : Arr (w.alloc o) g t l := by
  subst hg ho; exact Arr.new w t l
set_option maxHeartbeats 4000000 in
set_option maxRecDepth 20000 in
theorem rowLocal (n : Nat) (hn : n < 8) (w : World) : Calls Try.prog 91 #[.int .i64 1, .int .i64 n] w (NewInts (Sp.crow 1 n) w) := by
  rcases (by omega : n = 0 ∨ n = 1 ∨ n = 2 ∨ n = 3 ∨ n = 4 ∨ n = 5 ∨ n = 6 ∨ n = 7) with rfl | rfl | rfl | rfl | rfl | rfl | rfl | rfl
  all_goals
    go_enter Try.func91, Try.ntmps91
    go_wp2_with fail
    go_ret
    refine ⟨_, rfl, ?_, Arr.own (l := Sp.crow 1 _) ?_ rfl _ (by omega) (by decide)⟩
    · repeat' first | exact World.grownBy.refl _ _ | refine grown_alloc ?_ _
    · repeat' first | exact Arr.newAt (by simp) rfl | refine Arr.alloc ?_ _
set_option maxHeartbeats 4000000 in
set_option maxRecDepth 20000 in
theorem rowWide (n : Nat) (hn : n < 8) (w : World) : Calls Try.prog 91 #[.int .i64 2, .int .i64 n] w (NewInts (Sp.crow 2 n) w) := by
  rcases (by omega : n = 0 ∨ n = 1 ∨ n = 2 ∨ n = 3 ∨ n = 4 ∨ n = 5 ∨ n = 6 ∨ n = 7) with rfl | rfl | rfl | rfl | rfl | rfl | rfl | rfl
  all_goals
    go_enter Try.func91, Try.ntmps91
    go_wp2_with fail
    go_ret
    refine ⟨_, rfl, ?_, Arr.own (l := Sp.crow 2 _) ?_ rfl _ (by omega) (by decide)⟩
    · repeat' first | exact World.grownBy.refl _ _ | refine grown_alloc ?_ _
    · repeat' first | exact Arr.newAt (by simp) rfl | refine Arr.alloc ?_ _
theorem specL4Row {k n : Nat} (hk : k = 1 ∨ k = 2) (hn : n < 8) (w : World) : Calls Try.prog 91 #[.int .i64 k, .int .i64 n] w (NewInts (Sp.crow k n) w) := by
  rcases hk with rfl | rfl
  · exact rowLocal n hn w
  · exact rowWide n hn w
end Go.Proofs.Ythglkgicckodaaa
namespace Go.Proofs.Ythglkgicckodaaa
open Go.RowKit
set_option linter.unusedVariables false
theorem idxG {k : Nat} (hk : k = 1 ∨ k = 2) : ∀ {n : Nat}, n < 8 → ∀ (W : World), (Instr.index 87 (.agg (vals (grid k)).toArray) (.int .i64 n)).run Try.prog W = .ok (.agg (vals (Sp.crow k n)).toArray) W := by
  intro n hn W
  rcases hk with rfl | rfl
  · rcases (by omega : n = 0 ∨ n = 1 ∨ n = 2 ∨ n = 3 ∨ n = 4 ∨ n = 5 ∨ n = 6 ∨ n = 7) with rfl | rfl | rfl | rfl | rfl | rfl | rfl | rfl <;> kernel_rfl
  · rcases (by omega : n = 0 ∨ n = 1 ∨ n = 2 ∨ n = 3 ∨ n = 4 ∨ n = 5 ∨ n = 6 ∨ n = 7) with rfl | rfl | rfl | rfl | rfl | rfl | rfl | rfl <;> kernel_rfl
theorem grown_below' {a w w' : World} {B : Nat} (h : a.grownBy w none) (hb : Below B w w') (hB : a.heap.size ≤ B) : a.grownBy w' none :=
  ⟨hb.os.trans h.os, hb.tape.trans h.tape, hb.output.trans h.output, Nat.le_trans h.size hb.size, fun i hi hr => (hb.block i (by omega)).trans (h.block i hi hr)⟩
def Reduced (k : Nat) (f : List Bool) (w : World) (e : Ending) (w' : World) : Prop :=
  w.grownBy w' none ∧ ∃ b g q S pv pn, e = .returned (.pointer (some ⟨g, 0, none⟩)) ∧ w.heap.size ≤ b ∧ Ech w' b g q S pv (pn.map fun (i : Nat) => (i : Int)) ∧ Sp.Stand (Sp.padd k f) 8 S pn
set_option maxHeartbeats 4000000 in
set_option maxRecDepth 20000 in
theorem genReduce {k : Nat} (hk : k = 1 ∨ k = 2) (f : List Bool) (hf : f.length = 8) (w : World) : Calls Try.prog 117 #[.agg (vals (grid k)).toArray, .agg (bvals f).toArray] w (Reduced k f w) := by
  have GL := grid_len k hk
  have IX := Lib.hid (fun (n : Nat) (h : n < 8) (W : World) => idxG hk h W)
  have z : (vals (grid k)).toArray.size = 32 := by simp [vals_length, GL]
  have hi : (Try.prog.info? 87).map (·.size) = some (vals (grid k)).toArray.size := by rw [z]; kernel_rfl
  have A0 : Hid (Arr (((w.alloc (.cells (vals (grid k)).toArray 87)).alloc (.cells (bvals f).toArray 92)).alloc (.cells #[.pointer none, .pointer none, .pointer none, .pointer none, .slice none 0 0] 160)) w.heap.size 87 (grid k)) := Lib.hid (((Arr.new w _ _).alloc _).alloc _)
  have F0 : Hid (BArr (((w.alloc (.cells (vals (grid k)).toArray 87)).alloc (.cells (bvals f).toArray 92)).alloc (.cells #[.pointer none, .pointer none, .pointer none, .pointer none, .slice none 0 0] 160)) (w.heap.size + 1) 92 f) := Lib.hid (by
    have := (BArr.new (w.alloc (.cells (vals (grid k)).toArray 87)) 92 f).alloc (.cells #[.pointer none, .pointer none, .pointer none, .pointer none, .slice none 0 0] 160)
    rw [World.size_alloc] at this
    exact this)
  have E0 : Hid (Ech (((w.alloc (.cells (vals (grid k)).toArray 87)).alloc (.cells (bvals f).toArray 92)).alloc (.cells #[.pointer none, .pointer none, .pointer none, .pointer none, .slice none 0 0] 160)) (w.heap.size + 2) (w.heap.size + 2) (fun _ => none) (fun _ => none) (.slice none 0 0) []) := Lib.hid (by
    have := heap_alloc_new ((w.alloc (.cells (vals (grid k)).toArray 87)).alloc (.cells (bvals f).toArray 92)) (.cells #[.pointer none, .pointer none, .pointer none, .pointer none, .slice none 0 0] 160)
    rw [World.size_alloc, World.size_alloc] at this
    exact ⟨Nat.le_refl _, this, fun j => .inl ⟨rfl, rfl⟩, fun i j b h => (by cases h), fun j _ => rfl, Own.none_ _ _⟩)
  have G0 : Hid (w.grownBy (((w.alloc (.cells (vals (grid k)).toArray 87)).alloc (.cells (bvals f).toArray 92)).alloc (.cells #[.pointer none, .pointer none, .pointer none, .pointer none, .slice none 0 0] 160)) none) := Lib.hid (grown_alloc (grown_alloc (grown_alloc (World.grownBy.refl _ _) _) _) _)
  have S0 : w.heap.size + 3 ≤ (((w.alloc (.cells (vals (grid k)).toArray 87)).alloc (.cells (bvals f).toArray 92)).alloc (.cells #[.pointer none, .pointer none, .pointer none, .pointer none, .slice none 0 0] 160)).heap.size := by simp
  go_enter Try.func117, Try.ntmps117
  go_upto_region 2 with fail
  generalize ((w.alloc (.cells (vals (grid k)).toArray 87)).alloc (.cells (bvals f).toArray 92)).alloc (.cells #[.pointer none, .pointer none, .pointer none, .pointer none, .slice none 0 0] 160) = W0 at *
  obtain ⟨a, ha⟩ : ∃ a, a = w.heap.size := ⟨_, rfl⟩
  obtain ⟨b, hb⟩ : ∃ b, b = w.heap.size + 1 := ⟨_, rfl⟩
  obtain ⟨g, hg⟩ : ∃ g, g = w.heap.size + 1 + 1 := ⟨_, rfl⟩
  rw [← hb] at F0
  rw [show w.heap.size + 2 = g from hg.symm] at E0
  rw [← hg, ← hb]
  have BG : w.heap.size ≤ g ∧ b < g ∧ g ≤ W0.heap.size := by omega
  rw [← ha] at A0 ⊢
  clear ha hb hg S0
  generalize hgr : grid k = l at *
  clear hgr
  apply wp_region_lit
  refine wpList_load_row rfl _ _ rfl a rfl _ _ _ _ A0.out Try.underlying87 rfl hi ?_
  clear z hi A0 GL
  go_wp2_with fail
  go_loopw [11] (fun i wr => ∃ n : Nat, n ≤ 8 ∧ i = .int .i64 n ∧ w.grownBy wr none ∧ g ≤ wr.heap.size ∧ BArr wr b 92 f ∧ ∃ q S pv pn, Ech wr g g q S pv (pn.map fun (i : Nat) => (i : Int)) ∧ Sp.Stand (Sp.padd k f) n S pn) (fun i _ => 8 - (intOf i).toNat)
  case atStart => exact ⟨0, by omega, rfl, G0.out, BG.2.2, F0.out, _, _, _, [], E0.out, Sp.Stand.start _⟩
  case round =>
    obtain ⟨n, hn, rfl, hgr, hsz, hfl, q, S, pv, pn, he, hst⟩ := hrel
    have G := Lib.hid hgr
    have F := Lib.hid hfl
    have E := Lib.hid he
    have ST := Lib.hid hst
    clear hgr hfl he hst E0 F0 G0
    by_cases hlt : n < 8
    · have hlt' : (n : Int) < 8 := by omega
      obtain ⟨x, y, z, t, hc, hok⟩ := crow_four hk hlt
      have ix0 := IX.out n hlt wr
      rw [hc] at ix0
      have ix : (Instr.index 87 (.agg (vals l).toArray) (.int .i64 n)).run Try.prog wr = .ok (.agg #[.int .i64 x, .int .i64 y, .int .i64 z, .int .i64 t]) wr := ix0
      clear ix0
      have HC := Lib.hid hc
      clear hc hok
      have fl : wr.cell? ⟨b, n, none⟩ = some (.bool (f.getD n false)) := F.out.cell (by omega)
      have FL := F.out.lt
      cases hfn : f.getD n false with
      | false =>
        rw [hfn] at fl
        have ST1 := Lib.hid (ST.out.none_ hk hlt hfn)
        clear hfn
        have G1 := Lib.hid (grown_alloc G.out (.cells (vals [x, y, z, t]).toArray 68))
        have F1 := Lib.hid (F.out.alloc (.cells (vals [x, y, z, t]).toArray 68))
        have E1 := Lib.hid (E.out.grown (World.grownBy_alloc wr (.cells (vals [x, y, z, t]).toArray 68) none))
        clear G F E ST
        go_wp2_with fail
        go_roundw
        case rel => exact ⟨n + 1, by omega, by go_num, G1.out, by simp; omega, F1.out, q, S, pv, pn, E1.out, ST1.out⟩
        case measure => simp [intOf]; omega
      | true =>
        rw [hfn] at fl
        have HV : Hid ((Sp.padd k f).getD n [] = [x, y, z, t]) := Lib.hid (by rw [Sp.padd_get hlt, hfn]; exact HC.out)
        clear hfn
        have G1 := Lib.hid (grown_alloc G.out (.cells (vals [x, y, z, t]).toArray 68))
        have F1 := Lib.hid (F.out.alloc (.cells (vals [x, y, z, t]).toArray 68))
        have E1 := Lib.hid (E.out.grown (World.grownBy_alloc wr (.cells (vals [x, y, z, t]).toArray 68) none))
        have sz : g ≤ (wr.alloc (.cells (vals [x, y, z, t]).toArray 68)).heap.size := by simp; omega
        have SZ := Lib.hid sz
        clear G F E sz
        go_wp2_with fail
        change Calls _ _ _ (wr.alloc (.cells (vals [x, y, z, t]).toArray 68)) _
        clear fl ix
        generalize wr.alloc (.cells (vals [x, y, z, t]).toArray 68) = w1 at *
        refine (echTake g g n q S pv pn (Sp.padd k f) x y z t _ E1.out SZ.out ST.out (Sp.padd_row hk f) (by rw [Sp.padd_len]; exact hlt) (by rw [Sp.padd_len]; exact Nat.le_refl _) HV.out).mono ?_
        rintro e w4 ⟨rfl, hbl, q', S', pv', pn', he, hst⟩
        have G4 := Lib.hid (grown_below' G1.out hbl BG.1)
        have F4 : Hid (BArr w4 b 92 f) := Lib.hid ((hbl.block b BG.2.1).trans F1.out)
        have E4 := Lib.hid he
        have ST4 := Lib.hid hst
        have Z4 := Nat.le_trans SZ.out hbl.size
        clear hbl he hst E1 G1 F1 SZ ST
        go_wp2_with fail
        go_roundw
        case rel => exact ⟨n + 1, by omega, by go_num, G4.out, Z4, F4.out, q', S', pv', pn', E4.out, ST4.out⟩
        case measure => simp [intOf]; omega
    · obtain rfl : n = 8 := by omega
      go_wp2_with fail
      go_ret
      exact ⟨G.out, g, g, q, S, pv, pn, rfl, BG.1, E.out, ST.out⟩
end Go.Proofs.Ythglkgicckodaaa
namespace Go.Proofs.Ythglkgicckodaaa
open Go.RowKit
set_option linter.unusedVariables false
theorem stand_bears {k : Nat} (hk : k = 1 ∨ k = 2) {f : List Bool} {S : Sp.Cols} {pn : List Nat} (h : Sp.Stand (Sp.padd k f) 8 S pn) : Sp.bears k f = (pn.length == 4) := by
  have e := h.first
  rw [List.take_of_length_le (by rw [Sp.padd_len]; exact Nat.le_refl _)] at e
  rw [Sp.padd_bears hk f, ← e]
set_option maxHeartbeats 4000000 in
set_option maxRecDepth 20000 in
theorem genBears {k : Nat} (hk : k = 1 ∨ k = 2) (f : List Bool) (hf : f.length = 8) (w : World) : Calls Try.prog 103 #[.agg (vals (grid k)).toArray, .agg (bvals f).toArray] w fun e w' => e = .returned (.bool (Sp.bears k f)) ∧ w.grownBy w' none := by
  have GL := grid_len k hk
  have z : (vals (grid k)).toArray.size = 32 := by simp [vals_length, GL]
  have z8 : (bvals f).toArray.size = 8 := by simp [bvals_length, hf]
  have hi : (Try.prog.info? 87).map (·.size) = some (vals (grid k)).toArray.size := by rw [z]; kernel_rfl
  have hj : (Try.prog.info? 92).map (·.size) = some (bvals f).toArray.size := by rw [z8]; kernel_rfl
  have A0 : Hid (Arr ((w.alloc (.cells (vals (grid k)).toArray 87)).alloc (.cells (bvals f).toArray 92)) w.heap.size 87 (grid k)) := Lib.hid ((Arr.new w _ _).alloc _)
  have F0 : Hid (BArr ((w.alloc (.cells (vals (grid k)).toArray 87)).alloc (.cells (bvals f).toArray 92)) (w.heap.size + 1) 92 f) := Lib.hid (by
    have := BArr.new (w.alloc (.cells (vals (grid k)).toArray 87)) 92 f
    rw [World.size_alloc] at this
    exact this)
  have G0 : Hid (w.grownBy ((w.alloc (.cells (vals (grid k)).toArray 87)).alloc (.cells (bvals f).toArray 92)) none) := Lib.hid (grown_alloc (grown_alloc (World.grownBy.refl _ _) _) _)
  go_enter Try.func103, Try.ntmps103
  go_upto_region 1 with fail
  apply wp_region_lit
  refine wpList_load_row rfl _ _ rfl w.heap.size rfl _ _ _ _ A0.out Try.underlying87 rfl hi ?_
  refine wpList_load_row rfl _ _ rfl (w.heap.size + 1) rfl _ _ _ _ F0.out Try.underlying92 rfl hj ?_
  have GR := Lib.hid (fun w => genReduce hk f hf w)
  clear GL z z8 hi hj A0 F0 hf
  generalize (w.alloc (.cells (vals (grid k)).toArray 87)).alloc (.cells (bvals f).toArray 92) = W0 at *
  generalize vals (grid k) = gv at *
  generalize bvals f = fv at *
  go_wp2_with fail
  refine (GR.out _).mono ?_
  rintro e w1 ⟨hg, b, g, q, S, pv, pn, rfl, hb, he, hst⟩
  have G1 := Lib.hid (grown_trans G0.out hg)
  have BE := Lib.hid (stand_bears hk hst)
  obtain ⟨pa, pc, hpv, _, _, _⟩ := he.own.sl
  have c4 := he.blk.cell (i := 4) (v := pv) rfl
  rw [hpv] at c4
  have ln : (pn.map fun (i : Nat) => (i : Int)).length = pn.length := List.length_map ..
  rw [ln] at c4
  clear hg hb he hst hpv ln G0 GR
  generalize pn.length = m at *
  go_wp2_with fail
  go_ret
  refine ⟨ret_bool ?_, G1.out⟩
  rw [BE.out]
  by_cases h4 : m = 4
  · subst h4; rfl
  · have h1 : (m == 4) = false := by rw [beq_eq_false_iff_ne]; exact h4
    have h2 : ((m : Int) == 4) = false := by rw [beq_eq_false_iff_ne]; omega
    rw [h1, h2]
set_option maxHeartbeats 4000000 in
set_option maxRecDepth 20000 in
theorem flagsYes (v : Value) (b0 b1 b2 b3 b4 b5 b6 b7 : Bool) (w : World) (h : Bl w v [b0, b1, b2, b3, b4, b5, b6, b7]) :
    Calls Try.prog 81 #[v] w fun e w' => e = .returned (.tuple #[.agg (bvals [b0, b1, b2, b3, b4, b5, b6, b7]).toArray, .bool true]) ∧ w.grownBy w' none := by
  obtain ⟨a, cap, rfl, h1, h2, hr⟩ := h
  rcases hr with hr | ⟨b, o, rfl, hr⟩
  · cases hr
  unfold maxLen at h2
  have hlt := lt_of_cell (hr 0 (by simp))
  have c0 : w.cell? ⟨b, o, none⟩ = some (.bool b0) := hr 0 (by simp)
  have c1 : w.cell? ⟨b, o + 1, none⟩ = some (.bool b1) := hr 1 (by simp)
  have c2 : w.cell? ⟨b, o + 2, none⟩ = some (.bool b2) := hr 2 (by simp)
  have c3 : w.cell? ⟨b, o + 3, none⟩ = some (.bool b3) := hr 3 (by simp)
  have c4 : w.cell? ⟨b, o + 4, none⟩ = some (.bool b4) := hr 4 (by simp)
  have c5 : w.cell? ⟨b, o + 5, none⟩ = some (.bool b5) := hr 5 (by simp)
  have c6 : w.cell? ⟨b, o + 6, none⟩ = some (.bool b6) := hr 6 (by simp)
  have c7 : w.cell? ⟨b, o + 7, none⟩ = some (.bool b7) := hr 7 (by simp)
  clear hr
  simp only [List.length_cons, List.length_nil] at h1 ⊢
  have hat : ∀ W, (Instr.arrayAt 92 (.slice (some ⟨b, o, none⟩) 8 cap)).run Try.prog W = .ok (.pointer (some ⟨b, o, none⟩)) W := fun W => run_arrayAt W 92 _ 8 _ 8 cap Try.underlying92 (Nat.le_refl _)
  go_enter Try.func81, Try.ntmps81
  go_wp2_with fail
  refine bodyPost_ret (v := .tuple #[.agg #[.bool b0, .bool b1, .bool b2, .bool b3, .bool b4, .bool b5, .bool b6, .bool b7], .bool true]) (by simp [results, Try.results81, go_sem]) rfl ⟨rfl, ?_⟩
  repeat' first | exact World.grownBy.refl _ _ | refine grown_alloc ?_ _ | refine grown_set ?_ (by simp) _
set_option maxHeartbeats 4000000 in
set_option maxRecDepth 20000 in
theorem flagsNo (v : Value) (l : List Bool) (w : World) (h : Bl w v l) (hl : l.length ≠ 8) :
    Calls Try.prog 81 #[v] w fun e w' => e = .returned (.tuple #[.agg (bvals [false, false, false, false, false, false, false, false]).toArray, .bool false]) ∧ w.grownBy w' none := by
  obtain ⟨a, cap, rfl, h1, h2, hr⟩ := h
  unfold maxLen at h2
  have hne : ((l.length : Int) != 8) = true := by rw [bne_iff_ne]; omega
  clear hr hl
  go_enter Try.func81, Try.ntmps81
  go_wp2_with fail
  refine bodyPost_ret (v := .tuple #[.agg #[.bool false, .bool false, .bool false, .bool false, .bool false, .bool false, .bool false, .bool false], .bool false]) (by simp [results, Try.results81, go_sem]) rfl ⟨rfl, ?_⟩
  repeat' first | exact World.grownBy.refl _ _ | refine grown_alloc ?_ _ | refine grown_set ?_ (by simp) _
end Go.Proofs.Ythglkgicckodaaa
namespace Go.Proofs.Ythglkgicckodaaa
open Go.RowKit
set_option linter.unusedVariables false
theorem list_eight {α : Type} {l : List α} (h : l.length = 8) : ∃ a b c d e f g i, l = [a, b, c, d, e, f, g, i] := by
  match l, h with
  | [a, b, c, d, e, f, g, i], _ => exact ⟨a, b, c, d, e, f, g, i, rfl⟩
def bearsM (k : Int) (f : List Bool) : Bool := (decide (k = 1) || decide (k = 2)) && decide (f.length = 8) && Sp.bears k.toNat f
theorem bearsM_yes {k : Nat} (hk : k = 1 ∨ k = 2) {f : List Bool} (hf : f.length = 8) : bearsM k f = Sp.bears k f := by
  rcases hk with rfl | rfl <;> simp [bearsM, hf]
theorem bearsM_short {k : Int} {f : List Bool} (hf : f.length ≠ 8) : bearsM k f = false := by simp [bearsM, hf]
theorem bearsM_no {k : Int} (h1 : k ≠ 1) (h2 : k ≠ 2) (f : List Bool) : bearsM k f = false := by simp [bearsM, h1, h2]
theorem kind_cases (k : Int) : (∃ n : Nat, k = n ∧ (n = 1 ∨ n = 2)) ∨ (k ≠ 1 ∧ k ≠ 2) := by
  by_cases h1 : k = 1
  · exact .inl ⟨1, h1, .inl rfl⟩
  · by_cases h2 : k = 2
    · exact .inl ⟨2, h2, .inr rfl⟩
    · exact .inr ⟨h1, h2⟩
end Go.Proofs.Ythglkgicckodaaa
namespace Go.Proofs.Ythglkgicckodaaa
open Go.RowKit
set_option linter.unusedVariables false
def crowsK (k : Nat) (f : List Bool) (n : Nat) : List (List Int) := ((List.range n).filter fun i => f.getD i false).map (Sp.crow k)
theorem crowsK_yes {k : Nat} {f : List Bool} {n : Nat} (h : f.getD n false = true) : crowsK k f n ++ [Sp.crow k n] = crowsK k f (n + 1) := by
  unfold crowsK
  simp only [List.range_succ, List.filter_append, List.map_append]
  congr 1
  simp only [List.filter_cons, h]
  rfl
theorem crowsK_no {k : Nat} {f : List Bool} {n : Nat} (h : f.getD n false = false) : crowsK k f (n + 1) = crowsK k f n := by
  unfold crowsK
  simp only [List.range_succ, List.filter_append, List.map_append]
  simp only [List.filter_cons, h]
  simp
theorem crowsK_len (k : Nat) (f : List Bool) (n : Nat) : (crowsK k f n).length ≤ n := by
  unfold crowsK
  rw [List.length_map]
  have := List.length_filter_le (fun i => f.getD i false) (List.range n)
  rwa [List.length_range] at this
set_option maxHeartbeats 2000000 in
set_option maxRecDepth 20000 in
theorem specL4Rows {k : Nat} (hk : k = 1 ∨ k = 2) (v : Value) (f : List Bool) (w : World) (h : Bl w v f) (hf : f.length = 8) : Calls Try.prog 112 #[.int .i64 k, v] w (NewSTab w.heap.size (Sp.crows k f) w) := by
  obtain ⟨i0, hi, hz0, hz1, hz2⟩ := info_parts infoInts
  have I1 := Lib.hid hi
  have I2 := Lib.hid hz0
  have I3 := Lib.hid hz1
  have I4 := Lib.hid hz2
  clear hi hz0 hz1 hz2
  obtain ⟨a, cap, rfl, h1, h2, hr⟩ := h
  rw [hf] at h1 ⊢
  unfold maxLen at h2
  have R := Lib.hid hr
  have HF := Lib.hid hf
  clear hr hf
  have M0 := Lib.hid (STab.made w w.heap.size (Nat.le_refl _))
  have RW := Lib.hid (fun (n : Nat) (h : n < 8) (w : World) => specL4Row hk h w)
  go_enter Try.func112, Try.ntmps112
  go_wp2_with fail
  go_loopw [5, 6] (fun o i wr => ∃ n : Nat, n ≤ 8 ∧ i = .int .i64 n ∧ w.grownBy wr none ∧ ∃ vs, STab wr w.heap.size o vs (crowsK k f n)) (fun _ i _ => 8 - (intOf i).toNat)
  case atStart => exact ⟨0, by omega, rfl, grown_alloc (World.grownBy.refl _ _) _, [], M0.out⟩
  case round =>
    obtain ⟨n, hn, rfl, hg, vs, ho⟩ := hrel
    have GR := Lib.hid hg
    have O := Lib.hid ho
    clear hg ho M0
    by_cases hlt : n < 8
    · have hlt' : (n : Int) < 8 := by omega
      obtain ⟨b, o, rfl, hx⟩ := (R.out.grown GR.out).at_ (k := n) (by rw [HF.out]; exact hlt)
      cases hfn : f.getD n false with
      | false =>
        rw [hfn] at hx
        have CK := Lib.hid (crowsK_no (k := k) hfn)
        clear hfn
        go_wp2_with fail
        go_roundw
        case rel => exact ⟨n + 1, by omega, by go_num, GR.out, vs, by rw [CK.out]; exact O.out⟩
        case measure => simp [intOf]; omega
      | true =>
        rw [hfn] at hx
        have CK := Lib.hid (crowsK_yes (k := k) hfn)
        have vl : vs.length ≤ 8 := by
          have := crowsK_len k f n
          rw [← O.out.len] at this
          omega
        clear hfn
        have r4 := (Sp.crow_row hk hlt).1
        have C4 := Lib.hid r4
        clear r4
        have hsz : w.heap.size ≤ wr.heap.size := GR.out.size
        have RN := Lib.hid (RW.out n hlt)
        generalize Sp.crow k n = row at *
        go_wp2_with fail
        refine (RN.out _).mono ?_
        rintro e w3 ⟨u, rfl, hg, ho⟩
        have G3 := Lib.hid hg
        have R3 : Hid (Sl w3 u row ∧ IntRow w3 u) := Lib.hid ⟨ho.sl, ho.intRow⟩
        have TOP : Hid (w3.ownsRow w.heap.size 23 1 u5 vs.length vs) := Lib.hid (O.out.still hg).top
        obtain ⟨au, cu, eu, _, _, _⟩ := ho.sl
        rw [C4.out] at eu
        clear hg ho hx
        subst eu
        have s3 : w.heap.size ≤ w3.heap.size := Nat.le_trans hsz G3.out.size
        go_wp2_with (first
          | (at_builtin; refine wpList_append_own _ rfl _ _ 126 rfl w.heap.size 23 i0 (.slice none 0 0) 1 24 Try.underlying126 I1.out I2.out I3.out I4.out rfl (by decide) _ _ _ rfl (World.ownsRow.alloc TOP.out _) ⟨w3.heap.size, 0, none⟩ 1 1 [.slice au 4 cu] rfl rfl (one_cell (g := 0)) (by simp [Value.oneCell']) ?c3 ?c4 ?c5 ?_))
        case c3 => unfold maxLen; omega
        case c4 => omega
        case c5 => simp; omega
        intro o' w5 ho2 hg2 _
        have N : Hid (STab w5 w.heap.size o' (vs ++ [.slice au 4 cu]) (crowsK k f (n + 1))) := Lib.hid (O.out.snoc G3.out R3.out (grown_trans (World.grownBy_alloc _ _ _) hg2) ho2 rfl CK.out)
        have G5 : Hid (w.grownBy w5 none) := Lib.hid (grown_own (grown_alloc (grown_trans GR.out G3.out) _) hg2 (fun j hj => (World.ownsRow.lt TOP.out j hj).1))
        clear ho2 hg2 TOP R3 G3
        go_wp2_with fail
        go_roundw
        case rel => exact ⟨n + 1, by omega, by go_num, G5.out, _, N.out⟩
        case measure => simp [intOf]; omega
    · obtain rfl : n = 8 := by omega
      go_wp2_with fail
      go_ret
      exact ⟨_, vs, rfl, GR.out, O.out⟩
set_option maxHeartbeats 2000000 in
set_option maxRecDepth 20000 in
theorem specBears (k : Int) (v : Value) (f : List Bool) (w : World) (h : Bl w v f) : Calls Try.prog 95 #[.int .i64 k, v] w fun e w' => e = .returned (.bool (bearsM k f)) ∧ w.grownBy w' none := by
  obtain ⟨a, cap, rfl, h1, h2, hr⟩ := id h
  have B := Lib.hid h
  unfold maxLen at h2
  clear h hr
  rcases kind_cases k with ⟨n, rfl, hn⟩ | ⟨k1, k2⟩
  · have K := kindM_yes hn
    by_cases hf : f.length = 8
    · rw [bearsM_yes hn hf]
      have L4 := Lib.hid (specL4Rows hn _ f w B.out hf)
      have TR := Lib.hid (Sp.crows_row hn f)
      have BD : Hid (Sp.bears n f = ((Sp.ltidy (Sp.crows n f)).length == 4)) := Lib.hid rfl
      have e8 : ((f.length : Int) == 8) = true := by rw [beq_iff_eq]; omega
      clear hf
      go_enter Try.func95, Try.ntmps95
      go_wp2_with fail
      refine (specKind n _).mono ?_
      rintro e w' ⟨rfl, rfl⟩
      rw [K]
      go_wp2_with fail
      refine L4.out.mono ?_
      rintro e w2 ⟨o2, vs2, rfl, hg, hst⟩
      have G2 := Lib.hid hg
      have T2 := Lib.hid hst.tab
      clear hg hst L4
      go_wp2_with fail
      refine (specL3Tidy o2 vs2 _ _ T2.out TR.out).mono ?_
      rintro e w3 ⟨o3, vs3, rfl, hg, hst⟩
      have G3 := Lib.hid (grown_trans G2.out hg)
      obtain ⟨a3, c3, rfl, hc1, hc2⟩ := stab_form hst
      clear hg hst T2 TR G2
      unfold maxLen at hc2
      generalize (Sp.ltidy (Sp.crows n f)).length = m at *
      go_wp2_with fail
      go_ret
      refine ⟨ret_bool ?_, G3.out⟩
      rw [BD.out]
      by_cases h4 : m = 4
      · subst h4; rfl
      · have e1 : (m == 4) = false := by rw [beq_eq_false_iff_ne]; exact h4
        have e2 : ((m : Int) == 4) = false := by rw [beq_eq_false_iff_ne]; omega
        rw [e1, e2]
    · rw [bearsM_short hf]
      have e8 : ((f.length : Int) == 8) = false := by rw [beq_eq_false_iff_ne]; omega
      clear hf
      go_enter Try.func95, Try.ntmps95
      go_wp2_with fail
      refine (specKind n _).mono ?_
      rintro e w' ⟨rfl, rfl⟩
      rw [K]
      go_wp2_with fail
      go_ret
      exact ⟨rfl, World.grownBy.refl _ _⟩
  · rw [bearsM_no k1 k2]
    have K := kindM_no k1 k2
    clear k1 k2
    go_enter Try.func95, Try.ntmps95
    go_wp2_with fail
    refine (specKind k _).mono ?_
    rintro e w' ⟨rfl, rfl⟩
    rw [K]
    go_wp2_with fail
    go_ret
    exact ⟨rfl, World.grownBy.refl _ _⟩
end Go.Proofs.Ythglkgicckodaaa
namespace Go.Proofs.Ythglkgicckodaaa
open Go.RowKit
set_option linter.unusedVariables false
end Go.Proofs.Ythglkgicckodaaa
namespace Go.Proofs.Ythglkgicckodaaa
open Go.RowKit
set_option linter.unusedVariables false
theorem Arr.range {w : World} {g : Nat} {t : TypeId} {l : List Int} (h : Arr w g t l) : w.rangeAt g 0 (vals l) := fun j v hv => by
  rw [cell_of_row w g (0 + j) _ t (0, 0) h]; simpa using hv
end Go.Proofs.Ythglkgicckodaaa
namespace Go.Proofs.Ythglkgicckodaaa
open Go.RowKit
set_option linter.unusedVariables false
end Go.Proofs.Ythglkgicckodaaa
namespace Go.Proofs.Ythglkgicckodaaa
open Go.RowKit
set_option linter.unusedVariables false
end Go.Proofs.Ythglkgicckodaaa
namespace Go.Proofs.Ythglkgicckodaaa
open Go.RowKit
set_option linter.unusedVariables false
end Go.Proofs.Ythglkgicckodaaa
namespace Go.Proofs.Ythglkgicckodaaa
open Go.RowKit
set_option linter.unusedVariables false
end Go.Proofs.Ythglkgicckodaaa
