/-
  The contracts of the model's drawing of rows: from whatever bytes they come, what is drawn is a slice of three to five integers from -1 to 31 in memory of its own, and nothing that was there is changed.
  Conditions: none.
-/
import Derived.Test.YtdbajokjhllekaaDrawField
import Derived.Test.YtdbajokjhllekaaInts
import Derived.Test.YtdbajokjhllekaaHelp
import Derived.Test.YtdbajokjhllekaaVecSpec
import Derived.ArgAppend
namespace Go.Proofs.Ytdbajokjhllekaa
open Go.RowKit
set_option linter.unusedVariables false

theorem quietSum (a b : Int) (w : World) (n : Nat) : Calls Try.prog 33 #[.int .i64 a, .int .i64 b] (w.drewN n) fun e w' => e = .returned (.int .i64 (Fld.sum a b)) ∧ ∃ m, w' = w.drewN m :=
  (implSum a b _).mono fun _ _ ⟨h1, h2⟩ => ⟨h1, n, h2.symm⟩

theorem quietMul (a b : Int) (w : World) (n : Nat) : Calls Try.prog 52 #[.int .i64 a, .int .i64 b] (w.drewN n) fun e w' => e = .returned (.int .i64 (Fld.mul a b)) ∧ ∃ m, w' = w.drewN m :=
  (implMul a b _).mono fun _ _ ⟨h1, h2⟩ => ⟨h1, n, h2.symm⟩

theorem far_grown {c : Nat} {w w' : World} (h : Far c w w') : w.grownBy w' (some c) := ⟨h.os, h.tape, h.output, h.size, fun k hk hc => h.block k hk (fun e => hc (by rw [e]))⟩
theorem Own.far {w w' : World} {base c : Nat} {v : Value} {l : List Int} (h : Own w base v l) (hf : Far c w w') (hc : c < base) : Own w' base v l :=
  h.kept (far_grown hf) (.inr fun e => by have := (World.ownsRow.lt h c e).1; omega)
theorem Arr.farr {w w' : World} {g c : Nat} {t : TypeId} {l : List Int} (h : Arr w g t l) (hf : Far c w w') (hc : g ≠ c) : Arr w' g t l := h.kept (far_grown hf) (fun e => hc (by injection e))
theorem Far.own {w w' : World} {c : Nat} {a : World} {r : Option Nat} (h : Far c a w) (hg : w.grownBy w' r) (hr : ∀ k, r = some k → a.heap.size ≤ k) : Far c a w' :=
  ⟨hg.os.trans h.os, hg.tape.trans h.tape, hg.output.trans h.output, Nat.le_trans h.size hg.size, fun k hk hc => (hg.block k (Nat.lt_of_lt_of_le hk h.size) (fun e => by have := hr k e.symm; omega)).trans (h.block k hk hc)⟩

/-- 'numbers from -1 to 31', of which all but the ends are numbers of the field. -/
def Near (l : List Int) : Prop := ∀ x ∈ l, -1 ≤ x ∧ x ≤ 31
theorem Near.snoc {l : List Int} (h : Near l) {x : Int} (h0 : -1 ≤ x) (h1 : x ≤ 31) : Near (l ++ [x]) := by
  intro y hy
  rcases List.mem_append.1 hy with hy | hy
  · exact h y hy
  · simp at hy; subst hy; exact ⟨h0, h1⟩
theorem Near.set {l : List Int} (h : Near l) {i : Nat} {x : Int} (h0 : -1 ≤ x) (h1 : x ≤ 31) : Near (l.set i x) := by
  intro y hy
  rcases List.mem_or_eq_of_mem_set hy with hy | rfl
  · exact h y hy
  · exact ⟨h0, h1⟩

/-- where the drawing of a row stands: k are drawn. -/
structure Drawing (c p : Nat) (w : World) (k : Nat) (v : Value) (wr : World) : Prop where
  far : Far c w wr
  rd : Rd wr c (p + 4 * k)
  own : ∃ l : List Int, l.length = k ∧ Near l ∧ Own wr w.heap.size v l

theorem below_four {m : Int} (h0 : 0 ≤ m) (h1 : m < 4) : ∃ j : Nat, j < 4 ∧ m = j := ⟨m.toNat, by omega, by omega⟩
theorem pick4 {m1 m2 m3 : Int} (a0 : 0 ≤ m1) (a1 : m1 < 4) (b0 : 0 ≤ m2) (b1 : m2 < 31) (c0 : 0 ≤ m3) (c1 : m3 < 31) {j : Nat} (hj : j < 4) : 0 ≤ [0, m1, m2, m3].getD j 0 ∧ [0, m1, m2, m3].getD j 0 ≤ 30 := by
  match j, hj with
  | 0, _ => simp
  | 1, _ => simp; omega
  | 2, _ => simp; omega
  | 3, _ => simp; omega

theorem four_of {l : List Int} (h : l.length = 4) : ∃ x y z t, l = [x, y, z, t] := by
  match l, h with
  | [x, y, z, t], _ => exact ⟨x, y, z, t, rfl⟩
theorem Own.four {w : World} {base : Nat} {v : Value} {l : List Int} (h : Own w base v l) (h4 : l.length = 4) :
    ∃ g cap, v = .slice (some ⟨g, 0, none⟩) 4 cap ∧ base ≤ g ∧ g < w.heap.size ∧ 4 ≤ cap ∧ cap ≤ maxLen ∧ (∀ j, j < 4 → w.cell? ⟨g, j, none⟩ = some (.int .i64 (l.getD j 0))) ∧ ∀ j, w.frozen? ⟨g, j, none⟩ = false := by
  have hs := h.sl
  unfold Own at h
  rw [h4] at h
  rcases h.2 with ⟨_, h0⟩ | ⟨g, cap, cur, rfl, hb, hg, h1, h2, h3, ht⟩
  · omega
  · refine ⟨g, cap, rfl, hb, (Array.getElem?_eq_some_iff.1 hg).1, h1, h2, fun j hj => ?_, fun j => World.ownsRow.frozenAt h j⟩
    have hc := World.ownsRow.cells h (g := g) rfl j _ (vals_get l j (by omega))
    rw [Addr.add_lit] at hc
    simpa using hc
theorem Own.put4 {w : World} {base : Nat} {g cap : Nat} {l : List Int} (h : Own w base (.slice (some ⟨g, 0, none⟩) 4 cap) l) (h4 : l.length = 4) (j : Nat) (x : Int) :
    Own (w.setCell ⟨g, j, none⟩ (.int .i64 x)) base (.slice (some ⟨g, 0, none⟩) 4 cap) (l.set j x) := by
  unfold Own at h
  rw [h4] at h
  have hs := World.ownsRow.stored h j (.int .i64 x)
  refine own_len (n := 4) ?_ (by rw [List.length_set]; exact h4)
  rw [← vals_set]
  exact hs.1
/-- a row without its first. -/
theorem Own.tail {w : World} {base : Nat} {g cap : Nat} {l : List Int} (h : Own w base (.slice (some ⟨g, 0, none⟩) 4 cap) l) (h4 : l.length = 4) :
    Sl w (.slice (some ⟨g, 1, none⟩) 3 (cap - 1)) l.tail := by
  obtain ⟨g', cap', e, _, _, h1, h2, hc, _⟩ := h.four h4
  injection e with e1 e2 e3
  injection e1 with e1
  injection e1 with e1
  subst e1 e3
  have e3 : l.tail.length = 3 := by rw [List.length_tail]; omega
  refine ⟨some ⟨g, 1, none⟩, cap - 1, by rw [e3], by omega, by omega, .inr ⟨g, 1, rfl, fun i hi => ?_⟩⟩
  rw [Nat.add_comm 1 i, hc (i + 1) (by omega)]
  congr 2
  obtain ⟨x, y, z, t, rfl⟩ := four_of h4
  rfl

/-- a slice that reads as a list, its cells in blocks from B on. -/
def SlUp (w : World) (B : Nat) (v : Value) (l : List Int) : Prop := Sl w v l ∧ ∀ x n cap, v = .slice (some x) n cap → B ≤ x.block
theorem SlUp.far {w w' : World} {B c : Nat} {v : Value} {l : List Int} (h : SlUp w B v l) (hf : Far c w w') (hc : c < B) : SlUp w' B v l := by
  refine ⟨?_, h.2⟩
  obtain ⟨a, cap, rfl, h1, h2, hr⟩ := h.1
  refine ⟨a, cap, rfl, h1, h2, ?_⟩
  rcases hr with h0 | ⟨b, o, rfl, hr⟩
  · exact .inl h0
  · have hb : B ≤ b := h.2 _ _ _ rfl
    refine .inr ⟨b, o, rfl, fun i hi => ?_⟩
    have hx := hr i hi
    exact (hf.cell (p := ⟨b, o + i, none⟩) (lt_of_cell hx) (by show b ≠ c; omega)).trans hx
theorem slUp_at {B g o n cap : Nat} (h : B ≤ g) : ∀ x m k, Value.slice (some ⟨g, o, none⟩) n cap = .slice (some x) m k → B ≤ x.block := by
  intro x m k e
  injection e with e
  injection e with e
  subst e
  exact h

/-- a slice over a block of integers, whole up to its capacity, none frozen. -/
def RowAt (w : World) (v : Value) : Prop := ∃ g o n cap cur, v = .slice (some ⟨g, o, none⟩) n cap ∧ w.heap[g]? = some (.cells cur 3 (0, 0)) ∧ cur.size = o + cap
theorem Own.rowAt {w : World} {base : Nat} {v : Value} {l : List Int} (h : Own w base v l) (hl : 0 < l.length) : RowAt w v := by
  rcases h.2 with ⟨_, h0⟩ | ⟨g, cap, cur, rfl, _, hg, _, _, hc, _⟩
  · omega
  · exact ⟨g, 0, _, cap, cur, rfl, hg, by omega⟩
theorem RowAt.tail {w : World} {g n cap : Nat} (h : RowAt w (.slice (some ⟨g, 0, none⟩) n cap)) (hc : 1 ≤ cap) (m : Nat) : RowAt w (.slice (some ⟨g, 1, none⟩) m (cap - 1)) := by
  obtain ⟨g', o, n', cap', cur, e, hg, hs⟩ := h
  injection e with e1 e2 e3
  injection e1 with e1
  injection e1 with e1 e4
  subst e1 e3 e4
  exact ⟨g, 1, m, cap - 1, cur, rfl, hg, by omega⟩

/-- what drawing a row leaves: a slice that reads as a list, in new memory. -/
def DrawnRow (c p : Nat) (w : World) (e : Ending) (w' : World) : Prop :=
  ∃ v l, e = .returned v ∧ Near l ∧ Far c w w' ∧ SlUp w' w.heap.size v l ∧ l.length ≤ 4 ∧ Rd w' c (p + 20) ∧ RowAt w' v

set_option maxHeartbeats 2000000 in
set_option maxRecDepth 20000 in
theorem drawRow (c p : Nat) (w : World) (h : Rd w c p) (hp : p ≤ 900000) : Calls Try.prog 79 #[.pointer (some ⟨c, 0, none⟩)] w (DrawnRow c p w) := by
  have hcw := h.lt
  have H := Lib.hid h
  clear h
  obtain ⟨i0, hi, hz0, hz1, hz2⟩ := info_parts infoInt
  have I1 := Lib.hid hi
  have I2 := Lib.hid hz0
  have I3 := Lib.hid hz1
  have I4 := Lib.hid hz2
  clear hi hz0 hz1 hz2
  go_enter Try.func79, Try.ntmps79
  go_wp2_with fail
  go_loopw [3, 4] (fun v i wr => ∃ k : Nat, k ≤ 4 ∧ i = .int .i64 k ∧ Drawing c p w k v wr) (fun _ i _ => 4 - (intOf i).toNat)
  case atStart => exact ⟨0, by omega, rfl, Far.alloc _ _, (H.out.alloc _).mono (by omega), [], rfl, (by intro x hx; cases hx), Own.made w w.heap.size [] (Nat.le_refl _) (by simp)⟩
  case round =>
    obtain ⟨k, hk, rfl, hd⟩ := hrel
    have D := Lib.hid hd
    clear hd
    by_cases hlt : k < 4
    · have hlt' : (k : Int) < 4 := by omega
      go_wp2_with fail
      refine (pick c (p + 4 * k) _ _ D.out.rd (by omega) (by omega) (by omega)).mono ?_
      rintro e w1 ⟨m1, a0, a1, rfl, hf1, h1⟩
      have F1 := Lib.hid hf1
      have R1 := Lib.hid h1
      clear hf1 h1
      go_wp2_with fail
      refine (pick c (p + 4 * k + 1) _ _ R1.out (by omega) (by omega) (by omega)).mono ?_
      rintro e w2 ⟨m2, b0, b1, rfl, hf2, h2⟩
      have F2 := Lib.hid hf2
      have R2 := Lib.hid h2
      clear hf2 h2
      go_wp2_with fail
      refine (pick c (p + 4 * k + 1 + 1) _ _ R2.out (by omega) (by omega) (by omega)).mono ?_
      rintro e w3 ⟨m3, c0, c1, rfl, hf3, h3⟩
      have F3 := Lib.hid hf3
      have R3 := Lib.hid h3
      clear hf3 h3
      go_wp2_with fail
      refine (pick c (p + 4 * k + 1 + 1 + 1) _ _ (R3.out.alloc _) (by omega) (by omega) (by omega)).mono ?_
      rintro e w4 ⟨m4, d0, d1, rfl, hf4, h4⟩
      have F4 := Lib.hid hf4
      have R4 := Lib.hid h4
      have c3 : c < w3.heap.size := R3.out.lt
      have A4 : Arr w4 w3.heap.size 3 [0, m1, m2, m3] := (Arr.new w3 3 [0, m1, m2, m3]).farr hf4 (by omega)
      clear hf4 h4
      obtain ⟨j, hj, rfl⟩ := below_four d0 d1
      have hx := A4.cell (i := j) hj
      obtain ⟨y0, y1⟩ := pick4 a0 a1 b0 b1 c0 c1 hj
      generalize [0, m1, m2, m3].getD j 0 = y at hx y0 y1
      have FF : Hid (Far c w w4) := Lib.hid (D.out.far.trans (F1.out.trans (F2.out.trans (F3.out.trans ((Far.alloc _ _).trans F4.out)))))
      have FD : Hid (Far c wr w4) := Lib.hid (F1.out.trans (F2.out.trans (F3.out.trans ((Far.alloc _ _).trans F4.out))))
      obtain ⟨l, hlk, hn, ho⟩ := D.out.own
      have O := Lib.hid (ho.far FD.out hcw)
      have LK := Lib.hid hlk
      have NN := Lib.hid hn
      have hll : l.length ≤ 4 := by omega
      clear A4 F1 F2 F3 F4 R1 R2 R3 D FD hlk hn ho
      go_wp2_with (first
        | (at_builtin; refine wpList_append_own _ rfl _ _ 24 rfl w.heap.size 3 i0 (.int .i64 0) 1 8 Try.underlying24 I1.out I2.out I3.out I4.out rfl (by decide) _ _ _ rfl (World.ownsRow.alloc O.out _) ⟨w4.heap.size, 0, none⟩ 1 1 [.int .i64 y] rfl rfl (one_cell (g := 0)) (vals_one [y]) ?c3 ?c4 ?c5 ?_))
      case c3 => unfold maxLen; omega
      case c4 => omega
      case c5 => have := FF.out.size; simp; omega
      intro o' w5 ho hg _
      have O1 := Lib.hid (own_snoc ho rfl rfl)
      have hrow : ∀ q, Value.ownBlock _ = some q → w.heap.size ≤ q := fun q hq => (World.ownsRow.lt O.out q hq).1
      have F5 : Hid (Far c w w5) := Lib.hid ((FF.out.trans (Far.alloc _ _)).own hg hrow)
      have R5 : Hid (Rd w5 c (p + 4 * k + 1 + 1 + 1 + 1)) := Lib.hid ((R4.out.alloc _).up hg (fun q hq => by have := hrow q hq; omega))
      clear ho hg hrow
      go_wp2_with fail
      go_roundw
      case rel => exact ⟨k + 1, by omega, by go_num, F5.out, R5.out.mono (by omega), l ++ [y], by simp [LK.out], NN.out.snoc (by omega) (by omega), O1.out⟩
      case measure => simp [intOf]; omega
    · have : k = 4 := by omega
      subst this
      go_wp2_with fail
      refine (pick c (p + 4 * 4) _ _ D.out.rd (by omega) (by omega) (by omega)).mono ?_
      rintro e w1 ⟨m1, a0, a1, rfl, hf1, h1⟩
      have F1 := Lib.hid hf1
      have R1 := Lib.hid h1
      have FF : Hid (Far c w w1) := Lib.hid (D.out.far.trans hf1)
      obtain ⟨l, hl4, hn, ho⟩ := D.out.own
      have o1 := ho.far hf1 hcw
      obtain ⟨g, cap, rfl, gb, gl, cap4, capm, gc, gf⟩ := o1.four hl4
      have O := Lib.hid o1
      have L4 := Lib.hid hl4
      have NN := Lib.hid hn
      have GC := Lib.hid gc
      have GF := Lib.hid gf
      unfold maxLen at capm
      have cn1 : ¬ cap = 1 := by omega
      clear hf1 h1 D F1 hl4 hn ho o1 gc gf
      by_cases q0 : m1 = 0
      · subst q0
        go_wp2_with fail
        go_ret
        refine ⟨_, _, rfl, ?_, FF.out, ⟨O.out.tail L4.out, slUp_at gb⟩, by rw [List.length_tail]; have := L4.out; omega, R1.out.mono (by omega), (O.out.rowAt (by have := L4.out; omega)).tail (by omega) _⟩
        exact fun x hx => NN.out x (List.mem_of_mem_tail hx)
      have b0 : (m1 == 0) = false := by rw [beq_eq_false_iff_ne]; exact q0
      by_cases q1 : m1 = 1
      · subst q1
        clear q0 b0 a0 a1
        go_wp2_with fail
        refine (pick c (p + 4 * 4 + 1) _ _ R1.out (by omega) (by omega) (by omega)).mono ?_
        rintro e w2 ⟨m2, b0, b1, rfl, hf2, h2⟩
        have F2 := Lib.hid hf2
        have R2 := Lib.hid h2
        clear hf2 h2
        go_wp2_with fail
        refine (pick c (p + 4 * 4 + 1 + 1) _ _ (R2.out.alloc _) (by omega) (by omega) (by omega)).mono ?_
        rintro e w3 ⟨m3, c0, c1, rfl, hf3, h3⟩
        have F3 := Lib.hid hf3
        have R3 := Lib.hid h3
        have c2 : c < w2.heap.size := R2.out.lt
        obtain ⟨g0, g1⟩ := far_two hf3 c2
        have FD : Hid (Far c w1 w3) := Lib.hid (F2.out.trans ((Far.alloc _ _).trans F3.out))
        clear hf3 h3
        obtain ⟨j, hj, rfl⟩ := below_four b0 b1
        have O3 := Lib.hid (O.out.far FD.out hcw)
        obtain ⟨g', cap', e, _, _, _, _, gc, gf⟩ := O3.out.four L4.out
        injection e with e1 e2 e3
        injection e1 with e1
        injection e1 with e1
        subst e1 e3
        have hx := gc j hj
        have hf := gf j
        generalize l.getD j 0 = y at hx
        clear gc gf GC GF e2
        have hj' : (j : Int) < 4 := by omega
        rcases below_two c0 c1 with rfl | rfl
        · go_wp2_with fail
          go_ret
          exact ⟨_, _, rfl, NN.out.set (i := j) (x := -1) (by omega) (by omega), (FF.out.trans FD.out).own (far_grown (Far.set _ _ _ _)) (fun q hq => by injection hq with hq; omega), ⟨(O3.out.put4 L4.out j (-1)).sl, slUp_at gb⟩, by rw [List.length_set, L4.out]; omega, (R3.out.up (far_grown (Far.set _ _ _ _)) (fun q hq => by injection hq with hq; omega)).mono (by omega), (O3.out.put4 L4.out j (-1)).rowAt (by rw [List.length_set, L4.out]; omega)⟩
        · go_wp2_with fail
          go_ret
          exact ⟨_, _, rfl, NN.out.set (i := j) (x := 31) (by omega) (by omega), (FF.out.trans FD.out).own (far_grown (Far.set _ _ _ _)) (fun q hq => by injection hq with hq; omega), ⟨(O3.out.put4 L4.out j 31).sl, slUp_at gb⟩, by rw [List.length_set, L4.out]; omega, (R3.out.up (far_grown (Far.set _ _ _ _)) (fun q hq => by injection hq with hq; omega)).mono (by omega), (O3.out.put4 L4.out j 31).rowAt (by rw [List.length_set, L4.out]; omega)⟩
      · have b1 : (m1 == 1) = false := by rw [beq_eq_false_iff_ne]; exact q1
        go_wp2_with fail
        go_ret
        exact ⟨_, _, rfl, NN.out, FF.out, ⟨O.out.sl, slUp_at gb⟩, by rw [L4.out]; omega, R1.out.mono (by omega), O.out.rowAt (by have := L4.out; omega)⟩

/-- two rows of a law's own. -/
def DrawnRows (w : World) (e : Ending) (w' : World) : Prop :=
  ∃ u v l m, e = .returned (.tuple #[u, v]) ∧ Near l ∧ Near m ∧ l.length ≤ 4 ∧ m.length ≤ 4 ∧ w.grownBy w' none ∧ Sl w' u l ∧ Sl w' v m
def DrawnRowNum (w : World) (e : Ending) (w' : World) : Prop :=
  ∃ u l n, e = .returned (.tuple #[u, .int .i64 n]) ∧ Near l ∧ -1 ≤ n ∧ n ≤ 31 ∧ l.length ≤ 4 ∧ w.grownBy w' none ∧ Sl w' u l
def DrawnOne (w : World) (e : Ending) (w' : World) : Prop :=
  ∃ u l, e = .returned u ∧ Near l ∧ l.length ≤ 5 ∧ w.grownBy w' none ∧ Sl w' u l

theorem grown_of {a b w : World} (h : Below a.heap.size a b) (hf : Far a.heap.size b w) : a.grownBy w none :=
  ⟨hf.os.trans h.os, hf.tape.trans h.tape, hf.output.trans h.output, Nat.le_trans h.size hf.size, fun i hi _ => (hf.block i (Nat.lt_of_lt_of_le hi h.size) (Nat.ne_of_lt hi)).trans (h.block i hi)⟩

/-- one more behind a row that has room. -/
theorem sl_room {w : World} {g o cap : Nat} {cur : Array Value} {l : List Int} (hs : Sl w (.slice (some ⟨g, o, none⟩) l.length cap) l) (hg : w.heap[g]? = some (.cells cur 3 (0, 0))) (hc : cur.size = o + cap) (hroom : l.length + 1 ≤ cap) (x : Int) :
    Sl (w.setCell ⟨g, o + l.length, none⟩ (.int .i64 x)) (.slice (some ⟨g, o, none⟩) (l.length + 1) cap) (l ++ [x]) := by
  obtain ⟨a, cap', e, h1, h2, hr⟩ := hs
  injection e with e1 e2 e3
  subst e1 e3
  refine ⟨_, cap, by simp, by simpa using hroom, h2, .inr ⟨g, o, rfl, fun i hi => ?_⟩⟩
  have hi' : i < l.length + 1 := by simpa using hi
  by_cases hil : i = l.length
  · subst hil
    have hcell : w.cell? ⟨g, o + l.length, none⟩ = cur[o + l.length]? := cell_of_row w g (o + l.length) cur 3 (0, 0) hg
    rw [Array.getElem?_eq_getElem (by omega)] at hcell
    rw [World.cell?_setCell_same _ _ _ hcell]
    simp
  · rw [World.cell?_setCell_other _ _ _ _ (by intro e; injection e with _ e; omega)]
    rcases hr with h0 | ⟨b, o', e, hr⟩
    · subst h0; simp at hi' hil; omega
    · injection e with e
      injection e with e1 e2
      subst e1 e2
      rw [hr i (by omega)]
      simp [List.getD_eq_getElem?_getD, List.getElem?_append_left (show i < l.length by omega)]

theorem vals_cells {w : World} {g o cap : Nat} {l : List Int} (hs : Sl w (.slice (some ⟨g, o, none⟩) l.length cap) l) : ∀ j u, (vals l)[j]? = some u → w.cell? ⟨g, o + j, none⟩ = some u := by
  intro j u hu
  obtain ⟨a, cap', e, h1, h2, hr⟩ := hs
  injection e with e1 e2 e3
  subst e1
  have hj : j < l.length := by have := (List.getElem?_eq_some_iff.1 hu).1; simpa [vals] using this
  rcases hr with h0 | ⟨b, o', e, hr⟩
  · subst h0; simp at hj
  · injection e with e
    injection e with e1 e2
    subst e1 e2
    rw [hr j hj, ← hu, vals_get l j hj]