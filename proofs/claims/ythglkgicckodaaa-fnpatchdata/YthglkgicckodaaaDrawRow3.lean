/-
  A row that the laws draw has three numbers or four.
  Conditions: the reader has been read at most 900,000 times.
-/
import Derived.Test.YthglkgicckodaaaG3
namespace Go.Proofs.Ythglkgicckodaaa
open Go.RowKit
set_option linter.unusedVariables false

def DrawnRow3 (c p : Nat) (w : World) (e : Ending) (w' : World) : Prop :=
  ∃ v l, e = .returned v ∧ Near l ∧ Far c w w' ∧ SlUp w' w.heap.size v l ∧ l.length ≤ 4 ∧ Rd w' c (p + 20) ∧ 3 ≤ l.length

set_option maxHeartbeats 2000000 in
set_option maxRecDepth 20000 in
theorem drawRow3 (c p : Nat) (w : World) (h : Rd w c p) (hp : p ≤ 900000) : Calls Try.prog 41 #[.pointer (some ⟨c, 0, none⟩)] w (DrawnRow3 c p w) := by
  have hcw := h.lt
  have H := Lib.hid h
  clear h
  obtain ⟨i0, hi, hz0, hz1, hz2⟩ := info_parts infoInt
  have I1 := Lib.hid hi
  have I2 := Lib.hid hz0
  have I3 := Lib.hid hz1
  have I4 := Lib.hid hz2
  clear hi hz0 hz1 hz2
  go_enter Try.func41, Try.ntmps41
  go_wp2_with fail
  go_loopw [3, 4] (fun v i wr => ∃ k : Nat, k ≤ 4 ∧ i = .int .i64 k ∧ Drawing c p w k v wr) (fun _ i _ => 4 - (intOf i).toNat)
  case atStart => exact ⟨0, by omega, rfl, Far.alloc _ _, (H.out.alloc _).mono (by omega), [], rfl, (by intro x hx; cases hx), Own.made w w.heap.size [] (Nat.le_refl _) (by simp)⟩
  case round =>
    obtain ⟨k, hk, rfl, hd⟩ := hrel
    have D := Lib.hid hd
    clear hd
    by_cases hlt : k < 4
    · have hlt' : (k : Int) < 4 := by omega
      go_wp2_with fail
      refine (pick c (p + 4 * k) _ _ D.out.rd (by omega) (by omega) (by omega)).mono ?_
      rintro e w1 ⟨m1, a0, a1, rfl, hf1, h1⟩
      have F1 := Lib.hid hf1
      have R1 := Lib.hid h1
      clear hf1 h1
      go_wp2_with fail
      refine (pick c (p + 4 * k + 1) _ _ R1.out (by omega) (by omega) (by omega)).mono ?_
      rintro e w2 ⟨m2, b0, b1, rfl, hf2, h2⟩
      have F2 := Lib.hid hf2
      have R2 := Lib.hid h2
      clear hf2 h2
      go_wp2_with fail
      refine (pick c (p + 4 * k + 1 + 1) _ _ R2.out (by omega) (by omega) (by omega)).mono ?_
      rintro e w3 ⟨m3, c0, c1, rfl, hf3, h3⟩
      have F3 := Lib.hid hf3
      have R3 := Lib.hid h3
      clear hf3 h3
      go_wp2_with fail
      refine (pick c (p + 4 * k + 1 + 1 + 1) _ _ (R3.out.alloc _) (by omega) (by omega) (by omega)).mono ?_
      rintro e w4 ⟨m4, d0, d1, rfl, hf4, h4⟩
      have F4 := Lib.hid hf4
      have R4 := Lib.hid h4
      have c3 : c < w3.heap.size := R3.out.lt
      have A4 : Arr w4 w3.heap.size 3 [0, m1, m2, m3] := (Arr.new w3 3 [0, m1, m2, m3]).farr hf4 (by omega)
      clear hf4 h4
      obtain ⟨j, hj, rfl⟩ := below_four d0 d1
      have hx := A4.cell (i := j) hj
      obtain ⟨y0, y1⟩ := pick4 a0 a1 b0 b1 c0 c1 hj
      generalize [0, m1, m2, m3].getD j 0 = y at hx y0 y1
      have FF : Hid (Far c w w4) := Lib.hid (D.out.far.trans (F1.out.trans (F2.out.trans (F3.out.trans ((Far.alloc _ _).trans F4.out)))))
      have FD : Hid (Far c wr w4) := Lib.hid (F1.out.trans (F2.out.trans (F3.out.trans ((Far.alloc _ _).trans F4.out))))
      obtain ⟨l, hlk, hn, ho⟩ := D.out.own
      have O := Lib.hid (ho.far FD.out hcw)
      have LK := Lib.hid hlk
      have NN := Lib.hid hn
      have hll : l.length ≤ 4 := by omega
      clear A4 F1 F2 F3 F4 R1 R2 R3 D FD hlk hn ho
      go_wp2_with (first
        | (at_builtin; refine wpList_append_own _ rfl _ _ 23 rfl w.heap.size 3 i0 (.int .i64 0) 1 8 Try.underlying23 I1.out I2.out I3.out I4.out rfl (by decide) _ _ _ rfl (World.ownsRow.alloc O.out _) ⟨w4.heap.size, 0, none⟩ 1 1 [.int .i64 y] rfl rfl (one_cell (g := 0)) (vals_one [y]) ?c3 ?c4 ?c5 ?_))
      case c3 => unfold maxLen; omega
      case c4 => omega
      case c5 => have := FF.out.size; simp; omega
      intro o' w5 ho hg _
      have O1 := Lib.hid (own_snoc ho rfl rfl)
      have hrow : ∀ q, Value.ownBlock _ = some q → w.heap.size ≤ q := fun q hq => (World.ownsRow.lt O.out q hq).1
      have F5 : Hid (Far c w w5) := Lib.hid ((FF.out.trans (Far.alloc _ _)).own hg hrow)
      have R5 : Hid (Rd w5 c (p + 4 * k + 1 + 1 + 1 + 1)) := Lib.hid ((R4.out.alloc _).up hg (fun q hq => by have := hrow q hq; omega))
      clear ho hg hrow
      go_wp2_with fail
      go_roundw
      case rel => exact ⟨k + 1, by omega, by go_num, F5.out, R5.out.mono (by omega), l ++ [y], by simp [LK.out], NN.out.snoc (by omega) (by omega), O1.out⟩
      case measure => simp [intOf]; omega
    · have : k = 4 := by omega
      subst this
      go_wp2_with fail
      refine (pick c (p + 4 * 4) _ _ D.out.rd (by omega) (by omega) (by omega)).mono ?_
      rintro e w1 ⟨m1, a0, a1, rfl, hf1, h1⟩
      have F1 := Lib.hid hf1
      have R1 := Lib.hid h1
      have FF : Hid (Far c w w1) := Lib.hid (D.out.far.trans hf1)
      obtain ⟨l, hl4, hn, ho⟩ := D.out.own
      have o1 := ho.far hf1 hcw
      obtain ⟨g, cap, rfl, gb, gl, cap4, capm, gc, gf⟩ := o1.four hl4
      have O := Lib.hid o1
      have L4 := Lib.hid hl4
      have NN := Lib.hid hn
      have GC := Lib.hid gc
      have GF := Lib.hid gf
      unfold maxLen at capm
      have cn1 : ¬ cap = 1 := by omega
      clear hf1 h1 D F1 hl4 hn ho o1 gc gf
      by_cases q0 : m1 = 0
      · subst q0
        go_wp2_with fail
        go_ret
        refine ⟨_, _, rfl, ?_, FF.out, ⟨O.out.tail L4.out, slUp_at gb⟩, by rw [List.length_tail]; have := L4.out; omega, R1.out.mono (by omega), by rw [List.length_tail]; have := L4.out; omega⟩
        exact fun x hx => NN.out x (List.mem_of_mem_tail hx)
      have b0 : (m1 == 0) = false := by rw [beq_eq_false_iff_ne]; exact q0
      by_cases q1 : m1 = 1
      · subst q1
        clear q0 b0 a0 a1
        go_wp2_with fail
        refine (pick c (p + 4 * 4 + 1) _ _ R1.out (by omega) (by omega) (by omega)).mono ?_
        rintro e w2 ⟨m2, b0, b1, rfl, hf2, h2⟩
        have F2 := Lib.hid hf2
        have R2 := Lib.hid h2
        clear hf2 h2
        go_wp2_with fail
        refine (pick c (p + 4 * 4 + 1 + 1) _ _ (R2.out.alloc _) (by omega) (by omega) (by omega)).mono ?_
        rintro e w3 ⟨m3, c0, c1, rfl, hf3, h3⟩
        have F3 := Lib.hid hf3
        have R3 := Lib.hid h3
        have c2 : c < w2.heap.size := R2.out.lt
        obtain ⟨g0, g1⟩ := far_two hf3 c2
        have FD : Hid (Far c w1 w3) := Lib.hid (F2.out.trans ((Far.alloc _ _).trans F3.out))
        clear hf3 h3
        obtain ⟨j, hj, rfl⟩ := below_four b0 b1
        have O3 := Lib.hid (O.out.far FD.out hcw)
        obtain ⟨g', cap', e, _, _, _, _, gc, gf⟩ := O3.out.four L4.out
        injection e with e1 e2 e3
        injection e1 with e1
        injection e1 with e1
        subst e1 e3
        have hx := gc j hj
        have hf := gf j
        generalize l.getD j 0 = y at hx
        clear gc gf GC GF e2
        have hj' : (j : Int) < 4 := by omega
        rcases below_two c0 c1 with rfl | rfl
        · go_wp2_with fail
          go_ret
          exact ⟨_, _, rfl, NN.out.set (i := j) (x := -1) (by omega) (by omega), (FF.out.trans FD.out).own (far_grown (Far.set _ _ _ _)) (fun q hq => by injection hq with hq; omega), ⟨(O3.out.put4 L4.out j (-1)).sl, slUp_at gb⟩, by rw [List.length_set, L4.out]; omega, (R3.out.up (far_grown (Far.set _ _ _ _)) (fun q hq => by injection hq with hq; omega)).mono (by omega), by rw [List.length_set, L4.out]; omega⟩
        · go_wp2_with fail
          go_ret
          exact ⟨_, _, rfl, NN.out.set (i := j) (x := 31) (by omega) (by omega), (FF.out.trans FD.out).own (far_grown (Far.set _ _ _ _)) (fun q hq => by injection hq with hq; omega), ⟨(O3.out.put4 L4.out j 31).sl, slUp_at gb⟩, by rw [List.length_set, L4.out]; omega, (R3.out.up (far_grown (Far.set _ _ _ _)) (fun q hq => by injection hq with hq; omega)).mono (by omega), by rw [List.length_set, L4.out]; omega⟩
      · have b1 : (m1 == 1) = false := by rw [beq_eq_false_iff_ne]; exact q1
        go_wp2_with fail
        go_ret
        exact ⟨_, _, rfl, NN.out, FF.out, ⟨O.out.sl, slUp_at gb⟩, by rw [L4.out]; omega, R1.out.mono (by omega), by rw [L4.out]; omega⟩
end Go.Proofs.Ythglkgicckodaaa
