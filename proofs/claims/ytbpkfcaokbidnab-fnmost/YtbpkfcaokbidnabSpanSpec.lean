/-
  The contracts of the model's functions of chapter 3, and of chapter 2's that they call, for rows of any length.
  Conditions: a row has at most 64 numbers.
-/
import Derived.Test.YtbpkfcaokbidnabVecSpec
import Derived.Test.YtbpkfcaokbidnabSpanWork
import Derived.Test.YtbpkfcaokbidnabTabs
namespace Go.Proofs.Ytbpkfcaokbidnab
open Go.RowKit
set_option linter.unusedVariables false

set_option maxHeartbeats 1000000 in
set_option maxRecDepth 20000 in
theorem specMul (v : Value) (n : Nat) (l : List Int) (c : Int) (w : World) (h : Sl w v l) (hl : Sp.Row n l) (hc : Fld.ok c = true) (hn : n ≤ 64) : Calls Try.prog 66 #[v, .int .i64 c] w (NewInts (Sp.lmul l c) w) := by
  obtain ⟨a, cap, rfl, hlc, hcm, hr⟩ := h
  unfold maxLen at hcm
  have R := Lib.hid hr
  have L4 := Lib.hid hl.1
  have OL := Lib.hid hl
  have OC := Lib.hid hc
  have SG := Lib.hid (fun (i : Nat) (hi : i < l.length) => Sp.lmul_get (l := l) c hi)
  have S4 := Lib.hid (Sp.row_lmul hl c).1
  have l4 : l.length ≤ 64 := by have := L4.out; omega
  clear hr hl
  obtain ⟨i0, hi, hz0, hz1, hz2⟩ := info_parts (show (Try.prog.info? 3).map (fun i => (i.zero, i.size, i.bytes)) = some (some (.int .i64 0), 1, 8) by kernel_rfl)
  have I1 := Lib.hid hi
  have I2 := Lib.hid hz0
  have I3 := Lib.hid hz1
  have I4 := Lib.hid hz2
  clear hi hz0 hz1 hz2
  go_enter Try.func66, Try.ntmps66
  go_wp2_with fail
  go_loopw [5, 6] (fun o i wr => ∃ k : Nat, k ≤ l.length ∧ i = .int .i64 k ∧ w.grownBy wr none ∧ Own wr w.heap.size o ((Sp.lmul l c).take k)) (fun _ i _ => l.length - (intOf i).toNat)
  case atStart => 
    refine ⟨0, Nat.zero_le _, rfl, grown_alloc (World.grownBy.refl _ _) _, ?_⟩
    exact Own.made w w.heap.size [] (Nat.le_refl _) (by simp)
  case round =>
    obtain ⟨k, hk, rfl, hg, ho⟩ := hrel
    have G := Lib.hid hg
    have O := Lib.hid ho
    clear hg ho
    by_cases hlt : k < l.length
    · have k4 : k < n := by have := L4.out; omega
      obtain ⟨b, o, rfl, hx⟩ := (R.out.grown G.out).at_ hlt
      obtain ⟨x, hxe⟩ : ∃ x, l.getD k 0 = x := ⟨_, rfl⟩
      have hxo := OL.out.get k
      have sg := SG.out k hlt
      rw [hxe] at hx hxo sg
      have ⟨m0, m1⟩ := Fld.mul_le hxo hc
      have E := Lib.hid (take_snoc (by rw [S4.out]; exact k4) sg)
      have TL : Hid (((Sp.lmul l c).take k).length = k) := Lib.hid (by rw [List.length_take, S4.out]; omega)
      clear hxe sg
      go_wp2_with (first
        | (at_builtin; refine wpList_append_own _ rfl _ _ 33 rfl w.heap.size 3 i0 (.int .i64 0) 1 8 Try.underlying33 I1.out I2.out I3.out I4.out rfl (by decide) _ _ _ rfl (World.ownsRow.alloc O.out _) ⟨wr.heap.size, 0, none⟩ 1 1 [.int .i64 (x * c % 31)] rfl rfl (one_cell (g := 0)) (vals_one [x * c % 31]) ?c3 ?c4 ?c5 ?_))
      case c3 => rw [TL.out]; unfold maxLen; omega
      case c4 => rw [TL.out]; omega
      case c5 => have := G.out.size; simp; omega
      intro o' w1 ho hg _
      have O1 := Lib.hid (own_snoc ho (by simp) E.out)
      have G1 : Hid (w.grownBy w1 none) := Lib.hid (grown_own (grown_alloc G.out _) hg (fun j hj => (World.ownsRow.lt O.out j hj).1))
      clear ho hg
      go_wp2_with fail
      go_roundw
      case rel => exact ⟨k + 1, by omega, by go_num, G1.out, O1.out⟩
      case measure => simp [intOf]; omega
    · have : k = l.length := by omega
      subst this
      go_wp2_with fail
      go_ret
      refine ⟨_, rfl, G.out, ?_⟩
      have := O.out
      rwa [List.take_of_length_le (by rw [S4.out, L4.out]; omega)] at this

set_option maxHeartbeats 1000000 in
set_option maxRecDepth 20000 in
theorem specAdd (u v : Value) (n : Nat) (l m : List Int) (w : World) (h : Sl w u l) (h' : Sl w v m) (hl : Sp.Row n l) (hm : Sp.Row n m) (hn : n ≤ 64) : Calls Try.prog 65 #[u, v] w (NewInts (Sp.ladd l m) w) := by
  obtain ⟨a, cap, rfl, hlc, hcm, hr⟩ := h
  obtain ⟨a', cap', rfl, hlc', hcm', hr'⟩ := h'
  unfold maxLen at hcm hcm'
  have R := Lib.hid hr
  have R' := Lib.hid hr'
  have L4 := Lib.hid hl.1
  have M4 := Lib.hid hm.1
  have OL := Lib.hid hl
  have OM := Lib.hid hm
  have SG := Lib.hid (fun (i : Nat) (hi : i < l.length) (hi' : i < m.length) => Sp.ladd_get (l := l) (m := m) hi hi')
  have S4 := Lib.hid (Sp.row_ladd hl hm).1
  have l4 : l.length ≤ 64 := by have := L4.out; omega
  have m4 : l.length ≤ m.length := by have := L4.out; have := M4.out; omega
  clear hr hr' hl hm
  obtain ⟨i0, hi, hz0, hz1, hz2⟩ := info_parts (show (Try.prog.info? 3).map (fun i => (i.zero, i.size, i.bytes)) = some (some (.int .i64 0), 1, 8) by kernel_rfl)
  have I1 := Lib.hid hi
  have I2 := Lib.hid hz0
  have I3 := Lib.hid hz1
  have I4 := Lib.hid hz2
  clear hi hz0 hz1 hz2
  go_enter Try.func65, Try.ntmps65
  go_wp2_with fail
  go_loopw [5, 6] (fun ov i wr => ∃ k : Nat, k ≤ l.length ∧ i = .int .i64 k ∧ w.grownBy wr none ∧ Own wr w.heap.size ov ((Sp.ladd l m).take k)) (fun _ i _ => l.length - (intOf i).toNat)
  case atStart => 
    refine ⟨0, Nat.zero_le _, rfl, grown_alloc (World.grownBy.refl _ _) _, ?_⟩
    exact Own.made w w.heap.size [] (Nat.le_refl _) (by simp)
  case round =>
    obtain ⟨k, hk, rfl, hg, ho⟩ := hrel
    have G := Lib.hid hg
    have O := Lib.hid ho
    by_cases hlt : k < l.length
    · have k4 : k < n := by have := L4.out; omega
      have hltm : k < m.length := by omega
      obtain ⟨b, o, rfl, hx⟩ := (R.out.grown G.out).at_ hlt
      obtain ⟨b', o', rfl, hy⟩ := (R'.out.grown G.out).at_ hltm
      obtain ⟨x, hxe⟩ : ∃ x, l.getD k 0 = x := ⟨_, rfl⟩
      obtain ⟨y, hye⟩ : ∃ y, m.getD k 0 = y := ⟨_, rfl⟩
      have hxo := OL.out.get k
      have hyo := OM.out.get k
      have sg := SG.out k hlt hltm
      rw [hxe] at hx hxo sg
      rw [hye] at hy hyo sg
      have ⟨x0, x1⟩ := Fld.ok_iff.1 hxo
      have ⟨y0, y1⟩ := Fld.ok_iff.1 hyo
      have E := Lib.hid (take_snoc (by rw [S4.out]; exact k4) sg)
      have TL : Hid (((Sp.ladd l m).take k).length = k) := Lib.hid (by rw [List.length_take, S4.out]; omega)
      have hlt' : (k : Int) < (l.length : Int) := by omega
      have hlt2 : (k : Int) < (m.length : Int) := by omega
      clear hxe hye sg hxo hyo hg ho
      have NB : Hid (some b ≠ u5.ownBlock) := Lib.hid (far_own O.out (by obtain ⟨b2, o2, e, h2⟩ := R.out.at_ hlt; injection e with e; injection e with e1; subst e1; exact lt_of_cell h2))
      have NB' : Hid (some b' ≠ u5.ownBlock) := Lib.hid (far_own O.out (by obtain ⟨b2, o2, e, h2⟩ := R'.out.at_ hltm; injection e with e; injection e with e1; subst e1; exact lt_of_cell h2))
      have lb : b < wr.heap.size := lt_of_cell hx
      have lb' : b' < wr.heap.size := lt_of_cell hy
      have ws : IntKind.i64.wrap (x + y) = x + y := IntWalk.i64_in _ (by omega)
      have wt : (x + y).tmod 31 = (x + y) % 31 := Int.tmod_eq_emod_of_nonneg (by omega)
      have hbb : w.heap.size ≤ wr.heap.size := G.out.size
      go_wp2_with fail
      go_region_held3 (fun w' => w'.cell? ⟨b, o + k, none⟩ = some (.int .i64 x) ∧ w'.cell? ⟨b', o' + k, none⟩ = some (.int .i64 y))
        (first
          | go_keep
          | (go_split_ands
             refine ⟨?_, ?_⟩
             · (rw [hgrow.cell_far _ (by simp; omega) NB.out]; assumption)
             · (rw [hgrow.cell_far _ (by simp; omega) NB'.out]; assumption)))
        ((refine step_append_lies _ (by rfl) _ _ _ (by rfl) w.heap.size 3 i0 (.int .i64 0) 1 8 Try.underlying33 I1.out I2.out I3.out I4.out rfl (by omega) u5 ((Sp.ladd l m).take k).length (vals ((Sp.ladd l m).take k)) (by rfl) (World.ownsRow.drew (World.ownsRow.alloc O.out _))
            ⟨wr.heap.size, 0, none⟩ 1 1 [.int .i64 ((x + y) % 31)] (by rfl) (by rfl) (one_cell (g := 0)) (vals_one [(x + y) % 31])
            (by omega) (by rw [TL.out]; unfold maxLen; omega) (by rw [TL.out]; omega) (by simp; omega) (wr.heap.size + 1) (by simp) ?_; intro gg cc w1 hown1 hgrow hat hlt1))
      rw [List.length_take] at hown1
      have O1 := Lib.hid (own_snoc hown1 (by simp) E.out)
      have G1 : Hid (w.grownBy w1 none) := Lib.hid (grown_own (grown_drew (grown_alloc G.out _)) hgrow (fun j hj => (World.ownsRow.lt O.out j hj).1))
      clear hown1 hgrow hat hlt1 hx hy ws wt
      go_wp2_with fail
      go_roundw
      case rel => exact ⟨k + 1, by omega, by go_num, G1.out, O1.out⟩
      case measure => simp [intOf]; omega
    · have : k = l.length := by omega
      subst this
      clear hg ho
      go_wp2_with fail
      go_ret
      refine ⟨_, rfl, G.out, ?_⟩
      have := O.out
      rwa [List.take_of_length_le (by rw [S4.out, L4.out]; omega)] at this

end Go.Proofs.Ytbpkfcaokbidnab
