/-
  What this claim wants of the texts of earlier chapters.
  Conditions: none.
-/
import Derived.Test.YthglkgicckodaaaZG1
import Derived.Deep.RegionHeld3
import Derived.WalkSpells
import Derived.StillTailTactics
import Derived.Deep.RegionWith

namespace Go.Proofs.Ythglkgicckodaaa
open Go.RowKit
set_option linter.unusedVariables false
theorem own_snoc {w : World} {base : Nat} {v : Value} {l l' : List Int} {x : Int} {n : Nat} (h : w.ownsRow base 3 1 v n (vals l ++ [.int .i64 x])) (hn : n = l.length + 1) (e : l ++ [x] = l') : Own w base v l' := by
  subst e hn
  unfold Own
  rw [← vals_append]
  simpa using h
theorem far_own {w : World} {base b : Nat} {v : Value} {l : List Int} (h : Own w base v l) (hb : b < base) : some b ≠ v.ownBlock :=
  fun e => by have := (World.ownsRow.lt h b e.symm).1; omega
theorem take_snoc {l : List Int} {k : Nat} (h : k < l.length) {x : Int} (hx : l.getD k 0 = x) : l.take k ++ [x] = l.take (k + 1) := by
  rw [List.take_succ_eq_append_getElem h, ← hx]
  simp [List.getD_eq_getElem?_getD, h]
theorem one_cell {w : World} {g : Nat} {u : Value} {t : TypeId} : ∀ j v, [u][j]? = some v → (w.alloc (.cells #[u] t)).cell? ((⟨w.heap.size, 0, none⟩ : Addr).add j) = some v := by
  intro j v hj
  match j, hj with
  | 0, hj => simp at hj; subst hj; simp [Addr.add]
theorem Vec.first_take {l : List Int} : ∀ {k i : Nat}, (∀ j, j < k → l.getD j 0 = 0) → k ≤ l.length → Vec.first l i = Vec.first (l.drop k) (i + k) := by
  intro k
  induction k generalizing l with
  | zero => intro i _ _; rfl
  | succ k ih =>
    intro i h hk
    match l, hk with
    | x :: l, hk =>
      have h0 : x = 0 := by simpa using h 0 (by omega)
      subst h0
      rw [Vec.first_no (by simp), List.drop_succ_cons, ih (l := l) (i := i + 1) (fun j hj => by simpa using h (j + 1) (by omega)) (by simpa using hk)]
      congr 1
      omega
set_option maxHeartbeats 1000000 in
set_option maxRecDepth 20000 in
theorem specL2Lead (v : Value) (l : List Int) (w : World) (h : Sl w v l) : Calls Try.prog 109 #[v] w fun e w' => e = .returned (.int .i64 (Vec.first l 0)) ∧ w = w' := by
  obtain ⟨a, cap, rfl, hlc, hcm, hr⟩ := h
  unfold maxLen at hcm
  have R := Lib.hid hr
  clear hr
  go_enter Try.func109, Try.ntmps109
  go_wp2_with fail
  go_loop [3] (fun i => ∃ k : Nat, k ≤ l.length ∧ i = .int .i64 k ∧ ∀ j, j < k → l.getD j 0 = 0) (fun i => l.length - (intOf i).toNat)
  case atStart => exact ⟨0, Nat.zero_le _, rfl, by omega⟩
  case round =>
    obtain ⟨k, hk, rfl, ha⟩ := hrel
    have A := Lib.hid ha
    clear ha
    by_cases hlt : k < l.length
    · obtain ⟨b, o, rfl, hx⟩ := R.out.at_ hlt
      obtain ⟨x, hxe⟩ : ∃ x, l.getD k 0 = x := ⟨_, rfl⟩
      rw [hxe] at hx
      have E := Lib.hid hxe
      clear hxe
      by_cases h0 : x = 0
      · have hb : (x != 0) = false := by rw [bne_eq_false_iff_eq]; exact h0
        have H0 := Lib.hid h0
        clear h0
        go_wp2_with fail
        go_round
        case rel =>
          refine ⟨k + 1, by omega, by go_num, fun j hj => ?_⟩
          by_cases hjk : j = k
          · subst hjk; rw [E.out]; exact H0.out
          · exact A.out j (by omega)
        case measure => simp [intOf]; omega
      · have hb : (x != 0) = true := by rw [bne_iff_ne]; exact h0
        have B := Lib.hid hb
        go_wp2_with fail
        go_ret
        refine ⟨ret_int ?_, rfl⟩
        rw [Vec.first_take (k := k) A.out hk, List.drop_eq_getElem_cons hlt, Vec.first_yes (by
          have := E.out; rw [List.getD_eq_getElem?_getD, List.getElem?_eq_getElem hlt, Option.getD_some] at this; rw [this]; exact B.out)]
        simp
    · have : k = l.length := by omega
      subst this
      go_wp2_with fail
      go_ret
      refine ⟨ret_int ?_, rfl⟩
      rw [Vec.first_take (k := l.length) A.out (Nat.le_refl _), List.drop_length]
      rfl
set_option maxHeartbeats 1000000 in
set_option maxRecDepth 20000 in
theorem specIn (n a b : Int) (w : World) : Calls Try.prog 53 #[.int .i64 n, .int .i64 a, .int .i64 b] w fun e w' => e = .returned (.bool (decide (a ≤ n) && decide (n ≤ b))) ∧ w = w' := by
  by_cases h0 : a ≤ n
  · have e0 : decide (a ≤ n) = true := by simpa using h0
    by_cases h1 : n ≤ b
    · have e1 : decide (n ≤ b) = true := by simpa using h1
      have E : Hid ((decide (a ≤ n) && decide (n ≤ b)) = true) := Lib.hid (by rw [e0, e1]; rfl)
      go_enter Try.func53, Try.ntmps53
      go_wp2
      go_ret
      exact ⟨by first | exact ret_bool E.out | rfl, rfl⟩
    · have e1 : decide (n ≤ b) = false := by simpa using h1
      have E : Hid ((decide (a ≤ n) && decide (n ≤ b)) = false) := Lib.hid (by rw [e0, e1]; rfl)
      go_enter Try.func53, Try.ntmps53
      go_wp2
      go_ret
      exact ⟨by first | exact ret_bool E.out | rfl, rfl⟩
  · have e0 : decide (a ≤ n) = false := by simpa using h0
    have E : Hid ((decide (a ≤ n) && decide (n ≤ b)) = false) := Lib.hid (by rw [e0]; rfl)
    go_enter Try.func53, Try.ntmps53
    go_wp2
    go_ret
    exact ⟨by first | exact ret_bool E.out | rfl, rfl⟩
set_option maxHeartbeats 2000000 in
set_option maxRecDepth 20000 in
theorem specUnitYes (n : Int) (w : World) (h0 : 0 ≤ n) (h1 : n < 4) : Calls Try.prog 124 #[.int .i64 n] w (NewInts2 (Vec.unit n) true w) := by
  have hm := makeFour
  rcases (by omega : n = 0 ∨ n = 1 ∨ n = 2 ∨ n = 3) with rfl | rfl | rfl | rfl
  all_goals
    clear h0 h1
    go_enter Try.func124, Try.ntmps124
    go_wp2_with fail
    refine (specIn _ _ _ _).mono ?_
    rintro e w' ⟨rfl, rfl⟩
    rw [show (decide _ && decide _) = true from rfl]
    go_wp2_with fail
    go_ret2
    refine ⟨_, rfl, grown_alloc (World.grownBy.refl _ _) _, ?_⟩
  · exact Own.made w w.heap.size [1, 0, 0, 0] (Nat.le_refl _) (by simp [maxLen])
  · exact Own.made w w.heap.size [0, 1, 0, 0] (Nat.le_refl _) (by simp [maxLen])
  · exact Own.made w w.heap.size [0, 0, 1, 0] (Nat.le_refl _) (by simp [maxLen])
  · exact Own.made w w.heap.size [0, 0, 0, 1] (Nat.le_refl _) (by simp [maxLen])
end Go.Proofs.Ythglkgicckodaaa
namespace Go.Proofs.Ythglkgicckodaaa
open Go.RowKit
set_option linter.unusedVariables false
set_option maxHeartbeats 1000000 in
set_option maxRecDepth 20000 in
theorem specMul (v : Value) (n : Nat) (l : List Int) (c : Int) (w : World) (h : Sl w v l) (hl : Sp.Row n l) (hc : Fld.ok c = true) (hn : n ≤ 64) : Calls Try.prog 111 #[v, .int .i64 c] w (NewInts (Sp.lmul l c) w) := by
  obtain ⟨a, cap, rfl, hlc, hcm, hr⟩ := h
  unfold maxLen at hcm
  have R := Lib.hid hr
  have L4 := Lib.hid hl.1
  have OL := Lib.hid hl
  have OC := Lib.hid hc
  have SG := Lib.hid (fun (i : Nat) (hi : i < l.length) => Sp.lmul_get (l := l) c hi)
  have S4 := Lib.hid (Sp.row_lmul hl c).1
  have l4 : l.length ≤ 64 := by have := L4.out; omega
  clear hr hl
  obtain ⟨i0, hi, hz0, hz1, hz2⟩ := info_parts (show (Try.prog.info? 3).map (fun i => (i.zero, i.size, i.bytes)) = some (some (.int .i64 0), 1, 8) by kernel_rfl)
  have I1 := Lib.hid hi
  have I2 := Lib.hid hz0
  have I3 := Lib.hid hz1
  have I4 := Lib.hid hz2
  clear hi hz0 hz1 hz2
  go_enter Try.func111, Try.ntmps111
  go_wp2_with fail
  go_loopw [5, 6] (fun o i wr => ∃ k : Nat, k ≤ l.length ∧ i = .int .i64 k ∧ w.grownBy wr none ∧ Own wr w.heap.size o ((Sp.lmul l c).take k)) (fun _ i _ => l.length - (intOf i).toNat)
  case atStart => 
    refine ⟨0, Nat.zero_le _, rfl, grown_alloc (World.grownBy.refl _ _) _, ?_⟩
    exact Own.made w w.heap.size [] (Nat.le_refl _) (by simp)
  case round =>
    obtain ⟨k, hk, rfl, hg, ho⟩ := hrel
    have G := Lib.hid hg
    have O := Lib.hid ho
    clear hg ho
    by_cases hlt : k < l.length
    · have k4 : k < n := by have := L4.out; omega
      obtain ⟨b, o, rfl, hx⟩ := (R.out.grown G.out).at_ hlt
      obtain ⟨x, hxe⟩ : ∃ x, l.getD k 0 = x := ⟨_, rfl⟩
      have hxo := OL.out.get k
      have sg := SG.out k hlt
      rw [hxe] at hx hxo sg
      have ⟨m0, m1⟩ := Fld.mul_le hxo hc
      have E := Lib.hid (take_snoc (by rw [S4.out]; exact k4) sg)
      have TL : Hid (((Sp.lmul l c).take k).length = k) := Lib.hid (by rw [List.length_take, S4.out]; omega)
      clear hxe sg
      go_wp2_with (first
        | (at_builtin; refine wpList_append_own _ rfl _ _ 23 rfl w.heap.size 3 i0 (.int .i64 0) 1 8 Try.underlying23 I1.out I2.out I3.out I4.out rfl (by decide) _ _ _ rfl (World.ownsRow.alloc O.out _) ⟨wr.heap.size, 0, none⟩ 1 1 [.int .i64 (x * c % 31)] rfl rfl (one_cell (g := 0)) (vals_one [x * c % 31]) ?c3 ?c4 ?c5 ?_))
      case c3 => rw [TL.out]; unfold maxLen; omega
      case c4 => rw [TL.out]; omega
      case c5 => have := G.out.size; simp; omega
      intro o' w1 ho hg _
      have O1 := Lib.hid (own_snoc ho (by simp) E.out)
      have G1 : Hid (w.grownBy w1 none) := Lib.hid (grown_own (grown_alloc G.out _) hg (fun j hj => (World.ownsRow.lt O.out j hj).1))
      clear ho hg
      go_wp2_with fail
      go_roundw
      case rel => exact ⟨k + 1, by omega, by go_num, G1.out, O1.out⟩
      case measure => simp [intOf]; omega
    · have : k = l.length := by omega
      subst this
      go_wp2_with fail
      go_ret
      refine ⟨_, rfl, G.out, ?_⟩
      have := O.out
      rwa [List.take_of_length_le (by rw [S4.out, L4.out]; omega)] at this
set_option maxHeartbeats 1000000 in
set_option maxRecDepth 20000 in
theorem specAdd (u v : Value) (n : Nat) (l m : List Int) (w : World) (h : Sl w u l) (h' : Sl w v m) (hl : Sp.Row n l) (hm : Sp.Row n m) (hn : n ≤ 64) : Calls Try.prog 123 #[u, v] w (NewInts (Sp.ladd l m) w) := by
  obtain ⟨a, cap, rfl, hlc, hcm, hr⟩ := h
  obtain ⟨a', cap', rfl, hlc', hcm', hr'⟩ := h'
  unfold maxLen at hcm hcm'
  have R := Lib.hid hr
  have R' := Lib.hid hr'
  have L4 := Lib.hid hl.1
  have M4 := Lib.hid hm.1
  have OL := Lib.hid hl
  have OM := Lib.hid hm
  have SG := Lib.hid (fun (i : Nat) (hi : i < l.length) (hi' : i < m.length) => Sp.ladd_get (l := l) (m := m) hi hi')
  have S4 := Lib.hid (Sp.row_ladd hl hm).1
  have l4 : l.length ≤ 64 := by have := L4.out; omega
  have m4 : l.length ≤ m.length := by have := L4.out; have := M4.out; omega
  clear hr hr' hl hm
  obtain ⟨i0, hi, hz0, hz1, hz2⟩ := info_parts (show (Try.prog.info? 3).map (fun i => (i.zero, i.size, i.bytes)) = some (some (.int .i64 0), 1, 8) by kernel_rfl)
  have I1 := Lib.hid hi
  have I2 := Lib.hid hz0
  have I3 := Lib.hid hz1
  have I4 := Lib.hid hz2
  clear hi hz0 hz1 hz2
  go_enter Try.func123, Try.ntmps123
  go_wp2_with fail
  go_loopw [5, 6] (fun ov i wr => ∃ k : Nat, k ≤ l.length ∧ i = .int .i64 k ∧ w.grownBy wr none ∧ Own wr w.heap.size ov ((Sp.ladd l m).take k)) (fun _ i _ => l.length - (intOf i).toNat)
  case atStart => 
    refine ⟨0, Nat.zero_le _, rfl, grown_alloc (World.grownBy.refl _ _) _, ?_⟩
    exact Own.made w w.heap.size [] (Nat.le_refl _) (by simp)
  case round =>
    obtain ⟨k, hk, rfl, hg, ho⟩ := hrel
    have G := Lib.hid hg
    have O := Lib.hid ho
    by_cases hlt : k < l.length
    · have k4 : k < n := by have := L4.out; omega
      have hltm : k < m.length := by omega
      obtain ⟨b, o, rfl, hx⟩ := (R.out.grown G.out).at_ hlt
      obtain ⟨b', o', rfl, hy⟩ := (R'.out.grown G.out).at_ hltm
      obtain ⟨x, hxe⟩ : ∃ x, l.getD k 0 = x := ⟨_, rfl⟩
      obtain ⟨y, hye⟩ : ∃ y, m.getD k 0 = y := ⟨_, rfl⟩
      have hxo := OL.out.get k
      have hyo := OM.out.get k
      have sg := SG.out k hlt hltm
      rw [hxe] at hx hxo sg
      rw [hye] at hy hyo sg
      have ⟨x0, x1⟩ := Fld.ok_iff.1 hxo
      have ⟨y0, y1⟩ := Fld.ok_iff.1 hyo
      have E := Lib.hid (take_snoc (by rw [S4.out]; exact k4) sg)
      have TL : Hid (((Sp.ladd l m).take k).length = k) := Lib.hid (by rw [List.length_take, S4.out]; omega)
      have hlt' : (k : Int) < (l.length : Int) := by omega
      have hlt2 : (k : Int) < (m.length : Int) := by omega
      clear hxe hye sg hxo hyo hg ho
      have NB : Hid (some b ≠ u5.ownBlock) := Lib.hid (far_own O.out (by obtain ⟨b2, o2, e, h2⟩ := R.out.at_ hlt; injection e with e; injection e with e1; subst e1; exact lt_of_cell h2))
      have NB' : Hid (some b' ≠ u5.ownBlock) := Lib.hid (far_own O.out (by obtain ⟨b2, o2, e, h2⟩ := R'.out.at_ hltm; injection e with e; injection e with e1; subst e1; exact lt_of_cell h2))
      have lb : b < wr.heap.size := lt_of_cell hx
      have lb' : b' < wr.heap.size := lt_of_cell hy
      have ws : IntKind.i64.wrap (x + y) = x + y := IntWalk.i64_in _ (by omega)
      have wt : (x + y).tmod 31 = (x + y) % 31 := Int.tmod_eq_emod_of_nonneg (by omega)
      have hbb : w.heap.size ≤ wr.heap.size := G.out.size
      go_wp2_with fail
      go_region_held3 (fun w' => w'.cell? ⟨b, o + k, none⟩ = some (.int .i64 x) ∧ w'.cell? ⟨b', o' + k, none⟩ = some (.int .i64 y))
        (first
          | go_keep
          | (go_split_ands
             refine ⟨?_, ?_⟩
             · (rw [hgrow.cell_far _ (by simp; omega) NB.out]; assumption)
             · (rw [hgrow.cell_far _ (by simp; omega) NB'.out]; assumption)))
        ((refine step_append_lies _ (by rfl) _ _ _ (by rfl) w.heap.size 3 i0 (.int .i64 0) 1 8 Try.underlying23 I1.out I2.out I3.out I4.out rfl (by omega) u5 ((Sp.ladd l m).take k).length (vals ((Sp.ladd l m).take k)) (by rfl) (World.ownsRow.drew (World.ownsRow.alloc O.out _))
            ⟨wr.heap.size, 0, none⟩ 1 1 [.int .i64 ((x + y) % 31)] (by rfl) (by rfl) (one_cell (g := 0)) (vals_one [(x + y) % 31])
            (by omega) (by rw [TL.out]; unfold maxLen; omega) (by rw [TL.out]; omega) (by simp; omega) (wr.heap.size + 1) (by simp) ?_; intro gg cc w1 hown1 hgrow hat hlt1))
      rw [List.length_take] at hown1
      have O1 := Lib.hid (own_snoc hown1 (by simp) E.out)
      have G1 : Hid (w.grownBy w1 none) := Lib.hid (grown_own (grown_drew (grown_alloc G.out _)) hgrow (fun j hj => (World.ownsRow.lt O.out j hj).1))
      clear hown1 hgrow hat hlt1 hx hy ws wt
      go_wp2_with fail
      go_roundw
      case rel => exact ⟨k + 1, by omega, by go_num, G1.out, O1.out⟩
      case measure => simp [intOf]; omega
    · have : k = l.length := by omega
      subst this
      clear hg ho
      go_wp2_with fail
      go_ret
      refine ⟨_, rfl, G.out, ?_⟩
      have := O.out
      rwa [List.take_of_length_le (by rw [S4.out, L4.out]; omega)] at this
end Go.Proofs.Ythglkgicckodaaa
namespace Go.Proofs.Ythglkgicckodaaa
open Go.RowKit
set_option linter.unusedVariables false
theorem take_more (m : List (List Int)) {n : Nat} (hn : n < m.length) : m.take (n + 1) = m.take n ++ [m.getD n []] := by
  rw [List.take_succ_eq_append_getElem hn]; simp [List.getD_eq_getElem?_getD, hn]
set_option maxHeartbeats 400000 in
set_option maxRecDepth 20000 in
theorem szIntS (v : Value) (l : List Int) (k : Int) (w : World) (h : Sl w v l) (k0 : 0 ≤ k) (k1 : k ≤ 1048576) :
    Calls Try.prog 55 #[v, .int .i64 k] w fun e w' => e = .returned (.int .i64 (if k - l.length < 0 then -1 else k - l.length)) ∧ w = w' := by
  obtain ⟨a, cap, rfl, hlc, hcm, hr⟩ := h
  clear hr
  unfold maxLen at hcm
  by_cases hb : k - (l.length : Int) < 0
  · rw [if_pos hb]
    go_enter Try.func55, Try.ntmps55
    go_wp2_with fail
    go_ret
    exact ⟨rfl, rfl⟩
  · rw [if_neg hb]
    go_enter Try.func55, Try.ntmps55
    go_wp2_with fail
    go_ret
    exact ⟨rfl, rfl⟩
theorem OwnAll.put {w w' : World} {base : Nat} {A B : List Item} {x x' : Item} (h : OwnAll w base (A ++ x :: B)) (hv : x'.v = x.v) (hg : w.grownBy w' x.v.ownBlock) (ho : x'.Own w' base) : OwnAll w' base (A ++ x' :: B) := by
  have hp := h.2
  rw [List.pairwise_append, List.pairwise_cons] at hp
  have key : ∀ y : Item, y.Apart x → y.Own w base → y.Own w' base := fun y ha hy => World.ownsRow.kept hy hg ha
  refine ⟨fun y hy => ?_, ?_⟩
  · rcases List.mem_append.1 hy with hy | hy
    · exact key y (hp.2.2 y hy x (by simp)) (h.1 y (by simp [hy]))
    · rcases List.mem_cons.1 hy with rfl | hy
      · exact ho
      · exact key y (hp.2.1.1 y hy).symm (h.1 y (by simp [hy]))
  · rw [List.pairwise_append, List.pairwise_cons]
    refine ⟨hp.1, ⟨fun y hy => ?_, hp.2.1.2⟩, fun y hy z hz => ?_⟩
    · have := hp.2.1.1 y hy
      unfold Item.Apart at this ⊢
      rw [hv]; exact this
    · rcases List.mem_cons.1 hz with rfl | hz
      · have := hp.2.2 y hy x (by simp)
        unfold Item.Apart at this ⊢
        rw [hv]; exact this
      · exact hp.2.2 y hy z (by simp [hz])
theorem Lives.put {w0 w w' : World} {A B : List Item} {x x' : Item} (h : Lives w0 w (A ++ x :: B)) (hv : x'.v = x.v) (hg : w.grownBy w' x.v.ownBlock) (ho : x'.Own w' w0.heap.size) : Lives w0 w' (A ++ x' :: B) :=
  ⟨h.below.grown hg h.below.size (fun k hk => (World.ownsRow.lt (h.own.1 x (by simp)) k hk).1), h.own.put hv hg ho⟩
structure Copying (w : World) (g : Nat) (m : List (List Int)) (k : Nat) (us : List Value) (wr : World) : Prop where
  le : k ≤ m.length
  len : us.length = k
  grown : w.grownBy wr none
  own : OwnAll wr w.heap.size (⟨.slice (some ⟨g, 0, none⟩) m.length m.length, 23, us ++ List.replicate (m.length - k) (.slice none 0 0)⟩ :: List.zipWith row1 us (m.take k))
theorem Copying.cell {w wr : World} {g k : Nat} {m : List (List Int)} {us : List Value} (h : Copying w g m k us wr) (hk : k < m.length) : w.heap.size ≤ g ∧ wr.cell? ⟨g, k, none⟩ = some (.slice none 0 0) ∧ wr.frozen? ⟨g, k, none⟩ = false := by
  have ho := h.own.1 _ List.mem_cons_self
  unfold Item.Own at ho
  simp only [show (us ++ List.replicate (m.length - k) (Value.slice none 0 0)).length = m.length by rw [List.length_append, List.length_replicate, h.len]; omega] at ho
  have hc := World.ownsRow.cells ho (g := g) rfl k (.slice none 0 0) (by
    show (us ++ List.replicate (m.length - k) (.slice none 0 0))[k]? = _
    rw [List.getElem?_append_right (by rw [h.len]; omega), h.len, Nat.sub_self, List.getElem?_replicate, if_pos (by omega)])
  rw [Addr.add_lit] at hc
  exact ⟨(World.ownsRow.lt ho g rfl).1, by simpa using hc, World.ownsRow.frozenAt ho k⟩
theorem Copying.next {w wr w1 : World} {g k : Nat} {m : List (List Int)} {us : List Value} {u : Value} (h : Copying w g m k us wr) (hk : k < m.length) (hg : wr.grownBy w1 none) (ho : Own w1 wr.heap.size u (m.getD k [])) :
    Copying w g m (k + 1) (us ++ [u]) (w1.setCell ⟨g, k, none⟩ u) := by
  have h1 := h.own.join (M := [row1 u (m.getD k [])]) hg ⟨fun x hx => by simp at hx; subst hx; exact row1_own.2 ho, by simp⟩ h.grown.size
  have htop := h1.1 ⟨.slice (some ⟨g, 0, none⟩) m.length m.length, 23, us ++ List.replicate (m.length - k) (.slice none 0 0)⟩ (by simp)
  unfold Item.Own at htop
  have hn : (us ++ List.replicate (m.length - k) (Value.slice none 0 0)).length = m.length := by rw [List.length_append, List.length_replicate, h.len]; omega
  simp only [hn] at htop
  have hs := World.ownsRow.stored htop k u
  have e : (us ++ List.replicate (m.length - k) (Value.slice none 0 0)).set k u = (us ++ [u]) ++ List.replicate (m.length - (k + 1)) (.slice none 0 0) := by
    rw [List.set_append_right _ _ (by rw [h.len]; omega), h.len, Nat.sub_self, show m.length - k = (m.length - (k + 1)) + 1 by omega, List.replicate_succ, List.set_cons_zero, List.append_assoc]; rfl
  rw [e] at hs
  have h2 := OwnAll.put (A := [row1 u (m.getD k [])]) (x' := ⟨.slice (some ⟨g, 0, none⟩) m.length m.length, 23, (us ++ [u]) ++ List.replicate (m.length - (k + 1)) (.slice none 0 0)⟩) h1 rfl hs.2 (by
    unfold Item.Own
    have e2 : ((us ++ [u]) ++ List.replicate (m.length - (k + 1)) (Value.slice none 0 0)).length = m.length := by simp [h.len]; omega
    simp only [e2]
    exact hs.1)
  refine ⟨hk, by simp [h.len], ?_, ?_⟩
  · exact grown_own (grown_trans h.grown hg) hs.2 (fun q hq => (World.ownsRow.lt htop q hq).1)
  · have ez : List.zipWith row1 (us ++ [u]) (m.take (k + 1)) = List.zipWith row1 us (m.take k) ++ [row1 u (m.getD k [])] := by
      rw [take_more m hk, List.zipWith_append (by rw [h.len, List.length_take]; omega)]; rfl
    rw [ez]
    refine ⟨fun x hx => h2.1 x ?_, ?_⟩
    · simp only [List.mem_cons, List.mem_append, List.not_mem_nil, or_false] at hx ⊢
      rcases hx with h | h | h
      · exact .inr (.inl h)
      · exact .inr (.inr h)
      · exact .inl h
    · have hp := h2.2
      simp only [List.cons_append, List.nil_append, List.pairwise_cons, List.mem_cons, forall_eq_or_imp] at hp
      rw [List.pairwise_cons, List.pairwise_append]
      refine ⟨fun y hy => ?_, hp.2.2, by simp, fun y hy z hz => ?_⟩
      · rcases List.mem_append.1 hy with hy | hy
        · exact hp.2.1 y hy
        · simp at hy; subst hy; exact hp.1.1.symm
      · simp at hz; subst hz; exact (hp.1.2 y hy).symm
theorem infoInts : (Try.prog.info? 23).map (fun i => (i.zero, i.size, i.bytes)) = some (some (.slice none 0 0), 1, 24) := by kernel_rfl
end Go.Proofs.Ythglkgicckodaaa
namespace Go.Proofs.Ythglkgicckodaaa
open Go.RowKit
set_option linter.unusedVariables false
end Go.Proofs.Ythglkgicckodaaa
namespace Go.Proofs.Ythglkgicckodaaa
open Go.RowKit
set_option linter.unusedVariables false
def okM (m : List (List Int)) : Bool := decide (m.length ≤ 8) && m.all Vec.ok
theorem okM_len {m : List (List Int)} (h : okM m = true) : m.length ≤ 8 := by simp [okM] at h; exact h.1
theorem okM_all {m : List (List Int)} (h : okM m = true) : ∀ r ∈ m, Sp.Row 4 r := by
  intro r hr
  simp only [okM, Bool.and_eq_true, List.all_eq_true] at h
  exact Sp.row_ok.1 (h.2 r hr)
theorem okM_get {m : List (List Int)} (h : okM m = true) {i : Nat} (hi : i < m.length) : Vec.ok (m.getD i []) = true := by
  rw [List.getD_eq_getElem?_getD, List.getElem?_eq_getElem hi]; exact Sp.row_ok.2 (okM_all h _ (List.getElem_mem hi))
theorem okM_yes {m : List (List Int)} (h8 : m.length ≤ 8) (h : ∀ i, i < m.length → Vec.ok (m.getD i []) = true) : okM m = true := by
  simp only [okM, Bool.and_eq_true, List.all_eq_true, decide_eq_true_eq]
  refine ⟨h8, fun r hr => ?_⟩
  obtain ⟨i, hi, rfl⟩ := List.getElem_of_mem hr
  have := h i hi
  simpa [List.getD_eq_getElem?_getD, hi] using this
end Go.Proofs.Ythglkgicckodaaa
namespace Go.Proofs.Ythglkgicckodaaa
open Go.RowKit
set_option linter.unusedVariables false
def mixed (l l' : List Int) (k : Nat) : List Int := l'.take k ++ l.drop k
theorem mixed_none (l l' : List Int) : mixed l l' 0 = l := by simp [mixed]
theorem mixed_all {l l' : List Int} (h : l'.length = l.length) : mixed l l' l.length = l' := by
  unfold mixed; rw [List.drop_length, List.append_nil, List.take_of_length_le (by omega)]
theorem mixed_len {l l' : List Int} (h : l'.length = l.length) (k : Nat) : (mixed l l' k).length = l.length := by
  unfold mixed; rw [List.length_append, List.length_take, List.length_drop]; omega
theorem mixed_get {l l' : List Int} (h : l'.length = l.length) {k : Nat} (hk : k < l.length) : (mixed l l' k).getD k 0 = l.getD k 0 := by
  unfold mixed
  rw [List.getD_eq_getElem?_getD, List.getElem?_append_right (by rw [List.length_take]; omega), List.length_take, List.getElem?_drop, List.getD_eq_getElem?_getD]
  congr 2; omega
theorem mixed_set {l l' : List Int} (h : l'.length = l.length) {k : Nat} (hk : k < l.length) : (mixed l l' k).set k (l'.getD k 0) = mixed l l' (k + 1) := by
  unfold mixed
  rw [List.set_append_right _ _ (by rw [List.length_take]; omega), List.length_take, show k - min k l'.length = 0 by omega, List.drop_eq_getElem_cons hk, List.set_cons_zero,
    List.take_succ_eq_append_getElem (by omega), List.append_assoc]
  simp [List.getD_eq_getElem?_getD, show k < l'.length by omega]
theorem mixed_four {l l' : List Int} (h : l'.length = l.length) (hl : 4 ≤ l.length) : (((l.set 0 (l'.getD 0 0)).set 1 (l'.getD 1 0)).set 2 (l'.getD 2 0)).set 3 (l'.getD 3 0) = mixed l l' 4 := by
  have e := mixed_none l l'
  rw [← mixed_set h (k := 3) (by omega), ← mixed_set h (k := 2) (by omega), ← mixed_set h (k := 1) (by omega), ← mixed_set h (k := 0) (by omega), e]
def LineNow (g : Nat) (l : List Int) (w : World) (e : Ending) (w' : World) : Prop := e = .returned (.tuple #[]) ∧ w.grownBy w' (some g) ∧ Arr w' g 169 l
theorem grown_at {a w : World} {g : Nat} (h : a.grownBy w (some g)) (i : Nat) (u : Value) : a.grownBy (w.setCell ⟨g, i, none⟩ u) (some g) :=
  ⟨h.os, h.tape, h.output, by simpa [World.setCell] using h.size, fun k hk hr => (Below.heap_setCell w ⟨g, i, none⟩ u k (fun e => hr (by rw [e]))).trans (h.block k hk hr)⟩
theorem grown_some {a w : World} (h : a.grownBy w none) (g : Nat) : a.grownBy w (some g) := ⟨h.os, h.tape, h.output, h.size, fun k hk _ => h.block k hk (by simp)⟩
structure Lining (w : World) (g : Nat) (l l' : List Int) (k : Nat) (wr : World) : Prop where
  grown : w.grownBy wr (some g)
  arr : Arr wr g 169 (mixed l l' k)
theorem Lining.drew {w wr : World} {g k : Nat} {l l' : List Int} (h : Lining w g l l' k wr) : Lining w g l l' k wr.drew := ⟨grown_drew h.grown, h.arr.drew⟩
theorem Lining.next {w wr : World} {g k : Nat} {l l' : List Int} (h : Lining w g l l' k wr) (hl : l'.length = l.length) (hk : k < l.length) : Lining w g l l' (k + 1) (wr.setCell ⟨g, k, none⟩ (.int .i64 (l'.getD k 0))) :=
  ⟨grown_at h.grown _ _, by rw [← mixed_set hl hk]; exact h.arr.put _ _⟩
theorem Lining.first {w w1 : World} {g : Nat} {l l' : List Int} (hg : w.grownBy w1 none) (ha : Arr w g 169 l) (hl : l'.length = l.length) (h4 : 4 ≤ l.length) :
    Lining w g l l' 4 ((((w1.setCell ⟨g, 0, none⟩ (.int .i64 (l'.getD 0 0))).setCell ⟨g, 1, none⟩ (.int .i64 (l'.getD 1 0))).setCell ⟨g, 2, none⟩ (.int .i64 (l'.getD 2 0))).setCell ⟨g, 3, none⟩ (.int .i64 (l'.getD 3 0))) :=
  ⟨grown_at (grown_at (grown_at (grown_at (grown_some hg g) _ _) _ _) _ _) _ _, by rw [← mixed_four hl h4]; exact ((((ha.still hg).put _ _).put _ _).put _ _).put _ _⟩
theorem four_of_row {l : List Int} (h : Sp.Row 12 l) : ∃ x y z t r, l = x :: y :: z :: t :: r ∧ r.length = 8 ∧ Fld.ok x = true ∧ Fld.ok y = true ∧ Fld.ok z = true ∧ Fld.ok t = true := by
  match l, h.1 with
  | x :: y :: z :: t :: r, h4 => exact ⟨x, y, z, t, r, rfl, by simpa using h4, h.2 x (by simp), h.2 y (by simp), h.2 z (by simp), h.2 t (by simp)⟩
set_option maxHeartbeats 2000000 in
set_option maxRecDepth 20000 in
theorem lineScale (g : Nat) (l : List Int) (c : Int) (w : World) (h : Arr w g 169 l) (hl : Sp.Row 12 l) (hc : Fld.ok c = true) :
    Calls Try.prog 129 #[.pointer (some ⟨g, 0, none⟩), .int .i64 c] w (LineNow g (Sp.lmul l c) w) := by
  have LL : Hid ((Sp.lmul l c).length = l.length) := Lib.hid (by simp [Sp.lmul])
  have L12 := Lib.hid hl.1
  have OL := Lib.hid hl
  have A := Lib.hid h
  have SG := Lib.hid (fun (i : Nat) (hi : i < l.length) => Sp.lmul_get (l := l) c hi)
  obtain ⟨x, y, z, t, r, rfl, hr, hx, hy, hz, ht⟩ := four_of_row hl
  have a0 : w.cell? ⟨g, 0, none⟩ = some (.int .i64 x) := h.cell (by simp)
  have a1 : w.cell? ⟨g, 1, none⟩ = some (.int .i64 y) := h.cell (by simp)
  have a2 : w.cell? ⟨g, 2, none⟩ = some (.int .i64 z) := h.cell (by simp)
  have a3 : w.cell? ⟨g, 3, none⟩ = some (.int .i64 t) := h.cell (by simp)
  have hlt := h.lt
  clear h hl
  have HX := Lib.hid hx
  have HY := Lib.hid hy
  have HZ := Lib.hid hz
  have HT := Lib.hid ht
  clear hx hy hz ht
  go_enter Try.func129, Try.ntmps129
  go_wp2_with fail
  refine (rowScale [x, y, z, t] c _ (Vec.ok_mk HX.out HY.out HZ.out HT.out) hc).mono ?_
  rintro e w1 ⟨rfl, hg⟩
  have S0 : Hid (Lining w g (x :: y :: z :: t :: r) (Sp.lmul (x :: y :: z :: t :: r) c) 4 ((((w1.setCell ⟨g, 0, none⟩ (.int .i64 (x * c % 31))).setCell ⟨g, 1, none⟩ (.int .i64 (y * c % 31))).setCell ⟨g, 2, none⟩ (.int .i64 (z * c % 31))).setCell ⟨g, 3, none⟩ (.int .i64 (t * c % 31)))) := Lib.hid (Lining.first hg A.out LL.out (by simp))
  have b0 : w1.cell? ⟨g, 0, none⟩ = some (.int .i64 x) := (A.out.still hg).cell (by simp)
  have b1 : w1.cell? ⟨g, 1, none⟩ = some (.int .i64 y) := (A.out.still hg).cell (by simp)
  have b2 : w1.cell? ⟨g, 2, none⟩ = some (.int .i64 z) := (A.out.still hg).cell (by simp)
  have b3 : w1.cell? ⟨g, 3, none⟩ = some (.int .i64 t) := (A.out.still hg).cell (by simp)
  have f0 := (A.out.still hg).frozen 0
  have f1 := (A.out.still hg).frozen 1
  have f2 := (A.out.still hg).frozen 2
  have f3 := (A.out.still hg).frozen 3
  clear a0 a1 a2 a3 hg
  simp only [List.map_cons, List.map_nil, vals]
  go_wp2_with fail
  clear b0 b1 b2 b3 f0 f1 f2 f3
  generalize ((((w1.setCell ⟨g, 0, none⟩ (.int .i64 (x * c % 31))).setCell ⟨g, 1, none⟩ (.int .i64 (y * c % 31))).setCell ⟨g, 2, none⟩ (.int .i64 (z * c % 31))).setCell ⟨g, 3, none⟩ (.int .i64 (t * c % 31))) = w2 at *
  obtain ⟨l, hle⟩ : ∃ l, x :: y :: z :: t :: r = l := ⟨_, rfl⟩
  rw [hle] at S0 LL L12 OL A SG
  have E := Lib.hid hle
  clear hle
  go_loopw [14] (fun i wr => ∃ k : Nat, k ≤ 8 ∧ i = .int .i64 k ∧ Lining w g l (Sp.lmul l c) (4 + k) wr) (fun i _ => 8 - (intOf i).toNat)
  case atStart => exact ⟨0, by omega, rfl, S0.out⟩
  case round =>
    obtain ⟨k, hk, rfl, hs⟩ := hrel
    by_cases hlt : k < 8
    · have hk12 : 4 + k < l.length := by have := L12.out; omega
      have S := Lib.hid hs.drew
      have c0 : wr.drew.cell? ⟨g, 4 + k, none⟩ = some (.int .i64 (l.getD (4 + k) 0)) := by rw [S.out.arr.cell (by rw [mixed_len LL.out]; exact hk12), mixed_get LL.out hk12]
      have f0 : wr.drew.frozen? ⟨g, 4 + k, none⟩ = false := S.out.arr.frozen _
      have sg := SG.out _ hk12
      have p0 := OL.out.get (4 + k)
      obtain ⟨p, hp⟩ : ∃ p, l.getD (4 + k) 0 = p := ⟨_, rfl⟩
      rw [hp] at c0 p0 sg
      have P := Lib.hid sg
      have hlt' : (k : Int) < 8 := by omega
      clear hs hp sg S0
      go_wp2_with fail
      refine wp_region_still_tail 13 (by kernel_rfl) (by kernel_rfl) ?_
      simp only [List.take_succ_cons, List.take_zero, List.drop_succ_cons, List.drop_zero]
      change wpStill _ _ wr.drew (fun a' => wpList _ _ _ _ a' wr.drew) _ _
      generalize wr.drew = w3 at *
      repeat still_step
      refine wpStill_step (fun K hK => ?_)
      go_simp
      refine ⟨_, stillMul _ _ _ p0 hc, hK _ ?_⟩
      clear hK K
      repeat still_step
      refine wpStill_nil ?_
      go_wp2_with fail
      go_roundw
      case rel => exact ⟨k + 1, by omega, by go_num, by have := S.out.next LL.out hk12; rw [P.out] at this; exact this⟩
      case measure => simp [intOf]; omega
    · have : k = 8 := by omega
      subst this
      have G := Lib.hid hs.grown
      have B : Hid (Arr wr g 169 (Sp.lmul l c)) := Lib.hid (by have := hs.arr; rw [show 4 + 8 = l.length from L12.out.symm, mixed_all LL.out] at this; exact this)
      clear hs S0
      go_wp2_with fail
      exact bodyPost_ret (v := .tuple #[]) (by simp [results, Try.results129, go_sem]) rfl ⟨rfl, G.out, by rw [E.out]; exact B.out⟩
theorem add_short (a b : Int) : (a + b % 31) % 31 = (a + b) % 31 := by omega
theorem ok_scale4 {x y z t c : Int} : Vec.ok [x * c % 31, y * c % 31, z * c % 31, t * c % 31] = true := Vec.ok_mk (Vec.mod_is _) (Vec.mod_is _) (Vec.mod_is _) (Vec.mod_is _)
set_option maxHeartbeats 2000000 in
set_option maxRecDepth 20000 in
theorem lineAdd (g k : Nat) (l m : List Int) (c : Int) (w : World) (h : Arr w g 169 l) (h' : Arr w k 169 m) (hne : k ≠ g) (hl : Sp.Row 12 l) (hm : Sp.Row 12 m) (hc : Fld.ok c = true) :
    Calls Try.prog 135 #[.pointer (some ⟨g, 0, none⟩), .pointer (some ⟨k, 0, none⟩), .int .i64 c] w (LineNow g (Sp.ladd l (Sp.lmul m c)) w) := by
  have LL : Hid ((Sp.ladd l (Sp.lmul m c)).length = l.length) := Lib.hid (by simp [Sp.ladd, Sp.lmul, hl.1, hm.1])
  have L12 := Lib.hid hl.1
  have M12 := Lib.hid hm.1
  have OL := Lib.hid hl
  have OM := Lib.hid hm
  have A := Lib.hid h
  have B := Lib.hid h'
  have NE := Lib.hid hne
  have SG : Hid (∀ (i : Nat), i < 12 → (Sp.ladd l (Sp.lmul m c)).getD i 0 = (l.getD i 0 + m.getD i 0 * c) % 31) := Lib.hid (fun i hi => by
    rw [← add_short, Sp.ladd_get (by rw [hl.1]; exact hi) (by simp [Sp.lmul, hm.1]; exact hi), Sp.lmul_get c (by rw [hm.1]; exact hi)])
  obtain ⟨x, y, z, t, r, rfl, hr, hx, hy, hz, ht⟩ := four_of_row hl
  obtain ⟨x', y', z', t', r', rfl, hr', hx', hy', hz', ht'⟩ := four_of_row hm
  have a0 : w.drew.cell? ⟨g, 0, none⟩ = some (.int .i64 x) := h.drew.cell (by simp)
  have a1 : w.drew.cell? ⟨g, 1, none⟩ = some (.int .i64 y) := h.drew.cell (by simp)
  have a2 : w.drew.cell? ⟨g, 2, none⟩ = some (.int .i64 z) := h.drew.cell (by simp)
  have a3 : w.drew.cell? ⟨g, 3, none⟩ = some (.int .i64 t) := h.drew.cell (by simp)
  have b0 : w.drew.cell? ⟨k, 0, none⟩ = some (.int .i64 x') := h'.drew.cell (by simp)
  have b1 : w.drew.cell? ⟨k, 1, none⟩ = some (.int .i64 y') := h'.drew.cell (by simp)
  have b2 : w.drew.cell? ⟨k, 2, none⟩ = some (.int .i64 z') := h'.drew.cell (by simp)
  have b3 : w.drew.cell? ⟨k, 3, none⟩ = some (.int .i64 t') := h'.drew.cell (by simp)
  have KX := Lib.hid (Vec.ok_mk hx hy hz ht)
  have KY := Lib.hid (Vec.ok_mk hx' hy' hz' ht')
  clear h h' hl hm hx hy hz ht hx' hy' hz' ht' hne
  go_enter Try.func135, Try.ntmps135
  go_wp2_with fail
  go_region_with (first
      | (go_at_call 134; refine (rowScale [x', y', z', t'] c _ KY.out hc).mono ?_; rintro e w1 ⟨rfl, hg1⟩
         have G1 := Lib.hid hg1
         have c0 := hg1.cell b0 (by simp)
         have c1 := hg1.cell b1 (by simp)
         have c2 := hg1.cell b2 (by simp)
         have c3 := hg1.cell b3 (by simp)
         have e0 := hg1.cell a0 (by simp)
         have e1 := hg1.cell a1 (by simp)
         have e2 := hg1.cell a2 (by simp)
         have e3 := hg1.cell a3 (by simp)
         clear hg1
         simp only [List.map_cons, List.map_nil, vals])
      | (go_at_call 136; refine (rowSum [x, y, z, t] [x' * c % 31, y' * c % 31, z' * c % 31, t' * c % 31] _ KX.out ok_scale4).mono ?_; rintro e w2 ⟨rfl, hg2⟩
         have G2 := Lib.hid hg2
         have d0 := hg2.cell c0 (by simp)
         have d1 := hg2.cell c1 (by simp)
         have d2 := hg2.cell c2 (by simp)
         have d3 := hg2.cell c3 (by simp)
         have q0 := hg2.cell e0 (by simp)
         have q1 := hg2.cell e1 (by simp)
         have q2 := hg2.cell e2 (by simp)
         have q3 := hg2.cell e3 (by simp)
         have f0 := ((A.out.drew.still G1.out).still hg2).frozen 0
         have f1 := ((A.out.drew.still G1.out).still hg2).frozen 1
         have f2 := ((A.out.drew.still G1.out).still hg2).frozen 2
         have f3 := ((A.out.drew.still G1.out).still hg2).frozen 3
         clear hg2
         simp only [List.zipWith_cons_cons, List.zipWith_nil_right, List.map_cons, List.map_nil, vals]))
  all_goals
    have S0 : Hid (Lining w g (x :: y :: z :: t :: r) (Sp.ladd (x :: y :: z :: t :: r) (Sp.lmul (x' :: y' :: z' :: t' :: r') c)) 4 ((((w2.setCell ⟨g, 0, none⟩ (.int .i64 ((x + x' * c % 31) % 31))).setCell ⟨g, 1, none⟩ (.int .i64 ((y + y' * c % 31) % 31))).setCell ⟨g, 2, none⟩ (.int .i64 ((z + z' * c % 31) % 31))).setCell ⟨g, 3, none⟩ (.int .i64 ((t + t' * c % 31) % 31)))) := Lib.hid (Lining.first (grown_trans (grown_trans (grown_drew (World.grownBy.refl _ _)) G1.out) G2.out) A.out LL.out (by simp))
    simp only [add_short] at S0
    clear a0 a1 a2 a3 b0 b1 b2 b3 c0 c1 c2 c3 d0 d1 d2 d3 e0 e1 e2 e3 q0 q1 q2 q3 f0 f1 f2 f3 G1 G2 KX KY
    go_wp2_with fail
    generalize ((((w2.setCell ⟨g, 0, none⟩ (.int .i64 ((x + x' * c) % 31))).setCell ⟨g, 1, none⟩ (.int .i64 ((y + y' * c) % 31))).setCell ⟨g, 2, none⟩ (.int .i64 ((z + z' * c) % 31))).setCell ⟨g, 3, none⟩ (.int .i64 ((t + t' * c) % 31))) = w3 at *
    obtain ⟨l, hle⟩ : ∃ l, x :: y :: z :: t :: r = l := ⟨_, rfl⟩
    obtain ⟨m, hme⟩ : ∃ m, x' :: y' :: z' :: t' :: r' = m := ⟨_, rfl⟩
    rw [hle, hme] at S0
    rw [hle] at L12 OL
    rw [hme] at M12 OM B
    rw [hle, hme] at LL SG
    have E := Lib.hid hle
    have E' := Lib.hid hme
    clear hle hme
    go_loopw [21] (fun i wr => ∃ j : Nat, j ≤ 8 ∧ i = .int .i64 j ∧ Lining w g l (Sp.ladd l (Sp.lmul m c)) (4 + j) wr) (fun i _ => 8 - (intOf i).toNat)
    case atStart => exact ⟨0, by omega, rfl, S0.out⟩
    case round =>
      obtain ⟨j, hj, rfl, hs⟩ := hrel
      by_cases hlt : j < 8
      · have hk12 : 4 + j < l.length := by have := L12.out; omega
        have S := Lib.hid hs.drew
        have c0 : wr.drew.cell? ⟨g, 4 + j, none⟩ = some (.int .i64 (l.getD (4 + j) 0)) := by rw [S.out.arr.cell (by rw [mixed_len LL.out]; exact hk12), mixed_get LL.out hk12]
        have f0 : wr.drew.frozen? ⟨g, 4 + j, none⟩ = false := S.out.arr.frozen _
        have c1 : wr.drew.cell? ⟨k, 4 + j, none⟩ = some (.int .i64 (m.getD (4 + j) 0)) := (B.out.kept S.out.grown (fun e => NE.out (by injection e))).cell (by have := M12.out; omega)
        have sg := SG.out (4 + j) (by omega)
        have p0 := OL.out.get (4 + j)
        have p1 := OM.out.get (4 + j)
        obtain ⟨p, hp⟩ : ∃ p, l.getD (4 + j) 0 = p := ⟨_, rfl⟩
        obtain ⟨q, hq⟩ : ∃ q, m.getD (4 + j) 0 = q := ⟨_, rfl⟩
        rw [hp] at c0 p0 sg
        rw [hq] at c1 p1 sg
        have P := Lib.hid sg
        have hlt' : (j : Int) < 8 := by omega
        have PM : Hid (Fld.ok (q * c % 31) = true) := Lib.hid (Vec.mod_is _)
        clear hs hp hq sg S0
        go_wp2_with fail
        refine wp_region_still_tail 20 (by kernel_rfl) (by kernel_rfl) ?_
        simp only [List.take_succ_cons, List.take_zero, List.drop_succ_cons, List.drop_zero]
        change wpStill _ _ wr.drew (fun a' => wpList _ _ _ _ a' wr.drew) _ _
        generalize wr.drew = w4 at *
        repeat still_step
        refine wpStill_step (fun K hK => ?_)
        go_simp
        refine ⟨_, stillMul _ _ _ p1 hc, hK _ ?_⟩
        clear hK K
        refine wpStill_step (fun K hK => ?_)
        go_simp
        refine ⟨_, stillSum _ _ _ p0 PM.out, hK _ ?_⟩
        clear hK K
        repeat still_step
        refine wpStill_nil ?_
        go_wp2_with fail
        go_roundw
        case rel => exact ⟨j + 1, by omega, by go_num, by have := S.out.next LL.out hk12; rw [P.out] at this; exact this⟩
        case measure => simp [intOf]; omega
      · have : j = 8 := by omega
        subst this
        have G := Lib.hid hs.grown
        have BB : Hid (Arr wr g 169 (Sp.ladd l (Sp.lmul m c))) := Lib.hid (by have := hs.arr; rw [show 4 + 8 = l.length from L12.out.symm, mixed_all LL.out] at this; exact this)
        clear hs S0
        go_wp2_with fail
        exact bodyPost_ret (v := .tuple #[]) (by simp [results, Try.results135, go_sem]) rfl ⟨rfl, G.out, by rw [E.out, E'.out]; exact BB.out⟩
set_option maxHeartbeats 1000000 in
set_option maxRecDepth 20000 in
theorem lineClear (g k p : Nat) (l m : List Int) (w : World) (h : Arr w g 169 l) (h' : Arr w k 169 m) (hne : k ≠ g) (hl : Sp.Row 12 l) (hm : Sp.Row 12 m) (hp : p < 4) :
    Calls Try.prog 133 #[.pointer (some ⟨g, 0, none⟩), .int .i64 p, .pointer (some ⟨k, 0, none⟩)] w (LineNow g (Sp.lclear p l m) w) := by
  have A := Lib.hid h
  have B := Lib.hid h'
  have OL := Lib.hid hl
  have OM := Lib.hid hm
  have NE := Lib.hid hne
  have c0 : w.cell? ⟨g, p, none⟩ = some (.int .i64 (l.getD p 0)) := h.cell (by rw [hl.1]; omega)
  have p0 := hl.get p
  have LC : Hid (Sp.lclear p l m = Sp.ladd l (Sp.lmul m (-(l.getD p 0) % 31))) := Lib.hid rfl
  obtain ⟨x, hx⟩ : ∃ x, l.getD p 0 = x := ⟨_, rfl⟩
  rw [hx] at c0 p0 LC
  have hp' : (p : Int) < 4 := by omega
  clear h h' hl hm hne hx
  go_enter Try.func133, Try.ntmps133
  go_wp2_with fail
  refine (elemDif 0 x _ rfl p0).mono ?_
  rintro e w' ⟨rfl, rfl⟩
  rw [show (0 - x) % 31 = -x % 31 by rw [Int.zero_sub]]
  obtain ⟨c, hc⟩ : ∃ c, -x % 31 = c := ⟨_, rfl⟩
  rw [hc] at LC ⊢
  have C : Hid (Fld.ok c = true) := Lib.hid (hc ▸ Vec.mod_is _)
  clear hc
  go_wp2_with fail
  refine (lineAdd g k l m c _ A.out B.out NE.out OL.out OM.out C.out).mono ?_
  rintro e w2 ⟨rfl, hg, ha⟩
  have G := Lib.hid hg
  have HA := Lib.hid ha
  clear hg ha
  go_wp2_with fail
  exact bodyPost_ret (v := .tuple #[]) (by simp [results, Try.results133, go_sem]) rfl ⟨rfl, G.out, by rw [LC.out]; exact HA.out⟩
end Go.Proofs.Ythglkgicckodaaa
namespace Go.Proofs.Ythglkgicckodaaa
open Go.RowKit
set_option linter.unusedVariables false
def Blk (w : World) (g : Nat) (t : TypeId) (cs : List Value) : Prop := w.heap[g]? = some (.cells cs.toArray t (0, 0))
namespace Blk
variable {w w' : World} {g b : Nat} {t t' : TypeId} {cs ds : List Value}
theorem lt (h : Blk w g t cs) : g < w.heap.size := by
  rcases Nat.lt_or_ge g w.heap.size with hlt | hge
  · exact hlt
  · unfold Blk at h; rw [Array.getElem?_eq_none hge] at h; cases h
theorem cell (h : Blk w g t cs) {i : Nat} {v : Value} (hi : cs[i]? = some v) : w.cell? ⟨g, i, none⟩ = some v := by
  rw [cell_of_row w g i _ t (0, 0) h]; simpa using hi
theorem frozen (h : Blk w g t cs) (i : Nat) : w.frozen? ⟨g, i, none⟩ = false := frozen_of_row w g i _ t h
theorem kept {r : Option Nat} (h : Blk w g t cs) (hg : w.grownBy w' r) (hr : some g ≠ r) : Blk w' g t cs := (hg.block g h.lt hr).trans h
theorem put (h : Blk w g t cs) (i : Nat) (v : Value) : Blk (w.setCell ⟨g, i, none⟩ v) g t (cs.set i v) := by
  have e := heap_setCell_same w g i _ t v h
  unfold Blk
  rw [e]
  simp
theorem ne (h : Blk w g t cs) (k : Blk w b t' ds) (ht : t ≠ t') : g ≠ b := by
  rintro rfl
  unfold Blk at h k
  rw [h] at k
  injection k with k
  injection k with _ k
  exact ht k
end Blk
theorem Arr.blk {w : World} {g : Nat} {t : TypeId} {l : List Int} (h : Arr w g t l) : Blk w g t (vals l) := h
theorem own_type {w : World} {base g : Nat} {v : Value} {l : List Int} {t : TypeId} {cs : List Value} (h : Own w base v l) (k : Blk w g t cs) (ht : t ≠ 3) : some g ≠ v.ownBlock := by
  rcases h.2 with ⟨rfl, _⟩ | ⟨b, cap, cur, rfl, _, hg, _⟩
  · simp [Value.ownBlock]
  · intro e
    have e' : g = b := by simpa [Value.ownBlock] using e
    subst e'
    unfold Blk at k
    rw [hg] at k
    injection k with k
    injection k with _ k
    exact ht k.symm
structure Ech (w : World) (base g : Nat) (q : Nat → Option Addr) (S : Sp.Cols) (pv : Value) (ps : List Int) : Prop where
  low : base ≤ g
  blk : Blk w g 160 [.pointer (q 0), .pointer (q 1), .pointer (q 2), .pointer (q 3), pv]
  col : ∀ j, (q j = none ∧ S j = none) ∨ ∃ b l, q j = some ⟨b, 0, none⟩ ∧ S j = some l ∧ base ≤ b ∧ Arr w b 169 l
  far : ∀ i j b, q i = some b → q j = some b → i = j
  hi : ∀ j, 4 ≤ j → S j = none
  own : Own w base pv ps
namespace Ech
variable {w w' : World} {base g : Nat} {q : Nat → Option Addr} {S : Sp.Cols} {pv : Value} {ps : List Int}
theorem grown (h : Ech w base g q S pv ps) (hg : w.grownBy w' none) : Ech w' base g q S pv ps := by
  refine ⟨h.low, h.blk.kept hg (by simp), fun j => ?_, h.far, h.hi, h.own.still hg⟩
  rcases h.col j with h0 | ⟨b, l, h1, h2, h3, h4⟩
  · exact .inl h0
  · exact .inr ⟨b, l, h1, h2, h3, h4.still hg⟩
theorem other (h : Ech w base g q S pv ps) {a : Nat} {l : List Int} (ha : Arr w a 169 l) (hne : ∀ j b, q j = some ⟨b, 0, none⟩ → b ≠ a) (hg : w.grownBy w' (some a)) : Ech w' base g q S pv ps := by
  refine ⟨h.low, h.blk.kept hg (fun e => h.blk.ne ha.blk (by decide) (by injection e)), fun j => ?_, h.far, h.hi, h.own.kept hg ?_⟩
  · rcases h.col j with h0 | ⟨b, l, h1, h2, h3, h4⟩
    · exact .inl h0
    · exact .inr ⟨b, l, h1, h2, h3, h4.kept hg (fun e => hne j b h1 (by injection e))⟩
  · exact .inr (fun e => own_type h.own ha.blk (by decide) e.symm)
theorem line (h : Ech w base g q S pv ps) {j b : Nat} {l : List Int} (hq : q j = some ⟨b, 0, none⟩) (hg : w.grownBy w' (some b)) (ha : Arr w' b 169 l) : Ech w' base g q (fun i => if i = j then some l else S i) pv ps := by
  obtain ⟨l0, hs, hb, ha0⟩ : ∃ l0, S j = some l0 ∧ base ≤ b ∧ Arr w b 169 l0 := by
    rcases h.col j with h0 | ⟨b', l', h1, h2, h3, h4⟩
    · rw [h0.1] at hq; cases hq
    · rw [hq] at h1
      injection h1 with h1
      injection h1 with h1
      subst h1
      exact ⟨l', h2, h3, h4⟩
  refine ⟨h.low, h.blk.kept hg (fun e => h.blk.ne ha0.blk (by decide) (by injection e)), fun i => ?_, h.far, fun i hi => ?_, h.own.kept hg ?_⟩
  · by_cases e : i = j
    · subst e
      exact .inr ⟨b, l, hq, by simp, hb, ha⟩
    · rcases h.col i with h0 | ⟨b', l', h1, h2, h3, h4⟩
      · exact .inl ⟨h0.1, by simp [e, h0.2]⟩
      · refine .inr ⟨b', l', h1, by simp [e, h2], h3, h4.kept hg (fun x => e ?_)⟩
        have : b' = b := by injection x
        subst this
        exact h.far i j _ h1 hq
  · by_cases e : i = j
    · subst e; rw [h.hi i hi] at hs; cases hs
    · simp [e, h.hi i hi]
  · exact .inr (fun e => own_type h.own ha0.blk (by decide) e.symm)
theorem put (h : Ech w base g q S pv ps) {p a : Nat} {l : List Int} (hp : p < 4) (hq : q p = none) (ha : Arr w a 169 l) (hb : base ≤ a) (hne : ∀ j b, q j = some ⟨b, 0, none⟩ → b ≠ a) :
    Ech (w.setCell ⟨g, p, none⟩ (.pointer (some ⟨a, 0, none⟩))) base g (fun j => if j = p then some ⟨a, 0, none⟩ else q j) (fun j => if j = p then some l else S j) pv ps := by
  have hag : a ≠ g := fun e => h.blk.ne ha.blk (by decide) e.symm
  refine ⟨h.low, ?_, fun j => ?_, fun i j b hi hj => ?_, fun j hj => ?_, ?_⟩
  · have := h.blk.put p (.pointer (some ⟨a, 0, none⟩))
    have hp' : p = 0 ∨ p = 1 ∨ p = 2 ∨ p = 3 := by omega
    rcases hp' with rfl | rfl | rfl | rfl <;> exact this
  · by_cases e : j = p
    · subst e
      exact .inr ⟨a, l, by simp, by simp, hb, ha.far hag _⟩
    · rcases h.col j with h0 | ⟨b', l', h1, h2, h3, h4⟩
      · exact .inl ⟨by simp [e, h0.1], by simp [e, h0.2]⟩
      · exact .inr ⟨b', l', by simp [e, h1], by simp [e, h2], h3, h4.far (fun x => h.blk.ne h4.blk (by decide) x.symm) _⟩
  · by_cases e1 : i = p
    · by_cases e2 : j = p
      · rw [e1, e2]
      · rw [if_pos e1] at hi
        rw [if_neg e2] at hj
        injection hi with hi
        subst hi
        exact absurd rfl (hne j a hj)
    · by_cases e2 : j = p
      · rw [if_neg e1] at hi
        rw [if_pos e2] at hj
        injection hj with hj
        subst hj
        exact absurd rfl (hne i a hi)
      · rw [if_neg e1] at hi
        rw [if_neg e2] at hj
        exact h.far i j b hi hj
  · rw [if_neg (by omega)]; exact h.hi j hj
  · have := World.grownBy.refl w (some g)
    exact h.own.kept (grown_at this p (.pointer (some ⟨a, 0, none⟩))) (.inr fun e => own_type h.own h.blk (by decide) e.symm)
theorem first (h : Ech w base g q S pv ps) {w1 : World} {pv' : Value} {ps' : List Int} (hg : w.grownBy w1 pv.ownBlock) (ho : Own w1 base pv' ps') : Ech (w1.setCell ⟨g, 4, none⟩ pv') base g q S pv' ps' := by
  have hb := h.blk.kept hg (own_type h.own h.blk (by decide))
  refine ⟨h.low, hb.put 4 pv', fun j => ?_, h.far, h.hi, ?_⟩
  · rcases h.col j with h0 | ⟨b, l, h1, h2, h3, h4⟩
    · exact .inl h0
    · exact .inr ⟨b, l, h1, h2, h3, (h4.kept hg (own_type h.own h4.blk (by decide))).far (fun x => h.blk.ne h4.blk (by decide) x.symm) _⟩
  · exact ho.kept (grown_at (World.grownBy.refl w1 (some g)) 4 pv') (.inr fun e => own_type ho hb (by decide) e.symm)
theorem some_ (h : Ech w base g q S pv ps) {j b : Nat} (hq : q j = some ⟨b, 0, none⟩) : ∃ l, S j = some l ∧ base ≤ b ∧ Arr w b 169 l := by
  rcases h.col j with h0 | ⟨b', l', h1, h2, h3, h4⟩
  · rw [h0.1] at hq; cases hq
  · rw [hq] at h1
    injection h1 with h1
    injection h1 with h1
    subst h1
    exact ⟨l', h2, h3, h4⟩
end Ech
theorem idxP0 (a b c d : Option Addr) (W : World) : (Instr.index 158 (.agg #[.pointer a, .pointer b, .pointer c, .pointer d]) (.int .i64 0)).run Try.prog W = .ok (.pointer a) W := by kernel_rfl
theorem idxP1 (a b c d : Option Addr) (W : World) : (Instr.index 158 (.agg #[.pointer a, .pointer b, .pointer c, .pointer d]) (.int .i64 1)).run Try.prog W = .ok (.pointer b) W := by kernel_rfl
theorem idxP2 (a b c d : Option Addr) (W : World) : (Instr.index 158 (.agg #[.pointer a, .pointer b, .pointer c, .pointer d]) (.int .i64 2)).run Try.prog W = .ok (.pointer c) W := by kernel_rfl
theorem idxP3 (a b c d : Option Addr) (W : World) : (Instr.index 158 (.agg #[.pointer a, .pointer b, .pointer c, .pointer d]) (.int .i64 3)).run Try.prog W = .ok (.pointer d) W := by kernel_rfl
theorem idxP (q : Nat → Option Addr) (k : Nat) (hk : k < 4) (W : World) : (Instr.index 158 (.agg #[.pointer (q 0), .pointer (q 1), .pointer (q 2), .pointer (q 3)]) (.int .i64 k)).run Try.prog W = .ok (.pointer (q k)) W := by
  match k, hk with
  | 0, _ => exact idxP0 _ _ _ _ W
  | 1, _ => exact idxP1 _ _ _ _ W
  | 2, _ => exact idxP2 _ _ _ _ W
  | 3, _ => exact idxP3 _ _ _ _ W
set_option maxHeartbeats 1000000 in
set_option maxRecDepth 20000 in
/-- a line is reduced. -/
theorem echReduce (base g a : Nat) (q : Nat → Option Addr) (S : Sp.Cols) (pv : Value) (ps l : List Int) (w : World) (hE : Ech w base g q S pv ps) (ha : Arr w a 169 l) (hl : Sp.Row 12 l) (hS : ∀ j l, S j = some l → Sp.Row 12 l) (hne : ∀ j b, q j = some ⟨b, 0, none⟩ → b ≠ a) :
    Calls Try.prog 127 #[.pointer (some ⟨g, 0, none⟩), .pointer (some ⟨a, 0, none⟩)] w (LineNow a (Sp.red S 4 l) w) := by
  have c0 := hE.blk.cell (i := 0) rfl
  have c1 := hE.blk.cell (i := 1) rfl
  have c2 := hE.blk.cell (i := 2) rfl
  have c3 := hE.blk.cell (i := 3) rfl
  have E := Lib.hid hE
  have A := Lib.hid ha
  have R := Lib.hid hl
  have RS := Lib.hid hS
  have NE := Lib.hid hne
  clear hE ha hl hS hne
  go_enter Try.func127, Try.ntmps127
  go_wp2_with fail
  clear c0 c1 c2 c3
  go_loopw [10] (fun i wr => ∃ k : Nat, k ≤ 4 ∧ i = .int .i64 k ∧ w.grownBy wr (some a) ∧ Arr wr a 169 (Sp.red S k l)) (fun i _ => 4 - (intOf i).toNat)
  case atStart => exact ⟨0, by omega, rfl, World.grownBy.refl _ _, A.out⟩
  case round =>
    obtain ⟨k, hk, rfl, hg, har⟩ := hrel
    have G := Lib.hid hg
    have AR := Lib.hid har
    clear hg har
    by_cases hlt : k < 4
    · have hlt' : (k : Int) < 4 := by omega
      have hidx := idxP q k hlt wr
      rcases E.out.col k with ⟨hq, hs⟩ | ⟨b, m, hq, hs, hb, hm⟩
      · rw [hq] at hidx
        have RN := Lib.hid (Sp.red_none hs l)
        clear hq hs
        go_wp2_with fail
        go_roundw
        case rel => exact ⟨k + 1, by omega, by go_num, G.out, by rw [RN.out]; exact AR.out⟩
        case measure => simp [intOf]; omega
      · rw [hq] at hidx
        have RN := Lib.hid (Sp.red_some hs l)
        have BA : Hid (b ≠ a) := Lib.hid (NE.out k b hq)
        have MR := Lib.hid (RS.out k m hs)
        have M := Lib.hid (hm.kept G.out (fun e => BA.out (by injection e)))
        have LR := Lib.hid (Sp.red_row RS.out R.out k)
        clear hq hs hm
        go_wp2_with fail
        refine (lineClear a b k (Sp.red S k l) m _ AR.out M.out BA.out LR.out MR.out hlt).mono ?_
        rintro e w2 ⟨rfl, hg, ha⟩
        have G2 := Lib.hid (grown_trans G.out hg)
        have A2 : Hid (Arr w2 a 169 (Sp.red S (k + 1) l)) := Lib.hid (by rw [RN.out]; exact ha)
        clear hg ha hidx
        go_wp2_with fail
        go_roundw
        case rel => exact ⟨k + 1, by omega, by go_num, G2.out, A2.out⟩
        case measure => simp [intOf]; omega
    · have : k = 4 := by omega
      subst this
      go_wp2_with fail
      exact bodyPost_ret (v := .tuple #[]) (by simp [results, Try.results127, go_sem]) rfl ⟨rfl, G.out, AR.out⟩
end Go.Proofs.Ythglkgicckodaaa
namespace Go.Proofs.Ythglkgicckodaaa
open Go.RowKit
set_option linter.unusedVariables false
namespace Sp
theorem first_len (m : List (List Int)) : (firsts has m).length ≤ m.length := by
  unfold firsts
  have := List.length_filter_le (fun i => !has (m.take i) (m.getD i [])) (List.range m.length)
  rwa [List.length_range] at this
def insK (S : Cols) (p : Nat) (v : List Int) (k : Nat) : Cols := fun j => if j < k then (S j).map (fun l => lclear p l v) else S j
theorem insK_none {S : Cols} {p k : Nat} {v : List Int} (h : S k = none) : insK S p v (k + 1) = insK S p v k := by
  funext j
  unfold insK
  by_cases e : j = k
  · subst e; simp [h]
  · by_cases hj : j < k
    · rw [if_pos (by omega), if_pos hj]
    · rw [if_neg (by omega), if_neg hj]
theorem insK_some {S : Cols} {p k : Nat} {v l : List Int} (h : S k = some l) : (fun i => if i = k then some (lclear p l v) else insK S p v k i) = insK S p v (k + 1) := by
  funext j
  unfold insK
  by_cases e : j = k
  · subst e; simp [h]
  · rw [if_neg e]
    by_cases hj : j < k
    · rw [if_pos hj, if_pos (by omega)]
    · rw [if_neg hj, if_neg (by omega)]
theorem insK_at (S : Cols) (p : Nat) (v : List Int) (k : Nat) : insK S p v k k = S k := by simp [insK]
theorem insK_zero (S : Cols) (p : Nat) (v : List Int) : insK S p v 0 = S := by funext j; simp [insK]
theorem insK_all {S : Cols} {p : Nat} {v : List Int} (h : ∀ j, 4 ≤ j → S j = none) : (fun j => if j = p then some v else insK S p v 4 j) = insS S p v := by
  funext j
  unfold insS insK
  by_cases e : j = p
  · simp [e]
  · rw [if_neg e, if_neg e]
    by_cases hj : j < 4
    · rw [if_pos hj]
    · rw [if_neg hj, h j (by omega)]; rfl
end Sp
theorem new_line (x y z t : Int) (n : Nat) : [x, y, z, t, 0, 0, 0, 0, 0, 0, 0, 0].set (4 + n) 1 = [x, y, z, t] ++ Sp.none8.set n 1 := by
  have e : [x, y, z, t, 0, 0, 0, 0, 0, 0, 0, 0] = [x, y, z, t] ++ Sp.none8 := rfl
  rw [e, List.set_append_right _ _ (by simp)]
  congr 2
  simp
theorem ptr_at (q : Nat → Option Addr) (pv : Value) {p : Nat} (h : p < 4) : [Value.pointer (q 0), .pointer (q 1), .pointer (q 2), .pointer (q 3), pv][p]? = some (.pointer (q p)) := by
  match p, h with
  | 0, _ => rfl
  | 1, _ => rfl
  | 2, _ => rfl
  | 3, _ => rfl
theorem one_cell_at {w : World} {k : Nat} {u : Value} {t : TypeId} (hk : w.heap.size = k) : ∀ j v, [u][j]? = some v → (w.alloc (.cells #[u] t)).cell? ((⟨k, 0, none⟩ : Addr).add j) = some v := by
  subst hk; exact one_cell (g := 0)
theorem size_set (w : World) (p : Addr) (v : Value) : (w.setCell p v).heap.size = w.heap.size := by simp [World.setCell]
def Took (m : List (List Int)) (n base g : Nat) (w : World) (e : Ending) (w' : World) : Prop :=
  e = .returned (.tuple #[]) ∧ Below base w w' ∧ ∃ q S pv pn, Ech w' base g q S pv (pn.map fun (i : Nat) => (i : Int)) ∧ Sp.Stand m (n + 1) S pn
set_option maxHeartbeats 2000000 in
set_option maxRecDepth 20000 in
theorem echTake (base g n : Nat) (q : Nat → Option Addr) (S : Sp.Cols) (pv : Value) (pn : List Nat) (m : List (List Int)) (x y z t : Int) (w : World) (hE : Ech w base g q S pv (pn.map fun (i : Nat) => (i : Int))) (hb : base ≤ w.heap.size)
    (hS : Sp.Stand m n S pn) (hm : ∀ r ∈ m, Sp.Row 4 r) (hn : n < m.length) (h8 : m.length ≤ 8) (hv : m.getD n [] = [x, y, z, t]) :
    Calls Try.prog 126 #[.pointer (some ⟨g, 0, none⟩), .int .i64 n, .agg #[.int .i64 x, .int .i64 y, .int .i64 z, .int .i64 t]] w (Took m n base g w) := by
  have E := Lib.hid hE
  have ST := Lib.hid hS
  have HI := Lib.hid hE.hi
  have HM := Lib.hid hm
  have hn8 : (n : Int) < 8 := by omega
  have LS : Hid ((pn.map fun (i : Nat) => (i : Int)).length ≤ 8) := Lib.hid (by
    rw [List.length_map, hS.first]
    have := Sp.first_len (m.take n)
    rw [List.length_take] at this
    omega)
  have glt := hE.blk.lt
  have NE : Hid (∀ j b, q j = some ⟨b, 0, none⟩ → b ≠ w.heap.size + 1) := Lib.hid (fun j b hq e => by
    obtain ⟨l, _, _, ha⟩ := hE.some_ hq
    have := ha.lt
    omega)
  obtain ⟨i0, hi, hz0, hz1, hz2⟩ := info_parts (show (Try.prog.info? 3).map (fun i => (i.zero, i.size, i.bytes)) = some (some (.int .i64 0), 1, 8) by kernel_rfl)
  have I1 := Lib.hid hi
  have I2 := Lib.hid hz0
  have I3 := Lib.hid hz1
  have I4 := Lib.hid hz2
  clear hi hz0 hz1 hz2
  have A0 := (Arr.new (w.alloc (.cells #[.int .i64 x, .int .i64 y, .int .i64 z, .int .i64 t] 68)) 169 [x, y, z, t, 0, 0, 0, 0, 0, 0, 0, 0])
  rw [World.size_alloc] at A0
  have hx : ((w.alloc (.cells #[.int .i64 x, .int .i64 y, .int .i64 z, .int .i64 t] 68)).alloc (.cells #[.int .i64 x, .int .i64 y, .int .i64 z, .int .i64 t, .int .i64 0, .int .i64 0, .int .i64 0, .int .i64 0, .int .i64 0, .int .i64 0, .int .i64 0, .int .i64 0] 169)).cell? ⟨w.heap.size + 1, 4 + n, none⟩ = some (.int .i64 ([x, y, z, t, 0, 0, 0, 0, 0, 0, 0, 0].getD (4 + n) 0)) := A0.cell (by simp; omega)
  have hf : ((w.alloc (.cells #[.int .i64 x, .int .i64 y, .int .i64 z, .int .i64 t] 68)).alloc (.cells #[.int .i64 x, .int .i64 y, .int .i64 z, .int .i64 t, .int .i64 0, .int .i64 0, .int .i64 0, .int .i64 0, .int .i64 0, .int .i64 0, .int .i64 0, .int .i64 0] 169)).frozen? ⟨w.heap.size + 1, 4 + n, none⟩ = false := A0.frozen _
  have A1 : Hid (Arr ((w.alloc (.cells #[.int .i64 x, .int .i64 y, .int .i64 z, .int .i64 t] 68)).alloc (.cells (List.set [.int .i64 x, .int .i64 y, .int .i64 z, .int .i64 t, .int .i64 0, .int .i64 0, .int .i64 0, .int .i64 0, .int .i64 0, .int .i64 0, .int .i64 0, .int .i64 0] (4 + n) (.int .i64 1)).toArray 169)) (w.heap.size + 1) 169 (Sp.fresh m n)) := Lib.hid (by
    have := Arr.new (w.alloc (.cells #[.int .i64 x, .int .i64 y, .int .i64 z, .int .i64 t] 68)) 169 ([x, y, z, t, 0, 0, 0, 0, 0, 0, 0, 0].set (4 + n) 1)
    rw [World.size_alloc, ← vals_set] at this
    have e : Sp.fresh m n = [x, y, z, t, 0, 0, 0, 0, 0, 0, 0, 0].set (4 + n) 1 := by rw [new_line, ← hv]; rfl
    rw [e]
    exact this)
  have G1 : Hid (w.grownBy ((w.alloc (.cells #[.int .i64 x, .int .i64 y, .int .i64 z, .int .i64 t] 68)).alloc (.cells (List.set [.int .i64 x, .int .i64 y, .int .i64 z, .int .i64 t, .int .i64 0, .int .i64 0, .int .i64 0, .int .i64 0, .int .i64 0, .int .i64 0, .int .i64 0, .int .i64 0] (4 + n) (.int .i64 1)).toArray 169)) none) := Lib.hid (grown_alloc (grown_alloc (World.grownBy.refl _ _) _) _)
  generalize [x, y, z, t, 0, 0, 0, 0, 0, 0, 0, 0].getD (4 + n) 0 = c0 at hx
  clear hE hS hm A0
  go_enter Try.func126, Try.ntmps126
  go_wp2_with fail
  clear hx hf
  generalize ((w.alloc (.cells #[.int .i64 x, .int .i64 y, .int .i64 z, .int .i64 t] 68)).alloc (.cells (List.set [.int .i64 x, .int .i64 y, .int .i64 z, .int .i64 t, .int .i64 0, .int .i64 0, .int .i64 0, .int .i64 0, .int .i64 0, .int .i64 0, .int .i64 0, .int .i64 0] (4 + n) (.int .i64 1)).toArray 169)) = w1 at *
  have FO := Lib.hid (Sp.fresh_off HM.out hn h8 pn)
  obtain ⟨a, hA⟩ : ∃ a, a = w.heap.size + 1 := ⟨_, rfl⟩
  rw [← hA] at A1 NE ⊢
  have ba : base ≤ a := by omega
  clear hA
  have E1 := Lib.hid (E.out.grown G1.out)
  refine (echReduce base g a q S pv (pn.map fun (i : Nat) => (i : Int)) (Sp.fresh m n) w1 E1.out A1.out FO.out.1 ST.out.row NE.out).mono ?_
  rintro e w2 ⟨rfl, hg, hA2⟩
  have E2 := Lib.hid (E1.out.other A1.out NE.out hg)
  have B2 : Hid (Below base w w2) := Lib.hid ((((Below.refl base w).grown G1.out hb (by simp)).grown hg (Nat.le_trans hb G1.out.size) (fun k hk => by injection hk with hk; omega)))
  obtain ⟨r, hr⟩ : ∃ r, Sp.red S 4 (Sp.fresh m n) = r := ⟨_, rfl⟩
  have SK : Hid (Vec.first (r.take 4) 0 < 0 → Sp.Stand m (n + 1) S pn) := Lib.hid (fun h => ST.out.skip HM.out hn h8 (by rw [hr]; exact h))
  have MO : Hid (∀ p : Nat, Vec.first (r.take 4) 0 = p → p < 4 ∧ S p = none ∧ r.getD p 0 ≠ 0 ∧ Sp.Stand m (n + 1) (Sp.insS S p (Sp.lmul r (Fld.inv (r.getD p 0)))) (pn ++ [n])) := Lib.hid (fun p h => by
    have := ST.out.more HM.out hn h8 (p := p) (by rw [hr]; exact h)
    rw [hr] at this
    exact this)
  have RR : Hid (Sp.Row 12 r) := Lib.hid (by rw [← hr]; exact Sp.red_row ST.out.row FO.out.1 4)
  rw [hr] at hA2
  have A2 := Lib.hid hA2
  clear hg hA2 hr E1 A1 G1 FO E
  obtain ⟨x1, y1, z1, t1, r1, hre, _, _⟩ := four_of_row RR.out
  have a0 : w2.cell? ⟨a, 0, none⟩ = some (.int .i64 x1) := by have := A2.out.cell (i := 0) (by rw [RR.out.1]; omega); rw [hre] at this; exact this
  have a1 : w2.cell? ⟨a, 1, none⟩ = some (.int .i64 y1) := by have := A2.out.cell (i := 1) (by rw [RR.out.1]; omega); rw [hre] at this; exact this
  have a2 : w2.cell? ⟨a, 2, none⟩ = some (.int .i64 z1) := by have := A2.out.cell (i := 2) (by rw [RR.out.1]; omega); rw [hre] at this; exact this
  have a3 : w2.cell? ⟨a, 3, none⟩ = some (.int .i64 t1) := by have := A2.out.cell (i := 3) (by rw [RR.out.1]; omega); rw [hre] at this; exact this
  have TK : Hid (r.take 4 = [x1, y1, z1, t1]) := Lib.hid (by rw [hre]; rfl)
  clear hre
  go_wp2_with fail
  refine (rowLead x1 y1 z1 t1 _).mono ?_
  rintro e w3 ⟨rfl, hg⟩
  have E3 := Lib.hid (E2.out.grown hg)
  have A3 := Lib.hid (A2.out.still hg)
  have B3 := Lib.hid (B2.out.grown hg (Nat.le_trans hb B2.out.size) (by simp))
  clear hg a0 a1 a2 a3 E2 A2 B2
  obtain ⟨ld, hld⟩ : ∃ ld, Vec.first [x1, y1, z1, t1] 0 = ld := ⟨_, rfl⟩
  rw [hld]
  have LD : Hid (Vec.first (r.take 4) 0 = ld) := Lib.hid (by rw [TK.out]; exact hld)
  clear hld TK
  by_cases hneg : ld < 0
  · have N := Lib.hid (SK.out (by rw [LD.out]; exact hneg))
    go_wp2_with fail
    exact bodyPost_ret (v := .tuple #[]) (by simp [results, Try.results126, go_sem]) rfl ⟨rfl, B3.out, q, S, pv, pn, E3.out, N.out⟩
  obtain ⟨p, rfl⟩ : ∃ p : Nat, ld = p := ⟨ld.toNat, by omega⟩
  obtain ⟨hp, hsp, hrp, hst⟩ := MO.out p LD.out
  have N := Lib.hid hst
  have SP := Lib.hid hsp
  have c0 := A3.out.cell (i := p) (by rw [RR.out.1]; omega)
  have yo := RR.out.get p
  obtain ⟨y, hy⟩ : ∃ y, r.getD p 0 = y := ⟨_, rfl⟩
  rw [hy] at c0 yo hrp N
  have hp' : (p : Int) < 4 := by omega
  clear hy hst hsp MO LD SK
  go_wp2_with fail
  refine (implEuclid y _ yo hrp).mono ?_
  rintro e w' ⟨rfl, rfl⟩
  obtain ⟨c, hc⟩ : ∃ c, Fld.inv y = c := ⟨_, rfl⟩
  have CO : Hid (Fld.ok c = true) := Lib.hid (hc ▸ Fld.inv_is yo)
  rw [hc] at N ⊢
  clear hc
  go_wp2_with fail
  refine (lineScale a r c _ A3.out RR.out CO.out).mono ?_
  rintro e w4 ⟨rfl, hg, hA4⟩
  have E4 := Lib.hid (E3.out.other A3.out NE.out hg)
  have B4 := Lib.hid (B3.out.grown hg (Nat.le_trans hb B3.out.size) (fun k hk => by injection hk with hk; omega))
  obtain ⟨v, hv'⟩ : ∃ v, Sp.lmul r c = v := ⟨_, rfl⟩
  have VR : Hid (Sp.Row 12 v) := Lib.hid (hv' ▸ Sp.row_lmul RR.out c)
  rw [hv'] at hA4 N
  have A4 := Lib.hid hA4
  clear hg hA4 hv' A3 E3 B3 c0 RR
  have c0 := E4.out.blk.cell (i := 0) rfl
  have c1 := E4.out.blk.cell (i := 1) rfl
  have c2 := E4.out.blk.cell (i := 2) rfl
  have c3 := E4.out.blk.cell (i := 3) rfl
  go_wp2_with fail
  clear c0 c1 c2 c3
  go_loopw [41] (fun i wr => ∃ k : Nat, k ≤ 4 ∧ i = .int .i64 k ∧ Ech wr base g q (Sp.insK S p v k) pv (pn.map fun (i : Nat) => (i : Int)) ∧ Arr wr a 169 v ∧ Below base w wr) (fun i _ => 4 - (intOf i).toNat)
  case atStart => exact ⟨0, by omega, rfl, by rw [Sp.insK_zero]; exact E4.out, A4.out, B4.out⟩
  case round =>
    obtain ⟨k, hk, rfl, he, har, hbl⟩ := hrel
    have E5 := Lib.hid he
    have A5 := Lib.hid har
    have B5 := Lib.hid hbl
    clear he har hbl E4 A4 B4
    by_cases hlt : k < 4
    · have hlt' : (k : Int) < 4 := by omega
      have hidx := idxP q k hlt wr
      rcases E5.out.col k with ⟨hq, hs⟩ | ⟨b, l, hq, hs, hbb, hl⟩
      · rw [hq] at hidx
        rw [Sp.insK_at] at hs
        have IN := Lib.hid (Sp.insK_none (p := p) (v := v) hs)
        clear hq hs
        go_wp2_with fail
        go_roundw
        case rel => exact ⟨k + 1, by omega, by go_num, by rw [IN.out]; exact E5.out, A5.out, B5.out⟩
        case measure => simp [intOf]; omega
      · rw [hq] at hidx
        rw [Sp.insK_at] at hs
        have IN := Lib.hid (Sp.insK_some (p := p) (v := v) hs)
        have BA : Hid (b ≠ a) := Lib.hid (NE.out k b hq)
        have LR := Lib.hid (ST.out.row k l hs)
        have L := Lib.hid hl
        have HQ := Lib.hid hq
        clear hq hs hl
        go_wp2_with fail
        refine (lineClear b a p l v _ L.out A5.out (fun e => BA.out e.symm) LR.out VR.out hp).mono ?_
        rintro e w6 ⟨rfl, hg, ha⟩
        have E6 : Hid (Ech w6 base g q (Sp.insK S p v (k + 1)) pv (pn.map fun (i : Nat) => (i : Int))) := Lib.hid (by rw [← IN.out]; exact E5.out.line HQ.out hg ha)
        have A6 := Lib.hid (A5.out.kept hg (fun e => BA.out (by injection e with e; exact e.symm)))
        have B6 := Lib.hid (B5.out.grown hg (Nat.le_trans hb B5.out.size) (fun k hk => by injection hk with hk; omega))
        clear hg ha hidx E5 A5 B5
        go_wp2_with fail
        go_roundw
        case rel => exact ⟨k + 1, by omega, by go_num, E6.out, A6.out, B6.out⟩
        case measure => simp [intOf]; omega
    · have : k = 4 := by omega
      subst this
      have QP : Hid (q p = none) := Lib.hid (by
        rcases E5.out.col p with h | ⟨b, l, h1, h2, _⟩
        · exact h.1
        · have : Sp.insK S p v 4 p = none := by simp [Sp.insK, SP.out]
          rw [this] at h2; cases h2)
      have cp := E5.out.blk.cell (i := p) (ptr_at q pv hp)
      have fp := E5.out.blk.frozen p
      have E6 := Lib.hid (E5.out.put hp QP.out A5.out ba NE.out)
      have B6 : Hid (Below base w (wr.setCell ⟨g, p, none⟩ (.pointer (some ⟨a, 0, none⟩)))) := Lib.hid (B5.out.grown (grown_at (World.grownBy.refl wr (some g)) p _) (Nat.le_trans hb B5.out.size) (fun k hk => by injection hk with hk; have := E5.out.low; omega))
      have h4 := E6.out.blk.cell (i := 4) rfl
      have h4' : wr.cell? ⟨g, 4, none⟩ = some pv := E5.out.blk.cell (i := 4) rfl
      have np : p ≠ 4 := by omega
      have l8 := LS.out
      obtain ⟨o6, O6⟩ : ∃ l, Hid (l = (pn.map fun (i : Nat) => (i : Int)) ∧ Own (wr.setCell ⟨g, p, none⟩ (.pointer (some ⟨a, 0, none⟩))) base pv l) := ⟨_, Lib.hid ⟨rfl, E6.out.own⟩⟩
      have ol : o6.length ≤ 8 := by rw [O6.out.1]; exact l8
      have sb : base ≤ wr.heap.size := by have := Nat.le_trans hb B6.out.size; rwa [size_set] at this
      clear E5 A5 B5 l8
      go_wp2_with (first
        | (at_builtin; refine wpList_append_own _ rfl _ _ 23 rfl base 3 i0 (.int .i64 0) 1 8 Try.underlying23 I1.out I2.out I3.out I4.out rfl (by decide) _ _ _ rfl (World.ownsRow.alloc O6.out.2 _) ⟨wr.heap.size, 0, none⟩ 1 1 [.int .i64 n] rfl rfl (one_cell_at (size_set _ _ _)) (vals_one [(n : Int)]) ?c3 ?c4 ?c5 ?_))
      case c3 => unfold maxLen; omega
      case c4 => omega
      case c5 => simp; omega
      intro o' w7 ho hg _
      have o7 : Own w7 base o' (o6 ++ [(n : Int)]) := own_snoc ho (by simp) rfl
      have g67 : (wr.setCell ⟨g, p, none⟩ (.pointer (some ⟨a, 0, none⟩))).grownBy w7 pv.ownBlock := grown_trans (World.grownBy_alloc _ _ _) hg
      have b7 := E6.out.blk.kept g67 (own_type E6.out.own E6.out.blk (by decide))
      have d4 : w7.cell? ⟨g, 4, none⟩ = some pv := b7.cell (i := 4) rfl
      have f4 : w7.frozen? ⟨g, 4, none⟩ = false := b7.frozen 4
      have eS : (fun j => if j = p then some v else Sp.insK S p v 4 j) = Sp.insS S p v := Sp.insK_all HI.out
      have eP : o6 ++ [(n : Int)] = (pn ++ [n]).map fun (i : Nat) => (i : Int) := by rw [O6.out.1]; simp
      have e7 := E6.out.first g67 o7
      rw [eS, eP] at e7
      have E7 := Lib.hid e7
      have B7 : Hid (Below base w (w7.setCell ⟨g, 4, none⟩ o')) := Lib.hid ((B6.out.grown g67 (Nat.le_trans hb B6.out.size) (fun k hk => (World.ownsRow.lt E6.out.own k hk).1)).grown (grown_at (World.grownBy.refl w7 (some g)) 4 _) (Nat.le_trans hb (Nat.le_trans B6.out.size g67.size)) (fun k hk => by injection hk with hk; have := E6.out.low; omega))
      obtain ⟨ao, co, eo, _, _, _⟩ := o7.sl
      obtain ⟨nl, hnl⟩ : ∃ k, (o6 ++ [(n : Int)]).length = k := ⟨_, rfl⟩
      rw [hnl] at eo
      clear hnl
      subst eo
      clear ho hg o7 g67 b7 eS eP e7 E6 B6 O6 cp fp h4 h4'
      go_wp2_with fail
      exact bodyPost_ret (v := .tuple #[]) (by simp [results, Try.results126, go_sem]) rfl ⟨rfl, B7.out, _, _, _, pn ++ [n], E7.out, N.out⟩
end Go.Proofs.Ythglkgicckodaaa
namespace Go.Proofs.Ythglkgicckodaaa
open Go.RowKit
set_option linter.unusedVariables false
def flat (T : List (List Int)) : List Value := T.flatMap vals
def Vs (w : World) (base : Nat) (v : Value) (T : List (List Int)) : Prop := w.ownsRow base 68 4 v T.length (flat T)
theorem flat_get {T : List (List Int)} : (∀ r ∈ T, r.length = 4) → ∀ {k i : Nat}, k < T.length → i < 4 → (flat T)[k * 4 + i]? = some (.int .i64 ((T.getD k []).getD i 0)) := by
  induction T with
  | nil => intro _ k i hk; simp at hk
  | cons a T ih =>
    intro h k i hk hi
    have ha : (vals a).length = 4 := by rw [vals_length]; exact h a (by simp)
    unfold flat at ih ⊢
    rw [List.flatMap_cons]
    cases k with
    | zero =>
      rw [List.getElem?_append_left (by omega)]
      have := vals_get a i (by rw [h a (by simp)]; exact hi)
      simpa using this
    | succ k =>
      rw [List.getElem?_append_right (by omega), ha, show (k + 1) * 4 + i - 4 = k * 4 + i by omega, ih (fun r hr => h r (by simp [hr])) (by simpa using hk) hi]
      rfl
theorem Vs.at_ {w : World} {base : Nat} {v : Value} {T : List (List Int)} (h : Vs w base v T) (hT : ∀ r ∈ T, r.length = 4) {k : Nat} (hk : k < T.length) :
    ∃ g cap, v = .slice (some ⟨g, 0, none⟩) T.length cap ∧ g < w.heap.size ∧ ∀ i, i < 4 → w.cell? ⟨g, k * 4 + i, none⟩ = some (.int .i64 ((T.getD k []).getD i 0)) := by
  rcases h.2 with ⟨_, h0⟩ | ⟨g, cap, cur, e, _, hg, _⟩
  · omega
  · refine ⟨g, cap, e, (Array.getElem?_eq_some_iff.1 hg).1, fun i hi => ?_⟩
    subst e
    have := World.ownsRow.cells h (g := g) rfl (k * 4 + i) _ (flat_get hT hk hi)
    rw [Addr.add_lit] at this
    simpa using this
theorem Vs.form {w : World} {base : Nat} {v : Value} {T : List (List Int)} (h : Vs w base v T) : ∃ a cap, v = .slice a T.length cap ∧ T.length ≤ cap ∧ cap ≤ maxLen := by
  rcases h.2 with ⟨rfl, h0⟩ | ⟨g, cap, cur, rfl, _, hg, h1, h2, _⟩
  · exact ⟨none, 0, by rw [h0], by omega, by omega⟩
  · exact ⟨_, cap, rfl, h1, h2⟩
theorem Vs.still {w w' : World} {base : Nat} {v : Value} {T : List (List Int)} (h : Vs w base v T) (hg : w.grownBy w' none) : Vs w' base v T :=
  World.ownsRow.kept h hg (by cases h : v.ownBlock <;> simp)
theorem Vs.snoc {w : World} {base : Nat} {v : Value} {T T' : List (List Int)} {l : List Int} {n : Nat} (h : w.ownsRow base 68 4 v n (flat T ++ vals l)) (hn : n = T.length + 1) (e : T ++ [l] = T') : Vs w base v T' := by
  subst e hn
  have e : flat (T ++ [l]) = flat T ++ vals l := by simp [flat]
  unfold Vs
  rw [e, List.length_append]
  exact h
end Go.Proofs.Ythglkgicckodaaa
namespace Go.Proofs.Ythglkgicckodaaa
open Go.RowKit
set_option linter.unusedVariables false
theorem apart_types {w : World} {base base' : Nat} {x y : Item} (hx : x.Own w base) (hy : y.Own w base') (ht : x.e ≠ y.e) : x.Apart y := by
  rcases hx.2 with ⟨h0, _⟩ | ⟨g, cap, cur, hv, _, hg, _⟩
  · exact .inl (by rw [h0]; rfl)
  · rcases hy.2 with ⟨h0, _⟩ | ⟨g', cap', cur', hv', _, hg', _⟩
    · exact .inr (by rw [hv, h0]; simp [Value.ownBlock])
    · refine .inr (fun e => ht ?_)
      rw [hv, hv'] at e
      have e' : g = g' := by simpa [Value.ownBlock] using e
      subst e'
      rw [hg] at hg'
      injection hg' with hg'
      injection hg' with _ h
end Go.Proofs.Ythglkgicckodaaa
namespace Go.Proofs.Ythglkgicckodaaa
open Go.RowKit
set_option linter.unusedVariables false
def IntRow (w : World) (u : Value) : Prop := ∀ x n cap, u = .slice (some x) n cap → ∃ cur fr, w.heap[x.block]? = some (.cells cur 3 fr)
theorem Own.intRow {w : World} {base : Nat} {v : Value} {l : List Int} (h : Own w base v l) : IntRow w v := by
  intro x n cap e
  rcases h.2 with ⟨e', _⟩ | ⟨g, cap', cur, e', _, hg, _⟩
  · rw [e'] at e; cases e
  · rw [e'] at e
    injection e with e
    injection e with e
    subst e
    exact ⟨cur, (0, 0), hg⟩
theorem IntRow.still {w w' : World} {u : Value} (h : IntRow w u) (hg : w.grownBy w' none) : IntRow w' u := by
  intro x n cap e
  obtain ⟨cur, fr, hx⟩ := h x n cap e
  exact ⟨cur, fr, (hg.block _ (Array.getElem?_eq_some_iff.1 hx).1 (by simp)).trans hx⟩
theorem IntRow.ne {w : World} {base n : Nat} {u o : Value} {xs : List Value} (h : IntRow w u) (ho : w.ownsRow base 23 1 o n xs) {x : Addr} {m cap : Nat} (e : u = .slice (some x) m cap) : some x.block ≠ o.ownBlock := by
  obtain ⟨cur, fr, hx⟩ := h x m cap e
  rcases ho.2 with ⟨e', _⟩ | ⟨g, cap', cur', e', _, hg, _⟩
  · rw [e']; simp [Value.ownBlock]
  · rw [e']
    intro h'
    have : x.block = g := by simpa [Value.ownBlock] using h'
    rw [this, hg] at hx
    injection hx with hx
    injection hx with _ hx
    exact absurd hx (by decide)
theorem row_kept {w w' : World} {base n : Nat} {u o : Value} {l : List Int} {xs : List Value} (h : Sl w u l ∧ IntRow w u) (ho : w.ownsRow base 23 1 o n xs) (hg : w.grownBy w' o.ownBlock) : Sl w' u l ∧ IntRow w' u := by
  obtain ⟨⟨a, cap, rfl, h1, h2, h3⟩, hi⟩ := h
  refine ⟨⟨a, cap, rfl, h1, h2, ?_⟩, fun x n cap e => ?_⟩
  · rcases h3 with h3 | ⟨b, o', rfl, h3⟩
    · exact .inl h3
    · refine .inr ⟨b, o', rfl, fun i hi' => ?_⟩
      exact hg.cell (h3 i hi') (hi.ne ho (x := ⟨b, o', none⟩) rfl)
  · obtain ⟨cur, fr, hx⟩ := hi x n cap e
    exact ⟨cur, fr, (hg.block _ (Array.getElem?_eq_some_iff.1 hx).1 (hi.ne ho e)).trans hx⟩
structure STab (w : World) (base : Nat) (v : Value) (us : List Value) (m : List (List Int)) : Prop where
  top : w.ownsRow base 23 1 v us.length us
  len : us.length = m.length
  rows : ∀ (i : Nat) (u : Value) (l : List Int), us[i]? = some u → m[i]? = some l → Sl w u l ∧ IntRow w u
namespace STab
variable {w w' : World} {base base' : Nat} {v : Value} {us : List Value} {m : List (List Int)}
theorem still (h : STab w base v us m) (hg : w.grownBy w' none) : STab w' base v us m :=
  ⟨World.ownsRow.kept h.top hg (by cases v.ownBlock <;> simp), h.len, fun i u l hu hl => ⟨(h.rows i u l hu hl).1.grown hg, (h.rows i u l hu hl).2.still hg⟩⟩
theorem lower (h : STab w base v us m) (hb : base' ≤ base) : STab w base' v us m :=
  ⟨(show Item.Own w base' ⟨v, 23, us⟩ from Item.Own.lower (x := ⟨v, 23, us⟩) h.top hb), h.len, h.rows⟩
theorem tab (h : STab w base v us m) : Tab w v us m := by
  refine ⟨h.len, ?_, fun i u l hu hl => (h.rows i u l hu hl).1⟩
  rcases h.top.2 with ⟨e, hn⟩ | ⟨g, cap, cur, e, _, hg, h1, h2, _, ht⟩
  · have hu : us = [] := List.eq_nil_of_length_eq_zero hn
    subst hu
    have hm : m = [] := List.eq_nil_of_length_eq_zero h.len.symm
    subst hm
    exact ⟨none, 0, e, by simp, by omega, .inl rfl⟩
  · refine ⟨some ⟨g, 0, none⟩, cap, by rw [← h.len]; exact e, by rw [← h.len]; exact h1, h2, .inr ⟨g, 0, rfl, fun i u hu => ?_⟩⟩
    rw [cell_of_row w g (0 + i) cur 23 (0, 0) hg]
    have ht' : cur.toList.take (us.length * 1) = us := ht
    rw [← ht', List.getElem?_take] at hu
    split at hu
    · simpa using hu
    · cases hu
theorem none_ (w : World) (base : Nat) : STab w base (.slice none 0 0) [] [] := ⟨World.ownsRow_nil _ _ _ _, rfl, by simp⟩
theorem made (w : World) (base : Nat) (hb : base ≤ w.heap.size) : STab (w.alloc (.cells #[] 23)) base (.slice (some ⟨w.heap.size, 0, none⟩) 0 0) [] [] :=
  ⟨⟨by simp, .inr ⟨w.heap.size, 0, #[], rfl, hb, heap_alloc_new w _, Nat.le_refl _, by simp [maxLen], by simp, by simp⟩⟩, rfl, by simp⟩
theorem snoc {w1 w2 : World} {o' u : Value} {l : List Int} {m' : List (List Int)} {n : Nat} (h : STab w base v us m) (hg : w.grownBy w1 none) (hu : Sl w1 u l ∧ IntRow w1 u) (hg2 : w1.grownBy w2 v.ownBlock) (ho2 : w2.ownsRow base 23 1 o' n (us ++ [u])) (hn : n = us.length + 1) (e : m ++ [l] = m') :
    STab w2 base o' (us ++ [u]) m' := by
  subst e hn
  have h1 := h.still hg
  refine ⟨by rw [List.length_append]; exact ho2, by simp [h.len], fun i x r hx hr => ?_⟩
  by_cases hi : i < us.length
  · rw [List.getElem?_append_left hi] at hx
    rw [List.getElem?_append_left (by rw [← h.len]; exact hi)] at hr
    exact row_kept (h1.rows i x r hx hr) h1.top hg2
  · have hi' : i = us.length := by
      have := (List.getElem?_eq_some_iff.1 hx).1
      simp at this; omega
    subst hi'
    rw [List.getElem?_append_right (Nat.le_refl _), Nat.sub_self] at hx
    rw [List.getElem?_append_right (by rw [h.len]; exact Nat.le_refl _), h.len, Nat.sub_self] at hr
    simp at hx hr
    subst hx hr
    exact row_kept hu h1.top hg2
end STab
set_option maxHeartbeats 2000000 in
set_option maxRecDepth 20000 in
theorem specLess (u v : Value) (n p : Nat) (l m : List Int) (w : World) (h : Sl w u l) (h' : Sl w v m) (hl : Sp.Row n l) (hm : Sp.Row n m) (hn : n ≤ 64) (hp : Vec.first m 0 = p) (hpn : p < n) (hz : m.getD p 0 ≠ 0) :
    Calls Try.prog 110 #[u, v] w (NewInts (Sp.lless l m) w) := by
  have SU := Lib.hid h
  have SV := Lib.hid h'
  have L := Lib.hid (specL2Lead v m w h')
  rw [hp] at L
  have RL := Lib.hid hl
  have RM := Lib.hid hm
  have hpl : p < l.length := by rw [hl.1]; exact hpn
  have hpm : p < m.length := by rw [hm.1]; exact hpn
  have LE : Hid (Sp.lless l m = Sp.ladd l (Sp.lmul m ((31 - l.getD p 0 * Fld.inv (m.getD p 0) % 31) % 31))) := Lib.hid (by unfold Sp.lless; rw [hp]; rfl)
  have x0 := hl.get p
  have y0 := hm.get p
  obtain ⟨a, cap, rfl, hlc, hcm, hr⟩ := h
  obtain ⟨a', cap', rfl, hlc', hcm', hr'⟩ := h'
  obtain ⟨b, o, rfl, hx⟩ := hr.at_ hpl
  obtain ⟨b', o', rfl, hy⟩ := hr'.at_ hpm
  obtain ⟨x, hxe⟩ : ∃ x, l.getD p 0 = x := ⟨_, rfl⟩
  obtain ⟨y, hye⟩ : ∃ y, m.getD p 0 = y := ⟨_, rfl⟩
  rw [hxe] at hx x0 LE
  rw [hye] at hy y0 LE hz
  have c0 := Fld.inv_is y0
  obtain ⟨c, hce⟩ : ∃ c, Fld.inv y = c := ⟨_, rfl⟩
  have IV := Lib.hid (specSearch y w.drew y0 hz)
  rw [hce] at c0 LE IV
  have ⟨m0, m1⟩ := Fld.mul_le x0 c0
  have ws : IntKind.i64.wrap (x * c) = x * c := IntWalk.i64_in _ (by omega)
  have wt : (x * c).tmod 31 = x * c % 31 := Int.tmod_eq_emod_of_nonneg (by omega)
  obtain ⟨k, hke⟩ : ∃ k, x * c % 31 = k := ⟨_, rfl⟩
  rw [hke] at wt LE
  have k0 : 0 ≤ k ∧ k ≤ 30 := by omega
  have ws2 : IntKind.i64.wrap (31 - k) = 31 - k := IntWalk.i64_in _ (by omega)
  have wt2 : (31 - k).tmod 31 = (31 - k) % 31 := Int.tmod_eq_emod_of_nonneg (by omega)
  obtain ⟨d, hde⟩ : ∃ d, (31 - k) % 31 = d := ⟨_, rfl⟩
  rw [hde] at wt2 LE
  have d0 : Hid (Fld.ok d = true) := Lib.hid (hde ▸ Vec.mod_is _)
  have hpl' : (p : Int) < (l.length : Int) := by omega
  have hpm' : (p : Int) < (m.length : Int) := by omega
  unfold maxLen at hcm hcm'
  have hx' : w.drew.cell? ⟨b, o + p, none⟩ = some (.int .i64 x) := hx
  have hy' : w.drew.cell? ⟨b', o' + p, none⟩ = some (.int .i64 y) := hy
  clear hp hl hm hxe hye hce hke hde hr hr' x0 y0 c0 m0 m1 hx hy
  go_enter Try.func110, Try.ntmps110
  go_wp2_with fail
  refine L.out.mono ?_
  rintro e w' ⟨rfl, rfl⟩
  go_wp2_with fail
  go_region_held3 (fun w' => w'.cell? ⟨b, o + p, none⟩ = some (.int .i64 x) ∧ w'.cell? ⟨b', o' + p, none⟩ = some (.int .i64 y))
    (first
      | with_reducible exact ⟨hx', hy'⟩
      | with_reducible exact ⟨e1, e2⟩
      | with_reducible exact ⟨f1, f2⟩)
    (first
      | (go_at_call 122; refine IV.out.mono ?_; rintro e w' ⟨rfl, rfl⟩)
      | (go_at_call 111; refine (specMul _ n m d _ (SV.out.grown (grown_still _ 1)) RM.out d0.out hn).mono ?_; rintro e w1 ⟨v1, rfl, hg1, ho1⟩
         have G1 := Lib.hid hg1
         have O1 := Lib.hid ho1
         have e1 := hg1.cell hx' (by simp)
         have e2 := hg1.cell hy' (by simp)
         clear hg1 ho1)
      | (go_at_call 123; refine (specAdd _ _ n l (Sp.lmul m d) _ ((SU.out.grown (grown_still _ 1)).grown G1.out) O1.out.sl RL.out (Sp.row_lmul RM.out d) hn).mono ?_; rintro e w2 ⟨v2, rfl, hg2, ho2⟩
         have G2 := Lib.hid hg2
         have O2 := Lib.hid ho2
         have f1 := hg2.cell e1 (by simp)
         have f2 := hg2.cell e2 (by simp)
         clear hg2 ho2))
  clear hx' hy' e1 e2 f1 f2 ws wt ws2 wt2
  go_wp2_with fail
  go_ret
  refine ⟨_, rfl, grown_trans (grown_trans (grown_still w 1) G1.out) G2.out, ?_⟩
  rw [LE.out]
  exact O2.out.lower G1.out.size
end Go.Proofs.Ythglkgicckodaaa
namespace Go.Proofs.Ythglkgicckodaaa
open Go.RowKit
set_option linter.unusedVariables false
namespace Sp
theorem lins_no {p : Nat} {v : List Int} {T : List (List Int)} (h : ∀ r ∈ T, ¬ (p : Int) < Vec.first r 0) : lins p v T = T.map (fun s => lless s v) ++ [v] := by
  induction T with
  | nil => rfl
  | cons r T ih =>
    rw [lins, if_neg (h r (by simp)), ih (fun s hs => h s (by simp [hs]))]; rfl
theorem lins_new {p : Nat} {v r : List Int} {T : List (List Int)} (h : ∀ r ∈ T, ¬ (p : Int) < Vec.first r 0) (hr : (p : Int) < Vec.first r 0) : lins p v (T ++ [r]) = T.map (fun s => lless s v) ++ [v] ++ [lless r v] := by
  induction T with
  | nil => rw [List.nil_append, lins, if_pos hr]; rfl
  | cons s T ih =>
    rw [List.cons_append, lins, if_neg (h s (by simp)), ih (fun s hs => h s (by simp [hs]))]; rfl
theorem lins_more {p : Nat} {v r : List Int} {T : List (List Int)} (h : ∃ r ∈ T, (p : Int) < Vec.first r 0) : lins p v (T ++ [r]) = lins p v T ++ [lless r v] := by
  induction T with
  | nil => obtain ⟨_, h, _⟩ := h; cases h
  | cons s T ih =>
    rw [List.cons_append, lins, lins]
    by_cases hs : (p : Int) < Vec.first s 0
    · rw [if_pos hs, if_pos hs]; simp
    · rw [if_neg hs, if_neg hs, ih ?_]; · rfl
      obtain ⟨r', hr', hp⟩ := h
      rcases List.mem_cons.1 hr' with rfl | h'
      · exact absurd hp hs
      · exact ⟨r', h', hp⟩
theorem lins_len (p : Nat) (v : List Int) (T : List (List Int)) : (lins p v T).length = T.length + 1 := by
  induction T with
  | nil => rfl
  | cons r T ih => rw [lins]; split <;> simp [ih]
def linsK (p : Nat) (v : List Int) (T : List (List Int)) (b : Bool) : List (List Int) := bif b then lins p v T else T.map fun s => lless s v
def anyK (p : Nat) (T : List (List Int)) : Bool := T.any fun r => decide ((p : Int) < Vec.first r 0)
theorem anyK_no {p : Nat} {T : List (List Int)} (h : anyK p T = false) : ∀ r ∈ T, ¬ (p : Int) < Vec.first r 0 := by
  intro r hr hp
  have : anyK p T = true := by unfold anyK; rw [List.any_eq_true]; exact ⟨r, hr, by simpa using hp⟩
  rw [h] at this; cases this
theorem anyK_yes {p : Nat} {T : List (List Int)} (h : anyK p T = true) : ∃ r ∈ T, (p : Int) < Vec.first r 0 := by
  unfold anyK at h; rw [List.any_eq_true] at h
  obtain ⟨r, hr, hp⟩ := h
  exact ⟨r, hr, by simpa using hp⟩
theorem anyK_snoc (p : Nat) (T : List (List Int)) (r : List Int) : anyK p (T ++ [r]) = (anyK p T || decide ((p : Int) < Vec.first r 0)) := by simp [anyK]
theorem linsK_yes {p : Nat} {v r : List Int} {T : List (List Int)} (h : anyK p T = true) : linsK p v T true ++ [lless r v] = linsK p v (T ++ [r]) (anyK p (T ++ [r])) := by
  rw [anyK_snoc, h, Bool.true_or]
  exact (lins_more (anyK_yes h)).symm
theorem linsK_new {p : Nat} {v r : List Int} {T : List (List Int)} (h : anyK p T = false) (hr : (p : Int) < Vec.first r 0) : linsK p v T false ++ [v] ++ [lless r v] = linsK p v (T ++ [r]) (anyK p (T ++ [r])) := by
  rw [anyK_snoc, decide_eq_true hr, Bool.or_true]
  exact (lins_new (anyK_no h) hr).symm
theorem linsK_no {p : Nat} {v r : List Int} {T : List (List Int)} (h : anyK p T = false) (hr : ¬ (p : Int) < Vec.first r 0) : linsK p v T false ++ [lless r v] = linsK p v (T ++ [r]) (anyK p (T ++ [r])) := by
  rw [anyK_snoc, decide_eq_false hr, h, Bool.or_false]
  simp [linsK]
theorem linsK_end {p : Nat} {v : List Int} {T : List (List Int)} (h : anyK p T = false) : linsK p v T false ++ [v] = lins p v T := (lins_no (anyK_no h)).symm
theorem lless_len {n : Nat} {v w : List Int} (hv : Row n v) (hw : Row n w) : (lless v w).length = n := (row_lless hv hw).1
end Sp
theorem is_leads {T : List (List Int)} {L : List (Nat × Sp.V)} (h : Sp.Is 4 T L) : ∀ r ∈ T, Sp.Row 4 r ∧ ∃ p : Nat, p < 4 ∧ Vec.first r 0 = p ∧ r.getD p 0 ≠ 0 := by
  intro r hr
  have hrow := h.row r hr
  refine ⟨hrow, ?_⟩
  rcases Sp.lead_or hrow with hz | ⟨p, hp, hl⟩
  · exfalso
    have : Sp.toV r ∈ Sp.rows L := by rw [← h.same]; exact List.mem_map.2 ⟨r, hr, rfl⟩
    obtain ⟨x, hx, e⟩ := List.mem_map.1 this
    have h1 := h.tidy.one x hx
    rw [show x.2 = Sp.toV r from e, hz] at h1
    exact absurd h1 (by decide)
  · exact ⟨p, hp, Sp.first_lead hrow hl, fun e => hl.1 (by unfold Sp.toV; rw [e]; rfl)⟩
theorem fold_snoc (T : List (List Int)) (l : List Int) {k : Nat} (hk : k < T.length) : (T.take (k + 1)).foldl Sp.lless l = Sp.lless ((T.take k).foldl Sp.lless l) (T.getD k []) := by
  rw [take_more T hk, List.foldl_append]; rfl
theorem row_lead {n : Nat} {l : List Int} (h : Sp.Row n l) {p : Int} (hp : Vec.first l 0 = p) (h0 : ¬ p < 0) : ∃ q : Nat, p = q ∧ q < n ∧ l.getD q 0 ≠ 0 := by
  rcases Sp.lead_or h with hz | ⟨q, hq, hl⟩
  · rw [Sp.first_none h hz] at hp; omega
  · rw [Sp.first_lead h hl] at hp
    exact ⟨q, hp.symm, hq, fun e => hl.1 (by unfold Sp.toV; rw [e]; rfl)⟩
theorem lead_lmul {n : Nat} {l : List Int} (h : Sp.Row n l) {q : Nat} (hq : Vec.first l 0 = q) (hz : l.getD q 0 ≠ 0) : Vec.first (Sp.lmul l (Fld.inv (l.getD q 0))) 0 = q ∧ (Sp.lmul l (Fld.inv (l.getD q 0))).getD q 0 ≠ 0 := by
  have hl : Sp.Lead (Sp.toV l) q := by
    rcases Sp.lead_or h with hz' | ⟨q', _, hl⟩
    · rw [Sp.first_none h hz'] at hq; omega
    · rw [Sp.first_lead h hl] at hq
      have : q' = q := by omega
      subst this; exact hl
  have hinv := Sp.toF_inv (h.get q) hz
  have hj : ∀ j, Sp.toV (Sp.lmul l (Fld.inv (l.getD q 0))) j = Sp.toV l j * Sp.toF (Fld.inv (l.getD q 0)) := fun j => Sp.toV_lmul h _ j
  have h1 : Sp.toV (Sp.lmul l (Fld.inv (l.getD q 0))) q = 1 := by rw [hj]; exact hinv
  have hl' : Sp.Lead (Sp.toV (Sp.lmul l (Fld.inv (l.getD q 0)))) q := ⟨by rw [h1]; decide, fun j hjq => by rw [hj, hl.2 j hjq]; grind⟩
  exact ⟨Sp.first_lead (Sp.row_lmul h _) hl', fun e => hl'.1 (by unfold Sp.toV; rw [e]; rfl)⟩
def NewSTab (base : Nat) (m : List (List Int)) (w : World) (e : Ending) (w' : World) : Prop := ∃ o us, e = .returned o ∧ w.grownBy w' none ∧ STab w' base o us m
set_option maxHeartbeats 4000000 in
set_option maxRecDepth 20000 in
theorem specL3Add (base : Nat) (t v : Value) (us : List Value) (T : List (List Int)) (L : List (Nat × Sp.V)) (l : List Int) (w : World) (hT : STab w base t us T) (hb : base ≤ w.heap.size) (h : Sl w v l) (hl : Sp.Row 4 l) (hI : Sp.Is 4 T L) :
    Calls Try.prog 108 #[t, v] w (NewSTab base (Sp.ladd1 T l) w) := by
  have ST := Lib.hid hT
  have TT := Lib.hid hT.tab
  have SL := Lib.hid h
  have RL := Lib.hid hl
  have LE := Lib.hid (is_leads hI)
  have t4 : T.length ≤ 4 := hI.len_le
  obtain ⟨a, cap, rfl, h1, h2, h3⟩ := TT.out.top
  unfold maxLen at h2
  obtain ⟨i0, hi, hz0, hz1, hz2⟩ := info_parts infoInts
  have I1 := Lib.hid hi
  have I2 := Lib.hid hz0
  have I3 := Lib.hid hz1
  have I4 := Lib.hid hz2
  clear hi hz0 hz1 hz2 hT h hl hI h3
  go_enter Try.func108, Try.ntmps108
  go_wp2_with fail
  go_loopw [1, 5] (fun x i wr => ∃ k : Nat, k ≤ T.length ∧ i = .int .i64 k ∧ w.grownBy wr none ∧ Sl wr x ((T.take k).foldl Sp.lless l) ∧ Sp.Row 4 ((T.take k).foldl Sp.lless l)) (fun _ i _ => T.length - (intOf i).toNat)
  case atStart => exact ⟨0, Nat.zero_le _, rfl, World.grownBy.refl _ _, SL.out, RL.out⟩
  case round =>
    obtain ⟨k, hk, rfl, hg, hs, hr⟩ := hrel
    have G := Lib.hid hg
    have S := Lib.hid hs
    have R := Lib.hid hr
    clear hg hs hr
    by_cases hlt : k < T.length
    · have hlt' : (k : Int) < (T.length : Int) := by omega
      obtain ⟨b, o, cap', u, e, hu, hx, hs⟩ := (TT.out.grown G.out).at_ hlt
      injection e with e1 e2 e3
      subst e1 e3
      obtain ⟨hrow, p, hp4, hp, hpz⟩ := LE.out (T.getD k []) (by rw [List.getD_eq_getElem?_getD, List.getElem?_eq_getElem hlt]; exact List.getElem_mem hlt)
      have FS := Lib.hid (fold_snoc T l hlt)
      have C := Lib.hid (specLess u1 u 4 p _ (T.getD k []) wr S.out hs R.out hrow (by omega) hp hp4 hpz)
      have R1 := Lib.hid (Sp.row_lless R.out hrow)
      clear hs hu hrow hp4 hp hpz
      go_wp2_with fail
      refine C.out.mono ?_
      rintro e w2 ⟨x2, rfl, hg, ho⟩
      have G2 := Lib.hid (grown_trans G.out hg)
      have S2 := Lib.hid ho.sl
      clear hg ho hx
      go_wp2_with fail
      go_roundw
      case rel => exact ⟨k + 1, by omega, by go_num, G2.out, by rw [FS.out]; exact S2.out, by rw [FS.out]; exact R1.out⟩
      case measure => simp [intOf]; omega
    · have : k = T.length := by omega
      subst this
      obtain ⟨f, hf⟩ : ∃ f, (T.take T.length).foldl Sp.lless l = f := ⟨_, rfl⟩
      have F : Hid (T.foldl Sp.lless l = f) := Lib.hid (by rw [← hf, List.take_length])
      rw [hf] at S R
      clear hf
      go_wp2_with fail
      refine (specL2Lead u1 f _ S.out).mono ?_
      rintro e w' ⟨rfl, rfl⟩
      obtain ⟨ld, hld⟩ : ∃ ld, Vec.first f 0 = ld := ⟨_, rfl⟩
      rw [hld]
      have LD := Lib.hid hld
      clear hld
      by_cases hneg : ld < 0
      · have E : Hid (Sp.ladd1 T l = T) := Lib.hid (by unfold Sp.ladd1; rw [F.out, LD.out, if_pos hneg])
        go_wp2_with fail
        go_ret
        exact ⟨_, us, rfl, G.out, by rw [E.out]; exact ST.out.still G.out⟩
      obtain ⟨p, rfl, hp4, hpz⟩ := row_lead R.out LD.out hneg
      have E : Hid (Sp.ladd1 T l = Sp.lins p (Sp.lmul f (Fld.inv (f.getD p 0))) T) := Lib.hid (by unfold Sp.ladd1; rw [F.out, LD.out, if_neg hneg]; rfl)
      have LM := Lib.hid (lead_lmul R.out LD.out hpz)
      have yo := R.out.get p
      obtain ⟨af, capf, e, hf1, hf2, hrf⟩ := S.out
      subst e
      obtain ⟨bf, of, rfl, hx⟩ := hrf.at_ (k := p) (by rw [R.out.1]; exact hp4)
      obtain ⟨y, hy⟩ : ∃ y, f.getD p 0 = y := ⟨_, rfl⟩
      rw [hy] at hx yo hpz E LM
      have hpf : (p : Int) < (f.length : Int) := by have := R.out.1; omega
      unfold maxLen at hf2
      clear hrf hy
      go_wp2_with fail
      refine (specSearch y _ yo hpz).mono ?_
      rintro e w' ⟨rfl, rfl⟩
      have co := Fld.inv_is yo
      obtain ⟨c, hc⟩ : ∃ c, Fld.inv y = c := ⟨_, rfl⟩
      rw [hc] at co E LM ⊢
      have CO := Lib.hid co
      clear hc co
      go_wp2_with fail
      refine (specMul _ 4 f c _ S.out R.out CO.out (by omega)).mono ?_
      rintro e w2 ⟨x2, rfl, hg, ho⟩
      obtain ⟨v2, hv2⟩ : ∃ v2, Sp.lmul f c = v2 := ⟨_, rfl⟩
      have RV : Hid (Sp.Row 4 v2) := Lib.hid (hv2 ▸ Sp.row_lmul R.out c)
      rw [hv2] at ho E LM
      have G2 := Lib.hid (grown_trans G.out hg)
      obtain ⟨ax, cx, ex, _, _, _⟩ := ho.sl
      rw [RV.out.1] at ex
      subst ex
      have SV := Lib.hid ho.sl
      have IV := Lib.hid ho.intRow
      have s2 : base ≤ w2.heap.size := Nat.le_trans hb G2.out.size
      clear hg ho hx hv2 S R G
      have M0 := Lib.hid (STab.made w2 w2.heap.size (Nat.le_refl _))
      go_wp2_with fail
      go_loopw [7, 8, 9] (fun o b i wr => ∃ k : Nat, k ≤ T.length ∧ i = .int .i64 k ∧ b = .bool (Sp.anyK p (T.take k)) ∧ w2.grownBy wr none ∧ ∃ vs, STab wr w2.heap.size o vs (Sp.linsK p v2 (T.take k) (Sp.anyK p (T.take k)))) (fun _ _ i _ => T.length - (intOf i).toNat)
      case atStart => exact ⟨0, Nat.zero_le _, rfl, rfl, grown_alloc (World.grownBy.refl _ _) _, [], M0.out⟩
      case round =>
        obtain ⟨k, hk, rfl, rfl, hg, vs, hst⟩ := hrel
        have G := Lib.hid hg
        have O := Lib.hid hst
        have GB : Hid (w.grownBy wr none) := Lib.hid (grown_trans G2.out hg)
        have vl : vs.length ≤ T.length + 1 := by
          rw [hst.len]
          cases hq : Sp.anyK p (T.take k) with
          | false => simp [Sp.linsK]; omega
          | true =>
            have := Sp.lins_len p v2 (T.take k)
            simp only [Sp.linsK, cond_true]
            rw [List.length_take] at this
            omega
        obtain ⟨q, hq⟩ : ∃ q, Sp.anyK p (T.take k) = q := ⟨_, rfl⟩
        have Q := Lib.hid hq
        rw [hq] at O ⊢
        clear hg hst M0 hq
        by_cases hlt : k < T.length
        · have hlt' : (k : Int) < (T.length : Int) := by omega
          obtain ⟨b, o, cap', u, e, hu, hx, hs⟩ := (TT.out.grown GB.out).at_ hlt
          injection e with e1 e2 e3
          subst e1 e3
          obtain ⟨hrow, pk, hpk4, hpk, hpkz⟩ := LE.out (T.getD k []) (by rw [List.getD_eq_getElem?_getD, List.getElem?_eq_getElem hlt]; exact List.getElem_mem hlt)
          have TM := Lib.hid (take_more T hlt)
          have AN : Hid (Sp.anyK p (T.take (k + 1)) = (q || decide ((p : Int) < pk))) := Lib.hid (by rw [TM.out, Sp.anyK_snoc, Q.out, hpk])
          have SU := Lib.hid hs
          have HR := Lib.hid hrow
          have HP := Lib.hid hpk
          have HZ := Lib.hid hpkz
          have HU := Lib.hid hu
          obtain ⟨rk, hrk⟩ : ∃ rk, T.getD k [] = rk := ⟨_, rfl⟩
          have RK := Lib.hid hrk
          rw [hrk] at SU HR HP HZ TM
          clear hs hu hrow hpk hpkz hrk
          have LEADU := Lib.hid (specL2Lead u rk wr SU.out)
          rw [HP.out] at LEADU
          have vs4 : vs.length ≤ 5 := by omega
          cases q with
          | true =>
            go_wp2_with fail
            refine (specLess u (.slice ax 4 cx) 4 p rk v2 _ SU.out (SV.out.grown G.out) HR.out RV.out (by omega) LM.out.1 hp4 LM.out.2).mono ?_
            rintro e w3 ⟨x3, rfl, hg, ho⟩
            obtain ⟨ar, cr, er, _, _, _⟩ := ho.sl
            rw [Sp.lless_len HR.out RV.out] at er
            subst er
            have G3 := Lib.hid hg
            have R3 := Lib.hid (And.intro ho.sl ho.intRow)
            have TOP := Lib.hid (O.out.still hg).top
            have s3 : w2.heap.size ≤ w3.heap.size := Nat.le_trans G.out.size hg.size
            clear hg ho hx
            go_wp2_with (first
              | (at_builtin; refine wpList_append_own _ rfl _ _ 126 rfl w2.heap.size 23 i0 (.slice none 0 0) 1 24 Try.underlying126 I1.out I2.out I3.out I4.out rfl (by decide) _ _ _ rfl (World.ownsRow.alloc TOP.out _) ⟨w3.heap.size, 0, none⟩ 1 1 [.slice ar 4 cr] rfl rfl (one_cell (g := 0)) (by simp [Value.oneCell']) ?c3 ?c4 ?c5 ?_))
            case c3 => unfold maxLen; omega
            case c4 => omega
            case c5 => simp; omega
            intro o' w5 ho2 hg2 _
            have N : Hid (STab w5 w2.heap.size o' (vs ++ [.slice ar 4 cr]) (Sp.linsK p v2 (T.take (k + 1)) (Sp.anyK p (T.take (k + 1))))) := Lib.hid (O.out.snoc G3.out R3.out (grown_trans (World.grownBy_alloc _ _ _) hg2) ho2 rfl (by rw [TM.out]; exact Sp.linsK_yes Q.out))
            have G5 : Hid (w2.grownBy w5 none) := Lib.hid (grown_own (grown_alloc (grown_trans G.out G3.out) _) hg2 (fun j hj => (World.ownsRow.lt TOP.out j hj).1))
            clear ho2 hg2 TOP G3
            go_wp2_with fail
            go_roundw
            case rel => exact ⟨k + 1, by omega, by go_num, by rw [AN.out]; rfl, G5.out, _, N.out⟩
            case measure => simp [intOf]; omega
          | false =>
            go_wp2_with fail
            refine LEADU.out.mono ?_
            rintro e w' ⟨rfl, rfl⟩
            by_cases hpp : (p : Int) < (pk : Int)
            · have D : Hid (decide ((p : Int) < (pk : Int)) = true) := Lib.hid (decide_eq_true hpp)
              have TOP0 := Lib.hid O.out.top
              have sr : w2.heap.size ≤ wr.heap.size := G.out.size
              go_wp2_with (first
                | (at_builtin; refine wpList_append_own _ rfl _ _ 126 rfl w2.heap.size 23 i0 (.slice none 0 0) 1 24 Try.underlying126 I1.out I2.out I3.out I4.out rfl (by decide) _ _ _ rfl (World.ownsRow.alloc TOP0.out _) ⟨wr.heap.size, 0, none⟩ 1 1 [.slice ax 4 cx] rfl rfl (one_cell (g := 0)) (by simp [Value.oneCell']) ?d3 ?d4 ?d5 ?_))
              case d3 => unfold maxLen; omega
              case d4 => omega
              case d5 => simp; omega
              intro o4 w4 ho4 hg4 _
              have O4 : Hid (STab w4 w2.heap.size o4 (vs ++ [.slice ax 4 cx]) (Sp.linsK p v2 (T.take k) false ++ [v2])) := Lib.hid (O.out.snoc (World.grownBy.refl _ _) ⟨SV.out.grown G.out, IV.out.still G.out⟩ (grown_trans (World.grownBy_alloc _ _ _) hg4) ho4 rfl rfl)
              have G4 : Hid (w2.grownBy w4 none) := Lib.hid (grown_own (grown_alloc G.out _) hg4 (fun j hj => (World.ownsRow.lt TOP0.out j hj).1))
              have T4 := (TT.out.grown (grown_trans G2.out G4.out)).at_ hlt
              obtain ⟨b4, o4', cap4, u4', e, hu4, hx4, hs4⟩ := T4
              injection e with e1 e2 e3
              injection e1 with e1
              injection e1 with e1 e5
              subst e1 e5 e3
              have UU : u4' = u := by have := HU.out; rw [hu4] at this; injection this
              subst UU
              have SU4 : Hid (Sl w4 u4' rk) := Lib.hid (by rw [RK.out] at hs4; exact hs4)
              clear ho4 hg4 TOP0 hs4 hu4 hx
              have hx := hx4
              clear hx4
              have vs6 : (vs ++ [Value.slice ax 4 cx]).length ≤ 6 := by simp; omega
              generalize vs ++ [Value.slice ax 4 cx] = vs' at *
              go_wp2_with fail
              refine (specLess u4' (.slice ax 4 cx) 4 p rk v2 _ SU4.out (SV.out.grown G4.out) HR.out RV.out (by omega) LM.out.1 hp4 LM.out.2).mono ?_
              rintro e w3 ⟨x3, rfl, hg, ho⟩
              obtain ⟨ar, cr, er, _, _, _⟩ := ho.sl
              rw [Sp.lless_len HR.out RV.out] at er
              subst er
              have G3 := Lib.hid hg
              have R3 := Lib.hid (And.intro ho.sl ho.intRow)
              have TOP := Lib.hid (O4.out.still hg).top
              have s3 : w2.heap.size ≤ w3.heap.size := Nat.le_trans G4.out.size hg.size
              clear hg ho hx
              go_wp2_with (first
                | (at_builtin; refine wpList_append_own _ rfl _ _ 126 rfl w2.heap.size 23 i0 (.slice none 0 0) 1 24 Try.underlying126 I1.out I2.out I3.out I4.out rfl (by decide) _ _ _ rfl (World.ownsRow.alloc TOP.out _) ⟨w3.heap.size, 0, none⟩ 1 1 [.slice ar 4 cr] rfl rfl (one_cell (g := 0)) (by simp [Value.oneCell']) ?c3 ?c4 ?c5 ?_))
              case c3 => unfold maxLen; omega
              case c4 => omega
              case c5 => simp; omega
              intro o' w5 ho2 hg2 _
              have N : Hid (STab w5 w2.heap.size o' (vs' ++ [.slice ar 4 cr]) (Sp.linsK p v2 (T.take (k + 1)) (Sp.anyK p (T.take (k + 1))))) := Lib.hid (O4.out.snoc G3.out R3.out (grown_trans (World.grownBy_alloc _ _ _) hg2) ho2 rfl (by rw [TM.out]; exact Sp.linsK_new Q.out (by rw [HP.out]; exact hpp)))
              have G5 : Hid (w2.grownBy w5 none) := Lib.hid (grown_own (grown_alloc (grown_trans G4.out G3.out) _) hg2 (fun j hj => (World.ownsRow.lt TOP.out j hj).1))
              clear ho2 hg2 TOP G3
              go_wp2_with fail
              go_roundw
              case rel => exact ⟨k + 1, by omega, by go_num, by rw [AN.out, D.out]; rfl, G5.out, _, N.out⟩
              case measure => simp [intOf]; omega
            · have D : Hid (decide ((p : Int) < (pk : Int)) = false) := Lib.hid (decide_eq_false hpp)
              go_wp2_with fail
              refine (specLess u (.slice ax 4 cx) 4 p rk v2 _ SU.out (SV.out.grown G.out) HR.out RV.out (by omega) LM.out.1 hp4 LM.out.2).mono ?_
              rintro e w3 ⟨x3, rfl, hg, ho⟩
              obtain ⟨ar, cr, er, _, _, _⟩ := ho.sl
              rw [Sp.lless_len HR.out RV.out] at er
              subst er
              have G3 := Lib.hid hg
              have R3 := Lib.hid (And.intro ho.sl ho.intRow)
              have TOP := Lib.hid (O.out.still hg).top
              have s3 : w2.heap.size ≤ w3.heap.size := Nat.le_trans G.out.size hg.size
              clear hg ho hx
              go_wp2_with (first
                | (at_builtin; refine wpList_append_own _ rfl _ _ 126 rfl w2.heap.size 23 i0 (.slice none 0 0) 1 24 Try.underlying126 I1.out I2.out I3.out I4.out rfl (by decide) _ _ _ rfl (World.ownsRow.alloc TOP.out _) ⟨w3.heap.size, 0, none⟩ 1 1 [.slice ar 4 cr] rfl rfl (one_cell (g := 0)) (by simp [Value.oneCell']) ?c3 ?c4 ?c5 ?_))
              case c3 => unfold maxLen; omega
              case c4 => omega
              case c5 => simp; omega
              intro o' w5 ho2 hg2 _
              have N : Hid (STab w5 w2.heap.size o' (vs ++ [.slice ar 4 cr]) (Sp.linsK p v2 (T.take (k + 1)) (Sp.anyK p (T.take (k + 1))))) := Lib.hid (O.out.snoc G3.out R3.out (grown_trans (World.grownBy_alloc _ _ _) hg2) ho2 rfl (by rw [TM.out]; exact Sp.linsK_no Q.out (by rw [HP.out]; omega)))
              have G5 : Hid (w2.grownBy w5 none) := Lib.hid (grown_own (grown_alloc (grown_trans G.out G3.out) _) hg2 (fun j hj => (World.ownsRow.lt TOP.out j hj).1))
              clear ho2 hg2 TOP G3
              go_wp2_with fail
              go_roundw
              case rel => exact ⟨k + 1, by omega, by go_num, by rw [AN.out, D.out]; rfl, G5.out, _, N.out⟩
              case measure => simp [intOf]; omega
        · have : k = T.length := by omega
          subst this
          cases q with
          | true =>
            go_wp2_with fail
            go_ret
            refine ⟨_, vs, rfl, GB.out, ?_⟩
            have := O.out
            rw [List.take_length] at this
            rw [E.out]
            exact this.lower s2
          | false =>
            have TOP0 := Lib.hid O.out.top
            have sr : w2.heap.size ≤ wr.heap.size := G.out.size
            go_wp2_with (first
              | (at_builtin; refine wpList_append_own _ rfl _ _ 126 rfl w2.heap.size 23 i0 (.slice none 0 0) 1 24 Try.underlying126 I1.out I2.out I3.out I4.out rfl (by decide) _ _ _ rfl (World.ownsRow.alloc TOP0.out _) ⟨wr.heap.size, 0, none⟩ 1 1 [.slice ax 4 cx] rfl rfl (one_cell (g := 0)) (by simp [Value.oneCell']) ?d3 ?d4 ?d5 ?_))
            case d3 => unfold maxLen; omega
            case d4 => omega
            case d5 => simp; omega
            intro o4 w4 ho4 hg4 _
            have O4 : Hid (STab w4 w2.heap.size o4 (vs ++ [.slice ax 4 cx]) (Sp.linsK p v2 (T.take T.length) false ++ [v2])) := Lib.hid (O.out.snoc (World.grownBy.refl _ _) ⟨SV.out.grown G.out, IV.out.still G.out⟩ (grown_trans (World.grownBy_alloc _ _ _) hg4) ho4 rfl rfl)
            have G4 : Hid (w2.grownBy w4 none) := Lib.hid (grown_own (grown_alloc G.out _) hg4 (fun j hj => (World.ownsRow.lt TOP0.out j hj).1))
            clear ho4 hg4 TOP0
            go_wp2_with fail
            go_ret
            refine ⟨_, vs ++ [.slice ax 4 cx], rfl, grown_trans G2.out G4.out, ?_⟩
            have := O4.out
            rw [Sp.linsK_end Q.out, List.take_length] at this
            rw [E.out]
            exact this.lower s2
end Go.Proofs.Ythglkgicckodaaa
namespace Go.Proofs.Ythglkgicckodaaa
open Go.RowKit
set_option linter.unusedVariables false
theorem take_rows {m : List (List Int)} (hm : ∀ r ∈ m, Sp.Row 4 r) (k : Nat) : ∀ r ∈ m.take k, Sp.Row 4 r := fun r hr => hm r (List.mem_of_mem_take hr)
set_option maxHeartbeats 1000000 in
set_option maxRecDepth 20000 in
theorem specL3Tidy (v : Value) (us : List Value) (m : List (List Int)) (w : World) (h : Tab w v us m) (hm : ∀ r ∈ m, Sp.Row 4 r) : Calls Try.prog 107 #[v] w (NewSTab w.heap.size (Sp.ltidy m) w) := by
  have T := Lib.hid h
  have HM := Lib.hid hm
  obtain ⟨a, cap, rfl, h1, h2, h3⟩ := h.top
  clear h h3 hm
  unfold maxLen at h2
  have M0 := Lib.hid (STab.made w w.heap.size (Nat.le_refl _))
  go_enter Try.func107, Try.ntmps107
  go_wp2_with fail
  go_loopw [3, 4] (fun o i wr => ∃ k : Nat, k ≤ m.length ∧ i = .int .i64 k ∧ w.grownBy wr none ∧ ∃ vs, STab wr w.heap.size o vs (Sp.ltidy (m.take k))) (fun _ i _ => m.length - (intOf i).toNat)
  case atStart => exact ⟨0, Nat.zero_le _, rfl, grown_alloc (World.grownBy.refl _ _) _, [], M0.out⟩
  case round =>
    obtain ⟨k, hk, rfl, hg, vs, hst⟩ := hrel
    have G := Lib.hid hg
    have O := Lib.hid hst
    clear hg hst M0
    by_cases hlt : k < m.length
    · have hlt' : (k : Int) < (m.length : Int) := by omega
      obtain ⟨b, o, cap', u, e, hu, hx, hs⟩ := (T.out.grown G.out).at_ hlt
      injection e with e1 e2 e3
      subst e1 e3
      have S := Lib.hid hs
      have RW := Lib.hid (Sp.fresh_row HM.out hlt)
      have TM : Hid (Sp.ltidy (m.take (k + 1)) = Sp.ladd1 (Sp.ltidy (m.take k)) (m.getD k [])) := Lib.hid (by rw [take_more m hlt, Sp.ltidy_snoc])
      obtain ⟨L, hL, _⟩ := Sp.ltidy_is (take_rows HM.out k)
      have LL := Lib.hid hL
      clear hs hu hL
      go_wp2_with fail
      refine (specL3Add w.heap.size _ u vs _ L (m.getD k []) _ O.out G.out.size S.out RW.out LL.out).mono ?_
      rintro e w2 ⟨o2, vs2, rfl, hg, hst⟩
      have G2 := Lib.hid (grown_trans G.out hg)
      have O2 : Hid (STab w2 w.heap.size o2 vs2 (Sp.ltidy (m.take (k + 1)))) := Lib.hid (by rw [TM.out]; exact hst)
      clear hg hst hx
      go_wp2_with fail
      go_roundw
      case rel => exact ⟨k + 1, by omega, by go_num, G2.out, vs2, O2.out⟩
      case measure => simp [intOf]; omega
    · have : k = m.length := by omega
      subst this
      go_wp2_with fail
      go_ret
      refine ⟨_, vs, rfl, G.out, ?_⟩
      have := O.out
      rwa [List.take_length] at this
theorem stab_form {w : World} {base : Nat} {v : Value} {us : List Value} {m : List (List Int)} (h : STab w base v us m) : ∃ a cap, v = .slice a m.length cap ∧ m.length ≤ cap ∧ cap ≤ maxLen := by
  obtain ⟨a, cap, e, h1, h2, _⟩ := h.tab.top
  exact ⟨a, cap, e, h1, h2⟩
set_option maxHeartbeats 1000000 in
set_option maxRecDepth 20000 in
theorem specL3Has (v x : Value) (us : List Value) (m : List (List Int)) (l : List Int) (w : World) (h : Tab w v us m) (hm : ∀ r ∈ m, Sp.Row 4 r) (hx : Sl w x l) (hl : Sp.Row 4 l) : Calls Try.prog 92 #[v, x] w fun e w' => e = .returned (.bool (Sp.has m l)) ∧ w.grownBy w' none := by
  have T := Lib.hid h
  have HM := Lib.hid hm
  have X := Lib.hid hx
  have RL := Lib.hid hl
  clear h hm hx hl
  go_enter Try.func92, Try.ntmps92
  go_wp2_with fail
  refine (specL3Tidy v us m _ T.out HM.out).mono ?_
  rintro e w2 ⟨o2, vs2, rfl, hg, hst⟩
  have G := Lib.hid hg
  have O := Lib.hid hst
  have X2 := Lib.hid (X.out.grown hg)
  obtain ⟨L, hL, _⟩ := Sp.ltidy_is HM.out
  have LL := Lib.hid hL
  clear hg hst hL
  go_wp2_with fail
  refine (specL3Add w.heap.size o2 x vs2 _ L l _ O.out G.out.size X2.out RL.out LL.out).mono ?_
  rintro e w3 ⟨o3, vs3, rfl, hg, hst⟩
  have G3 := Lib.hid (grown_trans G.out hg)
  obtain ⟨a, cap, rfl, _, hc⟩ := stab_form O.out
  obtain ⟨a3, cap3, rfl, _, hc3⟩ := stab_form hst
  have H : Hid (Sp.has m l = decide ((Sp.ladd1 (Sp.ltidy m) l).length = (Sp.ltidy m).length)) := Lib.hid rfl
  generalize (Sp.ltidy m).length = n at *
  generalize (Sp.ladd1 (Sp.ltidy m) l).length = k at *
  clear hg hst O LL
  by_cases hkn : k = n
  · have hb : ((k : Int) == (n : Int)) = true := by simp [hkn]
    have HB : Hid (Sp.has m l = true) := Lib.hid (by rw [H.out]; exact decide_eq_true hkn)
    clear hkn
    go_wp2_with fail
    go_ret
    exact ⟨ret_bool HB.out, G3.out⟩
  · have hb : ((k : Int) == (n : Int)) = false := by simp; omega
    have HB : Hid (Sp.has m l = false) := Lib.hid (by rw [H.out]; exact decide_eq_false hkn)
    go_wp2_with fail
    go_ret
    exact ⟨ret_bool HB.out, G3.out⟩
def hasM (m : List (List Int)) (v : List Int) : Bool := okM m && Vec.ok v && Sp.has m v
theorem Tab.take {w : World} {a : Option Addr} {cap : Nat} {us : List Value} {m : List (List Int)} (h : Tab w (.slice a m.length cap) us m) {k : Nat} (hk : k ≤ m.length) : Tab w (.slice a k cap) (us.take k) (m.take k) := by
  have hl : (m.take k).length = k := by rw [List.length_take]; omega
  refine ⟨by rw [List.length_take, List.length_take, h.len], ?_, fun i u l hu hl => ?_⟩
  · obtain ⟨a', cap', e, h1, h2, h3⟩ := h.top
    injection e with e1 e2 e3
    subst e1 e3
    refine ⟨a, cap, by rw [hl], by omega, h2, ?_⟩
    rcases h3 with rfl | ⟨b, o, rfl, h3⟩
    · exact .inl (by simp)
    · refine .inr ⟨b, o, rfl, fun i u hu => h3 i u ?_⟩
      rw [List.getElem?_take] at hu
      split at hu
      · exact hu
      · cases hu
  · rw [List.getElem?_take] at hu hl
    split at hu
    · rename_i hi
      rw [if_pos hi] at hl
      exact h.rows i u l hu hl
    · cases hu
theorem firsts_take {m : List (List Int)} {k : Nat} (hk : k < m.length) : Sp.firsts Sp.has (m.take (k + 1)) = Sp.firsts Sp.has (m.take k) ++ (if Sp.has (m.take k) (m.getD k []) then [] else [k]) := by
  rw [take_more m hk, Sp.firsts_snoc, Sp.take_len m hk]
set_option maxHeartbeats 2000000 in
set_option maxRecDepth 20000 in
theorem specL3First (v : Value) (us : List Value) (m : List (List Int)) (w : World) (h : Tab w v us m) (hm : ∀ r ∈ m, Sp.Row 4 r) (h8 : m.length ≤ 8) : Calls Try.prog 125 #[v] w (NewInts ((Sp.firsts Sp.has m).map fun (i : Nat) => (i : Int)) w) := by
  have T := Lib.hid h
  have HM := Lib.hid hm
  obtain ⟨a, cap, rfl, h1, h2, h3⟩ := h.top
  clear h h3 hm
  unfold maxLen at h2
  obtain ⟨i0, hi, hz0, hz1, hz2⟩ := info_parts infoInt
  have I1 := Lib.hid hi
  have I2 := Lib.hid hz0
  have I3 := Lib.hid hz1
  have I4 := Lib.hid hz2
  clear hi hz0 hz1 hz2
  go_enter Try.func125, Try.ntmps125
  go_wp2_with fail
  go_loopw [3, 4] (fun o i wr => ∃ k : Nat, k ≤ m.length ∧ i = .int .i64 k ∧ w.grownBy wr none ∧ Own wr w.heap.size o ((Sp.firsts Sp.has (m.take k)).map fun (i : Nat) => (i : Int))) (fun _ i _ => m.length - (intOf i).toNat)
  case atStart => exact ⟨0, Nat.zero_le _, rfl, grown_alloc (World.grownBy.refl _ _) _, Own.made w w.heap.size [] (Nat.le_refl _) (by simp)⟩
  case round =>
    obtain ⟨k, hk, rfl, hg, ho⟩ := hrel
    have G := Lib.hid (grown_drew hg)
    have O := Lib.hid (ho.still (grown_drew (World.grownBy.refl _ none)))
    have O0 := Lib.hid ho
    have G0 := Lib.hid hg
    clear hg ho
    by_cases hlt : k < m.length
    · have hlt' : (k : Int) < (m.length : Int) := by omega
      obtain ⟨b, o, cap', u, e, hu, hx, hs⟩ := (T.out.grown G.out).at_ hlt
      injection e with e1 e2 e3
      subst e1 e3
      have S := Lib.hid hs
      have RW := Lib.hid (Sp.fresh_row HM.out hlt)
      have FT := Lib.hid (firsts_take hlt)
      have LT : Hid ((Sp.firsts Sp.has (m.take k)).length ≤ 8) := Lib.hid (by have := Sp.first_len (m.take k); rw [List.length_take] at this; omega)
      have TK := Lib.hid ((T.out.grown G.out).take (k := k) (by omega))
      have kc : (k : Int) ≤ (cap : Int) := by omega
      clear hs hu G0 O0
      go_wp2_with fail
      refine wp_region_still_tail 7 (by kernel_rfl) (by kernel_rfl) ?_
      simp only [List.take_succ_cons, List.take_zero, List.drop_succ_cons, List.drop_zero]
      change wpStill _ _ wr.drew (fun a' => wpList _ _ _ _ a' wr.drew) _ _
      generalize wr.drew = w2 at *
      repeat still_step
      refine wpStill_nil ?_
      have C := Lib.hid (specL3Has _ u (us.take k) (m.take k) (m.getD k []) w2 TK.out (take_rows HM.out k) S.out RW.out)
      obtain ⟨q, hq⟩ : ∃ q, Sp.has (m.take k) (m.getD k []) = q := ⟨_, rfl⟩
      rw [hq] at C FT
      clear hq
      go_wp2_with fail
      refine C.out.mono ?_
      rintro e w3 ⟨rfl, hg⟩
      have G3 := Lib.hid (grown_trans G.out hg)
      have O3 := Lib.hid (O.out.still hg)
      obtain ⟨lf, hlf⟩ : ∃ lf, ((Sp.firsts Sp.has (m.take k)).map fun (i : Nat) => (i : Int)) = lf := ⟨_, rfl⟩
      have ll : lf.length ≤ 8 := by rw [← hlf, List.length_map]; exact LT.out
      have LF := Lib.hid hlf
      rw [hlf] at O3
      have s3 : w.heap.size ≤ w3.heap.size := G3.out.size
      clear hg hx hlf O C
      cases q with
      | true =>
        go_wp2_with fail
        go_roundw
        case rel => exact ⟨k + 1, by omega, by go_num, G3.out, by rw [FT.out, if_pos trivial, List.append_nil, LF.out]; exact O3.out⟩
        case measure => simp [intOf]; omega
      | false =>
        go_wp2_with (first
          | (at_builtin; refine wpList_append_own _ rfl _ _ 23 rfl w.heap.size 3 i0 (.int .i64 0) 1 8 Try.underlying23 I1.out I2.out I3.out I4.out rfl (by decide) _ _ _ rfl (World.ownsRow.alloc O3.out _) ⟨w3.heap.size, 0, none⟩ 1 1 [.int .i64 k] rfl rfl (one_cell (g := 0)) (vals_one [(k : Int)]) ?c3 ?c4 ?c5 ?_))
        case c3 => unfold maxLen; omega
        case c4 => omega
        case c5 => simp; omega
        intro o' w5 ho hg _
        have O5 := Lib.hid (own_snoc (l := lf) (x := (k : Int)) ho rfl rfl)
        have G5 : Hid (w.grownBy w5 none) := Lib.hid (grown_own (grown_alloc G3.out _) hg (fun j hj => (World.ownsRow.lt O3.out j hj).1))
        clear ho hg
        go_wp2_with fail
        go_roundw
        case rel => exact ⟨k + 1, by omega, by go_num, G5.out, by rw [FT.out, if_neg (by simp), List.map_append, LF.out]; exact O5.out⟩
        case measure => simp [intOf]; omega
    · have : k = m.length := by omega
      subst this
      go_wp2_with fail
      go_ret
      refine ⟨_, rfl, G0.out, ?_⟩
      have := O0.out
      rwa [List.take_length] at this
end Go.Proofs.Ythglkgicckodaaa
namespace Go.Proofs.Ythglkgicckodaaa
open Go.RowKit
set_option linter.unusedVariables false
theorem eight_of {l : List Int} (h : l.length = 12) : ∃ x y z t a b c d e f g i, l = [x, y, z, t, a, b, c, d, e, f, g, i] := by
  match l, h with
  | [x, y, z, t, a, b, c, d, e, f, g, i], _ => exact ⟨x, y, z, t, a, b, c, d, e, f, g, i, rfl⟩
def ByOf (r : List Int) (w : World) (e : Ending) (w' : World) : Prop :=
  w.grownBy w' none ∧ ((Vec.first (r.take 4) 0 < 0 ∧ e = .returned (.tuple #[.agg (vals ((Sp.lmul r 30).drop 4)).toArray, .bool true])) ∨
    (¬ Vec.first (r.take 4) 0 < 0 ∧ e = .returned (.tuple #[.agg #[.int .i64 0, .int .i64 0, .int .i64 0, .int .i64 0, .int .i64 0, .int .i64 0, .int .i64 0, .int .i64 0], .bool false])))
set_option maxHeartbeats 4000000 in
set_option maxRecDepth 20000 in
theorem echBy (base g : Nat) (q : Nat → Option Addr) (S : Sp.Cols) (pv : Value) (ps : List Int) (x y z t : Int) (w : World) (hE : Ech w base g q S pv ps) (hS : ∀ j l, S j = some l → Sp.Row 12 l) (hv : Vec.ok [x, y, z, t] = true) :
    Calls Try.prog 118 #[.pointer (some ⟨g, 0, none⟩), .agg #[.int .i64 x, .int .i64 y, .int .i64 z, .int .i64 t]] w (ByOf (Sp.red S 4 ([x, y, z, t] ++ Sp.none8)) w) := by
  have E := Lib.hid hE
  have RS := Lib.hid hS
  have RV : Hid (Sp.Row 12 ([x, y, z, t] ++ Sp.none8)) := Lib.hid (Sp.row_join (Sp.row_ok.1 hv) Sp.row_none8)
  have NE : Hid (∀ j b, q j = some ⟨b, 0, none⟩ → b ≠ w.heap.size + 2) := Lib.hid (fun j b hq e => by
    obtain ⟨l, _, _, ha⟩ := hE.some_ hq
    have := ha.lt
    omega)
  obtain ⟨W0, hW0⟩ : ∃ W, W = ((w.alloc (.cells #[.int .i64 x, .int .i64 y, .int .i64 z, .int .i64 t] 68)).alloc (.cells #[.int .i64 0, .int .i64 0, .int .i64 0, .int .i64 0, .int .i64 0, .int .i64 0, .int .i64 0, .int .i64 0] 88)).alloc (.cells #[.int .i64 x, .int .i64 y, .int .i64 z, .int .i64 t, .int .i64 0, .int .i64 0, .int .i64 0, .int .i64 0, .int .i64 0, .int .i64 0, .int .i64 0, .int .i64 0] 169) := ⟨_, rfl⟩
  have G0 : Hid (w.grownBy W0 none) := Lib.hid (by rw [hW0]; exact grown_alloc (grown_alloc (grown_alloc (World.grownBy.refl _ _) _) _) _)
  have A0 : Hid (Arr W0 (w.heap.size + 2) 169 ([x, y, z, t] ++ Sp.none8)) := Lib.hid (by
    rw [hW0]
    have := Arr.new ((w.alloc (.cells #[.int .i64 x, .int .i64 y, .int .i64 z, .int .i64 t] 68)).alloc (.cells #[.int .i64 0, .int .i64 0, .int .i64 0, .int .i64 0, .int .i64 0, .int .i64 0, .int .i64 0, .int .i64 0] 88)) 169 ([x, y, z, t] ++ Sp.none8)
    rw [World.size_alloc, World.size_alloc] at this
    exact this)
  have B0 : Hid (Arr W0 (w.heap.size + 1) 88 [0, 0, 0, 0, 0, 0, 0, 0]) := Lib.hid (by
    rw [hW0]
    have := (Arr.new (w.alloc (.cells #[.int .i64 x, .int .i64 y, .int .i64 z, .int .i64 t] 68)) 88 [0, 0, 0, 0, 0, 0, 0, 0]).alloc (.cells #[.int .i64 x, .int .i64 y, .int .i64 z, .int .i64 t, .int .i64 0, .int .i64 0, .int .i64 0, .int .i64 0, .int .i64 0, .int .i64 0, .int .i64 0, .int .i64 0] 169)
    rw [World.size_alloc] at this
    exact this)
  have E0 := Lib.hid (E.out.grown G0.out)
  obtain ⟨r, hr⟩ : ∃ r, Sp.red S 4 ([x, y, z, t] ++ Sp.none8) = r := ⟨_, rfl⟩
  rw [hr]
  have HR := Lib.hid hr
  clear hE hS hv hr
  go_enter Try.func118, Try.ntmps118
  go_wp2_with fail
  rw [← hW0]
  clear hW0
  obtain ⟨a, hA⟩ : ∃ a, a = w.heap.size + 2 := ⟨_, rfl⟩
  obtain ⟨d, hD⟩ : ∃ d, d = w.heap.size + 1 := ⟨_, rfl⟩
  rw [← hA] at A0 NE ⊢
  rw [← hD] at B0 ⊢
  have da : d ≠ a ∧ w.heap.size ≤ d ∧ w.heap.size ≤ a := by omega
  clear hA hD
  refine (echReduce base g a q S pv ps ([x, y, z, t] ++ Sp.none8) W0 E0.out A0.out RV.out RS.out NE.out).mono ?_
  rintro e w2 ⟨rfl, hg, hA2⟩
  have RR := Lib.hid (Sp.red_row RS.out RV.out 4)
  rw [HR.out] at hA2 RR
  have B2 := Lib.hid (B0.out.kept hg (fun e => da.1 (by injection e)))
  have A2 := Lib.hid hA2
  have G2 : Hid (w.grownBy w2 none) := Lib.hid (grown_own G0.out hg (fun k hk => by injection hk with hk; omega))
  clear hg hA2 E0 A0 B0 G0 E
  obtain ⟨x1, y1, z1, t1, r1, hre, _, _⟩ := four_of_row RR.out
  have a0 : w2.cell? ⟨a, 0, none⟩ = some (.int .i64 x1) := by have := A2.out.cell (i := 0) (by rw [RR.out.1]; omega); rw [hre] at this; exact this
  have a1 : w2.cell? ⟨a, 1, none⟩ = some (.int .i64 y1) := by have := A2.out.cell (i := 1) (by rw [RR.out.1]; omega); rw [hre] at this; exact this
  have a2 : w2.cell? ⟨a, 2, none⟩ = some (.int .i64 z1) := by have := A2.out.cell (i := 2) (by rw [RR.out.1]; omega); rw [hre] at this; exact this
  have a3 : w2.cell? ⟨a, 3, none⟩ = some (.int .i64 t1) := by have := A2.out.cell (i := 3) (by rw [RR.out.1]; omega); rw [hre] at this; exact this
  have TK : Hid (r.take 4 = [x1, y1, z1, t1]) := Lib.hid (by rw [hre]; rfl)
  clear hre
  go_wp2_with fail
  refine (rowLead x1 y1 z1 t1 _).mono ?_
  rintro e w3 ⟨rfl, hg⟩
  have A3 := Lib.hid (A2.out.still hg)
  have B3 := Lib.hid (B2.out.still hg)
  have G3 := Lib.hid (grown_trans G2.out hg)
  clear hg a0 a1 a2 a3 A2 B2 G2
  obtain ⟨ld, hld⟩ : ∃ ld, Vec.first [x1, y1, z1, t1] 0 = ld := ⟨_, rfl⟩
  rw [hld]
  have LD : Hid (Vec.first (r.take 4) 0 = ld) := Lib.hid (by rw [TK.out]; exact hld)
  clear hld TK
  by_cases hpos : ld ≥ 0
  · have d0 : w3.cell? ⟨d, 0, none⟩ = some (.int .i64 0) := B3.out.cell (by simp)
    have d1 : w3.cell? ⟨d, 1, none⟩ = some (.int .i64 0) := B3.out.cell (by simp)
    have d2 : w3.cell? ⟨d, 2, none⟩ = some (.int .i64 0) := B3.out.cell (by simp)
    have d3 : w3.cell? ⟨d, 3, none⟩ = some (.int .i64 0) := B3.out.cell (by simp)
    have d4 : w3.cell? ⟨d, 4, none⟩ = some (.int .i64 0) := B3.out.cell (by simp)
    have d5 : w3.cell? ⟨d, 5, none⟩ = some (.int .i64 0) := B3.out.cell (by simp)
    have d6 : w3.cell? ⟨d, 6, none⟩ = some (.int .i64 0) := B3.out.cell (by simp)
    have d7 : w3.cell? ⟨d, 7, none⟩ = some (.int .i64 0) := B3.out.cell (by simp)
    have f0 := B3.out.frozen 0
    have f1 := B3.out.frozen 1
    have f2 := B3.out.frozen 2
    have f3 := B3.out.frozen 3
    have f4 := B3.out.frozen 4
    have f5 := B3.out.frozen 5
    have f6 := B3.out.frozen 6
    have f7 := B3.out.frozen 7
    have NN : Hid (0 ≤ Vec.first (r.take 4) 0) := Lib.hid (by rw [LD.out]; omega)
    have sd := da.2.1
    go_wp2_with fail
    refine bodyPost_ret (v := .tuple #[.agg #[.int .i64 0, .int .i64 0, .int .i64 0, .int .i64 0, .int .i64 0, .int .i64 0, .int .i64 0, .int .i64 0], .bool false]) (by simp [results, Try.results118, go_sem, d0, d1, d2, d3, d4, d5, d6, d7]) rfl ⟨?_, .inr ⟨Int.not_lt.2 NN.out, rfl⟩⟩
    repeat' first | with_reducible exact G3.out | refine grown_set ?_ sd _
  · have NN : Hid (Vec.first (r.take 4) 0 < 0) := Lib.hid (by rw [LD.out]; omega)
    go_wp2_with fail
    refine (elemDif 0 1 _ rfl rfl).mono ?_
    rintro e w' ⟨rfl, rfl⟩
    rw [show ((0 : Int) - 1) % 31 = 30 by decide]
    go_wp2_with fail
    refine (lineScale a r 30 _ A3.out RR.out rfl).mono ?_
    rintro e w4 ⟨rfl, hg, hA4⟩
    have B4 := B3.out.kept hg (fun e => da.1 (by injection e))
    have G4 := Lib.hid (grown_own G3.out hg (fun k hk => by injection hk with hk; omega))
    have hl12 := (Sp.row_lmul RR.out 30).1
    obtain ⟨s, hs⟩ : ∃ s, Sp.lmul r 30 = s := ⟨_, rfl⟩
    rw [hs] at hA4 hl12
    have HS := Lib.hid hs
    clear hg hs
    obtain ⟨s0, s1, s2, s3, s4, s5, s6, s7, s8, s9, sa, sb, rfl⟩ := eight_of hl12
    have c4 : w4.cell? ⟨a, 4, none⟩ = some (.int .i64 s4) := hA4.cell (by simp)
    have c5 : w4.cell? ⟨a, 5, none⟩ = some (.int .i64 s5) := hA4.cell (by simp)
    have c6 : w4.cell? ⟨a, 6, none⟩ = some (.int .i64 s6) := hA4.cell (by simp)
    have c7 : w4.cell? ⟨a, 7, none⟩ = some (.int .i64 s7) := hA4.cell (by simp)
    have c8 : w4.cell? ⟨a, 8, none⟩ = some (.int .i64 s8) := hA4.cell (by simp)
    have c9 : w4.cell? ⟨a, 9, none⟩ = some (.int .i64 s9) := hA4.cell (by simp)
    have ca : w4.cell? ⟨a, 10, none⟩ = some (.int .i64 sa) := hA4.cell (by simp)
    have cb : w4.cell? ⟨a, 11, none⟩ = some (.int .i64 sb) := hA4.cell (by simp)
    have d0 : w4.cell? ⟨d, 0, none⟩ = some (.int .i64 0) := B4.cell (by simp)
    have d1 : w4.cell? ⟨d, 1, none⟩ = some (.int .i64 0) := B4.cell (by simp)
    have d2 : w4.cell? ⟨d, 2, none⟩ = some (.int .i64 0) := B4.cell (by simp)
    have d3 : w4.cell? ⟨d, 3, none⟩ = some (.int .i64 0) := B4.cell (by simp)
    have d4 : w4.cell? ⟨d, 4, none⟩ = some (.int .i64 0) := B4.cell (by simp)
    have d5 : w4.cell? ⟨d, 5, none⟩ = some (.int .i64 0) := B4.cell (by simp)
    have d6 : w4.cell? ⟨d, 6, none⟩ = some (.int .i64 0) := B4.cell (by simp)
    have d7 : w4.cell? ⟨d, 7, none⟩ = some (.int .i64 0) := B4.cell (by simp)
    have f0 := B4.frozen 0
    have f1 := B4.frozen 1
    have f2 := B4.frozen 2
    have f3 := B4.frozen 3
    have f4 := B4.frozen 4
    have f5 := B4.frozen 5
    have f6 := B4.frozen 6
    have f7 := B4.frozen 7
    have sd := da.2.1
    clear hA4 B4 hl12
    go_wp2_with fail
    refine bodyPost_ret (v := .tuple #[.agg #[.int .i64 s4, .int .i64 s5, .int .i64 s6, .int .i64 s7, .int .i64 s8, .int .i64 s9, .int .i64 sa, .int .i64 sb], .bool true]) (by simp [results, Try.results118, go_sem, d0, d1, d2, d3, d4, d5, d6, d7]) rfl ⟨?_, .inl ⟨NN.out, by rw [HS.out]; rfl⟩⟩
    repeat' first | with_reducible exact G4.out | refine grown_set ?_ sd _
end Go.Proofs.Ythglkgicckodaaa
namespace Go.Proofs.Ythglkgicckodaaa
open Go.RowKit
set_option linter.unusedVariables false
def ByM (m : List (List Int)) (v : List Int) (b : Bool) (l : List Int) : Prop := b = hasM m v ∧ ((b = true ∧ okM m = true ∧ Vec.ok v = true ∧ Sp.IsBy m v l) ∨ (b = false ∧ l = []))
theorem ByM.one {m : List (List Int)} {v l l' : List Int} {b b' : Bool} (h : ByM m v b l) (h' : ByM m v b' l') : b = b' ∧ l = l' := by
  have e : b = b' := h.1.trans h'.1.symm
  subst e
  refine ⟨rfl, ?_⟩
  rcases h.2 with ⟨hb, hm, _, hi⟩ | ⟨hb, rfl⟩
  · rcases h'.2 with ⟨_, _, _, hi'⟩ | ⟨hb', _⟩
    · exact hi.one (okM_all hm) hi'
    · rw [hb] at hb'; cases hb'
  · rcases h'.2 with ⟨hb', _⟩ | ⟨_, rfl⟩
    · rw [hb] at hb'; cases hb'
    · rfl
theorem ByM.no {m : List (List Int)} {v : List Int} (h : hasM m v = false) : ByM m v false [] := ⟨h.symm, .inr ⟨rfl, rfl⟩⟩
end Go.Proofs.Ythglkgicckodaaa
namespace Go.Proofs.Ythglkgicckodaaa
open Go.RowKit
set_option linter.unusedVariables false
theorem Tab.drop {w : World} {b o cap : Nat} {us : List Value} {m : List (List Int)} (h : Tab w (.slice (some ⟨b, o, none⟩) m.length cap) us m) {k : Nat} (hk : k ≤ m.length) {a : Option Addr} (ha : ¬ cap = k → a = some ⟨b, o + k, none⟩) : Tab w (.slice a (m.length - k) (cap - k)) (us.drop k) (m.drop k) := by
  obtain ⟨a', cap', e, h1, h2, h3⟩ := h.top
  injection e with e1 e2 e3
  subst e1 e3
  refine ⟨by rw [List.length_drop, List.length_drop, h.len], ?_, fun i u l hu hl => ?_⟩
  · refine ⟨a, cap - k, by rw [List.length_drop], by rw [List.length_drop]; omega, by omega, ?_⟩
    by_cases hkm : m.length = k
    · left; rw [← hkm]; simp
    · right
      rcases h3 with rfl | ⟨b', o', e, h3⟩
      · simp at hkm hk; omega
      · injection e with e
        injection e with e e'
        subst e e'
        refine ⟨b, o + k, ha (by omega), fun i u hu => ?_⟩
        rw [List.getElem?_drop] at hu
        have := h3 (k + i) u hu
        rw [show o + k + i = o + (k + i) by omega]
        exact this
  · rw [List.getElem?_drop] at hu hl
    exact h.rows (k + i) u l hu hl
end Go.Proofs.Ythglkgicckodaaa
