/-
  Texts of earlier chapters, one behind the other; each says what it holds.
  Conditions: none.
-/
import Derived.Test.YtlehcpcejkpbmaaDoorG1
import Derived.Deep.RegionHeld3
import Derived.WalkSpells
import Derived.StillTailTactics
import Derived.Deep.RegionWith

/-
  The contracts of the model's functions of chapter 2.
  Conditions: none.
-/
namespace Go.Proofs.YtlehcpcejkpbmaaDoor
open Go.RowKit
set_option linter.unusedVariables false

theorem own_snoc {w : World} {base : Nat} {v : Value} {l l' : List Int} {x : Int} {n : Nat} (h : w.ownsRow base 3 1 v n (vals l ++ [.int .i64 x])) (hn : n = l.length + 1) (e : l ++ [x] = l') : Own w base v l' := by
  subst e hn
  unfold Own
  rw [← vals_append]
  simpa using h
theorem far_own {w : World} {base b : Nat} {v : Value} {l : List Int} (h : Own w base v l) (hb : b < base) : some b ≠ v.ownBlock :=
  fun e => by have := (World.ownsRow.lt h b e.symm).1; omega
theorem take_snoc {l : List Int} {k : Nat} (h : k < l.length) {x : Int} (hx : l.getD k 0 = x) : l.take k ++ [x] = l.take (k + 1) := by
  rw [List.take_succ_eq_append_getElem h, ← hx]
  simp [List.getD_eq_getElem?_getD, h]
theorem one_cell {w : World} {g : Nat} {u : Value} {t : TypeId} : ∀ j v, [u][j]? = some v → (w.alloc (.cells #[u] t)).cell? ((⟨w.heap.size, 0, none⟩ : Addr).add j) = some v := by
  intro j v hj
  match j, hj with
  | 0, hj => simp at hj; subst hj; simp [Addr.add]

set_option maxHeartbeats 1000000 in
set_option maxRecDepth 20000 in
theorem specL2Scale (v : Value) (l : List Int) (c : Int) (w : World) (h : Sl w v l) (hl : Vec.ok l = true) (hc : Fld.ok c = true) : Calls Tryd.prog 58 #[v, .int .i64 c] w (NewInts (Vec.scale l c) w) := by
  obtain ⟨a, cap, rfl, hlc, hcm, hr⟩ := h
  unfold maxLen at hcm
  have R := Lib.hid hr
  have L4 := Lib.hid (Vec.ok_len hl)
  have OL := Lib.hid hl
  have OC := Lib.hid hc
  have SG := Lib.hid (fun (i : Nat) (hi : i < 4) => Vec.scale_get hl hc hi)
  have S4 := Lib.hid (Vec.ok_len (Vec.scale_is hl hc))
  have l4 : l.length ≤ 4 := by have := L4.out; omega
  clear hr hl
  obtain ⟨i0, hi, hz0, hz1, hz2⟩ := info_parts (show (Tryd.prog.info? 3).map (fun i => (i.zero, i.size, i.bytes)) = some (some (.int .i64 0), 1, 8) by kernel_rfl)
  have I1 := Lib.hid hi
  have I2 := Lib.hid hz0
  have I3 := Lib.hid hz1
  have I4 := Lib.hid hz2
  clear hi hz0 hz1 hz2
  go_enter Tryd.func58, Tryd.ntmps58
  go_wp2_with fail
  go_loopw [5, 6] (fun o i wr => ∃ k : Nat, k ≤ l.length ∧ i = .int .i64 k ∧ w.grownBy wr none ∧ Own wr w.heap.size o ((Vec.scale l c).take k)) (fun _ i _ => l.length - (intOf i).toNat)
  case atStart => 
    refine ⟨0, Nat.zero_le _, rfl, grown_alloc (World.grownBy.refl _ _) _, ?_⟩
    exact Own.made w w.heap.size [] (Nat.le_refl _) (by simp)
  case round =>
    obtain ⟨k, hk, rfl, hg, ho⟩ := hrel
    have G := Lib.hid hg
    have O := Lib.hid ho
    clear hg ho
    by_cases hlt : k < l.length
    · have k4 : k < 4 := by have := L4.out; omega
      obtain ⟨b, o, rfl, hx⟩ := (R.out.grown G.out).at_ hlt
      obtain ⟨x, hxe⟩ : ∃ x, l.getD k 0 = x := ⟨_, rfl⟩
      have hxo := Vec.ok_get OL.out k4
      have sg := SG.out k k4
      rw [hxe] at hx hxo sg
      have ⟨m0, m1⟩ := Fld.mul_le hxo hc
      rw [Fld.mul_ok hxo hc] at sg
      have E := Lib.hid (take_snoc (by rw [S4.out]; exact k4) sg)
      have TL : Hid (((Vec.scale l c).take k).length = k) := Lib.hid (by rw [List.length_take, S4.out]; omega)
      clear hxe sg
      go_wp2_with (first
        | (at_builtin; refine wpList_append_own _ rfl _ _ 23 rfl w.heap.size 3 i0 (.int .i64 0) 1 8 Tryd.underlying23 I1.out I2.out I3.out I4.out rfl (by decide) _ _ _ rfl (World.ownsRow.alloc O.out _) ⟨wr.heap.size, 0, none⟩ 1 1 [.int .i64 (x * c % 31)] rfl rfl (one_cell (g := 0)) (vals_one [x * c % 31]) ?c3 ?c4 ?c5 ?_))
      case c3 => rw [TL.out]; unfold maxLen; omega
      case c4 => rw [TL.out]; omega
      case c5 => have := G.out.size; simp; omega
      intro o' w1 ho hg _
      have O1 := Lib.hid (own_snoc ho (by simp) E.out)
      have G1 : Hid (w.grownBy w1 none) := Lib.hid (grown_own (grown_alloc G.out _) hg (fun j hj => (World.ownsRow.lt O.out j hj).1))
      clear ho hg
      go_wp2_with fail
      go_roundw
      case rel => exact ⟨k + 1, by omega, by go_num, G1.out, O1.out⟩
      case measure => simp [intOf]; omega
    · have : k = l.length := by omega
      subst this
      go_wp2_with fail
      go_ret
      refine ⟨_, rfl, G.out, ?_⟩
      have := O.out
      rwa [List.take_of_length_le (by rw [S4.out, L4.out]; omega)] at this

set_option maxHeartbeats 1000000 in
set_option maxRecDepth 20000 in
theorem specL2Sum (u v : Value) (l m : List Int) (w : World) (h : Sl w u l) (h' : Sl w v m) (hl : Vec.ok l = true) (hm : Vec.ok m = true) : Calls Tryd.prog 57 #[u, v] w (NewInts (Vec.sum l m) w) := by
  obtain ⟨a, cap, rfl, hlc, hcm, hr⟩ := h
  obtain ⟨a', cap', rfl, hlc', hcm', hr'⟩ := h'
  unfold maxLen at hcm hcm'
  have R := Lib.hid hr
  have R' := Lib.hid hr'
  have L4 := Lib.hid (Vec.ok_len hl)
  have M4 := Lib.hid (Vec.ok_len hm)
  have OL := Lib.hid hl
  have OM := Lib.hid hm
  have SG := Lib.hid (fun (i : Nat) (hi : i < 4) => Vec.sum_get hl hm hi)
  have S4 := Lib.hid (Vec.ok_len (Vec.sum_is hl hm))
  have l4 : l.length ≤ 4 := by have := L4.out; omega
  have m4 : l.length ≤ m.length := by have := L4.out; have := M4.out; omega
  clear hr hr' hl hm
  obtain ⟨i0, hi, hz0, hz1, hz2⟩ := info_parts (show (Tryd.prog.info? 3).map (fun i => (i.zero, i.size, i.bytes)) = some (some (.int .i64 0), 1, 8) by kernel_rfl)
  have I1 := Lib.hid hi
  have I2 := Lib.hid hz0
  have I3 := Lib.hid hz1
  have I4 := Lib.hid hz2
  clear hi hz0 hz1 hz2
  go_enter Tryd.func57, Tryd.ntmps57
  go_wp2_with fail
  go_loopw [5, 6] (fun ov i wr => ∃ k : Nat, k ≤ l.length ∧ i = .int .i64 k ∧ w.grownBy wr none ∧ Own wr w.heap.size ov ((Vec.sum l m).take k)) (fun _ i _ => l.length - (intOf i).toNat)
  case atStart => 
    refine ⟨0, Nat.zero_le _, rfl, grown_alloc (World.grownBy.refl _ _) _, ?_⟩
    exact Own.made w w.heap.size [] (Nat.le_refl _) (by simp)
  case round =>
    obtain ⟨k, hk, rfl, hg, ho⟩ := hrel
    have G := Lib.hid hg
    have O := Lib.hid ho
    by_cases hlt : k < l.length
    · have k4 : k < 4 := by have := L4.out; omega
      have hltm : k < m.length := by omega
      obtain ⟨b, o, rfl, hx⟩ := (R.out.grown G.out).at_ hlt
      obtain ⟨b', o', rfl, hy⟩ := (R'.out.grown G.out).at_ hltm
      obtain ⟨x, hxe⟩ : ∃ x, l.getD k 0 = x := ⟨_, rfl⟩
      obtain ⟨y, hye⟩ : ∃ y, m.getD k 0 = y := ⟨_, rfl⟩
      have hxo := Vec.ok_get OL.out k4
      have hyo := Vec.ok_get OM.out k4
      have sg := SG.out k k4
      rw [hxe] at hx hxo sg
      rw [hye] at hy hyo sg
      have ⟨x0, x1⟩ := Fld.ok_iff.1 hxo
      have ⟨y0, y1⟩ := Fld.ok_iff.1 hyo
      rw [Fld.sum_ok hxo hyo] at sg
      have E := Lib.hid (take_snoc (by rw [S4.out]; exact k4) sg)
      have TL : Hid (((Vec.sum l m).take k).length = k) := Lib.hid (by rw [List.length_take, S4.out]; omega)
      have hlt' : (k : Int) < (l.length : Int) := by omega
      have hlt2 : (k : Int) < (m.length : Int) := by omega
      clear hxe hye sg hxo hyo hg ho
      have NB : Hid (some b ≠ u5.ownBlock) := Lib.hid (far_own O.out (by obtain ⟨b2, o2, e, h2⟩ := R.out.at_ hlt; injection e with e; injection e with e1; subst e1; exact lt_of_cell h2))
      have NB' : Hid (some b' ≠ u5.ownBlock) := Lib.hid (far_own O.out (by obtain ⟨b2, o2, e, h2⟩ := R'.out.at_ hltm; injection e with e; injection e with e1; subst e1; exact lt_of_cell h2))
      have lb : b < wr.heap.size := lt_of_cell hx
      have lb' : b' < wr.heap.size := lt_of_cell hy
      have ws : IntKind.i64.wrap (x + y) = x + y := IntWalk.i64_in _ (by omega)
      have wt : (x + y).tmod 31 = (x + y) % 31 := Int.tmod_eq_emod_of_nonneg (by omega)
      have hbb : w.heap.size ≤ wr.heap.size := G.out.size
      go_wp2_with fail
      go_region_held3 (fun w' => w'.cell? ⟨b, o + k, none⟩ = some (.int .i64 x) ∧ w'.cell? ⟨b', o' + k, none⟩ = some (.int .i64 y))
        (first
          | go_keep
          | (go_split_ands
             refine ⟨?_, ?_⟩
             · (rw [hgrow.cell_far _ (by simp; omega) NB.out]; assumption)
             · (rw [hgrow.cell_far _ (by simp; omega) NB'.out]; assumption)))
        ((refine step_append_lies _ (by rfl) _ _ _ (by rfl) w.heap.size 3 i0 (.int .i64 0) 1 8 Tryd.underlying23 I1.out I2.out I3.out I4.out rfl (by omega) u5 ((Vec.sum l m).take k).length (vals ((Vec.sum l m).take k)) (by rfl) (World.ownsRow.drew (World.ownsRow.alloc O.out _))
            ⟨wr.heap.size, 0, none⟩ 1 1 [.int .i64 ((x + y) % 31)] (by rfl) (by rfl) (one_cell (g := 0)) (vals_one [(x + y) % 31])
            (by omega) (by rw [TL.out]; unfold maxLen; omega) (by rw [TL.out]; omega) (by simp; omega) (wr.heap.size + 1) (by simp) ?_; intro gg cc w1 hown1 hgrow hat hlt1))
      rw [List.length_take] at hown1
      have O1 := Lib.hid (own_snoc hown1 (by simp) E.out)
      have G1 : Hid (w.grownBy w1 none) := Lib.hid (grown_own (grown_drew (grown_alloc G.out _)) hgrow (fun j hj => (World.ownsRow.lt O.out j hj).1))
      clear hown1 hgrow hat hlt1 hx hy ws wt
      go_wp2_with fail
      go_roundw
      case rel => exact ⟨k + 1, by omega, by go_num, G1.out, O1.out⟩
      case measure => simp [intOf]; omega
    · have : k = l.length := by omega
      subst this
      clear hg ho
      go_wp2_with fail
      go_ret
      refine ⟨_, rfl, G.out, ?_⟩
      have := O.out
      rwa [List.take_of_length_le (by rw [S4.out, L4.out]; omega)] at this

set_option maxHeartbeats 1000000 in
set_option maxRecDepth 20000 in
theorem specL2Dot (u v : Value) (l m : List Int) (w : World) (h : Sl w u l) (h' : Sl w v m) (hl : Vec.ok l = true) (hm : Vec.ok m = true) : Calls Tryd.prog 93 #[u, v] w (IntOf (Vec.dot l m) w) := by
  obtain ⟨a, cap, rfl, hlc, hcm, hr⟩ := h
  obtain ⟨a', cap', rfl, hlc', hcm', hr'⟩ := h'
  unfold maxLen at hcm hcm'
  have R := Lib.hid hr
  have R' := Lib.hid hr'
  have L4 := Lib.hid (Vec.ok_len hl)
  have M4 := Lib.hid (Vec.ok_len hm)
  have OL := Lib.hid hl
  have OM := Lib.hid hm
  have l4 : l.length ≤ 4 := by have := L4.out; omega
  have m4 : l.length ≤ m.length := by have := L4.out; have := M4.out; omega
  clear hr hr' hl hm
  go_enter Tryd.func93, Tryd.ntmps93
  go_wp2_with fail
  go_loopw [5, 6] (fun n i wr => ∃ k : Nat, k ≤ l.length ∧ i = .int .i64 k ∧ n = .int .i64 (Vec.dpart l m k) ∧ w.grownBy wr none) (fun _ i _ => l.length - (intOf i).toNat)
  case atStart => exact ⟨0, Nat.zero_le _, rfl, rfl, World.grownBy.refl _ _⟩
  case round =>
    obtain ⟨k, hk, rfl, rfl, hg⟩ := hrel
    have G := Lib.hid hg
    clear hg
    by_cases hlt : k < l.length
    · have k4 : k < 4 := by have := L4.out; omega
      have hltm : k < m.length := by omega
      obtain ⟨b, o, rfl, hx⟩ := (R.out.grown G.out).at_ hlt
      obtain ⟨b', o', rfl, hy⟩ := (R'.out.grown G.out).at_ hltm
      have N : Hid ((Vec.dpart l m k + l.getD k 0 * m.getD k 0) % 31 = Vec.dpart l m (k + 1)) := Lib.hid rfl
      have D := Vec.dpart_is l m k
      have hxo := Vec.ok_get OL.out k4
      have hyo := Vec.ok_get OM.out k4
      obtain ⟨d, hd⟩ : ∃ d, Vec.dpart l m k = d := ⟨_, rfl⟩
      obtain ⟨x, hxe⟩ : ∃ x, l.getD k 0 = x := ⟨_, rfl⟩
      obtain ⟨y, hye⟩ : ∃ y, m.getD k 0 = y := ⟨_, rfl⟩
      rw [hxe] at hx hxo
      rw [hye] at hy hyo
      rw [hd] at D
      rw [hd, hxe, hye] at N
      rw [hd]
      have ⟨d0, d1⟩ := Fld.ok_iff.1 D
      have ⟨p0, p1⟩ := Fld.mul_le hxo hyo
      have hlt' : (k : Int) < (l.length : Int) := by omega
      have hlt2 : (k : Int) < (m.length : Int) := by omega
      have w1 : IntKind.i64.wrap (x * y) = x * y := IntWalk.i64_in _ (by omega)
      have w2 : IntKind.i64.wrap (d + x * y) = d + x * y := IntWalk.i64_in _ (by omega)
      clear hxe hye hd hxo hyo D
      go_wp2_with fail
      go_quiet (fail)
      clear w1 w2
      go_wp2_with fail
      go_roundw
      case rel => exact ⟨k + 1, by omega, by go_num, by rw [← N.out], grown_draws G.out _⟩
      case measure => simp [intOf]; omega
    · have : k = l.length := by omega
      subst this
      go_wp2_with fail
      go_ret
      exact ⟨ret_int (by rw [L4.out]; exact Vec.dpart_all OL.out OM.out), G.out⟩

theorem Vec.first_take {l : List Int} : ∀ {k i : Nat}, (∀ j, j < k → l.getD j 0 = 0) → k ≤ l.length → Vec.first l i = Vec.first (l.drop k) (i + k) := by
  intro k
  induction k generalizing l with
  | zero => intro i _ _; rfl
  | succ k ih =>
    intro i h hk
    match l, hk with
    | x :: l, hk =>
      have h0 : x = 0 := by simpa using h 0 (by omega)
      subst h0
      rw [Vec.first_no (by simp), List.drop_succ_cons, ih (l := l) (i := i + 1) (fun j hj => by simpa using h (j + 1) (by omega)) (by simpa using hk)]
      congr 1
      omega

set_option maxHeartbeats 1000000 in
set_option maxRecDepth 20000 in
theorem specL2Lead (v : Value) (l : List Int) (w : World) (h : Sl w v l) : Calls Tryd.prog 99 #[v] w fun e w' => e = .returned (.int .i64 (Vec.first l 0)) ∧ w = w' := by
  obtain ⟨a, cap, rfl, hlc, hcm, hr⟩ := h
  unfold maxLen at hcm
  have R := Lib.hid hr
  clear hr
  go_enter Tryd.func99, Tryd.ntmps99
  go_wp2_with fail
  go_loop [3] (fun i => ∃ k : Nat, k ≤ l.length ∧ i = .int .i64 k ∧ ∀ j, j < k → l.getD j 0 = 0) (fun i => l.length - (intOf i).toNat)
  case atStart => exact ⟨0, Nat.zero_le _, rfl, by omega⟩
  case round =>
    obtain ⟨k, hk, rfl, ha⟩ := hrel
    have A := Lib.hid ha
    clear ha
    by_cases hlt : k < l.length
    · obtain ⟨b, o, rfl, hx⟩ := R.out.at_ hlt
      obtain ⟨x, hxe⟩ : ∃ x, l.getD k 0 = x := ⟨_, rfl⟩
      rw [hxe] at hx
      have E := Lib.hid hxe
      clear hxe
      by_cases h0 : x = 0
      · have hb : (x != 0) = false := by rw [bne_eq_false_iff_eq]; exact h0
        have H0 := Lib.hid h0
        clear h0
        go_wp2_with fail
        go_round
        case rel =>
          refine ⟨k + 1, by omega, by go_num, fun j hj => ?_⟩
          by_cases hjk : j = k
          · subst hjk; rw [E.out]; exact H0.out
          · exact A.out j (by omega)
        case measure => simp [intOf]; omega
      · have hb : (x != 0) = true := by rw [bne_iff_ne]; exact h0
        have B := Lib.hid hb
        go_wp2_with fail
        go_ret
        refine ⟨ret_int ?_, rfl⟩
        rw [Vec.first_take (k := k) A.out hk, List.drop_eq_getElem_cons hlt, Vec.first_yes (by
          have := E.out; rw [List.getD_eq_getElem?_getD, List.getElem?_eq_getElem hlt, Option.getD_some] at this; rw [this]; exact B.out)]
        simp
    · have : k = l.length := by omega
      subst this
      go_wp2_with fail
      go_ret
      refine ⟨ret_int ?_, rfl⟩
      rw [Vec.first_take (k := l.length) A.out (Nat.le_refl _), List.drop_length]
      rfl

theorem Vec.sum_len (l m : List Int) : (Vec.sum l m).length ≤ 4 := by
  cases h : Vec.ok l && Vec.ok m
  · rw [Vec.sum_no h]; simp
  · have ⟨hl, hm⟩ : Vec.ok l = true ∧ Vec.ok m = true := by simpa using h
    rw [Vec.ok_len (Vec.sum_is hl hm)]; omega
theorem Vec.scale_len (l : List Int) (c : Int) : (Vec.scale l c).length ≤ 4 := by
  cases h : Vec.ok l && Fld.ok c
  · rw [Vec.scale_no h]; simp
  · have ⟨hl, hm⟩ : Vec.ok l = true ∧ Fld.ok c = true := by simpa using h
    rw [Vec.ok_len (Vec.scale_is hl hm)]; omega
theorem Vec.unit_len (n : Int) : (Vec.unit n).length ≤ 4 := by
  unfold Vec.unit
  cases decide (0 ≤ n) && decide (n < 4) <;> simp
theorem unit_yes {n : Int} (h0 : 0 ≤ n) (h1 : n < 4) : ∃ k : Nat, k < 4 ∧ n = k := ⟨n.toNat, by omega, by omega⟩
theorem unit_no {n : Int} (h : ¬ (0 ≤ n ∧ n < 4)) : Vec.unit n = [] := by
  unfold Vec.unit
  have : (decide (0 ≤ n) && decide (n < 4)) = false := by
    rw [← Bool.not_eq_true]; simpa using h
  rw [this]; rfl

set_option maxHeartbeats 1000000 in
set_option maxRecDepth 20000 in
theorem specIn (n a b : Int) (w : World) : Calls Tryd.prog 73 #[.int .i64 n, .int .i64 a, .int .i64 b] w fun e w' => e = .returned (.bool (decide (a ≤ n) && decide (n ≤ b))) ∧ w = w' := by
  by_cases h0 : a ≤ n
  · have e0 : decide (a ≤ n) = true := by simpa using h0
    by_cases h1 : n ≤ b
    · have e1 : decide (n ≤ b) = true := by simpa using h1
      have E : Hid ((decide (a ≤ n) && decide (n ≤ b)) = true) := Lib.hid (by rw [e0, e1]; rfl)
      go_enter Tryd.func73, Tryd.ntmps73
      go_wp2
      go_ret
      exact ⟨by first | exact ret_bool E.out | rfl, rfl⟩
    · have e1 : decide (n ≤ b) = false := by simpa using h1
      have E : Hid ((decide (a ≤ n) && decide (n ≤ b)) = false) := Lib.hid (by rw [e0, e1]; rfl)
      go_enter Tryd.func73, Tryd.ntmps73
      go_wp2
      go_ret
      exact ⟨by first | exact ret_bool E.out | rfl, rfl⟩
  · have e0 : decide (a ≤ n) = false := by simpa using h0
    have E : Hid ((decide (a ≤ n) && decide (n ≤ b)) = false) := Lib.hid (by rw [e0]; rfl)
    go_enter Tryd.func73, Tryd.ntmps73
    go_wp2
    go_ret
    exact ⟨by first | exact ret_bool E.out | rfl, rfl⟩

/-- the laws' own row of a number. -/
def Vec.lk (n : Int) : List Int := [n % 31, n * 3 % 31, (n * n + 1) % 31, (n + 7) % 31]
theorem Vec.lk_is (n : Int) : Vec.ok (Vec.lk n) = true := Vec.ok_mk (Vec.mod_is _) (Vec.mod_is _) (Vec.mod_is _) (Vec.mod_is _)

set_option maxHeartbeats 1000000 in
set_option maxRecDepth 20000 in
theorem lkVec (n : Int) (w : World) (h0 : 0 ≤ n) (h1 : n ≤ 1048576) : Calls Tryd.prog 16 #[.int .i64 n] w (NewInts (Vec.lk n) w) := by
  have q0 : 0 ≤ n * n := Int.mul_nonneg h0 h0
  have q1 : n * n ≤ 1048576 * 1048576 := Int.mul_le_mul h1 h1 h0 (by omega)
  go_enter Tryd.func16, Tryd.ntmps16
  go_wp2_with (go_at_call 29; refine (lkNum _ _ (by omega) (by omega)).mono ?_; rintro e w' ⟨rfl, rfl⟩)
  go_ret
  exact ⟨_, rfl, grown_alloc (World.grownBy.refl _ _) _, Own.made w w.heap.size (Vec.lk n) (Nat.le_refl _) (by simp [Vec.lk, maxLen])⟩

/-- VecUnit of both, in one form. -/
def Vec.unitOk (n : Int) : Bool := decide (0 ≤ n) && decide (n < 4)
theorem Vec.unitOk_yes {n : Int} (h0 : 0 ≤ n) (h1 : n < 4) : Vec.unitOk n = true := by simp [Vec.unitOk, h0, h1]
theorem Vec.unitOk_no {n : Int} (h : ¬ (0 ≤ n ∧ n < 4)) : Vec.unitOk n = false := by
  rw [← Bool.not_eq_true]; simpa [Vec.unitOk] using h
end Go.Proofs.YtlehcpcejkpbmaaDoor

/-
  The contracts of the model's functions of chapter 3, and of chapter 2's that they call, for rows of any length.
  Conditions: a row has at most 64 numbers.
-/
namespace Go.Proofs.YtlehcpcejkpbmaaDoor
open Go.RowKit
set_option linter.unusedVariables false

set_option maxHeartbeats 1000000 in
set_option maxRecDepth 20000 in
theorem specMul (v : Value) (n : Nat) (l : List Int) (c : Int) (w : World) (h : Sl w v l) (hl : Sp.Row n l) (hc : Fld.ok c = true) (hn : n ≤ 64) : Calls Tryd.prog 58 #[v, .int .i64 c] w (NewInts (Sp.lmul l c) w) := by
  obtain ⟨a, cap, rfl, hlc, hcm, hr⟩ := h
  unfold maxLen at hcm
  have R := Lib.hid hr
  have L4 := Lib.hid hl.1
  have OL := Lib.hid hl
  have OC := Lib.hid hc
  have SG := Lib.hid (fun (i : Nat) (hi : i < l.length) => Sp.lmul_get (l := l) c hi)
  have S4 := Lib.hid (Sp.row_lmul hl c).1
  have l4 : l.length ≤ 64 := by have := L4.out; omega
  clear hr hl
  obtain ⟨i0, hi, hz0, hz1, hz2⟩ := info_parts (show (Tryd.prog.info? 3).map (fun i => (i.zero, i.size, i.bytes)) = some (some (.int .i64 0), 1, 8) by kernel_rfl)
  have I1 := Lib.hid hi
  have I2 := Lib.hid hz0
  have I3 := Lib.hid hz1
  have I4 := Lib.hid hz2
  clear hi hz0 hz1 hz2
  go_enter Tryd.func58, Tryd.ntmps58
  go_wp2_with fail
  go_loopw [5, 6] (fun o i wr => ∃ k : Nat, k ≤ l.length ∧ i = .int .i64 k ∧ w.grownBy wr none ∧ Own wr w.heap.size o ((Sp.lmul l c).take k)) (fun _ i _ => l.length - (intOf i).toNat)
  case atStart => 
    refine ⟨0, Nat.zero_le _, rfl, grown_alloc (World.grownBy.refl _ _) _, ?_⟩
    exact Own.made w w.heap.size [] (Nat.le_refl _) (by simp)
  case round =>
    obtain ⟨k, hk, rfl, hg, ho⟩ := hrel
    have G := Lib.hid hg
    have O := Lib.hid ho
    clear hg ho
    by_cases hlt : k < l.length
    · have k4 : k < n := by have := L4.out; omega
      obtain ⟨b, o, rfl, hx⟩ := (R.out.grown G.out).at_ hlt
      obtain ⟨x, hxe⟩ : ∃ x, l.getD k 0 = x := ⟨_, rfl⟩
      have hxo := OL.out.get k
      have sg := SG.out k hlt
      rw [hxe] at hx hxo sg
      have ⟨m0, m1⟩ := Fld.mul_le hxo hc
      have E := Lib.hid (take_snoc (by rw [S4.out]; exact k4) sg)
      have TL : Hid (((Sp.lmul l c).take k).length = k) := Lib.hid (by rw [List.length_take, S4.out]; omega)
      clear hxe sg
      go_wp2_with (first
        | (at_builtin; refine wpList_append_own _ rfl _ _ 23 rfl w.heap.size 3 i0 (.int .i64 0) 1 8 Tryd.underlying23 I1.out I2.out I3.out I4.out rfl (by decide) _ _ _ rfl (World.ownsRow.alloc O.out _) ⟨wr.heap.size, 0, none⟩ 1 1 [.int .i64 (x * c % 31)] rfl rfl (one_cell (g := 0)) (vals_one [x * c % 31]) ?c3 ?c4 ?c5 ?_))
      case c3 => rw [TL.out]; unfold maxLen; omega
      case c4 => rw [TL.out]; omega
      case c5 => have := G.out.size; simp; omega
      intro o' w1 ho hg _
      have O1 := Lib.hid (own_snoc ho (by simp) E.out)
      have G1 : Hid (w.grownBy w1 none) := Lib.hid (grown_own (grown_alloc G.out _) hg (fun j hj => (World.ownsRow.lt O.out j hj).1))
      clear ho hg
      go_wp2_with fail
      go_roundw
      case rel => exact ⟨k + 1, by omega, by go_num, G1.out, O1.out⟩
      case measure => simp [intOf]; omega
    · have : k = l.length := by omega
      subst this
      go_wp2_with fail
      go_ret
      refine ⟨_, rfl, G.out, ?_⟩
      have := O.out
      rwa [List.take_of_length_le (by rw [S4.out, L4.out]; omega)] at this

set_option maxHeartbeats 1000000 in
set_option maxRecDepth 20000 in
theorem specAdd (u v : Value) (n : Nat) (l m : List Int) (w : World) (h : Sl w u l) (h' : Sl w v m) (hl : Sp.Row n l) (hm : Sp.Row n m) (hn : n ≤ 64) : Calls Tryd.prog 57 #[u, v] w (NewInts (Sp.ladd l m) w) := by
  obtain ⟨a, cap, rfl, hlc, hcm, hr⟩ := h
  obtain ⟨a', cap', rfl, hlc', hcm', hr'⟩ := h'
  unfold maxLen at hcm hcm'
  have R := Lib.hid hr
  have R' := Lib.hid hr'
  have L4 := Lib.hid hl.1
  have M4 := Lib.hid hm.1
  have OL := Lib.hid hl
  have OM := Lib.hid hm
  have SG := Lib.hid (fun (i : Nat) (hi : i < l.length) (hi' : i < m.length) => Sp.ladd_get (l := l) (m := m) hi hi')
  have S4 := Lib.hid (Sp.row_ladd hl hm).1
  have l4 : l.length ≤ 64 := by have := L4.out; omega
  have m4 : l.length ≤ m.length := by have := L4.out; have := M4.out; omega
  clear hr hr' hl hm
  obtain ⟨i0, hi, hz0, hz1, hz2⟩ := info_parts (show (Tryd.prog.info? 3).map (fun i => (i.zero, i.size, i.bytes)) = some (some (.int .i64 0), 1, 8) by kernel_rfl)
  have I1 := Lib.hid hi
  have I2 := Lib.hid hz0
  have I3 := Lib.hid hz1
  have I4 := Lib.hid hz2
  clear hi hz0 hz1 hz2
  go_enter Tryd.func57, Tryd.ntmps57
  go_wp2_with fail
  go_loopw [5, 6] (fun ov i wr => ∃ k : Nat, k ≤ l.length ∧ i = .int .i64 k ∧ w.grownBy wr none ∧ Own wr w.heap.size ov ((Sp.ladd l m).take k)) (fun _ i _ => l.length - (intOf i).toNat)
  case atStart => 
    refine ⟨0, Nat.zero_le _, rfl, grown_alloc (World.grownBy.refl _ _) _, ?_⟩
    exact Own.made w w.heap.size [] (Nat.le_refl _) (by simp)
  case round =>
    obtain ⟨k, hk, rfl, hg, ho⟩ := hrel
    have G := Lib.hid hg
    have O := Lib.hid ho
    by_cases hlt : k < l.length
    · have k4 : k < n := by have := L4.out; omega
      have hltm : k < m.length := by omega
      obtain ⟨b, o, rfl, hx⟩ := (R.out.grown G.out).at_ hlt
      obtain ⟨b', o', rfl, hy⟩ := (R'.out.grown G.out).at_ hltm
      obtain ⟨x, hxe⟩ : ∃ x, l.getD k 0 = x := ⟨_, rfl⟩
      obtain ⟨y, hye⟩ : ∃ y, m.getD k 0 = y := ⟨_, rfl⟩
      have hxo := OL.out.get k
      have hyo := OM.out.get k
      have sg := SG.out k hlt hltm
      rw [hxe] at hx hxo sg
      rw [hye] at hy hyo sg
      have ⟨x0, x1⟩ := Fld.ok_iff.1 hxo
      have ⟨y0, y1⟩ := Fld.ok_iff.1 hyo
      have E := Lib.hid (take_snoc (by rw [S4.out]; exact k4) sg)
      have TL : Hid (((Sp.ladd l m).take k).length = k) := Lib.hid (by rw [List.length_take, S4.out]; omega)
      have hlt' : (k : Int) < (l.length : Int) := by omega
      have hlt2 : (k : Int) < (m.length : Int) := by omega
      clear hxe hye sg hxo hyo hg ho
      have NB : Hid (some b ≠ u5.ownBlock) := Lib.hid (far_own O.out (by obtain ⟨b2, o2, e, h2⟩ := R.out.at_ hlt; injection e with e; injection e with e1; subst e1; exact lt_of_cell h2))
      have NB' : Hid (some b' ≠ u5.ownBlock) := Lib.hid (far_own O.out (by obtain ⟨b2, o2, e, h2⟩ := R'.out.at_ hltm; injection e with e; injection e with e1; subst e1; exact lt_of_cell h2))
      have lb : b < wr.heap.size := lt_of_cell hx
      have lb' : b' < wr.heap.size := lt_of_cell hy
      have ws : IntKind.i64.wrap (x + y) = x + y := IntWalk.i64_in _ (by omega)
      have wt : (x + y).tmod 31 = (x + y) % 31 := Int.tmod_eq_emod_of_nonneg (by omega)
      have hbb : w.heap.size ≤ wr.heap.size := G.out.size
      go_wp2_with fail
      go_region_held3 (fun w' => w'.cell? ⟨b, o + k, none⟩ = some (.int .i64 x) ∧ w'.cell? ⟨b', o' + k, none⟩ = some (.int .i64 y))
        (first
          | go_keep
          | (go_split_ands
             refine ⟨?_, ?_⟩
             · (rw [hgrow.cell_far _ (by simp; omega) NB.out]; assumption)
             · (rw [hgrow.cell_far _ (by simp; omega) NB'.out]; assumption)))
        ((refine step_append_lies _ (by rfl) _ _ _ (by rfl) w.heap.size 3 i0 (.int .i64 0) 1 8 Tryd.underlying23 I1.out I2.out I3.out I4.out rfl (by omega) u5 ((Sp.ladd l m).take k).length (vals ((Sp.ladd l m).take k)) (by rfl) (World.ownsRow.drew (World.ownsRow.alloc O.out _))
            ⟨wr.heap.size, 0, none⟩ 1 1 [.int .i64 ((x + y) % 31)] (by rfl) (by rfl) (one_cell (g := 0)) (vals_one [(x + y) % 31])
            (by omega) (by rw [TL.out]; unfold maxLen; omega) (by rw [TL.out]; omega) (by simp; omega) (wr.heap.size + 1) (by simp) ?_; intro gg cc w1 hown1 hgrow hat hlt1))
      rw [List.length_take] at hown1
      have O1 := Lib.hid (own_snoc hown1 (by simp) E.out)
      have G1 : Hid (w.grownBy w1 none) := Lib.hid (grown_own (grown_drew (grown_alloc G.out _)) hgrow (fun j hj => (World.ownsRow.lt O.out j hj).1))
      clear hown1 hgrow hat hlt1 hx hy ws wt
      go_wp2_with fail
      go_roundw
      case rel => exact ⟨k + 1, by omega, by go_num, G1.out, O1.out⟩
      case measure => simp [intOf]; omega
    · have : k = l.length := by omega
      subst this
      clear hg ho
      go_wp2_with fail
      go_ret
      refine ⟨_, rfl, G.out, ?_⟩
      have := O.out
      rwa [List.take_of_length_le (by rw [S4.out, L4.out]; omega)] at this

end Go.Proofs.YtlehcpcejkpbmaaDoor

/-
  The contracts of the laws' own helpers on tables (slices of slices of integers): how great one is, a copy, a comparison, marks that are laid and looked for.
  Conditions: a table has at most 2^20 rows and elements together.
-/
namespace Go.Proofs.YtlehcpcejkpbmaaDoor
open Go.RowKit
set_option linter.unusedVariables false

/-- all elements of a table. -/
def tot (m : List (List Int)) : Nat := (m.map List.length).sum
theorem tot_nil : tot [] = 0 := rfl
theorem tot_snoc (m : List (List Int)) (l : List Int) : tot (m ++ [l]) = tot m + l.length := by simp [tot]
theorem take_more (m : List (List Int)) {n : Nat} (hn : n < m.length) : m.take (n + 1) = m.take n ++ [m.getD n []] := by
  rw [List.take_succ_eq_append_getElem hn]; simp [List.getD_eq_getElem?_getD, hn]
theorem tot_take (m : List (List Int)) {n : Nat} (hn : n < m.length) : tot (m.take (n + 1)) = tot (m.take n) + (m.getD n []).length := by rw [take_more m hn, tot_snoc]
theorem tot_le (m : List (List Int)) : ∀ r ∈ m, r.length ≤ tot m := by
  intro r hr
  induction m with
  | nil => cases hr
  | cons a m ih =>
    have e : tot (a :: m) = a.length + tot m := by simp [tot]
    rcases List.mem_cons.1 hr with rfl | h
    · omega
    · have := ih h; omega
theorem tot_some (m : List (List Int)) (n : Nat) : (m.getD n []).length ≤ tot m := by
  by_cases h : n < m.length
  · rw [List.getD_eq_getElem?_getD, List.getElem?_eq_getElem h]; exact tot_le m _ (List.getElem_mem h)
  · rw [List.getD_eq_getElem?_getD, List.getElem?_eq_none (by omega)]; simp

/-- what the greatness of a table is told to be: below 0, if it is too great. -/
def Sized (m : List (List Int)) (w : World) (e : Ending) (w' : World) : Prop :=
  ∃ r : Int, e = .returned (.int .i64 r) ∧ w = w' ∧ r ≤ 1048576 ∧ (0 ≤ r → m.length ≤ 1048576 ∧ tot m ≤ 1048576)

/-- one of several rows is written anew. -/
theorem OwnAll.put {w w' : World} {base : Nat} {A B : List Item} {x x' : Item} (h : OwnAll w base (A ++ x :: B)) (hv : x'.v = x.v) (hg : w.grownBy w' x.v.ownBlock) (ho : x'.Own w' base) : OwnAll w' base (A ++ x' :: B) := by
  have hp := h.2
  rw [List.pairwise_append, List.pairwise_cons] at hp
  have key : ∀ y : Item, y.Apart x → y.Own w base → y.Own w' base := fun y ha hy => World.ownsRow.kept hy hg ha
  refine ⟨fun y hy => ?_, ?_⟩
  · rcases List.mem_append.1 hy with hy | hy
    · exact key y (hp.2.2 y hy x (by simp)) (h.1 y (by simp [hy]))
    · rcases List.mem_cons.1 hy with rfl | hy
      · exact ho
      · exact key y (hp.2.1.1 y hy).symm (h.1 y (by simp [hy]))
  · rw [List.pairwise_append, List.pairwise_cons]
    refine ⟨hp.1, ⟨fun y hy => ?_, hp.2.1.2⟩, fun y hy z hz => ?_⟩
    · have := hp.2.1.1 y hy
      unfold Item.Apart at this ⊢
      rw [hv]; exact this
    · rcases List.mem_cons.1 hz with rfl | hz
      · have := hp.2.2 y hy x (by simp)
        unfold Item.Apart at this ⊢
        rw [hv]; exact this
      · exact hp.2.2 y hy z (by simp [hz])
theorem Lives.put {w0 w w' : World} {A B : List Item} {x x' : Item} (h : Lives w0 w (A ++ x :: B)) (hv : x'.v = x.v) (hg : w.grownBy w' x.v.ownBlock) (ho : x'.Own w' w0.heap.size) : Lives w0 w' (A ++ x' :: B) :=
  ⟨h.below.grown hg h.below.size (fun k hk => (World.ownsRow.lt (h.own.1 x (by simp)) k hk).1), h.own.put hv hg ho⟩

/-- where the copy of a table stands. -/
structure Copying (w : World) (g : Nat) (m : List (List Int)) (k : Nat) (us : List Value) (wr : World) : Prop where
  le : k ≤ m.length
  len : us.length = k
  grown : w.grownBy wr none
  own : OwnAll wr w.heap.size (⟨.slice (some ⟨g, 0, none⟩) m.length m.length, 23, us ++ List.replicate (m.length - k) (.slice none 0 0)⟩ :: List.zipWith row1 us (m.take k))
theorem Copying.cell {w wr : World} {g k : Nat} {m : List (List Int)} {us : List Value} (h : Copying w g m k us wr) (hk : k < m.length) : w.heap.size ≤ g ∧ wr.cell? ⟨g, k, none⟩ = some (.slice none 0 0) ∧ wr.frozen? ⟨g, k, none⟩ = false := by
  have ho := h.own.1 _ List.mem_cons_self
  unfold Item.Own at ho
  simp only [show (us ++ List.replicate (m.length - k) (Value.slice none 0 0)).length = m.length by rw [List.length_append, List.length_replicate, h.len]; omega] at ho
  have hc := World.ownsRow.cells ho (g := g) rfl k (.slice none 0 0) (by
    show (us ++ List.replicate (m.length - k) (.slice none 0 0))[k]? = _
    rw [List.getElem?_append_right (by rw [h.len]; omega), h.len, Nat.sub_self, List.getElem?_replicate, if_pos (by omega)])
  rw [Addr.add_lit] at hc
  exact ⟨(World.ownsRow.lt ho g rfl).1, by simpa using hc, World.ownsRow.frozenAt ho k⟩
theorem Copying.next {w wr w1 : World} {g k : Nat} {m : List (List Int)} {us : List Value} {u : Value} (h : Copying w g m k us wr) (hk : k < m.length) (hg : wr.grownBy w1 none) (ho : Own w1 wr.heap.size u (m.getD k [])) :
    Copying w g m (k + 1) (us ++ [u]) (w1.setCell ⟨g, k, none⟩ u) := by
  have h1 := h.own.join (M := [row1 u (m.getD k [])]) hg ⟨fun x hx => by simp at hx; subst hx; exact row1_own.2 ho, by simp⟩ h.grown.size
  have htop := h1.1 ⟨.slice (some ⟨g, 0, none⟩) m.length m.length, 23, us ++ List.replicate (m.length - k) (.slice none 0 0)⟩ (by simp)
  unfold Item.Own at htop
  have hn : (us ++ List.replicate (m.length - k) (Value.slice none 0 0)).length = m.length := by rw [List.length_append, List.length_replicate, h.len]; omega
  simp only [hn] at htop
  have hs := World.ownsRow.stored htop k u
  have e : (us ++ List.replicate (m.length - k) (Value.slice none 0 0)).set k u = (us ++ [u]) ++ List.replicate (m.length - (k + 1)) (.slice none 0 0) := by
    rw [List.set_append_right _ _ (by rw [h.len]; omega), h.len, Nat.sub_self, show m.length - k = (m.length - (k + 1)) + 1 by omega, List.replicate_succ, List.set_cons_zero, List.append_assoc]; rfl
  rw [e] at hs
  have h2 := OwnAll.put (A := [row1 u (m.getD k [])]) (x' := ⟨.slice (some ⟨g, 0, none⟩) m.length m.length, 23, (us ++ [u]) ++ List.replicate (m.length - (k + 1)) (.slice none 0 0)⟩) h1 rfl hs.2 (by
    unfold Item.Own
    have e2 : ((us ++ [u]) ++ List.replicate (m.length - (k + 1)) (Value.slice none 0 0)).length = m.length := by simp [h.len]; omega
    simp only [e2]
    exact hs.1)
  refine ⟨hk, by simp [h.len], ?_, ?_⟩
  · exact grown_own (grown_trans h.grown hg) hs.2 (fun q hq => (World.ownsRow.lt htop q hq).1)
  · have ez : List.zipWith row1 (us ++ [u]) (m.take (k + 1)) = List.zipWith row1 us (m.take k) ++ [row1 u (m.getD k [])] := by
      rw [take_more m hk, List.zipWith_append (by rw [h.len, List.length_take]; omega)]; rfl
    rw [ez]
    refine ⟨fun x hx => h2.1 x ?_, ?_⟩
    · simp only [List.mem_cons, List.mem_append, List.not_mem_nil, or_false] at hx ⊢
      rcases hx with h | h | h
      · exact .inr (.inl h)
      · exact .inr (.inr h)
      · exact .inl h
    · have hp := h2.2
      simp only [List.cons_append, List.nil_append, List.pairwise_cons, List.mem_cons, forall_eq_or_imp] at hp
      rw [List.pairwise_cons, List.pairwise_append]
      refine ⟨fun y hy => ?_, hp.2.2, by simp, fun y hy z hz => ?_⟩
      · rcases List.mem_append.1 hy with hy | hy
        · exact hp.2.1 y hy
        · simp at hy; subst hy; exact hp.1.1.symm
      · simp at hz; subst hz; exact (hp.1.2 y hy).symm

theorem infoInts : (Tryd.prog.info? 23).map (fun i => (i.zero, i.size, i.bytes)) = some (some (.slice none 0 0), 1, 24) := by kernel_rfl

end Go.Proofs.YtlehcpcejkpbmaaDoor

/-
  The contracts of the laws' own helpers on tables, the second part: comparisons, marks, and whether a table is a matrix, of the program and of its model.
  Conditions: a table that is marked has at most 2^20 rows and elements together.
-/
namespace Go.Proofs.YtlehcpcejkpbmaaDoor
open Go.RowKit
set_option linter.unusedVariables false

theorem list_ne_at {l m : List Int} {k : Nat} (h : l.getD k 0 ≠ m.getD k 0) : decide (l = m) = false := decide_eq_false (fun e => h (by rw [e]))
theorem list_ne_len {l m : List Int} (h : l.length ≠ m.length) : decide (l = m) = false := decide_eq_false (fun e => h (by rw [e]))
theorem list_all {l m : List Int} (h : l.length = m.length) (k : ∀ j, j < l.length → l.getD j 0 = m.getD j 0) : decide (l = m) = true := by
  refine decide_eq_true (List.ext_getElem h fun i h1 h2 => ?_)
  have := k i h1
  simpa [List.getD_eq_getElem?_getD, h1, h2] using this

set_option maxHeartbeats 1000000 in
set_option maxRecDepth 20000 in
/-- whether two slices are alike. -/
theorem lkIs (u v : Value) (l l' : List Int) (w : World) (h : Sl w u l) (k : Sl w v l') : Calls Tryd.prog 26 #[u, v] w fun e w' => e = .returned (.bool (decide (l = l'))) ∧ w.grownBy w' none := by
  obtain ⟨a, cap, rfl, hlc, hcm, hr⟩ := h
  obtain ⟨a', cap', rfl, hlc', hcm', hr'⟩ := k
  have R := Lib.hid hr
  have R' := Lib.hid hr'
  clear hr hr'
  unfold maxLen at hcm hcm'
  by_cases hb : l.length = l'.length
  · have hne : ((l.length : Int) != (l'.length : Int)) = false := by simp [hb]
    go_enter Tryd.func26, Tryd.ntmps26
    go_wp2_with fail
    go_loopw [5] (fun i wr => ∃ k : Nat, i = .int .i64 k ∧ k ≤ l.length ∧ w.grownBy wr none ∧ ∀ j, j < k → l.getD j 0 = l'.getD j 0) (fun i _ => l.length - (intOf i).toNat)
    case atStart => exact ⟨0, rfl, Nat.zero_le _, World.grownBy.refl _ _, fun j hj => by omega⟩
    case round =>
      obtain ⟨k, rfl, hk, hg, hall⟩ := hrel
      have G := Lib.hid hg
      have HA := Lib.hid hall
      clear hg hall
      by_cases hlt : k < l.length
      · have hlt' : (k : Int) < (l.length : Int) := by omega
        have hlt2 : (k : Int) < (l'.length : Int) := by omega
        obtain ⟨b, o, rfl, hx⟩ := (R.out.grown G.out).at_ hlt
        obtain ⟨b', o', rfl, hx'⟩ := (R'.out.grown G.out).at_ (k := k) (by omega)
        obtain ⟨x, hxe⟩ : ∃ x, l.getD k 0 = x := ⟨_, rfl⟩
        obtain ⟨y, hye⟩ : ∃ y, l'.getD k 0 = y := ⟨_, rfl⟩
        rw [hxe] at hx
        rw [hye] at hx'
        have EX := Lib.hid hxe
        have EY := Lib.hid hye
        clear hxe hye
        by_cases hxy : x = y
        · subst hxy
          go_wp2_with fail
          go_quiet (fail)
          go_wp2_with fail
          go_roundw
          case rel => exact ⟨k + 1, by go_num, by omega, grown_draws G.out _, fun j hj => by
            by_cases e : j = k
            · rw [e, EX.out, EY.out]
            · exact HA.out j (by omega)⟩
          case measure => simp [intOf]; omega
        · have hbx : (x != y) = true := by simp [hxy]
          have D : Hid (decide (l = l') = false) := Lib.hid (list_ne_at (k := k) (by rw [EX.out, EY.out]; exact hxy))
          go_wp2_with fail
          go_quiet (fail)
          go_wp2_with fail
          go_ret
          exact ⟨ret_bool D.out, grown_draws G.out _⟩
      · have D : Hid (decide (l = l') = true) := Lib.hid (list_all hb (fun j hj => HA.out j (by omega)))
        go_wp2_with fail
        go_ret
        exact ⟨ret_bool D.out, G.out⟩
  · have hne : ((l.length : Int) != (l'.length : Int)) = true := by simp; omega
    have D : Hid (decide (l = l') = false) := Lib.hid (list_ne_len hb)
    go_enter Tryd.func26, Tryd.ntmps26
    go_wp2_with fail
    go_ret
    exact ⟨ret_bool D.out, World.grownBy.refl _ _⟩

theorem tab_ne_at {l m : List (List Int)} {k : Nat} (h : l.getD k [] ≠ m.getD k []) : decide (l = m) = false := decide_eq_false (fun e => h (by rw [e]))
theorem tab_ne_len {l m : List (List Int)} (h : l.length ≠ m.length) : decide (l = m) = false := decide_eq_false (fun e => h (by rw [e]))
theorem tab_all {l m : List (List Int)} (h : l.length = m.length) (k : ∀ j, j < l.length → l.getD j [] = m.getD j []) : decide (l = m) = true := by
  refine decide_eq_true (List.ext_getElem h fun i h1 h2 => ?_)
  have := k i h1
  simpa [List.getD_eq_getElem?_getD, h1, h2] using this

/-- marks in a table, from k on. -/
def marksT : Int → List (List Int) → List (List Int)
  | _, [] => []
  | k, l :: m => marks k l.length :: marksT (k + l.length) m
theorem marksT_length (m : List (List Int)) : ∀ k, (marksT k m).length = m.length := by
  induction m with
  | nil => intro k; rfl
  | cons l m ih => intro k; simp [marksT, ih]
theorem tot_cons (l : List Int) (m : List (List Int)) : tot (l :: m) = l.length + tot m := by simp [tot]
theorem tot_take_le (m : List (List Int)) (j : Nat) : tot (m.take j) ≤ tot m := by
  have e : tot (m.take j ++ m.drop j) = tot (m.take j) + tot (m.drop j) := by simp only [tot, List.map_append, List.sum_append]
  rw [List.take_append_drop] at e
  omega
theorem marksT_snoc (m : List (List Int)) (l : List Int) : ∀ k, marksT k (m ++ [l]) = marksT k m ++ [marks (k + tot m) l.length] := by
  induction m with
  | nil => intro k; simp [marksT, tot]
  | cons r m ih =>
    intro k
    rw [List.cons_append, marksT, ih, marksT, tot_cons, List.cons_append]
    have e : k + (r.length : Int) + (tot m : Int) = k + ((r.length + tot m : Nat) : Int) := by omega
    rw [e]
theorem marksT_get (m : List (List Int)) : ∀ (k : Int) (i : Nat), i < m.length → (marksT k m).getD i [] = marks (k + tot (m.take i)) (m.getD i []).length := by
  induction m with
  | nil => intro k i h; simp at h
  | cons r m ih =>
    intro k i h
    cases i with
    | zero => simp [marksT, tot]
    | succ i =>
      have := ih (k + r.length) i (by simpa using h)
      rw [List.take_succ_cons, tot_cons]
      have e : k + (r.length : Int) + (tot (m.take i) : Int) = k + ((r.length + tot (m.take i) : Nat) : Int) := by omega
      rw [← e]
      exact this

theorem items_at {us : List Value} {m M : List (List Int)} {i : Nat} {u : Value} {l : List Int} (hl : us.length = m.length) (hu : us[i]? = some u) (hM : M.length = i) (hi : i < m.length) :
    List.zipWith row1 us (M ++ l :: m.drop (i + 1)) = List.zipWith row1 (us.take i) M ++ row1 u l :: List.zipWith row1 (us.drop (i + 1)) (m.drop (i + 1)) := by
  have h1 : us = us.take i ++ u :: us.drop (i + 1) := by
    obtain ⟨h, rfl⟩ := List.getElem?_eq_some_iff.1 hu
    simp
  conv => lhs; rw [h1]
  rw [List.zipWith_append (by rw [List.length_take, hM]; omega)]
  rfl
/-- a table partly marked. -/
def markedT (k : Int) (m : List (List Int)) (i : Nat) : List (List Int) := marksT k (m.take i) ++ m.drop i
theorem markedT_length (k : Int) (m : List (List Int)) (i : Nat) : (markedT k m i).length = m.length := by
  unfold markedT; rw [List.length_append, marksT_length, List.length_take, List.length_drop]; omega
theorem markedT_this (k : Int) (m : List (List Int)) {i : Nat} (hi : i < m.length) : markedT k m i = marksT k (m.take i) ++ m.getD i [] :: m.drop (i + 1) := by
  unfold markedT; rw [List.drop_eq_getElem_cons hi]; simp [List.getD_eq_getElem?_getD, hi]
theorem markedT_next (k : Int) (m : List (List Int)) {i : Nat} (hi : i < m.length) : markedT k m (i + 1) = marksT k (m.take i) ++ marks (k + tot (m.take i)) (m.getD i []).length :: m.drop (i + 1) := by
  unfold markedT; rw [take_more m hi, marksT_snoc, List.append_assoc]; rfl
theorem markedT_get (k : Int) (m : List (List Int)) {i : Nat} (hi : i < m.length) : (markedT k m i).getD i [] = m.getD i [] := by
  rw [markedT_this k m hi, List.getD_eq_getElem?_getD, List.getElem?_append_right (by rw [marksT_length, List.length_take]; omega), marksT_length, List.length_take, show i - min i m.length = 0 by omega]; rfl

end Go.Proofs.YtlehcpcejkpbmaaDoor

/-
  Whether a table is a matrix (at most eight rows of four numbers of the field each): the contracts of the program's SpanOk and of its model's.
  Conditions: none.
-/
namespace Go.Proofs.YtlehcpcejkpbmaaDoor
open Go.RowKit
set_option linter.unusedVariables false

/-- a matrix. -/
def okM (m : List (List Int)) : Bool := decide (m.length ≤ 8) && m.all Vec.ok
theorem okM_len {m : List (List Int)} (h : okM m = true) : m.length ≤ 8 := by simp [okM] at h; exact h.1
theorem okM_all {m : List (List Int)} (h : okM m = true) : ∀ r ∈ m, Sp.Row 4 r := by
  intro r hr
  simp only [okM, Bool.and_eq_true, List.all_eq_true] at h
  exact Sp.row_ok.1 (h.2 r hr)
theorem okM_get {m : List (List Int)} (h : okM m = true) {i : Nat} (hi : i < m.length) : Vec.ok (m.getD i []) = true := by
  rw [List.getD_eq_getElem?_getD, List.getElem?_eq_getElem hi]; exact Sp.row_ok.2 (okM_all h _ (List.getElem_mem hi))
theorem okM_yes {m : List (List Int)} (h8 : m.length ≤ 8) (h : ∀ i, i < m.length → Vec.ok (m.getD i []) = true) : okM m = true := by
  simp only [okM, Bool.and_eq_true, List.all_eq_true, decide_eq_true_eq]
  refine ⟨h8, fun r hr => ?_⟩
  obtain ⟨i, hi, rfl⟩ := List.getElem_of_mem hr
  have := h i hi
  simpa [List.getD_eq_getElem?_getD, hi] using this
theorem okM_many {m : List (List Int)} (h : ¬ m.length ≤ 8) : okM m = false := by simp [okM, h]
theorem okM_no {m : List (List Int)} {i : Nat} (hi : i < m.length) (h : Vec.ok (m.getD i []) = false) : okM m = false := by
  cases e : okM m with
  | false => rfl
  | true => rw [okM_get e hi] at h; cases h

end Go.Proofs.YtlehcpcejkpbmaaDoor

/-
  The contracts of the program's lines: a line is a block of twelve numbers, which is scaled, added to, cleared in place.
  Conditions: none.
-/
namespace Go.Proofs.YtlehcpcejkpbmaaDoor
open Go.RowKit
set_option linter.unusedVariables false

/-- the first k are those of l', the others those of l. -/
def mixed (l l' : List Int) (k : Nat) : List Int := l'.take k ++ l.drop k
theorem mixed_none (l l' : List Int) : mixed l l' 0 = l := by simp [mixed]
theorem mixed_all {l l' : List Int} (h : l'.length = l.length) : mixed l l' l.length = l' := by
  unfold mixed; rw [List.drop_length, List.append_nil, List.take_of_length_le (by omega)]
theorem mixed_len {l l' : List Int} (h : l'.length = l.length) (k : Nat) : (mixed l l' k).length = l.length := by
  unfold mixed; rw [List.length_append, List.length_take, List.length_drop]; omega
theorem mixed_get {l l' : List Int} (h : l'.length = l.length) {k : Nat} (hk : k < l.length) : (mixed l l' k).getD k 0 = l.getD k 0 := by
  unfold mixed
  rw [List.getD_eq_getElem?_getD, List.getElem?_append_right (by rw [List.length_take]; omega), List.length_take, List.getElem?_drop, List.getD_eq_getElem?_getD]
  congr 2; omega
theorem mixed_set {l l' : List Int} (h : l'.length = l.length) {k : Nat} (hk : k < l.length) : (mixed l l' k).set k (l'.getD k 0) = mixed l l' (k + 1) := by
  unfold mixed
  rw [List.set_append_right _ _ (by rw [List.length_take]; omega), List.length_take, show k - min k l'.length = 0 by omega, List.drop_eq_getElem_cons hk, List.set_cons_zero,
    List.take_succ_eq_append_getElem (by omega), List.append_assoc]
  simp [List.getD_eq_getElem?_getD, show k < l'.length by omega]
theorem mixed_four {l l' : List Int} (h : l'.length = l.length) (hl : 4 ≤ l.length) : (((l.set 0 (l'.getD 0 0)).set 1 (l'.getD 1 0)).set 2 (l'.getD 2 0)).set 3 (l'.getD 3 0) = mixed l l' 4 := by
  have e := mixed_none l l'
  rw [← mixed_set h (k := 3) (by omega), ← mixed_set h (k := 2) (by omega), ← mixed_set h (k := 1) (by omega), ← mixed_set h (k := 0) (by omega), e]

theorem grown_at {a w : World} {g : Nat} (h : a.grownBy w (some g)) (i : Nat) (u : Value) : a.grownBy (w.setCell ⟨g, i, none⟩ u) (some g) :=
  ⟨h.os, h.tape, h.output, by simpa [World.setCell] using h.size, fun k hk hr => (Below.heap_setCell w ⟨g, i, none⟩ u k (fun e => hr (by rw [e]))).trans (h.block k hk hr)⟩
theorem grown_some {a w : World} (h : a.grownBy w none) (g : Nat) : a.grownBy w (some g) := ⟨h.os, h.tape, h.output, h.size, fun k hk _ => h.block k hk (by simp)⟩
theorem four_of_row {l : List Int} (h : Sp.Row 12 l) : ∃ x y z t r, l = x :: y :: z :: t :: r ∧ r.length = 8 ∧ Fld.ok x = true ∧ Fld.ok y = true ∧ Fld.ok z = true ∧ Fld.ok t = true := by
  match l, h.1 with
  | x :: y :: z :: t :: r, h4 => exact ⟨x, y, z, t, r, rfl, by simpa using h4, h.2 x (by simp), h.2 y (by simp), h.2 z (by simp), h.2 t (by simp)⟩

theorem far4_cell {w : World} {g k i : Nat} {u a b c d : Value} (h : w.cell? ⟨k, i, none⟩ = some u) (hne : k ≠ g) :
    ((((w.setCell ⟨g, 0, none⟩ a).setCell ⟨g, 1, none⟩ b).setCell ⟨g, 2, none⟩ c).setCell ⟨g, 3, none⟩ d).cell? ⟨k, i, none⟩ = some u := by
  have key : ∀ (w : World) (j : Nat) (x : Value), (w.setCell ⟨g, j, none⟩ x).cell? ⟨k, i, none⟩ = w.cell? ⟨k, i, none⟩ := fun w j x => World.cell?_setCell_other _ _ _ _ (fun e => hne (by injection e with e; exact e.symm))
  rw [key, key, key, key, h]
theorem add_short (a b : Int) : (a + b % 31) % 31 = (a + b) % 31 := by omega
theorem ok_scale4 {x y z t c : Int} : Vec.ok [x * c % 31, y * c % 31, z * c % 31, t * c % 31] = true := Vec.ok_mk (Vec.mod_is _) (Vec.mod_is _) (Vec.mod_is _) (Vec.mod_is _)

end Go.Proofs.YtlehcpcejkpbmaaDoor

/-
  The contracts of the program's elimination: where its lines stand in memory, a line that is reduced, a row that is taken.
  Conditions: none.
-/
namespace Go.Proofs.YtlehcpcejkpbmaaDoor
open Go.RowKit
set_option linter.unusedVariables false

/-- block g, whole. -/
def Blk (w : World) (g : Nat) (t : TypeId) (cs : List Value) : Prop := w.heap[g]? = some (.cells cs.toArray t (0, 0))
namespace Blk
variable {w w' : World} {g b : Nat} {t t' : TypeId} {cs ds : List Value}
theorem lt (h : Blk w g t cs) : g < w.heap.size := by
  rcases Nat.lt_or_ge g w.heap.size with hlt | hge
  · exact hlt
  · unfold Blk at h; rw [Array.getElem?_eq_none hge] at h; cases h
theorem cell (h : Blk w g t cs) {i : Nat} {v : Value} (hi : cs[i]? = some v) : w.cell? ⟨g, i, none⟩ = some v := by
  rw [cell_of_row w g i _ t (0, 0) h]; simpa using hi
theorem frozen (h : Blk w g t cs) (i : Nat) : w.frozen? ⟨g, i, none⟩ = false := frozen_of_row w g i _ t h
theorem kept {r : Option Nat} (h : Blk w g t cs) (hg : w.grownBy w' r) (hr : some g ≠ r) : Blk w' g t cs := (hg.block g h.lt hr).trans h
theorem put (h : Blk w g t cs) (i : Nat) (v : Value) : Blk (w.setCell ⟨g, i, none⟩ v) g t (cs.set i v) := by
  have e := heap_setCell_same w g i _ t v h
  unfold Blk
  rw [e]
  simp
theorem ne (h : Blk w g t cs) (k : Blk w b t' ds) (ht : t ≠ t') : g ≠ b := by
  rintro rfl
  unfold Blk at h k
  rw [h] at k
  injection k with k
  injection k with _ k
  exact ht k
end Blk
theorem Arr.blk {w : World} {g : Nat} {t : TypeId} {l : List Int} (h : Arr w g t l) : Blk w g t (vals l) := h
theorem own_type {w : World} {base g : Nat} {v : Value} {l : List Int} {t : TypeId} {cs : List Value} (h : Own w base v l) (k : Blk w g t cs) (ht : t ≠ 3) : some g ≠ v.ownBlock := by
  rcases h.2 with ⟨rfl, _⟩ | ⟨b, cap, cur, rfl, _, hg, _⟩
  · simp [Value.ownBlock]
  · intro e
    have e' : g = b := by simpa [Value.ownBlock] using e
    subst e'
    unfold Blk at k
    rw [hg] at k
    injection k with k
    injection k with _ k
    exact ht k.symm

namespace Ech
variable {w w' : World} {base g : Nat} {q : Nat → Option Addr} {S : Sp.Cols} {pv : Value} {ps : List Int}
end Ech

end Go.Proofs.YtlehcpcejkpbmaaDoor

/-
  The contract of the program's elimination, one row further.
  Conditions: none.
-/
namespace Go.Proofs.YtlehcpcejkpbmaaDoor
open Go.RowKit
set_option linter.unusedVariables false

namespace Sp
theorem first_len (m : List (List Int)) : (firsts has m).length ≤ m.length := by
  unfold firsts
  have := List.length_filter_le (fun i => !has (m.take i) (m.getD i [])) (List.range m.length)
  rwa [List.length_range] at this
/-- the first k columns are cleared. -/
def insK (S : Cols) (p : Nat) (v : List Int) (k : Nat) : Cols := fun j => if j < k then (S j).map (fun l => lclear p l v) else S j
theorem insK_none {S : Cols} {p k : Nat} {v : List Int} (h : S k = none) : insK S p v (k + 1) = insK S p v k := by
  funext j
  unfold insK
  by_cases e : j = k
  · subst e; simp [h]
  · by_cases hj : j < k
    · rw [if_pos (by omega), if_pos hj]
    · rw [if_neg (by omega), if_neg hj]
theorem insK_some {S : Cols} {p k : Nat} {v l : List Int} (h : S k = some l) : (fun i => if i = k then some (lclear p l v) else insK S p v k i) = insK S p v (k + 1) := by
  funext j
  unfold insK
  by_cases e : j = k
  · subst e; simp [h]
  · rw [if_neg e]
    by_cases hj : j < k
    · rw [if_pos hj, if_pos (by omega)]
    · rw [if_neg hj, if_neg (by omega)]
theorem insK_at (S : Cols) (p : Nat) (v : List Int) (k : Nat) : insK S p v k k = S k := by simp [insK]
theorem insK_zero (S : Cols) (p : Nat) (v : List Int) : insK S p v 0 = S := by funext j; simp [insK]
theorem insK_all {S : Cols} {p : Nat} {v : List Int} (h : ∀ j, 4 ≤ j → S j = none) : (fun j => if j = p then some v else insK S p v 4 j) = insS S p v := by
  funext j
  unfold insS insK
  by_cases e : j = p
  · simp [e]
  · rw [if_neg e, if_neg e]
    by_cases hj : j < 4
    · rw [if_pos hj]
    · rw [if_neg hj, h j (by omega)]; rfl
end Sp

theorem new_line (x y z t : Int) (n : Nat) : [x, y, z, t, 0, 0, 0, 0, 0, 0, 0, 0].set (4 + n) 1 = [x, y, z, t] ++ Sp.none8.set n 1 := by
  have e : [x, y, z, t, 0, 0, 0, 0, 0, 0, 0, 0] = [x, y, z, t] ++ Sp.none8 := rfl
  rw [e, List.set_append_right _ _ (by simp)]
  congr 2
  simp
theorem ptr_at (q : Nat → Option Addr) (pv : Value) {p : Nat} (h : p < 4) : [Value.pointer (q 0), .pointer (q 1), .pointer (q 2), .pointer (q 3), pv][p]? = some (.pointer (q p)) := by
  match p, h with
  | 0, _ => rfl
  | 1, _ => rfl
  | 2, _ => rfl
  | 3, _ => rfl

theorem one_cell_at {w : World} {k : Nat} {u : Value} {t : TypeId} (hk : w.heap.size = k) : ∀ j v, [u][j]? = some v → (w.alloc (.cells #[u] t)).cell? ((⟨k, 0, none⟩ : Addr).add j) = some v := by
  subst hk; exact one_cell (g := 0)
theorem size_set (w : World) (p : Addr) (v : Value) : (w.setCell p v).heap.size = w.heap.size := by simp [World.setCell]

end Go.Proofs.YtlehcpcejkpbmaaDoor

/-
  The contracts of the program's elimination of a whole matrix, of its rows, of SpanRank, SpanFirst and SpanTidy.
  Conditions: none.
-/
namespace Go.Proofs.YtlehcpcejkpbmaaDoor
open Go.RowKit
set_option linter.unusedVariables false

theorem grown_then {a w w' : World} (h : a.grownBy w none) (hb : Below a.heap.size w w') : a.grownBy w' none :=
  ⟨hb.os.trans h.os, hb.tape.trans h.tape, hb.output.trans h.output, Nat.le_trans h.size hb.size, fun i hi _ => (hb.block i hi).trans (h.block i hi (by simp))⟩

/-- rows of four, one behind the other. -/
def flat (T : List (List Int)) : List Value := T.flatMap vals
def Vs (w : World) (base : Nat) (v : Value) (T : List (List Int)) : Prop := w.ownsRow base 83 4 v T.length (flat T)
theorem flat_len {T : List (List Int)} (h : ∀ r ∈ T, r.length = 4) : (flat T).length = T.length * 4 := by
  induction T with
  | nil => rfl
  | cons a T ih =>
    unfold flat at ih ⊢
    rw [List.flatMap_cons, List.length_append, ih (fun r hr => h r (by simp [hr])), vals_length, h a (by simp), List.length_cons]; omega
theorem flat_get {T : List (List Int)} : (∀ r ∈ T, r.length = 4) → ∀ {k i : Nat}, k < T.length → i < 4 → (flat T)[k * 4 + i]? = some (.int .i64 ((T.getD k []).getD i 0)) := by
  induction T with
  | nil => intro _ k i hk; simp at hk
  | cons a T ih =>
    intro h k i hk hi
    have ha : (vals a).length = 4 := by rw [vals_length]; exact h a (by simp)
    unfold flat at ih ⊢
    rw [List.flatMap_cons]
    cases k with
    | zero =>
      rw [List.getElem?_append_left (by omega)]
      have := vals_get a i (by rw [h a (by simp)]; exact hi)
      simpa using this
    | succ k =>
      rw [List.getElem?_append_right (by omega), ha, show (k + 1) * 4 + i - 4 = k * 4 + i by omega, ih (fun r hr => h r (by simp [hr])) (by simpa using hk) hi]
      rfl
theorem Vs.at_ {w : World} {base : Nat} {v : Value} {T : List (List Int)} (h : Vs w base v T) (hT : ∀ r ∈ T, r.length = 4) {k : Nat} (hk : k < T.length) :
    ∃ g cap, v = .slice (some ⟨g, 0, none⟩) T.length cap ∧ g < w.heap.size ∧ ∀ i, i < 4 → w.cell? ⟨g, k * 4 + i, none⟩ = some (.int .i64 ((T.getD k []).getD i 0)) := by
  rcases h.2 with ⟨_, h0⟩ | ⟨g, cap, cur, e, _, hg, _⟩
  · omega
  · refine ⟨g, cap, e, (Array.getElem?_eq_some_iff.1 hg).1, fun i hi => ?_⟩
    subst e
    have := World.ownsRow.cells h (g := g) rfl (k * 4 + i) _ (flat_get hT hk hi)
    rw [Addr.add_lit] at this
    simpa using this
theorem Vs.form {w : World} {base : Nat} {v : Value} {T : List (List Int)} (h : Vs w base v T) : ∃ a cap, v = .slice a T.length cap ∧ T.length ≤ cap ∧ cap ≤ maxLen := by
  rcases h.2 with ⟨rfl, h0⟩ | ⟨g, cap, cur, rfl, _, hg, h1, h2, _⟩
  · exact ⟨none, 0, by rw [h0], by omega, by omega⟩
  · exact ⟨_, cap, rfl, h1, h2⟩
theorem Vs.still {w w' : World} {base : Nat} {v : Value} {T : List (List Int)} (h : Vs w base v T) (hg : w.grownBy w' none) : Vs w' base v T :=
  World.ownsRow.kept h hg (by cases h : v.ownBlock <;> simp)
theorem Vs.snoc {w : World} {base : Nat} {v : Value} {T T' : List (List Int)} {l : List Int} {n : Nat} (h : w.ownsRow base 83 4 v n (flat T ++ vals l)) (hn : n = T.length + 1) (e : T ++ [l] = T') : Vs w base v T' := by
  subst e hn
  have e : flat (T ++ [l]) = flat T ++ vals l := by simp [flat]
  unfold Vs
  rw [e, List.length_append]
  exact h

/-- the first k columns' lines. -/
def colK (S : Sp.Cols) (k : Nat) : List (List Int) := ((List.range k).filterMap S).map (List.take 4)
theorem colK_none {S : Sp.Cols} {k : Nat} (h : S k = none) : colK S (k + 1) = colK S k := by
  unfold colK; rw [List.range_succ, List.filterMap_append]; simp [h]
theorem colK_some {S : Sp.Cols} {k : Nat} {l : List Int} (h : S k = some l) : colK S (k + 1) = colK S k ++ [l.take 4] := by
  unfold colK; rw [List.range_succ, List.filterMap_append]; simp [h]
theorem colK_len (S : Sp.Cols) (k : Nat) : (colK S k).length ≤ k := by
  unfold colK
  rw [List.length_map]
  have := List.length_filterMap_le S (List.range k)
  rwa [List.length_range] at this
theorem list_cells {w : World} {l : List Value} {t : TypeId} : ∀ j u, l[j]? = some u → (w.alloc (.cells l.toArray t)).cell? ((⟨w.heap.size, 0, none⟩ : Addr).add j) = some u := by
  intro j u hu
  rw [Addr.add_lit, cell_of_row _ _ _ _ t (0, 0) (heap_alloc_new w _)]
  simpa using hu
theorem infoRow : (Tryd.prog.info? 83).map (fun i => (i.zero, i.size, i.bytes)) = some (some (.agg #[.int .i64 0, .int .i64 0, .int .i64 0, .int .i64 0]), 4, 32) := by kernel_rfl

/-- what the rows of the elimination are. -/
def NewVs (T : List (List Int)) (w : World) (e : Ending) (w' : World) : Prop := ∃ v, e = .returned v ∧ w.grownBy w' none ∧ Vs w' w.heap.size v T

end Go.Proofs.YtlehcpcejkpbmaaDoor

/-
  The contracts of the program's SpanTidy, SpanRank, SpanFirst, SpanSame.
  Conditions: none.
-/
namespace Go.Proofs.YtlehcpcejkpbmaaDoor
open Go.RowKit
set_option linter.unusedVariables false

def tidyM (m : List (List Int)) : List (List Int) := bif okM m then Sp.ltidy m else []
def rankM (m : List (List Int)) : Int := bif okM m then ((Sp.ltidy m).length : Int) else -1
def firstM (m : List (List Int)) : List Int := bif okM m then (Sp.firsts Sp.has m).map fun (i : Nat) => (i : Int) else []
def sameM (a b : List (List Int)) : Bool := okM a && okM b && decide (Sp.ltidy a = Sp.ltidy b)
theorem tidyM_yes {m : List (List Int)} (h : okM m = true) : tidyM m = Sp.ltidy m := by simp [tidyM, h]
theorem tidyM_no {m : List (List Int)} (h : okM m = false) : tidyM m = [] := by simp [tidyM, h]
theorem rankM_yes {m : List (List Int)} (h : okM m = true) : rankM m = ((Sp.ltidy m).length : Int) := by simp [rankM, h]
theorem rankM_no {m : List (List Int)} (h : okM m = false) : rankM m = -1 := by simp [rankM, h]
theorem firstM_yes {m : List (List Int)} (h : okM m = true) : firstM m = (Sp.firsts Sp.has m).map fun (i : Nat) => (i : Int) := by simp [firstM, h]
theorem firstM_no {m : List (List Int)} (h : okM m = false) : firstM m = [] := by simp [firstM, h]
theorem stand_rows {m : List (List Int)} {S : Sp.Cols} {pn : List Nat} (h : Sp.Stand m m.length S pn) (hm : okM m = true) : colK S 4 = Sp.ltidy m := h.tidied (okM_all hm)
theorem stand_first {m : List (List Int)} {S : Sp.Cols} {pn : List Nat} (h : Sp.Stand m m.length S pn) : pn = Sp.firsts Sp.has m := by have := h.first; rwa [List.take_length] at this
theorem tidy_rows {m : List (List Int)} (hm : okM m = true) : ∀ r ∈ Sp.ltidy m, Sp.Row 4 r := by
  obtain ⟨L, h, _⟩ := Sp.ltidy_is (okM_all hm)
  exact h.row
theorem tidy_four {m : List (List Int)} (hm : okM m = true) : (Sp.ltidy m).length ≤ 4 := by
  obtain ⟨L, h, _⟩ := Sp.ltidy_is (okM_all hm)
  exact h.len_le

/-- rows of other types lie apart. -/
theorem apart_types {w : World} {base base' : Nat} {x y : Item} (hx : x.Own w base) (hy : y.Own w base') (ht : x.e ≠ y.e) : x.Apart y := by
  rcases hx.2 with ⟨h0, _⟩ | ⟨g, cap, cur, hv, _, hg, _⟩
  · exact .inl (by rw [h0]; rfl)
  · rcases hy.2 with ⟨h0, _⟩ | ⟨g', cap', cur', hv', _, hg', _⟩
    · exact .inr (by rw [hv, h0]; simp [Value.ownBlock])
    · refine .inr (fun e => ht ?_)
      rw [hv, hv'] at e
      have e' : g = g' := by simpa [Value.ownBlock] using e
      subst e'
      rw [hg] at hg'
      injection hg' with hg'
      injection hg' with _ h
theorem rows_type {us : List Value} {m : List (List Int)} : ∀ x ∈ List.zipWith row1 us m, x.e = 3 := by
  intro x hx
  rw [List.mem_iff_getElem?] at hx
  obtain ⟨i, hi⟩ := hx
  rw [List.getElem?_zipWith] at hi
  split at hi
  · injection hi with hi; subst hi; rfl
  · cases hi
/-- a row more in a table that is made. -/
theorem tab_snoc {w w1 w2 : World} {base : Nat} {o o' u : Value} {us : List Value} {m m' : List (List Int)} {l : List Int} (h : OwnAll w base (tabItems o us m)) (hl : us.length = m.length) (hb : base ≤ w.heap.size) (hg : w.grownBy w1 none) (ho : Own w1 w.heap.size u l)
    (hg2 : w1.grownBy w2 o.ownBlock) (ho2 : w2.ownsRow base 23 1 o' (us.length + 1) (us ++ [u])) (e : m ++ [l] = m') : OwnAll w2 base (tabItems o' (us ++ [u]) m') := by
  subst e
  have h1 := h.join (M := [row1 u l]) hg ⟨fun x hx => by simp at hx; subst hx; exact row1_own.2 ho, by simp⟩ hb
  have hp := h1.2
  unfold tabItems at h1 hp ⊢
  simp only [List.cons_append, List.nil_append, List.pairwise_cons, List.mem_cons, forall_eq_or_imp] at hp
  have top : (⟨o', 23, us ++ [u]⟩ : Item).Own w2 base := by
    unfold Item.Own
    have : (us ++ [u]).length = us.length + 1 := by simp
    simp only [this]
    exact ho2
  have keep : ∀ x : Item, x ∈ row1 u l :: List.zipWith row1 us m → x.Own w2 base := by
    intro x hx
    have hx1 : x.Own w1 base := h1.1 x (by simp only [List.cons_append, List.nil_append, List.mem_cons] at hx ⊢; rcases hx with h | h <;> simp [h])
    refine World.ownsRow.kept hx1 hg2 ?_
    rcases List.mem_cons.1 hx with rfl | hx
    · exact hp.1.1
    · exact (show Item.Apart ⟨o, 23, us⟩ x from hp.2.1 x hx).symm
  have ez : List.zipWith row1 (us ++ [u]) (m ++ [l]) = List.zipWith row1 us m ++ [row1 u l] := by
    rw [List.zipWith_append hl]; rfl
  rw [ez]
  refine ⟨fun x hx => ?_, ?_⟩
  · rcases List.mem_cons.1 hx with rfl | hx
    · exact top
    · exact keep x (by rcases List.mem_append.1 hx with h | h <;> simp at h ⊢ <;> simp [h])
  · rw [List.pairwise_cons, List.pairwise_append]
    refine ⟨fun x hx => ?_, hp.2.2, by simp, fun x hx y hy => ?_⟩
    · have hx' : x ∈ row1 u l :: List.zipWith row1 us m := by rcases List.mem_append.1 hx with h | h <;> simp at h ⊢ <;> simp [h]
      refine apart_types top (keep x hx') ?_
      rcases List.mem_cons.1 hx' with rfl | h
      · show (23 : TypeId) ≠ 3; decide
      · rw [rows_type x h]; show (23 : TypeId) ≠ 3; decide
    · simp at hy; subst hy; exact (hp.1.2 x hx).symm
theorem tab_none (w : World) (base : Nat) : OwnAll w base (tabItems (.slice none 0 0) [] []) :=
  ⟨fun x hx => by simp [tabItems] at hx; subst hx; exact World.ownsRow_nil _ _ _ _, by simp [tabItems]⟩

end Go.Proofs.YtlehcpcejkpbmaaDoor

/-
  The contracts of the model's row reduction: l3Less, l3Add, l3Tidy.
  Conditions: rows of four numbers (l3Less: of at most 64).
-/
namespace Go.Proofs.YtlehcpcejkpbmaaDoor
open Go.RowKit
set_option linter.unusedVariables false

/-- a slice over a block of integers. -/
def IntRow (w : World) (u : Value) : Prop := ∀ x n cap, u = .slice (some x) n cap → ∃ cur fr, w.heap[x.block]? = some (.cells cur 3 fr)
theorem Own.intRow {w : World} {base : Nat} {v : Value} {l : List Int} (h : Own w base v l) : IntRow w v := by
  intro x n cap e
  rcases h.2 with ⟨e', _⟩ | ⟨g, cap', cur, e', _, hg, _⟩
  · rw [e'] at e; cases e
  · rw [e'] at e
    injection e with e
    injection e with e
    subst e
    exact ⟨cur, (0, 0), hg⟩
theorem IntRow.still {w w' : World} {u : Value} (h : IntRow w u) (hg : w.grownBy w' none) : IntRow w' u := by
  intro x n cap e
  obtain ⟨cur, fr, hx⟩ := h x n cap e
  exact ⟨cur, fr, (hg.block _ (Array.getElem?_eq_some_iff.1 hx).1 (by simp)).trans hx⟩
theorem IntRow.ne {w : World} {base n : Nat} {u o : Value} {xs : List Value} (h : IntRow w u) (ho : w.ownsRow base 23 1 o n xs) {x : Addr} {m cap : Nat} (e : u = .slice (some x) m cap) : some x.block ≠ o.ownBlock := by
  obtain ⟨cur, fr, hx⟩ := h x m cap e
  rcases ho.2 with ⟨e', _⟩ | ⟨g, cap', cur', e', _, hg, _⟩
  · rw [e']; simp [Value.ownBlock]
  · rw [e']
    intro h'
    have : x.block = g := by simpa [Value.ownBlock] using h'
    rw [this, hg] at hx
    injection hx with hx
    injection hx with _ hx
    exact absurd hx (by decide)
/-- rows stay while the slice over them is written. -/
theorem row_kept {w w' : World} {base n : Nat} {u o : Value} {l : List Int} {xs : List Value} (h : Sl w u l ∧ IntRow w u) (ho : w.ownsRow base 23 1 o n xs) (hg : w.grownBy w' o.ownBlock) : Sl w' u l ∧ IntRow w' u := by
  obtain ⟨⟨a, cap, rfl, h1, h2, h3⟩, hi⟩ := h
  refine ⟨⟨a, cap, rfl, h1, h2, ?_⟩, fun x n cap e => ?_⟩
  · rcases h3 with h3 | ⟨b, o', rfl, h3⟩
    · exact .inl h3
    · refine .inr ⟨b, o', rfl, fun i hi' => ?_⟩
      exact hg.cell (h3 i hi') (hi.ne ho (x := ⟨b, o', none⟩) rfl)
  · obtain ⟨cur, fr, hx⟩ := hi x n cap e
    exact ⟨cur, fr, (hg.block _ (Array.getElem?_eq_some_iff.1 hx).1 (hi.ne ho e)).trans hx⟩

/-- a table whose slice is owned; its rows lie in blocks of integers. -/
structure STab (w : World) (base : Nat) (v : Value) (us : List Value) (m : List (List Int)) : Prop where
  top : w.ownsRow base 23 1 v us.length us
  len : us.length = m.length
  rows : ∀ (i : Nat) (u : Value) (l : List Int), us[i]? = some u → m[i]? = some l → Sl w u l ∧ IntRow w u
namespace STab
variable {w w' : World} {base base' : Nat} {v : Value} {us : List Value} {m : List (List Int)}
theorem still (h : STab w base v us m) (hg : w.grownBy w' none) : STab w' base v us m :=
  ⟨World.ownsRow.kept h.top hg (by cases v.ownBlock <;> simp), h.len, fun i u l hu hl => ⟨(h.rows i u l hu hl).1.grown hg, (h.rows i u l hu hl).2.still hg⟩⟩
theorem lower (h : STab w base v us m) (hb : base' ≤ base) : STab w base' v us m :=
  ⟨(show Item.Own w base' ⟨v, 23, us⟩ from Item.Own.lower (x := ⟨v, 23, us⟩) h.top hb), h.len, h.rows⟩
theorem tab (h : STab w base v us m) : Tab w v us m := by
  refine ⟨h.len, ?_, fun i u l hu hl => (h.rows i u l hu hl).1⟩
  rcases h.top.2 with ⟨e, hn⟩ | ⟨g, cap, cur, e, _, hg, h1, h2, _, ht⟩
  · have hu : us = [] := List.eq_nil_of_length_eq_zero hn
    subst hu
    have hm : m = [] := List.eq_nil_of_length_eq_zero h.len.symm
    subst hm
    exact ⟨none, 0, e, by simp, by omega, .inl rfl⟩
  · refine ⟨some ⟨g, 0, none⟩, cap, by rw [← h.len]; exact e, by rw [← h.len]; exact h1, h2, .inr ⟨g, 0, rfl, fun i u hu => ?_⟩⟩
    rw [cell_of_row w g (0 + i) cur 23 (0, 0) hg]
    have ht' : cur.toList.take (us.length * 1) = us := ht
    rw [← ht', List.getElem?_take] at hu
    split at hu
    · simpa using hu
    · cases hu
theorem none_ (w : World) (base : Nat) : STab w base (.slice none 0 0) [] [] := ⟨World.ownsRow_nil _ _ _ _, rfl, by simp⟩
/-- '[][]int{}'. -/
theorem made (w : World) (base : Nat) (hb : base ≤ w.heap.size) : STab (w.alloc (.cells #[] 23)) base (.slice (some ⟨w.heap.size, 0, none⟩) 0 0) [] [] :=
  ⟨⟨by simp, .inr ⟨w.heap.size, 0, #[], rfl, hb, heap_alloc_new w _, Nat.le_refl _, by simp [maxLen], by simp, by simp⟩⟩, rfl, by simp⟩
theorem snoc {w1 w2 : World} {o' u : Value} {l : List Int} {m' : List (List Int)} {n : Nat} (h : STab w base v us m) (hg : w.grownBy w1 none) (hu : Sl w1 u l ∧ IntRow w1 u) (hg2 : w1.grownBy w2 v.ownBlock) (ho2 : w2.ownsRow base 23 1 o' n (us ++ [u])) (hn : n = us.length + 1) (e : m ++ [l] = m') :
    STab w2 base o' (us ++ [u]) m' := by
  subst e hn
  have h1 := h.still hg
  refine ⟨by rw [List.length_append]; exact ho2, by simp [h.len], fun i x r hx hr => ?_⟩
  by_cases hi : i < us.length
  · rw [List.getElem?_append_left hi] at hx
    rw [List.getElem?_append_left (by rw [← h.len]; exact hi)] at hr
    exact row_kept (h1.rows i x r hx hr) h1.top hg2
  · have hi' : i = us.length := by
      have := (List.getElem?_eq_some_iff.1 hx).1
      simp at this; omega
    subst hi'
    rw [List.getElem?_append_right (Nat.le_refl _), Nat.sub_self] at hx
    rw [List.getElem?_append_right (by rw [h.len]; exact Nat.le_refl _), h.len, Nat.sub_self] at hr
    simp at hx hr
    subst hx hr
    exact row_kept hu h1.top hg2
end STab

set_option maxHeartbeats 2000000 in
set_option maxRecDepth 20000 in
theorem specLess (u v : Value) (n p : Nat) (l m : List Int) (w : World) (h : Sl w u l) (h' : Sl w v m) (hl : Sp.Row n l) (hm : Sp.Row n m) (hn : n ≤ 64) (hp : Vec.first m 0 = p) (hpn : p < n) (hz : m.getD p 0 ≠ 0) :
    Calls Tryd.prog 100 #[u, v] w (NewInts (Sp.lless l m) w) := by
  have SU := Lib.hid h
  have SV := Lib.hid h'
  have L := Lib.hid (specL2Lead v m w h')
  rw [hp] at L
  have RL := Lib.hid hl
  have RM := Lib.hid hm
  have hpl : p < l.length := by rw [hl.1]; exact hpn
  have hpm : p < m.length := by rw [hm.1]; exact hpn
  have LE : Hid (Sp.lless l m = Sp.ladd l (Sp.lmul m ((31 - l.getD p 0 * Fld.inv (m.getD p 0) % 31) % 31))) := Lib.hid (by unfold Sp.lless; rw [hp]; rfl)
  have x0 := hl.get p
  have y0 := hm.get p
  obtain ⟨a, cap, rfl, hlc, hcm, hr⟩ := h
  obtain ⟨a', cap', rfl, hlc', hcm', hr'⟩ := h'
  obtain ⟨b, o, rfl, hx⟩ := hr.at_ hpl
  obtain ⟨b', o', rfl, hy⟩ := hr'.at_ hpm
  obtain ⟨x, hxe⟩ : ∃ x, l.getD p 0 = x := ⟨_, rfl⟩
  obtain ⟨y, hye⟩ : ∃ y, m.getD p 0 = y := ⟨_, rfl⟩
  rw [hxe] at hx x0 LE
  rw [hye] at hy y0 LE hz
  have c0 := Fld.inv_is y0
  obtain ⟨c, hce⟩ : ∃ c, Fld.inv y = c := ⟨_, rfl⟩
  have IV := Lib.hid (specSearch y w.drew y0 hz)
  rw [hce] at c0 LE IV
  have ⟨m0, m1⟩ := Fld.mul_le x0 c0
  have ws : IntKind.i64.wrap (x * c) = x * c := IntWalk.i64_in _ (by omega)
  have wt : (x * c).tmod 31 = x * c % 31 := Int.tmod_eq_emod_of_nonneg (by omega)
  obtain ⟨k, hke⟩ : ∃ k, x * c % 31 = k := ⟨_, rfl⟩
  rw [hke] at wt LE
  have k0 : 0 ≤ k ∧ k ≤ 30 := by omega
  have ws2 : IntKind.i64.wrap (31 - k) = 31 - k := IntWalk.i64_in _ (by omega)
  have wt2 : (31 - k).tmod 31 = (31 - k) % 31 := Int.tmod_eq_emod_of_nonneg (by omega)
  obtain ⟨d, hde⟩ : ∃ d, (31 - k) % 31 = d := ⟨_, rfl⟩
  rw [hde] at wt2 LE
  have d0 : Hid (Fld.ok d = true) := Lib.hid (hde ▸ Vec.mod_is _)
  have hpl' : (p : Int) < (l.length : Int) := by omega
  have hpm' : (p : Int) < (m.length : Int) := by omega
  unfold maxLen at hcm hcm'
  have hx' : w.drew.cell? ⟨b, o + p, none⟩ = some (.int .i64 x) := hx
  have hy' : w.drew.cell? ⟨b', o' + p, none⟩ = some (.int .i64 y) := hy
  clear hp hl hm hxe hye hce hke hde hr hr' x0 y0 c0 m0 m1 hx hy
  go_enter Tryd.func100, Tryd.ntmps100
  go_wp2_with fail
  refine L.out.mono ?_
  rintro e w' ⟨rfl, rfl⟩
  go_wp2_with fail
  go_region_held3 (fun w' => w'.cell? ⟨b, o + p, none⟩ = some (.int .i64 x) ∧ w'.cell? ⟨b', o' + p, none⟩ = some (.int .i64 y))
    (first
      | with_reducible exact ⟨hx', hy'⟩
      | with_reducible exact ⟨e1, e2⟩
      | with_reducible exact ⟨f1, f2⟩)
    (first
      | (go_at_call 103; refine IV.out.mono ?_; rintro e w' ⟨rfl, rfl⟩)
      | (go_at_call 58; refine (specMul _ n m d _ (SV.out.grown (grown_still _ 1)) RM.out d0.out hn).mono ?_; rintro e w1 ⟨v1, rfl, hg1, ho1⟩
         have G1 := Lib.hid hg1
         have O1 := Lib.hid ho1
         have e1 := hg1.cell hx' (by simp)
         have e2 := hg1.cell hy' (by simp)
         clear hg1 ho1)
      | (go_at_call 57; refine (specAdd _ _ n l (Sp.lmul m d) _ ((SU.out.grown (grown_still _ 1)).grown G1.out) O1.out.sl RL.out (Sp.row_lmul RM.out d) hn).mono ?_; rintro e w2 ⟨v2, rfl, hg2, ho2⟩
         have G2 := Lib.hid hg2
         have O2 := Lib.hid ho2
         have f1 := hg2.cell e1 (by simp)
         have f2 := hg2.cell e2 (by simp)
         clear hg2 ho2))
  clear hx' hy' e1 e2 f1 f2 ws wt ws2 wt2
  go_wp2_with fail
  go_ret
  refine ⟨_, rfl, grown_trans (grown_trans (grown_still w 1) G1.out) G2.out, ?_⟩
  rw [LE.out]
  exact O2.out.lower G1.out.size
end Go.Proofs.YtlehcpcejkpbmaaDoor

/-
  The contracts of the model's l3Add, l3Tidy and of the functions that are told by them: SpanTidy, SpanRank, l3Has, SpanHas.
  Conditions: none.
-/
namespace Go.Proofs.YtlehcpcejkpbmaaDoor
open Go.RowKit
set_option linter.unusedVariables false

namespace Sp
theorem lins_no {p : Nat} {v : List Int} {T : List (List Int)} (h : ∀ r ∈ T, ¬ (p : Int) < Vec.first r 0) : lins p v T = T.map (fun s => lless s v) ++ [v] := by
  induction T with
  | nil => rfl
  | cons r T ih =>
    rw [lins, if_neg (h r (by simp)), ih (fun s hs => h s (by simp [hs]))]; rfl
theorem lins_new {p : Nat} {v r : List Int} {T : List (List Int)} (h : ∀ r ∈ T, ¬ (p : Int) < Vec.first r 0) (hr : (p : Int) < Vec.first r 0) : lins p v (T ++ [r]) = T.map (fun s => lless s v) ++ [v] ++ [lless r v] := by
  induction T with
  | nil => rw [List.nil_append, lins, if_pos hr]; rfl
  | cons s T ih =>
    rw [List.cons_append, lins, if_neg (h s (by simp)), ih (fun s hs => h s (by simp [hs]))]; rfl
theorem lins_more {p : Nat} {v r : List Int} {T : List (List Int)} (h : ∃ r ∈ T, (p : Int) < Vec.first r 0) : lins p v (T ++ [r]) = lins p v T ++ [lless r v] := by
  induction T with
  | nil => obtain ⟨_, h, _⟩ := h; cases h
  | cons s T ih =>
    rw [List.cons_append, lins, lins]
    by_cases hs : (p : Int) < Vec.first s 0
    · rw [if_pos hs, if_pos hs]; simp
    · rw [if_neg hs, if_neg hs, ih ?_]; · rfl
      obtain ⟨r', hr', hp⟩ := h
      rcases List.mem_cons.1 hr' with rfl | h'
      · exact absurd hp hs
      · exact ⟨r', h', hp⟩
theorem lins_len (p : Nat) (v : List Int) (T : List (List Int)) : (lins p v T).length = T.length + 1 := by
  induction T with
  | nil => rfl
  | cons r T ih => rw [lins]; split <;> simp [ih]
/-- how far a row is put among others: of the first k. -/
def linsK (p : Nat) (v : List Int) (T : List (List Int)) (b : Bool) : List (List Int) := bif b then lins p v T else T.map fun s => lless s v
def anyK (p : Nat) (T : List (List Int)) : Bool := T.any fun r => decide ((p : Int) < Vec.first r 0)
theorem anyK_no {p : Nat} {T : List (List Int)} (h : anyK p T = false) : ∀ r ∈ T, ¬ (p : Int) < Vec.first r 0 := by
  intro r hr hp
  have : anyK p T = true := by unfold anyK; rw [List.any_eq_true]; exact ⟨r, hr, by simpa using hp⟩
  rw [h] at this; cases this
theorem anyK_yes {p : Nat} {T : List (List Int)} (h : anyK p T = true) : ∃ r ∈ T, (p : Int) < Vec.first r 0 := by
  unfold anyK at h; rw [List.any_eq_true] at h
  obtain ⟨r, hr, hp⟩ := h
  exact ⟨r, hr, by simpa using hp⟩
theorem anyK_snoc (p : Nat) (T : List (List Int)) (r : List Int) : anyK p (T ++ [r]) = (anyK p T || decide ((p : Int) < Vec.first r 0)) := by simp [anyK]
theorem linsK_yes {p : Nat} {v r : List Int} {T : List (List Int)} (h : anyK p T = true) : linsK p v T true ++ [lless r v] = linsK p v (T ++ [r]) (anyK p (T ++ [r])) := by
  rw [anyK_snoc, h, Bool.true_or]
  exact (lins_more (anyK_yes h)).symm
theorem linsK_new {p : Nat} {v r : List Int} {T : List (List Int)} (h : anyK p T = false) (hr : (p : Int) < Vec.first r 0) : linsK p v T false ++ [v] ++ [lless r v] = linsK p v (T ++ [r]) (anyK p (T ++ [r])) := by
  rw [anyK_snoc, decide_eq_true hr, Bool.or_true]
  exact (lins_new (anyK_no h) hr).symm
theorem linsK_no {p : Nat} {v r : List Int} {T : List (List Int)} (h : anyK p T = false) (hr : ¬ (p : Int) < Vec.first r 0) : linsK p v T false ++ [lless r v] = linsK p v (T ++ [r]) (anyK p (T ++ [r])) := by
  rw [anyK_snoc, decide_eq_false hr, h, Bool.or_false]
  simp [linsK]
theorem linsK_end {p : Nat} {v : List Int} {T : List (List Int)} (h : anyK p T = false) : linsK p v T false ++ [v] = lins p v T := (lins_no (anyK_no h)).symm
theorem lless_len {n : Nat} {v w : List Int} (hv : Row n v) (hw : Row n w) : (lless v w).length = n := (row_lless hv hw).1
end Sp

/-- tidy rows begin somewhere. -/
theorem is_leads {T : List (List Int)} {L : List (Nat × Sp.V)} (h : Sp.Is 4 T L) : ∀ r ∈ T, Sp.Row 4 r ∧ ∃ p : Nat, p < 4 ∧ Vec.first r 0 = p ∧ r.getD p 0 ≠ 0 := by
  intro r hr
  have hrow := h.row r hr
  refine ⟨hrow, ?_⟩
  rcases Sp.lead_or hrow with hz | ⟨p, hp, hl⟩
  · exfalso
    have : Sp.toV r ∈ Sp.rows L := by rw [← h.same]; exact List.mem_map.2 ⟨r, hr, rfl⟩
    obtain ⟨x, hx, e⟩ := List.mem_map.1 this
    have h1 := h.tidy.one x hx
    rw [show x.2 = Sp.toV r from e, hz] at h1
    exact absurd h1 (by decide)
  · exact ⟨p, hp, Sp.first_lead hrow hl, fun e => hl.1 (by unfold Sp.toV; rw [e]; rfl)⟩
theorem fold_snoc (T : List (List Int)) (l : List Int) {k : Nat} (hk : k < T.length) : (T.take (k + 1)).foldl Sp.lless l = Sp.lless ((T.take k).foldl Sp.lless l) (T.getD k []) := by
  rw [take_more T hk, List.foldl_append]; rfl
theorem row_lead {n : Nat} {l : List Int} (h : Sp.Row n l) {p : Int} (hp : Vec.first l 0 = p) (h0 : ¬ p < 0) : ∃ q : Nat, p = q ∧ q < n ∧ l.getD q 0 ≠ 0 := by
  rcases Sp.lead_or h with hz | ⟨q, hq, hl⟩
  · rw [Sp.first_none h hz] at hp; omega
  · rw [Sp.first_lead h hl] at hp
    exact ⟨q, hp.symm, hq, fun e => hl.1 (by unfold Sp.toV; rw [e]; rfl)⟩
theorem lead_lmul {n : Nat} {l : List Int} (h : Sp.Row n l) {q : Nat} (hq : Vec.first l 0 = q) (hz : l.getD q 0 ≠ 0) : Vec.first (Sp.lmul l (Fld.inv (l.getD q 0))) 0 = q ∧ (Sp.lmul l (Fld.inv (l.getD q 0))).getD q 0 ≠ 0 := by
  have hl : Sp.Lead (Sp.toV l) q := by
    rcases Sp.lead_or h with hz' | ⟨q', _, hl⟩
    · rw [Sp.first_none h hz'] at hq; omega
    · rw [Sp.first_lead h hl] at hq
      have : q' = q := by omega
      subst this; exact hl
  have hinv := Sp.toF_inv (h.get q) hz
  have hj : ∀ j, Sp.toV (Sp.lmul l (Fld.inv (l.getD q 0))) j = Sp.toV l j * Sp.toF (Fld.inv (l.getD q 0)) := fun j => Sp.toV_lmul h _ j
  have h1 : Sp.toV (Sp.lmul l (Fld.inv (l.getD q 0))) q = 1 := by rw [hj]; exact hinv
  have hl' : Sp.Lead (Sp.toV (Sp.lmul l (Fld.inv (l.getD q 0)))) q := ⟨by rw [h1]; decide, fun j hjq => by rw [hj, hl.2 j hjq]; grind⟩
  exact ⟨Sp.first_lead (Sp.row_lmul h _) hl', fun e => hl'.1 (by unfold Sp.toV; rw [e]; rfl)⟩

/-- what a call leaves that makes a table, or hands one on. -/
def NewSTab (base : Nat) (m : List (List Int)) (w : World) (e : Ending) (w' : World) : Prop := ∃ o us, e = .returned o ∧ w.grownBy w' none ∧ STab w' base o us m

set_option maxHeartbeats 4000000 in
set_option maxRecDepth 20000 in
theorem specL3Add (base : Nat) (t v : Value) (us : List Value) (T : List (List Int)) (L : List (Nat × Sp.V)) (l : List Int) (w : World) (hT : STab w base t us T) (hb : base ≤ w.heap.size) (h : Sl w v l) (hl : Sp.Row 4 l) (hI : Sp.Is 4 T L) :
    Calls Tryd.prog 102 #[t, v] w (NewSTab base (Sp.ladd1 T l) w) := by
  have ST := Lib.hid hT
  have TT := Lib.hid hT.tab
  have SL := Lib.hid h
  have RL := Lib.hid hl
  have LE := Lib.hid (is_leads hI)
  have t4 : T.length ≤ 4 := hI.len_le
  obtain ⟨a, cap, rfl, h1, h2, h3⟩ := TT.out.top
  unfold maxLen at h2
  obtain ⟨i0, hi, hz0, hz1, hz2⟩ := info_parts infoInts
  have I1 := Lib.hid hi
  have I2 := Lib.hid hz0
  have I3 := Lib.hid hz1
  have I4 := Lib.hid hz2
  clear hi hz0 hz1 hz2 hT h hl hI h3
  go_enter Tryd.func102, Tryd.ntmps102
  go_wp2_with fail
  go_loopw [1, 5] (fun x i wr => ∃ k : Nat, k ≤ T.length ∧ i = .int .i64 k ∧ w.grownBy wr none ∧ Sl wr x ((T.take k).foldl Sp.lless l) ∧ Sp.Row 4 ((T.take k).foldl Sp.lless l)) (fun _ i _ => T.length - (intOf i).toNat)
  case atStart => exact ⟨0, Nat.zero_le _, rfl, World.grownBy.refl _ _, SL.out, RL.out⟩
  case round =>
    obtain ⟨k, hk, rfl, hg, hs, hr⟩ := hrel
    have G := Lib.hid hg
    have S := Lib.hid hs
    have R := Lib.hid hr
    clear hg hs hr
    by_cases hlt : k < T.length
    · have hlt' : (k : Int) < (T.length : Int) := by omega
      obtain ⟨b, o, cap', u, e, hu, hx, hs⟩ := (TT.out.grown G.out).at_ hlt
      injection e with e1 e2 e3
      subst e1 e3
      obtain ⟨hrow, p, hp4, hp, hpz⟩ := LE.out (T.getD k []) (by rw [List.getD_eq_getElem?_getD, List.getElem?_eq_getElem hlt]; exact List.getElem_mem hlt)
      have FS := Lib.hid (fold_snoc T l hlt)
      have C := Lib.hid (specLess u1 u 4 p _ (T.getD k []) wr S.out hs R.out hrow (by omega) hp hp4 hpz)
      have R1 := Lib.hid (Sp.row_lless R.out hrow)
      clear hs hu hrow hp4 hp hpz
      go_wp2_with fail
      refine C.out.mono ?_
      rintro e w2 ⟨x2, rfl, hg, ho⟩
      have G2 := Lib.hid (grown_trans G.out hg)
      have S2 := Lib.hid ho.sl
      clear hg ho hx
      go_wp2_with fail
      go_roundw
      case rel => exact ⟨k + 1, by omega, by go_num, G2.out, by rw [FS.out]; exact S2.out, by rw [FS.out]; exact R1.out⟩
      case measure => simp [intOf]; omega
    · have : k = T.length := by omega
      subst this
      obtain ⟨f, hf⟩ : ∃ f, (T.take T.length).foldl Sp.lless l = f := ⟨_, rfl⟩
      have F : Hid (T.foldl Sp.lless l = f) := Lib.hid (by rw [← hf, List.take_length])
      rw [hf] at S R
      clear hf
      go_wp2_with fail
      refine (specL2Lead u1 f _ S.out).mono ?_
      rintro e w' ⟨rfl, rfl⟩
      obtain ⟨ld, hld⟩ : ∃ ld, Vec.first f 0 = ld := ⟨_, rfl⟩
      rw [hld]
      have LD := Lib.hid hld
      clear hld
      by_cases hneg : ld < 0
      · have E : Hid (Sp.ladd1 T l = T) := Lib.hid (by unfold Sp.ladd1; rw [F.out, LD.out, if_pos hneg])
        go_wp2_with fail
        go_ret
        exact ⟨_, us, rfl, G.out, by rw [E.out]; exact ST.out.still G.out⟩
      obtain ⟨p, rfl, hp4, hpz⟩ := row_lead R.out LD.out hneg
      have E : Hid (Sp.ladd1 T l = Sp.lins p (Sp.lmul f (Fld.inv (f.getD p 0))) T) := Lib.hid (by unfold Sp.ladd1; rw [F.out, LD.out, if_neg hneg]; rfl)
      have LM := Lib.hid (lead_lmul R.out LD.out hpz)
      have yo := R.out.get p
      obtain ⟨af, capf, e, hf1, hf2, hrf⟩ := S.out
      subst e
      obtain ⟨bf, of, rfl, hx⟩ := hrf.at_ (k := p) (by rw [R.out.1]; exact hp4)
      obtain ⟨y, hy⟩ : ∃ y, f.getD p 0 = y := ⟨_, rfl⟩
      rw [hy] at hx yo hpz E LM
      have hpf : (p : Int) < (f.length : Int) := by have := R.out.1; omega
      unfold maxLen at hf2
      clear hrf hy
      go_wp2_with fail
      refine (specSearch y _ yo hpz).mono ?_
      rintro e w' ⟨rfl, rfl⟩
      have co := Fld.inv_is yo
      obtain ⟨c, hc⟩ : ∃ c, Fld.inv y = c := ⟨_, rfl⟩
      rw [hc] at co E LM ⊢
      have CO := Lib.hid co
      clear hc co
      go_wp2_with fail
      refine (specMul _ 4 f c _ S.out R.out CO.out (by omega)).mono ?_
      rintro e w2 ⟨x2, rfl, hg, ho⟩
      obtain ⟨v2, hv2⟩ : ∃ v2, Sp.lmul f c = v2 := ⟨_, rfl⟩
      have RV : Hid (Sp.Row 4 v2) := Lib.hid (hv2 ▸ Sp.row_lmul R.out c)
      rw [hv2] at ho E LM
      have G2 := Lib.hid (grown_trans G.out hg)
      obtain ⟨ax, cx, ex, _, _, _⟩ := ho.sl
      rw [RV.out.1] at ex
      subst ex
      have SV := Lib.hid ho.sl
      have IV := Lib.hid ho.intRow
      have s2 : base ≤ w2.heap.size := Nat.le_trans hb G2.out.size
      clear hg ho hx hv2 S R G
      have M0 := Lib.hid (STab.made w2 w2.heap.size (Nat.le_refl _))
      go_wp2_with fail
      go_loopw [7, 8, 9] (fun o b i wr => ∃ k : Nat, k ≤ T.length ∧ i = .int .i64 k ∧ b = .bool (Sp.anyK p (T.take k)) ∧ w2.grownBy wr none ∧ ∃ vs, STab wr w2.heap.size o vs (Sp.linsK p v2 (T.take k) (Sp.anyK p (T.take k)))) (fun _ _ i _ => T.length - (intOf i).toNat)
      case atStart => exact ⟨0, Nat.zero_le _, rfl, rfl, grown_alloc (World.grownBy.refl _ _) _, [], M0.out⟩
      case round =>
        obtain ⟨k, hk, rfl, rfl, hg, vs, hst⟩ := hrel
        have G := Lib.hid hg
        have O := Lib.hid hst
        have GB : Hid (w.grownBy wr none) := Lib.hid (grown_trans G2.out hg)
        have vl : vs.length ≤ T.length + 1 := by
          rw [hst.len]
          cases hq : Sp.anyK p (T.take k) with
          | false => simp [Sp.linsK]; omega
          | true =>
            have := Sp.lins_len p v2 (T.take k)
            simp only [Sp.linsK, cond_true]
            rw [List.length_take] at this
            omega
        obtain ⟨q, hq⟩ : ∃ q, Sp.anyK p (T.take k) = q := ⟨_, rfl⟩
        have Q := Lib.hid hq
        rw [hq] at O ⊢
        clear hg hst M0 hq
        by_cases hlt : k < T.length
        · have hlt' : (k : Int) < (T.length : Int) := by omega
          obtain ⟨b, o, cap', u, e, hu, hx, hs⟩ := (TT.out.grown GB.out).at_ hlt
          injection e with e1 e2 e3
          subst e1 e3
          obtain ⟨hrow, pk, hpk4, hpk, hpkz⟩ := LE.out (T.getD k []) (by rw [List.getD_eq_getElem?_getD, List.getElem?_eq_getElem hlt]; exact List.getElem_mem hlt)
          have TM := Lib.hid (take_more T hlt)
          have AN : Hid (Sp.anyK p (T.take (k + 1)) = (q || decide ((p : Int) < pk))) := Lib.hid (by rw [TM.out, Sp.anyK_snoc, Q.out, hpk])
          have SU := Lib.hid hs
          have HR := Lib.hid hrow
          have HP := Lib.hid hpk
          have HZ := Lib.hid hpkz
          have HU := Lib.hid hu
          obtain ⟨rk, hrk⟩ : ∃ rk, T.getD k [] = rk := ⟨_, rfl⟩
          have RK := Lib.hid hrk
          rw [hrk] at SU HR HP HZ TM
          clear hs hu hrow hpk hpkz hrk
          have LEADU := Lib.hid (specL2Lead u rk wr SU.out)
          rw [HP.out] at LEADU
          have vs4 : vs.length ≤ 5 := by omega
          cases q with
          | true =>
            go_wp2_with fail
            refine (specLess u (.slice ax 4 cx) 4 p rk v2 _ SU.out (SV.out.grown G.out) HR.out RV.out (by omega) LM.out.1 hp4 LM.out.2).mono ?_
            rintro e w3 ⟨x3, rfl, hg, ho⟩
            obtain ⟨ar, cr, er, _, _, _⟩ := ho.sl
            rw [Sp.lless_len HR.out RV.out] at er
            subst er
            have G3 := Lib.hid hg
            have R3 := Lib.hid (And.intro ho.sl ho.intRow)
            have TOP := Lib.hid (O.out.still hg).top
            have s3 : w2.heap.size ≤ w3.heap.size := Nat.le_trans G.out.size hg.size
            clear hg ho hx
            go_wp2_with (first
              | (at_builtin; refine wpList_append_own _ rfl _ _ 94 rfl w2.heap.size 23 i0 (.slice none 0 0) 1 24 Tryd.underlying94 I1.out I2.out I3.out I4.out rfl (by decide) _ _ _ rfl (World.ownsRow.alloc TOP.out _) ⟨w3.heap.size, 0, none⟩ 1 1 [.slice ar 4 cr] rfl rfl (one_cell (g := 0)) (by simp [Value.oneCell']) ?c3 ?c4 ?c5 ?_))
            case c3 => unfold maxLen; omega
            case c4 => omega
            case c5 => simp; omega
            intro o' w5 ho2 hg2 _
            have N : Hid (STab w5 w2.heap.size o' (vs ++ [.slice ar 4 cr]) (Sp.linsK p v2 (T.take (k + 1)) (Sp.anyK p (T.take (k + 1))))) := Lib.hid (O.out.snoc G3.out R3.out (grown_trans (World.grownBy_alloc _ _ _) hg2) ho2 rfl (by rw [TM.out]; exact Sp.linsK_yes Q.out))
            have G5 : Hid (w2.grownBy w5 none) := Lib.hid (grown_own (grown_alloc (grown_trans G.out G3.out) _) hg2 (fun j hj => (World.ownsRow.lt TOP.out j hj).1))
            clear ho2 hg2 TOP G3
            go_wp2_with fail
            go_roundw
            case rel => exact ⟨k + 1, by omega, by go_num, by rw [AN.out]; rfl, G5.out, _, N.out⟩
            case measure => simp [intOf]; omega
          | false =>
            go_wp2_with fail
            refine LEADU.out.mono ?_
            rintro e w' ⟨rfl, rfl⟩
            by_cases hpp : (p : Int) < (pk : Int)
            · have D : Hid (decide ((p : Int) < (pk : Int)) = true) := Lib.hid (decide_eq_true hpp)
              have TOP0 := Lib.hid O.out.top
              have sr : w2.heap.size ≤ wr.heap.size := G.out.size
              go_wp2_with (first
                | (at_builtin; refine wpList_append_own _ rfl _ _ 94 rfl w2.heap.size 23 i0 (.slice none 0 0) 1 24 Tryd.underlying94 I1.out I2.out I3.out I4.out rfl (by decide) _ _ _ rfl (World.ownsRow.alloc TOP0.out _) ⟨wr.heap.size, 0, none⟩ 1 1 [.slice ax 4 cx] rfl rfl (one_cell (g := 0)) (by simp [Value.oneCell']) ?d3 ?d4 ?d5 ?_))
              case d3 => unfold maxLen; omega
              case d4 => omega
              case d5 => simp; omega
              intro o4 w4 ho4 hg4 _
              have O4 : Hid (STab w4 w2.heap.size o4 (vs ++ [.slice ax 4 cx]) (Sp.linsK p v2 (T.take k) false ++ [v2])) := Lib.hid (O.out.snoc (World.grownBy.refl _ _) ⟨SV.out.grown G.out, IV.out.still G.out⟩ (grown_trans (World.grownBy_alloc _ _ _) hg4) ho4 rfl rfl)
              have G4 : Hid (w2.grownBy w4 none) := Lib.hid (grown_own (grown_alloc G.out _) hg4 (fun j hj => (World.ownsRow.lt TOP0.out j hj).1))
              have T4 := (TT.out.grown (grown_trans G2.out G4.out)).at_ hlt
              obtain ⟨b4, o4', cap4, u4', e, hu4, hx4, hs4⟩ := T4
              injection e with e1 e2 e3
              injection e1 with e1
              injection e1 with e1 e5
              subst e1 e5 e3
              have UU : u4' = u := by have := HU.out; rw [hu4] at this; injection this
              subst UU
              have SU4 : Hid (Sl w4 u4' rk) := Lib.hid (by rw [RK.out] at hs4; exact hs4)
              clear ho4 hg4 TOP0 hs4 hu4 hx
              have hx := hx4
              clear hx4
              have vs6 : (vs ++ [Value.slice ax 4 cx]).length ≤ 6 := by simp; omega
              generalize vs ++ [Value.slice ax 4 cx] = vs' at *
              go_wp2_with fail
              refine (specLess u4' (.slice ax 4 cx) 4 p rk v2 _ SU4.out (SV.out.grown G4.out) HR.out RV.out (by omega) LM.out.1 hp4 LM.out.2).mono ?_
              rintro e w3 ⟨x3, rfl, hg, ho⟩
              obtain ⟨ar, cr, er, _, _, _⟩ := ho.sl
              rw [Sp.lless_len HR.out RV.out] at er
              subst er
              have G3 := Lib.hid hg
              have R3 := Lib.hid (And.intro ho.sl ho.intRow)
              have TOP := Lib.hid (O4.out.still hg).top
              have s3 : w2.heap.size ≤ w3.heap.size := Nat.le_trans G4.out.size hg.size
              clear hg ho hx
              go_wp2_with (first
                | (at_builtin; refine wpList_append_own _ rfl _ _ 94 rfl w2.heap.size 23 i0 (.slice none 0 0) 1 24 Tryd.underlying94 I1.out I2.out I3.out I4.out rfl (by decide) _ _ _ rfl (World.ownsRow.alloc TOP.out _) ⟨w3.heap.size, 0, none⟩ 1 1 [.slice ar 4 cr] rfl rfl (one_cell (g := 0)) (by simp [Value.oneCell']) ?c3 ?c4 ?c5 ?_))
              case c3 => unfold maxLen; omega
              case c4 => omega
              case c5 => simp; omega
              intro o' w5 ho2 hg2 _
              have N : Hid (STab w5 w2.heap.size o' (vs' ++ [.slice ar 4 cr]) (Sp.linsK p v2 (T.take (k + 1)) (Sp.anyK p (T.take (k + 1))))) := Lib.hid (O4.out.snoc G3.out R3.out (grown_trans (World.grownBy_alloc _ _ _) hg2) ho2 rfl (by rw [TM.out]; exact Sp.linsK_new Q.out (by rw [HP.out]; exact hpp)))
              have G5 : Hid (w2.grownBy w5 none) := Lib.hid (grown_own (grown_alloc (grown_trans G4.out G3.out) _) hg2 (fun j hj => (World.ownsRow.lt TOP.out j hj).1))
              clear ho2 hg2 TOP G3
              go_wp2_with fail
              go_roundw
              case rel => exact ⟨k + 1, by omega, by go_num, by rw [AN.out, D.out]; rfl, G5.out, _, N.out⟩
              case measure => simp [intOf]; omega
            · have D : Hid (decide ((p : Int) < (pk : Int)) = false) := Lib.hid (decide_eq_false hpp)
              go_wp2_with fail
              refine (specLess u (.slice ax 4 cx) 4 p rk v2 _ SU.out (SV.out.grown G.out) HR.out RV.out (by omega) LM.out.1 hp4 LM.out.2).mono ?_
              rintro e w3 ⟨x3, rfl, hg, ho⟩
              obtain ⟨ar, cr, er, _, _, _⟩ := ho.sl
              rw [Sp.lless_len HR.out RV.out] at er
              subst er
              have G3 := Lib.hid hg
              have R3 := Lib.hid (And.intro ho.sl ho.intRow)
              have TOP := Lib.hid (O.out.still hg).top
              have s3 : w2.heap.size ≤ w3.heap.size := Nat.le_trans G.out.size hg.size
              clear hg ho hx
              go_wp2_with (first
                | (at_builtin; refine wpList_append_own _ rfl _ _ 94 rfl w2.heap.size 23 i0 (.slice none 0 0) 1 24 Tryd.underlying94 I1.out I2.out I3.out I4.out rfl (by decide) _ _ _ rfl (World.ownsRow.alloc TOP.out _) ⟨w3.heap.size, 0, none⟩ 1 1 [.slice ar 4 cr] rfl rfl (one_cell (g := 0)) (by simp [Value.oneCell']) ?c3 ?c4 ?c5 ?_))
              case c3 => unfold maxLen; omega
              case c4 => omega
              case c5 => simp; omega
              intro o' w5 ho2 hg2 _
              have N : Hid (STab w5 w2.heap.size o' (vs ++ [.slice ar 4 cr]) (Sp.linsK p v2 (T.take (k + 1)) (Sp.anyK p (T.take (k + 1))))) := Lib.hid (O.out.snoc G3.out R3.out (grown_trans (World.grownBy_alloc _ _ _) hg2) ho2 rfl (by rw [TM.out]; exact Sp.linsK_no Q.out (by rw [HP.out]; omega)))
              have G5 : Hid (w2.grownBy w5 none) := Lib.hid (grown_own (grown_alloc (grown_trans G.out G3.out) _) hg2 (fun j hj => (World.ownsRow.lt TOP.out j hj).1))
              clear ho2 hg2 TOP G3
              go_wp2_with fail
              go_roundw
              case rel => exact ⟨k + 1, by omega, by go_num, by rw [AN.out, D.out]; rfl, G5.out, _, N.out⟩
              case measure => simp [intOf]; omega
        · have : k = T.length := by omega
          subst this
          cases q with
          | true =>
            go_wp2_with fail
            go_ret
            refine ⟨_, vs, rfl, GB.out, ?_⟩
            have := O.out
            rw [List.take_length] at this
            rw [E.out]
            exact this.lower s2
          | false =>
            have TOP0 := Lib.hid O.out.top
            have sr : w2.heap.size ≤ wr.heap.size := G.out.size
            go_wp2_with (first
              | (at_builtin; refine wpList_append_own _ rfl _ _ 94 rfl w2.heap.size 23 i0 (.slice none 0 0) 1 24 Tryd.underlying94 I1.out I2.out I3.out I4.out rfl (by decide) _ _ _ rfl (World.ownsRow.alloc TOP0.out _) ⟨wr.heap.size, 0, none⟩ 1 1 [.slice ax 4 cx] rfl rfl (one_cell (g := 0)) (by simp [Value.oneCell']) ?d3 ?d4 ?d5 ?_))
            case d3 => unfold maxLen; omega
            case d4 => omega
            case d5 => simp; omega
            intro o4 w4 ho4 hg4 _
            have O4 : Hid (STab w4 w2.heap.size o4 (vs ++ [.slice ax 4 cx]) (Sp.linsK p v2 (T.take T.length) false ++ [v2])) := Lib.hid (O.out.snoc (World.grownBy.refl _ _) ⟨SV.out.grown G.out, IV.out.still G.out⟩ (grown_trans (World.grownBy_alloc _ _ _) hg4) ho4 rfl rfl)
            have G4 : Hid (w2.grownBy w4 none) := Lib.hid (grown_own (grown_alloc G.out _) hg4 (fun j hj => (World.ownsRow.lt TOP0.out j hj).1))
            clear ho4 hg4 TOP0
            go_wp2_with fail
            go_ret
            refine ⟨_, vs ++ [.slice ax 4 cx], rfl, grown_trans G2.out G4.out, ?_⟩
            have := O4.out
            rw [Sp.linsK_end Q.out, List.take_length] at this
            rw [E.out]
            exact this.lower s2
end Go.Proofs.YtlehcpcejkpbmaaDoor

/-
  The contracts of the model's l3Tidy, SpanTidy, SpanRank, l3Has, SpanHas, l3First, SpanFirst.
  Conditions: none.
-/
namespace Go.Proofs.YtlehcpcejkpbmaaDoor
open Go.RowKit
set_option linter.unusedVariables false

theorem take_rows {m : List (List Int)} (hm : ∀ r ∈ m, Sp.Row 4 r) (k : Nat) : ∀ r ∈ m.take k, Sp.Row 4 r := fun r hr => hm r (List.mem_of_mem_take hr)

set_option maxHeartbeats 1000000 in
set_option maxRecDepth 20000 in
theorem specL3Tidy (v : Value) (us : List Value) (m : List (List Int)) (w : World) (h : Tab w v us m) (hm : ∀ r ∈ m, Sp.Row 4 r) : Calls Tryd.prog 101 #[v] w (NewSTab w.heap.size (Sp.ltidy m) w) := by
  have T := Lib.hid h
  have HM := Lib.hid hm
  obtain ⟨a, cap, rfl, h1, h2, h3⟩ := h.top
  clear h h3 hm
  unfold maxLen at h2
  have M0 := Lib.hid (STab.made w w.heap.size (Nat.le_refl _))
  go_enter Tryd.func101, Tryd.ntmps101
  go_wp2_with fail
  go_loopw [3, 4] (fun o i wr => ∃ k : Nat, k ≤ m.length ∧ i = .int .i64 k ∧ w.grownBy wr none ∧ ∃ vs, STab wr w.heap.size o vs (Sp.ltidy (m.take k))) (fun _ i _ => m.length - (intOf i).toNat)
  case atStart => exact ⟨0, Nat.zero_le _, rfl, grown_alloc (World.grownBy.refl _ _) _, [], M0.out⟩
  case round =>
    obtain ⟨k, hk, rfl, hg, vs, hst⟩ := hrel
    have G := Lib.hid hg
    have O := Lib.hid hst
    clear hg hst M0
    by_cases hlt : k < m.length
    · have hlt' : (k : Int) < (m.length : Int) := by omega
      obtain ⟨b, o, cap', u, e, hu, hx, hs⟩ := (T.out.grown G.out).at_ hlt
      injection e with e1 e2 e3
      subst e1 e3
      have S := Lib.hid hs
      have RW := Lib.hid (Sp.fresh_row HM.out hlt)
      have TM : Hid (Sp.ltidy (m.take (k + 1)) = Sp.ladd1 (Sp.ltidy (m.take k)) (m.getD k [])) := Lib.hid (by rw [take_more m hlt, Sp.ltidy_snoc])
      obtain ⟨L, hL, _⟩ := Sp.ltidy_is (take_rows HM.out k)
      have LL := Lib.hid hL
      clear hs hu hL
      go_wp2_with fail
      refine (specL3Add w.heap.size _ u vs _ L (m.getD k []) _ O.out G.out.size S.out RW.out LL.out).mono ?_
      rintro e w2 ⟨o2, vs2, rfl, hg, hst⟩
      have G2 := Lib.hid (grown_trans G.out hg)
      have O2 : Hid (STab w2 w.heap.size o2 vs2 (Sp.ltidy (m.take (k + 1)))) := Lib.hid (by rw [TM.out]; exact hst)
      clear hg hst hx
      go_wp2_with fail
      go_roundw
      case rel => exact ⟨k + 1, by omega, by go_num, G2.out, vs2, O2.out⟩
      case measure => simp [intOf]; omega
    · have : k = m.length := by omega
      subst this
      go_wp2_with fail
      go_ret
      refine ⟨_, vs, rfl, G.out, ?_⟩
      have := O.out
      rwa [List.take_length] at this

theorem stab_form {w : World} {base : Nat} {v : Value} {us : List Value} {m : List (List Int)} (h : STab w base v us m) : ∃ a cap, v = .slice a m.length cap ∧ m.length ≤ cap ∧ cap ≤ maxLen := by
  obtain ⟨a, cap, e, h1, h2, _⟩ := h.tab.top
  exact ⟨a, cap, e, h1, h2⟩

set_option maxHeartbeats 1000000 in
set_option maxRecDepth 20000 in
theorem specL3Has (v x : Value) (us : List Value) (m : List (List Int)) (l : List Int) (w : World) (h : Tab w v us m) (hm : ∀ r ∈ m, Sp.Row 4 r) (hx : Sl w x l) (hl : Sp.Row 4 l) : Calls Tryd.prog 98 #[v, x] w fun e w' => e = .returned (.bool (Sp.has m l)) ∧ w.grownBy w' none := by
  have T := Lib.hid h
  have HM := Lib.hid hm
  have X := Lib.hid hx
  have RL := Lib.hid hl
  clear h hm hx hl
  go_enter Tryd.func98, Tryd.ntmps98
  go_wp2_with fail
  refine (specL3Tidy v us m _ T.out HM.out).mono ?_
  rintro e w2 ⟨o2, vs2, rfl, hg, hst⟩
  have G := Lib.hid hg
  have O := Lib.hid hst
  have X2 := Lib.hid (X.out.grown hg)
  obtain ⟨L, hL, _⟩ := Sp.ltidy_is HM.out
  have LL := Lib.hid hL
  clear hg hst hL
  go_wp2_with fail
  refine (specL3Add w.heap.size o2 x vs2 _ L l _ O.out G.out.size X2.out RL.out LL.out).mono ?_
  rintro e w3 ⟨o3, vs3, rfl, hg, hst⟩
  have G3 := Lib.hid (grown_trans G.out hg)
  obtain ⟨a, cap, rfl, _, hc⟩ := stab_form O.out
  obtain ⟨a3, cap3, rfl, _, hc3⟩ := stab_form hst
  have H : Hid (Sp.has m l = decide ((Sp.ladd1 (Sp.ltidy m) l).length = (Sp.ltidy m).length)) := Lib.hid rfl
  generalize (Sp.ltidy m).length = n at *
  generalize (Sp.ladd1 (Sp.ltidy m) l).length = k at *
  clear hg hst O LL
  by_cases hkn : k = n
  · have hb : ((k : Int) == (n : Int)) = true := by simp [hkn]
    have HB : Hid (Sp.has m l = true) := Lib.hid (by rw [H.out]; exact decide_eq_true hkn)
    clear hkn
    go_wp2_with fail
    go_ret
    exact ⟨ret_bool HB.out, G3.out⟩
  · have hb : ((k : Int) == (n : Int)) = false := by simp; omega
    have HB : Hid (Sp.has m l = false) := Lib.hid (by rw [H.out]; exact decide_eq_false hkn)
    go_wp2_with fail
    go_ret
    exact ⟨ret_bool HB.out, G3.out⟩

def hasM (m : List (List Int)) (v : List Int) : Bool := okM m && Vec.ok v && Sp.has m v

/-- the first k rows, as a slice of a table. -/
theorem Tab.take {w : World} {a : Option Addr} {cap : Nat} {us : List Value} {m : List (List Int)} (h : Tab w (.slice a m.length cap) us m) {k : Nat} (hk : k ≤ m.length) : Tab w (.slice a k cap) (us.take k) (m.take k) := by
  have hl : (m.take k).length = k := by rw [List.length_take]; omega
  refine ⟨by rw [List.length_take, List.length_take, h.len], ?_, fun i u l hu hl => ?_⟩
  · obtain ⟨a', cap', e, h1, h2, h3⟩ := h.top
    injection e with e1 e2 e3
    subst e1 e3
    refine ⟨a, cap, by rw [hl], by omega, h2, ?_⟩
    rcases h3 with rfl | ⟨b, o, rfl, h3⟩
    · exact .inl (by simp)
    · refine .inr ⟨b, o, rfl, fun i u hu => h3 i u ?_⟩
      rw [List.getElem?_take] at hu
      split at hu
      · exact hu
      · cases hu
  · rw [List.getElem?_take] at hu hl
    split at hu
    · rename_i hi
      rw [if_pos hi] at hl
      exact h.rows i u l hu hl
    · cases hu

theorem firsts_take {m : List (List Int)} {k : Nat} (hk : k < m.length) : Sp.firsts Sp.has (m.take (k + 1)) = Sp.firsts Sp.has (m.take k) ++ (if Sp.has (m.take k) (m.getD k []) then [] else [k]) := by
  rw [take_more m hk, Sp.firsts_snoc, Sp.take_len m hk]

set_option maxHeartbeats 2000000 in
set_option maxRecDepth 20000 in
theorem specL3First (v : Value) (us : List Value) (m : List (List Int)) (w : World) (h : Tab w v us m) (hm : ∀ r ∈ m, Sp.Row 4 r) (h8 : m.length ≤ 8) : Calls Tryd.prog 96 #[v] w (NewInts ((Sp.firsts Sp.has m).map fun (i : Nat) => (i : Int)) w) := by
  have T := Lib.hid h
  have HM := Lib.hid hm
  obtain ⟨a, cap, rfl, h1, h2, h3⟩ := h.top
  clear h h3 hm
  unfold maxLen at h2
  obtain ⟨i0, hi, hz0, hz1, hz2⟩ := info_parts infoInt
  have I1 := Lib.hid hi
  have I2 := Lib.hid hz0
  have I3 := Lib.hid hz1
  have I4 := Lib.hid hz2
  clear hi hz0 hz1 hz2
  go_enter Tryd.func96, Tryd.ntmps96
  go_wp2_with fail
  go_loopw [3, 4] (fun o i wr => ∃ k : Nat, k ≤ m.length ∧ i = .int .i64 k ∧ w.grownBy wr none ∧ Own wr w.heap.size o ((Sp.firsts Sp.has (m.take k)).map fun (i : Nat) => (i : Int))) (fun _ i _ => m.length - (intOf i).toNat)
  case atStart => exact ⟨0, Nat.zero_le _, rfl, grown_alloc (World.grownBy.refl _ _) _, Own.made w w.heap.size [] (Nat.le_refl _) (by simp)⟩
  case round =>
    obtain ⟨k, hk, rfl, hg, ho⟩ := hrel
    have G := Lib.hid (grown_drew hg)
    have O := Lib.hid (ho.still (grown_drew (World.grownBy.refl _ none)))
    have O0 := Lib.hid ho
    have G0 := Lib.hid hg
    clear hg ho
    by_cases hlt : k < m.length
    · have hlt' : (k : Int) < (m.length : Int) := by omega
      obtain ⟨b, o, cap', u, e, hu, hx, hs⟩ := (T.out.grown G.out).at_ hlt
      injection e with e1 e2 e3
      subst e1 e3
      have S := Lib.hid hs
      have RW := Lib.hid (Sp.fresh_row HM.out hlt)
      have FT := Lib.hid (firsts_take hlt)
      have LT : Hid ((Sp.firsts Sp.has (m.take k)).length ≤ 8) := Lib.hid (by have := Sp.first_len (m.take k); rw [List.length_take] at this; omega)
      have TK := Lib.hid ((T.out.grown G.out).take (k := k) (by omega))
      have kc : (k : Int) ≤ (cap : Int) := by omega
      clear hs hu G0 O0
      go_wp2_with fail
      refine wp_region_still_tail 7 (by kernel_rfl) (by kernel_rfl) ?_
      simp only [List.take_succ_cons, List.take_zero, List.drop_succ_cons, List.drop_zero]
      change wpStill _ _ wr.drew (fun a' => wpList _ _ _ _ a' wr.drew) _ _
      generalize wr.drew = w2 at *
      repeat still_step
      refine wpStill_nil ?_
      have C := Lib.hid (specL3Has _ u (us.take k) (m.take k) (m.getD k []) w2 TK.out (take_rows HM.out k) S.out RW.out)
      obtain ⟨q, hq⟩ : ∃ q, Sp.has (m.take k) (m.getD k []) = q := ⟨_, rfl⟩
      rw [hq] at C FT
      clear hq
      go_wp2_with fail
      refine C.out.mono ?_
      rintro e w3 ⟨rfl, hg⟩
      have G3 := Lib.hid (grown_trans G.out hg)
      have O3 := Lib.hid (O.out.still hg)
      obtain ⟨lf, hlf⟩ : ∃ lf, ((Sp.firsts Sp.has (m.take k)).map fun (i : Nat) => (i : Int)) = lf := ⟨_, rfl⟩
      have ll : lf.length ≤ 8 := by rw [← hlf, List.length_map]; exact LT.out
      have LF := Lib.hid hlf
      rw [hlf] at O3
      have s3 : w.heap.size ≤ w3.heap.size := G3.out.size
      clear hg hx hlf O C
      cases q with
      | true =>
        go_wp2_with fail
        go_roundw
        case rel => exact ⟨k + 1, by omega, by go_num, G3.out, by rw [FT.out, if_pos trivial, List.append_nil, LF.out]; exact O3.out⟩
        case measure => simp [intOf]; omega
      | false =>
        go_wp2_with (first
          | (at_builtin; refine wpList_append_own _ rfl _ _ 23 rfl w.heap.size 3 i0 (.int .i64 0) 1 8 Tryd.underlying23 I1.out I2.out I3.out I4.out rfl (by decide) _ _ _ rfl (World.ownsRow.alloc O3.out _) ⟨w3.heap.size, 0, none⟩ 1 1 [.int .i64 k] rfl rfl (one_cell (g := 0)) (vals_one [(k : Int)]) ?c3 ?c4 ?c5 ?_))
        case c3 => unfold maxLen; omega
        case c4 => omega
        case c5 => simp; omega
        intro o' w5 ho hg _
        have O5 := Lib.hid (own_snoc (l := lf) (x := (k : Int)) ho rfl rfl)
        have G5 : Hid (w.grownBy w5 none) := Lib.hid (grown_own (grown_alloc G3.out _) hg (fun j hj => (World.ownsRow.lt O3.out j hj).1))
        clear ho hg
        go_wp2_with fail
        go_roundw
        case rel => exact ⟨k + 1, by omega, by go_num, G5.out, by rw [FT.out, if_neg (by simp), List.map_append, LF.out]; exact O5.out⟩
        case measure => simp [intOf]; omega
    · have : k = m.length := by omega
      subst this
      go_wp2_with fail
      go_ret
      refine ⟨_, rfl, G0.out, ?_⟩
      have := O0.out
      rwa [List.take_length] at this

end Go.Proofs.YtlehcpcejkpbmaaDoor

/-
  The contracts of the program's SpanBy and SpanHas.
  Conditions: none.
-/
namespace Go.Proofs.YtlehcpcejkpbmaaDoor
open Go.RowKit
set_option linter.unusedVariables false

theorem eight_of {l : List Int} (h : l.length = 12) : ∃ x y z t a b c d e f g i, l = [x, y, z, t, a, b, c, d, e, f, g, i] := by
  match l, h with
  | [x, y, z, t, a, b, c, d, e, f, g, i], _ => exact ⟨x, y, z, t, a, b, c, d, e, f, g, i, rfl⟩

/-- what 'by' leaves: the times of the rows, if nothing of the row is left. -/
def ByOf (r : List Int) (w : World) (e : Ending) (w' : World) : Prop :=
  w.grownBy w' none ∧ ((Vec.first (r.take 4) 0 < 0 ∧ e = .returned (.tuple #[.agg (vals ((Sp.lmul r 30).drop 4)).toArray, .bool true])) ∨
    (¬ Vec.first (r.take 4) 0 < 0 ∧ e = .returned (.tuple #[.agg #[.int .i64 0, .int .i64 0, .int .i64 0, .int .i64 0, .int .i64 0, .int .i64 0, .int .i64 0, .int .i64 0], .bool false])))

end Go.Proofs.YtlehcpcejkpbmaaDoor

/-
  The contracts of the program's SpanBy, SpanHas, SpanSame.
  Conditions: none.
-/
namespace Go.Proofs.YtlehcpcejkpbmaaDoor
open Go.RowKit
set_option linter.unusedVariables false

/-- what SpanBy answers: numbers and true, if the row is made of the rows; none and false, else. -/
def ByM (m : List (List Int)) (v : List Int) (b : Bool) (l : List Int) : Prop := b = hasM m v ∧ ((b = true ∧ okM m = true ∧ Vec.ok v = true ∧ Sp.IsBy m v l) ∨ (b = false ∧ l = []))
theorem ByM.one {m : List (List Int)} {v l l' : List Int} {b b' : Bool} (h : ByM m v b l) (h' : ByM m v b' l') : b = b' ∧ l = l' := by
  have e : b = b' := h.1.trans h'.1.symm
  subst e
  refine ⟨rfl, ?_⟩
  rcases h.2 with ⟨hb, hm, _, hi⟩ | ⟨hb, rfl⟩
  · rcases h'.2 with ⟨_, _, _, hi'⟩ | ⟨hb', _⟩
    · exact hi.one (okM_all hm) hi'
    · rw [hb] at hb'; cases hb'
  · rcases h'.2 with ⟨hb', _⟩ | ⟨_, rfl⟩
    · rw [hb] at hb'; cases hb'
    · rfl
theorem ByM.no {m : List (List Int)} {v : List Int} (h : hasM m v = false) : ByM m v false [] := ⟨h.symm, .inr ⟨rfl, rfl⟩⟩
def NewBy (m : List (List Int)) (v : List Int) (w : World) (e : Ending) (w' : World) : Prop := ∃ o b l, e = .returned (.tuple #[o, .bool b]) ∧ w.grownBy w' none ∧ Own w' w.heap.size o l ∧ ByM m v b l

end Go.Proofs.YtlehcpcejkpbmaaDoor

/-
  Words for the laws of chapter 3: a table that is copied row by row, its parts, and what is plain of matrices and their parts.
  Conditions: none.
-/
namespace Go.Proofs.YtlehcpcejkpbmaaDoor
open Go.RowKit
set_option linter.unusedVariables false

theorem tab_one {w : World} {v : Value} {us : List Value} {m : List (List Int)} (h : Tab w v us m) : ∀ u ∈ us, u.oneCell' = true := by
  intro u hu
  obtain ⟨i, hi, rfl⟩ := List.getElem_of_mem hu
  have hm : i < m.length := by rw [← h.len]; exact hi
  obtain ⟨a, cap, e, _⟩ := h.rows i us[i] m[i] (List.getElem?_eq_getElem hi) (List.getElem?_eq_getElem hm)
  rw [e]; rfl
theorem tab_cells {w : World} {b o cap n : Nat} {us : List Value} {m : List (List Int)} (h : Tab w (.slice (some ⟨b, o, none⟩) n cap) us m) : ∀ (j : Nat) (u : Value), us[j]? = some u → w.cell? ((⟨b, o, none⟩ : Addr).add j) = some u := by
  intro j u hu
  obtain ⟨a, cap', e, _, _, h3⟩ := h.top
  injection e with e1 e2 e3
  subst e1
  rcases h3 with rfl | ⟨b', o', e, h3⟩
  · rw [List.eq_nil_of_length_eq_zero (l := us) (by simpa using h.len)] at hu
    simp at hu
  · injection e with e
    injection e with e e'
    subst e e'
    rw [Addr.add_lit]; exact h3 j u hu
/-- 'append([][]int{}, m...)'. -/
theorem stab_copy {w w2 : World} {base n : Nat} {o o' : Value} {us : List Value} {m : List (List Int)} (ho : w.ownsRow base 23 1 o 0 []) (hl : us.length = m.length) (hr : ∀ (i : Nat) (u : Value) (l : List Int), us[i]? = some u → m[i]? = some l → Sl w u l ∧ IntRow w u)
    (hg : w.grownBy w2 o.ownBlock) (ho2 : w2.ownsRow base 23 1 o' n ([] ++ us)) (hn : n = us.length) : STab w2 base o' us m := by
  subst hn
  exact ⟨ho2, hl, fun i u l hu hlm => row_kept (hr i u l hu hlm) ho hg⟩
theorem Tab.drop {w : World} {b o cap : Nat} {us : List Value} {m : List (List Int)} (h : Tab w (.slice (some ⟨b, o, none⟩) m.length cap) us m) {k : Nat} (hk : k ≤ m.length) {a : Option Addr} (ha : ¬ cap = k → a = some ⟨b, o + k, none⟩) : Tab w (.slice a (m.length - k) (cap - k)) (us.drop k) (m.drop k) := by
  obtain ⟨a', cap', e, h1, h2, h3⟩ := h.top
  injection e with e1 e2 e3
  subst e1 e3
  refine ⟨by rw [List.length_drop, List.length_drop, h.len], ?_, fun i u l hu hl => ?_⟩
  · refine ⟨a, cap - k, by rw [List.length_drop], by rw [List.length_drop]; omega, by omega, ?_⟩
    by_cases hkm : m.length = k
    · left; rw [← hkm]; simp
    · right
      rcases h3 with rfl | ⟨b', o', e, h3⟩
      · simp at hkm hk; omega
      · injection e with e
        injection e with e e'
        subst e e'
        refine ⟨b, o + k, ha (by omega), fun i u hu => ?_⟩
        rw [List.getElem?_drop] at hu
        have := h3 (k + i) u hu
        rw [show o + k + i = o + (k + i) by omega]
        exact this
  · rw [List.getElem?_drop] at hu hl
    exact h.rows (k + i) u l hu hl
theorem drawn_form {w : World} {base : Nat} {v : Value} {us : List Value} {m : List (List Int)} (h : STab w base v us m) (hn : ∃ x n c, v = .slice (some x) n c) : ∃ b o cap, v = .slice (some ⟨b, o, none⟩) m.length cap ∧ m.length ≤ cap ∧ cap ≤ maxLen := by
  obtain ⟨a, cap, e, h1, h2, _⟩ := h.tab.top
  obtain ⟨x, n, c, e'⟩ := hn
  rcases h.top.2 with ⟨e2, _⟩ | ⟨g, c2, cur, e2, _⟩
  · rw [e2] at e'; cases e'
  · rw [e2] at e
    injection e with e3 e4 e5
    subst e3
    exact ⟨g, 0, cap, by rw [e2, e4, e5], h1, h2⟩
theorem okM_take {m : List (List Int)} (h : okM m = true) (k : Nat) : okM (m.take k) = true := by
  have h8 := okM_len h
  refine okM_yes (by rw [List.length_take]; omega) (fun i hi => ?_)
  rw [List.length_take] at hi
  have := okM_get h (i := i) (by omega)
  rwa [List.getD_eq_getElem?_getD, List.getElem?_take, if_pos (by omega), ← List.getD_eq_getElem?_getD]
theorem okM_drop {m : List (List Int)} (h : okM m = true) (k : Nat) : okM (m.drop k) = true := by
  have h8 := okM_len h
  refine okM_yes (by rw [List.length_drop]; omega) (fun i hi => ?_)
  rw [List.length_drop] at hi
  have := okM_get h (i := k + i) (by omega)
  rwa [List.getD_eq_getElem?_getD, List.getElem?_drop, ← List.getD_eq_getElem?_getD]
theorem okM_bad (m : List (List Int)) : okM (m ++ [[1, 2, 3]]) = false := okM_no (i := m.length) (by simp) (by simp; rfl)
theorem stab_take {w : World} {base : Nat} {v : Value} {us : List Value} {m : List (List Int)} (h : STab w base v us m) (k : Nat) : (us.take k).length = (m.take k).length ∧ ∀ (i : Nat) (u : Value) (l : List Int), (us.take k)[i]? = some u → (m.take k)[i]? = some l → Sl w u l ∧ IntRow w u := by
  refine ⟨by rw [List.length_take, List.length_take, h.len], fun i u l hu hl => ?_⟩
  rw [List.getElem?_take] at hu hl
  split at hu
  · rename_i hi
    rw [if_pos hi] at hl
    exact h.rows i u l hu hl
  · cases hu
end Go.Proofs.YtlehcpcejkpbmaaDoor
