/-
  The contracts of the model's functions of chapter 2.
  Conditions: none.
-/
import Derived.Test.YtbpkfcaokbidnabVec2
import Derived.Deep.RegionHeld3
import Derived.WalkSpells
namespace Go.Proofs.Ytbpkfcaokbidnab
open Go.RowKit
set_option linter.unusedVariables false

theorem own_snoc {w : World} {base : Nat} {v : Value} {l l' : List Int} {x : Int} {n : Nat} (h : w.ownsRow base 3 1 v n (vals l ++ [.int .i64 x])) (hn : n = l.length + 1) (e : l ++ [x] = l') : Own w base v l' := by
  subst e hn
  unfold Own
  rw [← vals_append]
  simpa using h
theorem far_own {w : World} {base b : Nat} {v : Value} {l : List Int} (h : Own w base v l) (hb : b < base) : some b ≠ v.ownBlock :=
  fun e => by have := (World.ownsRow.lt h b e.symm).1; omega
theorem take_snoc {l : List Int} {k : Nat} (h : k < l.length) {x : Int} (hx : l.getD k 0 = x) : l.take k ++ [x] = l.take (k + 1) := by
  rw [List.take_succ_eq_append_getElem h, ← hx]
  simp [List.getD_eq_getElem?_getD, h]
theorem one_cell {w : World} {g : Nat} {u : Value} {t : TypeId} : ∀ j v, [u][j]? = some v → (w.alloc (.cells #[u] t)).cell? ((⟨w.heap.size, 0, none⟩ : Addr).add j) = some v := by
  intro j v hj
  match j, hj with
  | 0, hj => simp at hj; subst hj; simp [Addr.add]

set_option maxHeartbeats 1000000 in
set_option maxRecDepth 20000 in
theorem specL2Scale (v : Value) (l : List Int) (c : Int) (w : World) (h : Sl w v l) (hl : Vec.ok l = true) (hc : Fld.ok c = true) : Calls Try.prog 66 #[v, .int .i64 c] w (NewInts (Vec.scale l c) w) := by
  obtain ⟨a, cap, rfl, hlc, hcm, hr⟩ := h
  unfold maxLen at hcm
  have R := Lib.hid hr
  have L4 := Lib.hid (Vec.ok_len hl)
  have OL := Lib.hid hl
  have OC := Lib.hid hc
  have SG := Lib.hid (fun (i : Nat) (hi : i < 4) => Vec.scale_get hl hc hi)
  have S4 := Lib.hid (Vec.ok_len (Vec.scale_is hl hc))
  have l4 : l.length ≤ 4 := by have := L4.out; omega
  clear hr hl
  obtain ⟨i0, hi, hz0, hz1, hz2⟩ := info_parts (show (Try.prog.info? 3).map (fun i => (i.zero, i.size, i.bytes)) = some (some (.int .i64 0), 1, 8) by kernel_rfl)
  have I1 := Lib.hid hi
  have I2 := Lib.hid hz0
  have I3 := Lib.hid hz1
  have I4 := Lib.hid hz2
  clear hi hz0 hz1 hz2
  go_enter Try.func66, Try.ntmps66
  go_wp2_with fail
  go_loopw [5, 6] (fun o i wr => ∃ k : Nat, k ≤ l.length ∧ i = .int .i64 k ∧ w.grownBy wr none ∧ Own wr w.heap.size o ((Vec.scale l c).take k)) (fun _ i _ => l.length - (intOf i).toNat)
  case atStart => 
    refine ⟨0, Nat.zero_le _, rfl, grown_alloc (World.grownBy.refl _ _) _, ?_⟩
    exact Own.made w w.heap.size [] (Nat.le_refl _) (by simp)
  case round =>
    obtain ⟨k, hk, rfl, hg, ho⟩ := hrel
    have G := Lib.hid hg
    have O := Lib.hid ho
    clear hg ho
    by_cases hlt : k < l.length
    · have k4 : k < 4 := by have := L4.out; omega
      obtain ⟨b, o, rfl, hx⟩ := (R.out.grown G.out).at_ hlt
      obtain ⟨x, hxe⟩ : ∃ x, l.getD k 0 = x := ⟨_, rfl⟩
      have hxo := Vec.ok_get OL.out k4
      have sg := SG.out k k4
      rw [hxe] at hx hxo sg
      have ⟨m0, m1⟩ := Fld.mul_le hxo hc
      rw [Fld.mul_ok hxo hc] at sg
      have E := Lib.hid (take_snoc (by rw [S4.out]; exact k4) sg)
      have TL : Hid (((Vec.scale l c).take k).length = k) := Lib.hid (by rw [List.length_take, S4.out]; omega)
      clear hxe sg
      go_wp2_with (first
        | (at_builtin; refine wpList_append_own _ rfl _ _ 33 rfl w.heap.size 3 i0 (.int .i64 0) 1 8 Try.underlying33 I1.out I2.out I3.out I4.out rfl (by decide) _ _ _ rfl (World.ownsRow.alloc O.out _) ⟨wr.heap.size, 0, none⟩ 1 1 [.int .i64 (x * c % 31)] rfl rfl (one_cell (g := 0)) (vals_one [x * c % 31]) ?c3 ?c4 ?c5 ?_))
      case c3 => rw [TL.out]; unfold maxLen; omega
      case c4 => rw [TL.out]; omega
      case c5 => have := G.out.size; simp; omega
      intro o' w1 ho hg _
      have O1 := Lib.hid (own_snoc ho (by simp) E.out)
      have G1 : Hid (w.grownBy w1 none) := Lib.hid (grown_own (grown_alloc G.out _) hg (fun j hj => (World.ownsRow.lt O.out j hj).1))
      clear ho hg
      go_wp2_with fail
      go_roundw
      case rel => exact ⟨k + 1, by omega, by go_num, G1.out, O1.out⟩
      case measure => simp [intOf]; omega
    · have : k = l.length := by omega
      subst this
      go_wp2_with fail
      go_ret
      refine ⟨_, rfl, G.out, ?_⟩
      have := O.out
      rwa [List.take_of_length_le (by rw [S4.out, L4.out]; omega)] at this

set_option maxHeartbeats 1000000 in
set_option maxRecDepth 20000 in
theorem specL2Sum (u v : Value) (l m : List Int) (w : World) (h : Sl w u l) (h' : Sl w v m) (hl : Vec.ok l = true) (hm : Vec.ok m = true) : Calls Try.prog 65 #[u, v] w (NewInts (Vec.sum l m) w) := by
  obtain ⟨a, cap, rfl, hlc, hcm, hr⟩ := h
  obtain ⟨a', cap', rfl, hlc', hcm', hr'⟩ := h'
  unfold maxLen at hcm hcm'
  have R := Lib.hid hr
  have R' := Lib.hid hr'
  have L4 := Lib.hid (Vec.ok_len hl)
  have M4 := Lib.hid (Vec.ok_len hm)
  have OL := Lib.hid hl
  have OM := Lib.hid hm
  have SG := Lib.hid (fun (i : Nat) (hi : i < 4) => Vec.sum_get hl hm hi)
  have S4 := Lib.hid (Vec.ok_len (Vec.sum_is hl hm))
  have l4 : l.length ≤ 4 := by have := L4.out; omega
  have m4 : l.length ≤ m.length := by have := L4.out; have := M4.out; omega
  clear hr hr' hl hm
  obtain ⟨i0, hi, hz0, hz1, hz2⟩ := info_parts (show (Try.prog.info? 3).map (fun i => (i.zero, i.size, i.bytes)) = some (some (.int .i64 0), 1, 8) by kernel_rfl)
  have I1 := Lib.hid hi
  have I2 := Lib.hid hz0
  have I3 := Lib.hid hz1
  have I4 := Lib.hid hz2
  clear hi hz0 hz1 hz2
  go_enter Try.func65, Try.ntmps65
  go_wp2_with fail
  go_loopw [5, 6] (fun ov i wr => ∃ k : Nat, k ≤ l.length ∧ i = .int .i64 k ∧ w.grownBy wr none ∧ Own wr w.heap.size ov ((Vec.sum l m).take k)) (fun _ i _ => l.length - (intOf i).toNat)
  case atStart => 
    refine ⟨0, Nat.zero_le _, rfl, grown_alloc (World.grownBy.refl _ _) _, ?_⟩
    exact Own.made w w.heap.size [] (Nat.le_refl _) (by simp)
  case round =>
    obtain ⟨k, hk, rfl, hg, ho⟩ := hrel
    have G := Lib.hid hg
    have O := Lib.hid ho
    by_cases hlt : k < l.length
    · have k4 : k < 4 := by have := L4.out; omega
      have hltm : k < m.length := by omega
      obtain ⟨b, o, rfl, hx⟩ := (R.out.grown G.out).at_ hlt
      obtain ⟨b', o', rfl, hy⟩ := (R'.out.grown G.out).at_ hltm
      obtain ⟨x, hxe⟩ : ∃ x, l.getD k 0 = x := ⟨_, rfl⟩
      obtain ⟨y, hye⟩ : ∃ y, m.getD k 0 = y := ⟨_, rfl⟩
      have hxo := Vec.ok_get OL.out k4
      have hyo := Vec.ok_get OM.out k4
      have sg := SG.out k k4
      rw [hxe] at hx hxo sg
      rw [hye] at hy hyo sg
      have ⟨x0, x1⟩ := Fld.ok_iff.1 hxo
      have ⟨y0, y1⟩ := Fld.ok_iff.1 hyo
      rw [Fld.sum_ok hxo hyo] at sg
      have E := Lib.hid (take_snoc (by rw [S4.out]; exact k4) sg)
      have TL : Hid (((Vec.sum l m).take k).length = k) := Lib.hid (by rw [List.length_take, S4.out]; omega)
      have hlt' : (k : Int) < (l.length : Int) := by omega
      have hlt2 : (k : Int) < (m.length : Int) := by omega
      clear hxe hye sg hxo hyo hg ho
      have NB : Hid (some b ≠ u5.ownBlock) := Lib.hid (far_own O.out (by obtain ⟨b2, o2, e, h2⟩ := R.out.at_ hlt; injection e with e; injection e with e1; subst e1; exact lt_of_cell h2))
      have NB' : Hid (some b' ≠ u5.ownBlock) := Lib.hid (far_own O.out (by obtain ⟨b2, o2, e, h2⟩ := R'.out.at_ hltm; injection e with e; injection e with e1; subst e1; exact lt_of_cell h2))
      have lb : b < wr.heap.size := lt_of_cell hx
      have lb' : b' < wr.heap.size := lt_of_cell hy
      have ws : IntKind.i64.wrap (x + y) = x + y := IntWalk.i64_in _ (by omega)
      have wt : (x + y).tmod 31 = (x + y) % 31 := Int.tmod_eq_emod_of_nonneg (by omega)
      have hbb : w.heap.size ≤ wr.heap.size := G.out.size
      go_wp2_with fail
      go_region_held3 (fun w' => w'.cell? ⟨b, o + k, none⟩ = some (.int .i64 x) ∧ w'.cell? ⟨b', o' + k, none⟩ = some (.int .i64 y))
        (first
          | go_keep
          | (go_split_ands
             refine ⟨?_, ?_⟩
             · (rw [hgrow.cell_far _ (by simp; omega) NB.out]; assumption)
             · (rw [hgrow.cell_far _ (by simp; omega) NB'.out]; assumption)))
        ((refine step_append_lies _ (by rfl) _ _ _ (by rfl) w.heap.size 3 i0 (.int .i64 0) 1 8 Try.underlying33 I1.out I2.out I3.out I4.out rfl (by omega) u5 ((Vec.sum l m).take k).length (vals ((Vec.sum l m).take k)) (by rfl) (World.ownsRow.drew (World.ownsRow.alloc O.out _))
            ⟨wr.heap.size, 0, none⟩ 1 1 [.int .i64 ((x + y) % 31)] (by rfl) (by rfl) (one_cell (g := 0)) (vals_one [(x + y) % 31])
            (by omega) (by rw [TL.out]; unfold maxLen; omega) (by rw [TL.out]; omega) (by simp; omega) (wr.heap.size + 1) (by simp) ?_; intro gg cc w1 hown1 hgrow hat hlt1))
      rw [List.length_take] at hown1
      have O1 := Lib.hid (own_snoc hown1 (by simp) E.out)
      have G1 : Hid (w.grownBy w1 none) := Lib.hid (grown_own (grown_drew (grown_alloc G.out _)) hgrow (fun j hj => (World.ownsRow.lt O.out j hj).1))
      clear hown1 hgrow hat hlt1 hx hy ws wt
      go_wp2_with fail
      go_roundw
      case rel => exact ⟨k + 1, by omega, by go_num, G1.out, O1.out⟩
      case measure => simp [intOf]; omega
    · have : k = l.length := by omega
      subst this
      clear hg ho
      go_wp2_with fail
      go_ret
      refine ⟨_, rfl, G.out, ?_⟩
      have := O.out
      rwa [List.take_of_length_le (by rw [S4.out, L4.out]; omega)] at this

set_option maxHeartbeats 1000000 in
set_option maxRecDepth 20000 in
theorem specL2Dot (u v : Value) (l m : List Int) (w : World) (h : Sl w u l) (h' : Sl w v m) (hl : Vec.ok l = true) (hm : Vec.ok m = true) : Calls Try.prog 153 #[u, v] w (IntOf (Vec.dot l m) w) := by
  obtain ⟨a, cap, rfl, hlc, hcm, hr⟩ := h
  obtain ⟨a', cap', rfl, hlc', hcm', hr'⟩ := h'
  unfold maxLen at hcm hcm'
  have R := Lib.hid hr
  have R' := Lib.hid hr'
  have L4 := Lib.hid (Vec.ok_len hl)
  have M4 := Lib.hid (Vec.ok_len hm)
  have OL := Lib.hid hl
  have OM := Lib.hid hm
  have l4 : l.length ≤ 4 := by have := L4.out; omega
  have m4 : l.length ≤ m.length := by have := L4.out; have := M4.out; omega
  clear hr hr' hl hm
  go_enter Try.func153, Try.ntmps153
  go_wp2_with fail
  go_loopw [5, 6] (fun n i wr => ∃ k : Nat, k ≤ l.length ∧ i = .int .i64 k ∧ n = .int .i64 (Vec.dpart l m k) ∧ w.grownBy wr none) (fun _ i _ => l.length - (intOf i).toNat)
  case atStart => exact ⟨0, Nat.zero_le _, rfl, rfl, World.grownBy.refl _ _⟩
  case round =>
    obtain ⟨k, hk, rfl, rfl, hg⟩ := hrel
    have G := Lib.hid hg
    clear hg
    by_cases hlt : k < l.length
    · have k4 : k < 4 := by have := L4.out; omega
      have hltm : k < m.length := by omega
      obtain ⟨b, o, rfl, hx⟩ := (R.out.grown G.out).at_ hlt
      obtain ⟨b', o', rfl, hy⟩ := (R'.out.grown G.out).at_ hltm
      have N : Hid ((Vec.dpart l m k + l.getD k 0 * m.getD k 0) % 31 = Vec.dpart l m (k + 1)) := Lib.hid rfl
      have D := Vec.dpart_is l m k
      have hxo := Vec.ok_get OL.out k4
      have hyo := Vec.ok_get OM.out k4
      obtain ⟨d, hd⟩ : ∃ d, Vec.dpart l m k = d := ⟨_, rfl⟩
      obtain ⟨x, hxe⟩ : ∃ x, l.getD k 0 = x := ⟨_, rfl⟩
      obtain ⟨y, hye⟩ : ∃ y, m.getD k 0 = y := ⟨_, rfl⟩
      rw [hxe] at hx hxo
      rw [hye] at hy hyo
      rw [hd] at D
      rw [hd, hxe, hye] at N
      rw [hd]
      have ⟨d0, d1⟩ := Fld.ok_iff.1 D
      have ⟨p0, p1⟩ := Fld.mul_le hxo hyo
      have hlt' : (k : Int) < (l.length : Int) := by omega
      have hlt2 : (k : Int) < (m.length : Int) := by omega
      have w1 : IntKind.i64.wrap (x * y) = x * y := IntWalk.i64_in _ (by omega)
      have w2 : IntKind.i64.wrap (d + x * y) = d + x * y := IntWalk.i64_in _ (by omega)
      clear hxe hye hd hxo hyo D
      go_wp2_with fail
      go_quiet (fail)
      clear w1 w2
      go_wp2_with fail
      go_roundw
      case rel => exact ⟨k + 1, by omega, by go_num, by rw [← N.out], grown_draws G.out _⟩
      case measure => simp [intOf]; omega
    · have : k = l.length := by omega
      subst this
      go_wp2_with fail
      go_ret
      exact ⟨ret_int (by rw [L4.out]; exact Vec.dpart_all OL.out OM.out), G.out⟩

theorem Vec.first_take {l : List Int} : ∀ {k i : Nat}, (∀ j, j < k → l.getD j 0 = 0) → k ≤ l.length → Vec.first l i = Vec.first (l.drop k) (i + k) := by
  intro k
  induction k generalizing l with
  | zero => intro i _ _; rfl
  | succ k ih =>
    intro i h hk
    match l, hk with
    | x :: l, hk =>
      have h0 : x = 0 := by simpa using h 0 (by omega)
      subst h0
      rw [Vec.first_no (by simp), List.drop_succ_cons, ih (l := l) (i := i + 1) (fun j hj => by simpa using h (j + 1) (by omega)) (by simpa using hk)]
      congr 1
      omega

set_option maxHeartbeats 1000000 in
set_option maxRecDepth 20000 in
theorem specL2Lead (v : Value) (l : List Int) (w : World) (h : Sl w v l) : Calls Try.prog 149 #[v] w fun e w' => e = .returned (.int .i64 (Vec.first l 0)) ∧ w = w' := by
  obtain ⟨a, cap, rfl, hlc, hcm, hr⟩ := h
  unfold maxLen at hcm
  have R := Lib.hid hr
  clear hr
  go_enter Try.func149, Try.ntmps149
  go_wp2_with fail
  go_loop [3] (fun i => ∃ k : Nat, k ≤ l.length ∧ i = .int .i64 k ∧ ∀ j, j < k → l.getD j 0 = 0) (fun i => l.length - (intOf i).toNat)
  case atStart => exact ⟨0, Nat.zero_le _, rfl, by omega⟩
  case round =>
    obtain ⟨k, hk, rfl, ha⟩ := hrel
    have A := Lib.hid ha
    clear ha
    by_cases hlt : k < l.length
    · obtain ⟨b, o, rfl, hx⟩ := R.out.at_ hlt
      obtain ⟨x, hxe⟩ : ∃ x, l.getD k 0 = x := ⟨_, rfl⟩
      rw [hxe] at hx
      have E := Lib.hid hxe
      clear hxe
      by_cases h0 : x = 0
      · have hb : (x != 0) = false := by rw [bne_eq_false_iff_eq]; exact h0
        have H0 := Lib.hid h0
        clear h0
        go_wp2_with fail
        go_round
        case rel =>
          refine ⟨k + 1, by omega, by go_num, fun j hj => ?_⟩
          by_cases hjk : j = k
          · subst hjk; rw [E.out]; exact H0.out
          · exact A.out j (by omega)
        case measure => simp [intOf]; omega
      · have hb : (x != 0) = true := by rw [bne_iff_ne]; exact h0
        have B := Lib.hid hb
        go_wp2_with fail
        go_ret
        refine ⟨ret_int ?_, rfl⟩
        rw [Vec.first_take (k := k) A.out hk, List.drop_eq_getElem_cons hlt, Vec.first_yes (by
          have := E.out; rw [List.getD_eq_getElem?_getD, List.getElem?_eq_getElem hlt, Option.getD_some] at this; rw [this]; exact B.out)]
        simp
    · have : k = l.length := by omega
      subst this
      go_wp2_with fail
      go_ret
      refine ⟨ret_int ?_, rfl⟩
      rw [Vec.first_take (k := l.length) A.out (Nat.le_refl _), List.drop_length]
      rfl

theorem Vec.sum_len (l m : List Int) : (Vec.sum l m).length ≤ 4 := by
  cases h : Vec.ok l && Vec.ok m
  · rw [Vec.sum_no h]; simp
  · have ⟨hl, hm⟩ : Vec.ok l = true ∧ Vec.ok m = true := by simpa using h
    rw [Vec.ok_len (Vec.sum_is hl hm)]; omega
theorem Vec.scale_len (l : List Int) (c : Int) : (Vec.scale l c).length ≤ 4 := by
  cases h : Vec.ok l && Fld.ok c
  · rw [Vec.scale_no h]; simp
  · have ⟨hl, hm⟩ : Vec.ok l = true ∧ Fld.ok c = true := by simpa using h
    rw [Vec.ok_len (Vec.scale_is hl hm)]; omega
theorem Vec.unit_len (n : Int) : (Vec.unit n).length ≤ 4 := by
  unfold Vec.unit
  cases decide (0 ≤ n) && decide (n < 4) <;> simp
theorem unit_yes {n : Int} (h0 : 0 ≤ n) (h1 : n < 4) : ∃ k : Nat, k < 4 ∧ n = k := ⟨n.toNat, by omega, by omega⟩
theorem unit_no {n : Int} (h : ¬ (0 ≤ n ∧ n < 4)) : Vec.unit n = [] := by
  unfold Vec.unit
  have : (decide (0 ≤ n) && decide (n < 4)) = false := by
    rw [← Bool.not_eq_true]; simpa using h
  rw [this]; rfl

set_option maxHeartbeats 1000000 in
set_option maxRecDepth 20000 in
theorem specIn (n a b : Int) (w : World) : Calls Try.prog 78 #[.int .i64 n, .int .i64 a, .int .i64 b] w fun e w' => e = .returned (.bool (decide (a ≤ n) && decide (n ≤ b))) ∧ w = w' := by
  by_cases h0 : a ≤ n
  · have e0 : decide (a ≤ n) = true := by simpa using h0
    by_cases h1 : n ≤ b
    · have e1 : decide (n ≤ b) = true := by simpa using h1
      have E : Hid ((decide (a ≤ n) && decide (n ≤ b)) = true) := Lib.hid (by rw [e0, e1]; rfl)
      go_enter Try.func78, Try.ntmps78
      go_wp2
      go_ret
      exact ⟨by first | exact ret_bool E.out | rfl, rfl⟩
    · have e1 : decide (n ≤ b) = false := by simpa using h1
      have E : Hid ((decide (a ≤ n) && decide (n ≤ b)) = false) := Lib.hid (by rw [e0, e1]; rfl)
      go_enter Try.func78, Try.ntmps78
      go_wp2
      go_ret
      exact ⟨by first | exact ret_bool E.out | rfl, rfl⟩
  · have e0 : decide (a ≤ n) = false := by simpa using h0
    have E : Hid ((decide (a ≤ n) && decide (n ≤ b)) = false) := Lib.hid (by rw [e0]; rfl)
    go_enter Try.func78, Try.ntmps78
    go_wp2
    go_ret
    exact ⟨by first | exact ret_bool E.out | rfl, rfl⟩

set_option maxHeartbeats 1000000 in
set_option maxRecDepth 20000 in
theorem implUnitNo (n : Int) (w : World) (h : ¬ (0 ≤ n ∧ n < 4)) : Calls Try.prog 29 #[.int .i64 n] w (NewInts2 (Vec.unit n) false w) := by
  rw [unit_no h]
  by_cases h0 : n < 0
  · clear h
    go_enter Try.func29, Try.ntmps29
    go_wp2_with fail
    go_ret2
    exact ⟨_, rfl, World.grownBy.refl _ _, Own.none_ _ _⟩
  · have h1 : 4 ≤ n := by omega
    clear h
    go_enter Try.func29, Try.ntmps29
    go_wp2_with fail
    go_ret2
    exact ⟨_, rfl, World.grownBy.refl _ _, Own.none_ _ _⟩

set_option maxHeartbeats 2000000 in
set_option maxRecDepth 20000 in
theorem implUnitYes (n : Int) (w : World) (h0 : 0 ≤ n) (h1 : n < 4) : Calls Try.prog 29 #[.int .i64 n] w (NewInts2 (Vec.unit n) true w) := by
  rcases (by omega : n = 0 ∨ n = 1 ∨ n = 2 ∨ n = 3) with rfl | rfl | rfl | rfl
  all_goals
    clear h0 h1
    go_enter Try.func29, Try.ntmps29
    go_wp2_with fail
    refine (rowInts _ _ _ _ _).mono ?_
    rintro e w1 ⟨r, rfl, hg, ho⟩
    have G := Lib.hid hg
    have O := Lib.hid ho
    clear hg ho
    go_wp2_with fail
    go_ret2
    exact new2_after (grown_alloc (World.grownBy.refl _ _) _) G.out O.out

/-- the laws' own row of a number. -/
def Vec.lk (n : Int) : List Int := [n % 31, n * 3 % 31, (n * n + 1) % 31, (n + 7) % 31]
theorem Vec.lk_is (n : Int) : Vec.ok (Vec.lk n) = true := Vec.ok_mk (Vec.mod_is _) (Vec.mod_is _) (Vec.mod_is _) (Vec.mod_is _)

set_option maxHeartbeats 1000000 in
set_option maxRecDepth 20000 in
theorem lkVec (n : Int) (w : World) (h0 : 0 ≤ n) (h1 : n ≤ 1048576) : Calls Try.prog 27 #[.int .i64 n] w (NewInts (Vec.lk n) w) := by
  have q0 : 0 ≤ n * n := Int.mul_nonneg h0 h0
  have q1 : n * n ≤ 1048576 * 1048576 := Int.mul_le_mul h1 h1 h0 (by omega)
  go_enter Try.func27, Try.ntmps27
  go_wp2_with (go_at_call 72; refine (lkNum _ _ (by omega) (by omega)).mono ?_; rintro e w' ⟨rfl, rfl⟩)
  go_ret
  exact ⟨_, rfl, grown_alloc (World.grownBy.refl _ _) _, Own.made w w.heap.size (Vec.lk n) (Nat.le_refl _) (by simp [Vec.lk, maxLen])⟩