/-
  The contracts of chapter 2: for every slice of integers, in whatever memory, the program's functions and the model's answer as plain arithmetic of rows says, in memory of their own, and change nothing that was there.
  Conditions: none.
-/
import Derived.Test.YtbpkfcaokbidnabField
import Derived.Test.YtbpkfcaokbidnabVecMath
import Derived.Test.YtbpkfcaokbidnabInts
import Derived.Deep.QuietTactic
import Derived.BigQuiet
import Derived.Handy
import Derived.StillTailTactics
import Derived.RegionTactic
namespace Go.Proofs.Ytbpkfcaokbidnab
open Go.RowKit
set_option linter.unusedVariables false

set_option maxHeartbeats 400000 in
set_option maxRecDepth 20000 in
theorem implVecOk (v : Value) (l : List Int) (w : World) (h : Sl w v l) : Calls Try.prog 34 #[v] w fun e w' => e = .returned (.bool (Vec.ok l)) ∧ w = w' := by
  obtain ⟨a, cap, rfl, hlc, hcm, hr⟩ := h
  unfold maxLen at hcm
  have R := Lib.hid hr
  clear hr
  by_cases h4 : l.length = 4
  · have H4 := Lib.hid h4
    have hne : ((l.length : Int) != 4) = false := by rw [bne_eq_false_iff_eq]; omega
    clear h4
    go_enter Try.func34, Try.ntmps34
    go_wp2_with fail
    go_loop [10] (fun i => ∃ k : Nat, k ≤ l.length ∧ i = .int .i64 k ∧ ∀ j, j < k → Fld.ok (l.getD j 0) = true) (fun i => l.length - (intOf i).toNat)
    case atStart => exact ⟨0, Nat.zero_le _, rfl, by omega⟩
    case round =>
      obtain ⟨k, hk, rfl, ha⟩ := hrel
      have A := Lib.hid ha
      clear ha
      by_cases hlt : k < l.length
      · obtain ⟨b, o, rfl, hx⟩ := R.out.at_ hlt
        obtain ⟨x, hxe⟩ : ∃ x, l.getD k 0 = x := ⟨_, rfl⟩
        rw [hxe] at hx
        have E := Lib.hid hxe
        clear hxe
        cases hok : Fld.ok x
        · go_wp2_with (go_at_call 80; refine (implOk _ _).mono ?_; rintro e w' ⟨rfl, rfl⟩)
          go_ret
          exact ⟨ret_bool (Vec.ok_no_get hlt (by rw [E.out]; exact hok)), rfl⟩
        · go_wp2_with (go_at_call 80; refine (implOk _ _).mono ?_; rintro e w' ⟨rfl, rfl⟩)
          go_round
          case rel =>
            refine ⟨k + 1, by omega, by go_num, fun j hj => ?_⟩
            by_cases hjk : j = k
            · subst hjk; rw [E.out]; exact hok
            · exact A.out j (by omega)
          case measure => simp [intOf]; omega
      · go_wp2_with fail
        go_ret
        exact ⟨ret_bool (Vec.ok_all H4.out (fun i hi => A.out i (by have := H4.out; omega))), rfl⟩
  · have hne : ((l.length : Int) != 4) = true := by rw [bne_iff_ne]; omega
    have hno := Lib.hid (Vec.ok_no_len h4)
    clear h4
    go_enter Try.func34, Try.ntmps34
    go_wp2_with fail
    go_ret
    exact ⟨ret_bool hno.out, rfl⟩

/-- the cells of a slice of four. -/
theorem Sl.four {w : World} {v : Value} {x y z t : Int} (h : Sl w v [x, y, z, t]) :
    ∃ b o cap, v = .slice (some ⟨b, o, none⟩) 4 cap ∧ 4 ≤ cap ∧ cap ≤ maxLen ∧ b < w.heap.size ∧ w.cell? ⟨b, o, none⟩ = some (.int .i64 x) ∧ w.cell? ⟨b, o + 1, none⟩ = some (.int .i64 y) ∧ w.cell? ⟨b, o + 2, none⟩ = some (.int .i64 z) ∧ w.cell? ⟨b, o + 3, none⟩ = some (.int .i64 t) := by
  obtain ⟨a, cap, rfl, h1, h2, h⟩ := h
  rcases h with h | ⟨b, o, rfl, h⟩
  · cases h
  · have h0 := h 0 (by simp)
    exact ⟨b, o, cap, rfl, h1, h2, lt_of_cell h0, h0, h 1 (by simp), h 2 (by simp), h 3 (by simp)⟩

set_option maxHeartbeats 2000000 in
set_option maxRecDepth 20000 in
theorem implVectorYes (v : Value) (x y z t : Int) (w : World) (h : Sl w v [x, y, z, t]) (hok : Vec.ok [x, y, z, t] = true) :
    Calls Try.prog 69 #[v] w fun e w' => e = .returned (.tuple #[.agg #[.int .i64 x, .int .i64 y, .int .i64 z, .int .i64 t], .bool true]) ∧ w.grownBy w' none := by
  have S := Lib.hid h
  obtain ⟨b, o, cap, rfl, hlc, hcm, hb, c0, c1, c2, c3⟩ := h.four
  unfold maxLen at hcm
  have K := Lib.hid hok
  clear h hok
  go_enter Try.func69, Try.ntmps69
  go_wp2_with fail
  refine (implVecOk _ [x, y, z, t] _ ?hs).mono ?_
  case hs => exact S.out.grown (grown_alloc (grown_alloc (World.grownBy.refl _ _) _) _)
  rintro e w' ⟨rfl, rfl⟩
  rw [K.out]
  go_wp2_with fail
  go_rounds 5
  refine bodyPost_ret (v := .tuple #[.agg #[.int .i64 x, .int .i64 y, .int .i64 z, .int .i64 t], .bool true]) (by simp [results, Try.results69, go_sem]) rfl ⟨rfl, ?_⟩
  repeat' first | exact World.grownBy.refl _ _ | refine grown_alloc ?_ _ | refine grown_set ?_ (by simp) _

theorem stillSum (a b : Int) (w : World) (ha : Fld.ok a = true) (hb : Fld.ok b = true) : Calls Try.prog 96 #[.int .i64 a, .int .i64 b] w fun e w' => e = .returned (.int .i64 ((a + b) % 31)) ∧ w' = w :=
  (elemSum a b w ha hb).mono fun _ _ ⟨h1, h2⟩ => ⟨h1, h2.symm⟩

theorem vals4 (x y z t : Int) : #[Value.int .i64 x, .int .i64 y, .int .i64 z, .int .i64 t] = (vals [x, y, z, t]).toArray := rfl

/-- where the sum stands: the first k are done. -/
def Mix (f : Int → Int → Int) (l m : List Int) (k : Nat) : List Int := (List.zipWith f l m).take k ++ l.drop k
structure Summing (w : World) (l m : List Int) (k : Nat) (wr : World) : Prop where
  grown : w.grownBy wr none
  one : Arr wr w.heap.size 74 (Mix (fun x y => (x + y) % 31) l m k)
  two : Arr wr (w.heap.size + 1) 74 m
  out : Arr wr (w.heap.size + 2) 74 [0, 0, 0, 0]
theorem mix_all (f : Int → Int → Int) {l m : List Int} (hl : l.length = 4) (hm : m.length = 4) : Mix f l m 4 = List.zipWith f l m := by
  match l, m, hl, hm with
  | [x, y, z, t], [x', y', z', t'], _, _ => rfl
theorem mix_len (f : Int → Int → Int) {l m : List Int} (hl : l.length = 4) (hm : m.length = 4) {k : Nat} (hk : k ≤ 4) : (Mix f l m k).length = 4 := by
  simp [Mix, hl, hm]; omega
theorem mix_get (f : Int → Int → Int) {l m : List Int} (hl : l.length = 4) (hm : m.length = 4) {k : Nat} (hk : k < 4) : (Mix f l m k).getD k 0 = l.getD k 0 := by
  match l, m, hl, hm with
  | [x, y, z, t], [x', y', z', t'], _, _ =>
    match k, hk with
    | 0, _ => rfl
    | 1, _ => rfl
    | 2, _ => rfl
    | 3, _ => rfl
theorem mix_set (f : Int → Int → Int) {l m : List Int} (hl : l.length = 4) (hm : m.length = 4) {k : Nat} (hk : k < 4) : (Mix f l m k).set k (f (l.getD k 0) (m.getD k 0)) = Mix f l m (k + 1) := by
  match l, m, hl, hm with
  | [x, y, z, t], [x', y', z', t'], _, _ =>
    match k, hk with
    | 0, _ => rfl
    | 1, _ => rfl
    | 2, _ => rfl
    | 3, _ => rfl
theorem Summing.next {w wr : World} {l m : List Int} {k : Nat} (h : Summing w l m k wr) (hl : l.length = 4) (hm : m.length = 4) (hk : k < 4) :
    Summing w l m (k + 1) (wr.setCell ⟨w.heap.size, k, none⟩ (.int .i64 ((l.getD k 0 + m.getD k 0) % 31))) :=
  ⟨grown_set h.grown (Nat.le_refl _) _, by rw [← mix_set _ hl hm hk]; exact h.one.put _ _, h.two.far (by simp) _, h.out.far (by simp) _⟩

set_option maxHeartbeats 2000000 in
set_option maxRecDepth 20000 in
theorem rowSum (l m : List Int) (w : World) (hl : Vec.ok l = true) (hm : Vec.ok m = true) :
    Calls Try.prog 105 #[.agg (vals l).toArray, .agg (vals m).toArray] w fun e w' => e = .returned (.agg (vals (List.zipWith (fun x y => (x + y) % 31) l m)).toArray) ∧ w.grownBy w' none := by
  have L4 := Lib.hid (Vec.ok_len hl)
  have M4 := Lib.hid (Vec.ok_len hm)
  have OL := Lib.hid hl
  have OM := Lib.hid hm
  have H0 : Hid (Summing w l m 0 (((w.alloc (.cells (vals l).toArray 74)).alloc (.cells (vals m).toArray 74)).alloc (.cells (vals [0, 0, 0, 0]).toArray 74))) := by
    refine ⟨grown_alloc (grown_alloc (grown_alloc (World.grownBy.refl _ _) _) _) _, ((Arr.new _ _ _).alloc _).alloc _, ?_, ?_⟩
    · have := ((Arr.new (w.alloc (.cells (vals l).toArray 74)) 74 m).alloc (.cells (vals [0, 0, 0, 0]).toArray 74))
      simpa using this
    · have := Arr.new ((w.alloc (.cells (vals l).toArray 74)).alloc (.cells (vals m).toArray 74)) 74 [0, 0, 0, 0]
      simpa using this
  obtain ⟨x, y, z, t, rfl, _⟩ := Vec.ok_four hl
  obtain ⟨x', y', z', t', rfl, _⟩ := Vec.ok_four hm
  clear hl hm
  rw [← vals4, ← vals4, ← vals4] at H0
  rw [← vals4, ← vals4]
  go_enter Try.func105, Try.ntmps105
  go_wp2_with fail
  go_loopw [6] (fun i wr => ∃ k : Nat, k ≤ 4 ∧ i = .int .i64 k ∧ Summing w [x, y, z, t] [x', y', z', t'] k wr) (fun i _ => 4 - (intOf i).toNat)
  case atStart => exact ⟨0, by omega, rfl, H0.out⟩
  case round =>
    obtain ⟨k, hk, rfl, hs⟩ := hrel
    clear H0
    by_cases hlt : k < 4
    · have S : Hid (Summing w [x, y, z, t] [x', y', z', t'] k wr.drew) := ⟨grown_drew hs.grown, hs.one, hs.two, hs.out⟩
      have c0 : wr.drew.cell? ⟨w.heap.size, k, none⟩ = some (.int .i64 ([x, y, z, t].getD k 0)) := by rw [S.out.one.cell (by rw [mix_len _ L4.out M4.out hk]; exact hlt), mix_get _ L4.out M4.out hlt]
      have c1 : wr.drew.cell? ⟨w.heap.size + 1, k, none⟩ = some (.int .i64 ([x', y', z', t'].getD k 0)) := S.out.two.cell hlt
      have f0 : wr.drew.frozen? ⟨w.heap.size, k, none⟩ = false := S.out.one.frozen k
      have p0 := Vec.ok_get OL.out hlt
      have p1 := Vec.ok_get OM.out hlt
      clear hs
      obtain ⟨p, hp⟩ : ∃ p, [x, y, z, t].getD k 0 = p := ⟨_, rfl⟩
      obtain ⟨q, hq⟩ : ∃ q, [x', y', z', t'].getD k 0 = q := ⟨_, rfl⟩
      rw [hp] at c0 p0
      rw [hq] at c1 p1
      have P := Lib.hid hp
      have Q := Lib.hid hq
      clear hp hq
      have hlt' : (k : Int) < 4 := by omega
      go_wp2_with fail
      refine wp_region_still_tail 10 (by kernel_rfl) (by kernel_rfl) ?_
      simp only [List.take_succ_cons, List.take_zero, List.drop_succ_cons, List.drop_zero]
      change wpStill _ _ wr.drew (fun a' => wpList _ _ _ _ a' wr.drew) _ _
      generalize wr.drew = w2 at *
      repeat still_step
      refine wpStill_step (fun K hK => ?_)
      go_simp
      go_invoke
      go_simp
      refine ⟨_, stillSum _ _ _ p0 p1, hK _ ?_⟩
      clear hK K
      repeat still_step
      refine wpStill_nil ?_
      go_wp2_with fail
      go_roundw
      case rel => exact ⟨k + 1, by omega, by go_num, by have := S.out.next L4.out M4.out hlt; rw [P.out, Q.out] at this; exact this⟩
      case measure => simp [intOf]; omega
    · have : k = 4 := by omega
      subst this
      have A := hs.one
      rw [mix_all _ L4.out M4.out] at A
      have a0 : wr.cell? ⟨w.heap.size, 0, none⟩ = some (.int .i64 ((x + x') % 31)) := A.cell (by simp)
      have a1 : wr.cell? ⟨w.heap.size, 1, none⟩ = some (.int .i64 ((y + y') % 31)) := A.cell (by simp)
      have a2 : wr.cell? ⟨w.heap.size, 2, none⟩ = some (.int .i64 ((z + z') % 31)) := A.cell (by simp)
      have a3 : wr.cell? ⟨w.heap.size, 3, none⟩ = some (.int .i64 ((t + t') % 31)) := A.cell (by simp)
      have b0 : wr.cell? ⟨w.heap.size + 2, 0, none⟩ = some (.int .i64 0) := hs.out.cell (by simp)
      have b1 : wr.cell? ⟨w.heap.size + 2, 1, none⟩ = some (.int .i64 0) := hs.out.cell (by simp)
      have b2 : wr.cell? ⟨w.heap.size + 2, 2, none⟩ = some (.int .i64 0) := hs.out.cell (by simp)
      have b3 : wr.cell? ⟨w.heap.size + 2, 3, none⟩ = some (.int .i64 0) := hs.out.cell (by simp)
      have f0 := hs.out.frozen 0
      have f1 := hs.out.frozen 1
      have f2 := hs.out.frozen 2
      have f3 := hs.out.frozen 3
      have G := Lib.hid hs.grown
      clear hs A
      go_wp2_with fail
      refine bodyPost_ret (v := .agg #[.int .i64 ((x + x') % 31), .int .i64 ((y + y') % 31), .int .i64 ((z + z') % 31), .int .i64 ((t + t') % 31)]) (by simp [results, Try.results105, go_sem, b0, b1, b2, b3]) rfl ⟨rfl, ?_⟩
      repeat' first | exact G.out | refine grown_set ?_ (by simp; try omega) _

/-- a row; of what is no row, zeros. -/
def Vec.or0 (l : List Int) : List Int := bif Vec.ok l then l else [0, 0, 0, 0]
theorem Vec.or0_four (l : List Int) : ∃ x y z t, Vec.or0 l = [x, y, z, t] := by
  cases h : Vec.ok l
  · exact ⟨0, 0, 0, 0, by simp [Vec.or0, h]⟩
  · obtain ⟨x, y, z, t, rfl, _⟩ := Vec.ok_four h
    exact ⟨x, y, z, t, by simp [Vec.or0, h]⟩
theorem Vec.or0_ok {l : List Int} (h : Vec.ok l = true) : Vec.or0 l = l := by simp [Vec.or0, h]
theorem Vec.or0_no {l : List Int} (h : Vec.ok l = false) : Vec.or0 l = [0, 0, 0, 0] := by simp [Vec.or0, h]

set_option maxHeartbeats 2000000 in
set_option maxRecDepth 20000 in
theorem implVectorNo (v : Value) (l : List Int) (w : World) (h : Sl w v l) (hok : Vec.ok l = false) :
    Calls Try.prog 69 #[v] w fun e w' => e = .returned (.tuple #[.agg #[.int .i64 0, .int .i64 0, .int .i64 0, .int .i64 0], .bool false]) ∧ w.grownBy w' none := by
  have S := Lib.hid h
  have K := Lib.hid hok
  clear h hok
  go_enter Try.func69, Try.ntmps69
  go_wp2_with fail
  refine (implVecOk _ l _ ?hs).mono ?_
  case hs => exact S.out.grown (grown_alloc (grown_alloc (World.grownBy.refl _ _) _) _)
  rintro e w' ⟨rfl, rfl⟩
  rw [K.out]
  go_wp2_with fail
  refine bodyPost_ret (v := .tuple #[.agg #[.int .i64 0, .int .i64 0, .int .i64 0, .int .i64 0], .bool false]) (by simp [results, Try.results69, go_sem]) rfl ⟨rfl, ?_⟩
  repeat' first | exact World.grownBy.refl _ _ | refine grown_alloc ?_ _ | refine grown_set ?_ (by simp) _

theorem implVectorOf (v : Value) (l : List Int) (w : World) (h : Sl w v l) :
    Calls Try.prog 69 #[v] w fun e w' => e = .returned (.tuple #[.agg (vals (Vec.or0 l)).toArray, .bool (Vec.ok l)]) ∧ w.grownBy w' none := by
  cases hok : Vec.ok l
  · rw [Vec.or0_no hok]
    exact implVectorNo v l w h hok
  · rw [Vec.or0_ok hok]
    obtain ⟨x, y, z, t, rfl, _⟩ := Vec.ok_four hok
    exact implVectorYes v x y z t w h hok

set_option maxHeartbeats 2000000 in
set_option maxRecDepth 20000 in
theorem rowScale (l : List Int) (c : Int) (w : World) (hl : Vec.ok l = true) (hc : Fld.ok c = true) :
    Calls Try.prog 106 #[.agg (vals l).toArray, .int .i64 c] w fun e w' => e = .returned (.agg (vals (l.map fun x => x * c % 31)).toArray) ∧ w.grownBy w' none := by
  obtain ⟨x, y, z, t, rfl, hx, hy, hz, ht⟩ := Vec.ok_four hl
  have ⟨x0, x1⟩ := Fld.ok_iff.1 hx
  have ⟨y0, y1⟩ := Fld.ok_iff.1 hy
  have ⟨z0, z1⟩ := Fld.ok_iff.1 hz
  have ⟨t0, t1⟩ := Fld.ok_iff.1 ht
  have ⟨c0, c1⟩ := Fld.ok_iff.1 hc
  have ⟨a0, a1⟩ := Fld.mul_le hx hc
  have ⟨b0, b1⟩ := Fld.mul_le hy hc
  have ⟨d0, d1⟩ := Fld.mul_le hz hc
  have ⟨e0, e1⟩ := Fld.mul_le ht hc
  clear hx hy hz ht hc hl
  rw [← vals4]
  go_enter Try.func106, Try.ntmps106
  go_wp2_with fail
  go_rounds 5
  refine bodyPost_ret (v := .agg #[.int .i64 (x * c % 31), .int .i64 (y * c % 31), .int .i64 (z * c % 31), .int .i64 (t * c % 31)]) (by simp [results, Try.results106, go_sem]) rfl ⟨rfl, ?_⟩
  repeat' first | exact World.grownBy.refl _ _ | refine grown_alloc ?_ _ | refine grown_set ?_ (by simp; try omega) _

theorem idx0 (x y z t : Int) (W : World) : (Instr.index 74 (.agg #[.int .i64 x, .int .i64 y, .int .i64 z, .int .i64 t]) (.int .i64 0)).run Try.prog W = .ok (.int .i64 x) W := by kernel_rfl
theorem idx1 (x y z t : Int) (W : World) : (Instr.index 74 (.agg #[.int .i64 x, .int .i64 y, .int .i64 z, .int .i64 t]) (.int .i64 1)).run Try.prog W = .ok (.int .i64 y) W := by kernel_rfl
theorem idx2 (x y z t : Int) (W : World) : (Instr.index 74 (.agg #[.int .i64 x, .int .i64 y, .int .i64 z, .int .i64 t]) (.int .i64 2)).run Try.prog W = .ok (.int .i64 z) W := by kernel_rfl
theorem idx3 (x y z t : Int) (W : World) : (Instr.index 74 (.agg #[.int .i64 x, .int .i64 y, .int .i64 z, .int .i64 t]) (.int .i64 3)).run Try.prog W = .ok (.int .i64 t) W := by kernel_rfl

theorem makeFour (W : World) : (Instr.makeSlice 33 (.int .i64 4) (.int .i64 4)).run Try.prog W = .ok (.slice (some ⟨W.heap.size, 0, none⟩) 4 4) (W.alloc (.cells #[.int .i64 0, .int .i64 0, .int .i64 0, .int .i64 0] 3)) := by
  obtain ⟨i0, hi, hz0, hz1, hz2⟩ := info_parts (show (Try.prog.info? 3).map (fun i => (i.zero, i.size, i.bytes)) = some (some (.int .i64 0), 1, 8) by kernel_rfl)
  have h := run_make (P := Try.prog) W 33 3 i0 (.int .i64 0) Try.underlying33 hi hz0 .i64 .i64 4 4 (by omega) (by omega) (by rw [hz2]; decide) (by omega)
  have e : madeCells (Value.int .i64 0).cells (4 * 1) = #[.int .i64 0, .int .i64 0, .int .i64 0, .int .i64 0] := Array.ext' (toList_madeCells_one (.int .i64 0) 4)
  rw [h, hz1, ← e]
  rfl

set_option maxHeartbeats 2000000 in
set_option maxRecDepth 20000 in
theorem rowInts (x y z t : Int) (w : World) :
    Calls Try.prog 75 #[.agg #[.int .i64 x, .int .i64 y, .int .i64 z, .int .i64 t]] w (NewInts [x, y, z, t] w) := by
  have hm := makeFour
  have i0 := idx0 x y z t
  have i1 := idx1 x y z t
  have i2 := idx2 x y z t
  have i3 := idx3 x y z t
  go_enter Try.func75, Try.ntmps75
  go_wp2_with fail
  go_rounds 5
  go_ret
  refine ⟨_, rfl, ?_, ?_⟩
  · repeat' first | exact World.grownBy.refl _ _ | refine grown_alloc ?_ _ | refine grown_set ?_ (by simp; try omega) _
  · have h := Arr.new (w.alloc (.cells #[.int .i64 x, .int .i64 y, .int .i64 z, .int .i64 t] 74)) 3 [x, y, z, t]
    rw [World.size_alloc] at h
    exact h.own rfl _ (by omega) (by simp [maxLen])

set_option maxHeartbeats 2000000 in
set_option maxRecDepth 20000 in
theorem rowLead (x y z t : Int) (w : World) :
    Calls Try.prog 81 #[.agg #[.int .i64 x, .int .i64 y, .int .i64 z, .int .i64 t]] w fun e w' => e = .returned (.int .i64 (Vec.first [x, y, z, t] 0)) ∧ w.grownBy w' none := by
  have i0 := idx0 x y z t
  have i1 := idx1 x y z t
  have i2 := idx2 x y z t
  have i3 := idx3 x y z t
  go_enter Try.func81, Try.ntmps81
  go_wp2_with fail
  go_rounds 5
  all_goals go_ret
  all_goals clear i0 i1 i2 i3
  all_goals refine ⟨ret_int ?_, grown_alloc (World.grownBy.refl _ _) _⟩
  all_goals repeat rw [Vec.first_no (by assumption)]
  all_goals try rw [Vec.first_yes (by assumption)]
  all_goals rfl

theorem stillMul (a b : Int) (w : World) (ha : Fld.ok a = true) (hb : Fld.ok b = true) : Calls Try.prog 112 #[.int .i64 a, .int .i64 b] w fun e w' => e = .returned (.int .i64 (a * b % 31)) ∧ w' = w :=
  (elemMul a b w ha hb).mono fun _ _ ⟨h1, h2⟩ => ⟨h1, h2.symm⟩

/-- where the product stands. -/
structure Dotting (w : World) (l m : List Int) (wr : World) : Prop where
  grown : w.grownBy wr none
  one : Arr wr w.heap.size 74 l
  two : Arr wr (w.heap.size + 1) 74 m
theorem Dotting.drew {w wr : World} {l m : List Int} (h : Dotting w l m wr) : Dotting w l m wr.drew := ⟨grown_drew h.grown, h.one.drew, h.two.drew⟩

set_option maxHeartbeats 2000000 in
set_option maxRecDepth 20000 in
theorem rowDot (l m : List Int) (w : World) (hl : Vec.ok l = true) (hm : Vec.ok m = true) :
    Calls Try.prog 110 #[.agg (vals l).toArray, .agg (vals m).toArray] w fun e w' => e = .returned (.int .i64 (Vec.dot l m)) ∧ w.grownBy w' none := by
  have L4 := Lib.hid (Vec.ok_len hl)
  have M4 := Lib.hid (Vec.ok_len hm)
  have OL := Lib.hid hl
  have OM := Lib.hid hm
  have H0 : Hid (Dotting w l m ((w.alloc (.cells (vals l).toArray 74)).alloc (.cells (vals m).toArray 74))) := by
    refine ⟨grown_alloc (grown_alloc (World.grownBy.refl _ _) _) _, (Arr.new _ _ _).alloc _, ?_⟩
    have := Arr.new (w.alloc (.cells (vals l).toArray 74)) 74 m
    rwa [World.size_alloc] at this
  obtain ⟨x, y, z, t, rfl, _⟩ := Vec.ok_four hl
  obtain ⟨x', y', z', t', rfl, _⟩ := Vec.ok_four hm
  clear hl hm
  rw [← vals4, ← vals4] at H0
  rw [← vals4, ← vals4]
  go_enter Try.func110, Try.ntmps110
  go_wp2_with fail
  go_loopw [5, 7] (fun n i wr => ∃ k : Nat, k ≤ 4 ∧ i = .int .i64 k ∧ n = .int .i64 (Vec.dpart [x, y, z, t] [x', y', z', t'] k) ∧ Dotting w [x, y, z, t] [x', y', z', t'] wr) (fun _ i _ => 4 - (intOf i).toNat)
  case atStart => exact ⟨0, by omega, rfl, rfl, H0.out⟩
  case round =>
    obtain ⟨k, hk, rfl, rfl, hs⟩ := hrel
    clear H0
    have N := Lib.hid (Vec.dpart_next [x, y, z, t] [x', y', z', t'] k)
    have D := Vec.dpart_is [x, y, z, t] [x', y', z', t'] k
    by_cases hlt : k < 4
    · have S := Lib.hid hs.drew
      have c0 := S.out.one.cell (i := k) hlt
      have c1 := S.out.two.cell (i := k) hlt
      have p0 := Vec.ok_get OL.out hlt
      have p1 := Vec.ok_get OM.out hlt
      clear hs
      obtain ⟨d, hd⟩ : ∃ d, Vec.dpart [x, y, z, t] [x', y', z', t'] k = d := ⟨_, rfl⟩
      obtain ⟨p, hp⟩ : ∃ p, [x, y, z, t].getD k 0 = p := ⟨_, rfl⟩
      obtain ⟨q, hq⟩ : ∃ q, [x', y', z', t'].getD k 0 = q := ⟨_, rfl⟩
      rw [hd] at D
      rw [hp] at c0 p0
      rw [hq] at c1 p1
      rw [hd, hp, hq] at N
      rw [hd]
      have hpq : Fld.ok (p * q % 31) = true := Vec.mod_is _
      clear hp hq hd
      have hlt' : (k : Int) < 4 := by omega
      go_wp2_with fail
      refine wp_region_still_lit (by kernel_rfl) (by kernel_rfl) ?_
      change wpStill _ _ wr.drew (fun a' => Exit.inBlock _ _ _ a' wr.drew) _ _
      generalize wr.drew = w2 at *
      repeat still_step
      refine wpStill_step (fun K hK => ?_)
      go_simp
      go_invoke
      go_simp
      refine ⟨_, stillMul _ _ _ p0 p1, hK _ ?_⟩
      clear hK K
      refine wpStill_step (fun K hK => ?_)
      go_simp
      go_invoke
      go_simp
      refine ⟨_, stillSum _ _ _ D hpq, hK _ ?_⟩
      clear hK K
      repeat still_step
      refine wpStill_nil ?_
      go_wp2_with fail
      go_roundw
      case rel => exact ⟨k + 1, by omega, by go_num, by rw [← N.out]; exact congrArg (Value.int .i64) (by omega), S.out⟩
      case measure => simp [intOf]; omega
    · have : k = 4 := by omega
      subst this
      have S := Lib.hid hs
      clear hs N D
      go_wp2_with fail
      go_ret
      exact ⟨ret_int (Vec.dpart_all OL.out OM.out), S.out.grown⟩

end Go.Proofs.Ytbpkfcaokbidnab
