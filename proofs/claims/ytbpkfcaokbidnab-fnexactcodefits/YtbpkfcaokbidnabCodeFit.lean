/-
  The contracts of the program's sums of shards: values, each so often, together; values of all shards.
  Conditions: none.
-/
import Derived.Test.YtbpkfcaokbidnabCodeBear3
namespace Go.Proofs.Ytbpkfcaokbidnab
open Go.RowKit
set_option linter.unusedVariables false

theorem idxS (a0 a1 a2 a3 a4 a5 a6 a7 : Int) {n : Nat} (hn : n < 8) (W : World) : (Instr.index 99 (.agg (vals [a0, a1, a2, a3, a4, a5, a6, a7]).toArray) (.int .i64 n)).run Try.prog W = .ok (.int .i64 ([a0, a1, a2, a3, a4, a5, a6, a7].getD n 0)) W := by
  rcases (by omega : n = 0 ∨ n = 1 ∨ n = 2 ∨ n = 3 ∨ n = 4 ∨ n = 5 ∨ n = 6 ∨ n = 7) with rfl | rfl | rfl | rfl | rfl | rfl | rfl | rfl <;> kernel_rfl

theorem getD_ok {l : List Int} (h : ∀ x ∈ l, Fld.ok x = true) (n : Nat) : Fld.ok (l.getD n 0) = true := by
  rw [List.getD_eq_getElem?_getD]
  cases e : l[n]? with
  | none => rfl
  | some x => exact h x (List.mem_of_getElem? e)

set_option maxHeartbeats 4000000 in
set_option maxRecDepth 20000 in
theorem combine (a c : List Int) (ha : a.length = 8) (hc : c.length = 8) (oa : ∀ x ∈ a, Fld.ok x = true) (oc : ∀ x ∈ c, Fld.ok x = true) (w : World) :
    Calls Try.prog 74 #[.agg (vals a).toArray, .agg (vals c).toArray] w fun e w' => e = .returned (.int .i64 (Sp.csum a c 8)) ∧ w.grownBy w' none := by
  have IX : Hid (∀ (n : Nat) (h : n < 8) (W : World), (Instr.index 99 (.agg (vals a).toArray) (.int .i64 n)).run Try.prog W = .ok (.int .i64 (a.getD n 0)) W) := Lib.hid (by
    obtain ⟨a0, a1, a2, a3, a4, a5, a6, a7, rfl⟩ := list_eight ha
    exact fun n h W => idxS a0 a1 a2 a3 a4 a5 a6 a7 h W)
  have OA := Lib.hid (getD_ok oa)
  have OC := Lib.hid (getD_ok oc)
  have z : (vals a).toArray.size = 8 := by simp [vals_length, ha]
  have hi : (Try.prog.info? 99).map (·.size) = some (vals a).toArray.size := by rw [z]; kernel_rfl
  have A0 : Hid (Arr ((w.alloc (.cells (vals a).toArray 99)).alloc (.cells (vals c).toArray 88)) w.heap.size 99 a) := Lib.hid ((Arr.new w _ _).alloc _)
  have C0 : Hid (Arr ((w.alloc (.cells (vals a).toArray 99)).alloc (.cells (vals c).toArray 88)) (w.heap.size + 1) 88 c) := Lib.hid (by
    have := Arr.new (w.alloc (.cells (vals a).toArray 99)) 88 c
    rw [World.size_alloc] at this
    exact this)
  have G0 : Hid (w.grownBy ((w.alloc (.cells (vals a).toArray 99)).alloc (.cells (vals c).toArray 88)) none) := Lib.hid (grown_alloc (grown_alloc (World.grownBy.refl _ _) _) _)
  have HC := Lib.hid hc
  go_enter Try.func74, Try.ntmps74
  go_upto_region 2 with fail
  generalize (w.alloc (.cells (vals a).toArray 99)).alloc (.cells (vals c).toArray 88) = W0 at *
  apply wp_region_lit
  refine wpList_load_row rfl _ _ rfl w.heap.size rfl _ _ _ _ A0.out Try.underlying99 rfl hi ?_
  clear z hi A0 oa oc ha hc
  generalize hva : vals a = va at *
  clear hva
  go_wp2_with fail
  go_loopw [5, 9] (fun o i wr => ∃ n : Nat, n ≤ 8 ∧ i = .int .i64 n ∧ o = .int .i64 (Sp.csum a c n) ∧ wr = W0) (fun _ i _ => 8 - (intOf i).toNat)
  case atStart => exact ⟨0, by omega, rfl, rfl, rfl⟩
  case round =>
    obtain ⟨n, hn, rfl, rfl, rfl⟩ := hrel
    by_cases hlt : n < 8
    · have hlt' : (n : Int) < 8 := by omega
      have ix := IX.out n hlt wr
      have cc : wr.cell? ⟨w.heap.size + 1, n, none⟩ = some (.int .i64 (c.getD n 0)) := C0.out.cell (by rw [HC.out]; exact hlt)
      have ox := OA.out n
      have oy := OC.out n
      have CS : Hid (Sp.csum a c (n + 1) = (Sp.csum a c n + a.getD n 0 * c.getD n 0 % 31) % 31) := Lib.hid rfl
      have os := Sp.csum_ok a c n
      have om : Fld.ok (a.getD n 0 * c.getD n 0 % 31) = true := Vec.mod_is _
      have OX := Lib.hid ox
      have OY := Lib.hid oy
      have OS := Lib.hid os
      have OM := Lib.hid om
      clear ox oy os om
      generalize a.getD n 0 = x at *
      generalize c.getD n 0 = y at *
      generalize Sp.csum a c n = s at *
      go_wp2_with fail
      refine (elemMul x y _ OX.out OY.out).mono ?_
      rintro e w' ⟨rfl, rfl⟩
      generalize x * y % 31 = p at *
      go_wp2_with fail
      refine (elemSum s p _ OS.out OM.out).mono ?_
      rintro e w' ⟨rfl, rfl⟩
      go_wp2_with fail
      go_roundw
      case rel => exact ⟨n + 1, by omega, by go_num, by rw [CS.out], by first | rfl | trivial⟩
      case measure => simp [intOf]; omega
    · obtain rfl : n = 8 := by omega
      go_wp2_with fail
      go_ret
      exact ⟨rfl, G0.out⟩

/-- values of all shards. -/
def shOk (l : List Int) : Bool := decide (l.length = 8) && l.all Fld.ok
def shOr (l : List Int) : List Int := bif shOk l then l else [0, 0, 0, 0, 0, 0, 0, 0]
theorem shOk_row {l : List Int} : shOk l = true ↔ Sp.Row 8 l := by
  simp only [shOk, Bool.and_eq_true, decide_eq_true_eq, List.all_eq_true]
  exact ⟨fun h => ⟨h.1, h.2⟩, fun h => ⟨h.1, h.2⟩⟩
theorem shOk_get {l : List Int} (h8 : l.length = 8) (h : ∀ i, i < 8 → Fld.ok (l.getD i 0) = true) : shOk l = true := by
  refine shOk_row.2 ⟨h8, fun x hx => ?_⟩
  obtain ⟨i, hi, rfl⟩ := List.mem_iff_getElem.1 hx
  have := h i (by omega)
  rwa [List.getD_eq_getElem?_getD, List.getElem?_eq_getElem hi] at this
theorem shOk_not {l : List Int} {i : Nat} (h : Fld.ok (l.getD i 0) = false) : shOk l = false := by
  cases e : shOk l with
  | false => rfl
  | true =>
    have := getD_ok (shOk_row.1 e).2 i
    rw [h] at this; cases this

set_option maxHeartbeats 4000000 in
set_option maxRecDepth 20000 in
theorem shardsShort (v : Value) (l : List Int) (w : World) (h : Sl w v l) (hl : l.length ≠ 8) :
    Calls Try.prog 73 #[v] w fun e w' => e = .returned (.tuple #[.agg (vals [0, 0, 0, 0, 0, 0, 0, 0]).toArray, .bool false]) ∧ w.grownBy w' none := by
  obtain ⟨a, cap, rfl, h1, h2, hr⟩ := h
  unfold maxLen at h2
  have hne : ((l.length : Int) != 8) = true := by rw [bne_iff_ne]; omega
  clear hr hl
  go_enter Try.func73, Try.ntmps73
  go_wp2_with fail
  refine bodyPost_ret (v := .tuple #[.agg #[.int .i64 0, .int .i64 0, .int .i64 0, .int .i64 0, .int .i64 0, .int .i64 0, .int .i64 0, .int .i64 0], .bool false]) (by simp [results, Try.results73, go_sem]) rfl ⟨rfl, ?_⟩
  repeat' first | exact World.grownBy.refl _ _ | refine grown_alloc ?_ _ | refine grown_set ?_ (by simp) _

set_option maxHeartbeats 4000000 in
set_option maxRecDepth 20000 in
theorem shardsLong (v : Value) (l : List Int) (w : World) (h : Sl w v l) (hl : l.length = 8) :
    Calls Try.prog 73 #[v] w fun e w' => e = .returned (.tuple #[.agg (vals (shOr l)).toArray, .bool (shOk l)]) ∧ w.grownBy w' none := by
  obtain ⟨a, cap, rfl, h1, h2, hr⟩ := h
  rw [hl] at h1 ⊢
  unfold maxLen at h2
  have R := Lib.hid hr
  have L8 := Lib.hid hl
  clear hr hl
  have Z0 : Hid (Arr ((w.alloc (.cells #[.int .i64 0, .int .i64 0, .int .i64 0, .int .i64 0, .int .i64 0, .int .i64 0, .int .i64 0, .int .i64 0] 99)).alloc (.cells #[.int .i64 0, .int .i64 0, .int .i64 0, .int .i64 0, .int .i64 0, .int .i64 0, .int .i64 0, .int .i64 0] 99)) w.heap.size 99 [0, 0, 0, 0, 0, 0, 0, 0]) := Lib.hid ((Arr.new w _ [0, 0, 0, 0, 0, 0, 0, 0]).alloc _)
  have P0 : Hid (Arr ((w.alloc (.cells #[.int .i64 0, .int .i64 0, .int .i64 0, .int .i64 0, .int .i64 0, .int .i64 0, .int .i64 0, .int .i64 0] 99)).alloc (.cells #[.int .i64 0, .int .i64 0, .int .i64 0, .int .i64 0, .int .i64 0, .int .i64 0, .int .i64 0, .int .i64 0] 99)) (w.heap.size + 1) 99 (part l 0)) := Lib.hid (by
    have := Arr.new (w.alloc (.cells #[.int .i64 0, .int .i64 0, .int .i64 0, .int .i64 0, .int .i64 0, .int .i64 0, .int .i64 0, .int .i64 0] 99)) 99 [0, 0, 0, 0, 0, 0, 0, 0]
    rw [World.size_alloc] at this
    rw [show part l 0 = [0, 0, 0, 0, 0, 0, 0, 0] by simp [part, L8.out, List.replicate]]
    exact this)
  have G0 : Hid (w.grownBy ((w.alloc (.cells #[.int .i64 0, .int .i64 0, .int .i64 0, .int .i64 0, .int .i64 0, .int .i64 0, .int .i64 0, .int .i64 0] 99)).alloc (.cells #[.int .i64 0, .int .i64 0, .int .i64 0, .int .i64 0, .int .i64 0, .int .i64 0, .int .i64 0, .int .i64 0] 99)) none) := Lib.hid (grown_alloc (grown_alloc (World.grownBy.refl _ _) _) _)
  go_enter Try.func73, Try.ntmps73
  go_wp2_with fail
  go_loopw [13] (fun i wr => ∃ k : Nat, k ≤ 8 ∧ i = .int .i64 k ∧ (∀ j, j < k → Fld.ok (l.getD j 0) = true) ∧ w.grownBy wr none ∧ Arr wr w.heap.size 99 [0, 0, 0, 0, 0, 0, 0, 0] ∧ Arr wr (w.heap.size + 1) 99 (part l k)) (fun i _ => 8 - (intOf i).toNat)
  case atStart => exact ⟨0, by omega, rfl, fun j hj => by omega, G0.out, Z0.out, P0.out⟩
  case round =>
    obtain ⟨k, hk, rfl, hok, hg, hz, hp⟩ := hrel
    have OK := Lib.hid hok
    have G := Lib.hid hg
    have Z := Lib.hid hz
    have P := Lib.hid hp
    clear hok hg hz hp Z0 P0 G0
    have b0 : wr.cell? ⟨w.heap.size, 0, none⟩ = some (.int .i64 0) := Z.out.cell (by simp)
    have b1 : wr.cell? ⟨w.heap.size, 1, none⟩ = some (.int .i64 0) := Z.out.cell (by simp)
    have b2 : wr.cell? ⟨w.heap.size, 2, none⟩ = some (.int .i64 0) := Z.out.cell (by simp)
    have b3 : wr.cell? ⟨w.heap.size, 3, none⟩ = some (.int .i64 0) := Z.out.cell (by simp)
    have b4 : wr.cell? ⟨w.heap.size, 4, none⟩ = some (.int .i64 0) := Z.out.cell (by simp)
    have b5 : wr.cell? ⟨w.heap.size, 5, none⟩ = some (.int .i64 0) := Z.out.cell (by simp)
    have b6 : wr.cell? ⟨w.heap.size, 6, none⟩ = some (.int .i64 0) := Z.out.cell (by simp)
    have b7 : wr.cell? ⟨w.heap.size, 7, none⟩ = some (.int .i64 0) := Z.out.cell (by simp)
    have f0 := Z.out.frozen 0
    have f1 := Z.out.frozen 1
    have f2 := Z.out.frozen 2
    have f3 := Z.out.frozen 3
    have f4 := Z.out.frozen 4
    have f5 := Z.out.frozen 5
    have f6 := Z.out.frozen 6
    have f7 := Z.out.frozen 7
    by_cases hlt : k < 8
    · have hlt' : (k : Int) < 8 := by omega
      obtain ⟨b, o, rfl, hx⟩ := (R.out.grown G.out).at_ (k := k) (by rw [L8.out]; exact hlt)
      have pc : wr.cell? ⟨w.heap.size + 1, k, none⟩ = some (.int .i64 ((part l k).getD k 0)) := P.out.cell (by rw [part_length l k (by rw [L8.out]; omega), L8.out]; exact hlt)
      have pf := P.out.frozen k
      have PS := Lib.hid (part_set l k (by rw [L8.out]; exact hlt))
      obtain ⟨x, hxe⟩ : ∃ x, l.getD k 0 = x := ⟨_, rfl⟩
      rw [hxe] at hx PS
      have XE := Lib.hid hxe
      clear hxe
      generalize (part l k).getD k 0 = y at *
      cases hq : Fld.ok x with
      | false =>
        have NO : Hid (shOk l = false) := Lib.hid (shOk_not (i := k) (by rw [XE.out]; exact hq))
        have IO := Lib.hid (implOk x wr)
        rw [hq] at IO
        clear hq pc pf PS
        go_wp2_with fail
        refine IO.out.mono ?_
        rintro e w' ⟨rfl, rfl⟩
        go_wp2_with fail
        refine bodyPost_ret (v := .tuple #[.agg #[.int .i64 0, .int .i64 0, .int .i64 0, .int .i64 0, .int .i64 0, .int .i64 0, .int .i64 0, .int .i64 0], .bool false]) (by simp [results, Try.results73, go_sem, b0, b1, b2, b3, b4, b5, b6, b7]) rfl ⟨by simp [shOr, NO.out, vals], ?_⟩
        repeat' first | with_reducible exact G.out | refine grown_set ?_ (by simp) _
      | true =>
        have IO := Lib.hid (implOk x wr)
        rw [hq] at IO
        have OK' : Hid (∀ j, j < k + 1 → Fld.ok (l.getD j 0) = true) := Lib.hid (fun j hj => by
          by_cases e : j = k
          · subst e; rw [XE.out]; exact hq
          · exact OK.out j (by omega))
        have Z1 := Lib.hid (Z.out.far (p := ⟨w.heap.size + 1, k, none⟩) (by simp) (.int .i64 x))
        have P1 := Lib.hid (P.out.put k x)
        rw [PS.out] at P1
        have G1 := Lib.hid (grown_set G.out (p := ⟨w.heap.size + 1, k, none⟩) (by simp) (.int .i64 x))
        clear hq b0 b1 b2 b3 b4 b5 b6 b7 f0 f1 f2 f3 f4 f5 f6 f7
        go_wp2_with fail
        refine IO.out.mono ?_
        rintro e w' ⟨rfl, rfl⟩
        go_wp2_with fail
        clear pc pf hx
        go_roundw
        case rel => exact ⟨k + 1, by omega, by go_num, OK'.out, G1.out, Z1.out, P1.out⟩
        case measure => simp [intOf]; omega
    · obtain rfl : k = 8 := by omega
      have YES : Hid (shOk l = true) := Lib.hid (shOk_get L8.out OK.out)
      have PA : Arr wr (w.heap.size + 1) 99 l := by have := P.out; rwa [← L8.out, part_all] at this
      obtain ⟨x0, x1, x2, x3, x4, x5, x6, x7, rfl⟩ := list_eight L8.out
      have a0 : wr.cell? ⟨w.heap.size + 1, 0, none⟩ = some (.int .i64 x0) := PA.cell (by simp)
      have a1 : wr.cell? ⟨w.heap.size + 1, 1, none⟩ = some (.int .i64 x1) := PA.cell (by simp)
      have a2 : wr.cell? ⟨w.heap.size + 1, 2, none⟩ = some (.int .i64 x2) := PA.cell (by simp)
      have a3 : wr.cell? ⟨w.heap.size + 1, 3, none⟩ = some (.int .i64 x3) := PA.cell (by simp)
      have a4 : wr.cell? ⟨w.heap.size + 1, 4, none⟩ = some (.int .i64 x4) := PA.cell (by simp)
      have a5 : wr.cell? ⟨w.heap.size + 1, 5, none⟩ = some (.int .i64 x5) := PA.cell (by simp)
      have a6 : wr.cell? ⟨w.heap.size + 1, 6, none⟩ = some (.int .i64 x6) := PA.cell (by simp)
      have a7 : wr.cell? ⟨w.heap.size + 1, 7, none⟩ = some (.int .i64 x7) := PA.cell (by simp)
      clear PA
      go_wp2_with fail
      refine bodyPost_ret (v := .tuple #[.agg #[.int .i64 x0, .int .i64 x1, .int .i64 x2, .int .i64 x3, .int .i64 x4, .int .i64 x5, .int .i64 x6, .int .i64 x7], .bool true]) (by simp [results, Try.results73, go_sem, b0, b1, b2, b3, b4, b5, b6, b7]) rfl ⟨by simp [shOr, YES.out, vals], ?_⟩
      repeat' first | with_reducible exact G.out | refine grown_set ?_ (by simp) _
theorem implShards (v : Value) (l : List Int) (w : World) (h : Sl w v l) :
    Calls Try.prog 73 #[v] w fun e w' => e = .returned (.tuple #[.agg (vals (shOr l)).toArray, .bool (shOk l)]) ∧ w.grownBy w' none := by
  by_cases hl : l.length = 8
  · exact shardsLong v l w h hl
  · have e : shOk l = false := by simp [shOk, hl]
    have e2 : shOr l = [0, 0, 0, 0, 0, 0, 0, 0] := by simp [shOr, e]
    rw [e2, e]; exact shardsShort v l w h hl
end Go.Proofs.Ytbpkfcaokbidnab
