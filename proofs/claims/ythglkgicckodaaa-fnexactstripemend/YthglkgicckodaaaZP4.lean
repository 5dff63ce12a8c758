/-
  What this claim wants of the texts of earlier chapters.
  Conditions: none.
-/
import Derived.Test.YthglkgicckodaaaZP3
import Derived.Test.YthglkgicckodaaaZSpanSame
namespace Go.Proofs.Ythglkgicckodaaa
open Go.RowKit
set_option linter.unusedVariables false
def pBef (l : List Int) : Nat → Int
  | 0 => -1
  | i + 1 => l.getD i 0
def pAt (n : Int) (l m : List Int) (i : Nat) : Bool :=
  decide ((0 ≤ l.getD i 0 ∧ l.getD i 0 < 8) ∧ pBef l i < l.getD i 0 ∧ l.getD i 0 ≠ n ∧ Fld.ok (m.getD i 0) = true ∧ m.getD i 0 ≠ 0)
def pHead (n : Int) (l m : List Int) : Bool := decide ((0 ≤ n ∧ n < 8) ∧ l.length ≠ 0 ∧ l.length ≤ 4 ∧ m.length = l.length)
def pForm (n : Int) (l m : List Int) : Bool := pHead n l m && (List.range l.length).all (pAt n l m)
def zero8 : List Int := [0, 0, 0, 0, 0, 0, 0, 0]
def spr (l m : List Int) : Nat → List Int
  | 0 => zero8
  | i + 1 => (spr l m i).set (l.getD i 0).toNat (m.getD i 0)
def sprOr (n : Int) (l m : List Int) : List Int := bif pForm n l m then spr l m l.length else zero8
theorem spr_len (l m : List Int) : ∀ i, (spr l m i).length = 8
  | 0 => rfl
  | i + 1 => by simp [spr, spr_len l m i]
theorem sprOr_len (n : Int) (l m : List Int) : (sprOr n l m).length = 8 := by
  unfold sprOr
  cases pForm n l m
  · rfl
  · exact spr_len l m _
theorem pForm_head {n : Int} {l m : List Int} (h : pHead n l m = false) : pForm n l m = false := by simp [pForm, h]
theorem pForm_not {n : Int} {l m : List Int} {i : Nat} (hi : i < l.length) (h : pAt n l m i = false) : pForm n l m = false := by
  cases e : pForm n l m with
  | false => rfl
  | true =>
    unfold pForm at e
    rw [Bool.and_eq_true, List.all_eq_true] at e
    have := e.2 i (List.mem_range.2 hi)
    rw [h] at this; cases this
theorem pForm_all {n : Int} {l m : List Int} (h0 : pHead n l m = true) (h : ∀ i, i < l.length → pAt n l m i = true) : pForm n l m = true := by
  unfold pForm
  rw [h0, Bool.true_and, List.all_eq_true]
  exact fun i hi => h i (List.mem_range.1 hi)
theorem pForm_out {n : Int} {l m : List Int} (h : pForm n l m = true) : pHead n l m = true ∧ ∀ i, i < l.length → pAt n l m i = true := by
  unfold pForm at h
  rw [Bool.and_eq_true, List.all_eq_true] at h
  exact ⟨h.1, fun i hi => h.2 i (List.mem_range.2 hi)⟩
theorem blk3 {w : World} {n : Int} {a1 a2 : Option Addr} {nl c1 ml c2 : Nat} : Blk (((w.alloc (.cells #[.int .i64 n, .slice a1 nl c1, .slice a2 ml c2] 110)).alloc (.cells #[.int .i64 0, .int .i64 0, .int .i64 0, .int .i64 0, .int .i64 0, .int .i64 0, .int .i64 0, .int .i64 0] 88)).alloc (.cells #[.int .i64 0, .int .i64 0, .int .i64 0, .int .i64 0, .int .i64 0, .int .i64 0, .int .i64 0, .int .i64 0] 88)) w.heap.size 110 [.int .i64 n, .slice a1 nl c1, .slice a2 ml c2] := by
  have h : Blk (w.alloc (.cells #[.int .i64 n, .slice a1 nl c1, .slice a2 ml c2] 110)) w.heap.size 110 [.int .i64 n, .slice a1 nl c1, .slice a2 ml c2] := heap_alloc_new w _
  exact (h.kept (World.grownBy_alloc _ _ none) (by simp)).kept (World.grownBy_alloc _ _ none) (by simp)
set_option maxHeartbeats 4000000 in
set_option maxRecDepth 20000 in
theorem timesHead (n : Int) (u v : Value) (l m : List Int) (w : World) (hu : Sl w u l) (hv : Sl w v m) (hh : pHead n l m = false) :
    Calls Try.prog 105 #[.agg #[.int .i64 n, u, v]] w fun e w' => e = .returned (.tuple #[.agg (vals zero8).toArray, .bool false]) ∧ w.grownBy w' none := by
  obtain ⟨a1, c1, rfl, _, _, _⟩ := hu
  obtain ⟨a2, c2, rfl, _, _, _⟩ := hv
  have HH : ¬ ((0 ≤ n ∧ n < 8) ∧ l.length ≠ 0 ∧ l.length ≤ 4 ∧ m.length = l.length) := by simpa [pHead] using hh
  clear hh
  generalize l.length = nl at *
  generalize m.length = ml at *
  have K0 : Hid (Blk (((w.alloc (.cells #[.int .i64 n, .slice a1 nl c1, .slice a2 ml c2] 110)).alloc (.cells #[.int .i64 0, .int .i64 0, .int .i64 0, .int .i64 0, .int .i64 0, .int .i64 0, .int .i64 0, .int .i64 0] 88)).alloc (.cells #[.int .i64 0, .int .i64 0, .int .i64 0, .int .i64 0, .int .i64 0, .int .i64 0, .int .i64 0, .int .i64 0] 88)) w.heap.size 110 [.int .i64 n, .slice a1 nl c1, .slice a2 ml c2]) := Lib.hid blk3
  have Z0 : Hid (Arr (((w.alloc (.cells #[.int .i64 n, .slice a1 nl c1, .slice a2 ml c2] 110)).alloc (.cells #[.int .i64 0, .int .i64 0, .int .i64 0, .int .i64 0, .int .i64 0, .int .i64 0, .int .i64 0, .int .i64 0] 88)).alloc (.cells #[.int .i64 0, .int .i64 0, .int .i64 0, .int .i64 0, .int .i64 0, .int .i64 0, .int .i64 0, .int .i64 0] 88)) (w.heap.size + 1) 88 zero8) := Lib.hid (by
    have := (Arr.new (w.alloc (.cells #[.int .i64 n, .slice a1 nl c1, .slice a2 ml c2] 110)) 88 zero8).alloc (.cells #[.int .i64 0, .int .i64 0, .int .i64 0, .int .i64 0, .int .i64 0, .int .i64 0, .int .i64 0, .int .i64 0] 88)
    rw [World.size_alloc] at this
    exact this)
  have P0 : Hid (Arr (((w.alloc (.cells #[.int .i64 n, .slice a1 nl c1, .slice a2 ml c2] 110)).alloc (.cells #[.int .i64 0, .int .i64 0, .int .i64 0, .int .i64 0, .int .i64 0, .int .i64 0, .int .i64 0, .int .i64 0] 88)).alloc (.cells #[.int .i64 0, .int .i64 0, .int .i64 0, .int .i64 0, .int .i64 0, .int .i64 0, .int .i64 0, .int .i64 0] 88)) (w.heap.size + 2) 88 zero8) := Lib.hid (by
    have := Arr.new ((w.alloc (.cells #[.int .i64 n, .slice a1 nl c1, .slice a2 ml c2] 110)).alloc (.cells #[.int .i64 0, .int .i64 0, .int .i64 0, .int .i64 0, .int .i64 0, .int .i64 0, .int .i64 0, .int .i64 0] 88)) 88 zero8
    rw [World.size_alloc, World.size_alloc] at this
    exact this)
  have G0 : Hid (w.grownBy (((w.alloc (.cells #[.int .i64 n, .slice a1 nl c1, .slice a2 ml c2] 110)).alloc (.cells #[.int .i64 0, .int .i64 0, .int .i64 0, .int .i64 0, .int .i64 0, .int .i64 0, .int .i64 0, .int .i64 0] 88)).alloc (.cells #[.int .i64 0, .int .i64 0, .int .i64 0, .int .i64 0, .int .i64 0, .int .i64 0, .int .i64 0, .int .i64 0] 88)) none) := Lib.hid (grown_alloc (grown_alloc (grown_alloc (World.grownBy.refl _ _) _) _) _)
  go_enter Try.func105, Try.ntmps105
  go_upto_region 2 with fail
  generalize (((w.alloc (.cells #[.int .i64 n, .slice a1 nl c1, .slice a2 ml c2] 110)).alloc (.cells #[.int .i64 0, .int .i64 0, .int .i64 0, .int .i64 0, .int .i64 0, .int .i64 0, .int .i64 0, .int .i64 0] 88)).alloc (.cells #[.int .i64 0, .int .i64 0, .int .i64 0, .int .i64 0, .int .i64 0, .int .i64 0, .int .i64 0, .int .i64 0] 88)) = W0 at *
  have k0 := K0.out.cell (i := 0) rfl
  have k1 := K0.out.cell (i := 1) rfl
  have k2 := K0.out.cell (i := 2) rfl
  have b0 : W0.cell? ⟨w.heap.size + 1, 0, none⟩ = some (.int .i64 0) := Z0.out.cell (by simp [zero8])
  have f0 := Z0.out.frozen 0
  have a0' : W0.cell? ⟨w.heap.size + 2, 0, none⟩ = some (.int .i64 0) := P0.out.cell (by simp [zero8])
  have b1 : W0.cell? ⟨w.heap.size + 1, 1, none⟩ = some (.int .i64 0) := Z0.out.cell (by simp [zero8])
  have f1 := Z0.out.frozen 1
  have a1' : W0.cell? ⟨w.heap.size + 2, 1, none⟩ = some (.int .i64 0) := P0.out.cell (by simp [zero8])
  have b2 : W0.cell? ⟨w.heap.size + 1, 2, none⟩ = some (.int .i64 0) := Z0.out.cell (by simp [zero8])
  have f2 := Z0.out.frozen 2
  have a2' : W0.cell? ⟨w.heap.size + 2, 2, none⟩ = some (.int .i64 0) := P0.out.cell (by simp [zero8])
  have b3 : W0.cell? ⟨w.heap.size + 1, 3, none⟩ = some (.int .i64 0) := Z0.out.cell (by simp [zero8])
  have f3 := Z0.out.frozen 3
  have a3' : W0.cell? ⟨w.heap.size + 2, 3, none⟩ = some (.int .i64 0) := P0.out.cell (by simp [zero8])
  have b4 : W0.cell? ⟨w.heap.size + 1, 4, none⟩ = some (.int .i64 0) := Z0.out.cell (by simp [zero8])
  have f4 := Z0.out.frozen 4
  have a4' : W0.cell? ⟨w.heap.size + 2, 4, none⟩ = some (.int .i64 0) := P0.out.cell (by simp [zero8])
  have b5 : W0.cell? ⟨w.heap.size + 1, 5, none⟩ = some (.int .i64 0) := Z0.out.cell (by simp [zero8])
  have f5 := Z0.out.frozen 5
  have a5' : W0.cell? ⟨w.heap.size + 2, 5, none⟩ = some (.int .i64 0) := P0.out.cell (by simp [zero8])
  have b6 : W0.cell? ⟨w.heap.size + 1, 6, none⟩ = some (.int .i64 0) := Z0.out.cell (by simp [zero8])
  have f6 := Z0.out.frozen 6
  have a6' : W0.cell? ⟨w.heap.size + 2, 6, none⟩ = some (.int .i64 0) := P0.out.cell (by simp [zero8])
  have b7 : W0.cell? ⟨w.heap.size + 1, 7, none⟩ = some (.int .i64 0) := Z0.out.cell (by simp [zero8])
  have f7 := Z0.out.frozen 7
  have a7' : W0.cell? ⟨w.heap.size + 2, 7, none⟩ = some (.int .i64 0) := P0.out.cell (by simp [zero8])
  clear K0 Z0 P0
  by_cases hn : 0 ≤ n ∧ n < 8
  · by_cases h0 : nl = 0
    · subst h0
      clear HH
      go_wp2_with fail
      refine (shardIn n hn.1 hn.2 _).mono ?_
      rintro e w' ⟨rfl, rfl⟩
      go_wp2_with fail
      refine bodyPost_ret (v := .tuple #[.agg #[.int .i64 0, .int .i64 0, .int .i64 0, .int .i64 0, .int .i64 0, .int .i64 0, .int .i64 0, .int .i64 0], .bool false]) (by simp [results, Try.results105, go_sem, b0, b1, b2, b3, b4, b5, b6, b7]) rfl ⟨rfl, ?_⟩
      repeat' first | with_reducible exact G0.out | refine grown_set ?_ (by simp) _
    · have e0 : ((nl : Int) == 0) = false := by rw [beq_eq_false_iff_ne]; omega
      by_cases h4 : nl ≤ 4
      · have g4 : ¬ (nl : Int) > 4 := by omega
        have hd : ((ml : Int) != (nl : Int)) = true := by rw [bne_iff_ne]; intro h; exact HH ⟨hn, h0, h4, by omega⟩
        clear HH h0 h4
        go_wp2_with fail
        refine (shardIn n hn.1 hn.2 _).mono ?_
        rintro e w' ⟨rfl, rfl⟩
        go_wp2_with fail
        refine bodyPost_ret (v := .tuple #[.agg #[.int .i64 0, .int .i64 0, .int .i64 0, .int .i64 0, .int .i64 0, .int .i64 0, .int .i64 0, .int .i64 0], .bool false]) (by simp [results, Try.results105, go_sem, b0, b1, b2, b3, b4, b5, b6, b7]) rfl ⟨rfl, ?_⟩
        repeat' first | with_reducible exact G0.out | refine grown_set ?_ (by simp) _
      · have g4 : (nl : Int) > 4 := by omega
        clear HH h0 h4
        go_wp2_with fail
        refine (shardIn n hn.1 hn.2 _).mono ?_
        rintro e w' ⟨rfl, rfl⟩
        go_wp2_with fail
        refine bodyPost_ret (v := .tuple #[.agg #[.int .i64 0, .int .i64 0, .int .i64 0, .int .i64 0, .int .i64 0, .int .i64 0, .int .i64 0, .int .i64 0], .bool false]) (by simp [results, Try.results105, go_sem, b0, b1, b2, b3, b4, b5, b6, b7]) rfl ⟨rfl, ?_⟩
        repeat' first | with_reducible exact G0.out | refine grown_set ?_ (by simp) _
  · clear HH
    go_wp2_with fail
    refine (shardOut n (by omega) _).mono ?_
    rintro e w' ⟨rfl, rfl⟩
    go_wp2_with fail
    refine bodyPost_ret (v := .tuple #[.agg #[.int .i64 0, .int .i64 0, .int .i64 0, .int .i64 0, .int .i64 0, .int .i64 0, .int .i64 0, .int .i64 0], .bool false]) (by simp [results, Try.results105, go_sem, b0, b1, b2, b3, b4, b5, b6, b7]) rfl ⟨rfl, ?_⟩
    repeat' first | with_reducible exact G0.out | refine grown_set ?_ (by simp) _
set_option maxHeartbeats 8000000 in
set_option maxRecDepth 20000 in
theorem timesLoop (n : Int) (u v : Value) (l m : List Int) (w : World) (hu : Sl w u l) (hv : Sl w v m) (hh : pHead n l m = true) :
    Calls Try.prog 105 #[.agg #[.int .i64 n, u, v]] w fun e w' => e = .returned (.tuple #[.agg (vals (sprOr n l m)).toArray, .bool (pForm n l m)]) ∧ w.grownBy w' none := by
  obtain ⟨a1, c1, rfl, q1, q2, hr1⟩ := hu
  obtain ⟨a2, c2, rfl, q3, q4, hr2⟩ := hv
  have HD := Lib.hid hh
  obtain ⟨hn, h0, h4, he⟩ : (0 ≤ n ∧ n < 8) ∧ l.length ≠ 0 ∧ l.length ≤ 4 ∧ m.length = l.length := by simpa [pHead] using hh
  unfold maxLen at q2 q4
  have R1 := Lib.hid hr1
  have R2 := Lib.hid hr2
  have ME := Lib.hid he
  rw [he]
  rw [he] at q3
  clear hh hr1 hr2 he
  obtain ⟨nl, hnl⟩ : ∃ k, k = l.length := ⟨_, rfl⟩
  have NL := Lib.hid hnl
  rw [← hnl] at h0 h4 q1 q3 ⊢
  clear hnl
  have K0 : Hid (Blk (((w.alloc (.cells #[.int .i64 n, .slice a1 nl c1, .slice a2 nl c2] 110)).alloc (.cells #[.int .i64 0, .int .i64 0, .int .i64 0, .int .i64 0, .int .i64 0, .int .i64 0, .int .i64 0, .int .i64 0] 88)).alloc (.cells #[.int .i64 0, .int .i64 0, .int .i64 0, .int .i64 0, .int .i64 0, .int .i64 0, .int .i64 0, .int .i64 0] 88)) w.heap.size 110 [.int .i64 n, .slice a1 nl c1, .slice a2 nl c2]) := Lib.hid blk3
  have Z0 : Hid (Arr (((w.alloc (.cells #[.int .i64 n, .slice a1 nl c1, .slice a2 nl c2] 110)).alloc (.cells #[.int .i64 0, .int .i64 0, .int .i64 0, .int .i64 0, .int .i64 0, .int .i64 0, .int .i64 0, .int .i64 0] 88)).alloc (.cells #[.int .i64 0, .int .i64 0, .int .i64 0, .int .i64 0, .int .i64 0, .int .i64 0, .int .i64 0, .int .i64 0] 88)) (w.heap.size + 1) 88 zero8) := Lib.hid (by
    have := (Arr.new (w.alloc (.cells #[.int .i64 n, .slice a1 nl c1, .slice a2 nl c2] 110)) 88 zero8).alloc (.cells #[.int .i64 0, .int .i64 0, .int .i64 0, .int .i64 0, .int .i64 0, .int .i64 0, .int .i64 0, .int .i64 0] 88)
    rw [World.size_alloc] at this
    exact this)
  have P0 : Hid (Arr (((w.alloc (.cells #[.int .i64 n, .slice a1 nl c1, .slice a2 nl c2] 110)).alloc (.cells #[.int .i64 0, .int .i64 0, .int .i64 0, .int .i64 0, .int .i64 0, .int .i64 0, .int .i64 0, .int .i64 0] 88)).alloc (.cells #[.int .i64 0, .int .i64 0, .int .i64 0, .int .i64 0, .int .i64 0, .int .i64 0, .int .i64 0, .int .i64 0] 88)) (w.heap.size + 2) 88 zero8) := Lib.hid (by
    have := Arr.new ((w.alloc (.cells #[.int .i64 n, .slice a1 nl c1, .slice a2 nl c2] 110)).alloc (.cells #[.int .i64 0, .int .i64 0, .int .i64 0, .int .i64 0, .int .i64 0, .int .i64 0, .int .i64 0, .int .i64 0] 88)) 88 zero8
    rw [World.size_alloc, World.size_alloc] at this
    exact this)
  have G0 : Hid (w.grownBy (((w.alloc (.cells #[.int .i64 n, .slice a1 nl c1, .slice a2 nl c2] 110)).alloc (.cells #[.int .i64 0, .int .i64 0, .int .i64 0, .int .i64 0, .int .i64 0, .int .i64 0, .int .i64 0, .int .i64 0] 88)).alloc (.cells #[.int .i64 0, .int .i64 0, .int .i64 0, .int .i64 0, .int .i64 0, .int .i64 0, .int .i64 0, .int .i64 0] 88)) none) := Lib.hid (grown_alloc (grown_alloc (grown_alloc (World.grownBy.refl _ _) _) _) _)
  have e0 : ((nl : Int) == 0) = false := by rw [beq_eq_false_iff_ne]; omega
  have g4 : ¬ (nl : Int) > 4 := by omega
  go_enter Try.func105, Try.ntmps105
  go_upto_region 2 with fail
  generalize (((w.alloc (.cells #[.int .i64 n, .slice a1 nl c1, .slice a2 nl c2] 110)).alloc (.cells #[.int .i64 0, .int .i64 0, .int .i64 0, .int .i64 0, .int .i64 0, .int .i64 0, .int .i64 0, .int .i64 0] 88)).alloc (.cells #[.int .i64 0, .int .i64 0, .int .i64 0, .int .i64 0, .int .i64 0, .int .i64 0, .int .i64 0, .int .i64 0] 88)) = W0 at *
  have k0 := K0.out.cell (i := 0) rfl
  have k1 := K0.out.cell (i := 1) rfl
  have k2 := K0.out.cell (i := 2) rfl
  go_wp2_with fail
  refine (shardIn n hn.1 hn.2 _).mono ?_
  rintro e w' ⟨rfl, rfl⟩
  go_wp2_with fail
  clear k0 k1 k2
  go_loopw [5, 37] (fun o i wr => ∃ k : Nat, k ≤ nl ∧ i = .int .i64 k ∧ o = .int .i64 (pBef l k) ∧ (∀ j, j < k → pAt n l m j = true) ∧ w.grownBy wr none ∧ Blk wr w.heap.size 110 [.int .i64 n, .slice a1 nl c1, .slice a2 nl c2] ∧ Arr wr (w.heap.size + 1) 88 zero8 ∧ Arr wr (w.heap.size + 2) 88 (spr l m k)) (fun _ i _ => nl - (intOf i).toNat)
  case atStart => exact ⟨0, by omega, rfl, rfl, fun j hj => by omega, G0.out, K0.out, Z0.out, P0.out⟩
  case round =>
    obtain ⟨k, hk, rfl, rfl, hok, hg, hb, hz, hp⟩ := hrel
    have OK := Lib.hid hok
    have G := Lib.hid hg
    have K := Lib.hid hb
    have Z := Lib.hid hz
    have P := Lib.hid hp
    clear hok hg hb hz hp Z0 P0 G0 K0
    have k0 := K.out.cell (i := 0) rfl
    have k1 := K.out.cell (i := 1) rfl
    have k2 := K.out.cell (i := 2) rfl
    have b0 : wr.cell? ⟨w.heap.size + 1, 0, none⟩ = some (.int .i64 0) := Z.out.cell (by simp [zero8])
    have f0 := Z.out.frozen 0
    have b1 : wr.cell? ⟨w.heap.size + 1, 1, none⟩ = some (.int .i64 0) := Z.out.cell (by simp [zero8])
    have f1 := Z.out.frozen 1
    have b2 : wr.cell? ⟨w.heap.size + 1, 2, none⟩ = some (.int .i64 0) := Z.out.cell (by simp [zero8])
    have f2 := Z.out.frozen 2
    have b3 : wr.cell? ⟨w.heap.size + 1, 3, none⟩ = some (.int .i64 0) := Z.out.cell (by simp [zero8])
    have f3 := Z.out.frozen 3
    have b4 : wr.cell? ⟨w.heap.size + 1, 4, none⟩ = some (.int .i64 0) := Z.out.cell (by simp [zero8])
    have f4 := Z.out.frozen 4
    have b5 : wr.cell? ⟨w.heap.size + 1, 5, none⟩ = some (.int .i64 0) := Z.out.cell (by simp [zero8])
    have f5 := Z.out.frozen 5
    have b6 : wr.cell? ⟨w.heap.size + 1, 6, none⟩ = some (.int .i64 0) := Z.out.cell (by simp [zero8])
    have f6 := Z.out.frozen 6
    have b7 : wr.cell? ⟨w.heap.size + 1, 7, none⟩ = some (.int .i64 0) := Z.out.cell (by simp [zero8])
    have f7 := Z.out.frozen 7
    by_cases hlt' : k < nl
    · have hlt : k < l.length := by rw [← NL.out]; exact hlt'
      have hi : (k : Int) < (nl : Int) := by omega
      obtain ⟨b1_, o1, rfl, hx⟩ := (R1.out.grown G.out).at_ (k := k) hlt
      obtain ⟨b2_, o2, rfl, hy⟩ := (R2.out.grown G.out).at_ (k := k) (by rw [ME.out]; exact hlt)
      obtain ⟨x, hxe⟩ : ∃ x, l.getD k 0 = x := ⟨_, rfl⟩
      obtain ⟨y, hye⟩ : ∃ x, m.getD k 0 = x := ⟨_, rfl⟩
      obtain ⟨bf, hbe⟩ : ∃ x, pBef l k = x := ⟨_, rfl⟩
      rw [hxe] at hx
      rw [hye] at hy
      rw [hbe]
      have XE := Lib.hid hxe
      have YE := Lib.hid hye
      have BE := Lib.hid hbe
      clear hxe hye hbe hlt'
      have AT := Lib.hid hlt
      by_cases hx8 : 0 ≤ x ∧ x < 8
      · by_cases hbx : bf < x
        · have hbx' : ¬ x ≤ bf := by omega
          by_cases hxn : x = n
          · have hxn' : (x == n) = true := by rw [beq_iff_eq]; exact hxn
            have NO : Hid (pForm n l m = false) := Lib.hid (pForm_not hlt (by unfold pAt; rw [XE.out, YE.out, BE.out]; exact decide_eq_false (fun h => h.2.2.1 hxn)))
            clear AT hxn
            go_wp2_with fail
            refine (shardIn x hx8.1 hx8.2 _).mono ?_
            rintro e w' ⟨rfl, rfl⟩
            go_wp2_with fail
            refine bodyPost_ret (v := .tuple #[.agg #[.int .i64 0, .int .i64 0, .int .i64 0, .int .i64 0, .int .i64 0, .int .i64 0, .int .i64 0, .int .i64 0], .bool false]) (by simp [results, Try.results105, go_sem, b0, b1, b2, b3, b4, b5, b6, b7]) rfl ⟨by simp [sprOr, NO.out, zero8, vals], ?_⟩
            repeat' first | with_reducible exact G.out | refine grown_set ?_ (by simp) _
          · have hxn' : (x == n) = false := by rw [beq_eq_false_iff_ne]; exact hxn
            cases hq : Fld.ok y with
            | false =>
              have IO := Lib.hid (implOk y wr)
              rw [hq] at IO
              have NO : Hid (pForm n l m = false) := Lib.hid (pForm_not hlt (by unfold pAt; rw [XE.out, YE.out, BE.out]; exact decide_eq_false (fun h => by have := h.2.2.2.1; rw [hq] at this; cases this)))
              clear AT hxn hq
              go_wp2_with fail
              refine (shardIn x hx8.1 hx8.2 _).mono ?_
              rintro e w' ⟨rfl, rfl⟩
              go_wp2_with fail
              refine IO.out.mono ?_
              rintro e w' ⟨rfl, rfl⟩
              go_wp2_with fail
              refine bodyPost_ret (v := .tuple #[.agg #[.int .i64 0, .int .i64 0, .int .i64 0, .int .i64 0, .int .i64 0, .int .i64 0, .int .i64 0, .int .i64 0], .bool false]) (by simp [results, Try.results105, go_sem, b0, b1, b2, b3, b4, b5, b6, b7]) rfl ⟨by simp [sprOr, NO.out, zero8, vals], ?_⟩
              repeat' first | with_reducible exact G.out | refine grown_set ?_ (by simp) _
            | true =>
              have IO := Lib.hid (implOk y wr)
              rw [hq] at IO
              by_cases hy0 : y = 0
              · have hy0' : (y == 0) = true := by rw [beq_iff_eq]; exact hy0
                have NO : Hid (pForm n l m = false) := Lib.hid (pForm_not hlt (by unfold pAt; rw [XE.out, YE.out, BE.out]; exact decide_eq_false (fun h => h.2.2.2.2 hy0)))
                clear AT hxn hq hy0
                go_wp2_with fail
                refine (shardIn x hx8.1 hx8.2 _).mono ?_
                rintro e w' ⟨rfl, rfl⟩
                go_wp2_with fail
                refine IO.out.mono ?_
                rintro e w' ⟨rfl, rfl⟩
                go_wp2_with fail
                refine bodyPost_ret (v := .tuple #[.agg #[.int .i64 0, .int .i64 0, .int .i64 0, .int .i64 0, .int .i64 0, .int .i64 0, .int .i64 0, .int .i64 0], .bool false]) (by simp [results, Try.results105, go_sem, b0, b1, b2, b3, b4, b5, b6, b7]) rfl ⟨by simp [sprOr, NO.out, zero8, vals], ?_⟩
                repeat' first | with_reducible exact G.out | refine grown_set ?_ (by simp) _
              · have hy0' : (y == 0) = false := by rw [beq_eq_false_iff_ne]; exact hy0
                have OK' : Hid (∀ j, j < k + 1 → pAt n l m j = true) := Lib.hid (fun j hj => by
                  by_cases e : j = k
                  · subst e
                    unfold pAt
                    rw [XE.out, YE.out, BE.out]
                    exact decide_eq_true ⟨hx8, hbx, hxn, hq, hy0⟩
                  · exact OK.out j (by omega))
                obtain ⟨xn, hxn2⟩ : ∃ j : Nat, x = j := ⟨x.toNat, by omega⟩
                subst hxn2
                have hx8' : xn < 8 := by omega
                have pc : wr.cell? ⟨w.heap.size + 2, xn, none⟩ = some (.int .i64 ((spr l m k).getD xn 0)) := P.out.cell (by rw [spr_len]; exact hx8')
                have pf := P.out.frozen xn
                have PS : Hid (spr l m (k + 1) = (spr l m k).set xn y) := Lib.hid (by
                  show (spr l m k).set (l.getD k 0).toNat (m.getD k 0) = _
                  rw [XE.out, YE.out]
                  rfl)
                have BS : Hid (pBef l (k + 1) = xn) := Lib.hid XE.out
                have Z1 := Lib.hid (Z.out.far (p := ⟨w.heap.size + 2, xn, none⟩) (by simp) (.int .i64 y))
                have P1 := Lib.hid (P.out.put xn y)
                rw [← PS.out] at P1
                have G1 := Lib.hid (grown_set G.out (p := ⟨w.heap.size + 2, xn, none⟩) (by simp) (.int .i64 y))
                have K1 : Hid (Blk (wr.setCell ⟨w.heap.size + 2, xn, none⟩ (.int .i64 y)) w.heap.size 110 [.int .i64 n, .slice (some ⟨b1_, o1, none⟩) nl c1, .slice (some ⟨b2_, o2, none⟩) nl c2]) := Lib.hid ((Below.heap_setCell _ _ _ _ (by simp)).trans K.out)
                generalize (spr l m k).getD xn 0 = old at *
                clear AT hxn hq hy0 PS b0 b1 b2 b3 b4 b5 b6 b7 f0 f1 f2 f3 f4 f5 f6 f7
                go_wp2_with fail
                refine (shardIn xn hx8.1 hx8.2 _).mono ?_
                rintro e w' ⟨rfl, rfl⟩
                go_wp2_with fail
                refine IO.out.mono ?_
                rintro e w' ⟨rfl, rfl⟩
                go_wp2_with fail
                clear hx hy pc pf k0 k1 k2
                go_roundw
                case rel => exact ⟨k + 1, by omega, by go_num, by rw [BS.out], OK'.out, G1.out, K1.out, Z1.out, P1.out⟩
                case measure => simp [intOf]; omega
        · have hbx' : x ≤ bf := by omega
          have NO : Hid (pForm n l m = false) := Lib.hid (pForm_not hlt (by unfold pAt; rw [XE.out, YE.out, BE.out]; exact decide_eq_false (fun h => hbx h.2.1)))
          clear AT hbx
          go_wp2_with fail
          refine (shardIn x hx8.1 hx8.2 _).mono ?_
          rintro e w' ⟨rfl, rfl⟩
          go_wp2_with fail
          refine bodyPost_ret (v := .tuple #[.agg #[.int .i64 0, .int .i64 0, .int .i64 0, .int .i64 0, .int .i64 0, .int .i64 0, .int .i64 0, .int .i64 0], .bool false]) (by simp [results, Try.results105, go_sem, b0, b1, b2, b3, b4, b5, b6, b7]) rfl ⟨by simp [sprOr, NO.out, zero8, vals], ?_⟩
          repeat' first | with_reducible exact G.out | refine grown_set ?_ (by simp) _
      · have NO : Hid (pForm n l m = false) := Lib.hid (pForm_not hlt (by unfold pAt; rw [XE.out, YE.out, BE.out]; exact decide_eq_false (fun h => hx8 h.1)))
        clear AT
        go_wp2_with fail
        refine (shardOut x (by omega) _).mono ?_
        rintro e w' ⟨rfl, rfl⟩
        go_wp2_with fail
        refine bodyPost_ret (v := .tuple #[.agg #[.int .i64 0, .int .i64 0, .int .i64 0, .int .i64 0, .int .i64 0, .int .i64 0, .int .i64 0, .int .i64 0], .bool false]) (by simp [results, Try.results105, go_sem, b0, b1, b2, b3, b4, b5, b6, b7]) rfl ⟨by simp [sprOr, NO.out, zero8, vals], ?_⟩
        repeat' first | with_reducible exact G.out | refine grown_set ?_ (by simp) _
    · obtain rfl : k = nl := by omega
      have YES : Hid (pForm n l m = true) := Lib.hid (pForm_all HD.out (by rw [← NL.out]; exact OK.out))
      have hi : ¬ (k : Int) < (k : Int) := by omega
      have SO : Hid (sprOr n l m = spr l m k) := Lib.hid (by unfold sprOr; rw [YES.out, NL.out]; rfl)
      obtain ⟨s, hs⟩ : ∃ s, spr l m k = s := ⟨_, rfl⟩
      have PL : s.length = 8 := by rw [← hs]; exact spr_len l m k
      rw [hs] at P SO
      clear hs
      obtain ⟨x0, x1, x2, x3, x4, x5, x6, x7, rfl⟩ := list_eight PL
      clear PL k0 k1 k2
      have c0' : wr.cell? ⟨w.heap.size + 2, 0, none⟩ = some (.int .i64 x0) := P.out.cell (by simp)
      have c1' : wr.cell? ⟨w.heap.size + 2, 1, none⟩ = some (.int .i64 x1) := P.out.cell (by simp)
      have c2' : wr.cell? ⟨w.heap.size + 2, 2, none⟩ = some (.int .i64 x2) := P.out.cell (by simp)
      have c3' : wr.cell? ⟨w.heap.size + 2, 3, none⟩ = some (.int .i64 x3) := P.out.cell (by simp)
      have c4' : wr.cell? ⟨w.heap.size + 2, 4, none⟩ = some (.int .i64 x4) := P.out.cell (by simp)
      have c5' : wr.cell? ⟨w.heap.size + 2, 5, none⟩ = some (.int .i64 x5) := P.out.cell (by simp)
      have c6' : wr.cell? ⟨w.heap.size + 2, 6, none⟩ = some (.int .i64 x6) := P.out.cell (by simp)
      have c7' : wr.cell? ⟨w.heap.size + 2, 7, none⟩ = some (.int .i64 x7) := P.out.cell (by simp)
      go_wp2_with fail
      refine bodyPost_ret (v := .tuple #[.agg #[.int .i64 x0, .int .i64 x1, .int .i64 x2, .int .i64 x3, .int .i64 x4, .int .i64 x5, .int .i64 x6, .int .i64 x7], .bool true]) (by simp [results, Try.results105, go_sem, b0, b1, b2, b3, b4, b5, b6, b7]) rfl ⟨by rw [YES.out, SO.out]; rfl, ?_⟩
      repeat' first | with_reducible exact G.out | refine grown_set ?_ (by simp) _
theorem implTimes (n : Int) (u v : Value) (l m : List Int) (w : World) (hu : Sl w u l) (hv : Sl w v m) :
    Calls Try.prog 105 #[.agg #[.int .i64 n, u, v]] w fun e w' => e = .returned (.tuple #[.agg (vals (sprOr n l m)).toArray, .bool (pForm n l m)]) ∧ w.grownBy w' none := by
  cases h : pHead n l m with
  | true => exact timesLoop n u v l m w hu hv h
  | false =>
    have e := pForm_head h
    have e2 : sprOr n l m = zero8 := by simp [sprOr, e]
    rw [e2, e]
    exact timesHead n u v l m w hu hv h
end Go.Proofs.Ythglkgicckodaaa

namespace Go.Proofs.Ythglkgicckodaaa
open Go.RowKit
set_option linter.unusedVariables false
end Go.Proofs.Ythglkgicckodaaa

namespace Go.Proofs.Ythglkgicckodaaa
open Go.RowKit
set_option linter.unusedVariables false
def dsum (a l m : List Int) : Nat → Int
  | 0 => 0
  | i + 1 => (dsum a l m i + m.getD i 0 * a.getD (l.getD i 0).toNat 0) % 31
theorem dsum_ok (a l m : List Int) (i : Nat) : Fld.ok (dsum a l m i) = true := by
  cases i with
  | zero => rfl
  | succ n => exact Vec.mod_is _
theorem getD_set_neP {l : List Int} {p q : Nat} (h : p ≠ q) (y : Int) : (l.set p y).getD q 0 = l.getD q 0 := by
  simp [List.getD_eq_getElem?_getD, h]
theorem getD_set_eq {l : List Int} {p : Nat} (h : p < l.length) (y : Int) : (l.set p y).getD p 0 = y := by
  simp [List.getD_eq_getElem?_getD, h]
theorem csum_past (a t : List Int) {p : Nat} (y : Int) : ∀ n, n ≤ p → Sp.csum a (t.set p y) n = Sp.csum a t n
  | 0, _ => rfl
  | n + 1, h => by
    show (Sp.csum a (t.set p y) n + a.getD n 0 * (t.set p y).getD n 0 % 31) % 31 = (Sp.csum a t n + a.getD n 0 * t.getD n 0 % 31) % 31
    rw [csum_past a t y n (by omega), getD_set_neP (by omega)]
theorem csum_set (a t : List Int) {p : Nat} (hp : p < t.length) (h0 : t.getD p 0 = 0) (y : Int) : ∀ n, p < n → Sp.csum a (t.set p y) n = (Sp.csum a t n + y * a.getD p 0) % 31
  | 0, h => by omega
  | n + 1, h => by
    show (Sp.csum a (t.set p y) n + a.getD n 0 * (t.set p y).getD n 0 % 31) % 31 = ((Sp.csum a t n + a.getD n 0 * t.getD n 0 % 31) % 31 + y * a.getD p 0) % 31
    by_cases e : n = p
    · subst e
      rw [csum_past a t y n (Nat.le_refl _), getD_set_eq hp, h0, Int.mul_comm y]
      generalize a.getD n 0 * y = q
      simp only [Int.mul_zero]
      omega
    · rw [csum_set a t hp h0 y n (by omega), getD_set_neP (fun h => e h.symm)]
      generalize a.getD n 0 * t.getD n 0 = q
      generalize y * a.getD p 0 = r
      omega
theorem pAt_out {n : Int} {l m : List Int} {i : Nat} (h : pAt n l m i = true) : (0 ≤ l.getD i 0 ∧ l.getD i 0 < 8) ∧ pBef l i < l.getD i 0 ∧ l.getD i 0 ≠ n ∧ Fld.ok (m.getD i 0) = true ∧ m.getD i 0 ≠ 0 := of_decide_eq_true h
theorem pBef_up {n : Int} {l m : List Int} : ∀ i, (∀ j, j < i → pAt n l m j = true) → ∀ j, j < i → l.getD j 0 ≤ pBef l i
  | 0, _, j, hj => by omega
  | i + 1, h, j, hj => by
    show l.getD j 0 ≤ l.getD i 0
    by_cases e : j = i
    · subst e; exact Int.le_refl _
    · have h1 := pBef_up i (fun j hj => h j (by omega)) j (by omega)
      have h2 := (pAt_out (h i (by omega))).2.1
      omega
theorem spr_other (l m : List Int) (q : Nat) : ∀ i, (∀ j, j < i → (l.getD j 0).toNat ≠ q) → (spr l m i).getD q 0 = 0
  | 0, _ => by
    show ([0, 0, 0, 0, 0, 0, 0, 0] : List Int).getD q 0 = 0
    rcases (by omega : q = 0 ∨ q = 1 ∨ q = 2 ∨ q = 3 ∨ q = 4 ∨ q = 5 ∨ q = 6 ∨ q = 7 ∨ 8 ≤ q) with rfl | rfl | rfl | rfl | rfl | rfl | rfl | rfl | h
    all_goals first | rfl | (rw [List.getD_eq_getElem?_getD, List.getElem?_eq_none (by simp; omega)]; rfl)
  | i + 1, h => by
    show ((spr l m i).set (l.getD i 0).toNat (m.getD i 0)).getD q 0 = 0
    rw [getD_set_neP (h i (by omega))]
    exact spr_other l m q i fun j hj => h j (by omega)
theorem csum_spr {n : Int} {l m : List Int} (a : List Int) : ∀ i, (∀ j, j < i → pAt n l m j = true) → Sp.csum a (spr l m i) 8 = dsum a l m i
  | 0, _ => by
    show Sp.csum a zero8 8 = 0
    simp [Sp.csum, zero8]
  | i + 1, h => by
    have hi := pAt_out (h i (by omega))
    have hno : ∀ j, j < i → (l.getD j 0).toNat ≠ (l.getD i 0).toNat := fun j hj => by
      have h1 := pBef_up i (fun j hj => h j (by omega)) j hj
      have h2 := hi.2.1
      have h3 := (pAt_out (h j (by omega))).1
      omega
    show Sp.csum a ((spr l m i).set (l.getD i 0).toNat (m.getD i 0)) 8 = (dsum a l m i + m.getD i 0 * a.getD (l.getD i 0).toNat 0) % 31
    rw [csum_set a _ (by rw [spr_len]; omega) (spr_other l m _ i hno) _ 8 (by omega), csum_spr a i (fun j hj => h j (by omega))]
theorem spr_ok {n : Int} {l m : List Int} : ∀ i, (∀ j, j < i → pAt n l m j = true) → ∀ x ∈ spr l m i, Fld.ok x = true
  | 0, _ => by
    intro x hx
    have : x = 0 := by simpa [spr, zero8] using hx
    subst this; rfl
  | i + 1, h => by
    intro x hx
    rcases List.mem_or_eq_of_mem_set hx with hx | rfl
    · exact spr_ok i (fun j hj => h j (by omega)) x hx
    · exact (pAt_out (h i (by omega))).2.2.2.1
theorem sprOr_ok (n : Int) (l m : List Int) : ∀ x ∈ sprOr n l m, Fld.ok x = true := by
  unfold sprOr
  cases e : pForm n l m with
  | true => exact spr_ok _ (pForm_out e).2
  | false =>
    intro x hx
    have : x = 0 := by simpa [zero8] using hx
    subst this; rfl
def col (k j : Nat) : List Int := (List.range 8).map fun i => (Sp.crow k i).getD j 0
theorem col_get (k j : Nat) {i : Nat} (hi : i < 8) : (col k j).getD i 0 = (Sp.crow k i).getD j 0 := by
  simp [col, List.getD_eq_getElem?_getD, hi]
def planV (k : Nat) (l m : List Int) (i : Nat) : List Int := [dsum (col k 0) l m i, dsum (col k 1) l m i, dsum (col k 2) l m i, dsum (col k 3) l m i]
def okP (k n : Int) (l m : List Int) : Bool := decide (k = 1 ∨ k = 2) && (pForm n l m && decide (planV k.toNat l m l.length = Sp.crow k.toNat n.toNat))
def doP (n : Int) (l m a : List Int) : Bool := pForm n l m && shOk a
def doN (n : Int) (l m a : List Int) : Int := bif doP n l m a then dsum a l m l.length else 0
end Go.Proofs.Ythglkgicckodaaa

namespace Go.Proofs.Ythglkgicckodaaa
open Go.RowKit
set_option linter.unusedVariables false
theorem storeT (w : World) {l : List Int} (hl : l.length = 8) : (storeCells ⟨w.heap.size, 0, none⟩ (vals l) 0).run Try.prog (w.alloc (.cells #[.int .i64 0, .int .i64 0, .int .i64 0, .int .i64 0, .int .i64 0, .int .i64 0, .int .i64 0, .int .i64 0] 88)) = .ok () (w.alloc (.cells (vals l).toArray 88)) := by
  have h := run_storeCells_from (P := Try.prog) w.heap.size 88 (vals l) 0 _ (w.alloc (.cells #[.int .i64 0, .int .i64 0, .int .i64 0, .int .i64 0, .int .i64 0, .int .i64 0, .int .i64 0, .int .i64 0] 88)) (heap_alloc_last w _) (by rw [vals_length, hl]; rfl) (vals_one l)
  rw [h, World.setRow_alloc_new]
  rfl
structure HeldP (k bg bt bp n : Nat) (t : List Int) (W : World) : Prop where
  arr : Arr W bg 87 (grid k)
  tim : Arr W bt 88 t
  lost : W.cell? ⟨bp, 0, none⟩ = some (.int .i64 n)
theorem HeldP.row {k bg bt bp n : Nat} {t : List Int} {W : World} (h : HeldP k bg bt bp n t W) (GG : ∀ i, i < 4 → (grid k).getD (n * 4 + i) 0 = (Sp.crow k n).getD i 0) {x0 x1 x2 x3 : Int} (hc : Sp.crow k n = [x0, x1, x2, x3]) (GL : (grid k).length = 32) (hl : n < 8) :
    W.cell? ⟨bg, n * 4, none⟩ = some (.int .i64 x0) ∧ W.cell? ⟨bg, n * 4 + 1, none⟩ = some (.int .i64 x1) ∧ W.cell? ⟨bg, n * 4 + 2, none⟩ = some (.int .i64 x2) ∧ W.cell? ⟨bg, n * 4 + 3, none⟩ = some (.int .i64 x3) := by
  have key : ∀ i, i < 4 → W.cell? ⟨bg, n * 4 + i, none⟩ = some (.int .i64 ((Sp.crow k n).getD i 0)) := fun i hi => by rw [h.arr.cell (by omega), GG i hi]
  rw [hc] at key
  exact ⟨key 0 (by omega), key 1 (by omega), key 2 (by omega), key 3 (by omega)⟩
set_option maxHeartbeats 8000000 in
set_option maxRecDepth 20000 in
theorem implPlanDo (n : Int) (u v x : Value) (l m a : List Int) (w : World) (hu : Sl w u l) (hv : Sl w v m) (hx : Sl w x a) :
    Calls Try.prog 86 #[.agg #[.int .i64 n, u, v], x] w fun e w' => e = .returned (.tuple #[.int .i64 (doN n l m a), .bool (doP n l m a)]) ∧ w.grownBy w' none := by
  have U := Lib.hid hu
  have V := Lib.hid hv
  have X := Lib.hid hx
  clear hx
  obtain ⟨a1, c1, e1, _, _, _⟩ := hu
  obtain ⟨a2, c2, e2, _, _, _⟩ := hv
  subst e1 e2
  obtain ⟨nl, hnl⟩ : ∃ x, l.length = x := ⟨_, rfl⟩
  obtain ⟨ml, hml⟩ : ∃ x, m.length = x := ⟨_, rfl⟩
  rw [hnl] at U ⊢
  rw [hml] at V ⊢
  clear hnl hml
  have R0 : Hid (Blk (w.alloc (.cells #[.int .i64 n, .slice a1 nl c1, .slice a2 ml c2] 110)) w.heap.size 110 [.int .i64 n, .slice a1 nl c1, .slice a2 ml c2]) := Lib.hid (heap_alloc_new _ _)
  have G0 := Lib.hid (grown_alloc (World.grownBy.refl w none) (.cells #[.int .i64 n, .slice a1 nl c1, .slice a2 ml c2] 110))
  go_enter Try.func86, Try.ntmps86
  go_upto_region 1 with fail
  generalize w.alloc (.cells #[.int .i64 n, .slice a1 nl c1, .slice a2 ml c2] 110) = w0 at *
  generalize w.heap.size = bp at *
  have k0 := R0.out.cell (i := 0) rfl
  have k1 := R0.out.cell (i := 1) rfl
  have k2 := R0.out.cell (i := 2) rfl
  go_wp2_with fail
  refine (implTimes n _ _ l m _ (U.out.grown G0.out) (V.out.grown G0.out)).mono ?_
  rintro e w5 ⟨rfl, hg⟩
  have hT := sprOr_len n l m
  have OT := Lib.hid (sprOr_ok n l m)
  have DS : Hid (pForm n l m = true → Sp.csum a (sprOr n l m) 8 = dsum a l m l.length) := Lib.hid (fun h => by
    rw [show sprOr n l m = spr l m l.length by simp [sprOr, h]]
    exact csum_spr a _ (pForm_out h).2)
  have DN : Hid (doN n l m a = bif (pForm n l m && shOk a) then dsum a l m l.length else 0) := Lib.hid rfl
  have DP : Hid (doP n l m a = (pForm n l m && shOk a)) := Lib.hid rfl
  obtain ⟨t, ht⟩ : ∃ t, sprOr n l m = t := ⟨_, rfl⟩
  rw [ht] at hT OT DS ⊢
  clear ht
  have hs := storeT w5 hT
  have hvl : (vals t).length = 8 := by rw [vals_length]; exact hT
  have G6 := Lib.hid (grown_alloc (grown_trans G0.out hg) (.cells (vals t).toArray 88))
  have T6 := Lib.hid (Arr.new w5 88 t)
  have HT := Lib.hid hT
  obtain ⟨q, hq⟩ : ∃ q, pForm n l m = q := ⟨_, rfl⟩
  rw [hq] at DS DN DP ⊢
  clear hq hg R0 G0 hT U V k0 k1 k2
  go_upto_region 2 with fail
  clear hs hvl
  generalize w5.alloc (.cells (vals t).toArray 88) = w6 at *
  generalize w5.heap.size = gt at *
  go_wp2_with fail
  refine (implShards x a _ (X.out.grown G6.out)).mono ?_
  rintro e w7 ⟨rfl, hg⟩
  have hS := shOr_len a
  have RA : Hid (shOk a = true → shOr a = a ∧ ∀ y ∈ a, Fld.ok y = true) := Lib.hid (fun h => ⟨by simp [shOr, h], (shOk_row.1 h).2⟩)
  obtain ⟨b, hb⟩ : ∃ b, shOr a = b := ⟨_, rfl⟩
  rw [hb] at hS RA ⊢
  clear hb
  have hs := storeS w7 hS
  have hvl : (vals b).length = 8 := by rw [vals_length]; exact hS
  have G8 := Lib.hid (grown_alloc (grown_trans G6.out hg) (.cells (vals b).toArray 89))
  have T8 := Lib.hid ((T6.out.still hg).alloc (.cells (vals b).toArray 89))
  have S8 := Lib.hid (Arr.new w7 89 b)
  have HS := Lib.hid hS
  obtain ⟨p, hp⟩ : ∃ q, shOk a = q := ⟨_, rfl⟩
  rw [hp] at RA DN DP ⊢
  clear hp hg T6 G6 hS X
  go_upto_region 3 with fail
  clear hs hvl
  generalize w7.alloc (.cells (vals b).toArray 89) = w8 at *
  generalize w7.heap.size = gs at *
  cases q with
  | false =>
    clear T8 S8
    go_wp2_with fail
    exact bodyPost_ret (v := .tuple #[.int .i64 0, .bool false]) (by simp [results, Try.results86, go_sem]) rfl ⟨by rw [DN.out, DP.out]; rfl, G8.out⟩
  | true =>
    cases p with
    | false =>
      clear T8 S8
      go_wp2_with fail
      exact bodyPost_ret (v := .tuple #[.int .i64 0, .bool false]) (by simp [results, Try.results86, go_sem]) rfl ⟨by rw [DN.out, DP.out]; rfl, G8.out⟩
    | true =>
      obtain ⟨rfl, oa⟩ := RA.out rfl
      have OA := Lib.hid oa
      clear oa
      have zs : (Try.prog.info? 89).map (·.size) = some (vals b).toArray.size := by rw [show (vals b).toArray.size = 8 by simp [vals_length, HS.out]]; kernel_rfl
      have zt : (Try.prog.info? 88).map (·.size) = some (vals t).toArray.size := by rw [show (vals t).toArray.size = 8 by simp [vals_length, HT.out]]; kernel_rfl
      go_upto_region 5 with fail
      apply wp_region_lit
      refine wpList_load_row rfl _ _ rfl gs rfl _ _ _ _ S8.out Try.underlying89 rfl zs ?_
      refine wpList_load_row rfl _ _ rfl gt rfl _ _ _ _ T8.out Try.underlying88 rfl zt ?_
      clear zs zt
      go_wp2_with fail
      refine (combine b t HS.out HT.out OA.out OT.out _).mono ?_
      rintro e w9 ⟨rfl, hg⟩
      have G9 := Lib.hid (grown_trans G8.out hg)
      clear hg
      go_wp2_with fail
      exact bodyPost_ret (v := .tuple #[.int .i64 (Sp.csum b t 8), .bool true]) (by simp [results, Try.results86, go_sem]) rfl ⟨by rw [DN.out, DP.out, ← DS.out trivial]; rfl, G9.out⟩
end Go.Proofs.Ythglkgicckodaaa

namespace Go.Proofs.Ythglkgicckodaaa
open Go.RowKit
set_option linter.unusedVariables false
theorem Blk.drawsP {w : World} {g : Nat} {t : TypeId} {cs : List Value} (h : Blk w g t cs) (n : Nat) : Blk (w.drewN n) g t cs := h
end Go.Proofs.Ythglkgicckodaaa

namespace Go.Proofs.Ythglkgicckodaaa
open Go.RowKit
set_option linter.unusedVariables false
theorem small_prod {x y : Int} (hx : Fld.ok x = true) (hy : Fld.ok y = true) : 0 ≤ x * y ∧ x * y ≤ 900 := by
  have h1 := Fld.ok_iff.1 hx
  have h2 := Fld.ok_iff.1 hy
  refine ⟨Int.mul_nonneg h1.1 h2.1, ?_⟩
  have h3 : x * y ≤ 30 * y := Int.mul_le_mul_of_nonneg_right (by omega) h2.1
  omega
set_option maxHeartbeats 8000000 in
set_option maxRecDepth 20000 in
theorem specL11Do (n : Int) (u v x : Value) (l m a : List Int) (w : World) (hu : Sl w u l) (hv : Sl w v m) (hx : Sl w x a) (hf : pForm n l m = true) (ha : shOk a = true) :
    Calls Try.prog 78 #[.agg #[.int .i64 n, u, v], x] w fun e w' => e = .returned (.int .i64 (dsum a l m l.length)) ∧ w.grownBy w' none := by
  have PF := Lib.hid (pForm_out hf).2
  have RA := Lib.hid (shOk_row.1 ha)
  obtain ⟨_, _, h4, he⟩ : (0 ≤ n ∧ n < 8) ∧ l.length ≠ 0 ∧ l.length ≤ 4 ∧ m.length = l.length := of_decide_eq_true (pForm_out hf).1
  have ME := Lib.hid he
  obtain ⟨a3, c3, e3, q5, q6, hr3⟩ := hx
  have R3 := Lib.hid hr3
  rw [(shOk_row.1 ha).1] at e3 q5
  subst e3
  unfold maxLen at q6
  clear hr3 ha hf he
  have U := Lib.hid hu
  have V := Lib.hid hv
  obtain ⟨a1, c1, e1, q1, q2, hr1⟩ := hu
  obtain ⟨a2, c2, e2, q3, q4, hr2⟩ := hv
  have R1 := Lib.hid hr1
  have R2 := Lib.hid hr2
  subst e1 e2
  unfold maxLen at q2 q4
  obtain ⟨nl, hnl⟩ : ∃ x, x = l.length := ⟨_, rfl⟩
  obtain ⟨ml, hml⟩ : ∃ x, x = m.length := ⟨_, rfl⟩
  rw [← hnl] at U q1 ⊢
  rw [← hml] at V q3 ⊢
  have NL := Lib.hid hnl
  have ML := Lib.hid hml
  clear hnl hml hr1 hr2
  have K0 : Hid (Blk (w.alloc (.cells #[.int .i64 n, .slice a1 nl c1, .slice a2 ml c2] 110)) w.heap.size 110 [.int .i64 n, .slice a1 nl c1, .slice a2 ml c2]) := Lib.hid (heap_alloc_new _ _)
  have G0 := Lib.hid (grown_alloc (World.grownBy.refl w none) (.cells #[.int .i64 n, .slice a1 nl c1, .slice a2 ml c2] 110))
  go_enter Try.func78, Try.ntmps78
  go_upto_region 1 with fail
  generalize (w.alloc (.cells #[.int .i64 n, .slice a1 nl c1, .slice a2 ml c2] 110)) = w0 at *
  generalize w.heap.size = bp at *
  go_wp2_with fail
  go_loopw [5, 6] (fun o i wr => ∃ k : Nat, k ≤ nl ∧ i = .int .i64 k ∧ o = .int .i64 (dsum a l m k) ∧ w.grownBy wr none ∧ Blk wr bp 110 [.int .i64 n, .slice a1 nl c1, .slice a2 ml c2]) (fun _ i _ => nl - (intOf i).toNat)
  case atStart => exact ⟨0, by omega, rfl, rfl, G0.out, K0.out⟩
  case round =>
    obtain ⟨k, hk, rfl, rfl, hg, hb⟩ := hrel
    have G := Lib.hid hg
    have K := Lib.hid hb
    clear hg hb G0 K0
    have k0 := K.out.cell (i := 0) rfl
    have k1 := K.out.cell (i := 1) rfl
    have k2 := K.out.cell (i := 2) rfl
    by_cases hlt' : k < nl
    · have hlt : k < l.length := by rw [← NL.out]; exact hlt'
      have hi : (k : Int) < (nl : Int) := by omega
      have hi2 : (k : Int) < (ml : Int) := by have := ML.out; have := NL.out; have := ME.out; omega
      obtain ⟨b1, o1, rfl, hx⟩ := (R1.out.grown G.out).at_ (k := k) hlt
      obtain ⟨b2, o2, rfl, hy⟩ := (R2.out.grown G.out).at_ (k := k) (by rw [ME.out]; exact hlt)
      have PA := pAt_out (PF.out k hlt)
      obtain ⟨xn, hxn⟩ : ∃ j : Nat, l.getD k 0 = j := ⟨(l.getD k 0).toNat, by have := PA.1; omega⟩
      rw [hxn] at hx PA
      have hx8 : xn < 8 := by have := PA.1; omega
      have hxi : (xn : Int) < 8 := by omega
      obtain ⟨b3, o3, rfl, hz⟩ := (R3.out.grown G.out).at_ (k := xn) (by rw [RA.out.1]; exact hx8)
      have oz := getD_ok RA.out.2 xn
      have oy := PA.2.2.2.1
      have DS : Hid (dsum a l m (k + 1) = (dsum a l m k + m.getD k 0 * a.getD xn 0) % 31) := Lib.hid (by
        show (dsum a l m k + m.getD k 0 * a.getD (l.getD k 0).toNat 0) % 31 = _
        rw [hxn]; rfl)
      have od := dsum_ok a l m k
      generalize m.getD k 0 = y at *
      generalize a.getD xn 0 = z at *
      generalize dsum a l m k = s at *
      have hp := small_prod oy oz
      have hs := Fld.ok_iff.1 od
      have MQ : Hid ((s + y * z).tmod 31 = (s + y * z) % 31) := Lib.hid (Int.tmod_eq_emod_of_nonneg (by omega))
      clear PA hxn oz oy od hlt hlt'
      go_wp2_with fail
      go_quiet (fail)
      go_wp2_with fail
      go_roundw
      case rel => exact ⟨k + 1, by omega, by go_num, by rw [DS.out], grown_draws G.out _, K.out.drawsP _⟩
      case measure => simp [intOf]; omega
    · obtain rfl : k = nl := by omega
      have hi : ¬ (k : Int) < (k : Int) := by omega
      go_wp2_with fail
      go_ret
      exact ⟨rfl, G.out⟩
end Go.Proofs.Ythglkgicckodaaa

namespace Go.Proofs.Ythglkgicckodaaa
open Go.RowKit
set_option linter.unusedVariables false
theorem comb_wsum (j : Nat) : ∀ (A : List Sp.V) (c : Nat → Sp.F), Sp.comb c A j = Sp.wsum c (fun i => (A.getD i (fun _ => 0)) j) A.length
  | [], c => rfl
  | a :: A, c => by
    rw [Sp.comb_cons, comb_wsum j A]
    rfl
theorem dsum_is (a l m : List Int) : ∀ i, Sp.toF (dsum a l m i) = Sp.wsum (Sp.toV m) (fun t => Sp.toF (a.getD (l.getD t 0).toNat 0)) i
  | 0 => rfl
  | i + 1 => by
    rw [Sp.wsum_snoc, ← dsum_is a l m i]
    show Sp.toF ((dsum a l m i + m.getD i 0 * a.getD (l.getD i 0).toNat 0) % 31) = _
    have e : Sp.toF ((dsum a l m i + m.getD i 0 * a.getD (l.getD i 0).toNat 0) % 31) = Sp.toF ((dsum a l m i + m.getD i 0 * a.getD (l.getD i 0).toNat 0 % 31) % 31) := Sp.toF_eq (by omega)
    rw [e, Sp.toF_add, Sp.toF_mul]
    rfl
theorem ints_at {S : List Nat} {i : Nat} (h : i < S.length) : (Sp.ints S).getD i 0 = ((S.getD i 0 : Nat) : Int) := by
  simp [Sp.ints, List.getD_eq_getElem?_getD, h]
theorem getD_memN {S : List Nat} {i : Nat} (h : i < S.length) : S.getD i 0 ∈ S := by
  rw [List.getD_eq_getElem?_getD, List.getElem?_eq_getElem h]; exact List.getElem_mem h
theorem by_planV {k n : Nat} (hk : k = 1 ∨ k = 2) (hn : n < 8) {S : List Nat} (hS : ∀ i ∈ S, i < 8) {c : List Int} (h : Sp.PlanBy k n S c) : planV k (Sp.ints S) c S.length = Sp.crow k n := by
  have key : ∀ j, j < 4 → dsum (col k j) (Sp.ints S) c S.length = (Sp.crow k n).getD j 0 := by
    intro j hj
    refine Sp.toF_inj (dsum_ok _ _ _ _) ((Sp.crow_row hk hn).get j) ?_
    rw [dsum_is]
    have e := h.2 j
    rw [comb_wsum] at e
    show _ = Sp.toV (Sp.crow k n) j
    rw [e]
    simp only [Sp.prow, List.length_map]
    refine Sp.wsum_congr _ (fun _ _ => rfl) (fun i hi => ?_)
    rw [ints_at hi, Int.toNat_natCast, col_get k j (hS _ (getD_memN hi))]
    simp [List.getD_eq_getElem?_getD, hi, Sp.toV]
  obtain ⟨x, y, z, u, hc, _⟩ := crow_four hk hn
  unfold planV
  rw [key 0 (by omega), key 1 (by omega), key 2 (by omega), key 3 (by omega), hc]
  rfl
theorem up_form {n : Nat} (hn : n < 8) {f : List Bool} {S : List Nat} (hu : Sp.Up n f 0 S) (h1 : 1 ≤ S.length) (h4 : S.length ≤ 4) {c : List Int} (hr : Sp.Row S.length c) (hz : ∀ i, i < S.length → c.getD i 0 ≠ 0) : pForm n (Sp.ints S) c = true := by
  refine pForm_all (decide_eq_true ⟨by omega, by rw [ints_lenP]; omega, by rw [ints_lenP]; exact h4, by rw [ints_lenP]; exact hr.1⟩) (fun i hi => ?_)
  rw [ints_lenP] at hi
  have hm := getD_memN hi
  have h8 := hu.lt _ hm
  refine decide_eq_true ⟨by rw [ints_at hi]; omega, ?_, by rw [ints_at hi]; have := hu.other _ hm; omega, hr.get i, hz i hi⟩
  rw [ints_at hi]
  cases i with
  | zero => show (-1 : Int) < _; omega
  | succ i =>
    show (Sp.ints S).getD i 0 < _
    rw [ints_at (by omega)]
    have := List.pairwise_iff_getElem.1 hu.up i (i + 1) (by omega) hi (by omega)
    have e1 : S.getD i 0 = S[i] := by simp [List.getD_eq_getElem?_getD, show i < S.length by omega]
    have e2 : S.getD (i + 1) 0 = S[i + 1] := by simp [List.getD_eq_getElem?_getD, hi]
    rw [e1, e2]; omega
theorem plan_told {k n : Int} {f : List Bool} {d : Int} {l m : List Int} (h : PlanT k n f d l m true) : okP k d l m = true ∧ d = n ∧ l.length ≤ 4 ∧ f.length = 8 ∧ (k = 1 ∨ k = 2) ∧ (0 ≤ n ∧ n < 8) ∧ ∀ i, i < l.length → ∃ p : Nat, l.getD i 0 = p ∧ p < 8 ∧ f.getD p false = true ∧ (p : Int) ≠ n := by
  rcases h with ⟨_, k1, l1, S, rfl, hk, rfl, hl, hf, hp, hc, rfl, rfl⟩ | ⟨h, _⟩
  · obtain ⟨h1, h4, hu, _, _⟩ := Sp.plan_some hp
    refine ⟨?_, rfl, by rw [ints_lenP]; exact h4, hf, by omega, by omega, fun i hi => ?_⟩
    · unfold okP
      rw [show decide ((k1 : Int) = 1 ∨ (k1 : Int) = 2) = true from decide_eq_true (by omega), up_form hl hu h1 h4 hc.1 (Sp.plan_by hk hl hp hc), Int.toNat_natCast, Int.toNat_natCast, ints_lenP, by_planV hk hl hu.lt hc]
      simp
    · rw [ints_lenP] at hi
      have hm := getD_memN hi
      exact ⟨S.getD i 0, ints_at hi, hu.lt _ hm, hu.there _ hm, by have := hu.other _ hm; omega⟩
  · cases h
end Go.Proofs.Ythglkgicckodaaa
