/-
  A plan's form, plainly, and the contract of the program's times: how often each shard is taken, by a plan's text.
  Conditions: none.
-/
import Derived.Test.YtlehcpcejkpbmaaDoorPlanEq
namespace Go.Proofs.YtlehcpcejkpbmaaDoor
open Go.RowKit
set_option linter.unusedVariables false

/-- what stands ahead of a place of a plan's shards. -/
def pBef (l : List Int) : Nat → Int
  | 0 => -1
  | i + 1 => l.getD i 0
def pAt (n : Int) (l m : List Int) (i : Nat) : Bool :=
  decide ((0 ≤ l.getD i 0 ∧ l.getD i 0 < 8) ∧ pBef l i < l.getD i 0 ∧ l.getD i 0 ≠ n ∧ Fld.ok (m.getD i 0) = true ∧ m.getD i 0 ≠ 0)
def pHead (n : Int) (l m : List Int) : Bool := decide ((0 ≤ n ∧ n < 8) ∧ l.length ≠ 0 ∧ l.length ≤ 4 ∧ m.length = l.length)
/-- a plan is of shards, ascending, each taken. -/
def pForm (n : Int) (l m : List Int) : Bool := pHead n l m && (List.range l.length).all (pAt n l m)
def zero8 : List Int := [0, 0, 0, 0, 0, 0, 0, 0]
/-- how often each of the eight shards is taken, by the first places of a plan. -/
def spr (l m : List Int) : Nat → List Int
  | 0 => zero8
  | i + 1 => (spr l m i).set (l.getD i 0).toNat (m.getD i 0)
def sprOr (n : Int) (l m : List Int) : List Int := bif pForm n l m then spr l m l.length else zero8
theorem spr_len (l m : List Int) : ∀ i, (spr l m i).length = 8
  | 0 => rfl
  | i + 1 => by simp [spr, spr_len l m i]
theorem sprOr_len (n : Int) (l m : List Int) : (sprOr n l m).length = 8 := by
  unfold sprOr
  cases pForm n l m
  · rfl
  · exact spr_len l m _
theorem pForm_head {n : Int} {l m : List Int} (h : pHead n l m = false) : pForm n l m = false := by simp [pForm, h]
theorem pForm_not {n : Int} {l m : List Int} {i : Nat} (hi : i < l.length) (h : pAt n l m i = false) : pForm n l m = false := by
  cases e : pForm n l m with
  | false => rfl
  | true =>
    unfold pForm at e
    rw [Bool.and_eq_true, List.all_eq_true] at e
    have := e.2 i (List.mem_range.2 hi)
    rw [h] at this; cases this
theorem pForm_all {n : Int} {l m : List Int} (h0 : pHead n l m = true) (h : ∀ i, i < l.length → pAt n l m i = true) : pForm n l m = true := by
  unfold pForm
  rw [h0, Bool.true_and, List.all_eq_true]
  exact fun i hi => h i (List.mem_range.1 hi)
theorem pForm_out {n : Int} {l m : List Int} (h : pForm n l m = true) : pHead n l m = true ∧ ∀ i, i < l.length → pAt n l m i = true := by
  unfold pForm at h
  rw [Bool.and_eq_true, List.all_eq_true] at h
  exact ⟨h.1, fun i hi => h.2 i (List.mem_range.2 hi)⟩
theorem blk3 {w : World} {n : Int} {a1 a2 : Option Addr} {nl c1 ml c2 : Nat} : Blk (((w.alloc (.cells #[.int .i64 n, .slice a1 nl c1, .slice a2 ml c2] 25)).alloc (.cells #[.int .i64 0, .int .i64 0, .int .i64 0, .int .i64 0, .int .i64 0, .int .i64 0, .int .i64 0, .int .i64 0] 68)).alloc (.cells #[.int .i64 0, .int .i64 0, .int .i64 0, .int .i64 0, .int .i64 0, .int .i64 0, .int .i64 0, .int .i64 0] 68)) w.heap.size 25 [.int .i64 n, .slice a1 nl c1, .slice a2 ml c2] := by
  have h : Blk (w.alloc (.cells #[.int .i64 n, .slice a1 nl c1, .slice a2 ml c2] 25)) w.heap.size 25 [.int .i64 n, .slice a1 nl c1, .slice a2 ml c2] := heap_alloc_new w _
  exact (h.kept (World.grownBy_alloc _ _ none) (by simp)).kept (World.grownBy_alloc _ _ none) (by simp)

set_option maxHeartbeats 4000000 in
set_option maxRecDepth 20000 in
theorem timesHead (n : Int) (u v : Value) (l m : List Int) (w : World) (hu : Sl w u l) (hv : Sl w v m) (hh : pHead n l m = false) :
    Calls Tryd.prog 47 #[.agg #[.int .i64 n, u, v]] w fun e w' => e = .returned (.tuple #[.agg (vals zero8).toArray, .bool false]) ∧ w.grownBy w' none := by
  obtain ⟨a1, c1, rfl, _, _, _⟩ := hu
  obtain ⟨a2, c2, rfl, _, _, _⟩ := hv
  have HH : ¬ ((0 ≤ n ∧ n < 8) ∧ l.length ≠ 0 ∧ l.length ≤ 4 ∧ m.length = l.length) := by simpa [pHead] using hh
  clear hh
  generalize l.length = nl at *
  generalize m.length = ml at *
  have K0 : Hid (Blk (((w.alloc (.cells #[.int .i64 n, .slice a1 nl c1, .slice a2 ml c2] 25)).alloc (.cells #[.int .i64 0, .int .i64 0, .int .i64 0, .int .i64 0, .int .i64 0, .int .i64 0, .int .i64 0, .int .i64 0] 68)).alloc (.cells #[.int .i64 0, .int .i64 0, .int .i64 0, .int .i64 0, .int .i64 0, .int .i64 0, .int .i64 0, .int .i64 0] 68)) w.heap.size 25 [.int .i64 n, .slice a1 nl c1, .slice a2 ml c2]) := Lib.hid blk3
  have Z0 : Hid (Arr (((w.alloc (.cells #[.int .i64 n, .slice a1 nl c1, .slice a2 ml c2] 25)).alloc (.cells #[.int .i64 0, .int .i64 0, .int .i64 0, .int .i64 0, .int .i64 0, .int .i64 0, .int .i64 0, .int .i64 0] 68)).alloc (.cells #[.int .i64 0, .int .i64 0, .int .i64 0, .int .i64 0, .int .i64 0, .int .i64 0, .int .i64 0, .int .i64 0] 68)) (w.heap.size + 1) 68 zero8) := Lib.hid (by
    have := (Arr.new (w.alloc (.cells #[.int .i64 n, .slice a1 nl c1, .slice a2 ml c2] 25)) 68 zero8).alloc (.cells #[.int .i64 0, .int .i64 0, .int .i64 0, .int .i64 0, .int .i64 0, .int .i64 0, .int .i64 0, .int .i64 0] 68)
    rw [World.size_alloc] at this
    exact this)
  have P0 : Hid (Arr (((w.alloc (.cells #[.int .i64 n, .slice a1 nl c1, .slice a2 ml c2] 25)).alloc (.cells #[.int .i64 0, .int .i64 0, .int .i64 0, .int .i64 0, .int .i64 0, .int .i64 0, .int .i64 0, .int .i64 0] 68)).alloc (.cells #[.int .i64 0, .int .i64 0, .int .i64 0, .int .i64 0, .int .i64 0, .int .i64 0, .int .i64 0, .int .i64 0] 68)) (w.heap.size + 2) 68 zero8) := Lib.hid (by
    have := Arr.new ((w.alloc (.cells #[.int .i64 n, .slice a1 nl c1, .slice a2 ml c2] 25)).alloc (.cells #[.int .i64 0, .int .i64 0, .int .i64 0, .int .i64 0, .int .i64 0, .int .i64 0, .int .i64 0, .int .i64 0] 68)) 68 zero8
    rw [World.size_alloc, World.size_alloc] at this
    exact this)
  have G0 : Hid (w.grownBy (((w.alloc (.cells #[.int .i64 n, .slice a1 nl c1, .slice a2 ml c2] 25)).alloc (.cells #[.int .i64 0, .int .i64 0, .int .i64 0, .int .i64 0, .int .i64 0, .int .i64 0, .int .i64 0, .int .i64 0] 68)).alloc (.cells #[.int .i64 0, .int .i64 0, .int .i64 0, .int .i64 0, .int .i64 0, .int .i64 0, .int .i64 0, .int .i64 0] 68)) none) := Lib.hid (grown_alloc (grown_alloc (grown_alloc (World.grownBy.refl _ _) _) _) _)
  go_enter Tryd.func47, Tryd.ntmps47
  go_upto_region 2 with fail
  generalize (((w.alloc (.cells #[.int .i64 n, .slice a1 nl c1, .slice a2 ml c2] 25)).alloc (.cells #[.int .i64 0, .int .i64 0, .int .i64 0, .int .i64 0, .int .i64 0, .int .i64 0, .int .i64 0, .int .i64 0] 68)).alloc (.cells #[.int .i64 0, .int .i64 0, .int .i64 0, .int .i64 0, .int .i64 0, .int .i64 0, .int .i64 0, .int .i64 0] 68)) = W0 at *
  have k0 := K0.out.cell (i := 0) rfl
  have k1 := K0.out.cell (i := 1) rfl
  have k2 := K0.out.cell (i := 2) rfl
  have b0 : W0.cell? ⟨w.heap.size + 1, 0, none⟩ = some (.int .i64 0) := Z0.out.cell (by simp [zero8])
  have f0 := Z0.out.frozen 0
  have a0' : W0.cell? ⟨w.heap.size + 2, 0, none⟩ = some (.int .i64 0) := P0.out.cell (by simp [zero8])
  have b1 : W0.cell? ⟨w.heap.size + 1, 1, none⟩ = some (.int .i64 0) := Z0.out.cell (by simp [zero8])
  have f1 := Z0.out.frozen 1
  have a1' : W0.cell? ⟨w.heap.size + 2, 1, none⟩ = some (.int .i64 0) := P0.out.cell (by simp [zero8])
  have b2 : W0.cell? ⟨w.heap.size + 1, 2, none⟩ = some (.int .i64 0) := Z0.out.cell (by simp [zero8])
  have f2 := Z0.out.frozen 2
  have a2' : W0.cell? ⟨w.heap.size + 2, 2, none⟩ = some (.int .i64 0) := P0.out.cell (by simp [zero8])
  have b3 : W0.cell? ⟨w.heap.size + 1, 3, none⟩ = some (.int .i64 0) := Z0.out.cell (by simp [zero8])
  have f3 := Z0.out.frozen 3
  have a3' : W0.cell? ⟨w.heap.size + 2, 3, none⟩ = some (.int .i64 0) := P0.out.cell (by simp [zero8])
  have b4 : W0.cell? ⟨w.heap.size + 1, 4, none⟩ = some (.int .i64 0) := Z0.out.cell (by simp [zero8])
  have f4 := Z0.out.frozen 4
  have a4' : W0.cell? ⟨w.heap.size + 2, 4, none⟩ = some (.int .i64 0) := P0.out.cell (by simp [zero8])
  have b5 : W0.cell? ⟨w.heap.size + 1, 5, none⟩ = some (.int .i64 0) := Z0.out.cell (by simp [zero8])
  have f5 := Z0.out.frozen 5
  have a5' : W0.cell? ⟨w.heap.size + 2, 5, none⟩ = some (.int .i64 0) := P0.out.cell (by simp [zero8])
  have b6 : W0.cell? ⟨w.heap.size + 1, 6, none⟩ = some (.int .i64 0) := Z0.out.cell (by simp [zero8])
  have f6 := Z0.out.frozen 6
  have a6' : W0.cell? ⟨w.heap.size + 2, 6, none⟩ = some (.int .i64 0) := P0.out.cell (by simp [zero8])
  have b7 : W0.cell? ⟨w.heap.size + 1, 7, none⟩ = some (.int .i64 0) := Z0.out.cell (by simp [zero8])
  have f7 := Z0.out.frozen 7
  have a7' : W0.cell? ⟨w.heap.size + 2, 7, none⟩ = some (.int .i64 0) := P0.out.cell (by simp [zero8])
  clear K0 Z0 P0
  by_cases hn : 0 ≤ n ∧ n < 8
  · by_cases h0 : nl = 0
    · subst h0
      clear HH
      go_wp2_with fail
      refine (shardIn n hn.1 hn.2 _).mono ?_
      rintro e w' ⟨rfl, rfl⟩
      go_wp2_with fail
      refine bodyPost_ret (v := .tuple #[.agg #[.int .i64 0, .int .i64 0, .int .i64 0, .int .i64 0, .int .i64 0, .int .i64 0, .int .i64 0, .int .i64 0], .bool false]) (by simp [results, Tryd.results47, go_sem, b0, b1, b2, b3, b4, b5, b6, b7]) rfl ⟨rfl, ?_⟩
      repeat' first | with_reducible exact G0.out | refine grown_set ?_ (by simp) _
    · have e0 : ((nl : Int) == 0) = false := by rw [beq_eq_false_iff_ne]; omega
      by_cases h4 : nl ≤ 4
      · have g4 : ¬ (nl : Int) > 4 := by omega
        have hd : ((ml : Int) != (nl : Int)) = true := by rw [bne_iff_ne]; intro h; exact HH ⟨hn, h0, h4, by omega⟩
        clear HH h0 h4
        go_wp2_with fail
        refine (shardIn n hn.1 hn.2 _).mono ?_
        rintro e w' ⟨rfl, rfl⟩
        go_wp2_with fail
        refine bodyPost_ret (v := .tuple #[.agg #[.int .i64 0, .int .i64 0, .int .i64 0, .int .i64 0, .int .i64 0, .int .i64 0, .int .i64 0, .int .i64 0], .bool false]) (by simp [results, Tryd.results47, go_sem, b0, b1, b2, b3, b4, b5, b6, b7]) rfl ⟨rfl, ?_⟩
        repeat' first | with_reducible exact G0.out | refine grown_set ?_ (by simp) _
      · have g4 : (nl : Int) > 4 := by omega
        clear HH h0 h4
        go_wp2_with fail
        refine (shardIn n hn.1 hn.2 _).mono ?_
        rintro e w' ⟨rfl, rfl⟩
        go_wp2_with fail
        refine bodyPost_ret (v := .tuple #[.agg #[.int .i64 0, .int .i64 0, .int .i64 0, .int .i64 0, .int .i64 0, .int .i64 0, .int .i64 0, .int .i64 0], .bool false]) (by simp [results, Tryd.results47, go_sem, b0, b1, b2, b3, b4, b5, b6, b7]) rfl ⟨rfl, ?_⟩
        repeat' first | with_reducible exact G0.out | refine grown_set ?_ (by simp) _
  · clear HH
    go_wp2_with fail
    refine (shardOut n (by omega) _).mono ?_
    rintro e w' ⟨rfl, rfl⟩
    go_wp2_with fail
    refine bodyPost_ret (v := .tuple #[.agg #[.int .i64 0, .int .i64 0, .int .i64 0, .int .i64 0, .int .i64 0, .int .i64 0, .int .i64 0, .int .i64 0], .bool false]) (by simp [results, Tryd.results47, go_sem, b0, b1, b2, b3, b4, b5, b6, b7]) rfl ⟨rfl, ?_⟩
    repeat' first | with_reducible exact G0.out | refine grown_set ?_ (by simp) _

set_option maxHeartbeats 8000000 in
set_option maxRecDepth 20000 in
theorem timesLoop (n : Int) (u v : Value) (l m : List Int) (w : World) (hu : Sl w u l) (hv : Sl w v m) (hh : pHead n l m = true) :
    Calls Tryd.prog 47 #[.agg #[.int .i64 n, u, v]] w fun e w' => e = .returned (.tuple #[.agg (vals (sprOr n l m)).toArray, .bool (pForm n l m)]) ∧ w.grownBy w' none := by
  obtain ⟨a1, c1, rfl, q1, q2, hr1⟩ := hu
  obtain ⟨a2, c2, rfl, q3, q4, hr2⟩ := hv
  have HD := Lib.hid hh
  obtain ⟨hn, h0, h4, he⟩ : (0 ≤ n ∧ n < 8) ∧ l.length ≠ 0 ∧ l.length ≤ 4 ∧ m.length = l.length := by simpa [pHead] using hh
  unfold maxLen at q2 q4
  have R1 := Lib.hid hr1
  have R2 := Lib.hid hr2
  have ME := Lib.hid he
  rw [he]
  rw [he] at q3
  clear hh hr1 hr2 he
  obtain ⟨nl, hnl⟩ : ∃ k, k = l.length := ⟨_, rfl⟩
  have NL := Lib.hid hnl
  rw [← hnl] at h0 h4 q1 q3 ⊢
  clear hnl
  have K0 : Hid (Blk (((w.alloc (.cells #[.int .i64 n, .slice a1 nl c1, .slice a2 nl c2] 25)).alloc (.cells #[.int .i64 0, .int .i64 0, .int .i64 0, .int .i64 0, .int .i64 0, .int .i64 0, .int .i64 0, .int .i64 0] 68)).alloc (.cells #[.int .i64 0, .int .i64 0, .int .i64 0, .int .i64 0, .int .i64 0, .int .i64 0, .int .i64 0, .int .i64 0] 68)) w.heap.size 25 [.int .i64 n, .slice a1 nl c1, .slice a2 nl c2]) := Lib.hid blk3
  have Z0 : Hid (Arr (((w.alloc (.cells #[.int .i64 n, .slice a1 nl c1, .slice a2 nl c2] 25)).alloc (.cells #[.int .i64 0, .int .i64 0, .int .i64 0, .int .i64 0, .int .i64 0, .int .i64 0, .int .i64 0, .int .i64 0] 68)).alloc (.cells #[.int .i64 0, .int .i64 0, .int .i64 0, .int .i64 0, .int .i64 0, .int .i64 0, .int .i64 0, .int .i64 0] 68)) (w.heap.size + 1) 68 zero8) := Lib.hid (by
    have := (Arr.new (w.alloc (.cells #[.int .i64 n, .slice a1 nl c1, .slice a2 nl c2] 25)) 68 zero8).alloc (.cells #[.int .i64 0, .int .i64 0, .int .i64 0, .int .i64 0, .int .i64 0, .int .i64 0, .int .i64 0, .int .i64 0] 68)
    rw [World.size_alloc] at this
    exact this)
  have P0 : Hid (Arr (((w.alloc (.cells #[.int .i64 n, .slice a1 nl c1, .slice a2 nl c2] 25)).alloc (.cells #[.int .i64 0, .int .i64 0, .int .i64 0, .int .i64 0, .int .i64 0, .int .i64 0, .int .i64 0, .int .i64 0] 68)).alloc (.cells #[.int .i64 0, .int .i64 0, .int .i64 0, .int .i64 0, .int .i64 0, .int .i64 0, .int .i64 0, .int .i64 0] 68)) (w.heap.size + 2) 68 zero8) := Lib.hid (by
    have := Arr.new ((w.alloc (.cells #[.int .i64 n, .slice a1 nl c1, .slice a2 nl c2] 25)).alloc (.cells #[.int .i64 0, .int .i64 0, .int .i64 0, .int .i64 0, .int .i64 0, .int .i64 0, .int .i64 0, .int .i64 0] 68)) 68 zero8
    rw [World.size_alloc, World.size_alloc] at this
    exact this)
  have G0 : Hid (w.grownBy (((w.alloc (.cells #[.int .i64 n, .slice a1 nl c1, .slice a2 nl c2] 25)).alloc (.cells #[.int .i64 0, .int .i64 0, .int .i64 0, .int .i64 0, .int .i64 0, .int .i64 0, .int .i64 0, .int .i64 0] 68)).alloc (.cells #[.int .i64 0, .int .i64 0, .int .i64 0, .int .i64 0, .int .i64 0, .int .i64 0, .int .i64 0, .int .i64 0] 68)) none) := Lib.hid (grown_alloc (grown_alloc (grown_alloc (World.grownBy.refl _ _) _) _) _)
  have e0 : ((nl : Int) == 0) = false := by rw [beq_eq_false_iff_ne]; omega
  have g4 : ¬ (nl : Int) > 4 := by omega
  go_enter Tryd.func47, Tryd.ntmps47
  go_upto_region 2 with fail
  generalize (((w.alloc (.cells #[.int .i64 n, .slice a1 nl c1, .slice a2 nl c2] 25)).alloc (.cells #[.int .i64 0, .int .i64 0, .int .i64 0, .int .i64 0, .int .i64 0, .int .i64 0, .int .i64 0, .int .i64 0] 68)).alloc (.cells #[.int .i64 0, .int .i64 0, .int .i64 0, .int .i64 0, .int .i64 0, .int .i64 0, .int .i64 0, .int .i64 0] 68)) = W0 at *
  have k0 := K0.out.cell (i := 0) rfl
  have k1 := K0.out.cell (i := 1) rfl
  have k2 := K0.out.cell (i := 2) rfl
  go_wp2_with fail
  refine (shardIn n hn.1 hn.2 _).mono ?_
  rintro e w' ⟨rfl, rfl⟩
  go_wp2_with fail
  clear k0 k1 k2
  go_loopw [5, 37] (fun o i wr => ∃ k : Nat, k ≤ nl ∧ i = .int .i64 k ∧ o = .int .i64 (pBef l k) ∧ (∀ j, j < k → pAt n l m j = true) ∧ w.grownBy wr none ∧ Blk wr w.heap.size 25 [.int .i64 n, .slice a1 nl c1, .slice a2 nl c2] ∧ Arr wr (w.heap.size + 1) 68 zero8 ∧ Arr wr (w.heap.size + 2) 68 (spr l m k)) (fun _ i _ => nl - (intOf i).toNat)
  case atStart => exact ⟨0, by omega, rfl, rfl, fun j hj => by omega, G0.out, K0.out, Z0.out, P0.out⟩
  case round =>
    obtain ⟨k, hk, rfl, rfl, hok, hg, hb, hz, hp⟩ := hrel
    have OK := Lib.hid hok
    have G := Lib.hid hg
    have K := Lib.hid hb
    have Z := Lib.hid hz
    have P := Lib.hid hp
    clear hok hg hb hz hp Z0 P0 G0 K0
    have k0 := K.out.cell (i := 0) rfl
    have k1 := K.out.cell (i := 1) rfl
    have k2 := K.out.cell (i := 2) rfl
    have b0 : wr.cell? ⟨w.heap.size + 1, 0, none⟩ = some (.int .i64 0) := Z.out.cell (by simp [zero8])
    have f0 := Z.out.frozen 0
    have b1 : wr.cell? ⟨w.heap.size + 1, 1, none⟩ = some (.int .i64 0) := Z.out.cell (by simp [zero8])
    have f1 := Z.out.frozen 1
    have b2 : wr.cell? ⟨w.heap.size + 1, 2, none⟩ = some (.int .i64 0) := Z.out.cell (by simp [zero8])
    have f2 := Z.out.frozen 2
    have b3 : wr.cell? ⟨w.heap.size + 1, 3, none⟩ = some (.int .i64 0) := Z.out.cell (by simp [zero8])
    have f3 := Z.out.frozen 3
    have b4 : wr.cell? ⟨w.heap.size + 1, 4, none⟩ = some (.int .i64 0) := Z.out.cell (by simp [zero8])
    have f4 := Z.out.frozen 4
    have b5 : wr.cell? ⟨w.heap.size + 1, 5, none⟩ = some (.int .i64 0) := Z.out.cell (by simp [zero8])
    have f5 := Z.out.frozen 5
    have b6 : wr.cell? ⟨w.heap.size + 1, 6, none⟩ = some (.int .i64 0) := Z.out.cell (by simp [zero8])
    have f6 := Z.out.frozen 6
    have b7 : wr.cell? ⟨w.heap.size + 1, 7, none⟩ = some (.int .i64 0) := Z.out.cell (by simp [zero8])
    have f7 := Z.out.frozen 7
    by_cases hlt' : k < nl
    · have hlt : k < l.length := by rw [← NL.out]; exact hlt'
      have hi : (k : Int) < (nl : Int) := by omega
      obtain ⟨b1_, o1, rfl, hx⟩ := (R1.out.grown G.out).at_ (k := k) hlt
      obtain ⟨b2_, o2, rfl, hy⟩ := (R2.out.grown G.out).at_ (k := k) (by rw [ME.out]; exact hlt)
      obtain ⟨x, hxe⟩ : ∃ x, l.getD k 0 = x := ⟨_, rfl⟩
      obtain ⟨y, hye⟩ : ∃ x, m.getD k 0 = x := ⟨_, rfl⟩
      obtain ⟨bf, hbe⟩ : ∃ x, pBef l k = x := ⟨_, rfl⟩
      rw [hxe] at hx
      rw [hye] at hy
      rw [hbe]
      have XE := Lib.hid hxe
      have YE := Lib.hid hye
      have BE := Lib.hid hbe
      clear hxe hye hbe hlt'
      have AT := Lib.hid hlt
      by_cases hx8 : 0 ≤ x ∧ x < 8
      · by_cases hbx : bf < x
        · have hbx' : ¬ x ≤ bf := by omega
          by_cases hxn : x = n
          · have hxn' : (x == n) = true := by rw [beq_iff_eq]; exact hxn
            have NO : Hid (pForm n l m = false) := Lib.hid (pForm_not hlt (by unfold pAt; rw [XE.out, YE.out, BE.out]; exact decide_eq_false (fun h => h.2.2.1 hxn)))
            clear AT hxn
            go_wp2_with fail
            refine (shardIn x hx8.1 hx8.2 _).mono ?_
            rintro e w' ⟨rfl, rfl⟩
            go_wp2_with fail
            refine bodyPost_ret (v := .tuple #[.agg #[.int .i64 0, .int .i64 0, .int .i64 0, .int .i64 0, .int .i64 0, .int .i64 0, .int .i64 0, .int .i64 0], .bool false]) (by simp [results, Tryd.results47, go_sem, b0, b1, b2, b3, b4, b5, b6, b7]) rfl ⟨by simp [sprOr, NO.out, zero8, vals], ?_⟩
            repeat' first | with_reducible exact G.out | refine grown_set ?_ (by simp) _
          · have hxn' : (x == n) = false := by rw [beq_eq_false_iff_ne]; exact hxn
            cases hq : Fld.ok y with
            | false =>
              have IO := Lib.hid (implOk y wr)
              rw [hq] at IO
              have NO : Hid (pForm n l m = false) := Lib.hid (pForm_not hlt (by unfold pAt; rw [XE.out, YE.out, BE.out]; exact decide_eq_false (fun h => by have := h.2.2.2.1; rw [hq] at this; cases this)))
              clear AT hxn hq
              go_wp2_with fail
              refine (shardIn x hx8.1 hx8.2 _).mono ?_
              rintro e w' ⟨rfl, rfl⟩
              go_wp2_with fail
              refine IO.out.mono ?_
              rintro e w' ⟨rfl, rfl⟩
              go_wp2_with fail
              refine bodyPost_ret (v := .tuple #[.agg #[.int .i64 0, .int .i64 0, .int .i64 0, .int .i64 0, .int .i64 0, .int .i64 0, .int .i64 0, .int .i64 0], .bool false]) (by simp [results, Tryd.results47, go_sem, b0, b1, b2, b3, b4, b5, b6, b7]) rfl ⟨by simp [sprOr, NO.out, zero8, vals], ?_⟩
              repeat' first | with_reducible exact G.out | refine grown_set ?_ (by simp) _
            | true =>
              have IO := Lib.hid (implOk y wr)
              rw [hq] at IO
              by_cases hy0 : y = 0
              · have hy0' : (y == 0) = true := by rw [beq_iff_eq]; exact hy0
                have NO : Hid (pForm n l m = false) := Lib.hid (pForm_not hlt (by unfold pAt; rw [XE.out, YE.out, BE.out]; exact decide_eq_false (fun h => h.2.2.2.2 hy0)))
                clear AT hxn hq hy0
                go_wp2_with fail
                refine (shardIn x hx8.1 hx8.2 _).mono ?_
                rintro e w' ⟨rfl, rfl⟩
                go_wp2_with fail
                refine IO.out.mono ?_
                rintro e w' ⟨rfl, rfl⟩
                go_wp2_with fail
                refine bodyPost_ret (v := .tuple #[.agg #[.int .i64 0, .int .i64 0, .int .i64 0, .int .i64 0, .int .i64 0, .int .i64 0, .int .i64 0, .int .i64 0], .bool false]) (by simp [results, Tryd.results47, go_sem, b0, b1, b2, b3, b4, b5, b6, b7]) rfl ⟨by simp [sprOr, NO.out, zero8, vals], ?_⟩
                repeat' first | with_reducible exact G.out | refine grown_set ?_ (by simp) _
              · have hy0' : (y == 0) = false := by rw [beq_eq_false_iff_ne]; exact hy0
                have OK' : Hid (∀ j, j < k + 1 → pAt n l m j = true) := Lib.hid (fun j hj => by
                  by_cases e : j = k
                  · subst e
                    unfold pAt
                    rw [XE.out, YE.out, BE.out]
                    exact decide_eq_true ⟨hx8, hbx, hxn, hq, hy0⟩
                  · exact OK.out j (by omega))
                obtain ⟨xn, hxn2⟩ : ∃ j : Nat, x = j := ⟨x.toNat, by omega⟩
                subst hxn2
                have hx8' : xn < 8 := by omega
                have pc : wr.cell? ⟨w.heap.size + 2, xn, none⟩ = some (.int .i64 ((spr l m k).getD xn 0)) := P.out.cell (by rw [spr_len]; exact hx8')
                have pf := P.out.frozen xn
                have PS : Hid (spr l m (k + 1) = (spr l m k).set xn y) := Lib.hid (by
                  show (spr l m k).set (l.getD k 0).toNat (m.getD k 0) = _
                  rw [XE.out, YE.out]
                  rfl)
                have BS : Hid (pBef l (k + 1) = xn) := Lib.hid XE.out
                have Z1 := Lib.hid (Z.out.far (p := ⟨w.heap.size + 2, xn, none⟩) (by simp) (.int .i64 y))
                have P1 := Lib.hid (P.out.put xn y)
                rw [← PS.out] at P1
                have G1 := Lib.hid (grown_set G.out (p := ⟨w.heap.size + 2, xn, none⟩) (by simp) (.int .i64 y))
                have K1 : Hid (Blk (wr.setCell ⟨w.heap.size + 2, xn, none⟩ (.int .i64 y)) w.heap.size 25 [.int .i64 n, .slice (some ⟨b1_, o1, none⟩) nl c1, .slice (some ⟨b2_, o2, none⟩) nl c2]) := Lib.hid ((Below.heap_setCell _ _ _ _ (by simp)).trans K.out)
                generalize (spr l m k).getD xn 0 = old at *
                clear AT hxn hq hy0 PS b0 b1 b2 b3 b4 b5 b6 b7 f0 f1 f2 f3 f4 f5 f6 f7
                go_wp2_with fail
                refine (shardIn xn hx8.1 hx8.2 _).mono ?_
                rintro e w' ⟨rfl, rfl⟩
                go_wp2_with fail
                refine IO.out.mono ?_
                rintro e w' ⟨rfl, rfl⟩
                go_wp2_with fail
                clear hx hy pc pf k0 k1 k2
                go_roundw
                case rel => exact ⟨k + 1, by omega, by go_num, by rw [BS.out], OK'.out, G1.out, K1.out, Z1.out, P1.out⟩
                case measure => simp [intOf]; omega
        · have hbx' : x ≤ bf := by omega
          have NO : Hid (pForm n l m = false) := Lib.hid (pForm_not hlt (by unfold pAt; rw [XE.out, YE.out, BE.out]; exact decide_eq_false (fun h => hbx h.2.1)))
          clear AT hbx
          go_wp2_with fail
          refine (shardIn x hx8.1 hx8.2 _).mono ?_
          rintro e w' ⟨rfl, rfl⟩
          go_wp2_with fail
          refine bodyPost_ret (v := .tuple #[.agg #[.int .i64 0, .int .i64 0, .int .i64 0, .int .i64 0, .int .i64 0, .int .i64 0, .int .i64 0, .int .i64 0], .bool false]) (by simp [results, Tryd.results47, go_sem, b0, b1, b2, b3, b4, b5, b6, b7]) rfl ⟨by simp [sprOr, NO.out, zero8, vals], ?_⟩
          repeat' first | with_reducible exact G.out | refine grown_set ?_ (by simp) _
      · have NO : Hid (pForm n l m = false) := Lib.hid (pForm_not hlt (by unfold pAt; rw [XE.out, YE.out, BE.out]; exact decide_eq_false (fun h => hx8 h.1)))
        clear AT
        go_wp2_with fail
        refine (shardOut x (by omega) _).mono ?_
        rintro e w' ⟨rfl, rfl⟩
        go_wp2_with fail
        refine bodyPost_ret (v := .tuple #[.agg #[.int .i64 0, .int .i64 0, .int .i64 0, .int .i64 0, .int .i64 0, .int .i64 0, .int .i64 0, .int .i64 0], .bool false]) (by simp [results, Tryd.results47, go_sem, b0, b1, b2, b3, b4, b5, b6, b7]) rfl ⟨by simp [sprOr, NO.out, zero8, vals], ?_⟩
        repeat' first | with_reducible exact G.out | refine grown_set ?_ (by simp) _
    · obtain rfl : k = nl := by omega
      have YES : Hid (pForm n l m = true) := Lib.hid (pForm_all HD.out (by rw [← NL.out]; exact OK.out))
      have hi : ¬ (k : Int) < (k : Int) := by omega
      have SO : Hid (sprOr n l m = spr l m k) := Lib.hid (by unfold sprOr; rw [YES.out, NL.out]; rfl)
      obtain ⟨s, hs⟩ : ∃ s, spr l m k = s := ⟨_, rfl⟩
      have PL : s.length = 8 := by rw [← hs]; exact spr_len l m k
      rw [hs] at P SO
      clear hs
      obtain ⟨x0, x1, x2, x3, x4, x5, x6, x7, rfl⟩ := list_eight PL
      clear PL k0 k1 k2
      have c0' : wr.cell? ⟨w.heap.size + 2, 0, none⟩ = some (.int .i64 x0) := P.out.cell (by simp)
      have c1' : wr.cell? ⟨w.heap.size + 2, 1, none⟩ = some (.int .i64 x1) := P.out.cell (by simp)
      have c2' : wr.cell? ⟨w.heap.size + 2, 2, none⟩ = some (.int .i64 x2) := P.out.cell (by simp)
      have c3' : wr.cell? ⟨w.heap.size + 2, 3, none⟩ = some (.int .i64 x3) := P.out.cell (by simp)
      have c4' : wr.cell? ⟨w.heap.size + 2, 4, none⟩ = some (.int .i64 x4) := P.out.cell (by simp)
      have c5' : wr.cell? ⟨w.heap.size + 2, 5, none⟩ = some (.int .i64 x5) := P.out.cell (by simp)
      have c6' : wr.cell? ⟨w.heap.size + 2, 6, none⟩ = some (.int .i64 x6) := P.out.cell (by simp)
      have c7' : wr.cell? ⟨w.heap.size + 2, 7, none⟩ = some (.int .i64 x7) := P.out.cell (by simp)
      go_wp2_with fail
      refine bodyPost_ret (v := .tuple #[.agg #[.int .i64 x0, .int .i64 x1, .int .i64 x2, .int .i64 x3, .int .i64 x4, .int .i64 x5, .int .i64 x6, .int .i64 x7], .bool true]) (by simp [results, Tryd.results47, go_sem, b0, b1, b2, b3, b4, b5, b6, b7]) rfl ⟨by rw [YES.out, SO.out]; rfl, ?_⟩
      repeat' first | with_reducible exact G.out | refine grown_set ?_ (by simp) _

theorem implTimes (n : Int) (u v : Value) (l m : List Int) (w : World) (hu : Sl w u l) (hv : Sl w v m) :
    Calls Tryd.prog 47 #[.agg #[.int .i64 n, u, v]] w fun e w' => e = .returned (.tuple #[.agg (vals (sprOr n l m)).toArray, .bool (pForm n l m)]) ∧ w.grownBy w' none := by
  cases h : pHead n l m with
  | true => exact timesLoop n u v l m w hu hv h
  | false =>
    have e := pForm_head h
    have e2 : sprOr n l m = zero8 := by simp [sprOr, e]
    rw [e2, e]
    exact timesHead n u v l m w hu hv h
end Go.Proofs.YtlehcpcejkpbmaaDoor
