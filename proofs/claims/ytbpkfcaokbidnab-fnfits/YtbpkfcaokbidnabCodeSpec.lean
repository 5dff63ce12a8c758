/-
  The contracts of the rows of the codes, in the model: whether a number is a kind, the row of a shard.
  Conditions: none.
-/
import Derived.Test.YtbpkfcaokbidnabVecSpec
import Derived.Test.YtbpkfcaokbidnabCodeWork
import Derived.Deep.Cut
namespace Go.Proofs.Ytbpkfcaokbidnab
open Go.RowKit
set_option linter.unusedVariables false

def kindM (k : Int) : Bool := decide (1 ≤ k) && decide (k ≤ 2)
theorem kindM_yes {k : Nat} (h : k = 1 ∨ k = 2) : kindM k = true := by rcases h with rfl | rfl <;> rfl
theorem kindM_no {k : Int} (h1 : k ≠ 1) (h2 : k ≠ 2) : kindM k = false := by
  unfold kindM
  by_cases h : 1 ≤ k
  · have : ¬ k ≤ 2 := by omega
    simp [this]
  · simp [h]

set_option maxHeartbeats 1000000 in
set_option maxRecDepth 20000 in
theorem specKind (k : Int) (w : World) : Calls Try.prog 54 #[.int .i64 k] w fun e w' => e = .returned (.bool (kindM k)) ∧ w = w' := by
  go_enter Try.func54, Try.ntmps54
  go_wp2_with fail
  refine (specIn k 1 2 _).mono ?_
  rintro e w' ⟨rfl, rfl⟩
  go_wp2_with fail
  go_ret
  exact ⟨rfl, rfl⟩

theorem Arr.newAt {w : World} {g : Nat} {o : Obj} {t : TypeId} {l : List Int} (hg : w.heap.size = g) (ho : o = .cells (vals l).toArray t) : Arr (w.alloc o) g t l := by
  subst hg ho; exact Arr.new w t l

set_option maxHeartbeats 4000000 in
set_option maxRecDepth 20000 in
theorem rowLocal (n : Nat) (hn : n < 8) (w : World) : Calls Try.prog 67 #[.int .i64 1, .int .i64 n] w (NewInts (Sp.crow 1 n) w) := by
  rcases (by omega : n = 0 ∨ n = 1 ∨ n = 2 ∨ n = 3 ∨ n = 4 ∨ n = 5 ∨ n = 6 ∨ n = 7) with rfl | rfl | rfl | rfl | rfl | rfl | rfl | rfl
  all_goals
    go_enter Try.func67, Try.ntmps67
    go_wp2_with fail
    go_ret
    refine ⟨_, rfl, ?_, Arr.own (l := Sp.crow 1 _) ?_ rfl _ (by omega) (by decide)⟩
    · repeat' first | exact World.grownBy.refl _ _ | refine grown_alloc ?_ _
    · repeat' first | exact Arr.newAt (by simp) rfl | refine Arr.alloc ?_ _

set_option maxHeartbeats 4000000 in
set_option maxRecDepth 20000 in
theorem rowWide (n : Nat) (hn : n < 8) (w : World) : Calls Try.prog 67 #[.int .i64 2, .int .i64 n] w (NewInts (Sp.crow 2 n) w) := by
  rcases (by omega : n = 0 ∨ n = 1 ∨ n = 2 ∨ n = 3 ∨ n = 4 ∨ n = 5 ∨ n = 6 ∨ n = 7) with rfl | rfl | rfl | rfl | rfl | rfl | rfl | rfl
  all_goals
    go_enter Try.func67, Try.ntmps67
    go_wp2_with fail
    go_ret
    refine ⟨_, rfl, ?_, Arr.own (l := Sp.crow 2 _) ?_ rfl _ (by omega) (by decide)⟩
    · repeat' first | exact World.grownBy.refl _ _ | refine grown_alloc ?_ _
    · repeat' first | exact Arr.newAt (by simp) rfl | refine Arr.alloc ?_ _
theorem specL4Row {k n : Nat} (hk : k = 1 ∨ k = 2) (hn : n < 8) (w : World) : Calls Try.prog 67 #[.int .i64 k, .int .i64 n] w (NewInts (Sp.crow k n) w) := by
  rcases hk with rfl | rfl
  · exact rowLocal n hn w
  · exact rowWide n hn w

set_option maxHeartbeats 4000000 in
set_option maxRecDepth 20000 in
theorem specRowYes {k n : Nat} (hk : k = 1 ∨ k = 2) (hn : n < 8) (w : World) : Calls Try.prog 31 #[.int .i64 k, .int .i64 n] w (NewInts2 (Sp.crow k n) true w) := by
  have K := kindM_yes hk
  have R := Lib.hid (fun w => specL4Row hk hn w)
  have I : (decide ((0 : Int) ≤ n) && decide ((n : Int) ≤ 7)) = true := by simp; omega
  generalize Sp.crow k n = l at *
  go_enter Try.func31, Try.ntmps31
  go_wp2_with fail
  refine (specKind k _).mono ?_
  rintro e w' ⟨rfl, rfl⟩
  rw [K]
  go_wp2_with fail
  refine (specIn n 0 7 _).mono ?_
  rintro e w' ⟨rfl, rfl⟩
  rw [I]
  go_wp2_with fail
  refine (R.out _).mono ?_
  rintro e w1 ⟨v, rfl, hg, ho⟩
  have G := Lib.hid hg
  have O := Lib.hid ho
  clear hg ho
  go_wp2_with fail
  go_ret2
  exact ⟨_, rfl, G.out, O.out⟩

set_option maxHeartbeats 4000000 in
set_option maxRecDepth 20000 in
theorem specRowOut {k : Nat} (hk : k = 1 ∨ k = 2) {n : Int} (hn : n < 0 ∨ 8 ≤ n) (w : World) : Calls Try.prog 31 #[.int .i64 k, .int .i64 n] w (NewInts2 [] false w) := by
  have K := kindM_yes hk
  have I : (decide ((0 : Int) ≤ n) && decide ((n : Int) ≤ 7)) = false := by
    rcases hn with h | h
    · have : ¬ (0 ≤ n) := by omega
      simp [this]
    · have : ¬ (n ≤ 7) := by omega
      simp [this]
  clear hn
  go_enter Try.func31, Try.ntmps31
  go_wp2_with fail
  refine (specKind k _).mono ?_
  rintro e w' ⟨rfl, rfl⟩
  rw [K]
  go_wp2_with fail
  refine (specIn n 0 7 _).mono ?_
  rintro e w' ⟨rfl, rfl⟩
  rw [I]
  go_wp2_with fail
  go_ret2
  exact ⟨_, rfl, grown_alloc (World.grownBy.refl _ _) _, Own.made _ _ [] (by omega) (by simp)⟩

set_option maxHeartbeats 4000000 in
set_option maxRecDepth 20000 in
theorem specRowNo {k : Int} (h1 : k ≠ 1) (h2 : k ≠ 2) (n : Int) (w : World) : Calls Try.prog 31 #[.int .i64 k, .int .i64 n] w (NewInts2 [] false w) := by
  have K := kindM_no h1 h2
  clear h1 h2
  go_enter Try.func31, Try.ntmps31
  go_wp2_with fail
  refine (specKind k _).mono ?_
  rintro e w' ⟨rfl, rfl⟩
  rw [K]
  go_wp2_with fail
  go_ret2
  exact ⟨_, rfl, grown_alloc (World.grownBy.refl _ _) _, Own.made _ _ [] (by omega) (by simp)⟩
end Go.Proofs.Ytbpkfcaokbidnab
