/-
  The contracts of chapter 1: for every integer the program's functions and the model's answer as plain arithmetic modulo 31 says, and leave memory as it is.
  Conditions: none.
-/
import Derived.Test.YtdkdkmebiofofaaRows
import Derived.Test.YtdkdkmebiofofaaFldMath
import Derived.Test.YtdkdkmebiofofaaMem
import Derived.WalkKit
import Derived.ProofKit
import Derived.Lib.Hide
namespace Go.Proofs.Ytdkdkmebiofofaa
open Go.RowKit
set_option linter.unusedVariables false

theorem lkNum (n : Int) (w : World) (n0 : 0 ≤ n) (n1 : n ≤ 9223372036854775807) : Calls Try.prog 28 #[.int .i64 n] w fun e w' => e = .returned (.int .i64 (n % 31)) ∧ w = w' := by
  go_enter Try.func28, Try.ntmps28
  go_wp2
  go_ret
  exact ⟨rfl, rfl⟩

set_option maxHeartbeats 400000 in
theorem implOk (n : Int) (w : World) : Calls Try.prog 49 #[.int .i64 n] w fun e w' => e = .returned (.bool (Fld.ok n)) ∧ w = w' := by
  by_cases h0 : 0 ≤ n
  · by_cases h1 : n < 31
    · rw [Fld.ok_true h0 (by omega)]
      go_enter Try.func49, Try.ntmps49
      go_wp2
      go_ret
      exact ⟨rfl, rfl⟩
    · rw [Fld.ok_false (by omega)]
      go_enter Try.func49, Try.ntmps49
      go_wp2
      go_ret
      exact ⟨rfl, rfl⟩
  · rw [Fld.ok_false (by omega)]
    go_enter Try.func49, Try.ntmps49
    go_wp2
    go_ret
    exact ⟨rfl, rfl⟩

set_option maxHeartbeats 400000 in
theorem specOk (n : Int) (w : World) : Calls Try.prog 26 #[.int .i64 n] w fun e w' => e = .returned (.bool (Fld.ok n)) ∧ w = w' := by
  by_cases h0 : 0 ≤ n
  · by_cases h1 : n ≤ 30
    · rw [Fld.ok_true h0 (by omega)]
      go_enter Try.func26, Try.ntmps26
      go_wp2
      go_ret
      exact ⟨rfl, rfl⟩
    · rw [Fld.ok_false (by omega)]
      go_enter Try.func26, Try.ntmps26
      go_wp2
      go_ret
      exact ⟨rfl, rfl⟩
  · rw [Fld.ok_false (by omega)]
    go_enter Try.func26, Try.ntmps26
    go_wp2
    go_ret
    exact ⟨rfl, rfl⟩

set_option maxHeartbeats 400000 in
theorem elemSum (a b : Int) (w : World) (ha : Fld.ok a = true) (hb : Fld.ok b = true) : Calls Try.prog 50 #[.int .i64 a, .int .i64 b] w fun e w' => e = .returned (.int .i64 ((a + b) % 31)) ∧ w = w' := by
  have ⟨a0, a1⟩ := Fld.ok_iff.1 ha
  have ⟨b0, b1⟩ := Fld.ok_iff.1 hb
  go_enter Try.func50, Try.ntmps50
  go_wp2
  go_ret
  exact ⟨rfl, rfl⟩

set_option maxHeartbeats 400000 in
theorem elemMul (a b : Int) (w : World) (ha : Fld.ok a = true) (hb : Fld.ok b = true) : Calls Try.prog 56 #[.int .i64 a, .int .i64 b] w fun e w' => e = .returned (.int .i64 (a * b % 31)) ∧ w = w' := by
  have ⟨a0, a1⟩ := Fld.ok_iff.1 ha
  have ⟨b0, b1⟩ := Fld.ok_iff.1 hb
  have ⟨m0, m1⟩ := Fld.mul_le ha hb
  go_enter Try.func56, Try.ntmps56
  go_wp2
  go_ret
  exact ⟨rfl, rfl⟩

set_option maxHeartbeats 400000 in
theorem implSum (a b : Int) (w : World) : Calls Try.prog 20 #[.int .i64 a, .int .i64 b] w fun e w' => e = .returned (.int .i64 (Fld.sum a b)) ∧ w = w' := by
  cases ha : Fld.ok a
  · rw [Fld.sum_no (by simp [ha])]
    go_enter Try.func20, Try.ntmps20
    go_wp2_with (go_at_call 49; refine (implOk _ _).mono ?_; rintro e w' ⟨rfl, rfl⟩)
    go_ret
    exact ⟨rfl, rfl⟩
  · cases hb : Fld.ok b
    · rw [Fld.sum_no (by simp [hb])]
      go_enter Try.func20, Try.ntmps20
      go_wp2_with (go_at_call 49; refine (implOk _ _).mono ?_; rintro e w' ⟨rfl, rfl⟩)
      go_ret
      exact ⟨rfl, rfl⟩
    · rw [Fld.sum_ok ha hb]
      have ⟨a0, a1⟩ := Fld.ok_iff.1 ha
      have ⟨b0, b1⟩ := Fld.ok_iff.1 hb
      go_enter Try.func20, Try.ntmps20
      go_wp2_with (first | (go_at_call 49; refine (implOk _ _).mono ?_; rintro e w' ⟨rfl, rfl⟩) | (go_at_call 50; refine (elemSum _ _ _ ha hb).mono ?_; rintro e w' ⟨rfl, rfl⟩))
      go_ret
      exact ⟨rfl, rfl⟩

set_option maxHeartbeats 400000 in
theorem implMul (a b : Int) (w : World) : Calls Try.prog 27 #[.int .i64 a, .int .i64 b] w fun e w' => e = .returned (.int .i64 (Fld.mul a b)) ∧ w = w' := by
  cases ha : Fld.ok a
  · rw [Fld.mul_no (by simp [ha])]
    go_enter Try.func27, Try.ntmps27
    go_wp2_with (go_at_call 49; refine (implOk _ _).mono ?_; rintro e w' ⟨rfl, rfl⟩)
    go_ret
    exact ⟨rfl, rfl⟩
  · cases hb : Fld.ok b
    · rw [Fld.mul_no (by simp [hb])]
      go_enter Try.func27, Try.ntmps27
      go_wp2_with (go_at_call 49; refine (implOk _ _).mono ?_; rintro e w' ⟨rfl, rfl⟩)
      go_ret
      exact ⟨rfl, rfl⟩
    · rw [Fld.mul_ok ha hb]
      have ⟨a0, a1⟩ := Fld.ok_iff.1 ha
      have ⟨b0, b1⟩ := Fld.ok_iff.1 hb
      have ⟨m0, m1⟩ := Fld.mul_le ha hb
      go_enter Try.func27, Try.ntmps27
      go_wp2_with (first | (go_at_call 49; refine (implOk _ _).mono ?_; rintro e w' ⟨rfl, rfl⟩) | (go_at_call 56; refine (elemMul _ _ _ ha hb).mono ?_; rintro e w' ⟨rfl, rfl⟩))
      go_ret
      exact ⟨rfl, rfl⟩

end Go.Proofs.Ytdkdkmebiofofaa
