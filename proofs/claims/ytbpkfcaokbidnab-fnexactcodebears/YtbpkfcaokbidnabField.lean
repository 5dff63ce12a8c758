/-
  The contracts of chapter 1: for every integer the program's functions and the model's answer as plain arithmetic modulo 31 says, and leave memory as it is.
  Conditions: none.
-/
import Derived.Test.YtbpkfcaokbidnabRows
import Derived.Test.YtbpkfcaokbidnabFldMath
import Derived.Test.YtbpkfcaokbidnabMem
import Derived.WalkKit
import Derived.ProofKit
import Derived.Lib.Hide
namespace Go.Proofs.Ytbpkfcaokbidnab
open Go.RowKit
set_option linter.unusedVariables false

set_option maxRecDepth 20000 in
theorem lkNum (n : Int) (w : World) (n0 : 0 ≤ n) (n1 : n ≤ 9223372036854775807) : Calls Try.prog 72 #[.int .i64 n] w fun e w' => e = .returned (.int .i64 (n % 31)) ∧ w = w' := by
  go_enter Try.func72, Try.ntmps72
  go_wp2
  go_ret
  exact ⟨rfl, rfl⟩

set_option maxHeartbeats 400000 in
set_option maxRecDepth 20000 in
theorem implOk (n : Int) (w : World) : Calls Try.prog 80 #[.int .i64 n] w fun e w' => e = .returned (.bool (Fld.ok n)) ∧ w = w' := by
  by_cases h0 : 0 ≤ n
  · by_cases h1 : n < 31
    · rw [Fld.ok_true h0 (by omega)]
      go_enter Try.func80, Try.ntmps80
      go_wp2
      go_ret
      exact ⟨rfl, rfl⟩
    · rw [Fld.ok_false (by omega)]
      go_enter Try.func80, Try.ntmps80
      go_wp2
      go_ret
      exact ⟨rfl, rfl⟩
  · rw [Fld.ok_false (by omega)]
    go_enter Try.func80, Try.ntmps80
    go_wp2
    go_ret
    exact ⟨rfl, rfl⟩

set_option maxHeartbeats 400000 in
set_option maxRecDepth 20000 in
theorem specOk (n : Int) (w : World) : Calls Try.prog 120 #[.int .i64 n] w fun e w' => e = .returned (.bool (Fld.ok n)) ∧ w = w' := by
  by_cases h0 : 0 ≤ n
  · by_cases h1 : n ≤ 30
    · rw [Fld.ok_true h0 (by omega)]
      go_enter Try.func120, Try.ntmps120
      go_wp2
      go_ret
      exact ⟨rfl, rfl⟩
    · rw [Fld.ok_false (by omega)]
      go_enter Try.func120, Try.ntmps120
      go_wp2
      go_ret
      exact ⟨rfl, rfl⟩
  · rw [Fld.ok_false (by omega)]
    go_enter Try.func120, Try.ntmps120
    go_wp2
    go_ret
    exact ⟨rfl, rfl⟩

set_option maxHeartbeats 400000 in
set_option maxRecDepth 20000 in
theorem elemSum (a b : Int) (w : World) (ha : Fld.ok a = true) (hb : Fld.ok b = true) : Calls Try.prog 96 #[.int .i64 a, .int .i64 b] w fun e w' => e = .returned (.int .i64 ((a + b) % 31)) ∧ w = w' := by
  have ⟨a0, a1⟩ := Fld.ok_iff.1 ha
  have ⟨b0, b1⟩ := Fld.ok_iff.1 hb
  go_enter Try.func96, Try.ntmps96
  go_wp2
  go_ret
  exact ⟨rfl, rfl⟩

set_option maxHeartbeats 400000 in
set_option maxRecDepth 20000 in
theorem elemDif (a b : Int) (w : World) (ha : Fld.ok a = true) (hb : Fld.ok b = true) : Calls Try.prog 129 #[.int .i64 a, .int .i64 b] w fun e w' => e = .returned (.int .i64 ((a - b) % 31)) ∧ w = w' := by
  have ⟨a0, a1⟩ := Fld.ok_iff.1 ha
  have ⟨b0, b1⟩ := Fld.ok_iff.1 hb
  go_enter Try.func129, Try.ntmps129
  go_wp2
  go_ret
  exact ⟨ret_int (by omega), rfl⟩

set_option maxHeartbeats 400000 in
set_option maxRecDepth 20000 in
theorem elemMul (a b : Int) (w : World) (ha : Fld.ok a = true) (hb : Fld.ok b = true) : Calls Try.prog 112 #[.int .i64 a, .int .i64 b] w fun e w' => e = .returned (.int .i64 (a * b % 31)) ∧ w = w' := by
  have ⟨a0, a1⟩ := Fld.ok_iff.1 ha
  have ⟨b0, b1⟩ := Fld.ok_iff.1 hb
  have ⟨m0, m1⟩ := Fld.mul_le ha hb
  go_enter Try.func112, Try.ntmps112
  go_wp2
  go_ret
  exact ⟨rfl, rfl⟩

set_option maxHeartbeats 400000 in
set_option maxRecDepth 20000 in
theorem implSum (a b : Int) (w : World) : Calls Try.prog 52 #[.int .i64 a, .int .i64 b] w fun e w' => e = .returned (.int .i64 (Fld.sum a b)) ∧ w = w' := by
  cases ha : Fld.ok a
  · rw [Fld.sum_no (by simp [ha])]
    go_enter Try.func52, Try.ntmps52
    go_wp2_with (go_at_call 80; refine (implOk _ _).mono ?_; rintro e w' ⟨rfl, rfl⟩)
    go_ret
    exact ⟨rfl, rfl⟩
  · cases hb : Fld.ok b
    · rw [Fld.sum_no (by simp [hb])]
      go_enter Try.func52, Try.ntmps52
      go_wp2_with (go_at_call 80; refine (implOk _ _).mono ?_; rintro e w' ⟨rfl, rfl⟩)
      go_ret
      exact ⟨rfl, rfl⟩
    · rw [Fld.sum_ok ha hb]
      have ⟨a0, a1⟩ := Fld.ok_iff.1 ha
      have ⟨b0, b1⟩ := Fld.ok_iff.1 hb
      go_enter Try.func52, Try.ntmps52
      go_wp2_with (first | (go_at_call 80; refine (implOk _ _).mono ?_; rintro e w' ⟨rfl, rfl⟩) | (go_at_call 96; refine (elemSum _ _ _ ha hb).mono ?_; rintro e w' ⟨rfl, rfl⟩))
      go_ret
      exact ⟨rfl, rfl⟩

set_option maxHeartbeats 400000 in
set_option maxRecDepth 20000 in
/-- the model's search: the first n with a*n = 1. -/
theorem specSearch (a : Int) (w : World) (ha : Fld.ok a = true) (hz : a ≠ 0) : Calls Try.prog 150 #[.int .i64 a] w fun e w' => e = .returned (.int .i64 (Fld.inv a)) ∧ w = w' := by
  have ⟨a0, a1⟩ := Fld.ok_iff.1 ha
  have ⟨i0, i1⟩ := Fld.inv_in ha
  have ip := Fld.inv_pos ha hz
  have hin := Lib.hid (Fld.inv_there ha hz)
  clear hz
  go_enter Try.func150, Try.ntmps150
  go_wp2
  go_loop [3] (fun n => ∃ k : Int, 1 ≤ k ∧ k ≤ Fld.inv a ∧ n = .int .i64 k) (fun n => (31 - intOf n).toNat)
  case atStart => exact ⟨1, by omega, ip, rfl⟩
  case round =>
    obtain ⟨k, k0, k1, rfl⟩ := hrel
    have hk := Fld.ok_true (n := k) (by omega) (by omega)
    have ⟨m0, m1⟩ := Fld.mul_le ha hk
    by_cases he : k = Fld.inv a
    · have ht : (a * k % 31 == 1) = true := by rw [beq_iff_eq, he]; exact hin.out
      have He := Lib.hid he
      clear he
      go_wp2
      go_ret
      exact ⟨ret_int He.out, rfl⟩
    · have ht : (a * k % 31 == 1) = false := by rw [beq_eq_false_iff_ne]; exact fun h => he (Fld.inv_alone ha hk h)
      go_wp2
      go_round
      case rel => exact ⟨k + 1, by omega, by omega, rfl⟩
      case measure => simp [intOf]; omega

set_option maxHeartbeats 1000000 in
set_option maxRecDepth 20000 in
/-- the program's steps after Euclid. -/
theorem implEuclid (a : Int) (w : World) (ha : Fld.ok a = true) (hz : a ≠ 0) : Calls Try.prog 151 #[.int .i64 a] w fun e w' => e = .returned (.int .i64 (Fld.inv a)) ∧ w = w' := by
  have ⟨a0, a1⟩ := Fld.ok_iff.1 ha
  obtain ⟨x, hrun, x0, x1, hx⟩ := Fld.run_inv ha hz
  have Hx := Lib.hid hx
  have Hr := Lib.hid hrun
  clear hx hrun hz
  go_enter Try.func151, Try.ntmps151
  go_wp2
  go_loop [3, 4, 5, 6] (fun s3 s4 s5 s6 => ∃ (f : Nat) (r n t u : Int), Fld.run f r n t u = some x ∧ s3 = .int .i64 r ∧ s4 = .int .i64 n ∧ s5 = .int .i64 t ∧ s6 = .int .i64 u) (fun _ s4 _ _ => (intOf s4).toNat)
  case atStart => exact ⟨12, 31, a, 0, 1, Hr.out, rfl, rfl, rfl, rfl⟩
  case round =>
    obtain ⟨f, r, n, t, u, hf, rfl, rfl, rfl, rfl⟩ := hrel
    by_cases hn : n = 0
    · subst hn
      have ⟨t0, t1, ht⟩ := Fld.run_end hf
      have Ht := Lib.hid ht
      clear hf ht
      by_cases hs : t < 0
      · go_wp2
        go_ret
        exact ⟨ret_int (by rw [← Hx.out, ← Ht.out, if_pos (by omega)]), rfl⟩
      · go_wp2
        go_ret
        exact ⟨ret_int (by rw [← Hx.out, ← Ht.out, if_neg (by omega)]), rfl⟩
    · have ⟨⟨r0, r1, n0, n1, t0, t1, u0, u1⟩, g, _, hg⟩ := Fld.run_step hf hn
      have ⟨q0, q1, p0, p1, p2, p3⟩ := Fld.quo_in r0 r1 n0 u0 u1
      have ⟨m0, m1⟩ := Fld.rem_lt (r := r) n0
      have Hg := Lib.hid hg
      clear hf hg
      have hb : (n != 0) = true := by rw [bne_iff_ne]; exact hn
      go_wp2
      go_round
      case rel => exact ⟨g, _, _, _, _, Hg.out, rfl, rfl, rfl, rfl⟩
      case measure => simp [intOf]; omega

end Go.Proofs.Ytbpkfcaokbidnab
