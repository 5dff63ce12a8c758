/-
  The contracts of CodeMost: how many shards may be lost, in the program and in the model.
  Conditions: none.
-/
import Derived.Test.YtbpkfcaokbidnabCodeBear3
import Derived.Deep.RegionHeld3
namespace Go.Proofs.Ytbpkfcaokbidnab
open Go.RowKit
set_option linter.unusedVariables false

/-- how many bits are set. -/
def pop (n : Nat) : Nat := Sp.many (Sp.bits n)

set_option maxHeartbeats 2000000 in
set_option maxRecDepth 20000 in
theorem ones64 (n : Nat) (hn : n < 256) (w : World) : Calls Try.prog 115 #[.int .u64 n] w fun e w' => e = .returned (.int .i64 (pop n)) ∧ w = w' := by
  go_enter Try.func115, Try.ntmps115
  go_wp2
  go_ret
  refine ⟨ret_int ?_, rfl⟩
  revert n
  decide +kernel

set_option maxHeartbeats 2000000 in
set_option maxRecDepth 20000 in
theorem onesCount (n : Nat) (hn : n < 256) (w : World) : Calls Try.prog 87 #[.int .u64 n] w fun e w' => e = .returned (.int .i64 (pop n)) ∧ w = w' := by
  go_enter Try.func87, Try.ntmps87
  go_wp2_with (go_at_call 115; refine (ones64 _ hn _).mono ?_; rintro e w' ⟨rfl, rfl⟩)
  go_ret
  exact ⟨rfl, rfl⟩

set_option maxHeartbeats 2000000 in
set_option maxRecDepth 20000 in
theorem without (n : Nat) (hn : n < 256) (w : World) : Calls Try.prog 86 #[.int .u64 n] w fun e w' => e = .returned (.agg (bvals (Sp.bits (255 - n))).toArray) ∧ w.grownBy w' none := by
  go_enter Try.func86, Try.ntmps86
  go_wp2_with fail
  go_rounds 9
  have key : ∀ n : Nat, n < 256 → [bits BinOp.and IntKind.u64 (n : Int) 1 == 0, bits BinOp.and IntKind.u64 ((n : Int) / 2) 1 == 0, bits BinOp.and IntKind.u64 ((n : Int) / 4) 1 == 0, bits BinOp.and IntKind.u64 ((n : Int) / 8) 1 == 0, bits BinOp.and IntKind.u64 ((n : Int) / 16) 1 == 0, bits BinOp.and IntKind.u64 ((n : Int) / 32) 1 == 0, bits BinOp.and IntKind.u64 ((n : Int) / 64) 1 == 0, bits BinOp.and IntKind.u64 ((n : Int) / 128) 1 == 0] = Sp.bits (255 - n) := by decide +kernel
  have hk := key n hn
  refine bodyPost_ret (v := .agg (bvals [bits BinOp.and IntKind.u64 (n : Int) 1 == 0, bits BinOp.and IntKind.u64 ((n : Int) / 2) 1 == 0, bits BinOp.and IntKind.u64 ((n : Int) / 4) 1 == 0, bits BinOp.and IntKind.u64 ((n : Int) / 8) 1 == 0, bits BinOp.and IntKind.u64 ((n : Int) / 16) 1 == 0, bits BinOp.and IntKind.u64 ((n : Int) / 32) 1 == 0, bits BinOp.and IntKind.u64 ((n : Int) / 64) 1 == 0, bits BinOp.and IntKind.u64 ((n : Int) / 128) 1 == 0]).toArray) (by simp [results, Try.results86, go_sem, bvals]) rfl ⟨by rw [hk], ?_⟩
  repeat' first | exact World.grownBy.refl _ _ | refine grown_alloc ?_ _
end Go.Proofs.Ytbpkfcaokbidnab
