/-
  The contracts of what the laws of chapter 4 draw: a kind; a kind and a shard.
  Conditions: the reader has been read at most a million times.
-/
import Derived.Test.YtbpkfcaokbidnabDrawVec
namespace Go.Proofs.Ytbpkfcaokbidnab
open Go.RowKit
set_option linter.unusedVariables false

/-- what drawing a kind leaves. -/
def DrawnKind (c p : Nat) (w : World) (e : Ending) (w' : World) : Prop := ∃ m : Nat, m ≤ 3 ∧ e = .returned (.int .i64 m) ∧ Far c w w' ∧ Rd w' c (p + 2)

set_option maxHeartbeats 1000000 in
set_option maxRecDepth 20000 in
theorem drawKind (c p : Nat) (w : World) (h : Rd w c p) (hp : p ≤ 900000) : Calls Try.prog 76 #[.pointer (some ⟨c, 0, none⟩)] w (DrawnKind c p w) := by
  have R0 := Lib.hid h
  clear h
  go_enter Try.func76, Try.ntmps76
  go_wp2_with fail
  refine (pick c p _ _ R0.out (by omega) (by omega) (by omega)).mono ?_
  rintro e w1 ⟨m, m0, m1, rfl, hf, h1⟩
  have F1 := Lib.hid hf
  have R1 := Lib.hid h1
  clear hf h1 R0
  by_cases hm : m = 0
  · subst hm
    have hl := R1.out.lt
    have A := Lib.hid (Arr.new w1 3 [0, 3])
    have RA := Lib.hid (R1.out.up (World.grownBy_alloc w1 (.cells (vals [0, 3]).toArray 3) none) (by simp))
    have FA := Lib.hid (F1.out.trans (Far.alloc (c := c) w1 (.cells (vals [0, 3]).toArray 3)))
    have NE : w1.heap.size ≠ c := by omega
    clear R1 F1 hl
    go_wp2_with fail
    change Calls _ _ _ (w1.alloc (.cells (vals [0, 3]).toArray 3)) _
    generalize w1.alloc (.cells (vals [0, 3]).toArray 3) = W at *
    generalize w1.heap.size = g at *
    refine (pick c (p + 1) _ _ RA.out (by omega) (by omega) (by omega)).mono ?_
    rintro e w2 ⟨n, n0, n1, rfl, hf, h2⟩
    have F2 := Lib.hid (FA.out.trans hf)
    have R2 := Lib.hid h2
    have A2 := Lib.hid (A.out.farr hf NE)
    clear hf h2 RA FA A
    rcases (by omega : n = 0 ∨ n = 1) with rfl | rfl
    · have c0 : w2.cell? ⟨g, 0, none⟩ = some (.int .i64 0) := A2.out.cell (by simp)
      go_wp2_with fail
      go_ret
      exact ⟨0, by omega, rfl, F2.out, R2.out⟩
    · have c0 : w2.cell? ⟨g, 1, none⟩ = some (.int .i64 3) := A2.out.cell (by simp)
      go_wp2_with fail
      go_ret
      exact ⟨3, by omega, rfl, F2.out, R2.out⟩
  · have hm' : (m == 0) = false := by rw [beq_eq_false_iff_ne]; exact hm
    go_wp2_with fail
    refine (pick c (p + 1) _ _ R1.out (by omega) (by omega) (by omega)).mono ?_
    rintro e w2 ⟨n, n0, n1, rfl, hf, h2⟩
    have F2 := Lib.hid hf
    have R2 := Lib.hid h2
    clear hf h2 R1
    go_wp2_with fail
    go_ret
    exact ⟨(1 + n).toNat, by omega, ret_int (by omega), F1.out.trans F2.out, R2.out⟩

/-- a kind and a number. -/
def DrawnKN (w : World) (e : Ending) (w' : World) : Prop := ∃ (m : Nat) (n : Int), m ≤ 3 ∧ -1 ≤ n ∧ n ≤ 8 ∧ e = .returned (.tuple #[.int .i64 m, .int .i64 n]) ∧ Below w.heap.size w w'

set_option maxHeartbeats 1000000 in
set_option maxRecDepth 20000 in
theorem drawCodeRow (a : Option Addr) (len cap : Nat) (w : World) (h : Code w a len cap) : Calls Try.prog 30 #[.slice a len cap] w (DrawnKN w) := by
  have H := Lib.hid h
  clear h
  go_enter Try.func30, Try.ntmps30
  go_wp2_with fail
  refine (openR a len cap _ H.out).mono ?_
  rintro e w1 ⟨rfl, hb1, h1⟩
  have B1 := Lib.hid hb1
  have H1 := Lib.hid h1
  clear hb1 h1
  go_wp2_with fail
  refine (drawKind w.heap.size 0 _ H1.out (by omega)).mono ?_
  rintro e w2 ⟨m, hm, rfl, hf2, h2⟩
  have F2 := Lib.hid hf2
  have H2 := Lib.hid h2
  clear hf2 h2 H1
  go_wp2_with fail
  refine (pick w.heap.size (0 + 2) _ _ H2.out (by omega) (by omega) (by omega)).mono ?_
  rintro e w3 ⟨n, n0, n1, rfl, hf3, h3⟩
  have F3 := Lib.hid hf3
  clear hf3 h3
  go_wp2_with fail
  go_ret2
  exact ⟨m, n - 1, hm, by omega, by omega, rfl, B1.out.trans ((F2.out.trans F3.out).below (Nat.le_refl _) B1.out.size)⟩

set_option maxHeartbeats 1000000 in
set_option maxRecDepth 20000 in
theorem drawCodeMost (a : Option Addr) (len cap : Nat) (w : World) (h : Code w a len cap) : Calls Try.prog 44 #[.slice a len cap] w (Drawn1 0 3 w) := by
  have H := Lib.hid h
  clear h
  go_enter Try.func44, Try.ntmps44
  go_wp2_with fail
  refine (openR a len cap _ H.out).mono ?_
  rintro e w1 ⟨rfl, hb1, h1⟩
  have B1 := Lib.hid hb1
  have H1 := Lib.hid h1
  clear hb1 h1
  go_wp2_with fail
  refine (pick w.heap.size 0 _ _ H1.out (by omega) (by omega) (by omega)).mono ?_
  rintro e w2 ⟨m, m0, m1, rfl, hf2, h2⟩
  have F2 := Lib.hid hf2
  clear hf2 h2
  go_wp2_with fail
  go_ret
  exact ⟨m, by omega, by omega, rfl, B1.out.trans (F2.out.below (Nat.le_refl _) B1.out.size)⟩
end Go.Proofs.Ytbpkfcaokbidnab
