/-
  For whatever two slices of at most 2^20 integers PatchOf answers as its model does, writes into neither, and its answer is its own: the law FnExactPatchOf returns true.
  Conditions: none.
-/
import Derived.Test.YthglkgicckodaaaRows
import Derived.WalkKit
import Derived.ProofKit
import Derived.OpenShut
import Derived.ShutString
import Derived.ChangeOld
import Derived.Below
import Derived.Test.YthglkgicckodaaaG1
import Derived.Test.YthglkgicckodaaaAppendZeros
import Derived.Test.YthglkgicckodaaaG2
import Derived.Test.YthglkgicckodaaaG3
import Derived.Test.YthglkgicckodaaaPatchTab
import Derived.Test.YthglkgicckodaaaPatchMath
import Derived.Test.YthglkgicckodaaaPatchHelp
import Derived.Test.YthglkgicckodaaaPatchMark
import Derived.Test.YthglkgicckodaaaReadTake
import Derived.Test.YthglkgicckodaaaPatchP
import Derived.Test.YthglkgicckodaaaPatchP2
import Derived.Test.YthglkgicckodaaaPatchP3
import Derived.Test.YthglkgicckodaaaPatchP4
import Derived.Test.YthglkgicckodaaaPatchS
import Derived.Test.YthglkgicckodaaaPatchS2
namespace Go.Proofs.Ythglkgicckodaaa.fnExactPatchOf
open Go.ChangeShapes Go.WideShapes Go.ChangeAt Go.RowKit
set_option linter.unusedVariables false

theorem own : ownKnob Try.prog.godebug = none := by kernel_rfl
theorem laidOut : laidOutB Try.prog = true := by kernel_rfl

theorem apart_new {u v : Value} {n : Nat} (hu : ∀ k, u.ownBlock = some k → k < n) (hv : ∀ k, v.ownBlock = some k → n ≤ k) : u.ownBlock = none ∨ u.ownBlock ≠ v.ownBlock := by
  cases h : u.ownBlock with
  | none => exact .inl rfl
  | some k => exact .inr fun e => by have := hu k h; have := hv k e.symm; omega
theorem apart_sym {a b : Option Nat} (h : a = none ∨ a ≠ b) : b = none ∨ b ≠ a := by
  cases b with
  | none => exact .inl rfl
  | some k => exact .inr fun e => by subst e; exact h.elim (fun x => by cases x) fun x => x rfl

set_option maxHeartbeats 8000000 in
set_option maxRecDepth 20000 in
theorem walk (a0 : Option Addr) (len0 cap0 : Nat) (l0 : List Int) (a1 : Option Addr) (len1 cap1 : Nat) (l1 : List Int) (w : World) (e0 : len0 = l0.length) (c0 : len0 ≤ cap0) (m0 : cap0 ≤ maxLen) (w0 : Sl w (.slice a0 len0 cap0) l0) (e1 : len1 = l1.length) (c1 : len1 ≤ cap1) (m1 : cap1 ≤ maxLen) (w1 : Sl w (.slice a1 len1 cap1) l1) :
    Calls Try.prog 8 #[.slice a0 len0 cap0, .slice a1 len1 cap1] w fun e w' => e = .returned (.bool true) ∧ Below w.heap.size w w' := by
  have W0 : Hid (Sl w (.slice a0 len0 cap0) l0) := Lib.hid w0
  have hm0 : cap0 ≤ maxLen := m0
  unfold maxLen at hm0
  have E0 := Lib.hid e0
  clear w0 m0 e0
  have W1 : Hid (Sl w (.slice a1 len1 cap1) l1) := Lib.hid w1
  have hm1 : cap1 ≤ maxLen := m1
  unfold maxLen at hm1
  have E1 := Lib.hid e1
  clear w1 m1 e1
  by_cases hbig0 : (len0 : Int) > 1048576
  · go_enter Try.func8, Try.ntmps8
    go_wp2_with fail
    go_ret
    exact ⟨rfl, Below.refl _ _⟩
  have hl0 : l0.length ≤ 1048576 := by rw [← E0.out]; omega
  by_cases hbig1 : (len1 : Int) > 1048576
  · go_enter Try.func8, Try.ntmps8
    go_wp2_with fail
    go_ret
    exact ⟨rfl, Below.refl _ _⟩
  have hl1 : l1.length ≤ 1048576 := by rw [← E1.out]; omega
  obtain ⟨q, hq⟩ : ∃ q, patOf l0 l1 = q := ⟨_, rfl⟩
  have QL := Lib.hid (show q.length ≤ 4 by rw [← hq]; exact patOf_le l0 l1)
  have SP := Lib.hid (fun (u v : Value) (W : World) (h : Sl W u l0) (k : Sl W v l1) => hq ▸ specPatchOf u v l0 l1 W h k)
  have IP := Lib.hid (fun (u v : Value) (W : World) (h : Sl W u l0) (k : Sl W v l1) => hq ▸ implPatchOf u v l0 l1 W h k)
  clear hq
  go_enter Try.func8, Try.ntmps8
  go_wp2_with fail
  refine (toIntS _ l0 _ W0.out hl0).mono ?_
  rintro e w1 ⟨v1, rfl, hg, ho⟩
  have G1 := Lib.hid (hg)
  have A1 := Lib.hid (ho.lower (Nat.le_refl _))
  clear hg ho
  have A1B := Lib.hid A1.out
  go_wp2_with fail
  refine (toIntS _ l1 _ (W1.out.grown G1.out) hl1).mono ?_
  rintro e w2 ⟨v2, rfl, hg, ho⟩
  have G2 := Lib.hid (grown_trans G1.out hg)
  replace A1 := Lib.hid (A1.out.still hg)
  have NEA1A2 := Lib.hid (apart_new (u := v1) (v := v2) (fun k hk => (World.ownsRow.lt A1B.out k hk).2) (fun k hk => (World.ownsRow.lt ho k hk).1))
  have A2 := Lib.hid (ho.lower G1.out.size)
  clear hg ho G1
  clear A1B
  have A1B := Lib.hid A1.out
  have A2B := Lib.hid A2.out
  go_wp2_with fail
  refine (SP.out _ _ _ (A1.out.sl) (A2.out.sl)).mono ?_
  rintro e w3 ⟨v3, rfl, hg, ho⟩
  have G3 := Lib.hid (grown_trans G2.out hg)
  replace A1 := Lib.hid (A1.out.still hg)
  replace A2 := Lib.hid (A2.out.still hg)
  have NEA1S0 := Lib.hid (apart_new (u := v1) (v := v3) (fun k hk => (World.ownsRow.lt A1B.out k hk).2) (fun k hk => (World.ownsRow.lt ho k hk).1))
  have NEA2S0 := Lib.hid (apart_new (u := v2) (v := v3) (fun k hk => (World.ownsRow.lt A2B.out k hk).2) (fun k hk => (World.ownsRow.lt ho k hk).1))
  have S0 := Lib.hid (ho.lower G2.out.size)
  clear hg ho G2
  clear A1B A2B
  clear A1
  clear A2
  have S0B := Lib.hid S0.out
  go_wp2_with fail
  refine (toIntS _ l0 _ (W0.out.grown G3.out) hl0).mono ?_
  rintro e w4 ⟨v4, rfl, hg, ho⟩
  have G4 := Lib.hid (grown_trans G3.out hg)
  replace S0 := Lib.hid (S0.out.still hg)
  have NES0X0 := Lib.hid (apart_new (u := v3) (v := v4) (fun k hk => (World.ownsRow.lt S0B.out k hk).2) (fun k hk => (World.ownsRow.lt ho k hk).1))
  have X0 := Lib.hid (ho.lower G3.out.size)
  clear hg ho G3
  clear S0B
  have S0B := Lib.hid S0.out
  have X0B := Lib.hid X0.out
  go_wp2_with fail
  refine (toIntS _ l1 _ (W1.out.grown G4.out) hl1).mono ?_
  rintro e w5 ⟨v5, rfl, hg, ho⟩
  have G5 := Lib.hid (grown_trans G4.out hg)
  replace S0 := Lib.hid (S0.out.still hg)
  replace X0 := Lib.hid (X0.out.still hg)
  have NES0X1 := Lib.hid (apart_new (u := v3) (v := v5) (fun k hk => (World.ownsRow.lt S0B.out k hk).2) (fun k hk => (World.ownsRow.lt ho k hk).1))
  have NEX0X1 := Lib.hid (apart_new (u := v4) (v := v5) (fun k hk => (World.ownsRow.lt X0B.out k hk).2) (fun k hk => (World.ownsRow.lt ho k hk).1))
  have X1 := Lib.hid (ho.lower G4.out.size)
  clear hg ho G4
  clear S0B X0B
  have S0B := Lib.hid S0.out
  have X0B := Lib.hid X0.out
  have X1B := Lib.hid X1.out
  go_wp2_with fail
  refine (IP.out _ _ _ (X0.out.sl) (X1.out.sl)).mono ?_
  rintro e w6 ⟨v6, rfl, hg, ho⟩
  have G6 := Lib.hid (grown_trans G5.out hg)
  replace S0 := Lib.hid (S0.out.still hg)
  replace X0 := Lib.hid (X0.out.still hg)
  replace X1 := Lib.hid (X1.out.still hg)
  have NES0R0 := Lib.hid (apart_new (u := v3) (v := v6) (fun k hk => (World.ownsRow.lt S0B.out k hk).2) (fun k hk => (World.ownsRow.lt ho k hk).1))
  have NEX0R0 := Lib.hid (apart_new (u := v4) (v := v6) (fun k hk => (World.ownsRow.lt X0B.out k hk).2) (fun k hk => (World.ownsRow.lt ho k hk).1))
  have NEX1R0 := Lib.hid (apart_new (u := v5) (v := v6) (fun k hk => (World.ownsRow.lt X1B.out k hk).2) (fun k hk => (World.ownsRow.lt ho k hk).1))
  have R0 := Lib.hid (ho.lower G5.out.size)
  clear hg ho G5
  clear S0B X0B X1B
  go_wp2_with fail
  refine (eqPatchS _ _ q _ (R0.out.sl) (S0.out.sl)).mono ?_
  rintro e w7 ⟨rfl, hg⟩
  have G7 := Lib.hid (grown_trans G6.out hg)
  replace S0 := Lib.hid (S0.out.still hg)
  replace X0 := Lib.hid (X0.out.still hg)
  replace X1 := Lib.hid (X1.out.still hg)
  replace R0 := Lib.hid (R0.out.still hg)
  clear hg G6
  have S0B := Lib.hid S0.out
  have X0B := Lib.hid X0.out
  have X1B := Lib.hid X1.out
  have R0B := Lib.hid R0.out
  go_wp2_with fail
  refine (toIntS _ l0 _ (W0.out.grown G7.out) hl0).mono ?_
  rintro e w8 ⟨v8, rfl, hg, ho⟩
  have G8 := Lib.hid (grown_trans G7.out hg)
  replace S0 := Lib.hid (S0.out.still hg)
  replace X0 := Lib.hid (X0.out.still hg)
  replace X1 := Lib.hid (X1.out.still hg)
  replace R0 := Lib.hid (R0.out.still hg)
  have NES0T0 := Lib.hid (apart_new (u := v3) (v := v8) (fun k hk => (World.ownsRow.lt S0B.out k hk).2) (fun k hk => (World.ownsRow.lt ho k hk).1))
  have NEX0T0 := Lib.hid (apart_new (u := v4) (v := v8) (fun k hk => (World.ownsRow.lt X0B.out k hk).2) (fun k hk => (World.ownsRow.lt ho k hk).1))
  have NEX1T0 := Lib.hid (apart_new (u := v5) (v := v8) (fun k hk => (World.ownsRow.lt X1B.out k hk).2) (fun k hk => (World.ownsRow.lt ho k hk).1))
  have NER0T0 := Lib.hid (apart_new (u := v6) (v := v8) (fun k hk => (World.ownsRow.lt R0B.out k hk).2) (fun k hk => (World.ownsRow.lt ho k hk).1))
  have T0 := Lib.hid (ho.lower G7.out.size)
  clear hg ho G7
  clear S0B X0B X1B R0B
  go_wp2_with fail
  refine (eqSame _ _ l0 _ (X0.out.sl) (T0.out.sl)).mono ?_
  rintro e w9 ⟨rfl, hg⟩
  have G9 := Lib.hid (grown_trans G8.out hg)
  replace S0 := Lib.hid (S0.out.still hg)
  replace X0 := Lib.hid (X0.out.still hg)
  replace X1 := Lib.hid (X1.out.still hg)
  replace R0 := Lib.hid (R0.out.still hg)
  replace T0 := Lib.hid (T0.out.still hg)
  clear hg G8
  clear T0
  have S0B := Lib.hid S0.out
  have X0B := Lib.hid X0.out
  have X1B := Lib.hid X1.out
  have R0B := Lib.hid R0.out
  go_wp2_with fail
  refine (toIntS _ l1 _ (W1.out.grown G9.out) hl1).mono ?_
  rintro e w10 ⟨v10, rfl, hg, ho⟩
  have G10 := Lib.hid (grown_trans G9.out hg)
  replace S0 := Lib.hid (S0.out.still hg)
  replace X0 := Lib.hid (X0.out.still hg)
  replace X1 := Lib.hid (X1.out.still hg)
  replace R0 := Lib.hid (R0.out.still hg)
  have NES0T1 := Lib.hid (apart_new (u := v3) (v := v10) (fun k hk => (World.ownsRow.lt S0B.out k hk).2) (fun k hk => (World.ownsRow.lt ho k hk).1))
  have NEX0T1 := Lib.hid (apart_new (u := v4) (v := v10) (fun k hk => (World.ownsRow.lt X0B.out k hk).2) (fun k hk => (World.ownsRow.lt ho k hk).1))
  have NEX1T1 := Lib.hid (apart_new (u := v5) (v := v10) (fun k hk => (World.ownsRow.lt X1B.out k hk).2) (fun k hk => (World.ownsRow.lt ho k hk).1))
  have NER0T1 := Lib.hid (apart_new (u := v6) (v := v10) (fun k hk => (World.ownsRow.lt R0B.out k hk).2) (fun k hk => (World.ownsRow.lt ho k hk).1))
  have T1 := Lib.hid (ho.lower G9.out.size)
  clear hg ho G9
  clear S0B X0B X1B R0B
  go_wp2_with fail
  refine (eqSame _ _ l1 _ (X1.out.sl) (T1.out.sl)).mono ?_
  rintro e w11 ⟨rfl, hg⟩
  have G11 := Lib.hid (grown_trans G10.out hg)
  replace S0 := Lib.hid (S0.out.still hg)
  replace X0 := Lib.hid (X0.out.still hg)
  replace X1 := Lib.hid (X1.out.still hg)
  replace R0 := Lib.hid (R0.out.still hg)
  replace T1 := Lib.hid (T1.out.still hg)
  clear hg G10
  clear T1
  go_wp2_with fail
  refine (markIntS _ l0 1 w.heap.size _ X0.out hl0 (by omega) (by omega)).mono ?_
  rintro e w12 ⟨rfl, hg, ho⟩
  have G12 := Lib.hid (grown_own G11.out hg (fun k hk => (World.ownsRow.lt X0.out k hk).1))
  replace S0 := Lib.hid (S0.out.kept hg NES0X0.out)
  replace X1 := Lib.hid (X1.out.kept hg (apart_sym NEX0X1.out))
  replace R0 := Lib.hid (R0.out.kept hg (apart_sym NEX0R0.out))
  replace X0 := Lib.hid ho
  clear hg ho G11
  go_wp2_with fail
  refine (markIntS _ l1 _ w.heap.size _ X1.out hl1 (by omega) (by omega)).mono ?_
  rintro e w13 ⟨rfl, hg, ho⟩
  have G13 := Lib.hid (grown_own G12.out hg (fun k hk => (World.ownsRow.lt X1.out k hk).1))
  replace S0 := Lib.hid (S0.out.kept hg NES0X1.out)
  replace X0 := Lib.hid (X0.out.kept hg NEX0X1.out)
  replace R0 := Lib.hid (R0.out.kept hg (apart_sym NEX1R0.out))
  replace X1 := Lib.hid ho
  clear hg ho G12
  clear X0 X1 NEX0R0 NEX1R0 NEX0X1 NES0X0 NES0X1
  go_wp2_with fail
  refine (eqPatchS _ _ q _ (R0.out.sl) (S0.out.sl)).mono ?_
  rintro e w14 ⟨rfl, hg⟩
  have G14 := Lib.hid (grown_trans G13.out hg)
  replace S0 := Lib.hid (S0.out.still hg)
  replace R0 := Lib.hid (R0.out.still hg)
  clear hg G13
  have ql := QL.out
  go_wp2_with fail
  refine (markPatchS _ q 1 w.heap.size _ R0.out (by omega) (by omega) (by omega)).mono ?_
  rintro e w15 ⟨rfl, hg, ho⟩
  have G15 := Lib.hid (grown_own G14.out hg (fun k hk => (World.ownsRow.lt R0.out k hk).1))
  replace S0 := Lib.hid (S0.out.kept hg NES0R0.out)
  replace R0 := Lib.hid ho
  clear hg ho G14
  go_wp2_with fail
  refine (heldPatchS _ q.length 1 _ (R0.out.sl) (by omega) (by omega) (by omega)).mono ?_
  rintro e w' ⟨rfl, rfl⟩
  have nz : (1 + 2 * (q.length : Int) != 1 + 2 * (q.length : Int)) = false := by simp
  have S0B := Lib.hid S0.out
  have R0B := Lib.hid R0.out
  go_wp2_with fail
  refine (toIntS _ l0 _ (W0.out.grown G15.out) hl0).mono ?_
  rintro e w16 ⟨v15, rfl, hg, ho⟩
  have G16 := Lib.hid (grown_trans G15.out hg)
  replace S0 := Lib.hid (S0.out.still hg)
  replace R0 := Lib.hid (R0.out.still hg)
  have NES0A1 := Lib.hid (apart_new (u := v3) (v := v15) (fun k hk => (World.ownsRow.lt S0B.out k hk).2) (fun k hk => (World.ownsRow.lt ho k hk).1))
  have NER0A1 := Lib.hid (apart_new (u := v6) (v := v15) (fun k hk => (World.ownsRow.lt R0B.out k hk).2) (fun k hk => (World.ownsRow.lt ho k hk).1))
  have A1 := Lib.hid (ho.lower G15.out.size)
  clear hg ho G15
  clear S0B R0B
  have S0B := Lib.hid S0.out
  have R0B := Lib.hid R0.out
  have A1B := Lib.hid A1.out
  go_wp2_with fail
  refine (toIntS _ l1 _ (W1.out.grown G16.out) hl1).mono ?_
  rintro e w17 ⟨v16, rfl, hg, ho⟩
  have G17 := Lib.hid (grown_trans G16.out hg)
  replace S0 := Lib.hid (S0.out.still hg)
  replace R0 := Lib.hid (R0.out.still hg)
  replace A1 := Lib.hid (A1.out.still hg)
  have NES0A2 := Lib.hid (apart_new (u := v3) (v := v16) (fun k hk => (World.ownsRow.lt S0B.out k hk).2) (fun k hk => (World.ownsRow.lt ho k hk).1))
  have NER0A2 := Lib.hid (apart_new (u := v6) (v := v16) (fun k hk => (World.ownsRow.lt R0B.out k hk).2) (fun k hk => (World.ownsRow.lt ho k hk).1))
  have NEA1A2 := Lib.hid (apart_new (u := v15) (v := v16) (fun k hk => (World.ownsRow.lt A1B.out k hk).2) (fun k hk => (World.ownsRow.lt ho k hk).1))
  have A2 := Lib.hid (ho.lower G16.out.size)
  clear hg ho G16
  clear S0B R0B A1B
  have S0B := Lib.hid S0.out
  have R0B := Lib.hid R0.out
  have A1B := Lib.hid A1.out
  have A2B := Lib.hid A2.out
  go_wp2_with fail
  refine (IP.out _ _ _ (A1.out.sl) (A2.out.sl)).mono ?_
  rintro e w18 ⟨v17, rfl, hg, ho⟩
  have G18 := Lib.hid (grown_trans G17.out hg)
  replace S0 := Lib.hid (S0.out.still hg)
  replace R0 := Lib.hid (R0.out.still hg)
  replace A1 := Lib.hid (A1.out.still hg)
  replace A2 := Lib.hid (A2.out.still hg)
  have NES0H0 := Lib.hid (apart_new (u := v3) (v := v17) (fun k hk => (World.ownsRow.lt S0B.out k hk).2) (fun k hk => (World.ownsRow.lt ho k hk).1))
  have NER0H0 := Lib.hid (apart_new (u := v6) (v := v17) (fun k hk => (World.ownsRow.lt R0B.out k hk).2) (fun k hk => (World.ownsRow.lt ho k hk).1))
  have NEA1H0 := Lib.hid (apart_new (u := v15) (v := v17) (fun k hk => (World.ownsRow.lt A1B.out k hk).2) (fun k hk => (World.ownsRow.lt ho k hk).1))
  have NEA2H0 := Lib.hid (apart_new (u := v16) (v := v17) (fun k hk => (World.ownsRow.lt A2B.out k hk).2) (fun k hk => (World.ownsRow.lt ho k hk).1))
  have H0 := Lib.hid (ho.lower G17.out.size)
  clear hg ho G17
  clear S0B R0B A1B A2B
  clear A1
  clear A2
  go_wp2_with fail
  refine (eqPatchS _ _ q _ (H0.out.sl) (S0.out.sl)).mono ?_
  rintro e w19 ⟨rfl, hg⟩
  have G19 := Lib.hid (grown_trans G18.out hg)
  replace S0 := Lib.hid (S0.out.still hg)
  replace R0 := Lib.hid (R0.out.still hg)
  replace H0 := Lib.hid (H0.out.still hg)
  clear hg G18
  go_wp2_with fail
  refine (heldPatchS _ q.length 1 _ (R0.out.sl) (by omega) (by omega) (by omega)).mono ?_
  rintro e w' ⟨rfl, rfl⟩
  go_wp2_with fail
  go_ret
  exact ⟨rfl, below_grown G19.out⟩

set_option maxRecDepth 100000 in
theorem lifted (os : Os) (started : os.Started) (H : Type) (enc : TypeId × Value → H) :
    ReturnsInHanded {} Try.checked os 8 .any (Rows.fnExactPatchOfSpec.pre6 enc Try.prog Try.f8 Rows.fnExactPatchOfRow.domain false) (Rows.fnExactPatchOfSpec.post enc Try.prog Try.f8 false true false false) := by
  refine returnsInHanded_of_change (C := Try.checked) own started (by kernel_rfl) Try.func8
    (ChangeSpec.witness6 (enc := enc) (C := Try.checked) false ⟨#[], #[.slice none 0 0, .slice none 0 0], []⟩ 8 (by kernel_rfl) (by kernel_rfl) (by kernel_rfl) (by kernel_rfl)) ?_
  intro W base args ds gs before hval0 hW hcnd _
  have hval : ∀ (j : Nat) t v, Try.f8.params[j]? = some t → args[j]? = some v → Value.okWide Try.prog W .any base t v := hval0
  have hW' := hW
  obtain ⟨p, q, hA0, hV, rfl, hfz, hnd⟩ := hW
  have hA : DataW.TrodAll enc Try.prog W 0 (fun _ => true) true Try.f8.params.toList args.toList ds p := hA0
  rw [Try.params8] at hA hval
  obtain ⟨v0, vs0, d0, ds0, p0, q0, hargs, rfl, rfl, h0, r0⟩ := trodAll_cons hA
  obtain ⟨v1, vs1, d1, ds1, p1, q1, rfl, rfl, rfl, h1, r1⟩ := trodAll_cons r0
  obtain ⟨rfl, rfl, rfl⟩ := trodAll_nil r1
  obtain rfl : args = #[v0, v1] := by cases args; simp_all
  obtain ⟨rfl, rfl⟩ := trodVars_none hV
  obtain ⟨a0, len0, cap0, rfl⟩ := okWide_slice Try.underlying23 (hval 0 23 v0 rfl rfl)
  have k0 := h0
  have lt0 : ∀ x ∈ p0, x.block < W.heap.size := by obtain ⟨m, hm⟩ := k0; exact DataW.trod_lt m _ _ _ hm
  obtain ⟨z0, r0⟩ : ∃ zs : List Int, (a0 = none ∧ len0 = 0 ∧ cap0 = 0 ∧ zs = []) ∨ ∃ x, a0 = some x ∧ len0 ≤ cap0 ∧ cap0 ≤ maxLen ∧ zs.length = cap0 ∧ (∀ i, i < zs.length → W.cell? (x.add i) = some (.int .i64 (zs.getD i 0))) ∧ ∀ n ∈ zs, (Lit.int .i64 n).wf = true := by
    obtain ⟨fuel, hf⟩ := h0
    rcases open_ints Try.underlying23 Try.underlying3 (by kernel_rfl) hf with ⟨hcs, _⟩ | ⟨x, l, c, zs, hcs, _, hl, hm, hz, _, hcell, hwz⟩
    · simp [Value.cells] at hcs
      obtain ⟨rfl, rfl, rfl⟩ := hcs
      exact ⟨[], .inl ⟨rfl, rfl, rfl, rfl⟩⟩
    · simp [Value.cells] at hcs
      obtain ⟨rfl, rfl, rfl⟩ := hcs
      exact ⟨zs, .inr ⟨_, rfl, hl, hm, by simpa using hz, hcell, hwz⟩⟩
  obtain ⟨l0, e0, c0, m0, w0⟩ := sl_of r0
  obtain ⟨a1, len1, cap1, rfl⟩ := okWide_slice Try.underlying23 (hval 1 23 v1 rfl rfl)
  have k1 := h1
  have lt1 : ∀ x ∈ p1, x.block < W.heap.size := by obtain ⟨m, hm⟩ := k1; exact DataW.trod_lt m _ _ _ hm
  obtain ⟨z1, r1⟩ : ∃ zs : List Int, (a1 = none ∧ len1 = 0 ∧ cap1 = 0 ∧ zs = []) ∨ ∃ x, a1 = some x ∧ len1 ≤ cap1 ∧ cap1 ≤ maxLen ∧ zs.length = cap1 ∧ (∀ i, i < zs.length → W.cell? (x.add i) = some (.int .i64 (zs.getD i 0))) ∧ ∀ n ∈ zs, (Lit.int .i64 n).wf = true := by
    obtain ⟨fuel, hf⟩ := h1
    rcases open_ints Try.underlying23 Try.underlying3 (by kernel_rfl) hf with ⟨hcs, _⟩ | ⟨x, l, c, zs, hcs, _, hl, hm, hz, _, hcell, hwz⟩
    · simp [Value.cells] at hcs
      obtain ⟨rfl, rfl, rfl⟩ := hcs
      exact ⟨[], .inl ⟨rfl, rfl, rfl, rfl⟩⟩
    · simp [Value.cells] at hcs
      obtain ⟨rfl, rfl, rfl⟩ := hcs
      exact ⟨zs, .inr ⟨_, rfl, hl, hm, by simpa using hz, hcell, hwz⟩⟩
  obtain ⟨l1, e1, c1, m1, w1⟩ := sl_of r1
  clear hA0 hval0
  refine (walk a0 len0 cap0 l0 a1 len1 cap1 l1 W e0 c0 m0 w0 e1 c1 m1 w1).mono fun e W' ⟨he, bel⟩ => ?_
  subst he
  exact ⟨_, rfl, _, _, _, [], _, [], hW', trodAll_mk1 (shut_bool Try.underlying4 _), (trodAll_cons_mk (Below.trod laidOut (by kernel_rfl) (of_decide_eq_true (by kernel_rfl)) k0 bel lt0) (trodAll_cons_mk (Below.trod laidOut (by kernel_rfl) (of_decide_eq_true (by kernel_rfl)) k1 bel lt1) trodAll_mk0)), rfl, bel.frame _, fun h => by cases h⟩

theorem over : Rows.fnExactPatchOfRow.holds Try.pinned (OpenSpec.ofChange Rows.fnExactPatchOfSpec) :=
  OpenClaim.holds_of_wide 8 Try.f8 rfl rfl rfl rfl rfl rfl rfl ⟨rfl, rfl, rfl, rfl, rfl⟩ rfl rfl rfl rfl rfl (by kernel_rfl) Try.func8 (by kernel_rfl)
    (of_decide_eq_true (by kernel_rfl)) (by unfold Func.isWrapper; first | (rw [if_pos (by decide +kernel)]; kernel_rfl) | (rw [if_neg (by decide +kernel)]; exact ⟨rfl, rfl⟩))
    (fun os started H enc _ => lifted os started H enc)

theorem proved : Rows.FnExactPatchOfSaid := over
#print axioms proved
end Go.Proofs.Ythglkgicckodaaa.fnExactPatchOf
