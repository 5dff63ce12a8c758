/-
  For whatever stripe of at most 2^20 numbers and flags, and whatever integer StripeMend answers as its model does, writes into no argument, and its answer owns its memory: the law FnExactStripeMend returns true.
  Conditions: none.
-/
import Derived.Test.YthglkgicckodaaaRows
import Derived.WalkKit
import Derived.ProofKit
import Derived.OpenShut
import Derived.ShutString
import Derived.ChangeOld
import Derived.Below
import Derived.Test.YthglkgicckodaaaZG1
import Derived.Test.YthglkgicckodaaaZAppendZeros
import Derived.Test.YthglkgicckodaaaZG2
import Derived.Test.YthglkgicckodaaaZSpanSame
import Derived.Test.YthglkgicckodaaaZG3
import Derived.Test.YthglkgicckodaaaZG4
import Derived.Test.YthglkgicckodaaaZP1
import Derived.Test.YthglkgicckodaaaZP2
import Derived.Test.YthglkgicckodaaaZP3
import Derived.Test.YthglkgicckodaaaZP4
import Derived.Test.YthglkgicckodaaaZReadMath
import Derived.Test.YthglkgicckodaaaZReadSpec
import Derived.Test.YthglkgicckodaaaZReadTake
import Derived.Test.YthglkgicckodaaaZReadProg
import Derived.Test.YthglkgicckodaaaZReadTop
import Derived.Test.YthglkgicckodaaaZReadTop2
import Derived.Test.YthglkgicckodaaaZReadTop3
import Derived.Test.YthglkgicckodaaaZReadSpec2
import Derived.Test.YthglkgicckodaaaZReadSpec3
import Derived.Test.YthglkgicckodaaaZStripeMath
import Derived.Test.YthglkgicckodaaaZStripeBlk
import Derived.Test.YthglkgicckodaaaZStripeClean
import Derived.Test.YthglkgicckodaaaZStripeVers
import Derived.Test.YthglkgicckodaaaZStripeFits
import Derived.Test.YthglkgicckodaaaZStripeOf
import Derived.Test.YthglkgicckodaaaZStripeOps
import Derived.Test.YthglkgicckodaaaZStripeBest
import Derived.Test.YthglkgicckodaaaZStripePub
import Derived.Test.YthglkgicckodaaaZStripeTop
import Derived.Test.YthglkgicckodaaaZStripeTop2
import Derived.Test.YthglkgicckodaaaZStripeSpec
import Derived.Test.YthglkgicckodaaaZStripeSpec2
import Derived.Test.YthglkgicckodaaaZStripeSpec3
import Derived.Test.YthglkgicckodaaaZStripeCopy
import Derived.Test.YthglkgicckodaaaZStripeSpec4
import Derived.Test.YthglkgicckodaaaZStripeNewS
import Derived.Test.YthglkgicckodaaaZStripePutS
import Derived.Test.YthglkgicckodaaaZStripeWriteS
import Derived.Test.YthglkgicckodaaaZStripeHelp
import Derived.Test.YthglkgicckodaaaZStripeArg
import Derived.Test.YthglkgicckodaaaZStripeMark
import Derived.Test.YthglkgicckodaaaZStripeMendS
import Derived.Test.YthglkgicckodaaaZStripeMendP
import Derived.Test.YthglkgicckodaaaZStripeMendS2
import Derived.Test.YthglkgicckodaaaZStripeMendP2
namespace Go.Proofs.Ythglkgicckodaaa.fnExactStripeMend
open Go.ChangeShapes Go.WideShapes Go.ChangeAt Go.RowKit
set_option linter.unusedVariables false

theorem own : ownKnob Try.prog.godebug = none := by kernel_rfl
theorem laidOut : laidOutB Try.prog = true := by kernel_rfl

/-- what the comparing of the argument holds. -/
def TwoBlk (bp g : Nat) (cs ds : List Value) (W : World) : Prop := Blk W bp 43 cs ∧ Blk W g 45 ds
theorem smendT_len {k : Int} {a v : List Int} {f : List Bool} {n k' : Int} {a' v' : List Int} {f' : List Bool} {b : Bool} (h : SMendT k a v f n k' a' v' f' b) : a'.length ≤ 1048576 ∧ v'.length ≤ 1048576 ∧ f'.length ≤ 1048576 := by
  rcases h with ⟨h, m, _, _, _, hm⟩ | ⟨_, _, rfl, rfl, rfl, _⟩
  · obtain ⟨h1, h2, h3⟩ := hm.lens (shOk_row.1 h.sh).1 h.v8 h.f8
    rw [h1, h2, h3]; omega
  · simp

set_option maxHeartbeats 8000000 in
set_option maxRecDepth 20000 in
theorem walk (n0 : Int) (x0 y0 z0 : Value) (l0 m0 : List Int) (g0 : List Bool) (a1 : Int) (w : World) (wx0 : Sl w x0 l0) (wy0 : Sl w y0 m0) (wz0 : Bl w z0 g0) (w1 : (Lit.int .i64 a1).wf = true) :
    Calls Try.prog 6 #[.agg #[.int .i64 n0, x0, y0, z0], .int .i64 a1] w fun e w' => e = .returned (.bool true) ∧ Below w.heap.size w w' := by
  generalize a1 = at_ at *
  have U := Lib.hid wx0
  have X := Lib.hid wy0
  have Y := Lib.hid wz0
  obtain ⟨a1, c1, e1, -, -, -⟩ := wx0
  obtain ⟨a2, c2, e2, -, -, -⟩ := wy0
  obtain ⟨a3, c3, e3, -, -, -⟩ := wz0
  subst e1 e2 e3
  obtain ⟨l1, hl1⟩ : ∃ n, n = l0.length := ⟨_, rfl⟩
  obtain ⟨l2, hl2⟩ : ∃ n, n = m0.length := ⟨_, rfl⟩
  obtain ⟨l3, hl3⟩ : ∃ n, n = g0.length := ⟨_, rfl⟩
  rw [← hl1] at U ⊢
  rw [← hl2] at X ⊢
  rw [← hl3] at Y ⊢
  have NL1 := Lib.hid hl1
  have NL2 := Lib.hid hl2
  have NL3 := Lib.hid hl3
  clear hl1 hl2 hl3
  have L0 := Lib.hid ((Lives.start w).newBlk (World.grownBy_alloc w (.cells #[.int .i64 n0, .slice a1 l1 c1, .slice a2 l2 c2, .slice a3 l3 c3] 43) none) (heap_alloc_new _ _ : Blk (w.alloc (.cells #[.int .i64 n0, .slice a1 l1 c1, .slice a2 l2 c2, .slice a3 l3 c3] 43)) w.heap.size 43 [.int .i64 n0, .slice a1 l1 c1, .slice a2 l2 c2, .slice a3 l3 c3]) (Nat.le_refl _) (by simp [maxLen]) (by simp [Value.oneCell']))
  have EC1 := enters_of (P := Try.prog) Try.func25 (by kernel_rfl) rfl
  have EC2 := enters_of (P := Try.prog) Try.func27 (by kernel_rfl) rfl
  go_enter Try.func6, Try.ntmps6
  go_upto_region 1 with fail
  generalize w.alloc (.cells #[.int .i64 n0, .slice a1 l1 c1, .slice a2 l2 c2, .slice a3 l3 c3] 43) = W0 at *
  obtain ⟨bp, hbp⟩ : ∃ b, b = w.heap.size := ⟨_, rfl⟩
  rw [← hbp] at L0
  rw [← hbp]
  clear hbp
  have k0 := (L0.out.blk (g := bp) (t := 43) (cs := [.int .i64 n0, .slice a1 l1 c1, .slice a2 l2 c2, .slice a3 l3 c3]) (by simp)).cell (i := 0) rfl
  have k1 := (L0.out.blk (g := bp) (t := 43) (cs := [.int .i64 n0, .slice a1 l1 c1, .slice a2 l2 c2, .slice a3 l3 c3]) (by simp)).cell (i := 1) rfl
  have k2 := (L0.out.blk (g := bp) (t := 43) (cs := [.int .i64 n0, .slice a1 l1 c1, .slice a2 l2 c2, .slice a3 l3 c3]) (by simp)).cell (i := 2) rfl
  have k3 := (L0.out.blk (g := bp) (t := 43) (cs := [.int .i64 n0, .slice a1 l1 c1, .slice a2 l2 c2, .slice a3 l3 c3]) (by simp)).cell (i := 3) rfl
  go_wp2_with fail
  refine (szStripe n0 _ _ _ l0 m0 g0 _ (L0.out.arg1 U.out) (L0.out.arg1 X.out) (L0.out.argB Y.out)).mono ?_
  rintro e W1 ⟨⟨q, rfl, hq⟩, hg⟩
  have L1 := Lib.hid (L0.out.still hg)
  clear hg L0
  clear k0 k1 k2 k3
  by_cases hq0 : q < 0
  · clear hq
    go_wp2_with fail
    go_ret
    exact ⟨rfl, L1.out.below⟩
  have hl : l0.length ≤ 1048576 ∧ m0.length ≤ 1048576 ∧ g0.length ≤ 1048576 := by
    rcases hq with h | h
    · exact absurd h hq0
    · exact ⟨h.2.1, h.2.2.1, h.2.2.2⟩
  clear hq
  have k0 := (L1.out.blk (g := bp) (t := 43) (cs := [.int .i64 n0, .slice a1 l1 c1, .slice a2 l2 c2, .slice a3 l3 c3]) (by simp)).cell (i := 0) rfl
  have k1 := (L1.out.blk (g := bp) (t := 43) (cs := [.int .i64 n0, .slice a1 l1 c1, .slice a2 l2 c2, .slice a3 l3 c3]) (by simp)).cell (i := 1) rfl
  have k2 := (L1.out.blk (g := bp) (t := 43) (cs := [.int .i64 n0, .slice a1 l1 c1, .slice a2 l2 c2, .slice a3 l3 c3]) (by simp)).cell (i := 2) rfl
  have k3 := (L1.out.blk (g := bp) (t := 43) (cs := [.int .i64 n0, .slice a1 l1 c1, .slice a2 l2 c2, .slice a3 l3 c3]) (by simp)).cell (i := 3) rfl
  go_wp2_with fail
  refine (toStripe n0 _ _ _ l0 m0 g0 _ (L1.out.arg1 U.out) (L1.out.arg1 X.out) (L1.out.argB Y.out) hl.1 hl.2.1 hl.2.2).mono ?_
  rintro e W2 ⟨us, xs, ys, rfl, hg, ho⟩
  obtain ⟨as1, cs1, e1, -, -, -⟩ := ho.a
  obtain ⟨as2, cs2, e2, -, -, -⟩ := ho.v
  obtain ⟨as3, cs3, e3, -, -, -⟩ := ho.f
  rw [← NL1.out] at e1
  rw [← NL2.out] at e2
  rw [← NL3.out] at e3
  subst e1 e2 e3
  have L2 := Lib.hid (L1.out.newSt hg ho)
  clear hg ho L1
  clear k0 k1 k2 k3
  go_wp2_with fail
  refine (specStripeMend n0 _ _ _ l0 m0 g0 at_ _ (L2.out.sl (v := (.slice as1 l1 cs1)) (l := l0) (by simp)) (L2.out.sl (v := (.slice as2 l2 cs2)) (l := m0) (by simp)) (L2.out.bl (v := (.slice as3 l3 cs3)) (l := g0) (by simp)) hl.1).mono ?_
  rintro e W3 ⟨K, R1, R2, R3, bb, hT, ur, xr, yr, rfl, hg, ho⟩
  have QT := Lib.hid hT
  have nb : (bb != bb) = false := by simp
  have hr := smendT_len hT
  clear hT
  obtain ⟨r1, hr1⟩ : ∃ n, n = R1.length := ⟨_, rfl⟩
  obtain ⟨r2, hr2⟩ : ∃ n, n = R2.length := ⟨_, rfl⟩
  obtain ⟨r3, hr3⟩ : ∃ n, n = R3.length := ⟨_, rfl⟩
  have RL1 := Lib.hid hr1
  have RL2 := Lib.hid hr2
  have RL3 := Lib.hid hr3
  clear hr1 hr2 hr3
  obtain ⟨ar1, cr1, e1, -, -, -⟩ := ho.a
  obtain ⟨ar2, cr2, e2, -, -, -⟩ := ho.v
  obtain ⟨ar3, cr3, e3, -, -, -⟩ := ho.f
  rw [← RL1.out] at e1
  rw [← RL2.out] at e2
  rw [← RL3.out] at e3
  subst e1 e2 e3
  have L3 := Lib.hid (L2.out.newSt hg ho)
  clear hg ho L2
  have L4 := Lib.hid (L3.out.newBlk (World.grownBy_alloc W3 (.cells #[.int .i64 K, .slice ar1 r1 cr1, .slice ar2 r2 cr2, .slice ar3 r3 cr3] 45) none) (heap_alloc_new _ _ : Blk (W3.alloc (.cells #[.int .i64 K, .slice ar1 r1 cr1, .slice ar2 r2 cr2, .slice ar3 r3 cr3] 45)) W3.heap.size 45 [.int .i64 K, .slice ar1 r1 cr1, .slice ar2 r2 cr2, .slice ar3 r3 cr3]) (Nat.le_refl _) (by simp [maxLen]) (by simp [Value.oneCell']))
  clear L3
  go_upto_region 6 with fail
  generalize W3.alloc (.cells #[.int .i64 K, .slice ar1 r1 cr1, .slice ar2 r2 cr2, .slice ar3 r3 cr3] 45) = W4 at *
  generalize W3.heap.size = g6 at *
  have k0 := (L4.out.blk (g := bp) (t := 43) (cs := [.int .i64 n0, .slice a1 l1 c1, .slice a2 l2 c2, .slice a3 l3 c3]) (by simp)).cell (i := 0) rfl
  have k1 := (L4.out.blk (g := bp) (t := 43) (cs := [.int .i64 n0, .slice a1 l1 c1, .slice a2 l2 c2, .slice a3 l3 c3]) (by simp)).cell (i := 1) rfl
  have k2 := (L4.out.blk (g := bp) (t := 43) (cs := [.int .i64 n0, .slice a1 l1 c1, .slice a2 l2 c2, .slice a3 l3 c3]) (by simp)).cell (i := 2) rfl
  have k3 := (L4.out.blk (g := bp) (t := 43) (cs := [.int .i64 n0, .slice a1 l1 c1, .slice a2 l2 c2, .slice a3 l3 c3]) (by simp)).cell (i := 3) rfl
  go_wp2_with fail
  refine (toStripe n0 _ _ _ l0 m0 g0 _ (L4.out.arg1 U.out) (L4.out.arg1 X.out) (L4.out.argB Y.out) hl.1 hl.2.1 hl.2.2).mono ?_
  rintro e W5 ⟨ut, xt, yt, rfl, hg, ho⟩
  obtain ⟨at1, ct1, e1, -, -, -⟩ := ho.a
  obtain ⟨at2, ct2, e2, -, -, -⟩ := ho.v
  obtain ⟨at3, ct3, e3, -, -, -⟩ := ho.f
  rw [← NL1.out] at e1
  rw [← NL2.out] at e2
  rw [← NL3.out] at e3
  subst e1 e2 e3
  have L5 := Lib.hid (L4.out.newSt hg ho)
  clear hg ho L4
  clear k0 k1 k2 k3
  have L6 := Lib.hid (L5.out.newBlk (World.grownBy_alloc W5 (.cells #[.int .i64 n0, .slice at1 l1 ct1, .slice at2 l2 ct2, .slice at3 l3 ct3] 45) none) (heap_alloc_new _ _ : Blk (W5.alloc (.cells #[.int .i64 n0, .slice at1 l1 ct1, .slice at2 l2 ct2, .slice at3 l3 ct3] 45)) W5.heap.size 45 [.int .i64 n0, .slice at1 l1 ct1, .slice at2 l2 ct2, .slice at3 l3 ct3]) (Nat.le_refl _) (by simp [maxLen]) (by simp [Value.oneCell']))
  clear L5
  go_upto_region 7 with fail
  generalize W5.alloc (.cells #[.int .i64 n0, .slice at1 l1 ct1, .slice at2 l2 ct2, .slice at3 l3 ct3] 45) = W6 at *
  generalize W5.heap.size = g7 at *
  have j0 := (L6.out.blk (g := g7) (t := 45) (cs := [.int .i64 n0, .slice at1 l1 ct1, .slice at2 l2 ct2, .slice at3 l3 ct3]) (by simp)).cell (i := 0) rfl
  have j1 := (L6.out.blk (g := g7) (t := 45) (cs := [.int .i64 n0, .slice at1 l1 ct1, .slice at2 l2 ct2, .slice at3 l3 ct3]) (by simp)).cell (i := 1) rfl
  have j2 := (L6.out.blk (g := g7) (t := 45) (cs := [.int .i64 n0, .slice at1 l1 ct1, .slice at2 l2 ct2, .slice at3 l3 ct3]) (by simp)).cell (i := 2) rfl
  have j3 := (L6.out.blk (g := g7) (t := 45) (cs := [.int .i64 n0, .slice at1 l1 ct1, .slice at2 l2 ct2, .slice at3 l3 ct3]) (by simp)).cell (i := 3) rfl
  go_wp2_with fail
  refine (implStripeMend n0 _ _ _ l0 m0 g0 at_ _ (L6.out.sl (v := (.slice at1 l1 ct1)) (l := l0) (by simp)) (L6.out.sl (v := (.slice at2 l2 ct2)) (l := m0) (by simp)) (L6.out.bl (v := (.slice at3 l3 ct3)) (l := g0) (by simp))).mono ?_
  rintro e W7 ⟨K', R1', R2', R3', bb', hT, uo, xo, yo, rfl, hg, ho⟩
  obtain ⟨rfl, rfl, rfl, rfl, rfl⟩ := SMendT.one QT.out hT
  clear hT
  obtain ⟨ao1, co1, e1, -, -, -⟩ := ho.a
  obtain ⟨ao2, co2, e2, -, -, -⟩ := ho.v
  obtain ⟨ao3, co3, e3, -, -, -⟩ := ho.f
  rw [← RL1.out] at e1
  rw [← RL2.out] at e2
  rw [← RL3.out] at e3
  subst e1 e2 e3
  have L7 := Lib.hid (L6.out.newSt hg ho)
  clear hg ho L6
  clear j0 j1 j2 j3
  have L8 := Lib.hid (L7.out.newBlk (World.grownBy_alloc W7 (.cells #[.int .i64 K, .slice ao1 r1 co1, .slice ao2 r2 co2, .slice ao3 r3 co3] 45) none) (heap_alloc_new _ _ : Blk (W7.alloc (.cells #[.int .i64 K, .slice ao1 r1 co1, .slice ao2 r2 co2, .slice ao3 r3 co3] 45)) W7.heap.size 45 [.int .i64 K, .slice ao1 r1 co1, .slice ao2 r2 co2, .slice ao3 r3 co3]) (Nat.le_refl _) (by simp [maxLen]) (by simp [Value.oneCell']))
  clear L7
  go_upto_region 8 with fail
  generalize W7.alloc (.cells #[.int .i64 K, .slice ao1 r1 co1, .slice ao2 r2 co2, .slice ao3 r3 co3] 45) = W8 at *
  generalize W7.heap.size = g8 at *
  have i0 := (L8.out.blk (g := g8) (t := 45) (cs := [.int .i64 K, .slice ao1 r1 co1, .slice ao2 r2 co2, .slice ao3 r3 co3]) (by simp)).cell (i := 0) rfl
  have i1 := (L8.out.blk (g := g8) (t := 45) (cs := [.int .i64 K, .slice ao1 r1 co1, .slice ao2 r2 co2, .slice ao3 r3 co3]) (by simp)).cell (i := 1) rfl
  have i2 := (L8.out.blk (g := g8) (t := 45) (cs := [.int .i64 K, .slice ao1 r1 co1, .slice ao2 r2 co2, .slice ao3 r3 co3]) (by simp)).cell (i := 2) rfl
  have i3 := (L8.out.blk (g := g8) (t := 45) (cs := [.int .i64 K, .slice ao1 r1 co1, .slice ao2 r2 co2, .slice ao3 r3 co3]) (by simp)).cell (i := 3) rfl
  have j0 := (L8.out.blk (g := g6) (t := 45) (cs := [.int .i64 K, .slice ar1 r1 cr1, .slice ar2 r2 cr2, .slice ar3 r3 cr3]) (by simp)).cell (i := 0) rfl
  have j1 := (L8.out.blk (g := g6) (t := 45) (cs := [.int .i64 K, .slice ar1 r1 cr1, .slice ar2 r2 cr2, .slice ar3 r3 cr3]) (by simp)).cell (i := 1) rfl
  have j2 := (L8.out.blk (g := g6) (t := 45) (cs := [.int .i64 K, .slice ar1 r1 cr1, .slice ar2 r2 cr2, .slice ar3 r3 cr3]) (by simp)).cell (i := 2) rfl
  have j3 := (L8.out.blk (g := g6) (t := 45) (cs := [.int .i64 K, .slice ar1 r1 cr1, .slice ar2 r2 cr2, .slice ar3 r3 cr3]) (by simp)).cell (i := 3) rfl
  go_wp2_with fail
  refine (eqStripeSame K _ _ _ _ _ _ R1 R2 R3 _ (L8.out.sl (v := (.slice ao1 r1 co1)) (l := R1) (by simp)) (L8.out.sl (v := (.slice ao2 r2 co2)) (l := R2) (by simp)) (L8.out.bl (v := (.slice ao3 r3 co3)) (l := R3) (by simp)) (L8.out.sl (v := (.slice ar1 r1 cr1)) (l := R1) (by simp)) (L8.out.sl (v := (.slice ar2 r2 cr2)) (l := R2) (by simp)) (L8.out.bl (v := (.slice ar3 r3 cr3)) (l := R3) (by simp))).mono ?_
  rintro e W9 ⟨rfl, hg⟩
  have L9 := Lib.hid (L8.out.still hg)
  clear hg L8
  clear i0 i1 i2 i3 j0 j1 j2 j3
  go_upto_region 10 with fail
  have L10 := Lib.hid (L9.out.still (grown_drew (World.grownBy.refl W9 none)))
  have H0 : Hid (TwoBlk bp g7 [.int .i64 n0, .slice a1 l1 c1, .slice a2 l2 c2, .slice a3 l3 c3] [.int .i64 n0, .slice at1 l1 ct1, .slice at2 l2 ct2, .slice at3 l3 ct3] W9.drew) := Lib.hid ⟨L10.out.blk (by simp), L10.out.blk (by simp)⟩
  refine wp_region_held (S := TwoBlk bp g7 [.int .i64 n0, .slice a1 l1 c1, .slice a2 l2 c2, .slice a3 l3 c3] [.int .i64 n0, .slice at1 l1 ct1, .slice at2 l2 ct2, .slice at3 l3 ct3]) (by kernel_rfl) ?_
  refine Rg.take_ 0 (some 45) (.agg #[.int .i64 n0, .slice at1 l1 ct1, .slice at2 l2 ct2, .slice at3 l3 ct3]) rfl rfl (by kernel_rfl) (by kernel_rfl) (by kernel_rfl) (fun _ _ _ h => h) (.inl ⟨by rfl, fun W' hS => (by have c0 := hS.2.cell (i := 0) rfl; have c1 := hS.2.cell (i := 1) rfl; have c2 := hS.2.cell (i := 2) rfl; have c3 := hS.2.cell (i := 3) rfl; go_simp)⟩) H0.out ?_
  simp only [Act.put, List.setIfInBounds_toArray, List.set_cons_zero, List.set_cons_succ]
  refine Rg.take_ 1 (some 46) (.agg #[.int .i64 n0, .slice a1 l1 c1, .slice a2 l2 c2, .slice a3 l3 c3]) rfl rfl (by kernel_rfl) (by kernel_rfl) (by kernel_rfl) (fun _ _ _ h => h) (.inl ⟨by rfl, fun W' hS => (by have c0 := hS.1.cell (i := 0) rfl; have c1 := hS.1.cell (i := 1) rfl; have c2 := hS.1.cell (i := 2) rfl; have c3 := hS.1.cell (i := 3) rfl; go_simp)⟩) H0.out ?_
  simp only [Act.put, List.setIfInBounds_toArray, List.set_cons_zero, List.set_cons_succ]
  refine Rg.ready_one (i := 2) (by kernel_rfl) rfl rfl ?_
  refine Rg.call_at (some 47) (f := 25) (args := #[.agg #[.int .i64 n0, .slice a1 l1 c1, .slice a2 l2 c2, .slice a3 l3 c3]]) rfl (by go_simp) ((toStripe n0 _ _ _ l0 m0 g0 _ (L10.out.arg1 U.out) (L10.out.arg1 X.out) (L10.out.argB Y.out) hl.1 hl.2.1 hl.2.2).mono ?_)
  rintro e W11 ⟨p1, p2, p3, rfl, hg, ho⟩
  obtain ⟨az1, cz1, e1, -, -, -⟩ := ho.a
  obtain ⟨az2, cz2, e2, -, -, -⟩ := ho.v
  obtain ⟨az3, cz3, e3, -, -, -⟩ := ho.f
  rw [← NL1.out] at e1
  rw [← NL2.out] at e2
  rw [← NL3.out] at e3
  subst e1 e2 e3
  have H1 : Hid (TwoBlk bp g7 [.int .i64 n0, .slice a1 l1 c1, .slice a2 l2 c2, .slice a3 l3 c3] [.int .i64 n0, .slice at1 l1 ct1, .slice at2 l2 ct2, .slice at3 l3 ct3] W11) := Lib.hid ⟨H0.out.1.kept hg (by simp), H0.out.2.kept hg (by simp)⟩
  have L11 := Lib.hid (L10.out.newSt hg ho)
  clear hg ho L10 H0
  refine ⟨_, rfl, H1.out, ?_⟩
  simp only [Act.put, List.setIfInBounds_toArray, List.set_cons_zero, List.set_cons_succ]
  refine Rg.ready_one (i := 3) (by kernel_rfl) rfl rfl ?_
  refine Rg.call_at (some 48) (f := 27) (args := #[.agg #[.int .i64 n0, .slice at1 l1 ct1, .slice at2 l2 ct2, .slice at3 l3 ct3], .agg #[.int .i64 n0, .slice az1 l1 cz1, .slice az2 l2 cz2, .slice az3 l3 cz3]]) rfl (by go_simp) ((eqStripeSame n0 _ _ _ _ _ _ l0 m0 g0 _ (L11.out.sl (v := (.slice at1 l1 ct1)) (l := l0) (by simp)) (L11.out.sl (v := (.slice at2 l2 ct2)) (l := m0) (by simp)) (L11.out.bl (v := (.slice at3 l3 ct3)) (l := g0) (by simp)) (L11.out.sl (v := (.slice az1 l1 cz1)) (l := l0) (by simp)) (L11.out.sl (v := (.slice az2 l2 cz2)) (l := m0) (by simp)) (L11.out.bl (v := (.slice az3 l3 cz3)) (l := g0) (by simp))).mono ?_)
  rintro e W12 ⟨rfl, hg⟩
  have H2 : Hid (TwoBlk bp g7 [.int .i64 n0, .slice a1 l1 c1, .slice a2 l2 c2, .slice a3 l3 c3] [.int .i64 n0, .slice at1 l1 ct1, .slice at2 l2 ct2, .slice at3 l3 ct3] W12) := Lib.hid ⟨H1.out.1.kept hg (by simp), H1.out.2.kept hg (by simp)⟩
  have L12 := Lib.hid (L11.out.still hg)
  clear hg L11 H1
  refine ⟨_, rfl, H2.out, ?_⟩
  simp only [Act.put, List.setIfInBounds_toArray, List.set_cons_zero, List.set_cons_succ]
  refine Rg.take_ 4 (some 49) (.bool false) rfl rfl (by kernel_rfl) (by kernel_rfl) (by kernel_rfl) (fun _ _ _ h => h) (.inl ⟨by rfl, fun W' hS => (by go_simp)⟩) H2.out ?_
  simp only [Act.put, List.setIfInBounds_toArray, List.set_cons_zero, List.set_cons_succ]
  refine wpAnyH_done (by kernel_rfl) ?_ _
  clear H2
  have F12 := Lib.hid (Lives.first (A := [row1 (.slice az1 l1 cz1) l0, row1 (.slice az2 l2 cz2) m0, bool1 (.slice az3 l3 cz3) g0, blkI g8 45 [.int .i64 K, .slice ao1 r1 co1, .slice ao2 r2 co2, .slice ao3 r3 co3], row1 (.slice ao1 r1 co1) R1, row1 (.slice ao2 r2 co2) R2, bool1 (.slice ao3 r3 co3) R3, blkI g7 45 [.int .i64 n0, .slice at1 l1 ct1, .slice at2 l2 ct2, .slice at3 l3 ct3]]) (S := [row1 (.slice at1 l1 ct1) l0, row1 (.slice at2 l2 ct2) m0, bool1 (.slice at3 l3 ct3) g0]) (B := [blkI g6 45 [.int .i64 K, .slice ar1 r1 cr1, .slice ar2 r2 cr2, .slice ar3 r3 cr3], row1 (.slice ar1 r1 cr1) R1, row1 (.slice ar2 r2 cr2) R2, bool1 (.slice ar3 r3 cr3) R3, row1 (.slice as1 l1 cs1) l0, row1 (.slice as2 l2 cs2) m0, bool1 (.slice as3 l3 cs3) g0, blkI bp 43 [.int .i64 n0, .slice a1 l1 c1, .slice a2 l2 c2, .slice a3 l3 c3]]) L12.out)
  go_upto_region 13 with fail
  have j0 := (L12.out.blk (g := g7) (t := 45) (cs := [.int .i64 n0, .slice at1 l1 ct1, .slice at2 l2 ct2, .slice at3 l3 ct3]) (by simp)).cell (i := 0) rfl
  have j1 := (L12.out.blk (g := g7) (t := 45) (cs := [.int .i64 n0, .slice at1 l1 ct1, .slice at2 l2 ct2, .slice at3 l3 ct3]) (by simp)).cell (i := 1) rfl
  have j2 := (L12.out.blk (g := g7) (t := 45) (cs := [.int .i64 n0, .slice at1 l1 ct1, .slice at2 l2 ct2, .slice at3 l3 ct3]) (by simp)).cell (i := 2) rfl
  have j3 := (L12.out.blk (g := g7) (t := 45) (cs := [.int .i64 n0, .slice at1 l1 ct1, .slice at2 l2 ct2, .slice at3 l3 ct3]) (by simp)).cell (i := 3) rfl
  go_wp2_with fail
  refine (markStripeL w [row1 (.slice az1 l1 cz1) l0, row1 (.slice az2 l2 cz2) m0, bool1 (.slice az3 l3 cz3) g0, blkI g8 45 [.int .i64 K, .slice ao1 r1 co1, .slice ao2 r2 co2, .slice ao3 r3 co3], row1 (.slice ao1 r1 co1) R1, row1 (.slice ao2 r2 co2) R2, bool1 (.slice ao3 r3 co3) R3, blkI g7 45 [.int .i64 n0, .slice at1 l1 ct1, .slice at2 l2 ct2, .slice at3 l3 ct3], blkI g6 45 [.int .i64 K, .slice ar1 r1 cr1, .slice ar2 r2 cr2, .slice ar3 r3 cr3], row1 (.slice ar1 r1 cr1) R1, row1 (.slice ar2 r2 cr2) R2, bool1 (.slice ar3 r3 cr3) R3, row1 (.slice as1 l1 cs1) l0, row1 (.slice as2 l2 cs2) m0, bool1 (.slice as3 l3 cs3) g0, blkI bp 43 [.int .i64 n0, .slice a1 l1 c1, .slice a2 l2 c2, .slice a3 l3 c3]] n0 1 _ _ _ l0 m0 g0 _ F12.out hl.1 hl.2.1 hl.2.2 (by omega) (by omega)).mono ?_
  rintro e W13 ⟨rfl, hL⟩
  have L13 := Lib.hid hL
  clear hL L12 F12
  clear j0 j1 j2 j3
  have q0 : ¬ (1 + (l0.length : Int) + (m0.length : Int) + (g0.length : Int)) < 0 := by omega
  have i0 := (L13.out.blk (g := g8) (t := 45) (cs := [.int .i64 K, .slice ao1 r1 co1, .slice ao2 r2 co2, .slice ao3 r3 co3]) (by simp)).cell (i := 0) rfl
  have i1 := (L13.out.blk (g := g8) (t := 45) (cs := [.int .i64 K, .slice ao1 r1 co1, .slice ao2 r2 co2, .slice ao3 r3 co3]) (by simp)).cell (i := 1) rfl
  have i2 := (L13.out.blk (g := g8) (t := 45) (cs := [.int .i64 K, .slice ao1 r1 co1, .slice ao2 r2 co2, .slice ao3 r3 co3]) (by simp)).cell (i := 2) rfl
  have i3 := (L13.out.blk (g := g8) (t := 45) (cs := [.int .i64 K, .slice ao1 r1 co1, .slice ao2 r2 co2, .slice ao3 r3 co3]) (by simp)).cell (i := 3) rfl
  have j0 := (L13.out.blk (g := g6) (t := 45) (cs := [.int .i64 K, .slice ar1 r1 cr1, .slice ar2 r2 cr2, .slice ar3 r3 cr3]) (by simp)).cell (i := 0) rfl
  have j1 := (L13.out.blk (g := g6) (t := 45) (cs := [.int .i64 K, .slice ar1 r1 cr1, .slice ar2 r2 cr2, .slice ar3 r3 cr3]) (by simp)).cell (i := 1) rfl
  have j2 := (L13.out.blk (g := g6) (t := 45) (cs := [.int .i64 K, .slice ar1 r1 cr1, .slice ar2 r2 cr2, .slice ar3 r3 cr3]) (by simp)).cell (i := 2) rfl
  have j3 := (L13.out.blk (g := g6) (t := 45) (cs := [.int .i64 K, .slice ar1 r1 cr1, .slice ar2 r2 cr2, .slice ar3 r3 cr3]) (by simp)).cell (i := 3) rfl
  go_wp2_with fail
  refine (eqStripeSame K _ _ _ _ _ _ R1 R2 R3 _ (L13.out.sl (v := (.slice ao1 r1 co1)) (l := R1) (by simp)) (L13.out.sl (v := (.slice ao2 r2 co2)) (l := R2) (by simp)) (L13.out.bl (v := (.slice ao3 r3 co3)) (l := R3) (by simp)) (L13.out.sl (v := (.slice ar1 r1 cr1)) (l := R1) (by simp)) (L13.out.sl (v := (.slice ar2 r2 cr2)) (l := R2) (by simp)) (L13.out.bl (v := (.slice ar3 r3 cr3)) (l := R3) (by simp))).mono ?_
  rintro e W14 ⟨rfl, hg⟩
  have L14 := Lib.hid (L13.out.still hg)
  clear hg L13
  clear i0 i1 i2 i3 j0 j1 j2 j3
  have F14 := Lib.hid (Lives.first (A := [row1 (.slice at1 l1 ct1) (marks 1 l0.length), row1 (.slice at2 l2 ct2) (marks (1 + l0.length) m0.length), bool1 (.slice at3 l3 ct3) (bmarks (1 + l0.length + m0.length) g0.length), row1 (.slice az1 l1 cz1) l0, row1 (.slice az2 l2 cz2) m0, bool1 (.slice az3 l3 cz3) g0, blkI g8 45 [.int .i64 K, .slice ao1 r1 co1, .slice ao2 r2 co2, .slice ao3 r3 co3]]) (S := [row1 (.slice ao1 r1 co1) R1, row1 (.slice ao2 r2 co2) R2, bool1 (.slice ao3 r3 co3) R3]) (B := [blkI g7 45 [.int .i64 n0, .slice at1 l1 ct1, .slice at2 l2 ct2, .slice at3 l3 ct3], blkI g6 45 [.int .i64 K, .slice ar1 r1 cr1, .slice ar2 r2 cr2, .slice ar3 r3 cr3], row1 (.slice ar1 r1 cr1) R1, row1 (.slice ar2 r2 cr2) R2, bool1 (.slice ar3 r3 cr3) R3, row1 (.slice as1 l1 cs1) l0, row1 (.slice as2 l2 cs2) m0, bool1 (.slice as3 l3 cs3) g0, blkI bp 43 [.int .i64 n0, .slice a1 l1 c1, .slice a2 l2 c2, .slice a3 l3 c3]]) L14.out)
  go_upto_region 17 with fail
  have i0 := (L14.out.blk (g := g8) (t := 45) (cs := [.int .i64 K, .slice ao1 r1 co1, .slice ao2 r2 co2, .slice ao3 r3 co3]) (by simp)).cell (i := 0) rfl
  have i1 := (L14.out.blk (g := g8) (t := 45) (cs := [.int .i64 K, .slice ao1 r1 co1, .slice ao2 r2 co2, .slice ao3 r3 co3]) (by simp)).cell (i := 1) rfl
  have i2 := (L14.out.blk (g := g8) (t := 45) (cs := [.int .i64 K, .slice ao1 r1 co1, .slice ao2 r2 co2, .slice ao3 r3 co3]) (by simp)).cell (i := 2) rfl
  have i3 := (L14.out.blk (g := g8) (t := 45) (cs := [.int .i64 K, .slice ao1 r1 co1, .slice ao2 r2 co2, .slice ao3 r3 co3]) (by simp)).cell (i := 3) rfl
  go_wp2_with fail
  refine (markStripeL w [row1 (.slice at1 l1 ct1) (marks 1 l0.length), row1 (.slice at2 l2 ct2) (marks (1 + l0.length) m0.length), bool1 (.slice at3 l3 ct3) (bmarks (1 + l0.length + m0.length) g0.length), row1 (.slice az1 l1 cz1) l0, row1 (.slice az2 l2 cz2) m0, bool1 (.slice az3 l3 cz3) g0, blkI g8 45 [.int .i64 K, .slice ao1 r1 co1, .slice ao2 r2 co2, .slice ao3 r3 co3], blkI g7 45 [.int .i64 n0, .slice at1 l1 ct1, .slice at2 l2 ct2, .slice at3 l3 ct3], blkI g6 45 [.int .i64 K, .slice ar1 r1 cr1, .slice ar2 r2 cr2, .slice ar3 r3 cr3], row1 (.slice ar1 r1 cr1) R1, row1 (.slice ar2 r2 cr2) R2, bool1 (.slice ar3 r3 cr3) R3, row1 (.slice as1 l1 cs1) l0, row1 (.slice as2 l2 cs2) m0, bool1 (.slice as3 l3 cs3) g0, blkI bp 43 [.int .i64 n0, .slice a1 l1 c1, .slice a2 l2 c2, .slice a3 l3 c3]] K 1 _ _ _ R1 R2 R3 _ F14.out hr.1 hr.2.1 hr.2.2 (by omega) (by omega)).mono ?_
  rintro e W15 ⟨rfl, hL⟩
  have L15 := Lib.hid hL
  clear hL L14 F14
  clear i0 i1 i2 i3
  have q1 : ¬ (1 + (R1.length : Int) + (R2.length : Int) + (R3.length : Int)) < 0 := by omega
  have q2 : ((1 + (R1.length : Int) + (R2.length : Int) + (R3.length : Int)) != (1 + (R1.length : Int) + (R2.length : Int) + (R3.length : Int))) = false := by simp
  have i0 := (L15.out.blk (g := g8) (t := 45) (cs := [.int .i64 K, .slice ao1 r1 co1, .slice ao2 r2 co2, .slice ao3 r3 co3]) (by simp)).cell (i := 0) rfl
  have i1 := (L15.out.blk (g := g8) (t := 45) (cs := [.int .i64 K, .slice ao1 r1 co1, .slice ao2 r2 co2, .slice ao3 r3 co3]) (by simp)).cell (i := 1) rfl
  have i2 := (L15.out.blk (g := g8) (t := 45) (cs := [.int .i64 K, .slice ao1 r1 co1, .slice ao2 r2 co2, .slice ao3 r3 co3]) (by simp)).cell (i := 2) rfl
  have i3 := (L15.out.blk (g := g8) (t := 45) (cs := [.int .i64 K, .slice ao1 r1 co1, .slice ao2 r2 co2, .slice ao3 r3 co3]) (by simp)).cell (i := 3) rfl
  go_wp2_with fail
  refine (heldStripeL K 1 _ _ _ R1.length R2.length R3.length _ (L15.out.sl (v := (.slice ao1 r1 co1)) (l := (marks 1 R1.length)) (by simp)) (L15.out.sl (v := (.slice ao2 r2 co2)) (l := (marks (1 + R1.length) R2.length)) (by simp)) (L15.out.bl (v := (.slice ao3 r3 co3)) (l := (bmarks (1 + R1.length + R2.length) R3.length)) (by simp)) hr.1 hr.2.1 hr.2.2 (by omega) (by omega)).mono ?_
  rintro e W16 ⟨rfl, hg⟩
  have L16 := Lib.hid (L15.out.still hg)
  clear hg L15
  clear i0 i1 i2 i3
  have k0 := (L16.out.blk (g := bp) (t := 43) (cs := [.int .i64 n0, .slice a1 l1 c1, .slice a2 l2 c2, .slice a3 l3 c3]) (by simp)).cell (i := 0) rfl
  have k1 := (L16.out.blk (g := bp) (t := 43) (cs := [.int .i64 n0, .slice a1 l1 c1, .slice a2 l2 c2, .slice a3 l3 c3]) (by simp)).cell (i := 1) rfl
  have k2 := (L16.out.blk (g := bp) (t := 43) (cs := [.int .i64 n0, .slice a1 l1 c1, .slice a2 l2 c2, .slice a3 l3 c3]) (by simp)).cell (i := 2) rfl
  have k3 := (L16.out.blk (g := bp) (t := 43) (cs := [.int .i64 n0, .slice a1 l1 c1, .slice a2 l2 c2, .slice a3 l3 c3]) (by simp)).cell (i := 3) rfl
  go_wp2_with fail
  refine (toStripe n0 _ _ _ l0 m0 g0 _ (L16.out.arg1 U.out) (L16.out.arg1 X.out) (L16.out.argB Y.out) hl.1 hl.2.1 hl.2.2).mono ?_
  rintro e W17 ⟨uy, xy, yy, rfl, hg, ho⟩
  obtain ⟨ay1, cy1, e1, -, -, -⟩ := ho.a
  obtain ⟨ay2, cy2, e2, -, -, -⟩ := ho.v
  obtain ⟨ay3, cy3, e3, -, -, -⟩ := ho.f
  rw [← NL1.out] at e1
  rw [← NL2.out] at e2
  rw [← NL3.out] at e3
  subst e1 e2 e3
  have L17 := Lib.hid (L16.out.newSt hg ho)
  clear hg ho L16
  clear k0 k1 k2 k3
  go_wp2_with fail
  refine (implStripeMend n0 _ _ _ l0 m0 g0 at_ _ (L17.out.sl (v := (.slice ay1 l1 cy1)) (l := l0) (by simp)) (L17.out.sl (v := (.slice ay2 l2 cy2)) (l := m0) (by simp)) (L17.out.bl (v := (.slice ay3 l3 cy3)) (l := g0) (by simp))).mono ?_
  rintro e W18 ⟨K', R1', R2', R3', bb', hT, uh, xh, yh, rfl, hg, ho⟩
  obtain ⟨rfl, rfl, rfl, rfl, rfl⟩ := SMendT.one QT.out hT
  clear hT
  obtain ⟨ah1, ch1, e1, -, -, -⟩ := ho.a
  obtain ⟨ah2, ch2, e2, -, -, -⟩ := ho.v
  obtain ⟨ah3, ch3, e3, -, -, -⟩ := ho.f
  rw [← RL1.out] at e1
  rw [← RL2.out] at e2
  rw [← RL3.out] at e3
  subst e1 e2 e3
  have L18 := Lib.hid (L17.out.newSt hg ho)
  clear hg ho L17
  have L19 := Lib.hid (L18.out.newBlk (World.grownBy_alloc W18 (.cells #[.int .i64 K, .slice ah1 r1 ch1, .slice ah2 r2 ch2, .slice ah3 r3 ch3] 45) none) (heap_alloc_new _ _ : Blk (W18.alloc (.cells #[.int .i64 K, .slice ah1 r1 ch1, .slice ah2 r2 ch2, .slice ah3 r3 ch3] 45)) W18.heap.size 45 [.int .i64 K, .slice ah1 r1 ch1, .slice ah2 r2 ch2, .slice ah3 r3 ch3]) (Nat.le_refl _) (by simp [maxLen]) (by simp [Value.oneCell']))
  clear L18
  go_upto_region 25 with fail
  generalize W18.alloc (.cells #[.int .i64 K, .slice ah1 r1 ch1, .slice ah2 r2 ch2, .slice ah3 r3 ch3] 45) = W19 at *
  generalize W18.heap.size = g12 at *
  have i0 := (L19.out.blk (g := g12) (t := 45) (cs := [.int .i64 K, .slice ah1 r1 ch1, .slice ah2 r2 ch2, .slice ah3 r3 ch3]) (by simp)).cell (i := 0) rfl
  have i1 := (L19.out.blk (g := g12) (t := 45) (cs := [.int .i64 K, .slice ah1 r1 ch1, .slice ah2 r2 ch2, .slice ah3 r3 ch3]) (by simp)).cell (i := 1) rfl
  have i2 := (L19.out.blk (g := g12) (t := 45) (cs := [.int .i64 K, .slice ah1 r1 ch1, .slice ah2 r2 ch2, .slice ah3 r3 ch3]) (by simp)).cell (i := 2) rfl
  have i3 := (L19.out.blk (g := g12) (t := 45) (cs := [.int .i64 K, .slice ah1 r1 ch1, .slice ah2 r2 ch2, .slice ah3 r3 ch3]) (by simp)).cell (i := 3) rfl
  have j0 := (L19.out.blk (g := g6) (t := 45) (cs := [.int .i64 K, .slice ar1 r1 cr1, .slice ar2 r2 cr2, .slice ar3 r3 cr3]) (by simp)).cell (i := 0) rfl
  have j1 := (L19.out.blk (g := g6) (t := 45) (cs := [.int .i64 K, .slice ar1 r1 cr1, .slice ar2 r2 cr2, .slice ar3 r3 cr3]) (by simp)).cell (i := 1) rfl
  have j2 := (L19.out.blk (g := g6) (t := 45) (cs := [.int .i64 K, .slice ar1 r1 cr1, .slice ar2 r2 cr2, .slice ar3 r3 cr3]) (by simp)).cell (i := 2) rfl
  have j3 := (L19.out.blk (g := g6) (t := 45) (cs := [.int .i64 K, .slice ar1 r1 cr1, .slice ar2 r2 cr2, .slice ar3 r3 cr3]) (by simp)).cell (i := 3) rfl
  go_wp2_with fail
  refine (eqStripeSame K _ _ _ _ _ _ R1 R2 R3 _ (L19.out.sl (v := (.slice ah1 r1 ch1)) (l := R1) (by simp)) (L19.out.sl (v := (.slice ah2 r2 ch2)) (l := R2) (by simp)) (L19.out.bl (v := (.slice ah3 r3 ch3)) (l := R3) (by simp)) (L19.out.sl (v := (.slice ar1 r1 cr1)) (l := R1) (by simp)) (L19.out.sl (v := (.slice ar2 r2 cr2)) (l := R2) (by simp)) (L19.out.bl (v := (.slice ar3 r3 cr3)) (l := R3) (by simp))).mono ?_
  rintro e W20 ⟨rfl, hg⟩
  have L20 := Lib.hid (L19.out.still hg)
  clear hg L19
  clear i0 i1 i2 i3 j0 j1 j2 j3
  have i0 := (L20.out.blk (g := g8) (t := 45) (cs := [.int .i64 K, .slice ao1 r1 co1, .slice ao2 r2 co2, .slice ao3 r3 co3]) (by simp)).cell (i := 0) rfl
  have i1 := (L20.out.blk (g := g8) (t := 45) (cs := [.int .i64 K, .slice ao1 r1 co1, .slice ao2 r2 co2, .slice ao3 r3 co3]) (by simp)).cell (i := 1) rfl
  have i2 := (L20.out.blk (g := g8) (t := 45) (cs := [.int .i64 K, .slice ao1 r1 co1, .slice ao2 r2 co2, .slice ao3 r3 co3]) (by simp)).cell (i := 2) rfl
  have i3 := (L20.out.blk (g := g8) (t := 45) (cs := [.int .i64 K, .slice ao1 r1 co1, .slice ao2 r2 co2, .slice ao3 r3 co3]) (by simp)).cell (i := 3) rfl
  go_wp2_with fail
  refine (heldStripeL K 1 _ _ _ R1.length R2.length R3.length _ (L20.out.sl (v := (.slice ao1 r1 co1)) (l := (marks 1 R1.length)) (by simp)) (L20.out.sl (v := (.slice ao2 r2 co2)) (l := (marks (1 + R1.length) R2.length)) (by simp)) (L20.out.bl (v := (.slice ao3 r3 co3)) (l := (bmarks (1 + R1.length + R2.length) R3.length)) (by simp)) hr.1 hr.2.1 hr.2.2 (by omega) (by omega)).mono ?_
  rintro e W21 ⟨rfl, hg⟩
  have L21 := Lib.hid (L20.out.still hg)
  clear hg L20
  clear i0 i1 i2 i3
  go_wp2_with fail
  go_ret
  exact ⟨rfl, L21.out.below⟩

set_option maxRecDepth 100000 in
theorem lifted (os : Os) (started : os.Started) (H : Type) (enc : TypeId × Value → H) :
    ReturnsInHanded {} Try.checked os 6 .any (Rows.fnExactStripeMendSpec.pre6 enc Try.prog Try.f6 Rows.fnExactStripeMendRow.domain false) (Rows.fnExactStripeMendSpec.post enc Try.prog Try.f6 false true false false) := by
  refine returnsInHanded_of_change (C := Try.checked) own started (by kernel_rfl) Try.func6
    (ChangeSpec.witness6 (enc := enc) (C := Try.checked) false ⟨#[], #[.agg #[.int .i64 0, .slice none 0 0, .slice none 0 0, .slice none 0 0], .int .i64 0], []⟩ 8 (by kernel_rfl) (by kernel_rfl) (by kernel_rfl) (by kernel_rfl)) ?_
  intro W base args ds gs before hval0 hW hcnd _
  have hval : ∀ (j : Nat) t v, Try.f6.params[j]? = some t → args[j]? = some v → Value.okWide Try.prog W .any base t v := hval0
  have hW' := hW
  obtain ⟨p, q, hA0, hV, rfl, hfz, hnd⟩ := hW
  have hA : DataW.TrodAll enc Try.prog W 0 (fun _ => true) true Try.f6.params.toList args.toList ds p := hA0
  rw [Try.params6] at hA hval
  obtain ⟨v0, vs0, d0, ds0, p0, q0, hargs, rfl, rfl, h0, r0⟩ := trodAll_cons hA
  obtain ⟨v1, vs1, d1, ds1, p1, q1, rfl, rfl, rfl, h1, r1⟩ := trodAll_cons r0
  obtain ⟨rfl, rfl, rfl⟩ := trodAll_nil r1
  obtain rfl : args = #[v0, v1] := by cases args; simp_all
  obtain ⟨rfl, rfl⟩ := trodVars_none hV
  have k0 := h0
  have lt0 : ∀ x ∈ p0, x.block < W.heap.size := by obtain ⟨m, hm⟩ := k0; exact DataW.trod_lt m _ _ _ hm
  obtain ⟨n0, x0, y0, z0, l0, m0, g0, rfl, wx0, wy0, wz0⟩ := stripe_of Try.underlying43 (by kernel_rfl) (by kernel_rfl) Try.underlying3 Try.underlying23 Try.underlying23 Try.underlying41 Try.underlying3 Try.underlying4 (by kernel_rfl) (by kernel_rfl) (hval 0 43 v0 rfl rfl) h0
  obtain ⟨a1, rfl, rfl, rfl, w1⟩ := open_int Try.underlying3 (hval 1 3 v1 rfl rfl) h1
  clear hA0 hval0
  refine (walk n0 x0 y0 z0 l0 m0 g0 a1 W wx0 wy0 wz0 w1).mono fun e W' ⟨he, bel⟩ => ?_
  subst he
  exact ⟨_, rfl, _, _, _, [], _, [], hW', trodAll_mk1 (shut_bool Try.underlying4 _), (trodAll_cons_mk (Below.trod laidOut (by kernel_rfl) (of_decide_eq_true (by kernel_rfl)) k0 bel lt0) (trodAll_cons_mk (shut_int Try.underlying3 w1) trodAll_mk0)), rfl, bel.frame _, fun h => by cases h⟩

theorem over : Rows.fnExactStripeMendRow.holds Try.pinned (OpenSpec.ofChange Rows.fnExactStripeMendSpec) :=
  OpenClaim.holds_of_wide 6 Try.f6 rfl rfl rfl rfl rfl rfl rfl ⟨rfl, rfl, rfl, rfl, rfl⟩ rfl rfl rfl rfl rfl (by kernel_rfl) Try.func6 (by kernel_rfl)
    (of_decide_eq_true (by kernel_rfl)) (by unfold Func.isWrapper; first | (rw [if_pos (by decide +kernel)]; kernel_rfl) | (rw [if_neg (by decide +kernel)]; exact ⟨rfl, rfl⟩))
    (fun os started H enc _ => lifted os started H enc)

theorem proved : Rows.FnExactStripeMendSaid := over
#print axioms proved
end Go.Proofs.Ythglkgicckodaaa.fnExactStripeMend
