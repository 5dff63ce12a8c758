/-
  For whatever stripe of at most 2^20 numbers and flags StripeOk answers as its model does, and changes nothing: the law FnExactStripeOk returns true.
  Conditions: none.
-/
import Derived.Test.YtoflijiinkmjoaaRows
import Derived.WalkKit
import Derived.ProofKit
import Derived.OpenShut
import Derived.ShutString
import Derived.ChangeOld
import Derived.Below
import Derived.Test.YtoflijiinkmjoaaG1
import Derived.Test.YtoflijiinkmjoaaAppendZeros
import Derived.Test.YtoflijiinkmjoaaG2
import Derived.Test.YtoflijiinkmjoaaG3
import Derived.Test.YtoflijiinkmjoaaG4
import Derived.Test.YtoflijiinkmjoaaReadMath
import Derived.Test.YtoflijiinkmjoaaReadSpec
import Derived.Test.YtoflijiinkmjoaaReadTake
import Derived.Test.YtoflijiinkmjoaaReadProg
import Derived.Test.YtoflijiinkmjoaaReadTop
import Derived.Test.YtoflijiinkmjoaaReadTop2
import Derived.Test.YtoflijiinkmjoaaReadTop3
import Derived.Test.YtoflijiinkmjoaaReadSpec2
import Derived.Test.YtoflijiinkmjoaaReadSpec3
import Derived.Test.YtoflijiinkmjoaaStripeMath
import Derived.Test.YtoflijiinkmjoaaStripeBlk
import Derived.Test.YtoflijiinkmjoaaStripeClean
import Derived.Test.YtoflijiinkmjoaaStripeVers
import Derived.Test.YtoflijiinkmjoaaStripeFits
import Derived.Test.YtoflijiinkmjoaaStripeOf
import Derived.Test.YtoflijiinkmjoaaStripeOps
import Derived.Test.YtoflijiinkmjoaaStripeBest
import Derived.Test.YtoflijiinkmjoaaStripePub
import Derived.Test.YtoflijiinkmjoaaStripeTop
import Derived.Test.YtoflijiinkmjoaaStripeSpec
import Derived.Test.YtoflijiinkmjoaaStripeSpec2
import Derived.Test.YtoflijiinkmjoaaStripeSpec3
import Derived.Test.YtoflijiinkmjoaaStripeHelp
import Derived.Test.YtoflijiinkmjoaaStripeArg
namespace Go.Proofs.Ytoflijiinkmjoaa.fnExactStripeOk
open Go.ChangeShapes Go.WideShapes Go.ChangeAt Go.RowKit
set_option linter.unusedVariables false

theorem own : ownKnob Try.prog.godebug = none := by kernel_rfl
theorem laidOut : laidOutB Try.prog = true := by kernel_rfl

/-- what the comparing of the argument holds. -/
def TwoBlk (bp g : Nat) (cs ds : List Value) (W : World) : Prop := Blk W bp 44 cs ∧ Blk W g 26 ds

set_option maxHeartbeats 4000000 in
set_option maxRecDepth 20000 in
theorem walk (n0 : Int) (x0 y0 z0 : Value) (l0 m0 : List Int) (g0 : List Bool) (w : World) (wx0 : Sl w x0 l0) (wy0 : Sl w y0 m0) (wz0 : Bl w z0 g0) :
    Calls Try.prog 7 #[.agg #[.int .i64 n0, x0, y0, z0]] w fun e w' => e = .returned (.bool true) ∧ Below w.heap.size w w' := by
  have U := Lib.hid wx0
  have X := Lib.hid wy0
  have Y := Lib.hid wz0
  obtain ⟨a1, c1, e1, -, -, -⟩ := wx0
  obtain ⟨a2, c2, e2, -, -, -⟩ := wy0
  obtain ⟨a3, c3, e3, -, -, -⟩ := wz0
  subst e1 e2 e3
  obtain ⟨l1, hl1⟩ : ∃ n, n = l0.length := ⟨_, rfl⟩
  obtain ⟨l2, hl2⟩ : ∃ n, n = m0.length := ⟨_, rfl⟩
  obtain ⟨l3, hl3⟩ : ∃ n, n = g0.length := ⟨_, rfl⟩
  rw [← hl1] at U ⊢
  rw [← hl2] at X ⊢
  rw [← hl3] at Y ⊢
  have NL1 := Lib.hid hl1
  have NL2 := Lib.hid hl2
  have NL3 := Lib.hid hl3
  clear hl1 hl2 hl3
  have K0 : Hid (Blk (w.alloc (.cells #[.int .i64 n0, .slice a1 l1 c1, .slice a2 l2 c2, .slice a3 l3 c3] 44)) w.heap.size 44 [.int .i64 n0, .slice a1 l1 c1, .slice a2 l2 c2, .slice a3 l3 c3]) := Lib.hid (heap_alloc_new _ _)
  have G0 := Lib.hid (World.grownBy_alloc w (.cells #[.int .i64 n0, .slice a1 l1 c1, .slice a2 l2 c2, .slice a3 l3 c3] 44) none)
  have EC1 := enters_of (P := Try.prog) Try.func29 (by kernel_rfl) rfl
  have EC2 := enters_of (P := Try.prog) Try.func30 (by kernel_rfl) rfl
  go_enter Try.func7, Try.ntmps7
  go_upto_region 1 with fail
  generalize w.alloc (.cells #[.int .i64 n0, .slice a1 l1 c1, .slice a2 l2 c2, .slice a3 l3 c3] 44) = w0 at *
  generalize w.heap.size = bp at *
  have k0 := K0.out.cell (i := 0) rfl
  have k1 := K0.out.cell (i := 1) rfl
  have k2 := K0.out.cell (i := 2) rfl
  have k3 := K0.out.cell (i := 3) rfl
  go_wp2_with fail
  refine (szStripe n0 _ _ _ l0 m0 g0 _ (U.out.grown G0.out) (X.out.grown G0.out) (Y.out.grown G0.out)).mono ?_
  rintro e w1 ⟨⟨q, rfl, hq⟩, hg⟩
  have G1 := Lib.hid (grown_trans G0.out hg)
  have K1 := Lib.hid (K0.out.kept hg (by simp))
  clear hg G0 K0 k0 k1 k2 k3
  by_cases hq0 : q < 0
  · clear hq
    go_wp2_with fail
    go_ret
    exact ⟨rfl, below_grown G1.out⟩
  have hl : l0.length ≤ 1048576 ∧ m0.length ≤ 1048576 ∧ g0.length ≤ 1048576 := by
    rcases hq with h | h
    · exact absurd h hq0
    · exact ⟨h.2.1, h.2.2.1, h.2.2.2⟩
  clear hq
  have k0 := K1.out.cell (i := 0) rfl
  have k1 := K1.out.cell (i := 1) rfl
  have k2 := K1.out.cell (i := 2) rfl
  have k3 := K1.out.cell (i := 3) rfl
  go_wp2_with fail
  refine (toStripe n0 _ _ _ l0 m0 g0 _ (U.out.grown G1.out) (X.out.grown G1.out) (Y.out.grown G1.out) hl.1 hl.2.1 hl.2.2).mono ?_
  rintro e w2 ⟨us, xs, ys, rfl, hg, ho⟩
  obtain ⟨b1, d1, e1, -, -, -⟩ := ho.a
  obtain ⟨b2, d2, e2, -, -, -⟩ := ho.v
  obtain ⟨b3, d3, e3, -, -, -⟩ := ho.f
  rw [← NL1.out] at e1
  rw [← NL2.out] at e2
  rw [← NL3.out] at e3
  subst e1 e2 e3
  have G2 := Lib.hid (grown_trans G1.out hg)
  have K2 := Lib.hid (K1.out.kept hg (by simp))
  have O2 := Lib.hid ho
  clear hg ho G1 K1 k0 k1 k2 k3
  go_wp2_with fail
  refine (specStripeOk n0 _ _ _ l0 m0 g0 _ O2.out.a O2.out.v O2.out.f hl.1).mono ?_
  rintro e w3 ⟨q, rfl, hqs, hg⟩
  have QS := Lib.hid hqs
  clear hqs
  have G3 := Lib.hid (grown_trans G2.out hg)
  have K3 := Lib.hid (K2.out.kept hg (by simp))
  clear hg G2 K2 O2
  have k0 := K3.out.cell (i := 0) rfl
  have k1 := K3.out.cell (i := 1) rfl
  have k2 := K3.out.cell (i := 2) rfl
  have k3 := K3.out.cell (i := 3) rfl
  go_wp2_with fail
  refine (toStripe n0 _ _ _ l0 m0 g0 _ (U.out.grown G3.out) (X.out.grown G3.out) (Y.out.grown G3.out) hl.1 hl.2.1 hl.2.2).mono ?_
  rintro e w4 ⟨ut, xt, yt, rfl, hg, ho⟩
  obtain ⟨b1, d1, e1, -, -, -⟩ := ho.a
  obtain ⟨b2, d2, e2, -, -, -⟩ := ho.v
  obtain ⟨b3, d3, e3, -, -, -⟩ := ho.f
  rw [← NL1.out] at e1
  rw [← NL2.out] at e2
  rw [← NL3.out] at e3
  subst e1 e2 e3
  have ga := World.grownBy_alloc w4 (.cells #[.int .i64 n0, .slice b1 l1 d1, .slice b2 l2 d2, .slice b3 l3 d3] 26) none
  have G4 := Lib.hid (grown_trans (grown_trans G3.out hg) ga)
  have K4 := Lib.hid ((K3.out.kept hg (by simp)).kept ga (by simp))
  have O4 := Lib.hid (ho.still ga)
  have J4 : Hid (Blk (w4.alloc (.cells #[.int .i64 n0, .slice b1 l1 d1, .slice b2 l2 d2, .slice b3 l3 d3] 26)) w4.heap.size 26 [.int .i64 n0, .slice b1 l1 d1, .slice b2 l2 d2, .slice b3 l3 d3]) := Lib.hid (heap_alloc_new _ _)
  clear hg ho ga G3 K3 k0 k1 k2 k3
  go_upto_region 7 with fail
  generalize w4.alloc (.cells #[.int .i64 n0, .slice b1 l1 d1, .slice b2 l2 d2, .slice b3 l3 d3] 26) = w5 at *
  generalize w4.heap.size = g5 at *
  have j0 := J4.out.cell (i := 0) rfl
  have j1 := J4.out.cell (i := 1) rfl
  have j2 := J4.out.cell (i := 2) rfl
  have j3 := J4.out.cell (i := 3) rfl
  go_wp2_with fail
  refine (implStripeOk n0 _ _ _ l0 m0 g0 _ O4.out.a O4.out.v O4.out.f).mono ?_
  rintro e w6 ⟨q', rfl, hqi, hg⟩
  obtain rfl : q' = q := Bool.eq_iff_iff.2 (hqi.trans QS.out.symm)
  have hqq : (q' != q') = false := by cases q' <;> rfl
  clear hqi
  have G6 := Lib.hid (grown_trans G4.out hg)
  have K6 := Lib.hid (K4.out.kept hg (by simp))
  have J6 := Lib.hid (J4.out.kept hg (by simp))
  have O6 := Lib.hid (O4.out.still hg)
  clear hg G4 K4 J4 O4 j0 j1 j2 j3
  go_upto_region 10 with fail
  have GD := Lib.hid (grown_drew G6.out)
  have gd := grown_drew (World.grownBy.refl w6 none)
  have H0 : Hid (TwoBlk bp g5 [.int .i64 n0, .slice a1 l1 c1, .slice a2 l2 c2, .slice a3 l3 c3] [.int .i64 n0, .slice b1 l1 d1, .slice b2 l2 d2, .slice b3 l3 d3] w6.drew) := Lib.hid ⟨K6.out.kept gd (by simp), J6.out.kept gd (by simp)⟩
  have OD := Lib.hid (O6.out.still gd)
  clear gd K6 J6 G6 O6
  refine wp_region_held (S := TwoBlk bp g5 [.int .i64 n0, .slice a1 l1 c1, .slice a2 l2 c2, .slice a3 l3 c3] [.int .i64 n0, .slice b1 l1 d1, .slice b2 l2 d2, .slice b3 l3 d3]) (by kernel_rfl) ?_
  refine Rg.take_ 0 (some 22) (.agg #[.int .i64 n0, .slice b1 l1 d1, .slice b2 l2 d2, .slice b3 l3 d3]) rfl rfl (by kernel_rfl) (by kernel_rfl) (by kernel_rfl) (fun _ _ _ h => h) (.inl ⟨by rfl, fun W' hS => (by have c0 := hS.2.cell (i := 0) rfl; have c1 := hS.2.cell (i := 1) rfl; have c2 := hS.2.cell (i := 2) rfl; have c3 := hS.2.cell (i := 3) rfl; go_simp)⟩) H0.out ?_
  simp only [Act.put, List.setIfInBounds_toArray, List.set_cons_zero, List.set_cons_succ]
  refine Rg.take_ 1 (some 23) (.agg #[.int .i64 n0, .slice a1 l1 c1, .slice a2 l2 c2, .slice a3 l3 c3]) rfl rfl (by kernel_rfl) (by kernel_rfl) (by kernel_rfl) (fun _ _ _ h => h) (.inl ⟨by rfl, fun W' hS => (by have c0 := hS.1.cell (i := 0) rfl; have c1 := hS.1.cell (i := 1) rfl; have c2 := hS.1.cell (i := 2) rfl; have c3 := hS.1.cell (i := 3) rfl; go_simp)⟩) H0.out ?_
  simp only [Act.put, List.setIfInBounds_toArray, List.set_cons_zero, List.set_cons_succ]
  refine Rg.ready_one (i := 2) (by kernel_rfl) rfl rfl ?_
  refine Rg.call_at (some 24) (f := 29) (args := #[.agg #[.int .i64 n0, .slice a1 l1 c1, .slice a2 l2 c2, .slice a3 l3 c3]]) rfl (by go_simp) ((toStripe n0 _ _ _ l0 m0 g0 _ (U.out.grown GD.out) (X.out.grown GD.out) (Y.out.grown GD.out) hl.1 hl.2.1 hl.2.2).mono ?_)
  rintro e w7 ⟨p1, p2, p3, rfl, hg, ho⟩
  have H7 : Hid (TwoBlk bp g5 [.int .i64 n0, .slice a1 l1 c1, .slice a2 l2 c2, .slice a3 l3 c3] [.int .i64 n0, .slice b1 l1 d1, .slice b2 l2 d2, .slice b3 l3 d3] w7) := Lib.hid ⟨H0.out.1.kept hg (by simp), H0.out.2.kept hg (by simp)⟩
  have G7 := Lib.hid (grown_trans GD.out hg)
  have O7 := Lib.hid (OD.out.still hg)
  obtain ⟨f1, h1, e1, -, -, -⟩ := ho.a
  obtain ⟨f2, h2, e2, -, -, -⟩ := ho.v
  obtain ⟨f3, h3, e3, -, -, -⟩ := ho.f
  rw [← NL1.out] at e1
  rw [← NL2.out] at e2
  rw [← NL3.out] at e3
  subst e1 e2 e3
  have P7 := Lib.hid ho
  clear hg ho H0 OD GD
  refine ⟨_, rfl, H7.out, ?_⟩
  simp only [Act.put, List.setIfInBounds_toArray, List.set_cons_zero, List.set_cons_succ]
  refine Rg.ready_one (i := 3) (by kernel_rfl) rfl rfl ?_
  refine Rg.call_at (some 25) (f := 30) (args := #[.agg #[.int .i64 n0, .slice b1 l1 d1, .slice b2 l2 d2, .slice b3 l3 d3], .agg #[.int .i64 n0, .slice f1 l1 h1, .slice f2 l2 h2, .slice f3 l3 h3]]) rfl (by go_simp) ((eqStripeSame n0 _ _ _ _ _ _ l0 m0 g0 _ O7.out.a O7.out.v O7.out.f P7.out.a P7.out.v P7.out.f).mono ?_)
  rintro e w8 ⟨rfl, hg⟩
  have H8 : Hid (TwoBlk bp g5 [.int .i64 n0, .slice a1 l1 c1, .slice a2 l2 c2, .slice a3 l3 c3] [.int .i64 n0, .slice b1 l1 d1, .slice b2 l2 d2, .slice b3 l3 d3] w8) := Lib.hid ⟨H7.out.1.kept hg (by simp), H7.out.2.kept hg (by simp)⟩
  have G8 := Lib.hid (grown_trans G7.out hg)
  have O8 := Lib.hid (O7.out.still hg)
  clear hg G7 O7 P7
  refine ⟨_, rfl, H8.out, ?_⟩
  simp only [Act.put, List.setIfInBounds_toArray, List.set_cons_zero, List.set_cons_succ]
  refine Rg.take_ 4 (some 26) (.bool false) rfl rfl (by kernel_rfl) (by kernel_rfl) (by kernel_rfl) (fun _ _ _ h => h) (.inl ⟨by rfl, fun W' hS => (by go_simp)⟩) H8.out ?_
  simp only [Act.put, List.setIfInBounds_toArray, List.set_cons_zero, List.set_cons_succ]
  refine wpAnyH_done (by kernel_rfl) ?_ _
  go_wp2_with fail
  go_ret
  exact ⟨rfl, below_grown G8.out⟩

set_option maxRecDepth 100000 in
theorem lifted (os : Os) (started : os.Started) (H : Type) (enc : TypeId × Value → H) :
    ReturnsInHanded {} Try.checked os 7 .any (Rows.fnExactStripeOkSpec.pre6 enc Try.prog Try.f7 Rows.fnExactStripeOkRow.domain false) (Rows.fnExactStripeOkSpec.post enc Try.prog Try.f7 false true false false) := by
  refine returnsInHanded_of_change (C := Try.checked) own started (by kernel_rfl) Try.func7
    (ChangeSpec.witness6 (enc := enc) (C := Try.checked) false ⟨#[], #[.agg #[.int .i64 0, .slice none 0 0, .slice none 0 0, .slice none 0 0]], []⟩ 8 (by kernel_rfl) (by kernel_rfl) (by kernel_rfl) (by kernel_rfl)) ?_
  intro W base args ds gs before hval0 hW hcnd _
  have hval : ∀ (j : Nat) t v, Try.f7.params[j]? = some t → args[j]? = some v → Value.okWide Try.prog W .any base t v := hval0
  have hW' := hW
  obtain ⟨p, q, hA0, hV, rfl, hfz, hnd⟩ := hW
  have hA : DataW.TrodAll enc Try.prog W 0 (fun _ => true) true Try.f7.params.toList args.toList ds p := hA0
  rw [Try.params7] at hA hval
  obtain ⟨v0, vs0, d0, ds0, p0, q0, hargs, rfl, rfl, h0, r0⟩ := trodAll_cons hA
  obtain ⟨rfl, rfl, rfl⟩ := trodAll_nil r0
  obtain rfl : args = #[v0] := by cases args; simp_all
  obtain ⟨rfl, rfl⟩ := trodVars_none hV
  have k0 := h0
  have lt0 : ∀ x ∈ p0, x.block < W.heap.size := by obtain ⟨m, hm⟩ := k0; exact DataW.trod_lt m _ _ _ hm
  obtain ⟨n0, x0, y0, z0, l0, m0, g0, rfl, wx0, wy0, wz0⟩ := stripe_of Try.underlying44 (by kernel_rfl) (by kernel_rfl) Try.underlying3 Try.underlying23 Try.underlying23 Try.underlying24 Try.underlying3 Try.underlying4 (by kernel_rfl) (by kernel_rfl) (hval 0 44 v0 rfl rfl) h0
  clear hA0 hval0
  refine (walk n0 x0 y0 z0 l0 m0 g0 W wx0 wy0 wz0).mono fun e W' ⟨he, bel⟩ => ?_
  subst he
  exact ⟨_, rfl, _, _, _, [], _, [], hW', trodAll_mk1 (shut_bool Try.underlying4 _), (trodAll_cons_mk (Below.trod laidOut (by kernel_rfl) (of_decide_eq_true (by kernel_rfl)) k0 bel lt0) trodAll_mk0), rfl, bel.frame _, fun h => by cases h⟩

theorem over : Rows.fnExactStripeOkRow.holds Try.pinned (OpenSpec.ofChange Rows.fnExactStripeOkSpec) :=
  OpenClaim.holds_of_wide 7 Try.f7 rfl rfl rfl rfl rfl rfl rfl ⟨rfl, rfl, rfl, rfl, rfl⟩ rfl rfl rfl rfl rfl (by kernel_rfl) Try.func7 (by kernel_rfl)
    (of_decide_eq_true (by kernel_rfl)) (by unfold Func.isWrapper; first | (rw [if_pos (by decide +kernel)]; kernel_rfl) | (rw [if_neg (by decide +kernel)]; exact ⟨rfl, rfl⟩))
    (fun os started H enc _ => lifted os started H enc)

theorem proved : Rows.FnExactStripeOkSaid := over
#print axioms proved
end Go.Proofs.Ytoflijiinkmjoaa.fnExactStripeOk
