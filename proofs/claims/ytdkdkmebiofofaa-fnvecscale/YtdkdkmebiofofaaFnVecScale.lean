/-
  From whatever bytes a row and a scalar are drawn, VecScale answers as its model does, is element-wise, by 1 the identity and by 0 the zero vector, and compatible with products and sums of scalars: the law FnVecScale returns true.
  Conditions: none.
-/
import Derived.Test.YtdkdkmebiofofaaRows
import Derived.WalkKit
import Derived.ProofKit
import Derived.OpenShut
import Derived.ShutString
import Derived.ChangeOld
import Derived.Below
import Derived.Test.YtdkdkmebiofofaaFldMath
import Derived.Test.YtdkdkmebiofofaaMem
import Derived.Test.YtdkdkmebiofofaaField
import Derived.Test.YtdkdkmebiofofaaVecMath
import Derived.Test.YtdkdkmebiofofaaInts
import Derived.Test.YtdkdkmebiofofaaHelp
import Derived.Test.YtdkdkmebiofofaaVec
import Derived.Test.YtdkdkmebiofofaaVec2
import Derived.Test.YtdkdkmebiofofaaVecSpec
import Derived.Test.YtdkdkmebiofofaaDraw
import Derived.Test.YtdkdkmebiofofaaDrawField
import Derived.Test.YtdkdkmebiofofaaDrawVec
namespace Go.Proofs.Ytdkdkmebiofofaa.fnVecScale
open Go.ChangeShapes Go.WideShapes Go.ChangeAt Go.RowKit
open Go.ChangeMaps (open_string shut_string)
set_option linter.unusedVariables false

theorem own : ownKnob Try.prog.godebug = none := by kernel_rfl
theorem laidOut : laidOutB Try.prog = true := by kernel_rfl

/-- WHAT THE WALK IS TOLD OF A SLICE OF INTEGERS THAT CAME IN: it is nil; or it leads to a row of 'cap' cells, the numbers 'zs' (the first 'len' are its elements, the rest its spare room), each fitting its kind. -/
def IsRow (k : IntKind) (w : World) (a : Option Addr) (len cap : Nat) (zs : List Int) : Prop :=
  (a = none ∧ len = 0 ∧ cap = 0 ∧ zs = []) ∨
  ∃ x, a = some x ∧ len ≤ cap ∧ cap ≤ maxLen ∧ zs.length = cap ∧ (∀ i, i < zs.length → w.cell? (x.add i) = some (.int k (zs.getD i 0))) ∧ ∀ n ∈ zs, (Lit.int k n).wf = true

theorem walk (a0 : Option Addr) (len0 cap0 : Nat) (z0 : List Int) (a1 : Option Addr) (len1 cap1 : Nat) (z1 : List Int) (w : World) (w0 : IsRow .u8 w a0 len0 cap0 z0) (w1 : IsRow .u8 w a1 len1 cap1 z1) :
    Calls Try.prog 4 #[.slice a0 len0 cap0, .slice a1 len1 cap1] w fun e w' => e = .returned (.bool true) ∧ Below w.heap.size w w' := by
  have hc : Code w a0 len0 cap0 := code_of w0
  have hm : cap0 ≤ maxLen := hc.2.1
  have hl : len0 ≤ cap0 := hc.1
  unfold maxLen at hm
  have C := Lib.hid hc
  clear hc w0
  have hc1 : Code w a1 len1 cap1 := code_of w1
  have hm1 : cap1 ≤ maxLen := hc1.2.1
  have hl1 : len1 ≤ cap1 := hc1.1
  unfold maxLen at hm1
  clear hc1 w1
  by_cases hbig0 : (len0 : Int) > 1048576
  · go_enter Try.func4, Try.ntmps4
    go_wp2_with fail
    go_ret
    exact ⟨rfl, Below.refl _ _⟩
  by_cases hbig1 : (len1 : Int) > 1048576
  · go_enter Try.func4, Try.ntmps4
    go_wp2_with fail
    go_ret
    exact ⟨rfl, Below.refl _ _⟩
  have L0 := Lib.hid (Seen.start w)
  go_enter Try.func4, Try.ntmps4
  go_wp2_with fail
  refine (drawVecScale a0 len0 cap0 _ C.out).mono ?_
  rintro e W1 ⟨a, l, c, rfl, hn, c0, c1, hl4, hg, hs⟩
  have L1 := Lib.hid ((L0.out.still hg).add hs)
  clear hg hs L0 hn
  go_wp2_with fail
  refine (implVecScale a l c _ (L1.out.sl (a, l) (by simp))).mono ?_
  rintro e W2 ⟨s, rfl, hg, ho⟩
  have L2 := Lib.hid (L1.out.new hg ho)
  clear hg ho L1
  go_wp2_with fail
  refine (specVecScale a l c _ (L2.out.sl (a, l) (by simp))).mono ?_
  rintro e W3 ⟨t, rfl, hg, ho⟩
  have L3 := Lib.hid (L2.out.new hg ho)
  clear hg ho L2
  go_wp2_with fail
  refine (lkSame s t (Vec.scale l c) _ (L3.out.sl (s, Vec.scale l c) (by simp)) (L3.out.sl (t, Vec.scale l c) (by simp))).mono ?_
  rintro e W4 ⟨rfl, hg⟩
  have L4 := Lib.hid (L3.out.still hg)
  clear hg L3
  cases hok : Vec.ok l
  · have HK := Lib.hid hok
    clear hok
    go_wp2_with fail
    refine (specVecOk a l _ (L4.out.sl (a, l) (by simp))).mono ?_
    rintro e w' ⟨rfl, rfl⟩
    rw [HK.out]
    go_wp2_with fail
    refine (specVecScale a l c _ (L4.out.sl (a, l) (by simp))).mono ?_
    rintro e W5 ⟨t2, rfl, hg, ho⟩
    have L5 := Lib.hid (L4.out.new hg ho)
    clear hg ho L4
    go_wp2_with fail
    refine (lkSame s t2 (Vec.scale l c) _ (L5.out.sl (s, Vec.scale l c) (by simp)) (L5.out.sl (t2, Vec.scale l c) (by simp))).mono ?_
    rintro e W6 ⟨rfl, hg⟩
    have L6 := Lib.hid (L5.out.still hg)
    clear hg L5
    go_wp2_with fail
    go_ret
    exact ⟨rfl, L6.out.below⟩
  have HK := Lib.hid hok
  clear hok
  cases hom : Fld.ok c
  · have HM := Lib.hid hom
    clear hom
    go_wp2_with fail
    refine (specVecOk a l _ (L4.out.sl (a, l) (by simp))).mono ?_
    rintro e w' ⟨rfl, rfl⟩
    rw [HK.out]
    go_wp2_with fail
    refine (specOk c _).mono ?_
    rintro e w' ⟨rfl, rfl⟩
    rw [HM.out]
    go_wp2_with fail
    refine (specVecScale a l c _ (L4.out.sl (a, l) (by simp))).mono ?_
    rintro e W5 ⟨t2, rfl, hg, ho⟩
    have L5 := Lib.hid (L4.out.new hg ho)
    clear hg ho L4
    go_wp2_with fail
    refine (lkSame s t2 (Vec.scale l c) _ (L5.out.sl (s, Vec.scale l c) (by simp)) (L5.out.sl (t2, Vec.scale l c) (by simp))).mono ?_
    rintro e W6 ⟨rfl, hg⟩
    have L6 := Lib.hid (L5.out.still hg)
    clear hg L5
    go_wp2_with fail
    go_ret
    exact ⟨rfl, L6.out.below⟩
  have HM := Lib.hid hom
  have S4 := Lib.hid (Vec.ok_len (Vec.scale_is HK.out HM.out))
  clear hom
  go_wp2_with fail
  refine (specVecOk a l _ (L4.out.sl (a, l) (by simp))).mono ?_
  rintro e w' ⟨rfl, rfl⟩
  rw [HK.out]
  go_wp2_with fail
  refine (specOk c _).mono ?_
  rintro e w' ⟨rfl, rfl⟩
  rw [HM.out]
  have hs : Sl W4 s (Vec.scale l c) := L4.out.sl (s, Vec.scale l c) (by simp)
  obtain ⟨av, cv, hv, hlc, hcm, hr⟩ := hs
  have hs' : Sl W4 a l := L4.out.sl (a, l) (by simp)
  obtain ⟨aa, ca, hva, hlca, hcma, hra⟩ := hs'
  rw [hv, hva]
  have EV := Lib.hid hv
  have EA := Lib.hid hva
  have RV := Lib.hid hr
  have RA := Lib.hid hra
  have SL : (Vec.scale l c).length ≤ 4 := by rw [S4.out]; omega
  have LL : (Vec.scale l c).length ≤ l.length := by rw [S4.out, Vec.ok_len HK.out]; omega
  unfold maxLen at hcm hcma
  clear hv hr hva hra
  go_wp2_with fail
  go_loopw [8] (fun i wr => ∃ k : Nat, k ≤ (Vec.scale l c).length ∧ i = .int .i64 k ∧ W4.grownBy wr none) (fun i _ => (Vec.scale l c).length - (intOf i).toNat)
  case atStart => exact ⟨0, Nat.zero_le _, rfl, World.grownBy.refl _ _⟩
  case round =>
    obtain ⟨k, hk, rfl, hg⟩ := hrel
    have G := Lib.hid hg
    clear hg
    by_cases hlt : k < (Vec.scale l c).length
    · have k4 : k < 4 := by omega
      have hlta : k < l.length := by omega
      obtain ⟨b1, o1, rfl, hx⟩ := (RV.out.grown G.out).at_ hlt
      obtain ⟨b2, o2, rfl, hy⟩ := (RA.out.grown G.out).at_ hlta
      have sg := Vec.scale_get HK.out HM.out k4
      obtain ⟨y, hye⟩ : ∃ y, l.getD k 0 = y := ⟨_, rfl⟩
      rw [hye] at hy sg
      rw [sg] at hx
      have i1 : (k : Int) < ((Vec.scale l c).length : Int) := by omega
      have i2 : (k : Int) < (l.length : Int) := by omega
      have hne : (Fld.mul y c != Fld.mul y c) = false := by simp
      clear sg hye
      go_wp2_with fail
      go_quiet ((go_at_call 27; exact quietMul _ _ _ _))
      go_wp2_with fail
      go_roundw
      case rel => exact ⟨k + 1, by omega, by go_num, grown_draws G.out _⟩
      case measure => simp [intOf]; omega
    · have L5 := Lib.hid (L4.out.still G.out)
      have DK : Fld.ok ((len1 : Int) % 31) = true := Vec.mod_is _
      have S1 := Lib.hid (Vec.scale_one HK.out)
      have S0 := Lib.hid (Vec.lead_zero HK.out)
      have SM := Lib.hid (Vec.scale_mul HK.out HM.out DK)
      have SS := Lib.hid (Vec.scale_sum HK.out HM.out DK)
      clear L4 G DK
      go_wp2_with fail
      refine (lkNum _ _ (by omega) (by omega)).mono ?_
      rintro e w' ⟨rfl, rfl⟩
      go_wp2_with fail
      refine (S1.out ▸ implVecScale _ l 1 _ (EA.out ▸ (L5.out.sl (a, l) (by simp)))).mono ?_
      rintro e W6 ⟨x1, rfl, hg, ho⟩
      have L6 := Lib.hid (L5.out.new hg ho)
      clear hg ho L5
      go_wp2_with fail
      refine (lkSame x1 _ l _ (L6.out.sl (x1, l) (by simp)) (EA.out ▸ (L6.out.sl (a, l) (by simp)))).mono ?_
      rintro e W7 ⟨rfl, hg⟩
      have L7 := Lib.hid (L6.out.still hg)
      clear hg L6
      go_wp2_with fail
      refine (implVecScale _ l 0 _ (EA.out ▸ (L7.out.sl (a, l) (by simp)))).mono ?_
      rintro e W8 ⟨x2, rfl, hg, ho⟩
      have L8 := Lib.hid (L7.out.new hg ho)
      clear hg ho L7
      go_wp2_with fail
      refine (implVecLead x2 _ _ (L8.out.sl (x2, Vec.scale l 0) (by simp))).mono ?_
      rintro e W9 ⟨rfl, hg⟩
      have L9 := Lib.hid (L8.out.still hg)
      clear hg L8
      rw [S0.out]
      go_wp2_with fail
      refine (SM.out ▸ implVecScale _ (Vec.scale l c) ((len1 : Int) % 31) _ (EV.out ▸ (L9.out.sl (s, Vec.scale l c) (by simp)))).mono ?_
      rintro e W10 ⟨x3, rfl, hg, ho⟩
      have L10 := Lib.hid (L9.out.new hg ho)
      clear hg ho L9
      go_wp2_with fail
      refine (implMul c _ _).mono ?_
      rintro e w' ⟨rfl, rfl⟩
      go_wp2_with fail
      refine (implVecScale _ l _ _ (EA.out ▸ (L10.out.sl (a, l) (by simp)))).mono ?_
      rintro e W11 ⟨x4, rfl, hg, ho⟩
      have L11 := Lib.hid (L10.out.new hg ho)
      clear hg ho L10
      go_wp2_with fail
      refine (lkSame x3 x4 _ _ (L11.out.sl (x3, Vec.scale l (Fld.mul c ((len1 : Int) % 31))) (by simp)) (L11.out.sl (x4, Vec.scale l (Fld.mul c ((len1 : Int) % 31))) (by simp))).mono ?_
      rintro e W12 ⟨rfl, hg⟩
      have L12 := Lib.hid (L11.out.still hg)
      clear hg L11
      go_wp2_with fail
      refine (implSum c _ _).mono ?_
      rintro e w' ⟨rfl, rfl⟩
      go_wp2_with fail
      refine (SS.out ▸ implVecScale _ l (Fld.sum c ((len1 : Int) % 31)) _ (EA.out ▸ (L12.out.sl (a, l) (by simp)))).mono ?_
      rintro e W13 ⟨x5, rfl, hg, ho⟩
      have L13 := Lib.hid (L12.out.new hg ho)
      clear hg ho L12
      go_wp2_with fail
      refine (implVecScale _ l _ _ (EA.out ▸ (L13.out.sl (a, l) (by simp)))).mono ?_
      rintro e W14 ⟨x6, rfl, hg, ho⟩
      have L14 := Lib.hid (L13.out.new hg ho)
      clear hg ho L13
      go_wp2_with fail
      refine (implVecSum _ x6 (Vec.scale l c) _ _ (EV.out ▸ (L14.out.sl (s, Vec.scale l c) (by simp))) (L14.out.sl (x6, Vec.scale l ((len1 : Int) % 31)) (by simp))).mono ?_
      rintro e W15 ⟨x7, rfl, hg, ho⟩
      have L15 := Lib.hid (L14.out.new hg ho)
      clear hg ho L14
      go_wp2_with fail
      refine (lkSame x5 x7 _ _ (L15.out.sl (x5, Vec.sum (Vec.scale l c) (Vec.scale l ((len1 : Int) % 31))) (by simp)) (L15.out.sl (x7, Vec.sum (Vec.scale l c) (Vec.scale l ((len1 : Int) % 31))) (by simp))).mono ?_
      rintro e W16 ⟨rfl, hg⟩
      have L16 := Lib.hid (L15.out.still hg)
      clear hg L15
      go_wp2_with fail
      go_ret
      exact ⟨rfl, L16.out.below⟩

set_option maxRecDepth 100000 in
theorem lifted (os : Os) (started : os.Started) (H : Type) (enc : TypeId × Value → H) :
    ReturnsInHanded {} Try.checked os 4 .any (Rows.fnVecScaleSpec.pre6 enc Try.prog Try.f4 Rows.fnVecScaleRow.domain false) (Rows.fnVecScaleSpec.post enc Try.prog Try.f4 false true false false) := by
  refine returnsInHanded_of_change (C := Try.checked) own started (by kernel_rfl) Try.func4
    (ChangeSpec.witness6 (enc := enc) (C := Try.checked) false ⟨#[], #[.slice none 0 0, .slice none 0 0], []⟩ 8 (by kernel_rfl) (by kernel_rfl) (by kernel_rfl) (by kernel_rfl)) ?_
  intro W base args ds gs before hval0 hW hcnd _
  have hval : ∀ (j : Nat) t v, Try.f4.params[j]? = some t → args[j]? = some v → Value.okWide Try.prog W .any base t v := hval0
  have hW' := hW
  obtain ⟨p, q, hA0, hV, rfl, hfz, hnd⟩ := hW
  have hA : DataW.TrodAll enc Try.prog W 0 (fun _ => true) true Try.f4.params.toList args.toList ds p := hA0
  rw [Try.params4] at hA hval
  obtain ⟨v0, vs0, d0, ds0, p0, q0, hargs, rfl, rfl, h0, r0⟩ := trodAll_cons hA
  obtain ⟨v1, vs1, d1, ds1, p1, q1, rfl, rfl, rfl, h1, r1⟩ := trodAll_cons r0
  obtain ⟨rfl, rfl, rfl⟩ := trodAll_nil r1
  obtain rfl : args = #[v0, v1] := by cases args; simp_all
  obtain ⟨rfl, rfl⟩ := trodVars_none hV
  obtain ⟨a0, len0, cap0, rfl⟩ := okWide_slice Try.underlying22 (hval 0 22 v0 rfl rfl)
  have k0 := h0
  have lt0 : ∀ x ∈ p0, x.block < W.heap.size := by obtain ⟨m, hm⟩ := k0; exact DataW.trod_lt m _ _ _ hm
  obtain ⟨z0, w0⟩ : ∃ zs, IsRow .u8 W a0 len0 cap0 zs := by
    obtain ⟨fuel, hf⟩ := h0
    rcases open_ints Try.underlying22 Try.underlying5 (by kernel_rfl) hf with ⟨hcs, _⟩ | ⟨x, l, c, zs, hcs, _, hl, hm, hz, _, hcell, hwz⟩
    · simp [Value.cells] at hcs
      obtain ⟨rfl, rfl, rfl⟩ := hcs
      exact ⟨[], .inl ⟨rfl, rfl, rfl, rfl⟩⟩
    · simp [Value.cells] at hcs
      obtain ⟨rfl, rfl, rfl⟩ := hcs
      exact ⟨zs, .inr ⟨_, rfl, hl, hm, by simpa using hz, hcell, hwz⟩⟩
  obtain ⟨a1, len1, cap1, rfl⟩ := okWide_slice Try.underlying22 (hval 1 22 v1 rfl rfl)
  have k1 := h1
  have lt1 : ∀ x ∈ p1, x.block < W.heap.size := by obtain ⟨m, hm⟩ := k1; exact DataW.trod_lt m _ _ _ hm
  obtain ⟨z1, w1⟩ : ∃ zs, IsRow .u8 W a1 len1 cap1 zs := by
    obtain ⟨fuel, hf⟩ := h1
    rcases open_ints Try.underlying22 Try.underlying5 (by kernel_rfl) hf with ⟨hcs, _⟩ | ⟨x, l, c, zs, hcs, _, hl, hm, hz, _, hcell, hwz⟩
    · simp [Value.cells] at hcs
      obtain ⟨rfl, rfl, rfl⟩ := hcs
      exact ⟨[], .inl ⟨rfl, rfl, rfl, rfl⟩⟩
    · simp [Value.cells] at hcs
      obtain ⟨rfl, rfl, rfl⟩ := hcs
      exact ⟨zs, .inr ⟨_, rfl, hl, hm, by simpa using hz, hcell, hwz⟩⟩
  clear hA0 hval0
  refine (walk a0 len0 cap0 z0 a1 len1 cap1 z1 W w0 w1).mono fun e W' ⟨he, bel⟩ => ?_
  subst he
  exact ⟨_, rfl, _, _, _, [], _, [], hW', trodAll_mk1 (shut_bool Try.underlying4 _), (trodAll_cons_mk (Below.trod laidOut (by kernel_rfl) (of_decide_eq_true (by kernel_rfl)) k0 bel lt0) (trodAll_cons_mk (Below.trod laidOut (by kernel_rfl) (of_decide_eq_true (by kernel_rfl)) k1 bel lt1) trodAll_mk0)), rfl, bel.frame _, fun h => by cases h⟩

theorem over : Rows.fnVecScaleRow.holds Try.pinned (OpenSpec.ofChange Rows.fnVecScaleSpec) :=
  OpenClaim.holds_of_wide 4 Try.f4 rfl rfl rfl rfl rfl rfl rfl ⟨rfl, rfl, rfl, rfl, rfl⟩ rfl rfl rfl rfl rfl (by kernel_rfl) Try.func4 (by kernel_rfl)
    (of_decide_eq_true (by kernel_rfl)) (by unfold Func.isWrapper; first | (rw [if_pos (by decide +kernel)]; kernel_rfl) | (rw [if_neg (by decide +kernel)]; exact ⟨rfl, rfl⟩))
    (fun os started H enc _ => lifted os started H enc)

theorem proved : Rows.FnVecScaleSaid := over
#print axioms proved
end Go.Proofs.Ytdkdkmebiofofaa.fnVecScale
