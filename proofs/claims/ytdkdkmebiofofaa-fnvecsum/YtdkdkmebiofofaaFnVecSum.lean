/-
  From whatever bytes two rows are drawn, VecSum answers as its model does, is element-wise, commutative and associative, and is a row: the law FnVecSum returns true.
  Conditions: none.
-/
import Derived.Test.YtdkdkmebiofofaaRows
import Derived.WalkKit
import Derived.ProofKit
import Derived.OpenShut
import Derived.ShutString
import Derived.ChangeOld
import Derived.Below
import Derived.Test.YtdkdkmebiofofaaFldMath
import Derived.Test.YtdkdkmebiofofaaMem
import Derived.Test.YtdkdkmebiofofaaField
import Derived.Test.YtdkdkmebiofofaaVecMath
import Derived.Test.YtdkdkmebiofofaaInts
import Derived.Test.YtdkdkmebiofofaaHelp
import Derived.Test.YtdkdkmebiofofaaVec
import Derived.Test.YtdkdkmebiofofaaVec2
import Derived.Test.YtdkdkmebiofofaaVecSpec
import Derived.Test.YtdkdkmebiofofaaDraw
import Derived.Test.YtdkdkmebiofofaaDrawField
import Derived.Test.YtdkdkmebiofofaaDrawVec
namespace Go.Proofs.Ytdkdkmebiofofaa.fnVecSum
open Go.ChangeShapes Go.WideShapes Go.ChangeAt Go.RowKit
open Go.ChangeMaps (open_string shut_string)
set_option linter.unusedVariables false

theorem own : ownKnob Try.prog.godebug = none := by kernel_rfl
theorem laidOut : laidOutB Try.prog = true := by kernel_rfl

/-- WHAT THE WALK IS TOLD OF A SLICE OF INTEGERS THAT CAME IN: it is nil; or it leads to a row of 'cap' cells, the numbers 'zs' (the first 'len' are its elements, the rest its spare room), each fitting its kind. -/
def IsRow (k : IntKind) (w : World) (a : Option Addr) (len cap : Nat) (zs : List Int) : Prop :=
  (a = none ∧ len = 0 ∧ cap = 0 ∧ zs = []) ∨
  ∃ x, a = some x ∧ len ≤ cap ∧ cap ≤ maxLen ∧ zs.length = cap ∧ (∀ i, i < zs.length → w.cell? (x.add i) = some (.int k (zs.getD i 0))) ∧ ∀ n ∈ zs, (Lit.int k n).wf = true

theorem walk (a0 : Option Addr) (len0 cap0 : Nat) (z0 : List Int) (a1 : Option Addr) (len1 cap1 : Nat) (z1 : List Int) (w : World) (w0 : IsRow .u8 w a0 len0 cap0 z0) (w1 : IsRow .u8 w a1 len1 cap1 z1) :
    Calls Try.prog 3 #[.slice a0 len0 cap0, .slice a1 len1 cap1] w fun e w' => e = .returned (.bool true) ∧ Below w.heap.size w w' := by
  have hc : Code w a0 len0 cap0 := code_of w0
  have hm : cap0 ≤ maxLen := hc.2.1
  have hl : len0 ≤ cap0 := hc.1
  unfold maxLen at hm
  have C := Lib.hid hc
  clear hc w0
  have hc1 : Code w a1 len1 cap1 := code_of w1
  have hm1 : cap1 ≤ maxLen := hc1.2.1
  have hl1 : len1 ≤ cap1 := hc1.1
  unfold maxLen at hm1
  clear hc1 w1
  by_cases hbig0 : (len0 : Int) > 1048576
  · go_enter Try.func3, Try.ntmps3
    go_wp2_with fail
    go_ret
    exact ⟨rfl, Below.refl _ _⟩
  by_cases hbig1 : (len1 : Int) > 1048576
  · go_enter Try.func3, Try.ntmps3
    go_wp2_with fail
    go_ret
    exact ⟨rfl, Below.refl _ _⟩
  have L0 := Lib.hid (Seen.start w)
  go_enter Try.func3, Try.ntmps3
  go_wp2_with fail
  refine (drawVecSum a0 len0 cap0 _ C.out).mono ?_
  rintro e W1 ⟨a, b, l, m, rfl, hn, hm', hl4, hm4, hg, hs, ht⟩
  have L1 := Lib.hid (((L0.out.still hg).add hs).add ht)
  clear hg hs ht L0 hn hm'
  go_wp2_with fail
  refine (implVecSum a b l m _ (L1.out.sl (a, l) (by simp)) (L1.out.sl (b, m) (by simp))).mono ?_
  rintro e W2 ⟨s, rfl, hg, ho⟩
  have L2 := Lib.hid (L1.out.new hg ho)
  clear hg ho L1
  go_wp2_with fail
  refine (specVecSum a b l m _ (L2.out.sl (a, l) (by simp)) (L2.out.sl (b, m) (by simp))).mono ?_
  rintro e W3 ⟨t, rfl, hg, ho⟩
  have L3 := Lib.hid (L2.out.new hg ho)
  clear hg ho L2
  go_wp2_with fail
  refine (lkSame s t (Vec.sum l m) _ (L3.out.sl (s, Vec.sum l m) (by simp)) (L3.out.sl (t, Vec.sum l m) (by simp))).mono ?_
  rintro e W4 ⟨rfl, hg⟩
  have L4 := Lib.hid (L3.out.still hg)
  clear hg L3
  cases hok : Vec.ok l
  · have HK := Lib.hid hok
    clear hok
    go_wp2_with fail
    refine (specVecOk a l _ (L4.out.sl (a, l) (by simp))).mono ?_
    rintro e w' ⟨rfl, rfl⟩
    rw [HK.out]
    go_wp2_with fail
    refine (specVecSum a b l m _ (L4.out.sl (a, l) (by simp)) (L4.out.sl (b, m) (by simp))).mono ?_
    rintro e W5 ⟨t2, rfl, hg, ho⟩
    have L5 := Lib.hid (L4.out.new hg ho)
    clear hg ho L4
    go_wp2_with fail
    refine (lkSame s t2 (Vec.sum l m) _ (L5.out.sl (s, Vec.sum l m) (by simp)) (L5.out.sl (t2, Vec.sum l m) (by simp))).mono ?_
    rintro e W6 ⟨rfl, hg⟩
    have L6 := Lib.hid (L5.out.still hg)
    clear hg L5
    go_wp2_with fail
    go_ret
    exact ⟨rfl, L6.out.below⟩
  have HK := Lib.hid hok
  clear hok
  cases hom : Vec.ok m
  · have HM := Lib.hid hom
    clear hom
    go_wp2_with fail
    refine (specVecOk a l _ (L4.out.sl (a, l) (by simp))).mono ?_
    rintro e w' ⟨rfl, rfl⟩
    rw [HK.out]
    go_wp2_with fail
    refine (specVecOk b m _ (L4.out.sl (b, m) (by simp))).mono ?_
    rintro e w' ⟨rfl, rfl⟩
    rw [HM.out]
    go_wp2_with fail
    refine (specVecSum a b l m _ (L4.out.sl (a, l) (by simp)) (L4.out.sl (b, m) (by simp))).mono ?_
    rintro e W5 ⟨t2, rfl, hg, ho⟩
    have L5 := Lib.hid (L4.out.new hg ho)
    clear hg ho L4
    go_wp2_with fail
    refine (lkSame s t2 (Vec.sum l m) _ (L5.out.sl (s, Vec.sum l m) (by simp)) (L5.out.sl (t2, Vec.sum l m) (by simp))).mono ?_
    rintro e W6 ⟨rfl, hg⟩
    have L6 := Lib.hid (L5.out.still hg)
    clear hg L5
    go_wp2_with fail
    go_ret
    exact ⟨rfl, L6.out.below⟩
  have HM := Lib.hid hom
  have S4 := Lib.hid (Vec.ok_len (Vec.sum_is HK.out HM.out))
  clear hom
  go_wp2_with fail
  refine (specVecOk a l _ (L4.out.sl (a, l) (by simp))).mono ?_
  rintro e w' ⟨rfl, rfl⟩
  rw [HK.out]
  go_wp2_with fail
  refine (specVecOk b m _ (L4.out.sl (b, m) (by simp))).mono ?_
  rintro e w' ⟨rfl, rfl⟩
  rw [HM.out]
  have hs : Sl W4 s (Vec.sum l m) := L4.out.sl (s, Vec.sum l m) (by simp)
  obtain ⟨av, cv, hv, hlc, hcm, hr⟩ := hs
  have hs' : Sl W4 a l := L4.out.sl (a, l) (by simp)
  obtain ⟨aa, ca, hva, hlca, hcma, hra⟩ := hs'
  have hs'' : Sl W4 b m := L4.out.sl (b, m) (by simp)
  obtain ⟨ab, cb, hvb, hlcb, hcmb, hrb⟩ := hs''
  rw [hv, hva, hvb]
  have EV := Lib.hid hv
  have EA := Lib.hid hva
  have EB := Lib.hid hvb
  have RV := Lib.hid hr
  have RA := Lib.hid hra
  have RB := Lib.hid hrb
  have SL : (Vec.sum l m).length ≤ 4 := by rw [S4.out]; omega
  have LL : (Vec.sum l m).length ≤ l.length := by rw [S4.out, Vec.ok_len HK.out]; omega
  have LM : (Vec.sum l m).length ≤ m.length := by rw [S4.out, Vec.ok_len HM.out]; omega
  unfold maxLen at hcm hcma hcmb
  clear hv hr hva hra hvb hrb
  go_wp2_with fail
  go_loopw [8] (fun i wr => ∃ k : Nat, k ≤ (Vec.sum l m).length ∧ i = .int .i64 k ∧ W4.grownBy wr none) (fun i _ => (Vec.sum l m).length - (intOf i).toNat)
  case atStart => exact ⟨0, Nat.zero_le _, rfl, World.grownBy.refl _ _⟩
  case round =>
    obtain ⟨k, hk, rfl, hg⟩ := hrel
    have G := Lib.hid hg
    clear hg
    by_cases hlt : k < (Vec.sum l m).length
    · have k4 : k < 4 := by omega
      have hlta : k < l.length := by omega
      have hltb : k < m.length := by omega
      obtain ⟨b1, o1, rfl, hx⟩ := (RV.out.grown G.out).at_ hlt
      obtain ⟨b2, o2, rfl, hy⟩ := (RA.out.grown G.out).at_ hlta
      obtain ⟨b3, o3, rfl, hz⟩ := (RB.out.grown G.out).at_ hltb
      have sg := Vec.sum_get HK.out HM.out k4
      obtain ⟨y, hye⟩ : ∃ y, l.getD k 0 = y := ⟨_, rfl⟩
      obtain ⟨z, hze⟩ : ∃ z, m.getD k 0 = z := ⟨_, rfl⟩
      rw [hye] at hy sg
      rw [hze] at hz sg
      rw [sg] at hx
      have i1 : (k : Int) < ((Vec.sum l m).length : Int) := by omega
      have i2 : (k : Int) < (l.length : Int) := by omega
      have i3 : (k : Int) < (m.length : Int) := by omega
      have hne : (Fld.sum y z != Fld.sum y z) = false := by simp
      clear sg hye hze
      go_wp2_with fail
      go_quiet ((go_at_call 20; exact quietSum _ _ _ _))
      go_wp2_with fail
      go_roundw
      case rel => exact ⟨k + 1, by omega, by go_num, grown_draws G.out _⟩
      case measure => simp [intOf]; omega
    · have L5 := Lib.hid (L4.out.still G.out)
      have SI := Lib.hid (Vec.sum_is HK.out HM.out)
      have LKI := Lib.hid (Vec.lk_is (len1 : Int))
      have AS := Lib.hid (Vec.sum_assoc HK.out HM.out LKI.out)
      clear L4 G
      go_wp2_with fail
      refine (lkVec _ _ (by omega) (by omega)).mono ?_
      rintro e W6 ⟨c, rfl, hg, ho⟩
      have L6 := Lib.hid (L5.out.new hg ho)
      clear hg ho L5
      go_wp2_with fail
      refine (Vec.sum_comm l m ▸ implVecSum _ _ m l _ (EB.out ▸ (L6.out.sl (b, m) (by simp))) (EA.out ▸ (L6.out.sl (a, l) (by simp)))).mono ?_
      rintro e W7 ⟨x1, rfl, hg, ho⟩
      have L7 := Lib.hid (L6.out.new hg ho)
      clear hg ho L6
      go_wp2_with fail
      refine (lkSame x1 _ (Vec.sum l m) _ (L7.out.sl (x1, Vec.sum l m) (by simp)) (EV.out ▸ (L7.out.sl (s, Vec.sum l m) (by simp)))).mono ?_
      rintro e W8 ⟨rfl, hg⟩
      have L8 := Lib.hid (L7.out.still hg)
      clear hg L7
      go_wp2_with fail
      refine (AS.out ▸ implVecSum _ c (Vec.sum l m) (Vec.lk len1) _ (EV.out ▸ (L8.out.sl (s, Vec.sum l m) (by simp))) (L8.out.sl (c, Vec.lk len1) (by simp))).mono ?_
      rintro e W9 ⟨x2, rfl, hg, ho⟩
      have L9 := Lib.hid (L8.out.new hg ho)
      clear hg ho L8
      go_wp2_with fail
      refine (implVecSum _ c m (Vec.lk len1) _ (EB.out ▸ (L9.out.sl (b, m) (by simp))) (L9.out.sl (c, Vec.lk len1) (by simp))).mono ?_
      rintro e W10 ⟨x3, rfl, hg, ho⟩
      have L10 := Lib.hid (L9.out.new hg ho)
      clear hg ho L9
      go_wp2_with fail
      refine (implVecSum _ x3 l _ _ (EA.out ▸ (L10.out.sl (a, l) (by simp))) (L10.out.sl (x3, Vec.sum m (Vec.lk len1)) (by simp))).mono ?_
      rintro e W11 ⟨x4, rfl, hg, ho⟩
      have L11 := Lib.hid (L10.out.new hg ho)
      clear hg ho L10
      go_wp2_with fail
      refine (lkSame x2 x4 _ _ (L11.out.sl (x2, Vec.sum l (Vec.sum m (Vec.lk len1))) (by simp)) (L11.out.sl (x4, Vec.sum l (Vec.sum m (Vec.lk len1))) (by simp))).mono ?_
      rintro e W12 ⟨rfl, hg⟩
      have L12 := Lib.hid (L11.out.still hg)
      clear hg L11
      go_wp2_with fail
      refine (implVecOk _ (Vec.sum l m) _ (EV.out ▸ (L12.out.sl (s, Vec.sum l m) (by simp)))).mono ?_
      rintro e w' ⟨rfl, rfl⟩
      rw [SI.out]
      go_wp2_with fail
      go_ret
      exact ⟨rfl, L12.out.below⟩

set_option maxRecDepth 100000 in
theorem lifted (os : Os) (started : os.Started) (H : Type) (enc : TypeId × Value → H) :
    ReturnsInHanded {} Try.checked os 3 .any (Rows.fnVecSumSpec.pre6 enc Try.prog Try.f3 Rows.fnVecSumRow.domain false) (Rows.fnVecSumSpec.post enc Try.prog Try.f3 false true false false) := by
  refine returnsInHanded_of_change (C := Try.checked) own started (by kernel_rfl) Try.func3
    (ChangeSpec.witness6 (enc := enc) (C := Try.checked) false ⟨#[], #[.slice none 0 0, .slice none 0 0], []⟩ 8 (by kernel_rfl) (by kernel_rfl) (by kernel_rfl) (by kernel_rfl)) ?_
  intro W base args ds gs before hval0 hW hcnd _
  have hval : ∀ (j : Nat) t v, Try.f3.params[j]? = some t → args[j]? = some v → Value.okWide Try.prog W .any base t v := hval0
  have hW' := hW
  obtain ⟨p, q, hA0, hV, rfl, hfz, hnd⟩ := hW
  have hA : DataW.TrodAll enc Try.prog W 0 (fun _ => true) true Try.f3.params.toList args.toList ds p := hA0
  rw [Try.params3] at hA hval
  obtain ⟨v0, vs0, d0, ds0, p0, q0, hargs, rfl, rfl, h0, r0⟩ := trodAll_cons hA
  obtain ⟨v1, vs1, d1, ds1, p1, q1, rfl, rfl, rfl, h1, r1⟩ := trodAll_cons r0
  obtain ⟨rfl, rfl, rfl⟩ := trodAll_nil r1
  obtain rfl : args = #[v0, v1] := by cases args; simp_all
  obtain ⟨rfl, rfl⟩ := trodVars_none hV
  obtain ⟨a0, len0, cap0, rfl⟩ := okWide_slice Try.underlying22 (hval 0 22 v0 rfl rfl)
  have k0 := h0
  have lt0 : ∀ x ∈ p0, x.block < W.heap.size := by obtain ⟨m, hm⟩ := k0; exact DataW.trod_lt m _ _ _ hm
  obtain ⟨z0, w0⟩ : ∃ zs, IsRow .u8 W a0 len0 cap0 zs := by
    obtain ⟨fuel, hf⟩ := h0
    rcases open_ints Try.underlying22 Try.underlying5 (by kernel_rfl) hf with ⟨hcs, _⟩ | ⟨x, l, c, zs, hcs, _, hl, hm, hz, _, hcell, hwz⟩
    · simp [Value.cells] at hcs
      obtain ⟨rfl, rfl, rfl⟩ := hcs
      exact ⟨[], .inl ⟨rfl, rfl, rfl, rfl⟩⟩
    · simp [Value.cells] at hcs
      obtain ⟨rfl, rfl, rfl⟩ := hcs
      exact ⟨zs, .inr ⟨_, rfl, hl, hm, by simpa using hz, hcell, hwz⟩⟩
  obtain ⟨a1, len1, cap1, rfl⟩ := okWide_slice Try.underlying22 (hval 1 22 v1 rfl rfl)
  have k1 := h1
  have lt1 : ∀ x ∈ p1, x.block < W.heap.size := by obtain ⟨m, hm⟩ := k1; exact DataW.trod_lt m _ _ _ hm
  obtain ⟨z1, w1⟩ : ∃ zs, IsRow .u8 W a1 len1 cap1 zs := by
    obtain ⟨fuel, hf⟩ := h1
    rcases open_ints Try.underlying22 Try.underlying5 (by kernel_rfl) hf with ⟨hcs, _⟩ | ⟨x, l, c, zs, hcs, _, hl, hm, hz, _, hcell, hwz⟩
    · simp [Value.cells] at hcs
      obtain ⟨rfl, rfl, rfl⟩ := hcs
      exact ⟨[], .inl ⟨rfl, rfl, rfl, rfl⟩⟩
    · simp [Value.cells] at hcs
      obtain ⟨rfl, rfl, rfl⟩ := hcs
      exact ⟨zs, .inr ⟨_, rfl, hl, hm, by simpa using hz, hcell, hwz⟩⟩
  clear hA0 hval0
  refine (walk a0 len0 cap0 z0 a1 len1 cap1 z1 W w0 w1).mono fun e W' ⟨he, bel⟩ => ?_
  subst he
  exact ⟨_, rfl, _, _, _, [], _, [], hW', trodAll_mk1 (shut_bool Try.underlying4 _), (trodAll_cons_mk (Below.trod laidOut (by kernel_rfl) (of_decide_eq_true (by kernel_rfl)) k0 bel lt0) (trodAll_cons_mk (Below.trod laidOut (by kernel_rfl) (of_decide_eq_true (by kernel_rfl)) k1 bel lt1) trodAll_mk0)), rfl, bel.frame _, fun h => by cases h⟩

theorem over : Rows.fnVecSumRow.holds Try.pinned (OpenSpec.ofChange Rows.fnVecSumSpec) :=
  OpenClaim.holds_of_wide 3 Try.f3 rfl rfl rfl rfl rfl rfl rfl ⟨rfl, rfl, rfl, rfl, rfl⟩ rfl rfl rfl rfl rfl (by kernel_rfl) Try.func3 (by kernel_rfl)
    (of_decide_eq_true (by kernel_rfl)) (by unfold Func.isWrapper; first | (rw [if_pos (by decide +kernel)]; kernel_rfl) | (rw [if_neg (by decide +kernel)]; exact ⟨rfl, rfl⟩))
    (fun os started H enc _ => lifted os started H enc)

theorem proved : Rows.FnVecSumSaid := over
#print axioms proved
end Go.Proofs.Ytdkdkmebiofofaa.fnVecSum
