/-
  From whatever bytes two rows are drawn, VecDot answers as its model does, is the sum of element-wise products, commutative and linear, and with VecUnit selects an element: the law FnVecDot returns true.
  Conditions: none.
-/
import Derived.Test.YtdkdkmebiofofaaRows
import Derived.WalkKit
import Derived.ProofKit
import Derived.OpenShut
import Derived.ShutString
import Derived.ChangeOld
import Derived.Below
import Derived.Test.YtdkdkmebiofofaaFldMath
import Derived.Test.YtdkdkmebiofofaaMem
import Derived.Test.YtdkdkmebiofofaaField
import Derived.Test.YtdkdkmebiofofaaVecMath
import Derived.Test.YtdkdkmebiofofaaInts
import Derived.Test.YtdkdkmebiofofaaHelp
import Derived.Test.YtdkdkmebiofofaaVec
import Derived.Test.YtdkdkmebiofofaaVec2
import Derived.Test.YtdkdkmebiofofaaVecSpec
import Derived.Test.YtdkdkmebiofofaaDraw
import Derived.Test.YtdkdkmebiofofaaDrawField
import Derived.Test.YtdkdkmebiofofaaDrawVec
namespace Go.Proofs.Ytdkdkmebiofofaa.fnVecDot
open Go.ChangeShapes Go.WideShapes Go.ChangeAt Go.RowKit
open Go.ChangeMaps (open_string shut_string)
set_option linter.unusedVariables false

theorem own : ownKnob Try.prog.godebug = none := by kernel_rfl
theorem laidOut : laidOutB Try.prog = true := by kernel_rfl

/-- WHAT THE WALK IS TOLD OF A SLICE OF INTEGERS THAT CAME IN: it is nil; or it leads to a row of 'cap' cells, the numbers 'zs' (the first 'len' are its elements, the rest its spare room), each fitting its kind. -/
def IsRow (k : IntKind) (w : World) (a : Option Addr) (len cap : Nat) (zs : List Int) : Prop :=
  (a = none ∧ len = 0 ∧ cap = 0 ∧ zs = []) ∨
  ∃ x, a = some x ∧ len ≤ cap ∧ cap ≤ maxLen ∧ zs.length = cap ∧ (∀ i, i < zs.length → w.cell? (x.add i) = some (.int k (zs.getD i 0))) ∧ ∀ n ∈ zs, (Lit.int k n).wf = true

theorem walk (a0 : Option Addr) (len0 cap0 : Nat) (z0 : List Int) (a1 : Option Addr) (len1 cap1 : Nat) (z1 : List Int) (w : World) (w0 : IsRow .u8 w a0 len0 cap0 z0) (w1 : IsRow .u8 w a1 len1 cap1 z1) :
    Calls Try.prog 5 #[.slice a0 len0 cap0, .slice a1 len1 cap1] w fun e w' => e = .returned (.bool true) ∧ Below w.heap.size w w' := by
  have hc : Code w a0 len0 cap0 := code_of w0
  have hm : cap0 ≤ maxLen := hc.2.1
  have hl : len0 ≤ cap0 := hc.1
  unfold maxLen at hm
  have C := Lib.hid hc
  clear hc w0
  have hc1 : Code w a1 len1 cap1 := code_of w1
  have hm1 : cap1 ≤ maxLen := hc1.2.1
  have hl1 : len1 ≤ cap1 := hc1.1
  unfold maxLen at hm1
  clear hc1 w1
  by_cases hbig0 : (len0 : Int) > 1048576
  · go_enter Try.func5, Try.ntmps5
    go_wp2_with fail
    go_ret
    exact ⟨rfl, Below.refl _ _⟩
  by_cases hbig1 : (len1 : Int) > 1048576
  · go_enter Try.func5, Try.ntmps5
    go_wp2_with fail
    go_ret
    exact ⟨rfl, Below.refl _ _⟩
  have L0 := Lib.hid (Seen.start w)
  go_enter Try.func5, Try.ntmps5
  go_wp2_with fail
  refine (drawVecDot a0 len0 cap0 _ C.out).mono ?_
  rintro e W1 ⟨a, b, l, m, rfl, hn, hm', hl4, hm4, hg, hs, ht⟩
  have L1 := Lib.hid (((L0.out.still hg).add hs).add ht)
  clear hg hs ht L0 hn hm'
  go_wp2_with fail
  refine (implVecDot a b l m _ (L1.out.sl (a, l) (by simp)) (L1.out.sl (b, m) (by simp))).mono ?_
  rintro e W2 ⟨rfl, hg⟩
  have L2 := Lib.hid (L1.out.still hg)
  clear hg L1
  go_wp2_with fail
  refine (specVecDot a b l m _ (L2.out.sl (a, l) (by simp)) (L2.out.sl (b, m) (by simp))).mono ?_
  rintro e W3 ⟨rfl, hg⟩
  have L3 := Lib.hid (L2.out.still hg)
  clear hg L2
  cases hok : Vec.ok l
  · have HK := Lib.hid hok
    clear hok
    go_wp2_with fail
    refine (specVecOk a l _ (L3.out.sl (a, l) (by simp))).mono ?_
    rintro e w' ⟨rfl, rfl⟩
    rw [HK.out]
    go_wp2_with fail
    refine (specVecDot a b l m _ (L3.out.sl (a, l) (by simp)) (L3.out.sl (b, m) (by simp))).mono ?_
    rintro e W4 ⟨rfl, hg⟩
    have L4 := Lib.hid (L3.out.still hg)
    clear hg L3
    go_wp2_with fail
    go_ret
    exact ⟨rfl, L4.out.below⟩
  have HK := Lib.hid hok
  clear hok
  cases hom : Vec.ok m
  · have HM := Lib.hid hom
    clear hom
    go_wp2_with fail
    refine (specVecOk a l _ (L3.out.sl (a, l) (by simp))).mono ?_
    rintro e w' ⟨rfl, rfl⟩
    rw [HK.out]
    go_wp2_with fail
    refine (specVecOk b m _ (L3.out.sl (b, m) (by simp))).mono ?_
    rintro e w' ⟨rfl, rfl⟩
    rw [HM.out]
    go_wp2_with fail
    refine (specVecDot a b l m _ (L3.out.sl (a, l) (by simp)) (L3.out.sl (b, m) (by simp))).mono ?_
    rintro e W4 ⟨rfl, hg⟩
    have L4 := Lib.hid (L3.out.still hg)
    clear hg L3
    go_wp2_with fail
    go_ret
    exact ⟨rfl, L4.out.below⟩
  have HM := Lib.hid hom
  have A4 := Lib.hid (Vec.ok_len HK.out)
  have B4 := Lib.hid (Vec.ok_len HM.out)
  clear hom
  go_wp2_with fail
  refine (specVecOk a l _ (L3.out.sl (a, l) (by simp))).mono ?_
  rintro e w' ⟨rfl, rfl⟩
  rw [HK.out]
  go_wp2_with fail
  refine (specVecOk b m _ (L3.out.sl (b, m) (by simp))).mono ?_
  rintro e w' ⟨rfl, rfl⟩
  rw [HM.out]
  have hs' : Sl W3 a l := L3.out.sl (a, l) (by simp)
  obtain ⟨aa, ca, hva, hlca, hcma, hra⟩ := hs'
  have hs'' : Sl W3 b m := L3.out.sl (b, m) (by simp)
  obtain ⟨ab, cb, hvb, hlcb, hcmb, hrb⟩ := hs''
  rw [hva, hvb]
  have EA := Lib.hid hva
  have EB := Lib.hid hvb
  have RA := Lib.hid hra
  have RB := Lib.hid hrb
  have LM : l.length ≤ m.length := by rw [A4.out, B4.out]; omega
  unfold maxLen at hcma hcmb
  clear hva hra hvb hrb
  go_wp2_with fail
  go_loopw [8, 9] (fun d i wr => ∃ k : Nat, k ≤ l.length ∧ i = .int .i64 k ∧ d = .int .i64 (Vec.dpart l m k) ∧ W3.grownBy wr none) (fun _ i _ => l.length - (intOf i).toNat)
  case atStart => exact ⟨0, Nat.zero_le _, rfl, rfl, World.grownBy.refl _ _⟩
  case round =>
    obtain ⟨k, hk, rfl, rfl, hg⟩ := hrel
    have G := Lib.hid hg
    clear hg
    by_cases hlt : k < l.length
    · have k4 : k < 4 := by have := A4.out; omega
      have hltb : k < m.length := by omega
      obtain ⟨b2, o2, rfl, hy⟩ := (RA.out.grown G.out).at_ hlt
      obtain ⟨b3, o3, rfl, hz⟩ := (RB.out.grown G.out).at_ hltb
      have DP := Lib.hid (Vec.dpart_sum l m k (Vec.ok_get HK.out k4) (Vec.ok_get HM.out k4))
      have DU := Lib.hid (Vec.dot_unit HK.out k k4)
      have HU := Lib.hid (Vec.unitOk_yes (n := (k : Int)) (by omega) (by omega))
      obtain ⟨y, hye⟩ : ∃ y, l.getD k 0 = y := ⟨_, rfl⟩
      obtain ⟨z, hze⟩ : ∃ z, m.getD k 0 = z := ⟨_, rfl⟩
      rw [hye, hze] at DP
      rw [hye] at DU
      rw [hye] at hy
      rw [hze] at hz
      have i2 : (k : Int) < (l.length : Int) := by omega
      have i3 : (k : Int) < (m.length : Int) := by omega
      obtain ⟨d, hd⟩ : ∃ d, Vec.dpart l m k = d := ⟨_, rfl⟩
      rw [hd] at DP ⊢
      clear hye hze hd
      go_wp2_with fail
      go_quiet (first | (go_at_call 27; exact quietMul _ _ _ _) | (go_at_call 20; exact quietSum _ _ _ _))
      rw [DP.out]
      have L4 := Lib.hid (L3.out.still (grown_draws G.out nq))
      have G4 : Hid (W3.grownBy (wr.drewN nq) none) := Lib.hid (grown_draws G.out nq)
      clear hy hz
      generalize wr.drewN nq = w4 at *
      go_wp2_with fail
      refine (implVecUnit k _).mono ?_
      rintro e w5 ⟨u, rfl, hg, ho⟩
      rw [HU.out]
      have SA : Hid (Sl w5.drew (.slice (some ⟨b2, o2, none⟩) l.length ca) l) := Lib.hid (EA.out ▸ (((L4.out.still hg).sl (a, l) (by simp)).grown (grown_drew (World.grownBy.refl _ _))))
      have SU : Hid (Sl w5.drew u (Vec.unit k)) := Lib.hid (ho.sl.grown (grown_drew (World.grownBy.refl _ _)))
      have G5 : Hid (W3.grownBy w5 none) := Lib.hid (grown_trans G4.out hg)
      obtain ⟨b4, o4, e4, hy⟩ := (RA.out.grown G5.out).at_ hlt
      injection e4 with e4
      injection e4 with e4 e5
      subst e4 e5
      rw [show l.getD k 0 = y from by rw [← DU.out, Vec.dot_unit HK.out k k4]] at hy
      have hne : (y != y) = false := by simp
      clear hg ho L4 G4
      go_wp2_with fail
      go_region_held3 (fun w' => w'.cell? ⟨b2, o2 + k, none⟩ = some (.int .i64 y))
        (first
          | go_keep
          | exact hgrow.cell hy (by simp)
          | exact hgrow.cell ‹_› (by simp))
        ((go_at_call 31; refine (implVecDot _ _ l (Vec.unit k) _ SA.out SU.out).mono ?_; rintro e w6 ⟨rfl, hgrow⟩; rw [DU.out]))
      have G6 : Hid (W3.grownBy w6 none) := Lib.hid (grown_trans (grown_drew G5.out) hgrow)
      clear hgrow hy SA SU G5
      go_wp2_with fail
      go_roundw
      case rel => exact ⟨k + 1, by omega, by go_num, rfl, G6.out⟩
      case measure => simp [intOf]; omega
    · have : k = l.length := by omega
      subst this
      have DE : Vec.dpart l m l.length = Vec.dot l m := by rw [A4.out]; exact Vec.dpart_all HK.out HM.out
      rw [DE]
      have L4 := Lib.hid (L3.out.still G.out)
      have LKI := Lib.hid (Vec.lk_is (len1 : Int))
      have DC := Lib.hid (Vec.dot_comm l m)
      have DS := Lib.hid (Vec.dot_sum HK.out HM.out LKI.out)
      clear L3 G DE
      go_wp2_with fail
      refine (lkVec _ _ (by omega) (by omega)).mono ?_
      rintro e W5 ⟨c, rfl, hg, ho⟩
      have L5 := Lib.hid (L4.out.new hg ho)
      clear hg ho L4
      go_wp2_with fail
      refine (DC.out ▸ implVecDot _ _ m l _ (EB.out ▸ (L5.out.sl (b, m) (by simp))) (EA.out ▸ (L5.out.sl (a, l) (by simp)))).mono ?_
      rintro e W6 ⟨rfl, hg⟩
      have L6 := Lib.hid (L5.out.still hg)
      clear hg L5
      go_wp2_with fail
      refine (implVecSum _ c m (Vec.lk len1) _ (EB.out ▸ (L6.out.sl (b, m) (by simp))) (L6.out.sl (c, Vec.lk len1) (by simp))).mono ?_
      rintro e W7 ⟨x, rfl, hg, ho⟩
      have L7 := Lib.hid (L6.out.new hg ho)
      clear hg ho L6
      go_wp2_with fail
      refine (DS.out ▸ implVecDot _ x l (Vec.sum m (Vec.lk len1)) _ (EA.out ▸ (L7.out.sl (a, l) (by simp))) (L7.out.sl (x, Vec.sum m (Vec.lk len1)) (by simp))).mono ?_
      rintro e W8 ⟨rfl, hg⟩
      have L8 := Lib.hid (L7.out.still hg)
      clear hg L7
      go_wp2_with fail
      refine (implVecDot _ c l (Vec.lk len1) _ (EA.out ▸ (L8.out.sl (a, l) (by simp))) (L8.out.sl (c, Vec.lk len1) (by simp))).mono ?_
      rintro e W9 ⟨rfl, hg⟩
      have L9 := Lib.hid (L8.out.still hg)
      clear hg L8
      go_wp2_with fail
      refine (implSum _ _ _).mono ?_
      rintro e w' ⟨rfl, rfl⟩
      go_wp2_with fail
      go_ret
      exact ⟨rfl, L9.out.below⟩

set_option maxRecDepth 100000 in
theorem lifted (os : Os) (started : os.Started) (H : Type) (enc : TypeId × Value → H) :
    ReturnsInHanded {} Try.checked os 5 .any (Rows.fnVecDotSpec.pre6 enc Try.prog Try.f5 Rows.fnVecDotRow.domain false) (Rows.fnVecDotSpec.post enc Try.prog Try.f5 false true false false) := by
  refine returnsInHanded_of_change (C := Try.checked) own started (by kernel_rfl) Try.func5
    (ChangeSpec.witness6 (enc := enc) (C := Try.checked) false ⟨#[], #[.slice none 0 0, .slice none 0 0], []⟩ 8 (by kernel_rfl) (by kernel_rfl) (by kernel_rfl) (by kernel_rfl)) ?_
  intro W base args ds gs before hval0 hW hcnd _
  have hval : ∀ (j : Nat) t v, Try.f5.params[j]? = some t → args[j]? = some v → Value.okWide Try.prog W .any base t v := hval0
  have hW' := hW
  obtain ⟨p, q, hA0, hV, rfl, hfz, hnd⟩ := hW
  have hA : DataW.TrodAll enc Try.prog W 0 (fun _ => true) true Try.f5.params.toList args.toList ds p := hA0
  rw [Try.params5] at hA hval
  obtain ⟨v0, vs0, d0, ds0, p0, q0, hargs, rfl, rfl, h0, r0⟩ := trodAll_cons hA
  obtain ⟨v1, vs1, d1, ds1, p1, q1, rfl, rfl, rfl, h1, r1⟩ := trodAll_cons r0
  obtain ⟨rfl, rfl, rfl⟩ := trodAll_nil r1
  obtain rfl : args = #[v0, v1] := by cases args; simp_all
  obtain ⟨rfl, rfl⟩ := trodVars_none hV
  obtain ⟨a0, len0, cap0, rfl⟩ := okWide_slice Try.underlying22 (hval 0 22 v0 rfl rfl)
  have k0 := h0
  have lt0 : ∀ x ∈ p0, x.block < W.heap.size := by obtain ⟨m, hm⟩ := k0; exact DataW.trod_lt m _ _ _ hm
  obtain ⟨z0, w0⟩ : ∃ zs, IsRow .u8 W a0 len0 cap0 zs := by
    obtain ⟨fuel, hf⟩ := h0
    rcases open_ints Try.underlying22 Try.underlying5 (by kernel_rfl) hf with ⟨hcs, _⟩ | ⟨x, l, c, zs, hcs, _, hl, hm, hz, _, hcell, hwz⟩
    · simp [Value.cells] at hcs
      obtain ⟨rfl, rfl, rfl⟩ := hcs
      exact ⟨[], .inl ⟨rfl, rfl, rfl, rfl⟩⟩
    · simp [Value.cells] at hcs
      obtain ⟨rfl, rfl, rfl⟩ := hcs
      exact ⟨zs, .inr ⟨_, rfl, hl, hm, by simpa using hz, hcell, hwz⟩⟩
  obtain ⟨a1, len1, cap1, rfl⟩ := okWide_slice Try.underlying22 (hval 1 22 v1 rfl rfl)
  have k1 := h1
  have lt1 : ∀ x ∈ p1, x.block < W.heap.size := by obtain ⟨m, hm⟩ := k1; exact DataW.trod_lt m _ _ _ hm
  obtain ⟨z1, w1⟩ : ∃ zs, IsRow .u8 W a1 len1 cap1 zs := by
    obtain ⟨fuel, hf⟩ := h1
    rcases open_ints Try.underlying22 Try.underlying5 (by kernel_rfl) hf with ⟨hcs, _⟩ | ⟨x, l, c, zs, hcs, _, hl, hm, hz, _, hcell, hwz⟩
    · simp [Value.cells] at hcs
      obtain ⟨rfl, rfl, rfl⟩ := hcs
      exact ⟨[], .inl ⟨rfl, rfl, rfl, rfl⟩⟩
    · simp [Value.cells] at hcs
      obtain ⟨rfl, rfl, rfl⟩ := hcs
      exact ⟨zs, .inr ⟨_, rfl, hl, hm, by simpa using hz, hcell, hwz⟩⟩
  clear hA0 hval0
  refine (walk a0 len0 cap0 z0 a1 len1 cap1 z1 W w0 w1).mono fun e W' ⟨he, bel⟩ => ?_
  subst he
  exact ⟨_, rfl, _, _, _, [], _, [], hW', trodAll_mk1 (shut_bool Try.underlying4 _), (trodAll_cons_mk (Below.trod laidOut (by kernel_rfl) (of_decide_eq_true (by kernel_rfl)) k0 bel lt0) (trodAll_cons_mk (Below.trod laidOut (by kernel_rfl) (of_decide_eq_true (by kernel_rfl)) k1 bel lt1) trodAll_mk0)), rfl, bel.frame _, fun h => by cases h⟩

theorem over : Rows.fnVecDotRow.holds Try.pinned (OpenSpec.ofChange Rows.fnVecDotSpec) :=
  OpenClaim.holds_of_wide 5 Try.f5 rfl rfl rfl rfl rfl rfl rfl ⟨rfl, rfl, rfl, rfl, rfl⟩ rfl rfl rfl rfl rfl (by kernel_rfl) Try.func5 (by kernel_rfl)
    (of_decide_eq_true (by kernel_rfl)) (by unfold Func.isWrapper; first | (rw [if_pos (by decide +kernel)]; kernel_rfl) | (rw [if_neg (by decide +kernel)]; exact ⟨rfl, rfl⟩))
    (fun os started H enc _ => lifted os started H enc)

theorem proved : Rows.FnVecDotSaid := over
#print axioms proved
end Go.Proofs.Ytdkdkmebiofofaa.fnVecDot
