/-
  For every slice of slices of integers, of at most 2^20 rows and elements together, and every slice of at most 2^20 integers SpanBy answers as its model does, changes nothing, and its answer owns its memory: the law FnExactSpanBy returns true.
  Conditions: none.
-/
import Derived.Test.YtdbajokjhllekaaRows
import Derived.WalkKit
import Derived.ProofKit
import Derived.OpenShut
import Derived.ShutString
import Derived.ChangeOld
import Derived.Below
import Derived.Test.YtdbajokjhllekaaFldMath
import Derived.Test.YtdbajokjhllekaaMem
import Derived.Test.YtdbajokjhllekaaField
import Derived.Test.YtdbajokjhllekaaVecMath
import Derived.Test.YtdbajokjhllekaaSpanMath
import Derived.Test.YtdbajokjhllekaaSpanList
import Derived.Test.YtdbajokjhllekaaSpanTidy
import Derived.Test.YtdbajokjhllekaaSpanMore
import Derived.Test.YtdbajokjhllekaaSpanBy
import Derived.Test.YtdbajokjhllekaaSpanWork
import Derived.Test.YtdbajokjhllekaaSpanElim
import Derived.Test.YtdbajokjhllekaaInts
import Derived.Test.YtdbajokjhllekaaAppendZeros
import Derived.Test.YtdbajokjhllekaaTabs
import Derived.Test.YtdbajokjhllekaaHelp
import Derived.Test.YtdbajokjhllekaaVec
import Derived.Test.YtdbajokjhllekaaVec2
import Derived.Test.YtdbajokjhllekaaVecSpec
import Derived.Test.YtdbajokjhllekaaSpanSpec
import Derived.Test.YtdbajokjhllekaaSpanHelp
import Derived.Test.YtdbajokjhllekaaSpanHelp2
import Derived.Test.YtdbajokjhllekaaSpanOk
import Derived.Test.YtdbajokjhllekaaSpanLine
import Derived.Test.YtdbajokjhllekaaSpanEch
import Derived.Test.YtdbajokjhllekaaSpanTake
import Derived.Test.YtdbajokjhllekaaSpanProg
import Derived.Test.YtdbajokjhllekaaSpanTops
import Derived.Test.YtdbajokjhllekaaSpanSpec2
import Derived.Test.YtdbajokjhllekaaSpanSpec3
import Derived.Test.YtdbajokjhllekaaSpanSpec4
import Derived.Test.YtdbajokjhllekaaSpanTopsBy
import Derived.Test.YtdbajokjhllekaaSpanTops2
import Derived.Test.YtdbajokjhllekaaSpanSame
import Derived.Test.YtdbajokjhllekaaSpanLaws
import Derived.Test.YtdbajokjhllekaaSpanSel
import Derived.Test.YtdbajokjhllekaaSpanMade
import Derived.Test.YtdbajokjhllekaaSpanPut
import Derived.Test.YtdbajokjhllekaaSpanSpec5
import Derived.Test.YtdbajokjhllekaaSpanSpec6
import Derived.Test.YtdbajokjhllekaaAlone
namespace Go.Proofs.Ytdbajokjhllekaa.fnExactSpanBy
open Go.ChangeShapes Go.WideShapes Go.ChangeAt Go.RowKit
set_option linter.unusedVariables false

theorem own : ownKnob Try.prog.godebug = none := by kernel_rfl
theorem laidOut : laidOutB Try.prog = true := by kernel_rfl

theorem byM_len {m : List (List Int)} {v l : List Int} {b : Bool} (h : ByM m v b l) : l.length ≤ 1048576 := by
  rcases h.2 with ⟨_, hm, _, hi⟩ | ⟨_, rfl⟩
  · have := hi.1.1
    have := okM_len hm
    omega
  · simp

set_option maxHeartbeats 2000000 in
set_option maxRecDepth 20000 in
theorem walk (a0 : Option Addr) (len0 cap0 : Nat) (us0 : List Value) (t0 : List (List Int)) (a1 : Option Addr) (len1 cap1 : Nat) (l1 : List Int) (w : World) (e0 : len0 = t0.length) (c0 : len0 ≤ cap0) (m0 : cap0 ≤ maxLen) (w0 : Tab w (.slice a0 len0 cap0) us0 t0) (e1 : len1 = l1.length) (c1 : len1 ≤ cap1) (m1 : cap1 ≤ maxLen) (w1 : Sl w (.slice a1 len1 cap1) l1) :
    Calls Try.prog 14 #[.slice a0 len0 cap0, .slice a1 len1 cap1] w fun e w' => e = .returned (.bool true) ∧ Below w.heap.size w w' := by
  subst e0
  subst e1
  have TA := Lib.hid w0
  have SA := Lib.hid w1
  clear w0 w1
  unfold maxLen at m0 m1
  by_cases hbig : (l1.length : Int) > 1048576
  · go_enter Try.func14, Try.ntmps14
    go_wp2_with fail
    go_ret
    exact ⟨rfl, Below.refl _ _⟩
  have hv : l1.length ≤ 1048576 := by omega
  go_enter Try.func14, Try.ntmps14
  go_wp2_with fail
  refine (szIntSS _ us0 t0 1048576 _ TA.out (by omega) (by omega)).mono ?_
  rintro e w' ⟨r, rfl, rfl, r1, hz⟩
  by_cases hneg : r < 0
  · go_wp2_with fail
    go_ret
    exact ⟨rfl, Below.refl _ _⟩
  obtain ⟨hl, ht⟩ := hz (by omega)
  clear hz
  go_wp2_with fail
  refine (toIntSS _ us0 t0 _ TA.out hl ht).mono ?_
  rintro e W1 ⟨y1, uy1, rfl, hg, hly1, ho⟩
  have G1 := Lib.hid hg
  have T1 := Lib.hid (tab_own hly1 ho)
  clear hg ho
  go_wp2_with fail
  refine (toIntS _ l1 _ (SA.out.grown G1.out) hv).mono ?_
  rintro e W2 ⟨y2, rfl, hg, ho⟩
  have G2 := Lib.hid (grown_trans G1.out hg)
  have T2 := Lib.hid (T1.out.grown hg)
  have S2 := Lib.hid ho.sl
  clear hg ho G1 T1
  go_wp2_with fail
  refine (specSpanBy y1 y2 uy1 t0 l1 _ T2.out S2.out).mono ?_
  rintro e W3 ⟨r0, b, R, rfl, hg, ho, hby⟩
  have G3 := Lib.hid (grown_trans G2.out hg)
  have TR : Hid (Sl W3 r0 R) := Lib.hid ho.sl
  have TA2 := Lib.hid (TA.out.grown G3.out)
  have SA2 := Lib.hid (SA.out.grown G3.out)
  have L0 := Lib.hid (Lives.start W3)
  have BY := Lib.hid hby
  have hl' := byM_len hby
  have hbb : (b != b) = false := by cases b <;> rfl
  clear hg ho G2 T2 S2 hby
  go_wp2_with fail
  refine (toIntSS _ us0 t0 _ (L0.out.arg TA2.out) hl ht).mono ?_
  rintro e W4 ⟨x0, ux0, rfl, hg, hlx0, ho⟩
  have L1 : Hid (Lives W3 W4 (tabItems x0 ux0 t0)) := Lib.hid (by have := L0.out.new hg ho; rwa [List.append_nil] at this)
  have TX := Lib.hid (tab_own hlx0 ho)
  clear hg ho L0
  go_wp2_with fail
  refine (toIntS _ l1 _ (L1.out.arg1 SA2.out) hv).mono ?_
  rintro e W5 ⟨x1, rfl, hg, ho⟩
  have L2 := Lib.hid (L1.out.new1 hg ho)
  have TX2 := Lib.hid (TX.out.grown hg)
  clear hg ho L1 TX
  go_wp2_with fail
  refine (implSpanBy x0 x1 ux0 t0 l1 _ TX2.out (L2.out.sl (by simp))).mono ?_
  rintro e W6 ⟨g0, b', R', rfl, hg, ho, hby⟩
  obtain ⟨rfl, rfl⟩ := hby.one BY.out
  have L3 := Lib.hid (L2.out.new1 hg ho)
  have TX3 := Lib.hid (TX2.out.grown hg)
  clear hg ho L2 TX2 hby
  go_wp2_with fail
  refine (eqSame g0 r0 R' _ (L3.out.sl (by simp)) (L3.out.arg1 TR.out)).mono ?_
  rintro e W7 ⟨rfl, hg⟩
  have L4 := Lib.hid (L3.out.still hg)
  have TX4 := Lib.hid (TX3.out.grown hg)
  clear hg L3 TX3
  go_wp2_with fail
  refine (toIntSS _ us0 t0 _ (L4.out.arg TA2.out) hl ht).mono ?_
  rintro e W8 ⟨z1, uz1, rfl, hg, hlz1, ho⟩
  have L5 := Lib.hid (L4.out.still hg)
  have TX5 := Lib.hid (TX4.out.grown hg)
  have TZ := Lib.hid (tab_own hlz1 ho)
  clear hg ho L4 TX4
  go_wp2_with fail
  refine (eqTabSame x0 z1 ux0 uz1 t0 _ TX5.out TZ.out).mono ?_
  rintro e W9 ⟨rfl, hg⟩
  have L6 := Lib.hid (L5.out.still hg)
  clear hg L5 TX5 TZ
  go_wp2_with fail
  refine (toIntS _ l1 _ (L6.out.arg1 SA2.out) hv).mono ?_
  rintro e WA ⟨z2, rfl, hg, ho⟩
  have L7 := Lib.hid (L6.out.still hg)
  have SZ := Lib.hid ho.sl
  clear hg ho L6
  go_wp2_with fail
  refine (eqSame x1 z2 l1 _ (L7.out.sl (by simp)) SZ.out).mono ?_
  rintro e WB ⟨rfl, hg⟩
  have L8 : Hid (Lives W3 WB ([row1 g0 R', row1 x1 l1] ++ tabItems x0 ux0 t0 ++ [])) := Lib.hid (by have := L7.out.still hg; rwa [List.append_nil])
  clear hg L7 SZ
  go_wp2_with fail
  refine (markIntSS W3 _ _ x0 ux0 t0 1 _ L8.out hlx0 hl ht (by omega) (by omega)).mono ?_
  rintro e WC ⟨rfl, hL⟩
  have L9 : Hid (Lives W3 WC ([row1 g0 R'] ++ row1 x1 l1 :: (tabItems x0 ux0 (marksT 1 t0) ++ []))) := Lib.hid (by simpa using hL)
  clear hL L8
  go_wp2_with fail
  refine (markIntS x1 l1 (1 + (tot t0 : Int)) W3.heap.size _ (row1_own.1 (L9.out.own.1 (row1 x1 l1) (by simp))) hv (by omega) (by omega)).mono ?_
  rintro e WD ⟨rfl, hg, ho⟩
  have LA := Lib.hid (L9.out.put (x' := row1 x1 (marks (1 + (tot t0 : Int)) l1.length)) rfl hg (row1_own.2 ho))
  have hk : ¬ 1 + (tot t0 : Int) + (l1.length : Int) < 0 := by omega
  clear hg ho L9
  go_wp2_with fail
  refine (eqSame g0 r0 R' _ (LA.out.sl (by simp)) (LA.out.arg1 TR.out)).mono ?_
  rintro e WE ⟨rfl, hg⟩
  have LB : Hid (Lives W3 WE ([] ++ row1 g0 R' :: (row1 x1 (marks (1 + (tot t0 : Int)) l1.length) :: (tabItems x0 ux0 (marksT 1 t0) ++ [])))) := Lib.hid (by simpa using LA.out.still hg)
  clear hg LA
  go_wp2_with fail
  refine (markIntS g0 R' 1 W3.heap.size _ (row1_own.1 (LB.out.own.1 (row1 g0 R') (by simp))) hl' (by omega) (by omega)).mono ?_
  rintro e WF ⟨rfl, hg, ho⟩
  have LC := Lib.hid (LB.out.put (x' := row1 g0 (marks 1 R'.length)) rfl hg (row1_own.2 ho))
  have hq : ¬ 1 + (R'.length : Int) < 0 := by omega
  clear hg ho LB
  go_wp2_with fail
  refine (heldIntS g0 R'.length 1 _ (LC.out.sl (by simp)) hl' (by omega) (by omega)).mono ?_
  rintro e w' ⟨rfl, rfl⟩
  have hqq : ((1 + (R'.length : Int)) != (1 + (R'.length : Int))) = false := by simp
  go_wp2_with fail
  refine (toIntSS _ us0 t0 _ (LC.out.arg TA2.out) hl ht).mono ?_
  rintro e WG ⟨d1, ud1, rfl, hg, hld1, ho⟩
  have LD := Lib.hid (LC.out.still hg)
  have TD := Lib.hid (tab_own hld1 ho)
  clear hg ho LC
  go_wp2_with fail
  refine (toIntS _ l1 _ (LD.out.arg1 SA2.out) hv).mono ?_
  rintro e WH ⟨d2, rfl, hg, ho⟩
  have LE := Lib.hid (LD.out.still hg)
  have TD2 := Lib.hid (TD.out.grown hg)
  have SD := Lib.hid ho.sl
  clear hg ho LD TD
  go_wp2_with fail
  refine (implSpanBy d1 d2 ud1 t0 l1 _ TD2.out SD.out).mono ?_
  rintro e WI ⟨h0, b2, R2, rfl, hg, ho, hby⟩
  obtain ⟨rfl, rfl⟩ := hby.one BY.out
  have LF := Lib.hid (LE.out.still hg)
  have TH := Lib.hid ho.sl
  clear hg ho LE TD2 SD hby
  go_wp2_with fail
  refine (eqSame h0 r0 R2 _ TH.out (LF.out.arg1 TR.out)).mono ?_
  rintro e WJ ⟨rfl, hg⟩
  have LG := Lib.hid (LF.out.still hg)
  clear hg LF TH
  go_wp2_with fail
  refine (heldIntS g0 R2.length 1 _ (LG.out.sl (by simp)) hl' (by omega) (by omega)).mono ?_
  rintro e w' ⟨rfl, rfl⟩
  go_wp2_with fail
  go_ret
  exact ⟨rfl, (below_grown (grown_trans G3.out (grown_below LG.out.below (Nat.le_refl _) none)))⟩

set_option maxRecDepth 100000 in
theorem lifted (os : Os) (started : os.Started) (H : Type) (enc : TypeId × Value → H) :
    ReturnsInHanded {} Try.checked os 14 .any (Rows.fnExactSpanBySpec.pre6 enc Try.prog Try.f14 Rows.fnExactSpanByRow.domain false) (Rows.fnExactSpanBySpec.post enc Try.prog Try.f14 false true false false) := by
  refine returnsInHanded_of_change (C := Try.checked) own started (by kernel_rfl) Try.func14
    (ChangeSpec.witness6 (enc := enc) (C := Try.checked) false ⟨#[], #[.slice none 0 0, .slice none 0 0], []⟩ 8 (by kernel_rfl) (by kernel_rfl) (by kernel_rfl) (by kernel_rfl)) ?_
  intro W base args ds gs before hval0 hW hcnd _
  have hval : ∀ (j : Nat) t v, Try.f14.params[j]? = some t → args[j]? = some v → Value.okWide Try.prog W .any base t v := hval0
  have hW' := hW
  obtain ⟨p, q, hA0, hV, rfl, hfz, hnd⟩ := hW
  have hA : DataW.TrodAll enc Try.prog W 0 (fun _ => true) true Try.f14.params.toList args.toList ds p := hA0
  rw [Try.params14] at hA hval
  obtain ⟨v0, vs0, d0, ds0, p0, q0, hargs, rfl, rfl, h0, r0⟩ := trodAll_cons hA
  obtain ⟨v1, vs1, d1, ds1, p1, q1, rfl, rfl, rfl, h1, r1⟩ := trodAll_cons r0
  obtain ⟨rfl, rfl, rfl⟩ := trodAll_nil r1
  obtain rfl : args = #[v0, v1] := by cases args; simp_all
  obtain ⟨rfl, rfl⟩ := trodVars_none hV
  obtain ⟨a0, len0, cap0, rfl⟩ := okWide_slice Try.underlying23 (hval 0 23 v0 rfl rfl)
  have k0 := h0
  have lt0 : ∀ x ∈ p0, x.block < W.heap.size := by obtain ⟨m, hm⟩ := k0; exact DataW.trod_lt m _ _ _ hm
  obtain ⟨us0, t0, e0, c0, m0, w0⟩ := tab_of Try.underlying23 Try.underlying24 Try.underlying3 (by kernel_rfl) (by kernel_rfl) h0
  obtain ⟨a1, len1, cap1, rfl⟩ := okWide_slice Try.underlying24 (hval 1 24 v1 rfl rfl)
  have k1 := h1
  have lt1 : ∀ x ∈ p1, x.block < W.heap.size := by obtain ⟨m, hm⟩ := k1; exact DataW.trod_lt m _ _ _ hm
  obtain ⟨z1, r1⟩ : ∃ zs : List Int, (a1 = none ∧ len1 = 0 ∧ cap1 = 0 ∧ zs = []) ∨ ∃ x, a1 = some x ∧ len1 ≤ cap1 ∧ cap1 ≤ maxLen ∧ zs.length = cap1 ∧ (∀ i, i < zs.length → W.cell? (x.add i) = some (.int .i64 (zs.getD i 0))) ∧ ∀ n ∈ zs, (Lit.int .i64 n).wf = true := by
    obtain ⟨fuel, hf⟩ := h1
    rcases open_ints Try.underlying24 Try.underlying3 (by kernel_rfl) hf with ⟨hcs, _⟩ | ⟨x, l, c, zs, hcs, _, hl, hm, hz, _, hcell, hwz⟩
    · simp [Value.cells] at hcs
      obtain ⟨rfl, rfl, rfl⟩ := hcs
      exact ⟨[], .inl ⟨rfl, rfl, rfl, rfl⟩⟩
    · simp [Value.cells] at hcs
      obtain ⟨rfl, rfl, rfl⟩ := hcs
      exact ⟨zs, .inr ⟨_, rfl, hl, hm, by simpa using hz, hcell, hwz⟩⟩
  obtain ⟨l1, e1, c1, m1, w1⟩ := sl_of r1
  clear hA0 hval0
  refine (walk a0 len0 cap0 us0 t0 a1 len1 cap1 l1 W e0 c0 m0 w0 e1 c1 m1 w1).mono fun e W' ⟨he, bel⟩ => ?_
  subst he
  exact ⟨_, rfl, _, _, _, [], _, [], hW', trodAll_mk1 (shut_bool Try.underlying4 _), (trodAll_cons_mk (Below.trod laidOut (by kernel_rfl) (of_decide_eq_true (by kernel_rfl)) k0 bel lt0) (trodAll_cons_mk (Below.trod laidOut (by kernel_rfl) (of_decide_eq_true (by kernel_rfl)) k1 bel lt1) trodAll_mk0)), rfl, bel.frame _, fun h => by cases h⟩

theorem over : Rows.fnExactSpanByRow.holds Try.pinned (OpenSpec.ofChange Rows.fnExactSpanBySpec) :=
  OpenClaim.holds_of_wide_leaving 14 Try.f14 rfl rfl rfl rfl rfl rfl rfl ⟨rfl, rfl, rfl, rfl, rfl⟩ rfl rfl rfl rfl rfl (by kernel_rfl) Try.func14 (by kernel_rfl)
    (of_decide_eq_true (by kernel_rfl)) (by unfold Func.isWrapper; first | (rw [if_pos (by decide +kernel)]; kernel_rfl) | (rw [if_neg (by decide +kernel)]; exact ⟨rfl, rfl⟩))
    (fun os started H enc _ => leaves (lifted os started H enc))

theorem proved : Rows.FnExactSpanBySaid := over
#print axioms proved
end Go.Proofs.Ytdbajokjhllekaa.fnExactSpanBy
