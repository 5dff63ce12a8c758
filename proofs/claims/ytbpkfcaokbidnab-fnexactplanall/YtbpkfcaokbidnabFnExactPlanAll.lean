/-
  For whatever integer and slice of at most 2^20 flags PlanAll answers as its model does, changes nothing, and its answer owns its memory: the law FnExactPlanAll returns true.
  Conditions: none.
-/
import Derived.Test.YtbpkfcaokbidnabRows
import Derived.WalkKit
import Derived.ProofKit
import Derived.OpenShut
import Derived.ShutString
import Derived.ChangeOld
import Derived.Below
import Derived.Test.YtbpkfcaokbidnabG1
import Derived.Test.YtbpkfcaokbidnabAppendZeros
import Derived.Test.YtbpkfcaokbidnabG2
import Derived.Test.YtbpkfcaokbidnabG3
import Derived.Test.YtbpkfcaokbidnabG4
import Derived.Test.YtbpkfcaokbidnabPlanMath
import Derived.Test.YtbpkfcaokbidnabPlanWork
import Derived.Test.YtbpkfcaokbidnabRound
import Derived.Test.YtbpkfcaokbidnabChoose
import Derived.Test.YtbpkfcaokbidnabPlanMake
import Derived.Test.YtbpkfcaokbidnabChoose2
import Derived.Test.YtbpkfcaokbidnabPlanFind
import Derived.Test.YtbpkfcaokbidnabPlanTop
import Derived.Test.YtbpkfcaokbidnabPlanSpec
import Derived.Test.YtbpkfcaokbidnabPlanSearch
import Derived.Test.YtbpkfcaokbidnabPlanSpec2
import Derived.Test.YtbpkfcaokbidnabPlanNear
import Derived.Test.YtbpkfcaokbidnabPlanEq
import Derived.Test.YtbpkfcaokbidnabPlanTab
import Derived.Test.YtbpkfcaokbidnabPlanAllP
import Derived.Test.YtbpkfcaokbidnabPlanAllEq
import Derived.Test.YtbpkfcaokbidnabPlanAllEq2
namespace Go.Proofs.Ytbpkfcaokbidnab.fnExactPlanAll
open Go.ChangeShapes Go.WideShapes Go.ChangeAt Go.RowKit
set_option linter.unusedVariables false

theorem own : ownKnob Try.prog.godebug = none := by kernel_rfl
theorem laidOut : laidOutB Try.prog = true := by kernel_rfl

theorem away' {w w' : World} {base : Nat} {vv : Value} {L : List PIt} {o : Option Nat} (h : PTab w base vv L) (hg : w.grownBy w' o) (hr : ∀ r, o = some r → r < base) : PTab w' base vv L := by
  cases o with
  | none => exact h.still hg
  | some r => exact h.away hg (hr r rfl)

set_option maxHeartbeats 8000000 in
set_option maxRecDepth 20000 in
theorem walk (a0 : Int) (a1 : Option Addr) (len1 cap1 : Nat) (f1 : List Bool) (w : World) (w0 : (Lit.int .i64 a0).wf = true) (e1 : len1 = f1.length) (c1 : len1 ≤ cap1) (m1 : cap1 ≤ maxLen) (w1 : Bl w (.slice a1 len1 cap1) f1) :
    Calls Try.prog 3 #[.int .i64 a0, .slice a1 len1 cap1] w fun e w' => e = .returned (.bool true) ∧ Below w.heap.size w w' := by
  have hm1 := m1
  unfold maxLen at hm1
  have B := Lib.hid w1
  subst e1
  clear w1 m1
  by_cases hbig : (f1.length : Int) > 1048576
  · go_enter Try.func3, Try.ntmps3
    go_wp2_with fail
    go_ret
    exact ⟨rfl, Below.refl _ _⟩
  have hle : f1.length ≤ 1048576 := by omega
  go_enter Try.func3, Try.ntmps3
  go_wp2_with fail
  refine (toBoolS _ f1 _ B.out hle).mono ?_
  rintro e W1 ⟨t, rfl, hg, ho⟩
  have A1 := Lib.hid hg
  have T1 := Lib.hid ho.bl
  clear hg ho
  go_wp2_with fail
  refine (specPlanAll a0 t f1 _ T1.out).mono ?_
  rintro e W2 ⟨b, M, vm, hM, rfl, hg, hpm⟩
  have HM := Lib.hid hM
  have A2 := Lib.hid (grown_trans A1.out hg)
  have szw : w.heap.size ≤ W2.heap.size := (grown_trans A1.out hg).size
  have PM := Lib.hid hpm
  obtain ⟨ma, mc, me, _, _⟩ := hpm.form
  subst me
  clear hM hg hpm A1 T1
  go_wp2_with fail
  refine (toBoolS _ f1 _ (B.out.grown A2.out) hle).mono ?_
  rintro e W3 ⟨s, rfl, hg, ho⟩
  have A3 := Lib.hid (grown_trans A2.out hg)
  have GW3 := Lib.hid hg
  have S3 := Lib.hid ho
  have SB : Hid (∀ r, s.ownBlock = some r → r < W3.heap.size) := Lib.hid (fun r hr => (World.ownsRow.lt ho r hr).2)
  clear hg ho A2
  go_wp2_with fail
  refine (implPlanAll a0 s f1 _ S3.out.bl).mono ?_
  rintro e W4 ⟨b', L, vl, hL, rfl, hg, hpl⟩
  obtain ⟨rfl, hlen, hsame⟩ := hL.one HM.out
  have SH := Lib.hid hL.short
  have A4 := Lib.hid (grown_trans A3.out hg)
  have GW4 := Lib.hid (grown_trans GW3.out hg)
  have S4 := Lib.hid (S3.out.still hg)
  have P4 := Lib.hid hpl
  have HS := Lib.hid hsame
  have HLN := Lib.hid hlen
  obtain ⟨pa, pc, pe, _, _⟩ := hpl.form
  subst pe
  have sz4 : W3.heap.size ≤ W4.heap.size := hg.size
  have sz3 : W2.heap.size ≤ W3.heap.size := GW3.out.size
  clear hL hg hpl hsame hlen A3 GW3 S3
  have hbb : (b' != b') = false := by cases b' <;> rfl
  have n8 := SH.out.1
  go_wp2_with fail
  refine (eqPlanS _ _ L M _ _ _ P4.out (PM.out.still GW4.out) HLN.out n8 HS.out).mono ?_
  rintro e W5 ⟨rfl, hg⟩
  have A5 := Lib.hid (grown_trans A4.out hg)
  have GW5 := Lib.hid (grown_trans GW4.out hg)
  have S5 := Lib.hid (S4.out.still hg)
  have P5 := Lib.hid (P4.out.still hg)
  have sz5 := hg.size
  clear hg A4 GW4 S4 P4
  go_wp2_with fail
  refine (toBoolS _ f1 _ (B.out.grown A5.out) hle).mono ?_
  rintro e W6 ⟨c, rfl, hg, ho⟩
  have A6 := Lib.hid (grown_trans A5.out hg)
  have GW6 := Lib.hid (grown_trans GW5.out hg)
  have S6 := Lib.hid (S5.out.still hg)
  have P6 := Lib.hid (P5.out.still hg)
  have C6 := Lib.hid ho.bl
  have sz6 := hg.size
  clear hg ho A5 GW5 S5 P5
  go_wp2_with fail
  refine (eqSameB s c f1 _ S6.out.bl C6.out).mono ?_
  rintro e W7 ⟨rfl, hg⟩
  have A7 := Lib.hid (grown_trans A6.out hg)
  have GW7 := Lib.hid (grown_trans GW6.out hg)
  have S7 := Lib.hid (S6.out.still hg)
  have P7 := Lib.hid (P6.out.still hg)
  have sz7 := hg.size
  have S3W : Hid (∀ r, s.ownBlock = some r → r < W3.heap.size) := SB
  clear hg A6 GW6 S6 P6 C6
  go_wp2_with fail
  refine (markBoolS s f1 1 W2.heap.size _ S7.out hle (by omega) (by omega)).mono ?_
  rintro e W8 ⟨rfl, hg, f', ho⟩
  have A8 := Lib.hid (grown_own A7.out hg (fun j hj => by have := (World.ownsRow.lt S7.out j hj).1; omega))
  have GW8 := Lib.hid (grown_own GW7.out hg (fun j hj => (World.ownsRow.lt S7.out j hj).1))
  have P8 := Lib.hid (away' P7.out hg S3W.out)
  have sz8 := hg.size
  have q0 : ¬ (1 + (f1.length : Int)) < 0 := by omega
  clear hg ho A7 GW7 S7 P7
  go_wp2_with fail
  refine (eqPlanS _ _ L M _ _ _ P8.out (PM.out.still GW8.out) HLN.out n8 HS.out).mono ?_
  rintro e W9 ⟨rfl, hg⟩
  have A9 := Lib.hid (grown_trans A8.out hg)
  have GW9 := Lib.hid (grown_trans GW8.out hg)
  have P9 := Lib.hid (P8.out.still hg)
  have sz9 := hg.size
  clear hg A8 GW8 P8 q0
  go_wp2_with fail
  refine (markPlanS _ L W3.heap.size 1 _ P9.out (by omega) SH.out (by omega) (by omega)).mono ?_
  rintro e WA ⟨rfl, hp, hb⟩
  have AA := Lib.hid (grown_below' A9.out hb (by omega))
  have GWA := Lib.hid (grown_below' GW9.out hb (by omega))
  have PA := Lib.hid hp
  have KI := kAt_in SH.out 1 L.length
  have HE := Lib.hid (fun (W : World) (h : PTab W W3.heap.size (.slice pa L.length pc) (mkL L 1 L.length)) => heldPlanS (.slice pa L.length pc) L W3.heap.size 1 W h SH.out (by omega) (by omega))
  clear hp hb A9 GW9 P9
  obtain ⟨kk, hkk⟩ : ∃ q, kAt L 1 L.length = q := ⟨_, rfl⟩
  rw [hkk] at KI HE ⊢
  clear hkk
  go_wp2_with fail
  refine (HE.out _ PA.out).mono ?_
  rintro e w' ⟨rfl, rfl⟩
  have k0 : ¬ kk < 0 := by omega
  have kne : (kk != kk) = false := by simp
  go_wp2_with fail
  refine (toBoolS _ f1 _ (B.out.grown AA.out) hle).mono ?_
  rintro e WB ⟨z, rfl, hg, ho⟩
  have AB := Lib.hid (grown_trans AA.out hg)
  have GWB := Lib.hid (grown_trans GWA.out hg)
  have PB := Lib.hid (PA.out.still hg)
  have ZB := Lib.hid ho.bl
  clear hg ho AA GWA PA
  go_wp2_with fail
  refine (implPlanAll a0 z f1 _ ZB.out).mono ?_
  rintro e WC ⟨b2, N, vn, hN, rfl, hg, hpn⟩
  obtain ⟨rfl, hlen2, hsame2⟩ := hN.one HM.out
  have AC := Lib.hid (grown_trans AB.out hg)
  have GWC := Lib.hid (grown_trans GWB.out hg)
  have PC := Lib.hid (PB.out.still hg)
  have PN := Lib.hid hpn
  have HS2 := Lib.hid hsame2
  have HLN2 := Lib.hid hlen2
  have n82 := hN.short.1
  obtain ⟨na, nc, ne, _, _⟩ := hpn.form
  subst ne
  clear hN hg hpn hsame2 hlen2 AB GWB PB ZB
  go_wp2_with fail
  refine (eqPlanS _ _ N M _ _ _ PN.out (PM.out.still GWC.out) HLN2.out n82 HS2.out).mono ?_
  rintro e WD ⟨rfl, hg⟩
  have AD := Lib.hid (grown_trans AC.out hg)
  have PD := Lib.hid (PC.out.still hg)
  clear hg AC GWC PC PN
  go_wp2_with fail
  refine (HE.out _ PD.out).mono ?_
  rintro e w' ⟨rfl, rfl⟩
  go_wp2_with fail
  go_ret
  exact ⟨rfl, below_grown AD.out⟩

set_option maxRecDepth 100000 in
theorem lifted (os : Os) (started : os.Started) (H : Type) (enc : TypeId × Value → H) :
    ReturnsInHanded {} Try.checked os 3 .any (Rows.fnExactPlanAllSpec.pre6 enc Try.prog Try.f3 Rows.fnExactPlanAllRow.domain false) (Rows.fnExactPlanAllSpec.post enc Try.prog Try.f3 false true false false) := by
  refine returnsInHanded_of_change (C := Try.checked) own started (by kernel_rfl) Try.func3
    (ChangeSpec.witness6 (enc := enc) (C := Try.checked) false ⟨#[], #[.int .i64 0, .slice none 0 0], []⟩ 8 (by kernel_rfl) (by kernel_rfl) (by kernel_rfl) (by kernel_rfl)) ?_
  intro W base args ds gs before hval0 hW hcnd _
  have hval : ∀ (j : Nat) t v, Try.f3.params[j]? = some t → args[j]? = some v → Value.okWide Try.prog W .any base t v := hval0
  have hW' := hW
  obtain ⟨p, q, hA0, hV, rfl, hfz, hnd⟩ := hW
  have hA : DataW.TrodAll enc Try.prog W 0 (fun _ => true) true Try.f3.params.toList args.toList ds p := hA0
  rw [Try.params3] at hA hval
  obtain ⟨v0, vs0, d0, ds0, p0, q0, hargs, rfl, rfl, h0, r0⟩ := trodAll_cons hA
  obtain ⟨v1, vs1, d1, ds1, p1, q1, rfl, rfl, rfl, h1, r1⟩ := trodAll_cons r0
  obtain ⟨rfl, rfl, rfl⟩ := trodAll_nil r1
  obtain rfl : args = #[v0, v1] := by cases args; simp_all
  obtain ⟨rfl, rfl⟩ := trodVars_none hV
  obtain ⟨a0, rfl, rfl, rfl, w0⟩ := open_int Try.underlying3 (hval 0 3 v0 rfl rfl) h0
  obtain ⟨a1, len1, cap1, rfl⟩ := okWide_slice Try.underlying22 (hval 1 22 v1 rfl rfl)
  have k1 := h1
  have lt1 : ∀ x ∈ p1, x.block < W.heap.size := by obtain ⟨m, hm⟩ := k1; exact DataW.trod_lt m _ _ _ hm
  obtain ⟨f1, e1, c1, m1, w1⟩ := bl_of Try.underlying22 Try.underlying4 (by kernel_rfl) h1
  clear hA0 hval0
  refine (walk a0 a1 len1 cap1 f1 W w0 e1 c1 m1 w1).mono fun e W' ⟨he, bel⟩ => ?_
  subst he
  exact ⟨_, rfl, _, _, _, [], _, [], hW', trodAll_mk1 (shut_bool Try.underlying4 _), (trodAll_cons_mk (shut_int Try.underlying3 w0) (trodAll_cons_mk (Below.trod laidOut (by kernel_rfl) (of_decide_eq_true (by kernel_rfl)) k1 bel lt1) trodAll_mk0)), rfl, bel.frame _, fun h => by cases h⟩

theorem over : Rows.fnExactPlanAllRow.holds Try.pinned (OpenSpec.ofChange Rows.fnExactPlanAllSpec) :=
  OpenClaim.holds_of_wide_leaving 3 Try.f3 rfl rfl rfl rfl rfl rfl rfl ⟨rfl, rfl, rfl, rfl, rfl⟩ rfl rfl rfl rfl rfl (by kernel_rfl) Try.func3 (by kernel_rfl)
    (of_decide_eq_true (by kernel_rfl)) (by unfold Func.isWrapper; first | (rw [if_pos (by decide +kernel)]; kernel_rfl) | (rw [if_neg (by decide +kernel)]; exact ⟨rfl, rfl⟩))
    (fun os started H enc _ => leaves (lifted os started H enc))

theorem proved : Rows.FnExactPlanAllSaid := over
#print axioms proved
end Go.Proofs.Ytbpkfcaokbidnab.fnExactPlanAll
