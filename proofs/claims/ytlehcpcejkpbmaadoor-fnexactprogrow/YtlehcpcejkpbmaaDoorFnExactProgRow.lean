/-
  Whatever integer and steps it is handed, ProgRow answers as its model does, leaves the steps as they were, and its answer owns its memory: the law FnExactProgRow returns true.
  Conditions: none.
-/
import Derived.Test.YtlehcpcejkpbmaaDoorCards
import Derived.Test.YtlehcpcejkpbmaaDoorTie
import Derived.WalkKit
import Derived.ProofKit
import Derived.OpenShut
import Derived.ShutString
import Derived.ChangeOld
import Derived.ChangeSame
import Derived.Below
import Derived.JoinedOf
import Derived.Stop.Joined
import Derived.Stop.LaidErr
import Derived.SevenTiedAt
import Derived.Test.YtlehcpcejkpbmaaDoorG1
import Derived.Test.YtlehcpcejkpbmaaDoorAppendZeros
import Derived.Test.YtlehcpcejkpbmaaDoorG2
import Derived.Test.YtlehcpcejkpbmaaDoorSpanSame
import Derived.Test.YtlehcpcejkpbmaaDoorG3
import Derived.Test.YtlehcpcejkpbmaaDoorG4
import Derived.Test.YtlehcpcejkpbmaaDoorPlanMath
import Derived.Test.YtlehcpcejkpbmaaDoorPlanWork
import Derived.Test.YtlehcpcejkpbmaaDoorRound
import Derived.Test.YtlehcpcejkpbmaaDoorChoose
import Derived.Test.YtlehcpcejkpbmaaDoorPlanMake
import Derived.Test.YtlehcpcejkpbmaaDoorChoose2
import Derived.Test.YtlehcpcejkpbmaaDoorPlanFind
import Derived.Test.YtlehcpcejkpbmaaDoorPlanTop
import Derived.Test.YtlehcpcejkpbmaaDoorPlanSpec
import Derived.Test.YtlehcpcejkpbmaaDoorPlanSearch
import Derived.Test.YtlehcpcejkpbmaaDoorPlanSpec2
import Derived.Test.YtlehcpcejkpbmaaDoorPlanNear
import Derived.Test.YtlehcpcejkpbmaaDoorPlanEq
import Derived.Test.YtlehcpcejkpbmaaDoorPlanForm
import Derived.Test.YtlehcpcejkpbmaaDoorPlanComb
import Derived.Test.YtlehcpcejkpbmaaDoorPlanSums
import Derived.Test.YtlehcpcejkpbmaaDoorPlanDoOk
import Derived.Test.YtlehcpcejkpbmaaDoorPlanSpecForm
import Derived.Test.YtlehcpcejkpbmaaDoorPlanSpecDo
import Derived.Test.YtlehcpcejkpbmaaDoorPlanTold
import Derived.Test.YtlehcpcejkpbmaaDoorPlanArg
import Derived.Test.YtlehcpcejkpbmaaDoorStepMath
import Derived.Test.YtlehcpcejkpbmaaDoorStepTab
import Derived.Test.YtlehcpcejkpbmaaDoorErrIs
import Derived.Test.YtlehcpcejkpbmaaDoorProgStep
import Derived.Test.YtlehcpcejkpbmaaDoorProgOfP
import Derived.Test.YtlehcpcejkpbmaaDoorProgExec
import Derived.Test.YtlehcpcejkpbmaaDoorProgMath
import Derived.Test.YtlehcpcejkpbmaaDoorRowMath
import Derived.Test.YtlehcpcejkpbmaaDoorProgExecR
import Derived.Test.YtlehcpcejkpbmaaDoorProgRunP
import Derived.Test.YtlehcpcejkpbmaaDoorProgRowP
import Derived.Test.YtlehcpcejkpbmaaDoorStepHelp
import Derived.Test.YtlehcpcejkpbmaaDoorStepMark
import Derived.Test.YtlehcpcejkpbmaaDoorSpecProg
import Derived.Test.YtlehcpcejkpbmaaDoorDoor
import Derived.Test.YtlehcpcejkpbmaaDoorAppendKeeps
import Derived.Test.YtlehcpcejkpbmaaDoorSpecRun
import Derived.Test.YtlehcpcejkpbmaaDoorSpecRow
namespace Go.Proofs.YtlehcpcejkpbmaaDoor.fnExactProgRow
open Go.ChangeShapes Go.WideShapes Go.ChangeAt Go.RowKit Go.Extern
set_option linter.unusedVariables false

theorem prR_len (k : Int) (L : List Stp) : (prR k L).length ≤ 4 := by
  unfold prR
  cases prB k L with
  | true => exact Nat.le_refl 4
  | false => exact Nat.zero_le 4

set_option maxHeartbeats 8000000 in
set_option maxRecDepth 20000 in
theorem walk (a0 : Int) (a1 : Option Addr) (len1 cap1 : Nat) (L1 : List Stp) (e : Addr) (w : World) (w0 : (Lit.int .i64 a0).wf = true) (e1 : len1 = L1.length) (c1 : len1 ≤ cap1) (m1 : cap1 ≤ maxLen) (w1 : SSl w (.slice a1 len1 cap1) L1) (hE : Sent w e) :
    Calls Tryd.prog 11 #[.int .i64 a0, .slice a1 len1 cap1] w fun en w' => en = .returned (.bool true) ∧ Below w.heap.size w w' := by
  have hm1 : cap1 ≤ maxLen := m1
  unfold maxLen at hm1
  have W1 := Lib.hid w1
  have HE := Lib.hid hE
  clear w1 hE m1 e1
  obtain ⟨rr, hrr⟩ : ∃ x, prR a0 L1 = x := ⟨_, rfl⟩
  obtain ⟨rb, hrb⟩ : ∃ x, prB a0 L1 = x := ⟨_, rfl⟩
  have r4 : rr.length ≤ 4 := by rw [← hrr]; exact prR_len _ _
  have XR := Lib.hid hrr
  have XB := Lib.hid hrb
  clear hrr hrb
  obtain ⟨rl, hrl⟩ : ∃ x, x = rr.length := ⟨_, rfl⟩
  rw [← hrl] at r4
  have RL := Lib.hid hrl
  clear hrl
  have bb : (rb != rb) = false := by simp
  go_enter Tryd.func11, Tryd.ntmps11
  go_wp2_with fail
  refine (szStepS _ L1 _ W1.out).mono ?_
  rintro en ww ⟨⟨q, rfl, hq⟩, rfl⟩
  by_cases hn : q < 0
  · go_wp2_with fail
    go_ret
    exact ⟨rfl, Below.refl _ _⟩
  · have hl : L1.length ≤ 1048576 := by omega
    clear hq
    go_wp2_with fail
    refine (toStepS _ L1 _ W1.out hl).mono ?_
    rintro en x1 ⟨v1, rfl, hg, ho⟩
    have G1 := Lib.hid hg
    have O1 := Lib.hid ho.sl
    clear hg ho
    go_wp2_with fail
    refine (specProgRow a0 _ L1 _ O1.out).mono ?_
    rintro en x2 ⟨u, rfl, hg, hs⟩
    rw [XR.out] at hs
    rw [XB.out]
    have G2 := Lib.hid (grown_trans G1.out hg)
    have U2 := Lib.hid hs
    obtain ⟨ua, uc, ue, _, _, _⟩ := hs
    rw [← RL.out] at ue
    subst ue
    have sz2 : ww.heap.size ≤ x2.heap.size := G2.out.size
    clear hg O1 G1
    go_wp2_with fail
    refine (toStepS _ L1 _ (W1.out.grown G2.out) hl).mono ?_
    rintro en x3 ⟨v3, rfl, hg, ho⟩
    have G3 := Lib.hid (grown_trans G2.out hg)
    have F3 := Lib.hid hg
    have P3 := Lib.hid ho
    obtain ⟨sn, hsn⟩ : ∃ x, x = L1.length := ⟨_, rfl⟩
    have SN := Lib.hid hsn
    obtain ⟨a3, c3, e3, _, _⟩ := ho.form
    rw [← hsn] at e3 hl
    subst e3
    have sz3 : x2.heap.size ≤ x3.heap.size := hg.size
    have PB : Hid (∀ r, (Value.slice a3 sn c3).ownBlock = some r → x2.heap.size ≤ r ∧ r < x3.heap.size) := Lib.hid (fun r hr => P3.out.lt r hr)
    clear hg ho G2 hsn
    go_wp2_with fail
    refine (implProgRow a0 _ L1 e _ P3.out.sl (HE.out.grown G3.out)).mono ?_
    rintro en x4 ⟨z, rfl, hg, ho⟩
    rw [XR.out] at ho
    rw [XB.out]
    have G4 := Lib.hid (grown_trans G3.out hg)
    have F4 := Lib.hid (grown_trans F3.out hg)
    have P4 := Lib.hid (P3.out.still hg)
    have Z4 := Lib.hid ho
    have ZB : Hid (∀ r, z.ownBlock = some r → x3.heap.size ≤ r) := Lib.hid (fun r hr => (World.ownsRow.lt ho r hr).1)
    obtain ⟨za, zc, ze, _, _, _⟩ := ho.sl
    rw [← RL.out] at ze
    subst ze
    clear hg ho G3 F3 P3
    have FAR : Hid ((Value.slice za rl zc).ownBlock = none ∨ (Value.slice za rl zc).ownBlock ≠ (Value.slice a3 sn c3).ownBlock) := Lib.hid (by
      cases hz : (Value.slice za rl zc).ownBlock with
      | none => exact .inl rfl
      | some r => exact .inr (fun e => by have := ZB.out r hz; have := (PB.out r e.symm).2; omega))
    go_wp2_with fail
    refine (eqSame _ _ rr _ Z4.out.sl (U2.out.grown F4.out)).mono ?_
    rintro en x5 ⟨rfl, hg⟩
    have G5 := Lib.hid (grown_trans G4.out hg)
    have F5 := Lib.hid (grown_trans F4.out hg)
    have P5 := Lib.hid (P4.out.still hg)
    have Z5 := Lib.hid (Z4.out.still hg)
    clear hg G4 F4 P4 Z4
    go_wp2_with fail
    refine (toStepS _ L1 _ (W1.out.grown G5.out) (by rw [← SN.out]; exact hl)).mono ?_
    rintro en x6 ⟨v6, rfl, hg, ho⟩
    have G6 := Lib.hid (grown_trans G5.out hg)
    have F6 := Lib.hid (grown_trans F5.out hg)
    have P6 := Lib.hid (P5.out.still hg)
    have Z6 := Lib.hid (Z5.out.still hg)
    have C6 := Lib.hid ho.sl
    clear hg ho G5 F5 P5 Z5
    go_wp2_with fail
    refine (eqStepS _ _ L1 _ P6.out.sl C6.out).mono ?_
    rintro en x7 ⟨rfl, hg⟩
    have G7 := Lib.hid (grown_trans G6.out hg)
    have F7 := Lib.hid (grown_trans F6.out hg)
    have P7 := Lib.hid (P6.out.still hg)
    have Z7 := Lib.hid (Z6.out.still hg)
    clear hg G6 F6 P6 Z6 C6
    go_wp2_with fail
    refine (markStepS _ L1 1 x2.heap.size _ P7.out (by rw [← SN.out]; exact hl) (by omega) (by omega)).mono ?_
    rintro en x8 ⟨rfl, hg, _⟩
    rw [← SN.out]
    have G8 := Lib.hid (grown_own G7.out hg (fun r hr => by have := (PB.out r hr).1; omega))
    have F8 := Lib.hid (grown_own F7.out hg (fun r hr => (PB.out r hr).1))
    have Z8 := Lib.hid (Z7.out.kept hg FAR.out)
    have qn : ¬ (1 + 3 * (sn : Int)) < 0 := by omega
    clear hg G7 F7 P7 Z7
    go_wp2_with fail
    refine (eqSame _ _ rr _ Z8.out.sl (U2.out.grown F8.out)).mono ?_
    rintro en x9 ⟨rfl, hg⟩
    have G9 := Lib.hid (grown_trans G8.out hg)
    have F9 := Lib.hid (grown_trans F8.out hg)
    have Z9 := Lib.hid (Z8.out.still hg)
    clear hg G8 F8 Z8
    go_wp2_with fail
    refine (markIntS _ rr 1 x3.heap.size _ Z9.out (by rw [← RL.out]; omega) (by omega) (by omega)).mono ?_
    rintro en xA ⟨rfl, hg, ho⟩
    rw [← RL.out] at ho ⊢
    have GA := Lib.hid (grown_own G9.out hg (fun r hr => by have := ZB.out r hr; omega))
    have FA := Lib.hid (grown_own F9.out hg (fun r hr => by have := ZB.out r hr; omega))
    have SA := Lib.hid ho.sl
    clear hg ho G9 F9 Z9 qn
    go_wp2_with fail
    refine (heldIntS _ rl 1 _ SA.out (by omega) (by omega) (by omega)).mono ?_
    rintro en w' ⟨rfl, rfl⟩
    have qh : ¬ (1 + (rl : Int)) < 0 := by omega
    have qe : (1 + (rl : Int) != 1 + (rl : Int)) = false := by simp
    go_wp2_with fail
    refine (toStepS _ L1 _ (W1.out.grown GA.out) (by rw [← SN.out]; exact hl)).mono ?_
    rintro en xB ⟨vB, rfl, hg, ho⟩
    have GB := Lib.hid (grown_trans GA.out hg)
    have FB := Lib.hid (grown_trans FA.out hg)
    have SB := Lib.hid (SA.out.grown hg)
    have PB2 := Lib.hid ho.sl
    clear hg ho GA FA SA
    go_wp2_with fail
    refine (implProgRow a0 _ L1 e _ PB2.out (HE.out.grown GB.out)).mono ?_
    rintro en xC ⟨z2, rfl, hg, ho⟩
    rw [XR.out] at ho
    rw [XB.out]
    have GC := Lib.hid (grown_trans GB.out hg)
    have FC := Lib.hid (grown_trans FB.out hg)
    have SC := Lib.hid (SB.out.grown hg)
    have ZC := Lib.hid ho.sl
    obtain ⟨ya, yc, ye, _, _, _⟩ := ho.sl
    rw [← RL.out] at ye
    subst ye
    clear hg ho GB FB SB PB2
    go_wp2_with fail
    refine (eqSame _ _ rr _ ZC.out (U2.out.grown FC.out)).mono ?_
    rintro en xD ⟨rfl, hg⟩
    have GD := Lib.hid (grown_trans GC.out hg)
    have SD := Lib.hid (SC.out.grown hg)
    clear hg GC FC SC ZC
    go_wp2_with fail
    refine (heldIntS _ rl 1 _ SD.out (by omega) (by omega) (by omega)).mono ?_
    rintro en w' ⟨rfl, rfl⟩
    go_wp2_with fail
    go_ret
    exact ⟨rfl, below_grown GD.out⟩

set_option maxRecDepth 100000 in
theorem lifted (os : Os) (started : os.Started) (H : Type) (enc : TypeId × Value → H) :
    ReturnsInHanded {} Tryd.checked os 11 .any (fun w args => (Rows.fnExactProgRowSpec.pre enc Tryd.prog Tryd.f11 [] false w args ∧ laidMetH Tryd.prog laidE w) ∧ sizedMet enc Tryd.prog Tryd.f11 (OpenSpec.ofChange Rows.fnExactProgRowSpec) false w args) (Rows.fnExactProgRowSpec.post enc Tryd.prog Tryd.f11 false true false false) := by
  refine returnsInHanded_of_change_and (C := Tryd.checked) (X := fun w _ => laidMetH Tryd.prog laidE w) (fun _ _ _ hh h => h.of_heap hh) own started (by kernel_rfl) Tryd.func11
    (ChangeSpec.witness_at (enc := enc) (C := Tryd.checked) (os := os) (X := fun w _ => laidMetH Tryd.prog laidE w) false (laidWorld os) #[.int .i64 0, .slice none 0 0] 8 rfl (by kernel_rfl) (by kernel_rfl) (by kernel_rfl) (by kernel_rfl) (by kernel_rfl) (laidWorld_met os _)) ?_
  intro W base args ds gs before hval0 hW _ _ hL _
  have hval : ∀ (j : Nat) t v, Tryd.f11.params[j]? = some t → args[j]? = some v → Value.okWide Tryd.prog W .any base t v := hval0
  have hW' := hW
  obtain ⟨p, q, hA0, hV0, rfl, hfz, hnd⟩ := hW
  have hA : DataW.TrodAll enc Tryd.prog W 0 (fun _ => true) true Tryd.f11.params.toList args.toList ds p := hA0
  have hV : DataW.TrodVars enc Tryd.prog W (fun _ => true) ["loop.example/keelson/impl.errStep"] gs q := hV0
  rw [Tryd.params11] at hA hval
  obtain ⟨v0, vs0, d0, ds0, p0, q0, hargs, rfl, rfl, h0, r0⟩ := trodAll_cons hA
  obtain ⟨v1, vs1, d1, ds1, p1, q1, rfl, rfl, rfl, h1, r1⟩ := trodAll_cons r0
  obtain ⟨rfl, rfl, rfl⟩ := trodAll_nil r1
  obtain rfl : args = #[v0, v1] := by cases args; simp_all
  obtain ⟨ea, hv0, hE⟩ := sent_of_laid hL
  obtain ⟨rfl, rfl⟩ := hV.unique (vars_at enc hv0 _)
  obtain ⟨a0, rfl, rfl, rfl, w0⟩ := open_int Tryd.underlying3 (hval 0 3 v0 rfl rfl) h0
  obtain ⟨a1, len1, cap1, rfl⟩ := okWide_slice Tryd.underlying54 (hval 1 54 v1 rfl rfl)
  have k1 := h1
  have lt1 : ∀ x ∈ p1, x.block < W.heap.size := by obtain ⟨m, hm⟩ := k1; exact DataW.trod_lt m _ _ _ hm
  obtain ⟨L1, e1, c1, m1, w1⟩ := ssl_of Tryd.underlying54 Tryd.underlying105 (by kernel_rfl) ⟨rfl, rfl, rfl⟩ Tryd.underlying3 Tryd.underlying3 Tryd.underlying3 (by kernel_rfl) (by kernel_rfl) (by kernel_rfl) h1
  clear hA0 hV0 hval0
  refine (walk a0 a1 len1 cap1 L1 ea W w0 e1 c1 m1 w1 hE).mono fun e W' ⟨he, bel⟩ => ?_
  subst he
  exact ⟨_, rfl, _, _, _, [], _, _, hW', trodAll_mk1 (shut_bool Tryd.underlying4 _), (trodAll_cons_mk (shut_int Tryd.underlying3 w0) (trodAll_cons_mk (Below.trod laidOut (by kernel_rfl) (of_decide_eq_true (by kernel_rfl)) k1 bel lt1) trodAll_mk0)), vars_at enc (var?_below bel gE hE.pos hv0) _, bel.frame _, fun h => by cases h⟩

theorem over : Rows.fnExactProgRowRow.holds Tryd.pinned (OpenSpec.ofChange Rows.fnExactProgRowSpec) :=
  OpenClaim.holds_of_wide 11 Tryd.f11 rfl rfl rfl rfl rfl rfl rfl ⟨rfl, rfl, rfl, rfl, rfl⟩ rfl rfl rfl rfl rfl (by kernel_rfl) Tryd.func11 (by kernel_rfl)
    (of_decide_eq_true (by kernel_rfl)) (by unfold Func.isWrapper; first | (rw [if_pos (by decide +kernel)]; kernel_rfl) | (rw [if_neg (by decide +kernel)]; exact ⟨rfl, rfl⟩))
    (fun os started H enc _ => lifted os started H enc)

theorem proved : Rows.FnExactProgRowCardSaid :=
  Claim7.holds_tied_plain_at .later [] [.sentinel] true (true, "706dffdecc08ed9b7991ed61352c643fc6ee35febc91e6b83dd0a73f61ed275b") true
    over (fun _ h => by cases h) (by kernel_rfl) (fun _ h => by cases h) fnExactProgRow_row_tie rfl ⟨rfl, rfl⟩ (by kernel_rfl) rfl
    (fun f fn hf hfn => by
      obtain rfl : f = 11 := Option.some.inj ((show Tryd.prog.funcNamed "loop.example/keelson/laws.FnExactProgRow" = some 11 by kernel_rfl).symm.trans hf) |>.symm
      obtain rfl : fn = Tryd.f11 := (Option.some.inj (Tryd.func11.symm.trans hfn)).symm
      exact ⟨by kernel_rfl, fun j t ht => by
        rw [Tryd.params11] at ht
        rcases j with _ | _ | j
        · obtain rfl : t = 3 := by simpa using ht.symm
          exact (show Tryd.prog.wantsStandIn 3 = false by kernel_rfl)
        · obtain rfl : t = 54 := by simpa using ht.symm
          exact (show Tryd.prog.wantsStandIn 54 = false by kernel_rfl)
        · simp at ht⟩)
    (by kernel_rfl)
#print axioms proved
end Go.Proofs.YtlehcpcejkpbmaaDoor.fnExactProgRow
