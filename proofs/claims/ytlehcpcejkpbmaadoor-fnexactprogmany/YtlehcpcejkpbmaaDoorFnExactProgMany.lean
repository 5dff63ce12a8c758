/-
  Whatever steps it is handed, ProgMany answers as its model does, and leaves them as they were: the law FnExactProgMany returns true.
  Conditions: none.
-/
import Derived.Test.YtlehcpcejkpbmaaDoorCards
import Derived.Test.YtlehcpcejkpbmaaDoorTie
import Derived.WalkKit
import Derived.ProofKit
import Derived.OpenShut
import Derived.ShutString
import Derived.ChangeOld
import Derived.ChangeSame
import Derived.Below
import Derived.JoinedOf
import Derived.Stop.Joined
import Derived.Stop.LaidErr
import Derived.SevenTiedAt
import Derived.Test.YtlehcpcejkpbmaaDoorG1
import Derived.Test.YtlehcpcejkpbmaaDoorAppendZeros
import Derived.Test.YtlehcpcejkpbmaaDoorG2
import Derived.Test.YtlehcpcejkpbmaaDoorSpanSame
import Derived.Test.YtlehcpcejkpbmaaDoorG3
import Derived.Test.YtlehcpcejkpbmaaDoorG4
import Derived.Test.YtlehcpcejkpbmaaDoorPlanMath
import Derived.Test.YtlehcpcejkpbmaaDoorPlanWork
import Derived.Test.YtlehcpcejkpbmaaDoorRound
import Derived.Test.YtlehcpcejkpbmaaDoorChoose
import Derived.Test.YtlehcpcejkpbmaaDoorPlanMake
import Derived.Test.YtlehcpcejkpbmaaDoorChoose2
import Derived.Test.YtlehcpcejkpbmaaDoorPlanFind
import Derived.Test.YtlehcpcejkpbmaaDoorPlanTop
import Derived.Test.YtlehcpcejkpbmaaDoorPlanSpec
import Derived.Test.YtlehcpcejkpbmaaDoorPlanSearch
import Derived.Test.YtlehcpcejkpbmaaDoorPlanSpec2
import Derived.Test.YtlehcpcejkpbmaaDoorPlanNear
import Derived.Test.YtlehcpcejkpbmaaDoorPlanEq
import Derived.Test.YtlehcpcejkpbmaaDoorPlanForm
import Derived.Test.YtlehcpcejkpbmaaDoorPlanComb
import Derived.Test.YtlehcpcejkpbmaaDoorPlanSums
import Derived.Test.YtlehcpcejkpbmaaDoorPlanDoOk
import Derived.Test.YtlehcpcejkpbmaaDoorPlanSpecForm
import Derived.Test.YtlehcpcejkpbmaaDoorPlanSpecDo
import Derived.Test.YtlehcpcejkpbmaaDoorPlanTold
import Derived.Test.YtlehcpcejkpbmaaDoorStepMath
import Derived.Test.YtlehcpcejkpbmaaDoorStepTab
import Derived.Test.YtlehcpcejkpbmaaDoorErrIs
import Derived.Test.YtlehcpcejkpbmaaDoorProgStep
import Derived.Test.YtlehcpcejkpbmaaDoorProgOfP
import Derived.Test.YtlehcpcejkpbmaaDoorProgExec
import Derived.Test.YtlehcpcejkpbmaaDoorProgMath
import Derived.Test.YtlehcpcejkpbmaaDoorProgRunP
import Derived.Test.YtlehcpcejkpbmaaDoorStepHelp
import Derived.Test.YtlehcpcejkpbmaaDoorSpecProg
import Derived.Test.YtlehcpcejkpbmaaDoorDoor
namespace Go.Proofs.YtlehcpcejkpbmaaDoor.fnExactProgMany
open Go.ChangeShapes Go.WideShapes Go.ChangeAt Go.RowKit Go.Extern
set_option linter.unusedVariables false

set_option maxHeartbeats 4000000 in
set_option maxRecDepth 20000 in
theorem walk (a0 : Option Addr) (len0 cap0 : Nat) (L0 : List Stp) (a1 : Int) (e : Addr) (w : World) (e0 : len0 = L0.length) (c0 : len0 ≤ cap0) (m0 : cap0 ≤ maxLen) (w0 : SSl w (.slice a0 len0 cap0) L0) (w1 : (Lit.int .i64 a1).wf = true) (hE : Sent w e) :
    Calls Tryd.prog 12 #[.slice a0 len0 cap0, .int .i64 a1] w fun en w' => en = .returned (.bool true) ∧ Below w.heap.size w w' := by
  have hm : cap0 ≤ maxLen := m0
  unfold maxLen at hm
  have W0 := Lib.hid w0
  have E0 := Lib.hid e0
  have HE := Lib.hid hE
  clear w0 hE m0 e0 w1
  go_enter Tryd.func12, Tryd.ntmps12
  go_wp2_with fail
  refine (szStepS _ L0 _ W0.out).mono ?_
  rintro en w' ⟨⟨q, rfl, hq⟩, rfl⟩
  by_cases hn : q < 0
  · go_wp2_with fail
    go_ret
    exact ⟨rfl, Below.refl _ _⟩
  · have hl : L0.length ≤ 1048576 := by omega
    clear hq
    go_wp2_with fail
    refine (toStepS _ L0 _ W0.out hl).mono ?_
    rintro en w1 ⟨v1, rfl, hg, ho⟩
    have G1 := Lib.hid hg
    have O1 := Lib.hid ho.sl
    clear hg ho
    go_wp2_with fail
    refine (specProgMany _ L0 a1 _ O1.out).mono ?_
    rintro en w2 ⟨rfl, hg⟩
    have G2 := Lib.hid (grown_trans G1.out hg)
    clear hg
    go_wp2_with fail
    refine (toStepS _ L0 _ (W0.out.grown G2.out) hl).mono ?_
    rintro en w3 ⟨v3, rfl, hg, ho⟩
    have G3 := Lib.hid (grown_trans G2.out hg)
    have O3 := Lib.hid ho.sl
    clear hg ho
    go_wp2_with fail
    refine (implProgMany _ L0 a1 e _ O3.out (HE.out.grown G3.out)).mono ?_
    rintro en w4 ⟨rfl, hg⟩
    have G4 := Lib.hid (grown_trans G3.out hg)
    have O4 := Lib.hid (O3.out.grown hg)
    clear hg
    generalize manyN L0 a1 = b
    have hb : (b != b) = false := by simp
    go_wp2_with fail
    refine (toStepS _ L0 _ (W0.out.grown G4.out) hl).mono ?_
    rintro en w5 ⟨v5, rfl, hg, ho⟩
    have G5 := Lib.hid (grown_trans G4.out hg)
    have O5 := Lib.hid ho.sl
    have O4' := Lib.hid (O4.out.grown hg)
    clear hg ho
    go_wp2_with fail
    refine (eqStepS _ _ L0 _ O4'.out O5.out).mono ?_
    rintro en w6 ⟨rfl, hg⟩
    have G6 := Lib.hid (grown_trans G5.out hg)
    clear hg
    go_wp2_with fail
    go_ret
    exact ⟨rfl, below_grown G6.out⟩

set_option maxRecDepth 100000 in
theorem lifted (os : Os) (started : os.Started) (H : Type) (enc : TypeId × Value → H) :
    ReturnsInHanded {} Tryd.checked os 12 .any (fun w args => (Rows.fnExactProgManySpec.pre enc Tryd.prog Tryd.f12 [] false w args ∧ laidMetH Tryd.prog laidE w) ∧ sizedMet enc Tryd.prog Tryd.f12 (OpenSpec.ofChange Rows.fnExactProgManySpec) false w args) (Rows.fnExactProgManySpec.post enc Tryd.prog Tryd.f12 false true false false) := by
  refine returnsInHanded_of_change_and (C := Tryd.checked) (X := fun w _ => laidMetH Tryd.prog laidE w) (fun _ _ _ hh h => h.of_heap hh) own started (by kernel_rfl) Tryd.func12
    (ChangeSpec.witness_at (enc := enc) (C := Tryd.checked) (os := os) (X := fun w _ => laidMetH Tryd.prog laidE w) false (laidWorld os) #[.slice none 0 0, .int .i64 0] 8 rfl (by kernel_rfl) (by kernel_rfl) (by kernel_rfl) (by kernel_rfl) (by kernel_rfl) (laidWorld_met os _)) ?_
  intro W base args ds gs before hval0 hW _ _ hL _
  have hval : ∀ (j : Nat) t v, Tryd.f12.params[j]? = some t → args[j]? = some v → Value.okWide Tryd.prog W .any base t v := hval0
  have hW' := hW
  obtain ⟨p, q, hA0, hV0, rfl, hfz, hnd⟩ := hW
  have hA : DataW.TrodAll enc Tryd.prog W 0 (fun _ => true) true Tryd.f12.params.toList args.toList ds p := hA0
  have hV : DataW.TrodVars enc Tryd.prog W (fun _ => true) ["loop.example/keelson/impl.errStep"] gs q := hV0
  rw [Tryd.params12] at hA hval
  obtain ⟨v0, vs0, d0, ds0, p0, q0, hargs, rfl, rfl, h0, r0⟩ := trodAll_cons hA
  obtain ⟨v1, vs1, d1, ds1, p1, q1, rfl, rfl, rfl, h1, r1⟩ := trodAll_cons r0
  obtain ⟨rfl, rfl, rfl⟩ := trodAll_nil r1
  obtain rfl : args = #[v0, v1] := by cases args; simp_all
  obtain ⟨ea, hv0, hE⟩ := sent_of_laid hL
  obtain ⟨rfl, rfl⟩ := hV.unique (vars_at enc hv0 _)
  obtain ⟨a0, len0, cap0, rfl⟩ := okWide_slice Tryd.underlying54 (hval 0 54 v0 rfl rfl)
  have k0 := h0
  have lt0 : ∀ x ∈ p0, x.block < W.heap.size := by obtain ⟨m, hm⟩ := k0; exact DataW.trod_lt m _ _ _ hm
  obtain ⟨L0, e0, c0, m0, w0⟩ := ssl_of Tryd.underlying54 Tryd.underlying105 (by kernel_rfl) ⟨rfl, rfl, rfl⟩ Tryd.underlying3 Tryd.underlying3 Tryd.underlying3 (by kernel_rfl) (by kernel_rfl) (by kernel_rfl) h0
  obtain ⟨a1, rfl, rfl, rfl, w1⟩ := open_int Tryd.underlying3 (hval 1 3 v1 rfl rfl) h1
  clear hA0 hV0 hval0
  refine (walk a0 len0 cap0 L0 a1 ea W e0 c0 m0 w0 w1 hE).mono fun e W' ⟨he, bel⟩ => ?_
  subst he
  exact ⟨_, rfl, _, _, _, [], _, _, hW', trodAll_mk1 (shut_bool Tryd.underlying4 _), (trodAll_cons_mk (Below.trod laidOut (by kernel_rfl) (of_decide_eq_true (by kernel_rfl)) k0 bel lt0) (trodAll_cons_mk (shut_int Tryd.underlying3 w1) trodAll_mk0)), vars_at enc (var?_below bel gE hE.pos hv0) _, bel.frame _, fun h => by cases h⟩

theorem over : Rows.fnExactProgManyRow.holds Tryd.pinned (OpenSpec.ofChange Rows.fnExactProgManySpec) :=
  OpenClaim.holds_of_wide 12 Tryd.f12 rfl rfl rfl rfl rfl rfl rfl ⟨rfl, rfl, rfl, rfl, rfl⟩ rfl rfl rfl rfl rfl (by kernel_rfl) Tryd.func12 (by kernel_rfl)
    (of_decide_eq_true (by kernel_rfl)) (by unfold Func.isWrapper; first | (rw [if_pos (by decide +kernel)]; kernel_rfl) | (rw [if_neg (by decide +kernel)]; exact ⟨rfl, rfl⟩))
    (fun os started H enc _ => lifted os started H enc)

theorem proved : Rows.FnExactProgManyCardSaid :=
  Claim7.holds_tied_plain_at .later [] [.sentinel] true (true, "706dffdecc08ed9b7991ed61352c643fc6ee35febc91e6b83dd0a73f61ed275b") true
    over (fun _ h => by cases h) (by kernel_rfl) (fun _ h => by cases h) fnExactProgMany_row_tie rfl ⟨rfl, rfl⟩ (by kernel_rfl) rfl
    (fun f fn hf hfn => by
      obtain rfl : f = 12 := Option.some.inj ((show Tryd.prog.funcNamed "loop.example/keelson/laws.FnExactProgMany" = some 12 by kernel_rfl).symm.trans hf) |>.symm
      obtain rfl : fn = Tryd.f12 := (Option.some.inj (Tryd.func12.symm.trans hfn)).symm
      exact ⟨by kernel_rfl, fun j t ht => by
        rw [Tryd.params12] at ht
        rcases j with _ | _ | j
        · obtain rfl : t = 54 := by simpa using ht.symm
          exact (show Tryd.prog.wantsStandIn 54 = false by kernel_rfl)
        · obtain rfl : t = 3 := by simpa using ht.symm
          exact (show Tryd.prog.wantsStandIn 3 = false by kernel_rfl)
        · simp at ht⟩)
    (by kernel_rfl)
#print axioms proved
end Go.Proofs.YtlehcpcejkpbmaaDoor.fnExactProgMany
