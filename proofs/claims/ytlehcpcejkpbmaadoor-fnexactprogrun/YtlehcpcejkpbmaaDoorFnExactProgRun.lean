/-
  Whatever steps and values it is handed, ProgRun answers as its model does, and leaves both as they were: the law FnExactProgRun returns true.
  Conditions: none.
-/
import Derived.Test.YtlehcpcejkpbmaaDoorCards
import Derived.Test.YtlehcpcejkpbmaaDoorTie
import Derived.WalkKit
import Derived.ProofKit
import Derived.OpenShut
import Derived.ShutString
import Derived.ChangeOld
import Derived.ChangeSame
import Derived.Below
import Derived.JoinedOf
import Derived.Stop.Joined
import Derived.Stop.LaidErr
import Derived.SevenTiedAt
import Derived.Test.YtlehcpcejkpbmaaDoorG1
import Derived.Test.YtlehcpcejkpbmaaDoorAppendZeros
import Derived.Test.YtlehcpcejkpbmaaDoorG2
import Derived.Test.YtlehcpcejkpbmaaDoorSpanSame
import Derived.Test.YtlehcpcejkpbmaaDoorG3
import Derived.Test.YtlehcpcejkpbmaaDoorG4
import Derived.Test.YtlehcpcejkpbmaaDoorPlanMath
import Derived.Test.YtlehcpcejkpbmaaDoorPlanWork
import Derived.Test.YtlehcpcejkpbmaaDoorRound
import Derived.Test.YtlehcpcejkpbmaaDoorChoose
import Derived.Test.YtlehcpcejkpbmaaDoorPlanMake
import Derived.Test.YtlehcpcejkpbmaaDoorChoose2
import Derived.Test.YtlehcpcejkpbmaaDoorPlanFind
import Derived.Test.YtlehcpcejkpbmaaDoorPlanTop
import Derived.Test.YtlehcpcejkpbmaaDoorPlanSpec
import Derived.Test.YtlehcpcejkpbmaaDoorPlanSearch
import Derived.Test.YtlehcpcejkpbmaaDoorPlanSpec2
import Derived.Test.YtlehcpcejkpbmaaDoorPlanNear
import Derived.Test.YtlehcpcejkpbmaaDoorPlanEq
import Derived.Test.YtlehcpcejkpbmaaDoorPlanForm
import Derived.Test.YtlehcpcejkpbmaaDoorPlanComb
import Derived.Test.YtlehcpcejkpbmaaDoorPlanSums
import Derived.Test.YtlehcpcejkpbmaaDoorPlanDoOk
import Derived.Test.YtlehcpcejkpbmaaDoorPlanSpecForm
import Derived.Test.YtlehcpcejkpbmaaDoorPlanSpecDo
import Derived.Test.YtlehcpcejkpbmaaDoorPlanTold
import Derived.Test.YtlehcpcejkpbmaaDoorStepMath
import Derived.Test.YtlehcpcejkpbmaaDoorStepTab
import Derived.Test.YtlehcpcejkpbmaaDoorErrIs
import Derived.Test.YtlehcpcejkpbmaaDoorProgStep
import Derived.Test.YtlehcpcejkpbmaaDoorProgOfP
import Derived.Test.YtlehcpcejkpbmaaDoorProgExec
import Derived.Test.YtlehcpcejkpbmaaDoorProgMath
import Derived.Test.YtlehcpcejkpbmaaDoorProgRunP
import Derived.Test.YtlehcpcejkpbmaaDoorStepHelp
import Derived.Test.YtlehcpcejkpbmaaDoorSpecProg
import Derived.Test.YtlehcpcejkpbmaaDoorDoor
import Derived.Test.YtlehcpcejkpbmaaDoorAppendKeeps
import Derived.Test.YtlehcpcejkpbmaaDoorSpecRun
namespace Go.Proofs.YtlehcpcejkpbmaaDoor.fnExactProgRun
open Go.ChangeShapes Go.WideShapes Go.ChangeAt Go.RowKit Go.Extern
set_option linter.unusedVariables false

set_option maxHeartbeats 8000000 in
set_option maxRecDepth 20000 in
theorem walk (a0 : Option Addr) (len0 cap0 : Nat) (L0 : List Stp) (a1 : Option Addr) (len1 cap1 : Nat) (l1 : List Int) (e : Addr) (w : World) (e0 : len0 = L0.length) (c0 : len0 ≤ cap0) (m0 : cap0 ≤ maxLen) (w0 : SSl w (.slice a0 len0 cap0) L0) (e1 : len1 = l1.length) (c1 : len1 ≤ cap1) (m1 : cap1 ≤ maxLen) (w1 : Sl w (.slice a1 len1 cap1) l1) (hE : Sent w e) :
    Calls Tryd.prog 10 #[.slice a0 len0 cap0, .slice a1 len1 cap1] w fun en w' => en = .returned (.bool true) ∧ Below w.heap.size w w' := by
  have hm0 : cap0 ≤ maxLen := m0
  have hm1 : cap1 ≤ maxLen := m1
  unfold maxLen at hm0 hm1
  have W0 := Lib.hid w0
  have W1 : Hid (Sl w (.slice a1 len1 cap1) l1) := Lib.hid w1
  have HE := Lib.hid hE
  have E1 := Lib.hid e1
  clear w0 hE m0 m1 e0 w1 e1
  by_cases hbig : (len1 : Int) > 1048576
  · go_enter Tryd.func10, Tryd.ntmps10
    go_wp2_with fail
    go_ret
    exact ⟨rfl, Below.refl _ _⟩
  have hl1 : l1.length ≤ 1048576 := by rw [← E1.out]; omega
  go_enter Tryd.func10, Tryd.ntmps10
  go_wp2_with fail
  refine (szStepS _ L0 _ W0.out).mono ?_
  rintro en w' ⟨⟨q, rfl, hq⟩, rfl⟩
  by_cases hn : q < 0
  · go_wp2_with fail
    go_ret
    exact ⟨rfl, Below.refl _ _⟩
  · have hl : L0.length ≤ 1048576 := by omega
    clear hq
    go_wp2_with fail
    refine (toStepS _ L0 _ W0.out hl).mono ?_
    rintro en x1 ⟨v1, rfl, hg, ho⟩
    have G1 := Lib.hid hg
    have O1 := Lib.hid ho.sl
    clear hg ho
    go_wp2_with fail
    refine (toIntS _ l1 _ (W1.out.grown G1.out) hl1).mono ?_
    rintro en x2 ⟨u1, rfl, hg, ho⟩
    have G2 := Lib.hid (grown_trans G1.out hg)
    have O2 := Lib.hid (O1.out.grown hg)
    have U2 := Lib.hid ho.sl
    clear hg ho O1 G1
    go_wp2_with fail
    refine (specProgRun _ _ L0 l1 _ O2.out U2.out hl1).mono ?_
    rintro en x3 ⟨rfl, hg⟩
    have G3 := Lib.hid (grown_trans G2.out hg)
    clear hg O2 U2 G2
    obtain ⟨an, han⟩ : ∃ an, runN L0 l1 = an := ⟨_, rfl⟩
    obtain ⟨ap, hap⟩ : ∃ ap, runP L0 l1 = ap := ⟨_, rfl⟩
    have AN := Lib.hid han
    have AP := Lib.hid hap
    rw [han, hap]
    clear han hap
    go_wp2_with fail
    refine (toStepS _ L0 _ (W0.out.grown G3.out) hl).mono ?_
    rintro en x4 ⟨v4, rfl, hg, ho⟩
    have G4 := Lib.hid (grown_trans G3.out hg)
    have O4 := Lib.hid ho.sl
    clear hg ho G3
    go_wp2_with fail
    refine (toIntS _ l1 _ (W1.out.grown G4.out) hl1).mono ?_
    rintro en x5 ⟨u5, rfl, hg, ho⟩
    have G5 := Lib.hid (grown_trans G4.out hg)
    have O5 := Lib.hid (O4.out.grown hg)
    have U5 := Lib.hid ho.sl
    clear hg ho O4 G4
    go_wp2_with fail
    refine (implProgRun _ _ L0 l1 e _ O5.out U5.out (HE.out.grown G5.out)).mono ?_
    rintro en x6 ⟨rfl, hg⟩
    have G6 := Lib.hid (grown_trans G5.out hg)
    have O6 := Lib.hid (O5.out.grown hg)
    have U6 := Lib.hid (U5.out.grown hg)
    clear hg O5 U5 G5
    rw [AN.out, AP.out]
    have b1 : (an != an) = false := by simp
    have b2 : (ap != ap) = false := by simp
    go_wp2_with fail
    refine (toStepS _ L0 _ (W0.out.grown G6.out) hl).mono ?_
    rintro en x7 ⟨v7, rfl, hg, ho⟩
    have G7 := Lib.hid (grown_trans G6.out hg)
    have O7 := Lib.hid ho.sl
    have O7' := Lib.hid (O6.out.grown hg)
    have U7 := Lib.hid (U6.out.grown hg)
    clear hg ho O6 U6 G6
    go_wp2_with fail
    refine (eqStepS _ _ L0 _ O7'.out O7.out).mono ?_
    rintro en x8 ⟨rfl, hg⟩
    have G8 := Lib.hid (grown_trans G7.out hg)
    have U8 := Lib.hid (U7.out.grown hg)
    clear hg O7 O7' U7 G7
    go_wp2_with fail
    refine (toIntS _ l1 _ (W1.out.grown G8.out) hl1).mono ?_
    rintro en x9 ⟨u9, rfl, hg, ho⟩
    have G9 := Lib.hid (grown_trans G8.out hg)
    have U9 := Lib.hid ho.sl
    have U9' := Lib.hid (U8.out.grown hg)
    clear hg ho U8 G8
    go_wp2_with fail
    refine (eqSame _ _ l1 _ U9'.out U9.out).mono ?_
    rintro en x10 ⟨rfl, hg⟩
    have G10 := Lib.hid (grown_trans G9.out hg)
    clear hg
    go_wp2_with fail
    go_ret
    exact ⟨rfl, below_grown G10.out⟩

set_option maxRecDepth 100000 in
theorem lifted (os : Os) (started : os.Started) (H : Type) (enc : TypeId × Value → H) :
    ReturnsInHanded {} Tryd.checked os 10 .any (fun w args => (Rows.fnExactProgRunSpec.pre enc Tryd.prog Tryd.f10 [] false w args ∧ laidMetH Tryd.prog laidE w) ∧ sizedMet enc Tryd.prog Tryd.f10 (OpenSpec.ofChange Rows.fnExactProgRunSpec) false w args) (Rows.fnExactProgRunSpec.post enc Tryd.prog Tryd.f10 false true false false) := by
  refine returnsInHanded_of_change_and (C := Tryd.checked) (X := fun w _ => laidMetH Tryd.prog laidE w) (fun _ _ _ hh h => h.of_heap hh) own started (by kernel_rfl) Tryd.func10
    (ChangeSpec.witness_at (enc := enc) (C := Tryd.checked) (os := os) (X := fun w _ => laidMetH Tryd.prog laidE w) false (laidWorld os) #[.slice none 0 0, .slice none 0 0] 8 rfl (by kernel_rfl) (by kernel_rfl) (by kernel_rfl) (by kernel_rfl) (by kernel_rfl) (laidWorld_met os _)) ?_
  intro W base args ds gs before hval0 hW _ _ hL _
  have hval : ∀ (j : Nat) t v, Tryd.f10.params[j]? = some t → args[j]? = some v → Value.okWide Tryd.prog W .any base t v := hval0
  have hW' := hW
  obtain ⟨p, q, hA0, hV0, rfl, hfz, hnd⟩ := hW
  have hA : DataW.TrodAll enc Tryd.prog W 0 (fun _ => true) true Tryd.f10.params.toList args.toList ds p := hA0
  have hV : DataW.TrodVars enc Tryd.prog W (fun _ => true) ["loop.example/keelson/impl.errStep"] gs q := hV0
  rw [Tryd.params10] at hA hval
  obtain ⟨v0, vs0, d0, ds0, p0, q0, hargs, rfl, rfl, h0, r0⟩ := trodAll_cons hA
  obtain ⟨v1, vs1, d1, ds1, p1, q1, rfl, rfl, rfl, h1, r1⟩ := trodAll_cons r0
  obtain ⟨rfl, rfl, rfl⟩ := trodAll_nil r1
  obtain rfl : args = #[v0, v1] := by cases args; simp_all
  obtain ⟨ea, hv0, hE⟩ := sent_of_laid hL
  obtain ⟨rfl, rfl⟩ := hV.unique (vars_at enc hv0 _)
  obtain ⟨a0, len0, cap0, rfl⟩ := okWide_slice Tryd.underlying54 (hval 0 54 v0 rfl rfl)
  have k0 := h0
  have lt0 : ∀ x ∈ p0, x.block < W.heap.size := by obtain ⟨m, hm⟩ := k0; exact DataW.trod_lt m _ _ _ hm
  obtain ⟨L0, e0, c0, m0, w0⟩ := ssl_of Tryd.underlying54 Tryd.underlying105 (by kernel_rfl) ⟨rfl, rfl, rfl⟩ Tryd.underlying3 Tryd.underlying3 Tryd.underlying3 (by kernel_rfl) (by kernel_rfl) (by kernel_rfl) h0
  obtain ⟨a1, len1, cap1, rfl⟩ := okWide_slice Tryd.underlying23 (hval 1 23 v1 rfl rfl)
  have k1 := h1
  have lt1 : ∀ x ∈ p1, x.block < W.heap.size := by obtain ⟨m, hm⟩ := k1; exact DataW.trod_lt m _ _ _ hm
  obtain ⟨z1, r1⟩ : ∃ zs : List Int, (a1 = none ∧ len1 = 0 ∧ cap1 = 0 ∧ zs = []) ∨ ∃ x, a1 = some x ∧ len1 ≤ cap1 ∧ cap1 ≤ maxLen ∧ zs.length = cap1 ∧ (∀ i, i < zs.length → W.cell? (x.add i) = some (.int .i64 (zs.getD i 0))) ∧ ∀ n ∈ zs, (Lit.int .i64 n).wf = true := by
    obtain ⟨fuel, hf⟩ := h1
    rcases open_ints Tryd.underlying23 Tryd.underlying3 (by kernel_rfl) hf with ⟨hcs, _⟩ | ⟨x, l, c, zs, hcs, _, hl, hm, hz, _, hcell, hwz⟩
    · simp [Value.cells] at hcs
      obtain ⟨rfl, rfl, rfl⟩ := hcs
      exact ⟨[], .inl ⟨rfl, rfl, rfl, rfl⟩⟩
    · simp [Value.cells] at hcs
      obtain ⟨rfl, rfl, rfl⟩ := hcs
      exact ⟨zs, .inr ⟨_, rfl, hl, hm, by simpa using hz, hcell, hwz⟩⟩
  obtain ⟨l1, e1, c1, m1, w1⟩ := sl_of r1
  clear hA0 hV0 hval0
  refine (walk a0 len0 cap0 L0 a1 len1 cap1 l1 ea W e0 c0 m0 w0 e1 c1 m1 w1 hE).mono fun e W' ⟨he, bel⟩ => ?_
  subst he
  exact ⟨_, rfl, _, _, _, [], _, _, hW', trodAll_mk1 (shut_bool Tryd.underlying4 _), (trodAll_cons_mk (Below.trod laidOut (by kernel_rfl) (of_decide_eq_true (by kernel_rfl)) k0 bel lt0) (trodAll_cons_mk (Below.trod laidOut (by kernel_rfl) (of_decide_eq_true (by kernel_rfl)) k1 bel lt1) trodAll_mk0)), vars_at enc (var?_below bel gE hE.pos hv0) _, bel.frame _, fun h => by cases h⟩

theorem over : Rows.fnExactProgRunRow.holds Tryd.pinned (OpenSpec.ofChange Rows.fnExactProgRunSpec) :=
  OpenClaim.holds_of_wide 10 Tryd.f10 rfl rfl rfl rfl rfl rfl rfl ⟨rfl, rfl, rfl, rfl, rfl⟩ rfl rfl rfl rfl rfl (by kernel_rfl) Tryd.func10 (by kernel_rfl)
    (of_decide_eq_true (by kernel_rfl)) (by unfold Func.isWrapper; first | (rw [if_pos (by decide +kernel)]; kernel_rfl) | (rw [if_neg (by decide +kernel)]; exact ⟨rfl, rfl⟩))
    (fun os started H enc _ => lifted os started H enc)

theorem proved : Rows.FnExactProgRunCardSaid :=
  Claim7.holds_tied_plain_at .later [] [.sentinel] true (true, "706dffdecc08ed9b7991ed61352c643fc6ee35febc91e6b83dd0a73f61ed275b") true
    over (fun _ h => by cases h) (by kernel_rfl) (fun _ h => by cases h) fnExactProgRun_row_tie rfl ⟨rfl, rfl⟩ (by kernel_rfl) rfl
    (fun f fn hf hfn => by
      obtain rfl : f = 10 := Option.some.inj ((show Tryd.prog.funcNamed "loop.example/keelson/laws.FnExactProgRun" = some 10 by kernel_rfl).symm.trans hf) |>.symm
      obtain rfl : fn = Tryd.f10 := (Option.some.inj (Tryd.func10.symm.trans hfn)).symm
      exact ⟨by kernel_rfl, fun j t ht => by
        rw [Tryd.params10] at ht
        rcases j with _ | _ | j
        · obtain rfl : t = 54 := by simpa using ht.symm
          exact (show Tryd.prog.wantsStandIn 54 = false by kernel_rfl)
        · obtain rfl : t = 23 := by simpa using ht.symm
          exact (show Tryd.prog.wantsStandIn 23 = false by kernel_rfl)
        · simp at ht⟩)
    (by kernel_rfl)
#print axioms proved
end Go.Proofs.YtlehcpcejkpbmaaDoor.fnExactProgRun
