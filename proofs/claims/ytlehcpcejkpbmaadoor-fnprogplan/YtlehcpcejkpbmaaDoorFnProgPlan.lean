/-
  From whatever bytes a code and a plan are drawn, PlanOk answers as its model does, and is true just where the row that the plan's program makes is the row of the lost shard: the law FnProgPlan returns true.
  Conditions: none.
-/
import Derived.Test.YtlehcpcejkpbmaaDoorCards
import Derived.Test.YtlehcpcejkpbmaaDoorTie
import Derived.WalkKit
import Derived.ProofKit
import Derived.OpenShut
import Derived.ShutString
import Derived.ChangeOld
import Derived.ChangeSame
import Derived.Below
import Derived.JoinedOf
import Derived.Stop.Joined
import Derived.Stop.LaidErr
import Derived.SevenTiedAt
import Derived.Test.YtlehcpcejkpbmaaDoorG1
import Derived.Test.YtlehcpcejkpbmaaDoorAppendZeros
import Derived.Test.YtlehcpcejkpbmaaDoorG2
import Derived.Test.YtlehcpcejkpbmaaDoorSpanSame
import Derived.Test.YtlehcpcejkpbmaaDoorG3
import Derived.Test.YtlehcpcejkpbmaaDoorG4
import Derived.Test.YtlehcpcejkpbmaaDoorPlanMath
import Derived.Test.YtlehcpcejkpbmaaDoorPlanWork
import Derived.Test.YtlehcpcejkpbmaaDoorRound
import Derived.Test.YtlehcpcejkpbmaaDoorChoose
import Derived.Test.YtlehcpcejkpbmaaDoorPlanMake
import Derived.Test.YtlehcpcejkpbmaaDoorChoose2
import Derived.Test.YtlehcpcejkpbmaaDoorPlanFind
import Derived.Test.YtlehcpcejkpbmaaDoorPlanTop
import Derived.Test.YtlehcpcejkpbmaaDoorPlanSpec
import Derived.Test.YtlehcpcejkpbmaaDoorPlanSearch
import Derived.Test.YtlehcpcejkpbmaaDoorPlanSpec2
import Derived.Test.YtlehcpcejkpbmaaDoorPlanNear
import Derived.Test.YtlehcpcejkpbmaaDoorPlanEq
import Derived.Test.YtlehcpcejkpbmaaDoorPlanForm
import Derived.Test.YtlehcpcejkpbmaaDoorPlanComb
import Derived.Test.YtlehcpcejkpbmaaDoorPlanSums
import Derived.Test.YtlehcpcejkpbmaaDoorPlanDoOk
import Derived.Test.YtlehcpcejkpbmaaDoorPlanSpecForm
import Derived.Test.YtlehcpcejkpbmaaDoorPlanSpecDo
import Derived.Test.YtlehcpcejkpbmaaDoorPlanTold
import Derived.Test.YtlehcpcejkpbmaaDoorPlanArg
import Derived.Test.YtlehcpcejkpbmaaDoorDrawPlan
import Derived.Test.YtlehcpcejkpbmaaDoorStepMath
import Derived.Test.YtlehcpcejkpbmaaDoorStepTab
import Derived.Test.YtlehcpcejkpbmaaDoorErrIs
import Derived.Test.YtlehcpcejkpbmaaDoorProgStep
import Derived.Test.YtlehcpcejkpbmaaDoorProgOfP
import Derived.Test.YtlehcpcejkpbmaaDoorProgExec
import Derived.Test.YtlehcpcejkpbmaaDoorProgMath
import Derived.Test.YtlehcpcejkpbmaaDoorRowMath
import Derived.Test.YtlehcpcejkpbmaaDoorProgExecR
import Derived.Test.YtlehcpcejkpbmaaDoorProgRunP
import Derived.Test.YtlehcpcejkpbmaaDoorProgRowP
import Derived.Test.YtlehcpcejkpbmaaDoorProgComp
import Derived.Test.YtlehcpcejkpbmaaDoorStepHelp
import Derived.Test.YtlehcpcejkpbmaaDoorSpecProg
import Derived.Test.YtlehcpcejkpbmaaDoorDoor
import Derived.Test.YtlehcpcejkpbmaaDoorSpecOf
import Derived.Test.YtlehcpcejkpbmaaDoorDrawProg
import Derived.Test.YtlehcpcejkpbmaaDoorDrawProg2
import Derived.Test.YtlehcpcejkpbmaaDoorDrawProg4
namespace Go.Proofs.YtlehcpcejkpbmaaDoor.fnProgPlan
open Go.ChangeShapes Go.WideShapes Go.ChangeAt Go.RowKit Go.Extern
set_option linter.unusedVariables false

theorem okP_row {k : Nat} (hk : k = 1 ∨ k = 2) {d : Int} {l m : List Int} (h : pForm d l m = true) : okP (k : Int) d l m = (rowB (k : Int) d && decide (prR (k : Int) (ofL d l m) = rowM (k : Int) d)) ∧ rowB (k : Int) d = true := by
  have hd : 0 ≤ d ∧ d < 8 := (of_decide_eq_true (pForm_out h).1).1
  have hc : (k : Int) = 1 ∨ (k : Int) = 2 := by omega
  have hb : rowB (k : Int) d = true := by unfold rowB; exact decide_eq_true ⟨hc, hd⟩
  have hm : rowM (k : Int) d = Sp.crow k d.toNat := by unfold rowM; rw [if_pos ⟨hc, hd⟩, Int.toNat_natCast]
  have ho : ofL d l m = cmp l m l.length := by unfold ofL; rw [h]; rfl
  have hp : prB (k : Int) (ofL d l m) = true := by rw [prB_yes hk, ho]; exact cmp_prog h
  have hr : prR (k : Int) (ofL d l m) = planV k l m l.length := by unfold prR; rw [hp, Int.toNat_natCast, ho]; exact cmp_rows hk h
  refine ⟨?_, hb⟩
  rw [hb, hm, hr]
  unfold okP
  rw [h, decide_eq_true hc, Int.toNat_natCast, Bool.true_and, Bool.true_and]

set_option maxHeartbeats 16000000 in
set_option maxRecDepth 20000 in
theorem walk (a0 : Option Addr) (len0 cap0 : Nat) (e : Addr) (w : World) (w0 : Code w a0 len0 cap0) (hE : Sent w e) :
    Calls Tryd.prog 5 #[.slice a0 len0 cap0] w fun en w' => en = .returned (.bool true) ∧ Below w.heap.size w w' := by
  have hm0 : cap0 ≤ maxLen := w0.2.1
  have hl0 : len0 ≤ cap0 := w0.1
  unfold maxLen at hm0
  have C0 := Lib.hid w0
  have HE := Lib.hid hE
  have HP := Lib.hid hE.pos
  clear w0 hE
  by_cases hbig0 : (len0 : Int) > 1048576
  · go_enter Tryd.func5, Tryd.ntmps5
    go_wp2_with fail
    go_ret
    exact ⟨rfl, Below.refl _ _⟩
  go_enter Tryd.func5, Tryd.ntmps5
  go_wp2_with fail
  refine (drawPlanOk a0 len0 cap0 _ C0.out).mono ?_
  rintro en w1 ⟨k, d, u, v, l, m, hk, rfl, hu, hv, hb⟩
  obtain ⟨au, cu, eu, u1, u2, hru⟩ := hu
  obtain ⟨av, cv, ev, v1, v2, hrv⟩ := hv
  subst eu ev
  unfold maxLen at u2 v2
  have hu' : Sl w1 (.slice au l.length cu) l := ⟨au, cu, rfl, by assumption, by unfold maxLen; exact u2, hru⟩
  have hv' : Sl w1 (.slice av m.length cv) m := ⟨av, cv, rfl, by assumption, by unfold maxLen; exact v2, hrv⟩
  obtain ⟨nl, hnl⟩ : ∃ x, x = l.length := ⟨_, rfl⟩
  obtain ⟨ml, hml⟩ : ∃ x, x = m.length := ⟨_, rfl⟩
  rw [← hnl] at hu' u1 ⊢
  rw [← hml] at hv' v1 ⊢
  have HK := Lib.hid hk
  have ga := World.grownBy_alloc w1 (.cells #[.int .i64 d, .slice au nl cu, .slice av ml cv] 25) none
  have U2 := Lib.hid (hu'.grown ga)
  have V2 := Lib.hid (hv'.grown ga)
  have E2 := Lib.hid ((HE.out.below hb HP.out).grown ga)
  have B2 := Lib.hid (hb.trans (below_grown ga |>.mono hb.size))
  have K2 : Hid (Blk (w1.alloc (.cells #[.int .i64 d, .slice au nl cu, .slice av ml cv] 25)) w1.heap.size 25 [.int .i64 d, .slice au nl cu, .slice av ml cv]) := Lib.hid (heap_alloc_new _ _)
  clear hu' hv' hru hrv hnl hml ga hb C0
  go_upto_region 4 with fail
  generalize w1.alloc (.cells #[.int .i64 d, .slice au nl cu, .slice av ml cv] 25) = w2 at *
  generalize w1.heap.size = bp at *
  have k0 := K2.out.cell (i := 0) rfl
  have k1 := K2.out.cell (i := 1) rfl
  have k2 := K2.out.cell (i := 2) rfl
  have RW := Lib.hid (okP_row hk (d := d) (l := l) (m := m))
  have FALSE : Hid (pForm d l m = false → okP (k : Int) d l m = false) := Lib.hid (fun h => by unfold okP; rw [h]; simp)
  obtain ⟨b, hbb⟩ : ∃ b, okP (k : Int) d l m = b := ⟨_, rfl⟩
  have QB := Lib.hid hbb
  rw [hbb] at RW FALSE
  have e1 : (b != b) = false := by simp
  have e2 : (b == b) = true := by simp
  have kk1 : ¬ (k : Int) < 1 := by omega
  have kk2 : ¬ (k : Int) > 2 := by omega
  clear hbb
  go_wp2_with fail
  refine (implPlanOk k d _ _ l m _ U2.out V2.out).mono ?_
  rintro en w3 ⟨rfl, hg⟩
  have G3 := Lib.hid hg
  have K3 := Lib.hid (K2.out.kept hg (by simp))
  rw [QB.out]
  clear hg K2 k0 k1 k2
  have k0 := K3.out.cell (i := 0) rfl
  have k1 := K3.out.cell (i := 1) rfl
  have k2 := K3.out.cell (i := 2) rfl
  go_wp2_with fail
  refine (specPlanOk k d _ _ l m _ (U2.out.grown G3.out) (V2.out.grown G3.out)).mono ?_
  rintro en w4 ⟨rfl, hg⟩
  have G4 := Lib.hid (grown_trans G3.out hg)
  have K4 := Lib.hid (K3.out.kept hg (by simp))
  rw [QB.out]
  clear hg K3 k0 k1 k2 hk
  have k0 := K4.out.cell (i := 0) rfl
  have k1 := K4.out.cell (i := 1) rfl
  have k2 := K4.out.cell (i := 2) rfl
  go_wp2_with fail
  refine (implProgOf d _ _ l m _ (U2.out.grown G4.out) (V2.out.grown G4.out)).mono ?_
  rintro en w5 ⟨vl, rfl, hg, ho⟩
  have G5 := Lib.hid (grown_trans G4.out hg)
  have K5 := Lib.hid (K4.out.kept hg (by simp))
  have O5 := Lib.hid ho.sl
  obtain ⟨pa, pc, pe, _, _⟩ := ho.form
  subst pe
  obtain ⟨LL, hLL⟩ : ∃ x, ofL d l m = x := ⟨_, rfl⟩
  rw [hLL] at O5 RW ⊢
  obtain ⟨q, hq⟩ : ∃ q, pForm d l m = q := ⟨_, rfl⟩
  rw [hq] at RW FALSE ⊢
  obtain ⟨n, hn⟩ : ∃ n, n = LL.length := ⟨_, rfl⟩
  rw [← hn] at O5 ⊢
  clear hg ho hq hLL hn K4 k0 k1 k2
  cases q with
  | false =>
    obtain rfl : b = false := FALSE.out rfl
    go_wp2_with fail
    go_ret
    exact ⟨rfl, B2.out.trans (below_grown G5.out |>.mono B2.out.size)⟩
  | true =>
    have R2 := Lib.hid (RW.out rfl).1
    have R3 := Lib.hid (RW.out rfl).2
    clear RW FALSE
    obtain ⟨rr, hrr⟩ : ∃ x, prR (k : Int) LL = x := ⟨_, rfl⟩
    obtain ⟨rb, hrb⟩ : ∃ x, prB (k : Int) LL = x := ⟨_, rfl⟩
    obtain ⟨mm, hmm⟩ : ∃ x, rowM (k : Int) d = x := ⟨_, rfl⟩
    have XR := Lib.hid hrr
    have XB := Lib.hid hrb
    have XM := Lib.hid hmm
    rw [R3.out, hrr, hmm] at R2
    clear hrr hrb hmm
    have k0 := K5.out.cell (i := 0) rfl
    go_wp2_with fail
    refine (implProgRow k _ LL e _ O5.out (E2.out.grown G5.out)).mono ?_
    rintro en w6 ⟨vr, rfl, hg, ho⟩
    rw [XR.out] at ho
    rw [XB.out]
    have G6 := Lib.hid (grown_trans G5.out hg)
    have K6 := Lib.hid (K5.out.kept hg (by simp))
    have O6 := Lib.hid ho.sl
    clear hg ho K5 k0
    have k0 := K6.out.cell (i := 0) rfl
    go_wp2_with fail
    refine (implRow k d _).mono ?_
    rintro en w7 ⟨vm, rfl, hg, ho⟩
    rw [XM.out] at ho
    rw [R3.out]
    have G7 := Lib.hid (grown_trans G6.out hg)
    have O7 := Lib.hid (O6.out.grown hg)
    have M7 := Lib.hid ho.sl
    clear hg ho K6 k0 O6
    go_wp2_with fail
    refine (lkIs _ _ rr mm _ O7.out M7.out).mono ?_
    rintro en w8 ⟨rfl, hg⟩
    have G8 := Lib.hid (grown_trans G7.out hg)
    have EQ : Hid (decide (rr = mm) = b) := Lib.hid (by rw [R2.out]; rfl)
    rw [EQ.out]
    clear hg
    go_wp2_with fail
    go_ret
    exact ⟨rfl, B2.out.trans (below_grown G8.out |>.mono B2.out.size)⟩

set_option maxRecDepth 100000 in
theorem lifted (os : Os) (started : os.Started) (H : Type) (enc : TypeId × Value → H) :
    ReturnsInHanded {} Tryd.checked os 5 .any (fun w args => (Rows.fnProgPlanSpec.pre enc Tryd.prog Tryd.f5 [] false w args ∧ laidMetH Tryd.prog laidE w) ∧ sizedMet enc Tryd.prog Tryd.f5 (OpenSpec.ofChange Rows.fnProgPlanSpec) false w args) (Rows.fnProgPlanSpec.post enc Tryd.prog Tryd.f5 false true false false) := by
  refine returnsInHanded_of_change_and (C := Tryd.checked) (X := fun w _ => laidMetH Tryd.prog laidE w) (fun _ _ _ hh h => h.of_heap hh) own started (by kernel_rfl) Tryd.func5
    (ChangeSpec.witness_at (enc := enc) (C := Tryd.checked) (os := os) (X := fun w _ => laidMetH Tryd.prog laidE w) false (laidWorld os) #[.slice none 0 0] 8 rfl (by kernel_rfl) (by kernel_rfl) (by kernel_rfl) (by kernel_rfl) (by kernel_rfl) (laidWorld_met os _)) ?_
  intro W base args ds gs before hval0 hW _ _ hL _
  have hval : ∀ (j : Nat) t v, Tryd.f5.params[j]? = some t → args[j]? = some v → Value.okWide Tryd.prog W .any base t v := hval0
  have hW' := hW
  obtain ⟨p, q, hA0, hV0, rfl, hfz, hnd⟩ := hW
  have hA : DataW.TrodAll enc Tryd.prog W 0 (fun _ => true) true Tryd.f5.params.toList args.toList ds p := hA0
  have hV : DataW.TrodVars enc Tryd.prog W (fun _ => true) ["loop.example/keelson/impl.errStep"] gs q := hV0
  rw [Tryd.params5] at hA hval
  obtain ⟨v0, vs0, d0, ds0, p0, q0, hargs, rfl, rfl, h0, r0⟩ := trodAll_cons hA
  obtain ⟨rfl, rfl, rfl⟩ := trodAll_nil r0
  obtain rfl : args = #[v0] := by cases args; simp_all
  obtain ⟨ea, hv0, hE⟩ := sent_of_laid hL
  obtain ⟨rfl, rfl⟩ := hV.unique (vars_at enc hv0 _)
  obtain ⟨a0, len0, cap0, rfl⟩ := okWide_slice Tryd.underlying22 (hval 0 22 v0 rfl rfl)
  have k0 := h0
  have lt0 : ∀ x ∈ p0, x.block < W.heap.size := by obtain ⟨m, hm⟩ := k0; exact DataW.trod_lt m _ _ _ hm
  obtain ⟨z0, r0⟩ : ∃ zs : List Int, (a0 = none ∧ len0 = 0 ∧ cap0 = 0 ∧ zs = []) ∨ ∃ x, a0 = some x ∧ len0 ≤ cap0 ∧ cap0 ≤ maxLen ∧ zs.length = cap0 ∧ (∀ i, i < zs.length → W.cell? (x.add i) = some (.int .u8 (zs.getD i 0))) ∧ ∀ n ∈ zs, (Lit.int .u8 n).wf = true := by
    obtain ⟨fuel, hf⟩ := h0
    rcases open_ints Tryd.underlying22 Tryd.underlying5 (by kernel_rfl) hf with ⟨hcs, _⟩ | ⟨x, l, c, zs, hcs, _, hl, hm, hz, _, hcell, hwz⟩
    · simp [Value.cells] at hcs
      obtain ⟨rfl, rfl, rfl⟩ := hcs
      exact ⟨[], .inl ⟨rfl, rfl, rfl, rfl⟩⟩
    · simp [Value.cells] at hcs
      obtain ⟨rfl, rfl, rfl⟩ := hcs
      exact ⟨zs, .inr ⟨_, rfl, hl, hm, by simpa using hz, hcell, hwz⟩⟩
  have w0 : Code W a0 len0 cap0 := code_of r0
  clear hA0 hV0 hval0
  refine (walk a0 len0 cap0 ea W w0 hE).mono fun e W' ⟨he, bel⟩ => ?_
  subst he
  exact ⟨_, rfl, _, _, _, [], _, _, hW', trodAll_mk1 (shut_bool Tryd.underlying4 _), (trodAll_cons_mk (Below.trod laidOut (by kernel_rfl) (of_decide_eq_true (by kernel_rfl)) k0 bel lt0) trodAll_mk0), vars_at enc (var?_below bel gE hE.pos hv0) _, bel.frame _, fun h => by cases h⟩

theorem over : Rows.fnProgPlanRow.holds Tryd.pinned (OpenSpec.ofChange Rows.fnProgPlanSpec) :=
  OpenClaim.holds_of_wide 5 Tryd.f5 rfl rfl rfl rfl rfl rfl rfl ⟨rfl, rfl, rfl, rfl, rfl⟩ rfl rfl rfl rfl rfl (by kernel_rfl) Tryd.func5 (by kernel_rfl)
    (of_decide_eq_true (by kernel_rfl)) (by unfold Func.isWrapper; first | (rw [if_pos (by decide +kernel)]; kernel_rfl) | (rw [if_neg (by decide +kernel)]; exact ⟨rfl, rfl⟩))
    (fun os started H enc _ => lifted os started H enc)

theorem proved : Rows.FnProgPlanCardSaid :=
  Claim7.holds_tied_plain_at .later [] [.sentinel] true (true, "706dffdecc08ed9b7991ed61352c643fc6ee35febc91e6b83dd0a73f61ed275b") true
    over (fun _ h => by cases h) (by kernel_rfl) (fun _ h => by cases h) fnProgPlan_row_tie rfl ⟨rfl, rfl⟩ (by kernel_rfl) rfl
    (fun f fn hf hfn => by
      obtain rfl : f = 5 := Option.some.inj ((show Tryd.prog.funcNamed "loop.example/keelson/laws.FnProgPlan" = some 5 by kernel_rfl).symm.trans hf) |>.symm
      obtain rfl : fn = Tryd.f5 := (Option.some.inj (Tryd.func5.symm.trans hfn)).symm
      exact ⟨by kernel_rfl, fun j t ht => by
        rw [Tryd.params5] at ht
        rcases j with _ | j
        · obtain rfl : t = 22 := by simpa using ht.symm
          exact (show Tryd.prog.wantsStandIn 22 = false by kernel_rfl)
        · simp at ht⟩)
    (by kernel_rfl)
#print axioms proved
end Go.Proofs.YtlehcpcejkpbmaaDoor.fnProgPlan
