/-
  From whatever bytes a plan is drawn, ProgOf answers as its model does; the program takes each shard once, a number so often for each that is not 1, and adds all but the first: the law FnProgSteps returns true.
  Conditions: none.
-/
import Derived.Test.YtlehcpcejkpbmaaDoorCards
import Derived.Test.YtlehcpcejkpbmaaDoorTie
import Derived.WalkKit
import Derived.ProofKit
import Derived.OpenShut
import Derived.ShutString
import Derived.ChangeOld
import Derived.ChangeSame
import Derived.Below
import Derived.JoinedOf
import Derived.Stop.Joined
import Derived.Stop.LaidErr
import Derived.SevenTiedAt
import Derived.Test.YtlehcpcejkpbmaaDoorG1
import Derived.Test.YtlehcpcejkpbmaaDoorAppendZeros
import Derived.Test.YtlehcpcejkpbmaaDoorG2
import Derived.Test.YtlehcpcejkpbmaaDoorSpanSame
import Derived.Test.YtlehcpcejkpbmaaDoorG3
import Derived.Test.YtlehcpcejkpbmaaDoorG4
import Derived.Test.YtlehcpcejkpbmaaDoorPlanMath
import Derived.Test.YtlehcpcejkpbmaaDoorPlanWork
import Derived.Test.YtlehcpcejkpbmaaDoorRound
import Derived.Test.YtlehcpcejkpbmaaDoorChoose
import Derived.Test.YtlehcpcejkpbmaaDoorPlanMake
import Derived.Test.YtlehcpcejkpbmaaDoorChoose2
import Derived.Test.YtlehcpcejkpbmaaDoorPlanFind
import Derived.Test.YtlehcpcejkpbmaaDoorPlanTop
import Derived.Test.YtlehcpcejkpbmaaDoorPlanSpec
import Derived.Test.YtlehcpcejkpbmaaDoorPlanSearch
import Derived.Test.YtlehcpcejkpbmaaDoorPlanSpec2
import Derived.Test.YtlehcpcejkpbmaaDoorPlanNear
import Derived.Test.YtlehcpcejkpbmaaDoorPlanEq
import Derived.Test.YtlehcpcejkpbmaaDoorPlanForm
import Derived.Test.YtlehcpcejkpbmaaDoorPlanComb
import Derived.Test.YtlehcpcejkpbmaaDoorPlanSums
import Derived.Test.YtlehcpcejkpbmaaDoorPlanDoOk
import Derived.Test.YtlehcpcejkpbmaaDoorPlanSpecForm
import Derived.Test.YtlehcpcejkpbmaaDoorPlanSpecDo
import Derived.Test.YtlehcpcejkpbmaaDoorPlanTold
import Derived.Test.YtlehcpcejkpbmaaDoorPlanArg
import Derived.Test.YtlehcpcejkpbmaaDoorDrawPlan
import Derived.Test.YtlehcpcejkpbmaaDoorStepMath
import Derived.Test.YtlehcpcejkpbmaaDoorStepTab
import Derived.Test.YtlehcpcejkpbmaaDoorErrIs
import Derived.Test.YtlehcpcejkpbmaaDoorProgStep
import Derived.Test.YtlehcpcejkpbmaaDoorProgOfP
import Derived.Test.YtlehcpcejkpbmaaDoorProgExec
import Derived.Test.YtlehcpcejkpbmaaDoorProgMath
import Derived.Test.YtlehcpcejkpbmaaDoorProgRunP
import Derived.Test.YtlehcpcejkpbmaaDoorProgComp
import Derived.Test.YtlehcpcejkpbmaaDoorStepHelp
import Derived.Test.YtlehcpcejkpbmaaDoorSpecProg
import Derived.Test.YtlehcpcejkpbmaaDoorDoor
import Derived.Test.YtlehcpcejkpbmaaDoorSpecOf
import Derived.Test.YtlehcpcejkpbmaaDoorDrawProg
import Derived.Test.YtlehcpcejkpbmaaDoorDrawProg2
namespace Go.Proofs.YtlehcpcejkpbmaaDoor.fnProgSteps
open Go.ChangeShapes Go.WideShapes Go.ChangeAt Go.RowKit Go.Extern
set_option linter.unusedVariables false

theorem notOne_le (m : List Int) : ∀ t, notOne m t ≤ t
  | 0 => Nat.le_refl _
  | t + 1 => by
    have := notOne_le m t
    show notOne m t + (if _ then 0 else 1) ≤ t + 1
    split <;> omega

set_option maxHeartbeats 8000000 in
set_option maxRecDepth 20000 in
theorem walk (a0 : Option Addr) (len0 cap0 : Nat) (e : Addr) (w : World) (w0 : Code w a0 len0 cap0) (hE : Sent w e) :
    Calls Tryd.prog 4 #[.slice a0 len0 cap0] w fun en w' => en = .returned (.bool true) ∧ Below w.heap.size w w' := by
  have hm0 : cap0 ≤ maxLen := w0.2.1
  have hl0 : len0 ≤ cap0 := w0.1
  unfold maxLen at hm0
  have C0 := Lib.hid w0
  have HE := Lib.hid hE
  have HP := Lib.hid hE.pos
  clear w0 hE
  by_cases hbig0 : (len0 : Int) > 1048576
  · go_enter Tryd.func4, Tryd.ntmps4
    go_wp2_with fail
    go_ret
    exact ⟨rfl, Below.refl _ _⟩
  go_enter Tryd.func4, Tryd.ntmps4
  go_wp2_with fail
  refine (drawProgOf a0 len0 cap0 _ C0.out).mono ?_
  rintro en w1 ⟨d, u, v, l, m, rfl, hu, hv, hb⟩
  obtain ⟨au, cu, eu, u1, u2, hru⟩ := hu
  obtain ⟨av, cv, ev, v1, v2, hrv⟩ := hv
  subst eu ev
  unfold maxLen at u2 v2
  have RM : Hid (Rds w1 av m) := Lib.hid hrv
  have hu' : Sl w1 (.slice au l.length cu) l := ⟨au, cu, rfl, by assumption, by unfold maxLen; exact u2, hru⟩
  have hv' : Sl w1 (.slice av m.length cv) m := ⟨av, cv, rfl, by assumption, by unfold maxLen; exact v2, hrv⟩
  obtain ⟨nl, hnl⟩ : ∃ x, x = l.length := ⟨_, rfl⟩
  obtain ⟨ml, hml⟩ : ∃ x, x = m.length := ⟨_, rfl⟩
  rw [← hnl] at hu' u1 ⊢
  rw [← hml] at hv' v1 ⊢
  have NL := Lib.hid hnl
  have ML := Lib.hid hml
  have ga := World.grownBy_alloc w1 (.cells #[.int .i64 d, .slice au nl cu, .slice av ml cv] 25) none
  have G0 := Lib.hid ga
  have U2 := Lib.hid (hu'.grown ga)
  have V2 := Lib.hid (hv'.grown ga)
  have E2 := Lib.hid ((HE.out.below hb HP.out).grown ga)
  have B2 := Lib.hid (hb.trans (below_grown ga |>.mono hb.size))
  have K2 : Hid (Blk (w1.alloc (.cells #[.int .i64 d, .slice au nl cu, .slice av ml cv] 25)) w1.heap.size 25 [.int .i64 d, .slice au nl cu, .slice av ml cv]) := Lib.hid (heap_alloc_new _ _)
  clear hu' hv' hru hrv hnl hml ga hb C0
  go_upto_region 4 with fail
  generalize w1.alloc (.cells #[.int .i64 d, .slice au nl cu, .slice av ml cv] 25) = w2 at *
  generalize w1.heap.size = bp at *
  have k0 := K2.out.cell (i := 0) rfl
  have k1 := K2.out.cell (i := 1) rfl
  have k2 := K2.out.cell (i := 2) rfl
  go_wp2_with fail
  refine (implProgOf d _ _ l m _ U2.out V2.out).mono ?_
  rintro en w3 ⟨vl, rfl, hg, ho⟩
  have G3 := Lib.hid hg
  have K3 := Lib.hid (K2.out.kept hg (by simp))
  have O3 := Lib.hid ho.sl
  obtain ⟨pa, pc, pe, p1, p2⟩ := ho.form
  subst pe
  unfold maxLen at p2
  have FP := Lib.hid (form_pos (n := d) (l := l) (m := m))
  have PK := Lib.hid (cmp_prog (n := d) (l := l) (m := m))
  have OF : Hid (ofL d l m = bif pForm d l m then cmp l m l.length else []) := Lib.hid rfl
  obtain ⟨LL, hLL⟩ : ∃ x, ofL d l m = x := ⟨_, rfl⟩
  have HLL := Lib.hid hLL
  rw [hLL] at O3 OF p1 ⊢
  obtain ⟨q, hq⟩ : ∃ q, pForm d l m = q := ⟨_, rfl⟩
  have Q := Lib.hid hq
  rw [hq] at FP PK OF ⊢
  clear hg ho hq hLL K2 k0 k1 k2
  have k0 := K3.out.cell (i := 0) rfl
  have k1 := K3.out.cell (i := 1) rfl
  have k2 := K3.out.cell (i := 2) rfl
  go_wp2_with fail
  refine (specProgOf d _ _ l m _ (U2.out.grown G3.out) (V2.out.grown G3.out)).mono ?_
  rintro en w4 ⟨vm, rfl, hg, ho⟩
  have G4 := Lib.hid (grown_trans G3.out hg)
  have O4 := Lib.hid (O3.out.grown hg)
  have K4 := Lib.hid (K3.out.kept hg (by simp))
  obtain ⟨qa, qc, qe, _, _⟩ := ho.form
  subst qe
  rw [HLL.out, Q.out]
  clear hg ho K3 k0 k1 k2 O3
  obtain ⟨n, hn⟩ : ∃ n, n = LL.length := ⟨_, rfl⟩
  have N := Lib.hid hn
  rw [← hn] at O4 p1 ⊢
  clear hn
  have en1 : ((n : Int) != (n : Int)) = false := by simp
  cases q with
  | false =>
    go_wp2_with fail
    go_ret
    exact ⟨rfl, B2.out.trans (below_grown G4.out |>.mono B2.out.size)⟩
  | true =>
    obtain ⟨f0, f4, fm⟩ := FP.out (by first | rfl | trivial)
    rw [← NL.out] at f0 f4 fm
    rw [← ML.out] at fm
    obtain rfl : nl = ml := fm.symm
    have OK : Hid (progOk LL = true) := Lib.hid (by have := PK.out (by first | rfl | trivial); rw [OF.out]; exact this)
    obtain ⟨c1, c2, c3⟩ := cmp_many l m nl
    have EL : LL = cmp l m nl := by rw [OF.out, NL.out]; rfl
    have M1 : Hid (manyN LL 1 = (nl : Int)) := Lib.hid (by unfold manyN; rw [OK.out]; show (manyS 1 LL : Int) = _; rw [EL, c1])
    have M2 : Hid (manyN LL 2 = (notOne m nl : Int)) := Lib.hid (by unfold manyN; rw [OK.out]; show (manyS 2 LL : Int) = _; rw [EL, c2])
    have M3 : Hid (manyN LL 3 = (nl : Int) - 1) := Lib.hid (by unfold manyN; rw [OK.out]; show (manyS 3 LL : Int) = _; rw [EL, c3]; omega)
    have k1 := K4.out.cell (i := 1) rfl
    have k2 := K4.out.cell (i := 2) rfl
    clear FP PK OF EL c1 c2 c3 fm
    go_wp2_with fail
    clear k1 k2
    have KK := Lib.hid K4.out
    go_loopw [8, 9] (fun c i wr => ∃ t : Nat, t ≤ nl ∧ i = .int .i64 t ∧ c = .int .i64 (notOne m t : Nat) ∧ w4.grownBy wr none ∧ Blk wr bp 25 [.int .i64 d, .slice au nl cu, .slice av nl cv]) (fun _ i _ => nl - (intOf i).toNat)
    case atStart => exact ⟨0, by omega, rfl, rfl, World.grownBy.refl _ _, KK.out⟩
    case round =>
      obtain ⟨t, ht, rfl, rfl, hg, hk⟩ := hrel
      have G5 := Lib.hid hg
      have K5 := Lib.hid hk
      clear hg hk K4 KK
      have x2 := K5.out.cell (i := 2) rfl
      by_cases hlt : t < nl
      · have hlt' : (t : Int) < (nl : Int) := by omega
        obtain ⟨b, o, rfl, hx⟩ := (RM.out.grown (grown_trans (grown_trans G0.out G4.out) G5.out)).at_ (k := t) (by rw [← ML.out]; exact hlt)
        obtain ⟨c, hc⟩ : ∃ c, m.getD t 0 = c := ⟨_, rfl⟩
        have NX : Hid (notOne m (t + 1) = notOne m t + if c = 1 then 0 else 1) := Lib.hid (by rw [← hc]; rfl)
        rw [hc] at hx
        have NB := notOne_le m t
        generalize notOne m t = k at *
        clear hc
        by_cases h1 : c = 1
        · subst h1
          have NX' : Hid (notOne m (t + 1) = k) := Lib.hid (by rw [NX.out, if_pos rfl]; rfl)
          go_wp2_with fail
          go_roundw
          case rel => exact ⟨t + 1, by omega, by go_num, by rw [NX'.out], G5.out, K5.out⟩
          case measure => simp [intOf]; omega
        · have NX' : Hid (notOne m (t + 1) = k + 1) := Lib.hid (by rw [NX.out, if_neg h1])
          have hc1 : (c != 1) = true := by rw [bne_iff_ne]; exact h1
          clear h1
          go_wp2_with fail
          go_roundw
          case rel => exact ⟨t + 1, by omega, by go_num, by rw [NX'.out]; go_num, G5.out, K5.out⟩
          case measure => simp [intOf]; omega
      · obtain rfl : t = nl := by omega
        have hi : ¬ (t : Int) < (t : Int) := by omega
        have NB := notOne_le m t
        have y1 : wr.drew.cell? ⟨bp, 1, none⟩ = some (.slice au t cu) := K5.out.cell (i := 1) rfl
        have O5 := Lib.hid (O4.out.grown (grown_drew G5.out))
        have E5 := Lib.hid (E2.out.grown (grown_drew (grown_trans G4.out G5.out)))
        have B5 := Lib.hid (B2.out.trans (below_grown (grown_drew (grown_trans G4.out G5.out)) |>.mono B2.out.size))
        obtain ⟨kk, hkk⟩ : ∃ k : Nat, notOne m t = k := ⟨_, rfl⟩
        rw [hkk] at M2 NB ⊢
        have q1 : ((t : Int) == (t : Int)) = true := by simp
        have q2 : ((kk : Int) == (kk : Int)) = true := by simp
        have ws : IntKind.i64.wrap ((t : Int) - 1) = (t : Int) - 1 := IntWalk.i64_in _ (by omega)
        have q3 : ((t : Int) - 1 == (t : Int) - 1) = true := by simp
        clear hkk K5 G5 G4 O4 E2 B2
        go_wp2_with fail
        go_region_held3 (fun w' => w'.cell? ⟨bp, 1, none⟩ = some (.slice au t cu))
          (first
            | with_reducible exact y1
            | with_reducible exact y2
            | with_reducible exact y3
            | with_reducible exact y4)
          (first
            | (go_at_call 20; refine (implProgMany _ LL 3 e _ O7.out E7.out).mono ?_; rintro en w7 ⟨rfl, hg7⟩
               have y4 := hg7.cell y3 (by simp)
               have G8 := Lib.hid (grown_trans G7.out hg7)
               clear hg7
               rw [M3.out])
            | (go_at_call 20; refine (implProgMany _ LL 2 e _ O6.out E6.out).mono ?_; rintro en w6 ⟨rfl, hg6⟩
               have y3 := hg6.cell y2 (by simp)
               have G7 := Lib.hid (grown_trans G6.out hg6)
               have O7 := Lib.hid (O6.out.grown hg6)
               have E7 := Lib.hid (E6.out.grown hg6)
               clear hg6
               rw [M2.out])
            | (go_at_call 20; refine (implProgMany _ LL 1 e _ O5.out E5.out).mono ?_; rintro en w5 ⟨rfl, hg5⟩
               have y2 := hg5.cell y1 (by simp)
               have G6 := Lib.hid hg5
               have O6 := Lib.hid (O5.out.grown hg5)
               have E6 := Lib.hid (E5.out.grown hg5)
               clear hg5
               rw [M1.out]))
        go_wp2_with fail
        go_ret
        exact ⟨rfl, B5.out.trans (below_grown G8.out |>.mono B5.out.size)⟩

set_option maxRecDepth 100000 in
theorem lifted (os : Os) (started : os.Started) (H : Type) (enc : TypeId × Value → H) :
    ReturnsInHanded {} Tryd.checked os 4 .any (fun w args => (Rows.fnProgStepsSpec.pre enc Tryd.prog Tryd.f4 [] false w args ∧ laidMetH Tryd.prog laidE w) ∧ sizedMet enc Tryd.prog Tryd.f4 (OpenSpec.ofChange Rows.fnProgStepsSpec) false w args) (Rows.fnProgStepsSpec.post enc Tryd.prog Tryd.f4 false true false false) := by
  refine returnsInHanded_of_change_and (C := Tryd.checked) (X := fun w _ => laidMetH Tryd.prog laidE w) (fun _ _ _ hh h => h.of_heap hh) own started (by kernel_rfl) Tryd.func4
    (ChangeSpec.witness_at (enc := enc) (C := Tryd.checked) (os := os) (X := fun w _ => laidMetH Tryd.prog laidE w) false (laidWorld os) #[.slice none 0 0] 8 rfl (by kernel_rfl) (by kernel_rfl) (by kernel_rfl) (by kernel_rfl) (by kernel_rfl) (laidWorld_met os _)) ?_
  intro W base args ds gs before hval0 hW _ _ hL _
  have hval : ∀ (j : Nat) t v, Tryd.f4.params[j]? = some t → args[j]? = some v → Value.okWide Tryd.prog W .any base t v := hval0
  have hW' := hW
  obtain ⟨p, q, hA0, hV0, rfl, hfz, hnd⟩ := hW
  have hA : DataW.TrodAll enc Tryd.prog W 0 (fun _ => true) true Tryd.f4.params.toList args.toList ds p := hA0
  have hV : DataW.TrodVars enc Tryd.prog W (fun _ => true) ["loop.example/keelson/impl.errStep"] gs q := hV0
  rw [Tryd.params4] at hA hval
  obtain ⟨v0, vs0, d0, ds0, p0, q0, hargs, rfl, rfl, h0, r0⟩ := trodAll_cons hA
  obtain ⟨rfl, rfl, rfl⟩ := trodAll_nil r0
  obtain rfl : args = #[v0] := by cases args; simp_all
  obtain ⟨ea, hv0, hE⟩ := sent_of_laid hL
  obtain ⟨rfl, rfl⟩ := hV.unique (vars_at enc hv0 _)
  obtain ⟨a0, len0, cap0, rfl⟩ := okWide_slice Tryd.underlying22 (hval 0 22 v0 rfl rfl)
  have k0 := h0
  have lt0 : ∀ x ∈ p0, x.block < W.heap.size := by obtain ⟨m, hm⟩ := k0; exact DataW.trod_lt m _ _ _ hm
  obtain ⟨z0, r0⟩ : ∃ zs : List Int, (a0 = none ∧ len0 = 0 ∧ cap0 = 0 ∧ zs = []) ∨ ∃ x, a0 = some x ∧ len0 ≤ cap0 ∧ cap0 ≤ maxLen ∧ zs.length = cap0 ∧ (∀ i, i < zs.length → W.cell? (x.add i) = some (.int .u8 (zs.getD i 0))) ∧ ∀ n ∈ zs, (Lit.int .u8 n).wf = true := by
    obtain ⟨fuel, hf⟩ := h0
    rcases open_ints Tryd.underlying22 Tryd.underlying5 (by kernel_rfl) hf with ⟨hcs, _⟩ | ⟨x, l, c, zs, hcs, _, hl, hm, hz, _, hcell, hwz⟩
    · simp [Value.cells] at hcs
      obtain ⟨rfl, rfl, rfl⟩ := hcs
      exact ⟨[], .inl ⟨rfl, rfl, rfl, rfl⟩⟩
    · simp [Value.cells] at hcs
      obtain ⟨rfl, rfl, rfl⟩ := hcs
      exact ⟨zs, .inr ⟨_, rfl, hl, hm, by simpa using hz, hcell, hwz⟩⟩
  have w0 : Code W a0 len0 cap0 := code_of r0
  clear hA0 hV0 hval0
  refine (walk a0 len0 cap0 ea W w0 hE).mono fun e W' ⟨he, bel⟩ => ?_
  subst he
  exact ⟨_, rfl, _, _, _, [], _, _, hW', trodAll_mk1 (shut_bool Tryd.underlying4 _), (trodAll_cons_mk (Below.trod laidOut (by kernel_rfl) (of_decide_eq_true (by kernel_rfl)) k0 bel lt0) trodAll_mk0), vars_at enc (var?_below bel gE hE.pos hv0) _, bel.frame _, fun h => by cases h⟩

theorem over : Rows.fnProgStepsRow.holds Tryd.pinned (OpenSpec.ofChange Rows.fnProgStepsSpec) :=
  OpenClaim.holds_of_wide 4 Tryd.f4 rfl rfl rfl rfl rfl rfl rfl ⟨rfl, rfl, rfl, rfl, rfl⟩ rfl rfl rfl rfl rfl (by kernel_rfl) Tryd.func4 (by kernel_rfl)
    (of_decide_eq_true (by kernel_rfl)) (by unfold Func.isWrapper; first | (rw [if_pos (by decide +kernel)]; kernel_rfl) | (rw [if_neg (by decide +kernel)]; exact ⟨rfl, rfl⟩))
    (fun os started H enc _ => lifted os started H enc)

theorem proved : Rows.FnProgStepsCardSaid :=
  Claim7.holds_tied_plain_at .later [] [.sentinel] true (true, "706dffdecc08ed9b7991ed61352c643fc6ee35febc91e6b83dd0a73f61ed275b") true
    over (fun _ h => by cases h) (by kernel_rfl) (fun _ h => by cases h) fnProgSteps_row_tie rfl ⟨rfl, rfl⟩ (by kernel_rfl) rfl
    (fun f fn hf hfn => by
      obtain rfl : f = 4 := Option.some.inj ((show Tryd.prog.funcNamed "loop.example/keelson/laws.FnProgSteps" = some 4 by kernel_rfl).symm.trans hf) |>.symm
      obtain rfl : fn = Tryd.f4 := (Option.some.inj (Tryd.func4.symm.trans hfn)).symm
      exact ⟨by kernel_rfl, fun j t ht => by
        rw [Tryd.params4] at ht
        rcases j with _ | j
        · obtain rfl : t = 22 := by simpa using ht.symm
          exact (show Tryd.prog.wantsStandIn 22 = false by kernel_rfl)
        · simp at ht⟩)
    (by kernel_rfl)
#print axioms proved
end Go.Proofs.YtlehcpcejkpbmaaDoor.fnProgSteps
