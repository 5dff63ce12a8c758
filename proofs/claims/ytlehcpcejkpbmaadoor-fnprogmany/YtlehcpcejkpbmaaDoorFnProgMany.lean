/-
  From whatever bytes steps and an operation are drawn, ProgMany answers as its model does, counts the steps of the operation, and all steps of a program are of one of three: the law FnProgMany returns true.
  Conditions: none.
-/
import Derived.Test.YtlehcpcejkpbmaaDoorCards
import Derived.Test.YtlehcpcejkpbmaaDoorTie
import Derived.WalkKit
import Derived.ProofKit
import Derived.OpenShut
import Derived.ShutString
import Derived.ChangeOld
import Derived.ChangeSame
import Derived.Below
import Derived.JoinedOf
import Derived.Stop.Joined
import Derived.Stop.LaidErr
import Derived.SevenTiedAt
import Derived.Test.YtlehcpcejkpbmaaDoorG1
import Derived.Test.YtlehcpcejkpbmaaDoorAppendZeros
import Derived.Test.YtlehcpcejkpbmaaDoorG2
import Derived.Test.YtlehcpcejkpbmaaDoorSpanSame
import Derived.Test.YtlehcpcejkpbmaaDoorG3
import Derived.Test.YtlehcpcejkpbmaaDoorG4
import Derived.Test.YtlehcpcejkpbmaaDoorPlanMath
import Derived.Test.YtlehcpcejkpbmaaDoorPlanWork
import Derived.Test.YtlehcpcejkpbmaaDoorRound
import Derived.Test.YtlehcpcejkpbmaaDoorChoose
import Derived.Test.YtlehcpcejkpbmaaDoorPlanMake
import Derived.Test.YtlehcpcejkpbmaaDoorChoose2
import Derived.Test.YtlehcpcejkpbmaaDoorPlanFind
import Derived.Test.YtlehcpcejkpbmaaDoorPlanTop
import Derived.Test.YtlehcpcejkpbmaaDoorPlanSpec
import Derived.Test.YtlehcpcejkpbmaaDoorPlanSearch
import Derived.Test.YtlehcpcejkpbmaaDoorPlanSpec2
import Derived.Test.YtlehcpcejkpbmaaDoorPlanNear
import Derived.Test.YtlehcpcejkpbmaaDoorPlanEq
import Derived.Test.YtlehcpcejkpbmaaDoorPlanForm
import Derived.Test.YtlehcpcejkpbmaaDoorPlanComb
import Derived.Test.YtlehcpcejkpbmaaDoorPlanSums
import Derived.Test.YtlehcpcejkpbmaaDoorPlanDoOk
import Derived.Test.YtlehcpcejkpbmaaDoorPlanSpecForm
import Derived.Test.YtlehcpcejkpbmaaDoorPlanSpecDo
import Derived.Test.YtlehcpcejkpbmaaDoorPlanTold
import Derived.Test.YtlehcpcejkpbmaaDoorPlanArg
import Derived.Test.YtlehcpcejkpbmaaDoorDrawPlan
import Derived.Test.YtlehcpcejkpbmaaDoorStepMath
import Derived.Test.YtlehcpcejkpbmaaDoorStepTab
import Derived.Test.YtlehcpcejkpbmaaDoorErrIs
import Derived.Test.YtlehcpcejkpbmaaDoorProgStep
import Derived.Test.YtlehcpcejkpbmaaDoorProgOfP
import Derived.Test.YtlehcpcejkpbmaaDoorProgExec
import Derived.Test.YtlehcpcejkpbmaaDoorProgMath
import Derived.Test.YtlehcpcejkpbmaaDoorProgRunP
import Derived.Test.YtlehcpcejkpbmaaDoorProgComp
import Derived.Test.YtlehcpcejkpbmaaDoorStepHelp
import Derived.Test.YtlehcpcejkpbmaaDoorSpecProg
import Derived.Test.YtlehcpcejkpbmaaDoorDoor
import Derived.Test.YtlehcpcejkpbmaaDoorSpecOf
import Derived.Test.YtlehcpcejkpbmaaDoorDrawProg
import Derived.Test.YtlehcpcejkpbmaaDoorDrawProg2
namespace Go.Proofs.YtlehcpcejkpbmaaDoor.fnProgMany
open Go.ChangeShapes Go.WideShapes Go.ChangeAt Go.RowKit Go.Extern
set_option linter.unusedVariables false

set_option maxHeartbeats 8000000 in
set_option maxRecDepth 20000 in
theorem walk (a0 : Option Addr) (len0 cap0 : Nat) (e : Addr) (w : World) (w0 : Code w a0 len0 cap0) (hE : Sent w e) :
    Calls Tryd.prog 7 #[.slice a0 len0 cap0] w fun en w' => en = .returned (.bool true) ∧ Below w.heap.size w w' := by
  have hm0 : cap0 ≤ maxLen := w0.2.1
  have hl0 : len0 ≤ cap0 := w0.1
  unfold maxLen at hm0
  have C0 := Lib.hid w0
  have HE := Lib.hid hE
  have HP := Lib.hid hE.pos
  clear w0 hE
  by_cases hbig0 : (len0 : Int) > 1048576
  · go_enter Tryd.func7, Tryd.ntmps7
    go_wp2_with fail
    go_ret
    exact ⟨rfl, Below.refl _ _⟩
  go_enter Tryd.func7, Tryd.ntmps7
  go_wp2_with fail
  refine (drawProgMany a0 len0 cap0 _ C0.out).mono ?_
  rintro en w1 ⟨v, L, o, rfl, o1, o4, hL, hs, hb⟩
  have B1 := Lib.hid hb
  have S1 := Lib.hid hs
  have E1 := Lib.hid (HE.out.below hb HP.out)
  obtain ⟨sa, sc, se, q1, q2, hr⟩ := hs
  subst se
  unfold maxLen at q2
  have R1 : Hid (Rds w1 sa (sflat L)) := Lib.hid hr
  obtain ⟨n, hn⟩ : ∃ n, n = L.length := ⟨_, rfl⟩
  rw [← hn] at S1 q1 hL ⊢
  have N := Lib.hid hn
  clear hb hr hn C0
  have MN : Hid (manyN L o = bif progOk L then (manyS o L : Int) else -1) := Lib.hid rfl
  obtain ⟨q, hq⟩ : ∃ q, progOk L = q := ⟨_, rfl⟩
  have Q := Lib.hid hq
  rw [hq] at MN
  clear hq
  go_wp2_with fail
  refine (implProgMany _ L o e _ S1.out E1.out).mono ?_
  rintro en w2 ⟨rfl, hg⟩
  have G2 := Lib.hid hg
  clear hg
  obtain ⟨an, han⟩ : ∃ an, manyN L o = an := ⟨_, rfl⟩
  have AN := Lib.hid han
  rw [han] at MN ⊢
  clear han
  go_wp2_with fail
  refine (specProgMany _ L o _ (S1.out.grown G2.out)).mono ?_
  rintro en w3 ⟨rfl, hg⟩
  have G3 := Lib.hid (grown_trans G2.out hg)
  clear hg
  rw [AN.out]
  have e1 : (an != an) = false := by simp
  have e2 : (an == an) = true := by simp
  cases q with
  | false =>
    obtain rfl : an = -1 := MN.out
    go_wp2_with fail
    refine (specProgMany _ L o _ (S1.out.grown G3.out)).mono ?_
    rintro en w4 ⟨rfl, hg⟩
    have G4 := Lib.hid (grown_trans G3.out hg)
    clear hg
    rw [AN.out]
    go_wp2_with fail
    go_ret
    exact ⟨rfl, B1.out.trans (below_grown G4.out |>.mono B1.out.size)⟩
  | true =>
    have AS : Hid (an = (manyS o L : Int)) := Lib.hid MN.out
    have an0 : ¬ an < 0 := by have := AS.out; omega
    have OKS := Lib.hid (progOk_out Q.out).2
    have M1 : Hid (manyN L 1 = (manyS 1 L : Int)) := Lib.hid (by unfold manyN; rw [Q.out]; rfl)
    have M2 : Hid (manyN L 2 = (manyS 2 L : Int)) := Lib.hid (by unfold manyN; rw [Q.out]; rfl)
    have M3 : Hid (manyN L 3 = (manyS 3 L : Int)) := Lib.hid (by unfold manyN; rw [Q.out]; rfl)
    have MA : Hid ((manyS 1 L : Int) + manyS 2 L + manyS 3 L = (n : Int)) := Lib.hid (by have := many_all OKS.out; rw [← N.out] at this; omega)
    clear MN
    go_wp2_with fail
    go_loopw [6, 7] (fun c i wr => ∃ m : Nat, m ≤ n ∧ i = .int .i64 m ∧ c = .int .i64 (manyS o (L.take m) : Nat) ∧ w1.grownBy wr none) (fun _ i _ => n - (intOf i).toNat)
    case atStart => exact ⟨0, by omega, rfl, rfl, G3.out⟩
    case round =>
      obtain ⟨m, hm, rfl, rfl, hg⟩ := hrel
      have G4 := Lib.hid hg
      clear hg G3
      by_cases hlt : m < n
      · have hlt' : (m : Int) < (n : Int) := by omega
        have hmL : m < L.length := by rw [← N.out]; exact hlt
        obtain ⟨b, of, rfl, c0, c1, c2⟩ := cells3 (R1.out.grown G4.out) hmL
        have MX := Lib.hid (many_next (o := o) hmL)
        have ML := manyS_le o (L.take m)
        rw [List.length_take] at ML
        generalize hs : L.getD m szero = s at *
        clear hs
        obtain ⟨p, x, y⟩ := s
        have c0' : wr.cell? ⟨b, of + m * 3, none⟩ = some (.int .i64 p) := c0
        clear c0 c1 c2
        generalize hk : manyS o (L.take m) = k at *
        clear hk
        by_cases ho : p = o
        · have MX' : Hid (manyS o (L.take (m + 1)) = k + 1) := Lib.hid (by rw [MX.out, if_pos ho])
          subst ho
          clear MX
          go_wp2_with fail
          go_roundw
          case rel => exact ⟨m + 1, by omega, by go_num, by rw [MX'.out]; go_num, G4.out⟩
          case measure => simp [intOf]; omega
        · have MX' : Hid (manyS o (L.take (m + 1)) = k) := Lib.hid (by rw [MX.out, if_neg ho]; rfl)
          have d0 : (p == o) = false := by rw [beq_eq_false_iff_ne]; exact ho
          clear MX ho
          go_wp2_with fail
          go_roundw
          case rel => exact ⟨m + 1, by omega, by go_num, by rw [MX'.out], G4.out⟩
          case measure => simp [intOf]; omega
      · obtain rfl : m = n := by omega
        have TA : Hid (L.take m = L) := Lib.hid (by rw [N.out]; exact List.take_length)
        have AM : Hid ((manyS o (L.take m) : Int) = an) := Lib.hid (by rw [TA.out]; exact AS.out.symm)
        obtain ⟨mk, hmk⟩ : ∃ mk, (manyS o (L.take m) : Int) = mk := ⟨_, rfl⟩
        rw [hmk] at AM ⊢
        obtain rfl : mk = an := AM.out
        clear hmk AM TA
        go_wp2_with fail
        refine (implProgMany _ L 1 e _ (S1.out.grown G4.out) (E1.out.grown G4.out)).mono ?_
        rintro en w5 ⟨rfl, hg⟩
        have G5 := Lib.hid (grown_trans G4.out hg)
        clear hg
        rw [M1.out]
        obtain ⟨k1, hk1⟩ : ∃ k : Nat, manyS 1 L = k := ⟨_, rfl⟩
        obtain ⟨k2, hk2⟩ : ∃ k : Nat, manyS 2 L = k := ⟨_, rfl⟩
        obtain ⟨k3, hk3⟩ : ∃ k : Nat, manyS 3 L = k := ⟨_, rfl⟩
        have l1 := manyS_le 1 L
        have l2 := manyS_le 2 L
        have l3 := manyS_le 3 L
        rw [← N.out] at l1 l2 l3
        rw [hk1] at MA l1 M1 ⊢
        rw [hk2] at MA l2 M2
        rw [hk3] at MA l3 M3
        have b1 : (k1 : Int) ≤ 12 := by omega
        have b2 : (k2 : Int) ≤ 12 := by omega
        have b3 : (k3 : Int) ≤ 12 := by omega
        clear hk1 hk2 hk3 l1 l2 l3
        go_wp2_with fail
        refine (implProgMany _ L 2 e _ (S1.out.grown G5.out) (E1.out.grown G5.out)).mono ?_
        rintro en w6 ⟨rfl, hg⟩
        have G6 := Lib.hid (grown_trans G5.out hg)
        clear hg
        rw [M2.out]
        go_wp2_with fail
        refine (implProgMany _ L 3 e _ (S1.out.grown G6.out) (E1.out.grown G6.out)).mono ?_
        rintro en w7 ⟨rfl, hg⟩
        have G7 := Lib.hid (grown_trans G6.out hg)
        clear hg
        rw [M3.out]
        have eq : ((k1 : Int) + k2 + k3 == (m : Int)) = true := by rw [beq_iff_eq]; exact MA.out
        go_wp2_with fail
        go_ret
        exact ⟨rfl, B1.out.trans (below_grown G7.out |>.mono B1.out.size)⟩

set_option maxRecDepth 100000 in
theorem lifted (os : Os) (started : os.Started) (H : Type) (enc : TypeId × Value → H) :
    ReturnsInHanded {} Tryd.checked os 7 .any (fun w args => (Rows.fnProgManySpec.pre enc Tryd.prog Tryd.f7 [] false w args ∧ laidMetH Tryd.prog laidE w) ∧ sizedMet enc Tryd.prog Tryd.f7 (OpenSpec.ofChange Rows.fnProgManySpec) false w args) (Rows.fnProgManySpec.post enc Tryd.prog Tryd.f7 false true false false) := by
  refine returnsInHanded_of_change_and (C := Tryd.checked) (X := fun w _ => laidMetH Tryd.prog laidE w) (fun _ _ _ hh h => h.of_heap hh) own started (by kernel_rfl) Tryd.func7
    (ChangeSpec.witness_at (enc := enc) (C := Tryd.checked) (os := os) (X := fun w _ => laidMetH Tryd.prog laidE w) false (laidWorld os) #[.slice none 0 0] 8 rfl (by kernel_rfl) (by kernel_rfl) (by kernel_rfl) (by kernel_rfl) (by kernel_rfl) (laidWorld_met os _)) ?_
  intro W base args ds gs before hval0 hW _ _ hL _
  have hval : ∀ (j : Nat) t v, Tryd.f7.params[j]? = some t → args[j]? = some v → Value.okWide Tryd.prog W .any base t v := hval0
  have hW' := hW
  obtain ⟨p, q, hA0, hV0, rfl, hfz, hnd⟩ := hW
  have hA : DataW.TrodAll enc Tryd.prog W 0 (fun _ => true) true Tryd.f7.params.toList args.toList ds p := hA0
  have hV : DataW.TrodVars enc Tryd.prog W (fun _ => true) ["loop.example/keelson/impl.errStep"] gs q := hV0
  rw [Tryd.params7] at hA hval
  obtain ⟨v0, vs0, d0, ds0, p0, q0, hargs, rfl, rfl, h0, r0⟩ := trodAll_cons hA
  obtain ⟨rfl, rfl, rfl⟩ := trodAll_nil r0
  obtain rfl : args = #[v0] := by cases args; simp_all
  obtain ⟨ea, hv0, hE⟩ := sent_of_laid hL
  obtain ⟨rfl, rfl⟩ := hV.unique (vars_at enc hv0 _)
  obtain ⟨a0, len0, cap0, rfl⟩ := okWide_slice Tryd.underlying22 (hval 0 22 v0 rfl rfl)
  have k0 := h0
  have lt0 : ∀ x ∈ p0, x.block < W.heap.size := by obtain ⟨m, hm⟩ := k0; exact DataW.trod_lt m _ _ _ hm
  obtain ⟨z0, r0⟩ : ∃ zs : List Int, (a0 = none ∧ len0 = 0 ∧ cap0 = 0 ∧ zs = []) ∨ ∃ x, a0 = some x ∧ len0 ≤ cap0 ∧ cap0 ≤ maxLen ∧ zs.length = cap0 ∧ (∀ i, i < zs.length → W.cell? (x.add i) = some (.int .u8 (zs.getD i 0))) ∧ ∀ n ∈ zs, (Lit.int .u8 n).wf = true := by
    obtain ⟨fuel, hf⟩ := h0
    rcases open_ints Tryd.underlying22 Tryd.underlying5 (by kernel_rfl) hf with ⟨hcs, _⟩ | ⟨x, l, c, zs, hcs, _, hl, hm, hz, _, hcell, hwz⟩
    · simp [Value.cells] at hcs
      obtain ⟨rfl, rfl, rfl⟩ := hcs
      exact ⟨[], .inl ⟨rfl, rfl, rfl, rfl⟩⟩
    · simp [Value.cells] at hcs
      obtain ⟨rfl, rfl, rfl⟩ := hcs
      exact ⟨zs, .inr ⟨_, rfl, hl, hm, by simpa using hz, hcell, hwz⟩⟩
  have w0 : Code W a0 len0 cap0 := code_of r0
  clear hA0 hV0 hval0
  refine (walk a0 len0 cap0 ea W w0 hE).mono fun e W' ⟨he, bel⟩ => ?_
  subst he
  exact ⟨_, rfl, _, _, _, [], _, _, hW', trodAll_mk1 (shut_bool Tryd.underlying4 _), (trodAll_cons_mk (Below.trod laidOut (by kernel_rfl) (of_decide_eq_true (by kernel_rfl)) k0 bel lt0) trodAll_mk0), vars_at enc (var?_below bel gE hE.pos hv0) _, bel.frame _, fun h => by cases h⟩

theorem over : Rows.fnProgManyRow.holds Tryd.pinned (OpenSpec.ofChange Rows.fnProgManySpec) :=
  OpenClaim.holds_of_wide 7 Tryd.f7 rfl rfl rfl rfl rfl rfl rfl ⟨rfl, rfl, rfl, rfl, rfl⟩ rfl rfl rfl rfl rfl (by kernel_rfl) Tryd.func7 (by kernel_rfl)
    (of_decide_eq_true (by kernel_rfl)) (by unfold Func.isWrapper; first | (rw [if_pos (by decide +kernel)]; kernel_rfl) | (rw [if_neg (by decide +kernel)]; exact ⟨rfl, rfl⟩))
    (fun os started H enc _ => lifted os started H enc)

theorem proved : Rows.FnProgManyCardSaid :=
  Claim7.holds_tied_plain_at .later [] [.sentinel] true (true, "706dffdecc08ed9b7991ed61352c643fc6ee35febc91e6b83dd0a73f61ed275b") true
    over (fun _ h => by cases h) (by kernel_rfl) (fun _ h => by cases h) fnProgMany_row_tie rfl ⟨rfl, rfl⟩ (by kernel_rfl) rfl
    (fun f fn hf hfn => by
      obtain rfl : f = 7 := Option.some.inj ((show Tryd.prog.funcNamed "loop.example/keelson/laws.FnProgMany" = some 7 by kernel_rfl).symm.trans hf) |>.symm
      obtain rfl : fn = Tryd.f7 := (Option.some.inj (Tryd.func7.symm.trans hfn)).symm
      exact ⟨by kernel_rfl, fun j t ht => by
        rw [Tryd.params7] at ht
        rcases j with _ | j
        · obtain rfl : t = 22 := by simpa using ht.symm
          exact (show Tryd.prog.wantsStandIn 22 = false by kernel_rfl)
        · simp at ht⟩)
    (by kernel_rfl)
#print axioms proved
end Go.Proofs.YtlehcpcejkpbmaaDoor.fnProgMany
