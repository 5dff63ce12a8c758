/-
  From whatever bytes a plan is drawn, ProgOf answers as its model does, and the program makes of eight numbers what the plan makes of them: the law FnProgOf returns true.
  Conditions: none.
-/
import Derived.Test.YtlehcpcejkpbmaaDoorCards
import Derived.Test.YtlehcpcejkpbmaaDoorTie
import Derived.WalkKit
import Derived.ProofKit
import Derived.OpenShut
import Derived.ShutString
import Derived.ChangeOld
import Derived.ChangeSame
import Derived.Below
import Derived.JoinedOf
import Derived.Stop.Joined
import Derived.Stop.LaidErr
import Derived.SevenTiedAt
import Derived.Test.YtlehcpcejkpbmaaDoorG1
import Derived.Test.YtlehcpcejkpbmaaDoorAppendZeros
import Derived.Test.YtlehcpcejkpbmaaDoorG2
import Derived.Test.YtlehcpcejkpbmaaDoorSpanSame
import Derived.Test.YtlehcpcejkpbmaaDoorG3
import Derived.Test.YtlehcpcejkpbmaaDoorG4
import Derived.Test.YtlehcpcejkpbmaaDoorPlanMath
import Derived.Test.YtlehcpcejkpbmaaDoorPlanWork
import Derived.Test.YtlehcpcejkpbmaaDoorRound
import Derived.Test.YtlehcpcejkpbmaaDoorChoose
import Derived.Test.YtlehcpcejkpbmaaDoorPlanMake
import Derived.Test.YtlehcpcejkpbmaaDoorChoose2
import Derived.Test.YtlehcpcejkpbmaaDoorPlanFind
import Derived.Test.YtlehcpcejkpbmaaDoorPlanTop
import Derived.Test.YtlehcpcejkpbmaaDoorPlanSpec
import Derived.Test.YtlehcpcejkpbmaaDoorPlanSearch
import Derived.Test.YtlehcpcejkpbmaaDoorPlanSpec2
import Derived.Test.YtlehcpcejkpbmaaDoorPlanNear
import Derived.Test.YtlehcpcejkpbmaaDoorPlanEq
import Derived.Test.YtlehcpcejkpbmaaDoorPlanForm
import Derived.Test.YtlehcpcejkpbmaaDoorPlanComb
import Derived.Test.YtlehcpcejkpbmaaDoorPlanSums
import Derived.Test.YtlehcpcejkpbmaaDoorPlanDoOk
import Derived.Test.YtlehcpcejkpbmaaDoorPlanSpecForm
import Derived.Test.YtlehcpcejkpbmaaDoorPlanSpecDo
import Derived.Test.YtlehcpcejkpbmaaDoorPlanTold
import Derived.Test.YtlehcpcejkpbmaaDoorPlanArg
import Derived.Test.YtlehcpcejkpbmaaDoorDrawPlan
import Derived.Test.YtlehcpcejkpbmaaDoorStepMath
import Derived.Test.YtlehcpcejkpbmaaDoorStepTab
import Derived.Test.YtlehcpcejkpbmaaDoorErrIs
import Derived.Test.YtlehcpcejkpbmaaDoorProgStep
import Derived.Test.YtlehcpcejkpbmaaDoorProgOfP
import Derived.Test.YtlehcpcejkpbmaaDoorProgExec
import Derived.Test.YtlehcpcejkpbmaaDoorProgMath
import Derived.Test.YtlehcpcejkpbmaaDoorProgRunP
import Derived.Test.YtlehcpcejkpbmaaDoorProgComp
import Derived.Test.YtlehcpcejkpbmaaDoorStepHelp
import Derived.Test.YtlehcpcejkpbmaaDoorSpecProg
import Derived.Test.YtlehcpcejkpbmaaDoorDoor
import Derived.Test.YtlehcpcejkpbmaaDoorSpecOf
import Derived.Test.YtlehcpcejkpbmaaDoorDrawProg
import Derived.Test.YtlehcpcejkpbmaaDoorDrawProg2
namespace Go.Proofs.YtlehcpcejkpbmaaDoor.fnProgOf
open Go.ChangeShapes Go.WideShapes Go.ChangeAt Go.RowKit Go.Extern
set_option linter.unusedVariables false

theorem lkVec5 (n : Int) (w : World) (h0 : 0 ≤ n) (h1 : n ≤ 1048600) : Calls Tryd.prog 16 #[.int .i64 n] w (NewInts (Vec.lk n) w) := by
  have q0 : 0 ≤ n * n := Int.mul_nonneg h0 h0
  have q1 : n * n ≤ 1048600 * 1048600 := Int.mul_le_mul h1 h1 h0 (by omega)
  go_enter Tryd.func16, Tryd.ntmps16
  go_wp2_with (go_at_call 29; refine (lkNum _ _ (by omega) (by omega)).mono ?_; rintro e w' ⟨rfl, rfl⟩)
  go_ret
  exact ⟨_, rfl, grown_alloc (World.grownBy.refl _ _) _, Own.made w w.heap.size (Vec.lk n) (Nat.le_refl _) (by simp [Vec.lk, maxLen])⟩

set_option maxHeartbeats 16000000 in
set_option maxRecDepth 20000 in
theorem walk (a0 : Option Addr) (len0 cap0 : Nat) (a1 : Option Addr) (len1 cap1 : Nat) (e : Addr) (w : World) (w0 : Code w a0 len0 cap0) (w1 : Code w a1 len1 cap1) (hE : Sent w e) :
    Calls Tryd.prog 3 #[.slice a0 len0 cap0, .slice a1 len1 cap1] w fun en w' => en = .returned (.bool true) ∧ Below w.heap.size w w' := by
  have hm0 : cap0 ≤ maxLen := w0.2.1
  have hl0 : len0 ≤ cap0 := w0.1
  unfold maxLen at hm0
  have C0 := Lib.hid w0
  have hm1 : cap1 ≤ maxLen := w1.2.1
  have hl1 : len1 ≤ cap1 := w1.1
  unfold maxLen at hm1
  have HE := Lib.hid hE
  have HP := Lib.hid hE.pos
  clear w0 w1 hE
  by_cases hbig0 : (len0 : Int) > 1048576
  · go_enter Tryd.func3, Tryd.ntmps3
    go_wp2_with fail
    go_ret
    exact ⟨rfl, Below.refl _ _⟩
  by_cases hbig1 : (len1 : Int) > 1048576
  · go_enter Tryd.func3, Tryd.ntmps3
    go_wp2_with fail
    go_ret
    exact ⟨rfl, Below.refl _ _⟩
  go_enter Tryd.func3, Tryd.ntmps3
  go_wp2_with fail
  refine (drawProgOf a0 len0 cap0 _ C0.out).mono ?_
  rintro en w1 ⟨d, u, v, l, m, rfl, hu, hv, hb⟩
  obtain ⟨au, cu, eu, u1, u2, hru⟩ := hu
  obtain ⟨av, cv, ev, v1, v2, hrv⟩ := hv
  subst eu ev
  unfold maxLen at u2 v2
  have RM : Hid (Rds w1 av m) := Lib.hid hrv
  have hu' : Sl w1 (.slice au l.length cu) l := ⟨au, cu, rfl, by assumption, by unfold maxLen; exact u2, hru⟩
  have hv' : Sl w1 (.slice av m.length cv) m := ⟨av, cv, rfl, by assumption, by unfold maxLen; exact v2, hrv⟩
  obtain ⟨nl, hnl⟩ : ∃ x, x = l.length := ⟨_, rfl⟩
  obtain ⟨ml, hml⟩ : ∃ x, x = m.length := ⟨_, rfl⟩
  rw [← hnl] at hu' u1 ⊢
  rw [← hml] at hv' v1 ⊢
  have NL := Lib.hid hnl
  have ML := Lib.hid hml
  have ga := World.grownBy_alloc w1 (.cells #[.int .i64 d, .slice au nl cu, .slice av ml cv] 25) none
  have G0 := Lib.hid ga
  have U2 := Lib.hid (hu'.grown ga)
  have V2 := Lib.hid (hv'.grown ga)
  have E2 := Lib.hid ((HE.out.below hb HP.out).grown ga)
  have B2 := Lib.hid (hb.trans (below_grown ga |>.mono hb.size))
  have K2 : Hid (Blk (w1.alloc (.cells #[.int .i64 d, .slice au nl cu, .slice av ml cv] 25)) w1.heap.size 25 [.int .i64 d, .slice au nl cu, .slice av ml cv]) := Lib.hid (heap_alloc_new _ _)
  clear hu' hv' hru hrv hnl hml ga hb C0
  go_upto_region 4 with fail
  generalize w1.alloc (.cells #[.int .i64 d, .slice au nl cu, .slice av ml cv] 25) = w2 at *
  generalize w1.heap.size = bp at *
  have k0 := K2.out.cell (i := 0) rfl
  have k1 := K2.out.cell (i := 1) rfl
  have k2 := K2.out.cell (i := 2) rfl
  go_wp2_with fail
  refine (implProgOf d _ _ l m _ U2.out V2.out).mono ?_
  rintro en w3 ⟨vl, rfl, hg, ho⟩
  have G3 := Lib.hid hg
  have K3 := Lib.hid (K2.out.kept hg (by simp))
  have O3 := Lib.hid ho.sl
  obtain ⟨pa, pc, pe, p1, p2⟩ := ho.form
  subst pe
  unfold maxLen at p2
  have FP := Lib.hid (form_pos (n := d) (l := l) (m := m))
  have PK := Lib.hid (cmp_prog (n := d) (l := l) (m := m))
  have OF : Hid (ofL d l m = bif pForm d l m then cmp l m l.length else []) := Lib.hid rfl
  obtain ⟨LL, hLL⟩ : ∃ x, ofL d l m = x := ⟨_, rfl⟩
  have HLL := Lib.hid hLL
  rw [hLL] at O3 OF p1 ⊢
  obtain ⟨q, hq⟩ : ∃ q, pForm d l m = q := ⟨_, rfl⟩
  have Q := Lib.hid hq
  rw [hq] at FP PK OF ⊢
  clear hg ho hq hLL K2 k0 k1 k2
  have k0 := K3.out.cell (i := 0) rfl
  have k1 := K3.out.cell (i := 1) rfl
  have k2 := K3.out.cell (i := 2) rfl
  go_wp2_with fail
  refine (specProgOf d _ _ l m _ (U2.out.grown G3.out) (V2.out.grown G3.out)).mono ?_
  rintro en w4 ⟨vm, rfl, hg, ho⟩
  have G4 := Lib.hid (grown_trans G3.out hg)
  have O4 := Lib.hid (O3.out.grown hg)
  have K4 := Lib.hid (K3.out.kept hg (by simp))
  obtain ⟨qa, qc, qe, _, _⟩ := ho.form
  subst qe
  rw [HLL.out, Q.out]
  clear hg ho K3 k0 k1 k2 O3
  obtain ⟨n, hn⟩ : ∃ n, n = LL.length := ⟨_, rfl⟩
  have N := Lib.hid hn
  rw [← hn] at O4 p1 ⊢
  clear hn
  have en1 : ((n : Int) != (n : Int)) = false := by simp
  cases q with
  | false =>
    go_wp2_with fail
    go_ret
    exact ⟨rfl, B2.out.trans (below_grown G4.out |>.mono B2.out.size)⟩
  | true =>
    obtain ⟨f0, f4, fm⟩ := FP.out (by first | rfl | trivial)
    have OK : Hid (progOk LL = true) := Lib.hid (by have := PK.out (by first | rfl | trivial); rw [OF.out]; exact this)
    have EL : Hid (LL = cmp l m l.length) := Lib.hid OF.out
    have F0 := Lib.hid f0
    clear FP PK OF f0 f4 fm
    have k0 := K4.out.cell (i := 0) rfl
    have k1 := K4.out.cell (i := 1) rfl
    have k2 := K4.out.cell (i := 2) rfl
    go_wp2_with fail
    refine (lkVec (len1 : Int) _ (by omega) (by omega)).mono ?_
    rintro en w5 ⟨va, rfl, hg, ho⟩
    have G5 := Lib.hid hg
    have A5 := Lib.hid ho
    clear hg ho k0 k1 k2
    go_wp2_with fail
    refine (lkVec5 ((len1 : Int) + 5) _ (by omega) (by omega)).mono ?_
    rintro en w6 ⟨vb, rfl, hg, ho⟩
    have G6 := Lib.hid (grown_trans G5.out hg)
    have A6 : Hid (w6.ownsRow w4.heap.size 3 1 va 4 (vals (Vec.lk (len1 : Int)))) := Lib.hid (A5.out.still hg)
    obtain ⟨xb, xc, xe, _, _, xr⟩ := ho.sl
    have xe' : vb = .slice xb 4 xc := xe
    subst xe'
    obtain ⟨bb, bo, rfl, _⟩ := xr.at_ (k := 0) (by show 0 < 4; omega)
    have NW : Hid (∀ j u, (vals (Vec.lk ((len1 : Int) + 5)))[j]? = some u → w6.cell? ((⟨bb, bo, none⟩ : Addr).add j) = some u) := Lib.hid (fun j u hj => by
      have hj4 : j < 4 := by have := (List.getElem?_eq_some_iff.1 hj).1; exact this
      rcases xr with h0 | ⟨b', o', e', hr⟩
      · cases h0
      · injection e' with e'
        injection e' with e1 e2
        subst e1 e2
        rw [Addr.add_lit, hr j (by show j < 4; exact hj4), ← vals_get _ j (by show j < 4; exact hj4)]
        exact hj)
    have sz6 : w4.heap.size ≤ w6.heap.size := G6.out.size
    obtain ⟨i0, hi, hz0, hz1, hz2⟩ := info_parts infoInt
    have I1 := Lib.hid hi
    have I2 := Lib.hid hz0
    have I3 := Lib.hid hz1
    have I4 := Lib.hid hz2
    clear hi hz0 hz1 hz2 hg ho xr xe A5 G5
    go_wp2_with (first
      | (at_builtin; refine wpList_append_own _ rfl _ _ 23 rfl w4.heap.size 3 i0 (.int .i64 0) 1 8 Tryd.underlying23 I1.out I2.out I3.out I4.out rfl (by decide) _ _ _ rfl A6.out ⟨bb, bo, none⟩ 4 xc (vals (Vec.lk ((len1 : Int) + 5))) rfl rfl NW.out (vals_one _) ?c3 ?c4 ?c5 ?_))
    case c3 => unfold maxLen; omega
    case c4 => omega
    case c5 => omega
    intro vo w7 ho hg _
    have G7 : Hid (w4.grownBy w7 none) := Lib.hid (grown_own G6.out hg (fun j hj => (World.ownsRow.lt A6.out j hj).1))
    have X7 : Hid (Sl w7 vo (Vec.lk (len1 : Int) ++ Vec.lk ((len1 : Int) + 5))) := Lib.hid (by
      have : Own w7 w4.heap.size vo (Vec.lk (len1 : Int) ++ Vec.lk ((len1 : Int) + 5)) := own_len (n := 4 + 4) (by simpa [vals] using ho) rfl
      exact this.sl)
    have O7 := Lib.hid (O4.out.grown G7.out)
    have E7 := Lib.hid (E2.out.grown (grown_trans G4.out G7.out))
    have K7 := Lib.hid (K4.out.kept G7.out (by simp))
    have U7 := Lib.hid (U2.out.grown (grown_trans G4.out G7.out))
    have V7 := Lib.hid (V2.out.grown (grown_trans G4.out G7.out))
    have B7 := Lib.hid (B2.out.trans (below_grown (grown_trans G4.out G7.out) |>.mono B2.out.size))
    have SH : Hid (shOk (Vec.lk (len1 : Int) ++ Vec.lk ((len1 : Int) + 5)) = true) := Lib.hid (shOk_get (by rfl) (fun i hi => by
      rcases (by omega : i = 0 ∨ i = 1 ∨ i = 2 ∨ i = 3 ∨ i = 4 ∨ i = 5 ∨ i = 6 ∨ i = 7) with rfl | rfl | rfl | rfl | rfl | rfl | rfl | rfl <;> exact Vec.mod_is _))
    generalize Vec.lk (len1 : Int) ++ Vec.lk ((len1 : Int) + 5) = sv at *
    have RP : Hid (runP LL sv = true) := Lib.hid (by unfold runP; rw [OK.out, SH.out]; rfl)
    have DP : Hid (doP d l m sv = true) := Lib.hid (by unfold doP; rw [Q.out, SH.out]; rfl)
    have EQ : Hid (runN LL sv = doN d l m sv) := Lib.hid (by
      unfold runN doN
      rw [RP.out, DP.out]
      show runV sv LL = dsum sv l m l.length
      rw [EL.out]
      exact cmp_run (sh_each SH.out) l m _ F0.out)
    obtain ⟨xa, xc', xe, _, _, _⟩ := X7.out
    have X8 := Lib.hid X7.out
    obtain ⟨ns, hns⟩ : ∃ n, n = sv.length := ⟨_, rfl⟩
    rw [← hns] at xe
    subst xe
    clear hns X7 ho hg NW A6 G6 I1 I2 I3 I4 K4 B2
    go_wp2_with fail
    refine (implProgRun _ _ LL sv e _ O7.out X8.out E7.out).mono ?_
    rintro en w8 ⟨rfl, hg⟩
    have G8 := Lib.hid hg
    have K8 := Lib.hid (K7.out.kept hg (by simp))
    clear hg
    rw [RP.out]
    obtain ⟨an, han⟩ : ∃ an, runN LL sv = an := ⟨_, rfl⟩
    rw [han] at EQ ⊢
    clear han
    have k0 := K8.out.cell (i := 0) rfl
    have k1 := K8.out.cell (i := 1) rfl
    have k2 := K8.out.cell (i := 2) rfl
    go_wp2_with fail
    refine (implPlanDo d _ _ _ l m sv _ (U7.out.grown G8.out) (V7.out.grown G8.out) (X8.out.grown G8.out)).mono ?_
    rintro en w9 ⟨rfl, hg⟩
    have G9 := Lib.hid (grown_trans G8.out hg)
    clear hg k0 k1 k2
    rw [DP.out, ← EQ.out]
    go_wp2_with fail
    refine (implProgOk _ LL e _ (O7.out.grown G9.out) (E7.out.grown G9.out)).mono ?_
    rintro en w10 ⟨rfl, hg⟩
    have G10 := Lib.hid (grown_trans G9.out hg)
    clear hg
    rw [OK.out]
    have qq : (an == an) = true := by simp
    go_wp2_with fail
    go_ret
    exact ⟨rfl, B7.out.trans (below_grown G10.out |>.mono B7.out.size)⟩

set_option maxRecDepth 100000 in
theorem lifted (os : Os) (started : os.Started) (H : Type) (enc : TypeId × Value → H) :
    ReturnsInHanded {} Tryd.checked os 3 .any (fun w args => (Rows.fnProgOfSpec.pre enc Tryd.prog Tryd.f3 [] false w args ∧ laidMetH Tryd.prog laidE w) ∧ sizedMet enc Tryd.prog Tryd.f3 (OpenSpec.ofChange Rows.fnProgOfSpec) false w args) (Rows.fnProgOfSpec.post enc Tryd.prog Tryd.f3 false true false false) := by
  refine returnsInHanded_of_change_and (C := Tryd.checked) (X := fun w _ => laidMetH Tryd.prog laidE w) (fun _ _ _ hh h => h.of_heap hh) own started (by kernel_rfl) Tryd.func3
    (ChangeSpec.witness_at (enc := enc) (C := Tryd.checked) (os := os) (X := fun w _ => laidMetH Tryd.prog laidE w) false (laidWorld os) #[.slice none 0 0, .slice none 0 0] 8 rfl (by kernel_rfl) (by kernel_rfl) (by kernel_rfl) (by kernel_rfl) (by kernel_rfl) (laidWorld_met os _)) ?_
  intro W base args ds gs before hval0 hW _ _ hL _
  have hval : ∀ (j : Nat) t v, Tryd.f3.params[j]? = some t → args[j]? = some v → Value.okWide Tryd.prog W .any base t v := hval0
  have hW' := hW
  obtain ⟨p, q, hA0, hV0, rfl, hfz, hnd⟩ := hW
  have hA : DataW.TrodAll enc Tryd.prog W 0 (fun _ => true) true Tryd.f3.params.toList args.toList ds p := hA0
  have hV : DataW.TrodVars enc Tryd.prog W (fun _ => true) ["loop.example/keelson/impl.errStep"] gs q := hV0
  rw [Tryd.params3] at hA hval
  obtain ⟨v0, vs0, d0, ds0, p0, q0, hargs, rfl, rfl, h0, r0⟩ := trodAll_cons hA
  obtain ⟨v1, vs1, d1, ds1, p1, q1, rfl, rfl, rfl, h1, r1⟩ := trodAll_cons r0
  obtain ⟨rfl, rfl, rfl⟩ := trodAll_nil r1
  obtain rfl : args = #[v0, v1] := by cases args; simp_all
  obtain ⟨ea, hv0, hE⟩ := sent_of_laid hL
  obtain ⟨rfl, rfl⟩ := hV.unique (vars_at enc hv0 _)
  obtain ⟨a0, len0, cap0, rfl⟩ := okWide_slice Tryd.underlying22 (hval 0 22 v0 rfl rfl)
  have k0 := h0
  have lt0 : ∀ x ∈ p0, x.block < W.heap.size := by obtain ⟨m, hm⟩ := k0; exact DataW.trod_lt m _ _ _ hm
  obtain ⟨z0, r0⟩ : ∃ zs : List Int, (a0 = none ∧ len0 = 0 ∧ cap0 = 0 ∧ zs = []) ∨ ∃ x, a0 = some x ∧ len0 ≤ cap0 ∧ cap0 ≤ maxLen ∧ zs.length = cap0 ∧ (∀ i, i < zs.length → W.cell? (x.add i) = some (.int .u8 (zs.getD i 0))) ∧ ∀ n ∈ zs, (Lit.int .u8 n).wf = true := by
    obtain ⟨fuel, hf⟩ := h0
    rcases open_ints Tryd.underlying22 Tryd.underlying5 (by kernel_rfl) hf with ⟨hcs, _⟩ | ⟨x, l, c, zs, hcs, _, hl, hm, hz, _, hcell, hwz⟩
    · simp [Value.cells] at hcs
      obtain ⟨rfl, rfl, rfl⟩ := hcs
      exact ⟨[], .inl ⟨rfl, rfl, rfl, rfl⟩⟩
    · simp [Value.cells] at hcs
      obtain ⟨rfl, rfl, rfl⟩ := hcs
      exact ⟨zs, .inr ⟨_, rfl, hl, hm, by simpa using hz, hcell, hwz⟩⟩
  have w0 : Code W a0 len0 cap0 := code_of r0
  obtain ⟨a1, len1, cap1, rfl⟩ := okWide_slice Tryd.underlying22 (hval 1 22 v1 rfl rfl)
  have k1 := h1
  have lt1 : ∀ x ∈ p1, x.block < W.heap.size := by obtain ⟨m, hm⟩ := k1; exact DataW.trod_lt m _ _ _ hm
  obtain ⟨z1, r1⟩ : ∃ zs : List Int, (a1 = none ∧ len1 = 0 ∧ cap1 = 0 ∧ zs = []) ∨ ∃ x, a1 = some x ∧ len1 ≤ cap1 ∧ cap1 ≤ maxLen ∧ zs.length = cap1 ∧ (∀ i, i < zs.length → W.cell? (x.add i) = some (.int .u8 (zs.getD i 0))) ∧ ∀ n ∈ zs, (Lit.int .u8 n).wf = true := by
    obtain ⟨fuel, hf⟩ := h1
    rcases open_ints Tryd.underlying22 Tryd.underlying5 (by kernel_rfl) hf with ⟨hcs, _⟩ | ⟨x, l, c, zs, hcs, _, hl, hm, hz, _, hcell, hwz⟩
    · simp [Value.cells] at hcs
      obtain ⟨rfl, rfl, rfl⟩ := hcs
      exact ⟨[], .inl ⟨rfl, rfl, rfl, rfl⟩⟩
    · simp [Value.cells] at hcs
      obtain ⟨rfl, rfl, rfl⟩ := hcs
      exact ⟨zs, .inr ⟨_, rfl, hl, hm, by simpa using hz, hcell, hwz⟩⟩
  have w1 : Code W a1 len1 cap1 := code_of r1
  clear hA0 hV0 hval0
  refine (walk a0 len0 cap0 a1 len1 cap1 ea W w0 w1 hE).mono fun e W' ⟨he, bel⟩ => ?_
  subst he
  exact ⟨_, rfl, _, _, _, [], _, _, hW', trodAll_mk1 (shut_bool Tryd.underlying4 _), (trodAll_cons_mk (Below.trod laidOut (by kernel_rfl) (of_decide_eq_true (by kernel_rfl)) k0 bel lt0) (trodAll_cons_mk (Below.trod laidOut (by kernel_rfl) (of_decide_eq_true (by kernel_rfl)) k1 bel lt1) trodAll_mk0)), vars_at enc (var?_below bel gE hE.pos hv0) _, bel.frame _, fun h => by cases h⟩

theorem over : Rows.fnProgOfRow.holds Tryd.pinned (OpenSpec.ofChange Rows.fnProgOfSpec) :=
  OpenClaim.holds_of_wide 3 Tryd.f3 rfl rfl rfl rfl rfl rfl rfl ⟨rfl, rfl, rfl, rfl, rfl⟩ rfl rfl rfl rfl rfl (by kernel_rfl) Tryd.func3 (by kernel_rfl)
    (of_decide_eq_true (by kernel_rfl)) (by unfold Func.isWrapper; first | (rw [if_pos (by decide +kernel)]; kernel_rfl) | (rw [if_neg (by decide +kernel)]; exact ⟨rfl, rfl⟩))
    (fun os started H enc _ => lifted os started H enc)

theorem proved : Rows.FnProgOfCardSaid :=
  Claim7.holds_tied_plain_at .later [] [.sentinel] true (true, "706dffdecc08ed9b7991ed61352c643fc6ee35febc91e6b83dd0a73f61ed275b") true
    over (fun _ h => by cases h) (by kernel_rfl) (fun _ h => by cases h) fnProgOf_row_tie rfl ⟨rfl, rfl⟩ (by kernel_rfl) rfl
    (fun f fn hf hfn => by
      obtain rfl : f = 3 := Option.some.inj ((show Tryd.prog.funcNamed "loop.example/keelson/laws.FnProgOf" = some 3 by kernel_rfl).symm.trans hf) |>.symm
      obtain rfl : fn = Tryd.f3 := (Option.some.inj (Tryd.func3.symm.trans hfn)).symm
      exact ⟨by kernel_rfl, fun j t ht => by
        rw [Tryd.params3] at ht
        rcases j with _ | _ | j
        · obtain rfl : t = 22 := by simpa using ht.symm
          exact (show Tryd.prog.wantsStandIn 22 = false by kernel_rfl)
        · obtain rfl : t = 22 := by simpa using ht.symm
          exact (show Tryd.prog.wantsStandIn 22 = false by kernel_rfl)
        · simp at ht⟩)
    (by kernel_rfl)
#print axioms proved
end Go.Proofs.YtlehcpcejkpbmaaDoor.fnProgOf
