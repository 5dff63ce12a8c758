/-
  For whatever plan of at most 2^20 numbers ProgOf answers as its model does, changes nothing, and its answer owns its memory: the law FnExactProgOf returns true.
  Conditions: none.
-/
import Derived.Test.YtlehcpcejkpbmaaRows
import Derived.WalkKit
import Derived.ProofKit
import Derived.OpenShut
import Derived.ShutString
import Derived.ChangeOld
import Derived.Below
import Derived.Test.YtlehcpcejkpbmaaG1
import Derived.Test.YtlehcpcejkpbmaaAppendZeros
import Derived.Test.YtlehcpcejkpbmaaG2
import Derived.Test.YtlehcpcejkpbmaaG3
import Derived.Test.YtlehcpcejkpbmaaG4
import Derived.Test.YtlehcpcejkpbmaaPlanMath
import Derived.Test.YtlehcpcejkpbmaaPlanWork
import Derived.Test.YtlehcpcejkpbmaaRound
import Derived.Test.YtlehcpcejkpbmaaChoose
import Derived.Test.YtlehcpcejkpbmaaPlanMake
import Derived.Test.YtlehcpcejkpbmaaChoose2
import Derived.Test.YtlehcpcejkpbmaaPlanFind
import Derived.Test.YtlehcpcejkpbmaaPlanTop
import Derived.Test.YtlehcpcejkpbmaaPlanSpec
import Derived.Test.YtlehcpcejkpbmaaPlanSearch
import Derived.Test.YtlehcpcejkpbmaaPlanSpec2
import Derived.Test.YtlehcpcejkpbmaaPlanNear
import Derived.Test.YtlehcpcejkpbmaaPlanEq
import Derived.Test.YtlehcpcejkpbmaaPlanForm
import Derived.Test.YtlehcpcejkpbmaaPlanComb
import Derived.Test.YtlehcpcejkpbmaaPlanSums
import Derived.Test.YtlehcpcejkpbmaaSpanSame
import Derived.Test.YtlehcpcejkpbmaaPlanDoOk
import Derived.Test.YtlehcpcejkpbmaaPlanSpecForm
import Derived.Test.YtlehcpcejkpbmaaPlanSpecDo
import Derived.Test.YtlehcpcejkpbmaaPlanTold
import Derived.Test.YtlehcpcejkpbmaaPlanArg
import Derived.Test.YtlehcpcejkpbmaaStepMath
import Derived.Test.YtlehcpcejkpbmaaStepTab
import Derived.Test.YtlehcpcejkpbmaaProgMath
import Derived.Test.YtlehcpcejkpbmaaProgComp
import Derived.Test.YtlehcpcejkpbmaaStepHelp
import Derived.Test.YtlehcpcejkpbmaaStepMark
import Derived.Test.YtlehcpcejkpbmaaSpecOf
namespace Go.Proofs.Ytlehcpcejkpbmaa.fnExactProgOf
open Go.ChangeShapes Go.WideShapes Go.ChangeAt Go.RowKit
set_option linter.unusedVariables false

theorem own : ownKnob Try.prog.godebug = none := by kernel_rfl
theorem laidOut : laidOutB Try.prog = true := by kernel_rfl

theorem ofL_len (n : Int) (l m : List Int) : (ofL n l m).length ≤ 16 := by
  unfold ofL
  cases h : pForm n l m with
  | true => exact (progOk_out (cmp_prog h)).1.2
  | false => simp

set_option maxHeartbeats 8000000 in
set_option maxRecDepth 20000 in
theorem walk (n0 : Int) (x0 y0 : Value) (l0 m0 : List Int) (w : World) (wx0 : Sl w x0 l0) (wy0 : Sl w y0 m0) :
    Calls Try.prog 3 #[.agg #[.int .i64 n0, x0, y0]] w fun e w' => e = .returned (.bool true) ∧ Below w.heap.size w w' := by
  have U := Lib.hid wx0
  have V := Lib.hid wy0
  obtain ⟨b1, c1', e1, _, _, _⟩ := wx0
  obtain ⟨b2, c2', e2, _, _, _⟩ := wy0
  subst e1 e2
  have OL := Lib.hid (ofL_len n0 l0 m0)
  obtain ⟨LL, hLL⟩ : ∃ x, ofL n0 l0 m0 = x := ⟨_, rfl⟩
  obtain ⟨rb, hrb⟩ : ∃ x, pForm n0 l0 m0 = x := ⟨_, rfl⟩
  rw [hLL] at OL
  have EL := Lib.hid hLL
  have EB := Lib.hid hrb
  clear hLL hrb
  obtain ⟨n, hn⟩ : ∃ x, x = LL.length := ⟨_, rfl⟩
  rw [← hn] at OL
  have N := Lib.hid hn
  have hn16 : n ≤ 16 := OL.out
  obtain ⟨nl, hnl⟩ : ∃ x, x = l0.length := ⟨_, rfl⟩
  obtain ⟨ml, hml⟩ : ∃ x, x = m0.length := ⟨_, rfl⟩
  rw [← hnl] at U ⊢
  rw [← hml] at V ⊢
  have NL := Lib.hid hnl
  have ML := Lib.hid hml
  clear hnl hml hn OL
  have hbb : (rb != rb) = false := by cases rb <;> rfl
  have K0 : Hid (Blk (w.alloc (.cells #[.int .i64 n0, .slice b1 nl c1', .slice b2 ml c2'] 24)) w.heap.size 24 [.int .i64 n0, .slice b1 nl c1', .slice b2 ml c2']) := Lib.hid (heap_alloc_new _ _)
  have G0 := Lib.hid (grown_alloc (World.grownBy.refl w none) (.cells #[.int .i64 n0, .slice b1 nl c1', .slice b2 ml c2'] 24))
  go_enter Try.func3, Try.ntmps3
  go_upto_region 2 with fail
  generalize w.alloc (.cells #[.int .i64 n0, .slice b1 nl c1', .slice b2 ml c2'] 24) = w0 at *
  obtain ⟨bp, hbp⟩ : ∃ x, x = w.heap.size := ⟨_, rfl⟩
  rw [← hbp] at K0 ⊢
  have BP := Lib.hid hbp
  clear hbp
  have k0 := K0.out.cell (i := 0) rfl
  have k1 := K0.out.cell (i := 1) rfl
  have k2 := K0.out.cell (i := 2) rfl
  go_wp2_with fail
  refine (szPlan n0 _ _ l0 m0 _ (U.out.grown G0.out) (V.out.grown G0.out)).mono ?_
  rintro e w1 ⟨⟨q, rfl, hq⟩, hg⟩
  have G1 := Lib.hid (grown_trans G0.out hg)
  have K1 := Lib.hid (K0.out.kept hg (by simp))
  clear hg G0 K0 k0 k1 k2
  by_cases hq0 : q < 0
  · clear hq
    go_wp2_with fail
    go_ret
    exact ⟨rfl, below_grown G1.out⟩
  have hl : l0.length ≤ 1048576 ∧ m0.length ≤ 1048576 := by
    rcases hq with h | h
    · exact absurd h hq0
    · exact ⟨h.2.1, h.2.2⟩
  clear hq
  have k0 := K1.out.cell (i := 0) rfl
  have k1 := K1.out.cell (i := 1) rfl
  have k2 := K1.out.cell (i := 2) rfl
  go_wp2_with fail
  refine (toPlan n0 _ _ l0 m0 _ (U.out.grown G1.out) (V.out.grown G1.out) hl.1 hl.2).mono ?_
  rintro e w2 ⟨x, y, rfl, hg, ht⟩
  have G2 := Lib.hid (grown_trans G1.out hg)
  have K2 := Lib.hid (K1.out.kept hg (by simp))
  have T2 := Lib.hid ht
  clear hg ht G1 K1 k0 k1 k2
  go_wp2_with fail
  refine (specProgOf n0 x y l0 m0 _ T2.out.1.sl T2.out.2.1.sl).mono ?_
  rintro e w3 ⟨v, rfl, hg, ho⟩
  rw [EL.out] at ho
  rw [EB.out]
  have G3 := Lib.hid (grown_trans G2.out hg)
  have K3 := Lib.hid (K2.out.kept hg (by simp))
  have W3 := Lib.hid ho.sl
  have sz3 : w.heap.size ≤ w3.heap.size := G3.out.size
  have bp3 : bp < w3.heap.size := K3.out.lt
  obtain ⟨va, vc, ev, _, _⟩ := ho.form
  rw [← N.out] at ev
  subst ev
  clear hg ho G2 K2 T2
  have k0 := K3.out.cell (i := 0) rfl
  have k1 := K3.out.cell (i := 1) rfl
  have k2 := K3.out.cell (i := 2) rfl
  go_wp2_with fail
  refine (toPlan n0 _ _ l0 m0 _ (U.out.grown G3.out) (V.out.grown G3.out) hl.1 hl.2).mono ?_
  rintro e w4 ⟨x, y, rfl, hg, ht⟩
  obtain ⟨b3, c3, ex, _, _, _⟩ := ht.1.sl
  obtain ⟨b4, c4, ey, _, _, _⟩ := ht.2.1.sl
  rw [← NL.out] at ex
  rw [← ML.out] at ey
  subst ex ey
  have ga := World.grownBy_alloc w4 (.cells #[.int .i64 n0, .slice b3 nl c3, .slice b4 ml c4] 29) none
  have G4 := Lib.hid (grown_alloc (grown_trans G3.out hg) (.cells #[.int .i64 n0, .slice b3 nl c3, .slice b4 ml c4] 29))
  have F4 := Lib.hid (grown_alloc hg (.cells #[.int .i64 n0, .slice b3 nl c3, .slice b4 ml c4] 29))
  have K4 := Lib.hid ((K3.out.kept hg (by simp)).kept ga (by simp))
  have P4 : Hid (Own (w4.alloc (.cells #[.int .i64 n0, .slice b3 nl c3, .slice b4 ml c4] 29)) w3.heap.size (.slice b3 nl c3) l0) := Lib.hid (ht.1.still ga)
  have Q4 : Hid (Own (w4.alloc (.cells #[.int .i64 n0, .slice b3 nl c3, .slice b4 ml c4] 29)) w3.heap.size (.slice b4 ml c4) m0) := Lib.hid (ht.2.1.still ga)
  have NE := Lib.hid ht.2.2
  have sz5 : w3.heap.size ≤ (w4.alloc (.cells #[.int .i64 n0, .slice b3 nl c3, .slice b4 ml c4] 29)).heap.size := F4.out.size
  have J4 : Hid (Blk (w4.alloc (.cells #[.int .i64 n0, .slice b3 nl c3, .slice b4 ml c4] 29)) w4.heap.size 29 [.int .i64 n0, .slice b3 nl c3, .slice b4 ml c4]) := Lib.hid (heap_alloc_new _ _)
  clear hg ht ga G3 K3 k0 k1 k2
  go_upto_region 9 with fail
  generalize w4.alloc (.cells #[.int .i64 n0, .slice b3 nl c3, .slice b4 ml c4] 29) = w5 at *
  generalize w4.heap.size = g5 at *
  have j0 := J4.out.cell (i := 0) rfl
  have j1 := J4.out.cell (i := 1) rfl
  have j2 := J4.out.cell (i := 2) rfl
  go_wp2_with fail
  refine (implProgOf n0 _ _ l0 m0 _ P4.out.sl Q4.out.sl).mono ?_
  rintro e w6 ⟨z, rfl, hg, ho⟩
  rw [EL.out] at ho
  rw [EB.out]
  have PB : Hid (∀ r, (Value.slice b3 nl c3).ownBlock = some r → w3.heap.size ≤ r ∧ r < w5.heap.size) := Lib.hid (fun r hr => World.ownsRow.lt P4.out r hr)
  have QB : Hid (∀ r, (Value.slice b4 ml c4).ownBlock = some r → w3.heap.size ≤ r ∧ r < w5.heap.size) := Lib.hid (fun r hr => World.ownsRow.lt Q4.out r hr)
  have G6 := Lib.hid (grown_trans G4.out hg)
  have F6 := Lib.hid (grown_trans F4.out hg)
  have K6 := Lib.hid (K4.out.kept hg (by simp))
  have J6 := Lib.hid (J4.out.kept hg (by simp))
  have P6 := Lib.hid (P4.out.still hg)
  have Q6 := Lib.hid (Q4.out.still hg)
  have Z6 := Lib.hid ho
  obtain ⟨za, zc, ez, _, _⟩ := ho.form
  rw [← N.out] at ez
  subst ez
  clear hg ho G4 F4 K4 J4 P4 Q4 j0 j1 j2
  go_wp2_with fail
  refine (eqStepS _ _ LL _ Z6.out.sl (W3.out.grown F6.out)).mono ?_
  rintro e w7 ⟨rfl, hg⟩
  have G7 := Lib.hid (grown_trans G6.out hg)
  have F7 := Lib.hid (grown_trans F6.out hg)
  have K7 := Lib.hid (K6.out.kept hg (by simp))
  have J7 := Lib.hid (J6.out.kept hg (by simp))
  have P7 := Lib.hid (P6.out.still hg)
  have Q7 := Lib.hid (Q6.out.still hg)
  have Z7 := Lib.hid (Z6.out.still hg)
  clear hg G6 F6 K6 J6 P6 Q6 Z6
  have k0 : w7.drew.cell? ⟨bp, 0, none⟩ = some (.int .i64 n0) := K7.out.cell (i := 0) rfl
  have k1 : w7.drew.cell? ⟨bp, 1, none⟩ = some (.slice b1 nl c1') := K7.out.cell (i := 1) rfl
  have k2 : w7.drew.cell? ⟨bp, 2, none⟩ = some (.slice b2 ml c2') := K7.out.cell (i := 2) rfl
  have j0 : w7.drew.cell? ⟨g5, 0, none⟩ = some (.int .i64 n0) := J7.out.cell (i := 0) rfl
  have j1 : w7.drew.cell? ⟨g5, 1, none⟩ = some (.slice b3 nl c3) := J7.out.cell (i := 1) rfl
  have j2 : w7.drew.cell? ⟨g5, 2, none⟩ = some (.slice b4 ml c4) := J7.out.cell (i := 2) rfl
  have GD := Lib.hid (grown_drew (World.grownBy.refl w7 none))
  go_upto_region 13 with fail
  go_region_held3 (fun w' => (w'.cell? ⟨bp, 0, none⟩ = some (.int .i64 n0) ∧ w'.cell? ⟨bp, 1, none⟩ = some (.slice b1 nl c1') ∧ w'.cell? ⟨bp, 2, none⟩ = some (.slice b2 ml c2')) ∧ w'.cell? ⟨g5, 0, none⟩ = some (.int .i64 n0) ∧ w'.cell? ⟨g5, 1, none⟩ = some (.slice b3 nl c3) ∧ w'.cell? ⟨g5, 2, none⟩ = some (.slice b4 ml c4))
    (first
      | with_reducible exact ⟨⟨k0, k1, k2⟩, j0, j1, j2⟩
      | with_reducible exact H1.out
      | with_reducible exact H2.out)
    (first
      | (go_at_call 6; refine (toPlan n0 _ _ l0 m0 _ ((U.out.grown G7.out).grown GD.out) ((V.out.grown G7.out).grown GD.out) hl.1 hl.2).mono ?_; rintro e w8 ⟨x, y, rfl, hg1, ht⟩
         have H1 := Lib.hid (And.intro (And.intro (hg1.cell k0 (by simp)) (And.intro (hg1.cell k1 (by simp)) (hg1.cell k2 (by simp)))) (And.intro (hg1.cell j0 (by simp)) (And.intro (hg1.cell j1 (by simp)) (hg1.cell j2 (by simp)))))
         have D1 := Lib.hid hg1
         have T8 := Lib.hid ht
         clear hg1 ht)
      | (go_at_call 9; refine (eqPlanSame n0 _ _ _ _ l0 m0 _ ((P7.out.sl.grown GD.out).grown D1.out) ((Q7.out.sl.grown GD.out).grown D1.out) T8.out.1.sl T8.out.2.1.sl).mono ?_; rintro e w9 ⟨rfl, hg2⟩
         have H2 := Lib.hid (And.intro (And.intro (hg2.cell H1.out.1.1 (by simp)) (And.intro (hg2.cell H1.out.1.2.1 (by simp)) (hg2.cell H1.out.1.2.2 (by simp)))) (And.intro (hg2.cell H1.out.2.1 (by simp)) (And.intro (hg2.cell H1.out.2.2.1 (by simp)) (hg2.cell H1.out.2.2.2 (by simp)))))
         have D2 := Lib.hid hg2
         clear hg2))
  have DD : Hid (w7.grownBy w9 none) := Lib.hid (grown_trans (grown_trans GD.out D1.out) D2.out)
  have G9 := Lib.hid (grown_trans G7.out DD.out)
  have F9 := Lib.hid (grown_trans F7.out DD.out)
  have K9 := Lib.hid (K7.out.kept DD.out (by simp))
  have J9 := Lib.hid (J7.out.kept DD.out (by simp))
  have P9 := Lib.hid (P7.out.still DD.out)
  have Q9 := Lib.hid (Q7.out.still DD.out)
  have Z9 := Lib.hid (Z7.out.still DD.out)
  clear k0 k1 k2 j0 j1 j2 H1 H2 D1 D2 GD DD T8 G7 F7 K7 J7 P7 Q7 Z7
  have j0 := J9.out.cell (i := 0) rfl
  have j1 := J9.out.cell (i := 1) rfl
  have j2 := J9.out.cell (i := 2) rfl
  have FAR : Hid (∀ u : Value, (∀ r, u.ownBlock = some r → w3.heap.size ≤ r ∧ r < w5.heap.size) → ((Value.slice za n zc).ownBlock = none ∨ (Value.slice za n zc).ownBlock ≠ u.ownBlock)) := Lib.hid (fun u hu => by
    cases hz : (Value.slice za n zc).ownBlock with
    | none => exact .inl rfl
    | some r => exact .inr (fun e => by have := (Z9.out.lt r hz).1; have := (hu r e.symm).2; omega))
  have ZB : Hid (∀ r, (Value.slice za n zc).ownBlock = some r → w5.heap.size ≤ r) := Lib.hid (fun r hr => (Z9.out.lt r hr).1)
  go_wp2_with fail
  refine (markPlanBig n0 _ _ l0 m0 1 w3.heap.size _ ⟨P9.out, Q9.out, NE.out⟩ hl.1 hl.2 (by omega) (by omega)).mono ?_
  rintro e w10 ⟨rfl, wa, wb, ha, hb, hc⟩
  have G10 := Lib.hid (grown_own (grown_own (grown_trans G9.out ha) hb (fun r hr => by have := (PB.out r hr).1; omega)) hc (fun r hr => by have := (QB.out r hr).1; omega))
  have F10 := Lib.hid (grown_own (grown_own (grown_trans F9.out ha) hb (fun r hr => (PB.out r hr).1)) hc (fun r hr => (QB.out r hr).1))
  have K10 := Lib.hid (((K9.out.kept ha (by simp)).kept hb (fun e => by have := (PB.out bp e.symm).1; omega)).kept hc (fun e => by have := (QB.out bp e.symm).1; omega))
  have Z10 := Lib.hid (((Z9.out.still ha).kept hb (FAR.out _ PB.out)).kept hc (FAR.out _ QB.out))
  have qn : ¬ (1 + (l0.length : Int) + (m0.length : Int)) < 0 := by omega
  clear ha hb hc G9 F9 K9 J9 P9 Q9 Z9 FAR j0 j1 j2
  go_wp2_with fail
  refine (eqStepS _ _ LL _ Z10.out.sl (W3.out.grown F10.out)).mono ?_
  rintro e w11 ⟨rfl, hg⟩
  have G11 := Lib.hid (grown_trans G10.out hg)
  have F11 := Lib.hid (grown_trans F10.out hg)
  have K11 := Lib.hid (K10.out.kept hg (by simp))
  have Z11 := Lib.hid (Z10.out.still hg)
  clear hg G10 F10 K10 Z10
  go_wp2_with fail
  refine (markStepS _ LL 1 w5.heap.size _ Z11.out (by rw [← N.out]; omega) (by omega) (by omega)).mono ?_
  rintro e w12 ⟨rfl, hg, ho⟩
  rw [← N.out] at ho ⊢
  have G12 := Lib.hid (grown_own G11.out hg (fun r hr => by have := ZB.out r hr; omega))
  have F12 := Lib.hid (grown_own F11.out hg (fun r hr => by have := ZB.out r hr; omega))
  have K12 := Lib.hid (K11.out.kept hg (fun e => by have := ZB.out bp e.symm; omega))
  have S12 := Lib.hid ho.sl
  clear hg ho G11 F11 K11 Z11 qn
  go_wp2_with fail
  refine (heldStepS _ n 1 _ S12.out (by omega) (by omega) (by omega)).mono ?_
  rintro e w' ⟨rfl, rfl⟩
  have qh : ¬ (1 + 3 * (n : Int)) < 0 := by omega
  have qe : (1 + 3 * (n : Int) != 1 + 3 * (n : Int)) = false := by simp
  have k0 := K12.out.cell (i := 0) rfl
  have k1 := K12.out.cell (i := 1) rfl
  have k2 := K12.out.cell (i := 2) rfl
  go_wp2_with fail
  refine (toPlan n0 _ _ l0 m0 _ (U.out.grown G12.out) (V.out.grown G12.out) hl.1 hl.2).mono ?_
  rintro e w13 ⟨x, y, rfl, hg, ht⟩
  have G13 := Lib.hid (grown_trans G12.out hg)
  have F13 := Lib.hid (grown_trans F12.out hg)
  have S13 := Lib.hid (S12.out.grown hg)
  have T13 := Lib.hid ht
  clear hg ht G12 F12 K12 S12 k0 k1 k2
  go_wp2_with fail
  refine (implProgOf n0 x y l0 m0 _ T13.out.1.sl T13.out.2.1.sl).mono ?_
  rintro e w14 ⟨v2, rfl, hg, ho⟩
  rw [EL.out] at ho
  rw [EB.out]
  have G14 := Lib.hid (grown_trans G13.out hg)
  have F14 := Lib.hid (grown_trans F13.out hg)
  have S14 := Lib.hid (S13.out.grown hg)
  have H14 := Lib.hid ho.sl
  obtain ⟨ha, hc, eh, _, _⟩ := ho.form
  rw [← N.out] at eh
  subst eh
  clear hg ho G13 F13 S13 T13
  go_wp2_with fail
  refine (eqStepS _ _ LL _ H14.out (W3.out.grown F14.out)).mono ?_
  rintro e w15 ⟨rfl, hg⟩
  have G15 := Lib.hid (grown_trans G14.out hg)
  have S15 := Lib.hid (S14.out.grown hg)
  clear hg G14 F14 S14 H14
  go_wp2_with fail
  refine (heldStepS _ n 1 _ S15.out (by omega) (by omega) (by omega)).mono ?_
  rintro e w' ⟨rfl, rfl⟩
  go_wp2_with fail
  go_ret
  exact ⟨rfl, below_grown G15.out⟩

set_option maxRecDepth 100000 in
theorem lifted (os : Os) (started : os.Started) (H : Type) (enc : TypeId × Value → H) :
    ReturnsInHanded {} Try.checked os 3 .any (Rows.fnExactProgOfSpec.pre6 enc Try.prog Try.f3 Rows.fnExactProgOfRow.domain false) (Rows.fnExactProgOfSpec.post enc Try.prog Try.f3 false true false false) := by
  refine returnsInHanded_of_change (C := Try.checked) own started (by kernel_rfl) Try.func3
    (ChangeSpec.witness6 (enc := enc) (C := Try.checked) false ⟨#[], #[.agg #[.int .i64 0, .slice none 0 0, .slice none 0 0]], []⟩ 8 (by kernel_rfl) (by kernel_rfl) (by kernel_rfl) (by kernel_rfl)) ?_
  intro W base args ds gs before hval0 hW hcnd _
  have hval : ∀ (j : Nat) t v, Try.f3.params[j]? = some t → args[j]? = some v → Value.okWide Try.prog W .any base t v := hval0
  have hW' := hW
  obtain ⟨p, q, hA0, hV, rfl, hfz, hnd⟩ := hW
  have hA : DataW.TrodAll enc Try.prog W 0 (fun _ => true) true Try.f3.params.toList args.toList ds p := hA0
  rw [Try.params3] at hA hval
  obtain ⟨v0, vs0, d0, ds0, p0, q0, hargs, rfl, rfl, h0, r0⟩ := trodAll_cons hA
  obtain ⟨rfl, rfl, rfl⟩ := trodAll_nil r0
  obtain rfl : args = #[v0] := by cases args; simp_all
  obtain ⟨rfl, rfl⟩ := trodVars_none hV
  have k0 := h0
  have lt0 : ∀ x ∈ p0, x.block < W.heap.size := by obtain ⟨m, hm⟩ := k0; exact DataW.trod_lt m _ _ _ hm
  obtain ⟨n0, x0, y0, l0, m0, rfl, wx0, wy0⟩ := plan_of Try.underlying24 (by kernel_rfl) (by kernel_rfl) Try.underlying3 Try.underlying22 Try.underlying22 Try.underlying3 (by kernel_rfl) (hval 0 24 v0 rfl rfl) h0
  clear hA0 hval0
  refine (walk n0 x0 y0 l0 m0 W wx0 wy0).mono fun e W' ⟨he, bel⟩ => ?_
  subst he
  exact ⟨_, rfl, _, _, _, [], _, [], hW', trodAll_mk1 (shut_bool Try.underlying4 _), (trodAll_cons_mk (Below.trod laidOut (by kernel_rfl) (of_decide_eq_true (by kernel_rfl)) k0 bel lt0) trodAll_mk0), rfl, bel.frame _, fun h => by cases h⟩

theorem over : Rows.fnExactProgOfRow.holds Try.pinned (OpenSpec.ofChange Rows.fnExactProgOfSpec) :=
  OpenClaim.holds_of_wide 3 Try.f3 rfl rfl rfl rfl rfl rfl rfl ⟨rfl, rfl, rfl, rfl, rfl⟩ rfl rfl rfl rfl rfl (by kernel_rfl) Try.func3 (by kernel_rfl)
    (of_decide_eq_true (by kernel_rfl)) (by unfold Func.isWrapper; first | (rw [if_pos (by decide +kernel)]; kernel_rfl) | (rw [if_neg (by decide +kernel)]; exact ⟨rfl, rfl⟩))
    (fun os started H enc _ => lifted os started H enc)

theorem proved : Rows.FnExactProgOfSaid := over
#print axioms proved
end Go.Proofs.Ytlehcpcejkpbmaa.fnExactProgOf
