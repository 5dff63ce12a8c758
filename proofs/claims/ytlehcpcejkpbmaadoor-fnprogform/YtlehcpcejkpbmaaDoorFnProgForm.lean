/-
  From whatever bytes steps are drawn, ProgOk answers as its model does; the first steps of a program are one; a step of its own place, or of no operation, makes it none, and no steps are none: the law FnProgForm returns true.
  Conditions: none.
-/
import Derived.Test.YtlehcpcejkpbmaaDoorCards
import Derived.Test.YtlehcpcejkpbmaaDoorTie
import Derived.WalkKit
import Derived.ProofKit
import Derived.OpenShut
import Derived.ShutString
import Derived.ChangeOld
import Derived.ChangeSame
import Derived.Below
import Derived.JoinedOf
import Derived.Stop.Joined
import Derived.Stop.LaidErr
import Derived.SevenTiedAt
import Derived.Test.YtlehcpcejkpbmaaDoorG1
import Derived.Test.YtlehcpcejkpbmaaDoorAppendZeros
import Derived.Test.YtlehcpcejkpbmaaDoorG2
import Derived.Test.YtlehcpcejkpbmaaDoorSpanSame
import Derived.Test.YtlehcpcejkpbmaaDoorG3
import Derived.Test.YtlehcpcejkpbmaaDoorG4
import Derived.Test.YtlehcpcejkpbmaaDoorPlanMath
import Derived.Test.YtlehcpcejkpbmaaDoorPlanWork
import Derived.Test.YtlehcpcejkpbmaaDoorRound
import Derived.Test.YtlehcpcejkpbmaaDoorChoose
import Derived.Test.YtlehcpcejkpbmaaDoorPlanMake
import Derived.Test.YtlehcpcejkpbmaaDoorChoose2
import Derived.Test.YtlehcpcejkpbmaaDoorPlanFind
import Derived.Test.YtlehcpcejkpbmaaDoorPlanTop
import Derived.Test.YtlehcpcejkpbmaaDoorPlanSpec
import Derived.Test.YtlehcpcejkpbmaaDoorPlanSearch
import Derived.Test.YtlehcpcejkpbmaaDoorPlanSpec2
import Derived.Test.YtlehcpcejkpbmaaDoorPlanNear
import Derived.Test.YtlehcpcejkpbmaaDoorPlanEq
import Derived.Test.YtlehcpcejkpbmaaDoorPlanForm
import Derived.Test.YtlehcpcejkpbmaaDoorPlanComb
import Derived.Test.YtlehcpcejkpbmaaDoorPlanSums
import Derived.Test.YtlehcpcejkpbmaaDoorPlanDoOk
import Derived.Test.YtlehcpcejkpbmaaDoorPlanSpecForm
import Derived.Test.YtlehcpcejkpbmaaDoorPlanSpecDo
import Derived.Test.YtlehcpcejkpbmaaDoorPlanTold
import Derived.Test.YtlehcpcejkpbmaaDoorPlanArg
import Derived.Test.YtlehcpcejkpbmaaDoorDrawPlan
import Derived.Test.YtlehcpcejkpbmaaDoorStepMath
import Derived.Test.YtlehcpcejkpbmaaDoorStepTab
import Derived.Test.YtlehcpcejkpbmaaDoorErrIs
import Derived.Test.YtlehcpcejkpbmaaDoorProgStep
import Derived.Test.YtlehcpcejkpbmaaDoorProgOfP
import Derived.Test.YtlehcpcejkpbmaaDoorProgExec
import Derived.Test.YtlehcpcejkpbmaaDoorProgMath
import Derived.Test.YtlehcpcejkpbmaaDoorProgRunP
import Derived.Test.YtlehcpcejkpbmaaDoorProgComp
import Derived.Test.YtlehcpcejkpbmaaDoorStepHelp
import Derived.Test.YtlehcpcejkpbmaaDoorSpecProg
import Derived.Test.YtlehcpcejkpbmaaDoorDoor
import Derived.Test.YtlehcpcejkpbmaaDoorSpecOf
import Derived.Test.YtlehcpcejkpbmaaDoorDrawProg
import Derived.Test.YtlehcpcejkpbmaaDoorDrawProg2
namespace Go.Proofs.YtlehcpcejkpbmaaDoor.fnProgForm
open Go.ChangeShapes Go.WideShapes Go.ChangeAt Go.RowKit Go.Extern
set_option linter.unusedVariables false

theorem ssl_take {w : World} {a : Option Addr} {n cap k : Nat} {L : List Stp} (h : SSl w (.slice a n cap) L) (hn : n = L.length) (hk : k ≤ n) : SSl w (.slice a k cap) (L.take k) := by
  obtain ⟨b, c, e, h1, h2, hr⟩ := h
  injection e with e1 e2 e3
  subst e1 e3
  have hl : (L.take k).length = k := by rw [List.length_take]; omega
  refine ⟨a, cap, by rw [hl], by rw [hl]; omega, h2, ?_⟩
  by_cases h0 : k = 0
  · subst h0; exact .inl rfl
  · rcases hr with hr | ⟨b, o, rfl, hr⟩
    · have := sflat_len L; rw [hr] at this; simp at this; omega
    · refine .inr ⟨b, o, rfl, fun i hi => ?_⟩
      rw [sflat_len, hl] at hi
      rw [hr i (by rw [sflat_len]; omega)]
      have e : sflat L = sflat (L.take k) ++ sflat (L.drop k) := by rw [← sflat_app, List.take_append_drop]
      rw [e, getD_left (by rw [sflat_len, hl]; exact hi)]
theorem news_rds {w : World} {b o : Nat} {l : List Int} (h : Rds w (some ⟨b, o, none⟩) l) : ∀ j u, (vals l)[j]? = some u → w.cell? ((⟨b, o, none⟩ : Addr).add j) = some u := by
  intro j u hj
  have hl : j < l.length := by have := (List.getElem?_eq_some_iff.1 hj).1; rwa [vals_length] at this
  rcases h with h0 | ⟨b', o', e', hr⟩
  · subst h0; simp at hl
  · injection e' with e'
    injection e' with e1 e2
    subst e1 e2
    rw [Addr.add_lit, hr j hl, ← vals_get _ j hl]
    exact hj

set_option maxHeartbeats 16000000 in
set_option maxRecDepth 20000 in
theorem walk (a0 : Option Addr) (len0 cap0 : Nat) (a1 : Option Addr) (len1 cap1 : Nat) (e : Addr) (w : World) (w0 : Code w a0 len0 cap0) (w1 : Code w a1 len1 cap1) (hE : Sent w e) :
    Calls Tryd.prog 8 #[.slice a0 len0 cap0, .slice a1 len1 cap1] w fun en w' => en = .returned (.bool true) ∧ Below w.heap.size w w' := by
  have hm0 : cap0 ≤ maxLen := w0.2.1
  have hl0 : len0 ≤ cap0 := w0.1
  unfold maxLen at hm0
  have C0 := Lib.hid w0
  have hm1 : cap1 ≤ maxLen := w1.2.1
  have hl1 : len1 ≤ cap1 := w1.1
  unfold maxLen at hm1
  have HE := Lib.hid hE
  have HP := Lib.hid hE.pos
  clear w0 w1 hE
  by_cases hbig0 : (len0 : Int) > 1048576
  · go_enter Tryd.func8, Tryd.ntmps8
    go_wp2_with fail
    go_ret
    exact ⟨rfl, Below.refl _ _⟩
  by_cases hbig1 : (len1 : Int) > 1048576
  · go_enter Tryd.func8, Tryd.ntmps8
    go_wp2_with fail
    go_ret
    exact ⟨rfl, Below.refl _ _⟩
  obtain ⟨i0, hi, hz0, hz1, hz2⟩ := info_parts infoStep
  have I1 := Lib.hid hi
  have I2 := Lib.hid hz0
  have I3 := Lib.hid hz1
  have I4 := Lib.hid hz2
  clear hi hz0 hz1 hz2
  go_enter Tryd.func8, Tryd.ntmps8
  go_wp2_with fail
  refine (drawProgOk a0 len0 cap0 _ C0.out).mono ?_
  rintro en w1 ⟨v, L, rfl, hL, hs, hb⟩
  have B1 := Lib.hid hb
  have E1 := Lib.hid (HE.out.below hb HP.out)
  obtain ⟨sa, cap, se, q1, q2, hr⟩ := hs
  subst se
  have S1 : Hid (SSl w1 (.slice sa L.length cap) L) := Lib.hid ⟨sa, cap, rfl, q1, q2, hr⟩
  unfold maxLen at q2
  obtain ⟨n, hn⟩ : ∃ n, n = L.length := ⟨_, rfl⟩
  rw [← hn] at S1 q1 hL ⊢
  have N := Lib.hid hn
  clear hb hn C0
  obtain ⟨q, hq⟩ : ∃ q, progOk L = q := ⟨_, rfl⟩
  have Q := Lib.hid hq
  clear hq
  have e1 : (q != q) = false := by simp
  have e2 : (q == q) = true := by simp
  go_wp2_with fail
  refine (implProgOk _ L e _ S1.out E1.out).mono ?_
  rintro en w2 ⟨rfl, hg⟩
  have G2 := Lib.hid hg
  clear hg
  rw [Q.out]
  go_wp2_with fail
  refine (specProgOk _ L _ (S1.out.grown G2.out)).mono ?_
  rintro en w3 ⟨rfl, hg⟩
  have G3 := Lib.hid (grown_trans G2.out hg)
  clear hg G2
  rw [Q.out]
  cases q with
  | false =>
    go_wp2_with fail
    refine (specProgOk _ L _ (S1.out.grown G3.out)).mono ?_
    rintro en w4 ⟨rfl, hg⟩
    have G4 := Lib.hid (grown_trans G3.out hg)
    clear hg
    rw [Q.out]
    go_wp2_with fail
    go_ret
    exact ⟨rfl, B1.out.trans (below_grown G4.out |>.mono B1.out.size)⟩
  | true =>
    obtain ⟨⟨n1, n16⟩, oks⟩ := progOk_out Q.out
    rw [← N.out] at n1 n16
    obtain ⟨sb, so, rfl⟩ : ∃ sb so, sa = some ⟨sb, so, none⟩ := by
      obtain ⟨b, o, e, _⟩ := cells3 hr (k := 0) (by rw [← N.out]; omega)
      exact ⟨b, o, e⟩
    have n1' : (1 : Int) ≤ (n : Int) := by omega
    have n0' : ((n : Int) == 0) = false := by rw [beq_eq_false_iff_ne]; omega
    have nz : ¬ (n : Int) = 0 := by omega
    have hmod0 : 0 ≤ (len1 : Int) % (n : Int) := Int.emod_nonneg _ (by omega)
    have hmod1 : (len1 : Int) % (n : Int) < (n : Int) := Int.emod_lt_of_pos _ (by omega)
    have htm : (len1 : Int).tmod (n : Int) = (len1 : Int) % (n : Int) := Int.tmod_eq_emod_of_nonneg (by omega)
    obtain ⟨k, hk⟩ : ∃ k : Nat, (len1 : Int) % (n : Int) + 1 = k := ⟨((len1 : Int) % (n : Int) + 1).toNat, by omega⟩
    have k1 : 1 ≤ k := by omega
    have kn : k ≤ n := by omega
    have kn' : (k : Int) ≤ (n : Int) := by omega
    have kc' : (k : Int) ≤ (cap : Int) := by omega
    obtain ⟨LK, hLK⟩ : ∃ M, M = L.take k := ⟨_, rfl⟩
    have LKN : Hid (LK.length = k) := Lib.hid (by rw [hLK, List.length_take, Nat.min_eq_left (by rw [← N.out]; exact kn)])
    have SK : Hid (SSl w1 (.slice (some ⟨sb, so, none⟩) k cap) LK) := Lib.hid (by rw [hLK]; exact ssl_take S1.out N.out kn)
    have TK : Hid (Rds w1 (some ⟨sb, so, none⟩) (sflat LK)) := Lib.hid (by obtain ⟨_, _, e, _, _, h⟩ := SK.out; injection e with e1 _ _; rw [← e1] at h; exact h)
    have PK : Hid (progOk LK = true) := Lib.hid (decide_eq_true ⟨by rw [LKN.out]; omega, by rw [hLK]; exact Oks.left (M := L.drop k) (by rw [List.take_append_drop]; exact oks)⟩)
    have PA : Hid (progOk (LK ++ [⟨2, (k : Int), 1⟩]) = false) := Lib.hid (progOk_not (i := LK.length) (by simp) (by
      rw [getD_last, LKN.out]
      rintro (⟨h, _⟩ | ⟨_, h, _⟩ | ⟨h, _⟩)
      · cases h
      · have h' : (0 : Int) ≤ k ∧ (k : Int) < k := h; omega
      · cases h))
    have PB : Hid (progOk (LK ++ [⟨4, 0, 0⟩]) = false) := Lib.hid (progOk_not (i := LK.length) (by simp) (by
      rw [getD_last, LKN.out]
      rintro (⟨h, _⟩ | ⟨h, _⟩ | ⟨h, _⟩) <;> cases h))
    have PN : Hid (progOk [] = false) := Lib.hid (progOk_len (by simp))
    clear oks hLK hr
    go_upto_region 8 with fail
    clear htm hmod0 hmod1 nz n0'
    have Ma : Hid ((w3.alloc (.cells #[] 49)).ownsRow w3.heap.size 49 3 (.slice (some ⟨w3.heap.size, 0, none⟩) 0 0) 0 []) := Lib.hid (SOwn.made w3 w3.heap.size (Nat.le_refl _))
    have Na : Hid (Rds (w3.alloc (.cells #[] 49)) (some ⟨sb, so, none⟩) (sflat LK)) := Lib.hid ((TK.out.grown G3.out).grown (World.grownBy_alloc _ _ none))
    go_wp2_with (first
      | (at_builtin; refine wpList_append_own _ rfl _ _ 27 rfl w3.heap.size 49 i0 (.agg #[.int .i64 0, .int .i64 0, .int .i64 0]) 3 24 Tryd.underlying27 I1.out I2.out I3.out I4.out rfl (by decide) _ _ _ rfl Ma.out ⟨sb, so, none⟩ k cap (vals (sflat LK)) rfl (by rw [vals_length, sflat_len, LKN.out]) (news_rds Na.out) (vals_one _) ?c3 ?c4 ?c5 ?_))
    case c3 => unfold maxLen; omega
    case c4 => omega
    case c5 => simp
    intro oa xa ho hg _
    have Pa : Hid (SOwn xa w3.heap.size oa LK) := Lib.hid (sown_len (n := k) (by simpa using ho) (by rw [LKN.out]))
    have Qa : Hid (w3.grownBy xa none) := Lib.hid (grown_own (grown_alloc (World.grownBy.refl _ _) _) hg (fun j hj => (World.ownsRow.lt Ma.out j hj).1))
    clear ho hg Ma Na
    obtain ⟨oaa, oca, oea, _, _⟩ := Pa.out.form
    rw [LKN.out] at oea
    subst oea
    have Ta : Hid (xa.ownsRow w3.heap.size 49 3 (.slice oaa k oca) k (vals (sflat LK))) := Lib.hid (by have := Pa.out; unfold SOwn at this; rwa [LKN.out] at this)
    have Ya : w3.heap.size ≤ xa.heap.size := Qa.out.size
    go_wp2_with (first
      | (at_builtin; refine wpList_append_own _ rfl _ _ 27 rfl w3.heap.size 49 i0 (.agg #[.int .i64 0, .int .i64 0, .int .i64 0]) 3 24 Tryd.underlying27 I1.out I2.out I3.out I4.out rfl (by decide) _ _ _ rfl (World.ownsRow.alloc Ta.out _) ⟨xa.heap.size, 0, none⟩ 1 1 [.int .i64 2, .int .i64 k, .int .i64 1] rfl rfl cells_of3 (by simp [Value.oneCell']) ?c3 ?c4 ?c5 ?_))
    case c3 => unfold maxLen; omega
    case c4 => omega
    case c5 => simp; omega
    intro pa ya ho hg _
    have Ra : Hid (SOwn ya w3.heap.size pa (LK ++ [⟨2, k, 1⟩])) := Lib.hid (sown_snoc ho (by rw [LKN.out]))
    have Va : Hid (w3.grownBy ya none) := Lib.hid (grown_own (grown_alloc Qa.out _) hg (fun j hj => (World.ownsRow.lt Ta.out j hj).1))
    clear ho hg Ta Pa Qa
    have GA : Hid (w1.grownBy ya none) := Lib.hid (grown_trans G3.out Va.out)
    have Mb : Hid ((ya.alloc (.cells #[] 49)).ownsRow ya.heap.size 49 3 (.slice (some ⟨ya.heap.size, 0, none⟩) 0 0) 0 []) := Lib.hid (SOwn.made ya ya.heap.size (Nat.le_refl _))
    have Nb : Hid (Rds (ya.alloc (.cells #[] 49)) (some ⟨sb, so, none⟩) (sflat LK)) := Lib.hid ((TK.out.grown GA.out).grown (World.grownBy_alloc _ _ none))
    go_wp2_with (first
      | (at_builtin; refine wpList_append_own _ rfl _ _ 27 rfl ya.heap.size 49 i0 (.agg #[.int .i64 0, .int .i64 0, .int .i64 0]) 3 24 Tryd.underlying27 I1.out I2.out I3.out I4.out rfl (by decide) _ _ _ rfl Mb.out ⟨sb, so, none⟩ k cap (vals (sflat LK)) rfl (by rw [vals_length, sflat_len, LKN.out]) (news_rds Nb.out) (vals_one _) ?c3 ?c4 ?c5 ?_))
    case c3 => unfold maxLen; omega
    case c4 => omega
    case c5 => simp
    intro ob xb ho hg _
    have Pb : Hid (SOwn xb ya.heap.size ob LK) := Lib.hid (sown_len (n := k) (by simpa using ho) (by rw [LKN.out]))
    have Qb : Hid (ya.grownBy xb none) := Lib.hid (grown_own (grown_alloc (World.grownBy.refl _ _) _) hg (fun j hj => (World.ownsRow.lt Mb.out j hj).1))
    clear ho hg Mb Nb
    obtain ⟨oab, ocb, oeb, _, _⟩ := Pb.out.form
    rw [LKN.out] at oeb
    subst oeb
    have Tb : Hid (xb.ownsRow ya.heap.size 49 3 (.slice oab k ocb) k (vals (sflat LK))) := Lib.hid (by have := Pb.out; unfold SOwn at this; rwa [LKN.out] at this)
    have Yb : ya.heap.size ≤ xb.heap.size := Qb.out.size
    go_wp2_with (first
      | (at_builtin; refine wpList_append_own _ rfl _ _ 27 rfl ya.heap.size 49 i0 (.agg #[.int .i64 0, .int .i64 0, .int .i64 0]) 3 24 Tryd.underlying27 I1.out I2.out I3.out I4.out rfl (by decide) _ _ _ rfl (World.ownsRow.alloc Tb.out _) ⟨xb.heap.size, 0, none⟩ 1 1 [.int .i64 4, .int .i64 0, .int .i64 0] rfl rfl cells_of3 (by simp [Value.oneCell']) ?c3 ?c4 ?c5 ?_))
    case c3 => unfold maxLen; omega
    case c4 => omega
    case c5 => simp; omega
    intro pb yb ho hg _
    have Rb : Hid (SOwn yb ya.heap.size pb (LK ++ [⟨4, 0, 0⟩])) := Lib.hid (sown_snoc ho (by rw [LKN.out]))
    have Vb : Hid (ya.grownBy yb none) := Lib.hid (grown_own (grown_alloc Qb.out _) hg (fun j hj => (World.ownsRow.lt Tb.out j hj).1))
    clear ho hg Tb Pb Qb
    have GB : Hid (w1.grownBy yb none) := Lib.hid (grown_trans GA.out Vb.out)
    have XA : Hid (SSl yb pa (LK ++ [⟨2, (k : Int), 1⟩])) := Lib.hid (Ra.out.sl.grown Vb.out)
    have XB : Hid (SSl yb pb (LK ++ [⟨4, 0, 0⟩])) := Lib.hid Rb.out.sl
    have XK : Hid (SSl yb (.slice (some ⟨sb, so, none⟩) k cap) LK) := Lib.hid (SK.out.grown GB.out)
    have EB : Hid (Sent yb e) := Lib.hid (E1.out.grown GB.out)
    clear Ra Rb Va Vb GA SK TK E1
    go_wp2_with fail
    refine (implProgOk _ LK e _ XK.out EB.out).mono ?_
    rintro en z1 ⟨rfl, hg⟩
    have H1 := Lib.hid hg
    clear hg
    rw [PK.out]
    go_wp2_with fail
    refine (implProgOk _ _ e _ (XA.out.grown H1.out) (EB.out.grown H1.out)).mono ?_
    rintro en z2 ⟨rfl, hg⟩
    have H2 := Lib.hid (grown_trans H1.out hg)
    clear hg
    rw [PA.out]
    go_wp2_with fail
    refine (implProgOk _ _ e _ (XB.out.grown H2.out) (EB.out.grown H2.out)).mono ?_
    rintro en z3 ⟨rfl, hg⟩
    have H3 := Lib.hid (grown_trans H2.out hg)
    clear hg
    rw [PB.out]
    go_wp2_with fail
    refine (implProgOk _ [] e _ ⟨none, 0, rfl, by simp, by simp [maxLen], .inl rfl⟩ (EB.out.grown H3.out)).mono ?_
    rintro en z4 ⟨rfl, hg⟩
    have H4 := Lib.hid (grown_trans H3.out hg)
    clear hg
    rw [PN.out]
    go_wp2_with fail
    go_ret
    exact ⟨rfl, B1.out.trans (below_grown (grown_trans GB.out H4.out) |>.mono B1.out.size)⟩

set_option maxRecDepth 100000 in
theorem lifted (os : Os) (started : os.Started) (H : Type) (enc : TypeId × Value → H) :
    ReturnsInHanded {} Tryd.checked os 8 .any (fun w args => (Rows.fnProgFormSpec.pre enc Tryd.prog Tryd.f8 [] false w args ∧ laidMetH Tryd.prog laidE w) ∧ sizedMet enc Tryd.prog Tryd.f8 (OpenSpec.ofChange Rows.fnProgFormSpec) false w args) (Rows.fnProgFormSpec.post enc Tryd.prog Tryd.f8 false true false false) := by
  refine returnsInHanded_of_change_and (C := Tryd.checked) (X := fun w _ => laidMetH Tryd.prog laidE w) (fun _ _ _ hh h => h.of_heap hh) own started (by kernel_rfl) Tryd.func8
    (ChangeSpec.witness_at (enc := enc) (C := Tryd.checked) (os := os) (X := fun w _ => laidMetH Tryd.prog laidE w) false (laidWorld os) #[.slice none 0 0, .slice none 0 0] 8 rfl (by kernel_rfl) (by kernel_rfl) (by kernel_rfl) (by kernel_rfl) (by kernel_rfl) (laidWorld_met os _)) ?_
  intro W base args ds gs before hval0 hW _ _ hL _
  have hval : ∀ (j : Nat) t v, Tryd.f8.params[j]? = some t → args[j]? = some v → Value.okWide Tryd.prog W .any base t v := hval0
  have hW' := hW
  obtain ⟨p, q, hA0, hV0, rfl, hfz, hnd⟩ := hW
  have hA : DataW.TrodAll enc Tryd.prog W 0 (fun _ => true) true Tryd.f8.params.toList args.toList ds p := hA0
  have hV : DataW.TrodVars enc Tryd.prog W (fun _ => true) ["loop.example/keelson/impl.errStep"] gs q := hV0
  rw [Tryd.params8] at hA hval
  obtain ⟨v0, vs0, d0, ds0, p0, q0, hargs, rfl, rfl, h0, r0⟩ := trodAll_cons hA
  obtain ⟨v1, vs1, d1, ds1, p1, q1, rfl, rfl, rfl, h1, r1⟩ := trodAll_cons r0
  obtain ⟨rfl, rfl, rfl⟩ := trodAll_nil r1
  obtain rfl : args = #[v0, v1] := by cases args; simp_all
  obtain ⟨ea, hv0, hE⟩ := sent_of_laid hL
  obtain ⟨rfl, rfl⟩ := hV.unique (vars_at enc hv0 _)
  obtain ⟨a0, len0, cap0, rfl⟩ := okWide_slice Tryd.underlying22 (hval 0 22 v0 rfl rfl)
  have k0 := h0
  have lt0 : ∀ x ∈ p0, x.block < W.heap.size := by obtain ⟨m, hm⟩ := k0; exact DataW.trod_lt m _ _ _ hm
  obtain ⟨z0, r0⟩ : ∃ zs : List Int, (a0 = none ∧ len0 = 0 ∧ cap0 = 0 ∧ zs = []) ∨ ∃ x, a0 = some x ∧ len0 ≤ cap0 ∧ cap0 ≤ maxLen ∧ zs.length = cap0 ∧ (∀ i, i < zs.length → W.cell? (x.add i) = some (.int .u8 (zs.getD i 0))) ∧ ∀ n ∈ zs, (Lit.int .u8 n).wf = true := by
    obtain ⟨fuel, hf⟩ := h0
    rcases open_ints Tryd.underlying22 Tryd.underlying5 (by kernel_rfl) hf with ⟨hcs, _⟩ | ⟨x, l, c, zs, hcs, _, hl, hm, hz, _, hcell, hwz⟩
    · simp [Value.cells] at hcs
      obtain ⟨rfl, rfl, rfl⟩ := hcs
      exact ⟨[], .inl ⟨rfl, rfl, rfl, rfl⟩⟩
    · simp [Value.cells] at hcs
      obtain ⟨rfl, rfl, rfl⟩ := hcs
      exact ⟨zs, .inr ⟨_, rfl, hl, hm, by simpa using hz, hcell, hwz⟩⟩
  have w0 : Code W a0 len0 cap0 := code_of r0
  obtain ⟨a1, len1, cap1, rfl⟩ := okWide_slice Tryd.underlying22 (hval 1 22 v1 rfl rfl)
  have k1 := h1
  have lt1 : ∀ x ∈ p1, x.block < W.heap.size := by obtain ⟨m, hm⟩ := k1; exact DataW.trod_lt m _ _ _ hm
  obtain ⟨z1, r1⟩ : ∃ zs : List Int, (a1 = none ∧ len1 = 0 ∧ cap1 = 0 ∧ zs = []) ∨ ∃ x, a1 = some x ∧ len1 ≤ cap1 ∧ cap1 ≤ maxLen ∧ zs.length = cap1 ∧ (∀ i, i < zs.length → W.cell? (x.add i) = some (.int .u8 (zs.getD i 0))) ∧ ∀ n ∈ zs, (Lit.int .u8 n).wf = true := by
    obtain ⟨fuel, hf⟩ := h1
    rcases open_ints Tryd.underlying22 Tryd.underlying5 (by kernel_rfl) hf with ⟨hcs, _⟩ | ⟨x, l, c, zs, hcs, _, hl, hm, hz, _, hcell, hwz⟩
    · simp [Value.cells] at hcs
      obtain ⟨rfl, rfl, rfl⟩ := hcs
      exact ⟨[], .inl ⟨rfl, rfl, rfl, rfl⟩⟩
    · simp [Value.cells] at hcs
      obtain ⟨rfl, rfl, rfl⟩ := hcs
      exact ⟨zs, .inr ⟨_, rfl, hl, hm, by simpa using hz, hcell, hwz⟩⟩
  have w1 : Code W a1 len1 cap1 := code_of r1
  clear hA0 hV0 hval0
  refine (walk a0 len0 cap0 a1 len1 cap1 ea W w0 w1 hE).mono fun e W' ⟨he, bel⟩ => ?_
  subst he
  exact ⟨_, rfl, _, _, _, [], _, _, hW', trodAll_mk1 (shut_bool Tryd.underlying4 _), (trodAll_cons_mk (Below.trod laidOut (by kernel_rfl) (of_decide_eq_true (by kernel_rfl)) k0 bel lt0) (trodAll_cons_mk (Below.trod laidOut (by kernel_rfl) (of_decide_eq_true (by kernel_rfl)) k1 bel lt1) trodAll_mk0)), vars_at enc (var?_below bel gE hE.pos hv0) _, bel.frame _, fun h => by cases h⟩

theorem over : Rows.fnProgFormRow.holds Tryd.pinned (OpenSpec.ofChange Rows.fnProgFormSpec) :=
  OpenClaim.holds_of_wide 8 Tryd.f8 rfl rfl rfl rfl rfl rfl rfl ⟨rfl, rfl, rfl, rfl, rfl⟩ rfl rfl rfl rfl rfl (by kernel_rfl) Tryd.func8 (by kernel_rfl)
    (of_decide_eq_true (by kernel_rfl)) (by unfold Func.isWrapper; first | (rw [if_pos (by decide +kernel)]; kernel_rfl) | (rw [if_neg (by decide +kernel)]; exact ⟨rfl, rfl⟩))
    (fun os started H enc _ => lifted os started H enc)

theorem proved : Rows.FnProgFormCardSaid :=
  Claim7.holds_tied_plain_at .later [] [.sentinel] true (true, "706dffdecc08ed9b7991ed61352c643fc6ee35febc91e6b83dd0a73f61ed275b") true
    over (fun _ h => by cases h) (by kernel_rfl) (fun _ h => by cases h) fnProgForm_row_tie rfl ⟨rfl, rfl⟩ (by kernel_rfl) rfl
    (fun f fn hf hfn => by
      obtain rfl : f = 8 := Option.some.inj ((show Tryd.prog.funcNamed "loop.example/keelson/laws.FnProgForm" = some 8 by kernel_rfl).symm.trans hf) |>.symm
      obtain rfl : fn = Tryd.f8 := (Option.some.inj (Tryd.func8.symm.trans hfn)).symm
      exact ⟨by kernel_rfl, fun j t ht => by
        rw [Tryd.params8] at ht
        rcases j with _ | _ | j
        · obtain rfl : t = 22 := by simpa using ht.symm
          exact (show Tryd.prog.wantsStandIn 22 = false by kernel_rfl)
        · obtain rfl : t = 22 := by simpa using ht.symm
          exact (show Tryd.prog.wantsStandIn 22 = false by kernel_rfl)
        · simp at ht⟩)
    (by kernel_rfl)
#print axioms proved
end Go.Proofs.YtlehcpcejkpbmaaDoor.fnProgForm
