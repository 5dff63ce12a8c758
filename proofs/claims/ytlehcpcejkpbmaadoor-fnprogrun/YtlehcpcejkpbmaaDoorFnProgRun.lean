/-
  From whatever bytes steps and values are drawn, ProgRun answers as its model does; a step more adds the last number to itself, takes it so many times, or takes a value: the law FnProgRun returns true.
  Conditions: none.
-/
import Derived.Test.YtlehcpcejkpbmaaDoorCards
import Derived.Test.YtlehcpcejkpbmaaDoorTie
import Derived.WalkKit
import Derived.ProofKit
import Derived.OpenShut
import Derived.ShutString
import Derived.ChangeOld
import Derived.ChangeSame
import Derived.Below
import Derived.JoinedOf
import Derived.Stop.Joined
import Derived.Stop.LaidErr
import Derived.SevenTiedAt
import Derived.Test.YtlehcpcejkpbmaaDoorG1
import Derived.Test.YtlehcpcejkpbmaaDoorAppendZeros
import Derived.Test.YtlehcpcejkpbmaaDoorG2
import Derived.Test.YtlehcpcejkpbmaaDoorSpanSame
import Derived.Test.YtlehcpcejkpbmaaDoorG3
import Derived.Test.YtlehcpcejkpbmaaDoorG4
import Derived.Test.YtlehcpcejkpbmaaDoorPlanMath
import Derived.Test.YtlehcpcejkpbmaaDoorPlanWork
import Derived.Test.YtlehcpcejkpbmaaDoorRound
import Derived.Test.YtlehcpcejkpbmaaDoorChoose
import Derived.Test.YtlehcpcejkpbmaaDoorPlanMake
import Derived.Test.YtlehcpcejkpbmaaDoorChoose2
import Derived.Test.YtlehcpcejkpbmaaDoorPlanFind
import Derived.Test.YtlehcpcejkpbmaaDoorPlanTop
import Derived.Test.YtlehcpcejkpbmaaDoorPlanSpec
import Derived.Test.YtlehcpcejkpbmaaDoorPlanSearch
import Derived.Test.YtlehcpcejkpbmaaDoorPlanSpec2
import Derived.Test.YtlehcpcejkpbmaaDoorPlanNear
import Derived.Test.YtlehcpcejkpbmaaDoorPlanEq
import Derived.Test.YtlehcpcejkpbmaaDoorPlanForm
import Derived.Test.YtlehcpcejkpbmaaDoorPlanComb
import Derived.Test.YtlehcpcejkpbmaaDoorPlanSums
import Derived.Test.YtlehcpcejkpbmaaDoorPlanDoOk
import Derived.Test.YtlehcpcejkpbmaaDoorPlanSpecForm
import Derived.Test.YtlehcpcejkpbmaaDoorPlanSpecDo
import Derived.Test.YtlehcpcejkpbmaaDoorPlanTold
import Derived.Test.YtlehcpcejkpbmaaDoorPlanArg
import Derived.Test.YtlehcpcejkpbmaaDoorDrawPlan
import Derived.Test.YtlehcpcejkpbmaaDoorStepMath
import Derived.Test.YtlehcpcejkpbmaaDoorStepTab
import Derived.Test.YtlehcpcejkpbmaaDoorErrIs
import Derived.Test.YtlehcpcejkpbmaaDoorProgStep
import Derived.Test.YtlehcpcejkpbmaaDoorProgOfP
import Derived.Test.YtlehcpcejkpbmaaDoorProgExec
import Derived.Test.YtlehcpcejkpbmaaDoorProgMath
import Derived.Test.YtlehcpcejkpbmaaDoorProgRunP
import Derived.Test.YtlehcpcejkpbmaaDoorProgComp
import Derived.Test.YtlehcpcejkpbmaaDoorStepHelp
import Derived.Test.YtlehcpcejkpbmaaDoorSpecProg
import Derived.Test.YtlehcpcejkpbmaaDoorDoor
import Derived.Test.YtlehcpcejkpbmaaDoorSpecOf
import Derived.Test.YtlehcpcejkpbmaaDoorDrawProg
import Derived.Test.YtlehcpcejkpbmaaDoorDrawProg2
import Derived.Test.YtlehcpcejkpbmaaDoorAppendKeeps
import Derived.Test.YtlehcpcejkpbmaaDoorSpecRun
import Derived.Test.YtlehcpcejkpbmaaDoorDrawProg3
namespace Go.Proofs.YtlehcpcejkpbmaaDoor.fnProgRun
open Go.ChangeShapes Go.WideShapes Go.ChangeAt Go.RowKit Go.Extern
set_option linter.unusedVariables false

theorem news_rds {w : World} {b o : Nat} {l : List Int} (h : Rds w (some ⟨b, o, none⟩) l) : ∀ j u, (vals l)[j]? = some u → w.cell? ((⟨b, o, none⟩ : Addr).add j) = some u := by
  intro j u hj
  have hl : j < l.length := by have := (List.getElem?_eq_some_iff.1 hj).1; rwa [vals_length] at this
  rcases h with h0 | ⟨b', o', e', hr⟩
  · subst h0; simp at hl
  · injection e' with e'
    injection e' with e1 e2
    subst e1 e2
    rw [Addr.add_lit, hr j hl, ← vals_get _ j hl]
    exact hj

set_option maxHeartbeats 16000000 in
set_option maxRecDepth 20000 in
theorem walk (a0 : Option Addr) (len0 cap0 : Nat) (a1 : Option Addr) (len1 cap1 : Nat) (e : Addr) (w : World) (w0 : Code w a0 len0 cap0) (w1 : Code w a1 len1 cap1) (hE : Sent w e) :
    Calls Tryd.prog 6 #[.slice a0 len0 cap0, .slice a1 len1 cap1] w fun en w' => en = .returned (.bool true) ∧ Below w.heap.size w w' := by
  have hm0 : cap0 ≤ maxLen := w0.2.1
  have hl0 : len0 ≤ cap0 := w0.1
  unfold maxLen at hm0
  have C0 := Lib.hid w0
  have hm1 : cap1 ≤ maxLen := w1.2.1
  have hl1 : len1 ≤ cap1 := w1.1
  unfold maxLen at hm1
  have HE := Lib.hid hE
  have HP := Lib.hid hE.pos
  clear w0 w1 hE
  by_cases hbig0 : (len0 : Int) > 1048576
  · go_enter Tryd.func6, Tryd.ntmps6
    go_wp2_with fail
    go_ret
    exact ⟨rfl, Below.refl _ _⟩
  by_cases hbig1 : (len1 : Int) > 1048576
  · go_enter Tryd.func6, Tryd.ntmps6
    go_wp2_with fail
    go_ret
    exact ⟨rfl, Below.refl _ _⟩
  obtain ⟨i0, hi, hz0, hz1, hz2⟩ := info_parts infoStep
  have I1 := Lib.hid hi
  have I2 := Lib.hid hz0
  have I3 := Lib.hid hz1
  have I4 := Lib.hid hz2
  clear hi hz0 hz1 hz2
  go_enter Tryd.func6, Tryd.ntmps6
  go_wp2_with fail
  refine (drawProgRun a0 len0 cap0 _ C0.out).mono ?_
  rintro en w1 ⟨v, x, L, sv, rfl, hL, h8, hs, hx, hb⟩
  have B1 := Lib.hid hb
  have E1 := Lib.hid (HE.out.below hb HP.out)
  obtain ⟨sa, cap, se, q1, q2, hr⟩ := hs
  subst se
  have S1 : Hid (SSl w1 (.slice sa L.length cap) L) := Lib.hid ⟨sa, cap, rfl, q1, q2, hr⟩
  obtain ⟨xa, xc, xe, q3, q4, hxr⟩ := hx
  have X1 : Hid (Sl w1 (.slice xa 8 xc) sv) := Lib.hid ⟨xa, xc, by rw [h8], q3, q4, hxr⟩
  rw [h8] at xe q3
  subst xe
  have XR : Hid (Rds w1 xa sv) := Lib.hid hxr
  have H8 := Lib.hid h8
  unfold maxLen at q2 q4
  obtain ⟨n, hn⟩ : ∃ n, n = L.length := ⟨_, rfl⟩
  rw [← hn] at S1 q1 hL ⊢
  have N := Lib.hid hn
  have RNL : Hid (runN L sv = bif runP L sv then runV sv L else 0) := Lib.hid rfl
  obtain ⟨b, hbb⟩ : ∃ b, runP L sv = b := ⟨_, rfl⟩
  obtain ⟨rn, hrn⟩ : ∃ r, runN L sv = r := ⟨_, rfl⟩
  have QB := Lib.hid hbb
  have QN := Lib.hid hrn
  rw [hbb, hrn] at RNL
  clear hb hn C0 hbb hrn hxr h8
  have e1 : (b != b) = false := by simp
  have e2 : (b == b) = true := by simp
  have e3 : (rn != rn) = false := by simp
  have e4 : (rn == rn) = true := by simp
  go_wp2_with fail
  refine (specProgRun _ _ L sv _ S1.out X1.out (by rw [H8.out]; omega)).mono ?_
  rintro en w2 ⟨rfl, hg⟩
  have G2 := Lib.hid hg
  clear hg
  rw [QN.out, QB.out]
  go_wp2_with fail
  refine (implProgRun _ _ L sv e _ (S1.out.grown G2.out) (X1.out.grown G2.out) (E1.out.grown G2.out)).mono ?_
  rintro en w3 ⟨rfl, hg⟩
  have G3 := Lib.hid (grown_trans G2.out hg)
  clear hg G2
  rw [QN.out, QB.out]
  cases b with
  | false =>
    go_wp2_with fail
    go_ret
    exact ⟨rfl, B1.out.trans (below_grown G3.out |>.mono B1.out.size)⟩
  | true =>
    have hpq : progOk L = true ∧ shOk sv = true := by have := QB.out; unfold runP at this; simpa using this
    obtain ⟨⟨n1, n16⟩, oks⟩ := progOk_out hpq.1
    rw [← N.out] at n1 n16
    have OKS := Lib.hid oks
    have SHO := Lib.hid hpq.2
    have RV : Hid (rn = runV sv L) := Lib.hid RNL.out
    have ORN : Hid (Fld.ok rn = true) := Lib.hid (by rw [RV.out]; exact runV_ok (sh_each SHO.out) L)
    obtain ⟨sb, so, rfl⟩ : ∃ sb so, sa = some ⟨sb, so, none⟩ := by
      obtain ⟨b, o, e, _⟩ := cells3 hr (k := 0) (by rw [← N.out]; omega)
      exact ⟨b, o, e⟩
    have TK : Hid (Rds w1 (some ⟨sb, so, none⟩) (sflat L)) := Lib.hid hr
    obtain ⟨k, rfl⟩ : ∃ k, n = k + 1 := ⟨n - 1, by omega⟩
    obtain ⟨n, hnk⟩ : ∃ n, n = k + 1 := ⟨_, rfl⟩
    rw [← hnk] at N S1 q1 hL n1 n16 ⊢
    have hk : (n : Int) - 1 = k := by omega
    have nn16 : ((n : Int) == 16) = false := by rw [beq_eq_false_iff_ne]; omega
    have kb : (k : Int) ≤ 12 := by omega
    have NK := Lib.hid hnk
    have LK : Hid ((runS sv L).getD k 0 = rn) := Lib.hid (by rw [RV.out]; unfold runV; rw [← N.out, NK.out]; rfl)
    obtain ⟨cc, hcc⟩ : ∃ c, (len1 : Int) % 31 = c := ⟨_, rfl⟩
    have OCC : Hid (Fld.ok cc = true) := Lib.hid (by rw [← hcc]; exact Vec.mod_is _)
    have CC := Lib.hid hcc
    obtain ⟨q8, hq8, hq⟩ : ∃ q : Nat, q < 8 ∧ (len1 : Int).tmod 8 = q := ⟨((len1 : Int) % 8).toNat, by omega, by rw [Int.tmod_eq_emod_of_nonneg (by omega)]; omega⟩
    have q8' : (q8 : Int) < 8 := by omega
    obtain ⟨zv, hzv⟩ : ∃ z, sv.getD q8 0 = z := ⟨_, rfl⟩
    have okn : ∀ s : Stp, OkAt n s → progOk (L ++ [s]) = true := fun s hs => decide_eq_true ⟨by rw [List.length_append, ← N.out]; show 1 ≤ n + 1 ∧ n + 1 ≤ 16; omega, OKS.out.snoc (by rw [← N.out]; exact hs)⟩
    have mkP : ∀ s : Stp, OkAt n s → runP (L ++ [s]) sv = true := fun s hs => by unfold runP; rw [okn s hs, SHO.out]; rfl
    have mkN : ∀ s : Stp, OkAt n s → runN (L ++ [s]) sv = stepV sv (runS sv L) s := fun s hs => by unfold runN; rw [mkP s hs]; exact runV_snoc sv L s
    have oa : OkAt n ⟨3, (k : Int), (k : Int)⟩ := .inr (.inr ⟨rfl, by show (0 : Int) ≤ k ∧ (k : Int) < n; omega, by show (0 : Int) ≤ k ∧ (k : Int) < n; omega⟩)
    have ob : OkAt n ⟨2, (k : Int), cc⟩ := .inr (.inl ⟨rfl, by show (0 : Int) ≤ k ∧ (k : Int) < n; omega, OCC.out⟩)
    have oc : OkAt n ⟨1, (q8 : Int), 0⟩ := .inl ⟨rfl, by show (0 : Int) ≤ q8 ∧ (q8 : Int) < 8; omega, rfl⟩
    have RPa := Lib.hid (mkP _ oa)
    have RPb := Lib.hid (mkP _ ob)
    have RPc := Lib.hid (mkP _ oc)
    have RNa : Hid (runN (L ++ [⟨3, (k : Int), (k : Int)⟩]) sv = (rn + rn) % 31) := Lib.hid (by rw [mkN _ oa]; show ((runS sv L).getD ((k : Int)).toNat 0 + (runS sv L).getD ((k : Int)).toNat 0) % 31 = _; rw [Int.toNat_natCast, LK.out])
    have RNb : Hid (runN (L ++ [⟨2, (k : Int), cc⟩]) sv = rn * cc % 31) := Lib.hid (by rw [mkN _ ob]; show (runS sv L).getD ((k : Int)).toNat 0 * cc % 31 = _; rw [Int.toNat_natCast, LK.out])
    have RNc : Hid (runN (L ++ [⟨1, (q8 : Int), 0⟩]) sv = zv) := Lib.hid (by rw [mkN _ oc, ← hzv]; rfl)
    have ZV := Lib.hid hzv
    have FS : Fld.sum rn rn = (rn + rn) % 31 := Fld.sum_ok ORN.out ORN.out
    have FM : Fld.mul rn cc = rn * cc % 31 := Fld.mul_ok ORN.out OCC.out
    have t1 : ((rn + rn) % 31 == (rn + rn) % 31) = true := by simp
    have t2 : (rn * cc % 31 == rn * cc % 31) = true := by simp
    have t3 : (zv == zv) = true := by simp
    clear okn mkP mkN oa ob oc oks hpq hcc hzv hr hnk RNL
    go_wp2_with fail
    refine (lkNum (len1 : Int) _ (by omega) (by omega)).mono ?_
    rintro en w' ⟨rfl, rfl⟩
    rw [CC.out]
    go_upto_region 10 with fail
    have Ma : Hid ((w3.alloc (.cells #[] 49)).ownsRow w3.heap.size 49 3 (.slice (some ⟨w3.heap.size, 0, none⟩) 0 0) 0 []) := Lib.hid (SOwn.made w3 w3.heap.size (Nat.le_refl _))
    have Na : Hid (Rds (w3.alloc (.cells #[] 49)) (some ⟨sb, so, none⟩) (sflat L)) := Lib.hid ((TK.out.grown G3.out).grown (World.grownBy_alloc _ _ none))
    go_wp2_with (first
      | (at_builtin; refine wpList_append_own _ rfl _ _ 27 rfl w3.heap.size 49 i0 (.agg #[.int .i64 0, .int .i64 0, .int .i64 0]) 3 24 Tryd.underlying27 I1.out I2.out I3.out I4.out rfl (by decide) _ _ _ rfl Ma.out ⟨sb, so, none⟩ n cap (vals (sflat L)) rfl (by rw [vals_length, sflat_len, ← N.out]) (news_rds Na.out) (vals_one _) ?c3 ?c4 ?c5 ?_))
    case c3 => unfold maxLen; omega
    case c4 => omega
    case c5 => simp
    intro oa xa ho hg _
    have Pa : Hid (SOwn xa w3.heap.size oa L) := Lib.hid (sown_len (n := n) (by simpa using ho) (by rw [N.out]))
    have Qa : Hid (w3.grownBy xa none) := Lib.hid (grown_own (grown_alloc (World.grownBy.refl _ _) _) hg (fun j hj => (World.ownsRow.lt Ma.out j hj).1))
    clear ho hg Ma Na
    obtain ⟨oaa, oca, oea, _, _⟩ := Pa.out.form
    rw [← N.out] at oea
    subst oea
    have Ta : Hid (xa.ownsRow w3.heap.size 49 3 (.slice oaa n oca) n (vals (sflat L))) := Lib.hid (by have := Pa.out; unfold SOwn at this; rwa [← N.out] at this)
    have Ya : w3.heap.size ≤ xa.heap.size := Qa.out.size
    go_wp2_with (first
      | (at_builtin; refine wpList_append_own _ rfl _ _ 27 rfl w3.heap.size 49 i0 (.agg #[.int .i64 0, .int .i64 0, .int .i64 0]) 3 24 Tryd.underlying27 I1.out I2.out I3.out I4.out rfl (by decide) _ _ _ rfl (World.ownsRow.alloc Ta.out _) ⟨xa.heap.size, 0, none⟩ 1 1 [.int .i64 3, .int .i64 k, .int .i64 k] rfl rfl cells_of3 (by simp [Value.oneCell']) ?c3 ?c4 ?c5 ?_))
    case c3 => unfold maxLen; omega
    case c4 => omega
    case c5 => simp; omega
    intro pa ya ho hg _
    have Ra : Hid (SSl ya pa (L ++ [⟨3, k, k⟩])) := Lib.hid (sown_snoc ho (by rw [N.out])).sl
    have Va : Hid (w1.grownBy ya none) := Lib.hid (grown_trans G3.out (grown_own (grown_alloc Qa.out _) hg (fun j hj => (World.ownsRow.lt Ta.out j hj).1)))
    clear ho hg Ta Pa Qa
    obtain ⟨raa, rca, rea, _, _, _⟩ := Ra.out
    have Ra' := Lib.hid Ra.out
    obtain ⟨nna, hna⟩ : ∃ x, x = (L ++ [(⟨3, k, k⟩ : Stp)]).length := ⟨_, rfl⟩
    rw [← hna] at rea
    subst rea
    clear hna Ra
    go_wp2_with fail
    refine (implProgRun _ _ (L ++ [⟨3, k, k⟩]) sv e _ Ra'.out (X1.out.grown Va.out) (E1.out.grown Va.out)).mono ?_
    rintro en za ⟨rfl, hg⟩
    have Ga := Lib.hid (grown_trans Va.out hg)
    clear hg Ra' Va
    rw [RNa.out, RPa.out]
    have Mb : Hid ((za.alloc (.cells #[] 49)).ownsRow za.heap.size 49 3 (.slice (some ⟨za.heap.size, 0, none⟩) 0 0) 0 []) := Lib.hid (SOwn.made za za.heap.size (Nat.le_refl _))
    have Nb : Hid (Rds (za.alloc (.cells #[] 49)) (some ⟨sb, so, none⟩) (sflat L)) := Lib.hid ((TK.out.grown Ga.out).grown (World.grownBy_alloc _ _ none))
    go_wp2_with (first
      | (at_builtin; refine wpList_append_own _ rfl _ _ 27 rfl za.heap.size 49 i0 (.agg #[.int .i64 0, .int .i64 0, .int .i64 0]) 3 24 Tryd.underlying27 I1.out I2.out I3.out I4.out rfl (by decide) _ _ _ rfl Mb.out ⟨sb, so, none⟩ n cap (vals (sflat L)) rfl (by rw [vals_length, sflat_len, ← N.out]) (news_rds Nb.out) (vals_one _) ?c3 ?c4 ?c5 ?_))
    case c3 => unfold maxLen; omega
    case c4 => omega
    case c5 => simp
    intro ob xb ho hg _
    have Pb : Hid (SOwn xb za.heap.size ob L) := Lib.hid (sown_len (n := n) (by simpa using ho) (by rw [N.out]))
    have Qb : Hid (za.grownBy xb none) := Lib.hid (grown_own (grown_alloc (World.grownBy.refl _ _) _) hg (fun j hj => (World.ownsRow.lt Mb.out j hj).1))
    clear ho hg Mb Nb
    obtain ⟨oab, ocb, oeb, _, _⟩ := Pb.out.form
    rw [← N.out] at oeb
    subst oeb
    have Tb : Hid (xb.ownsRow za.heap.size 49 3 (.slice oab n ocb) n (vals (sflat L))) := Lib.hid (by have := Pb.out; unfold SOwn at this; rwa [← N.out] at this)
    have Yb : za.heap.size ≤ xb.heap.size := Qb.out.size
    go_wp2_with (first
      | (at_builtin; refine wpList_append_own _ rfl _ _ 27 rfl za.heap.size 49 i0 (.agg #[.int .i64 0, .int .i64 0, .int .i64 0]) 3 24 Tryd.underlying27 I1.out I2.out I3.out I4.out rfl (by decide) _ _ _ rfl (World.ownsRow.alloc Tb.out _) ⟨xb.heap.size, 0, none⟩ 1 1 [.int .i64 2, .int .i64 k, .int .i64 cc] rfl rfl cells_of3 (by simp [Value.oneCell']) ?c3 ?c4 ?c5 ?_))
    case c3 => unfold maxLen; omega
    case c4 => omega
    case c5 => simp; omega
    intro pb yb ho hg _
    have Rb : Hid (SSl yb pb (L ++ [⟨2, k, cc⟩])) := Lib.hid (sown_snoc ho (by rw [N.out])).sl
    have Vb : Hid (w1.grownBy yb none) := Lib.hid (grown_trans Ga.out (grown_own (grown_alloc Qb.out _) hg (fun j hj => (World.ownsRow.lt Tb.out j hj).1)))
    clear ho hg Tb Pb Qb
    obtain ⟨rab, rcb, reb, _, _, _⟩ := Rb.out
    have Rb' := Lib.hid Rb.out
    obtain ⟨nnb, hnb⟩ : ∃ x, x = (L ++ [(⟨2, k, cc⟩ : Stp)]).length := ⟨_, rfl⟩
    rw [← hnb] at reb
    subst reb
    clear hnb Rb
    go_wp2_with fail
    refine (implProgRun _ _ (L ++ [⟨2, k, cc⟩]) sv e _ Rb'.out (X1.out.grown Vb.out) (E1.out.grown Vb.out)).mono ?_
    rintro en zb ⟨rfl, hg⟩
    have Gb := Lib.hid (grown_trans Vb.out hg)
    clear hg Rb' Vb
    rw [RNb.out, RPb.out]
    have Mc : Hid ((zb.alloc (.cells #[] 49)).ownsRow zb.heap.size 49 3 (.slice (some ⟨zb.heap.size, 0, none⟩) 0 0) 0 []) := Lib.hid (SOwn.made zb zb.heap.size (Nat.le_refl _))
    have Nc : Hid (Rds (zb.alloc (.cells #[] 49)) (some ⟨sb, so, none⟩) (sflat L)) := Lib.hid ((TK.out.grown Gb.out).grown (World.grownBy_alloc _ _ none))
    go_wp2_with (first
      | (at_builtin; refine wpList_append_own _ rfl _ _ 27 rfl zb.heap.size 49 i0 (.agg #[.int .i64 0, .int .i64 0, .int .i64 0]) 3 24 Tryd.underlying27 I1.out I2.out I3.out I4.out rfl (by decide) _ _ _ rfl Mc.out ⟨sb, so, none⟩ n cap (vals (sflat L)) rfl (by rw [vals_length, sflat_len, ← N.out]) (news_rds Nc.out) (vals_one _) ?c3 ?c4 ?c5 ?_))
    case c3 => unfold maxLen; omega
    case c4 => omega
    case c5 => simp
    intro oc xc ho hg _
    have Pc : Hid (SOwn xc zb.heap.size oc L) := Lib.hid (sown_len (n := n) (by simpa using ho) (by rw [N.out]))
    have Qc : Hid (zb.grownBy xc none) := Lib.hid (grown_own (grown_alloc (World.grownBy.refl _ _) _) hg (fun j hj => (World.ownsRow.lt Mc.out j hj).1))
    clear ho hg Mc Nc
    obtain ⟨oac, occ, oec, _, _⟩ := Pc.out.form
    rw [← N.out] at oec
    subst oec
    have Tc : Hid (xc.ownsRow zb.heap.size 49 3 (.slice oac n occ) n (vals (sflat L))) := Lib.hid (by have := Pc.out; unfold SOwn at this; rwa [← N.out] at this)
    have Yc : zb.heap.size ≤ xc.heap.size := Qc.out.size
    go_wp2_with (first
      | (at_builtin; refine wpList_append_own _ rfl _ _ 27 rfl zb.heap.size 49 i0 (.agg #[.int .i64 0, .int .i64 0, .int .i64 0]) 3 24 Tryd.underlying27 I1.out I2.out I3.out I4.out rfl (by decide) _ _ _ rfl (World.ownsRow.alloc Tc.out _) ⟨xc.heap.size, 0, none⟩ 1 1 [.int .i64 1, .int .i64 q8, .int .i64 0] rfl rfl cells_of3 (by simp [Value.oneCell']) ?c3 ?c4 ?c5 ?_))
    case c3 => unfold maxLen; omega
    case c4 => omega
    case c5 => simp; omega
    intro pc yc ho hg _
    have Rc : Hid (SSl yc pc (L ++ [⟨1, q8, 0⟩])) := Lib.hid (sown_snoc ho (by rw [N.out])).sl
    have Vc : Hid (w1.grownBy yc none) := Lib.hid (grown_trans Gb.out (grown_own (grown_alloc Qc.out _) hg (fun j hj => (World.ownsRow.lt Tc.out j hj).1)))
    clear ho hg Tc Pc Qc
    obtain ⟨rac, rcc, rec, _, _, _⟩ := Rc.out
    have Rc' := Lib.hid Rc.out
    obtain ⟨nnc, hnc⟩ : ∃ x, x = (L ++ [(⟨1, q8, 0⟩ : Stp)]).length := ⟨_, rfl⟩
    rw [← hnc] at rec
    subst rec
    clear hnc Rc
    go_wp2_with fail
    refine (implProgRun _ _ (L ++ [⟨1, q8, 0⟩]) sv e _ Rc'.out (X1.out.grown Vc.out) (E1.out.grown Vc.out)).mono ?_
    rintro en zc ⟨rfl, hg⟩
    have Gc := Lib.hid (grown_trans Vc.out hg)
    clear hg Rc' Vc
    rw [RNc.out, RPc.out]
    obtain ⟨bx, ox, hxa, hcx⟩ := (XR.out.grown Gc.out).at_ (k := q8) (by rw [H8.out]; exact hq8)
    subst hxa
    rw [ZV.out] at hcx
    go_wp2_with fail
    refine (implSum rn rn _).mono ?_
    rintro en w' ⟨rfl, rfl⟩
    rw [FS]
    go_wp2_with fail
    refine (implMul rn cc _).mono ?_
    rintro en w' ⟨rfl, rfl⟩
    rw [FM]
    go_wp2_with fail
    go_ret
    exact ⟨rfl, B1.out.trans (below_grown Gc.out |>.mono B1.out.size)⟩

set_option maxRecDepth 100000 in
theorem lifted (os : Os) (started : os.Started) (H : Type) (enc : TypeId × Value → H) :
    ReturnsInHanded {} Tryd.checked os 6 .any (fun w args => (Rows.fnProgRunSpec.pre enc Tryd.prog Tryd.f6 [] false w args ∧ laidMetH Tryd.prog laidE w) ∧ sizedMet enc Tryd.prog Tryd.f6 (OpenSpec.ofChange Rows.fnProgRunSpec) false w args) (Rows.fnProgRunSpec.post enc Tryd.prog Tryd.f6 false true false false) := by
  refine returnsInHanded_of_change_and (C := Tryd.checked) (X := fun w _ => laidMetH Tryd.prog laidE w) (fun _ _ _ hh h => h.of_heap hh) own started (by kernel_rfl) Tryd.func6
    (ChangeSpec.witness_at (enc := enc) (C := Tryd.checked) (os := os) (X := fun w _ => laidMetH Tryd.prog laidE w) false (laidWorld os) #[.slice none 0 0, .slice none 0 0] 8 rfl (by kernel_rfl) (by kernel_rfl) (by kernel_rfl) (by kernel_rfl) (by kernel_rfl) (laidWorld_met os _)) ?_
  intro W base args ds gs before hval0 hW _ _ hL _
  have hval : ∀ (j : Nat) t v, Tryd.f6.params[j]? = some t → args[j]? = some v → Value.okWide Tryd.prog W .any base t v := hval0
  have hW' := hW
  obtain ⟨p, q, hA0, hV0, rfl, hfz, hnd⟩ := hW
  have hA : DataW.TrodAll enc Tryd.prog W 0 (fun _ => true) true Tryd.f6.params.toList args.toList ds p := hA0
  have hV : DataW.TrodVars enc Tryd.prog W (fun _ => true) ["loop.example/keelson/impl.errStep"] gs q := hV0
  rw [Tryd.params6] at hA hval
  obtain ⟨v0, vs0, d0, ds0, p0, q0, hargs, rfl, rfl, h0, r0⟩ := trodAll_cons hA
  obtain ⟨v1, vs1, d1, ds1, p1, q1, rfl, rfl, rfl, h1, r1⟩ := trodAll_cons r0
  obtain ⟨rfl, rfl, rfl⟩ := trodAll_nil r1
  obtain rfl : args = #[v0, v1] := by cases args; simp_all
  obtain ⟨ea, hv0, hE⟩ := sent_of_laid hL
  obtain ⟨rfl, rfl⟩ := hV.unique (vars_at enc hv0 _)
  obtain ⟨a0, len0, cap0, rfl⟩ := okWide_slice Tryd.underlying22 (hval 0 22 v0 rfl rfl)
  have k0 := h0
  have lt0 : ∀ x ∈ p0, x.block < W.heap.size := by obtain ⟨m, hm⟩ := k0; exact DataW.trod_lt m _ _ _ hm
  obtain ⟨z0, r0⟩ : ∃ zs : List Int, (a0 = none ∧ len0 = 0 ∧ cap0 = 0 ∧ zs = []) ∨ ∃ x, a0 = some x ∧ len0 ≤ cap0 ∧ cap0 ≤ maxLen ∧ zs.length = cap0 ∧ (∀ i, i < zs.length → W.cell? (x.add i) = some (.int .u8 (zs.getD i 0))) ∧ ∀ n ∈ zs, (Lit.int .u8 n).wf = true := by
    obtain ⟨fuel, hf⟩ := h0
    rcases open_ints Tryd.underlying22 Tryd.underlying5 (by kernel_rfl) hf with ⟨hcs, _⟩ | ⟨x, l, c, zs, hcs, _, hl, hm, hz, _, hcell, hwz⟩
    · simp [Value.cells] at hcs
      obtain ⟨rfl, rfl, rfl⟩ := hcs
      exact ⟨[], .inl ⟨rfl, rfl, rfl, rfl⟩⟩
    · simp [Value.cells] at hcs
      obtain ⟨rfl, rfl, rfl⟩ := hcs
      exact ⟨zs, .inr ⟨_, rfl, hl, hm, by simpa using hz, hcell, hwz⟩⟩
  have w0 : Code W a0 len0 cap0 := code_of r0
  obtain ⟨a1, len1, cap1, rfl⟩ := okWide_slice Tryd.underlying22 (hval 1 22 v1 rfl rfl)
  have k1 := h1
  have lt1 : ∀ x ∈ p1, x.block < W.heap.size := by obtain ⟨m, hm⟩ := k1; exact DataW.trod_lt m _ _ _ hm
  obtain ⟨z1, r1⟩ : ∃ zs : List Int, (a1 = none ∧ len1 = 0 ∧ cap1 = 0 ∧ zs = []) ∨ ∃ x, a1 = some x ∧ len1 ≤ cap1 ∧ cap1 ≤ maxLen ∧ zs.length = cap1 ∧ (∀ i, i < zs.length → W.cell? (x.add i) = some (.int .u8 (zs.getD i 0))) ∧ ∀ n ∈ zs, (Lit.int .u8 n).wf = true := by
    obtain ⟨fuel, hf⟩ := h1
    rcases open_ints Tryd.underlying22 Tryd.underlying5 (by kernel_rfl) hf with ⟨hcs, _⟩ | ⟨x, l, c, zs, hcs, _, hl, hm, hz, _, hcell, hwz⟩
    · simp [Value.cells] at hcs
      obtain ⟨rfl, rfl, rfl⟩ := hcs
      exact ⟨[], .inl ⟨rfl, rfl, rfl, rfl⟩⟩
    · simp [Value.cells] at hcs
      obtain ⟨rfl, rfl, rfl⟩ := hcs
      exact ⟨zs, .inr ⟨_, rfl, hl, hm, by simpa using hz, hcell, hwz⟩⟩
  have w1 : Code W a1 len1 cap1 := code_of r1
  clear hA0 hV0 hval0
  refine (walk a0 len0 cap0 a1 len1 cap1 ea W w0 w1 hE).mono fun e W' ⟨he, bel⟩ => ?_
  subst he
  exact ⟨_, rfl, _, _, _, [], _, _, hW', trodAll_mk1 (shut_bool Tryd.underlying4 _), (trodAll_cons_mk (Below.trod laidOut (by kernel_rfl) (of_decide_eq_true (by kernel_rfl)) k0 bel lt0) (trodAll_cons_mk (Below.trod laidOut (by kernel_rfl) (of_decide_eq_true (by kernel_rfl)) k1 bel lt1) trodAll_mk0)), vars_at enc (var?_below bel gE hE.pos hv0) _, bel.frame _, fun h => by cases h⟩

theorem over : Rows.fnProgRunRow.holds Tryd.pinned (OpenSpec.ofChange Rows.fnProgRunSpec) :=
  OpenClaim.holds_of_wide 6 Tryd.f6 rfl rfl rfl rfl rfl rfl rfl ⟨rfl, rfl, rfl, rfl, rfl⟩ rfl rfl rfl rfl rfl (by kernel_rfl) Tryd.func6 (by kernel_rfl)
    (of_decide_eq_true (by kernel_rfl)) (by unfold Func.isWrapper; first | (rw [if_pos (by decide +kernel)]; kernel_rfl) | (rw [if_neg (by decide +kernel)]; exact ⟨rfl, rfl⟩))
    (fun os started H enc _ => lifted os started H enc)

theorem proved : Rows.FnProgRunCardSaid :=
  Claim7.holds_tied_plain_at .later [] [.sentinel] true (true, "706dffdecc08ed9b7991ed61352c643fc6ee35febc91e6b83dd0a73f61ed275b") true
    over (fun _ h => by cases h) (by kernel_rfl) (fun _ h => by cases h) fnProgRun_row_tie rfl ⟨rfl, rfl⟩ (by kernel_rfl) rfl
    (fun f fn hf hfn => by
      obtain rfl : f = 6 := Option.some.inj ((show Tryd.prog.funcNamed "loop.example/keelson/laws.FnProgRun" = some 6 by kernel_rfl).symm.trans hf) |>.symm
      obtain rfl : fn = Tryd.f6 := (Option.some.inj (Tryd.func6.symm.trans hfn)).symm
      exact ⟨by kernel_rfl, fun j t ht => by
        rw [Tryd.params6] at ht
        rcases j with _ | _ | j
        · obtain rfl : t = 22 := by simpa using ht.symm
          exact (show Tryd.prog.wantsStandIn 22 = false by kernel_rfl)
        · obtain rfl : t = 22 := by simpa using ht.symm
          exact (show Tryd.prog.wantsStandIn 22 = false by kernel_rfl)
        · simp at ht⟩)
    (by kernel_rfl)
#print axioms proved
end Go.Proofs.YtlehcpcejkpbmaaDoor.fnProgRun
