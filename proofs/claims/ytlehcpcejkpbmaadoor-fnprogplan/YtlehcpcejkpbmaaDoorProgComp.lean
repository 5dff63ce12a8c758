/-
  The contracts of the program's compile and ProgOf: the program of a plan.
  Conditions: none.
-/
import Derived.Test.YtlehcpcejkpbmaaDoorStepTab
import Derived.Test.YtlehcpcejkpbmaaDoorProgMath
import Derived.Test.YtlehcpcejkpbmaaDoorPlanDoOk
namespace Go.Proofs.YtlehcpcejkpbmaaDoor
open Go.RowKit
set_option linter.unusedVariables false

/-- what is known while a program is made: how the plan lies, what is there. -/
structure Comp (w : World) (bp : Nat) (n : Int) (x y : Value) (L : List Stp) (o : Value) (wr : World) : Prop where
  grown : w.grownBy wr none
  plan : Blk wr bp 25 [.int .i64 n, x, y]
  own : SOwn wr w.heap.size o L
theorem Comp.more {w wr w' : World} {bp : Nat} {n : Int} {x y o o' : Value} {L : List Stp} {s : Stp} {k : Nat} (h : Comp w bp n x y L o wr) (hg : wr.grownBy w' o.ownBlock) (ho : w'.ownsRow w.heap.size 49 3 o' k (vals (sflat L) ++ [.int .i64 s.op, .int .i64 s.a, .int .i64 s.b])) (hk : k = L.length + 1) : Comp w bp n x y (L ++ [s]) o' w' :=
  ⟨grown_own h.grown hg (fun j hj => (h.own.lt j hj).1), h.plan.kept hg (fun e => by
    rcases h.own.2 with ⟨e0, _⟩ | ⟨g', cap, cur, e0, _, hb, _⟩
    · rw [e0] at e; simp [Value.ownBlock] at e
    · rw [e0] at e
      injection e with e
      have e' : bp = g' := e
      subst e'
      have hp := h.plan
      unfold Blk at hp
      rw [hp] at hb
      injection hb with hb
      injection hb with _ ht
      exact absurd ht (by decide)), sown_snoc ho hk⟩
theorem Comp.drew {w wr : World} {bp : Nat} {n : Int} {x y o : Value} {L : List Stp} (h : Comp w bp n x y L o wr) : Comp w bp n x y L o wr.drew := ⟨grown_drew h.grown, h.plan, h.own⟩
theorem Comp.size {w wr : World} {bp : Nat} {n : Int} {x y o : Value} {L : List Stp} (h : Comp w bp n x y L o wr) : w.heap.size ≤ wr.heap.size := h.grown.size

set_option maxHeartbeats 8000000 in
set_option maxRecDepth 20000 in
theorem planCompile (n : Int) (u v : Value) (l m : List Int) (w : World) (hu : Sl w u l) (hv : Sl w v m) (hf : pForm n l m = true) :
    Calls Tryd.prog 48 #[.agg #[.int .i64 n, u, v]] w (NewSteps (cmp l m l.length) w) := by
  have U := Lib.hid hu
  have V := Lib.hid hv
  obtain ⟨a1, k1, e1, q1, q2, hr1⟩ := hu
  obtain ⟨a2, k2, e2, q3, q4, hr2⟩ := hv
  subst e1 e2
  obtain ⟨h0, h4, hm⟩ := form_pos hf
  have RL := Lib.hid hr1
  have RM : Hid (Rds w a2 m) := Lib.hid hr2
  obtain ⟨i0, hi, hz0, hz1, hz2⟩ := info_parts infoStep
  have I1 := Lib.hid hi
  have I2 := Lib.hid hz0
  have I3 := Lib.hid hz1
  have I4 := Lib.hid hz2
  clear hi hz0 hz1 hz2 hr1 hr2 hf
  unfold maxLen at q2 q4
  rw [hm] at q3 ⊢
  have HM := Lib.hid hm
  obtain ⟨nl, hnl⟩ : ∃ x, x = l.length := ⟨_, rfl⟩
  rw [← hnl] at q1 q3 h0 h4 ⊢
  have NL := Lib.hid hnl
  clear hnl hm U V
  have C0 : Hid (Comp w w.heap.size n (.slice a1 nl k1) (.slice a2 nl k2) (cmp l m 0) (.slice none 0 0) (w.alloc (.cells #[.int .i64 n, .slice a1 nl k1, .slice a2 nl k2] 25))) := Lib.hid ⟨grown_alloc (World.grownBy.refl _ _) _, heap_alloc_new _ _, SOwn.none_ _ _⟩
  go_enter Tryd.func48, Tryd.ntmps48
  go_upto_region 3 with fail
  generalize w.alloc (.cells #[.int .i64 n, .slice a1 nl k1, .slice a2 nl k2] 25) = w0 at *
  obtain ⟨bp, hbp⟩ : ∃ b, b = w.heap.size := ⟨_, rfl⟩
  have C0' : Hid (Comp w bp n (.slice a1 nl k1) (.slice a2 nl k2) (cmp l m 0) (.slice none 0 0) w0) := Lib.hid (by rw [hbp]; exact C0.out)
  rw [← hbp]
  clear hbp C0
  have p1 := C0'.out.plan.cell (i := 1) rfl
  go_wp2_with fail
  clear p1
  go_loopw [3, 4, 10] (fun o s i wr => ∃ t : Nat, t ≤ nl ∧ i = .int .i64 t ∧ s = .int .i64 (if t = 0 then 0 else ((cmp l m t).length : Int) - 1) ∧ Comp w bp n (.slice a1 nl k1) (.slice a2 nl k2) (cmp l m t) o wr) (fun _ _ i _ => nl - (intOf i).toNat)
  case atStart => exact ⟨0, by omega, rfl, rfl, C0'.out⟩
  case round =>
    obtain ⟨t, ht, rfl, rfl, hc⟩ := hrel
    have C := Lib.hid hc
    clear hc C0'
    by_cases hlt : t < nl
    · have hlt' : (t : Int) < (nl : Int) := by omega
      obtain ⟨b1, o1, rfl, hx1⟩ := (RL.out.grown C.out.grown).at_ (k := t) (by rw [← NL.out]; exact hlt)
      obtain ⟨b2, o2, rfl, hx2⟩ := (RM.out.grown C.out.grown).at_ (k := t) (by rw [HM.out, ← NL.out]; exact hlt)
      have MX : Hid (∀ w' : World, w.grownBy w' none → w'.cell? ⟨b2, o2 + t, none⟩ = some (.int .i64 (m.getD t 0))) := Lib.hid (fun w' hg => by
        obtain ⟨b, o, e, h⟩ := (RM.out.grown hg).at_ (k := t) (by rw [HM.out, ← NL.out]; exact hlt)
        injection e with e
        injection e with e1 e2
        subst e1 e2
        exact h)
      have CL := cmp_len l m t
      have CN : Hid (cmp l m (t + 1) = cPut (cmp l m t) t (l.getD t 0) (m.getD t 0)) := Lib.hid rfl
      generalize l.getD t 0 = p at *
      generalize m.getD t 0 = c at *
      obtain ⟨sm, hsm⟩ : ∃ s, s = (if t = 0 then 0 else ((cmp l m t).length : Int) - 1) := ⟨_, rfl⟩
      rw [← hsm]
      have SM := Lib.hid hsm
      clear hsm
      generalize cmp l m t = L0 at *
      have m0 : (L0.length : Int) ≤ 12 := by omega
      have q1 : wr.cell? ⟨bp, 1, none⟩ = some (.slice (some ⟨b1, o1, none⟩) nl k1) := C.out.plan.cell (i := 1) rfl
      have TOPL1 : Hid (wr.ownsRow w.heap.size 49 3 u3 L0.length (vals (sflat L0))) := Lib.hid C.out.own
      have szL1 : w.heap.size ≤ wr.heap.size := C.out.size
      go_wp2_with (first
        | (at_builtin; refine wpList_append_own _ rfl _ _ 27 rfl w.heap.size 49 i0 (.agg #[.int .i64 0, .int .i64 0, .int .i64 0]) 3 24 Tryd.underlying27 I1.out I2.out I3.out I4.out rfl (by decide) _ _ _ rfl (World.ownsRow.alloc TOPL1.out _) ⟨wr.heap.size, 0, none⟩ 1 1 [.int .i64 1, .int .i64 p, .int .i64 0] rfl rfl cells_of3 (by simp [Value.oneCell']) ?c3 ?c4 ?c5 ?_))
      case c3 => unfold maxLen; omega
      case c4 => omega
      case c5 => simp; omega
      intro oL1 w1 ho hg _
      obtain ⟨L1, hL1⟩ : ∃ M, M = L0 ++ [(⟨1, p, 0⟩ : Stp)] := ⟨_, rfl⟩
      have KL1 : Hid (L1.length = L0.length + 1) := Lib.hid (by rw [hL1]; simp)
      have CL10 : Hid (Comp w bp n (.slice (some ⟨b1, o1, none⟩) nl k1) (.slice (some ⟨b2, o2, none⟩) nl k2) L1 oL1 w1) := Lib.hid (by rw [hL1]; exact C.out.more (s := ⟨1, p, 0⟩) (grown_trans (World.grownBy_alloc _ _ _) hg) ho rfl)
      have EL1 := Lib.hid hL1
      obtain ⟨avL1, cvL1, evL1, _, _⟩ := CL10.out.own.form
      subst evL1
      have CL1 := Lib.hid CL10.out
      clear ho hg hL1 TOPL1 C hx1 hx2 q1 CL10
      have mL1 : (L1.length : Int) ≤ 16 := by have := KL1.out; omega
      have nL1 : 1 ≤ (L1.length : Int) := by have := KL1.out; omega
      have y2 : w1.cell? ⟨bp, 2, none⟩ = some (.slice (some ⟨b2, o2, none⟩) nl k2) := CL1.out.plan.cell (i := 2) rfl
      have y3 : w1.cell? ⟨b2, o2 + t, none⟩ = some (.int .i64 c) := MX.out w1 CL1.out.grown
      have d1 : ((L1.length : Int)) - 1 = L0.length := by have := KL1.out; omega
      by_cases hc : c = 1
      · subst hc
        by_cases h0t : t = 0
        · have ht0 : ¬ (t : Int) > 0 := by omega
          have H0 := Lib.hid h0t
          clear h0t
          have CF : Hid (cmp l m (t + 1) = L1) := Lib.hid (by rw [CN.out]; unfold cPut; simp only [if_pos, H0.out]; exact EL1.out.symm)
          go_wp2_with fail
          go_roundw
          case rel => exact ⟨t + 1, by omega, by go_num, congrArg (Value.int .i64) (by rw [if_neg (by omega), CF.out]; first | done | omega), by rw [CF.out]; exact CL1.out⟩
          case measure => simp [intOf]; omega
        · obtain rfl : sm = (L0.length : Int) - 1 := by rw [SM.out, if_neg h0t]
          have ht0 : (t : Int) > 0 := by omega
          have TOPL3 : Hid (w1.ownsRow w.heap.size 49 3 (.slice avL1 L1.length cvL1) L1.length (vals (sflat L1))) := Lib.hid CL1.out.own
          have szL3 : w.heap.size ≤ w1.heap.size := CL1.out.size
          go_wp2_with (first
            | (at_builtin; refine wpList_append_own _ rfl _ _ 27 rfl w.heap.size 49 i0 (.agg #[.int .i64 0, .int .i64 0, .int .i64 0]) 3 24 Tryd.underlying27 I1.out I2.out I3.out I4.out rfl (by decide) _ _ _ rfl (World.ownsRow.alloc TOPL3.out _) ⟨w1.heap.size, 0, none⟩ 1 1 [.int .i64 3, .int .i64 ((L0.length : Int) - 1), .int .i64 L0.length] rfl rfl cells_of3 (by simp [Value.oneCell']) ?c3 ?c4 ?c5 ?_))
          case c3 => unfold maxLen; omega
          case c4 => omega
          case c5 => simp; omega
          intro oL3 w3 ho hg _
          obtain ⟨L3, hL3⟩ : ∃ M, M = L1 ++ [(⟨3, ((L0.length : Int) - 1), L0.length⟩ : Stp)] := ⟨_, rfl⟩
          have KL3 : Hid (L3.length = L1.length + 1) := Lib.hid (by rw [hL3]; simp)
          have CL30 : Hid (Comp w bp n (.slice (some ⟨b1, o1, none⟩) nl k1) (.slice (some ⟨b2, o2, none⟩) nl k2) L3 oL3 w3) := Lib.hid (by rw [hL3]; exact CL1.out.more (s := ⟨3, ((L0.length : Int) - 1), L0.length⟩) (grown_trans (World.grownBy_alloc _ _ _) hg) ho rfl)
          have EL3 := Lib.hid hL3
          obtain ⟨avL3, cvL3, evL3, _, _⟩ := CL30.out.own.form
          subst evL3
          have CL3 := Lib.hid CL30.out
          clear ho hg hL3 TOPL3 y2 y3 CL30
          have mL3 : (L3.length : Int) ≤ 16 := by have := KL3.out; omega
          have nL3 : 1 ≤ (L3.length : Int) := by have := KL3.out; omega
          have CF : Hid (cmp l m (t + 1) = L3) := Lib.hid (by rw [CN.out]; unfold cPut; simp only [if_neg h0t, if_pos]; rw [EL3.out, EL1.out]; simp <;> omega)
          go_wp2_with fail
          go_roundw
          case rel => exact ⟨t + 1, by omega, by go_num, congrArg (Value.int .i64) (by rw [if_neg (by omega), CF.out]; first | done | omega), by rw [CF.out]; exact CL3.out⟩
          case measure => simp [intOf]; omega
      · have hcn : (c != 1) = true := by rw [bne_iff_ne]; exact hc
        have HC := Lib.hid hc
        clear hc
        have TOPL2 : Hid (w1.ownsRow w.heap.size 49 3 (.slice avL1 L1.length cvL1) L1.length (vals (sflat L1))) := Lib.hid CL1.out.own
        have szL2 : w.heap.size ≤ w1.heap.size := CL1.out.size
        go_wp2_with (first
          | (at_builtin; refine wpList_append_own _ rfl _ _ 27 rfl w.heap.size 49 i0 (.agg #[.int .i64 0, .int .i64 0, .int .i64 0]) 3 24 Tryd.underlying27 I1.out I2.out I3.out I4.out rfl (by decide) _ _ _ rfl (World.ownsRow.alloc TOPL2.out _) ⟨w1.heap.size, 0, none⟩ 1 1 [.int .i64 2, .int .i64 L0.length, .int .i64 c] rfl rfl cells_of3 (by simp [Value.oneCell']) ?c3 ?c4 ?c5 ?_))
        case c3 => unfold maxLen; omega
        case c4 => omega
        case c5 => simp; omega
        intro oL2 w2 ho hg _
        obtain ⟨L2, hL2⟩ : ∃ M, M = L1 ++ [(⟨2, L0.length, c⟩ : Stp)] := ⟨_, rfl⟩
        have KL2 : Hid (L2.length = L1.length + 1) := Lib.hid (by rw [hL2]; simp)
        have CL20 : Hid (Comp w bp n (.slice (some ⟨b1, o1, none⟩) nl k1) (.slice (some ⟨b2, o2, none⟩) nl k2) L2 oL2 w2) := Lib.hid (by rw [hL2]; exact CL1.out.more (s := ⟨2, L0.length, c⟩) (grown_trans (World.grownBy_alloc _ _ _) hg) ho rfl)
        have EL2 := Lib.hid hL2
        obtain ⟨avL2, cvL2, evL2, _, _⟩ := CL20.out.own.form
        subst evL2
        have CL2 := Lib.hid CL20.out
        clear ho hg hL2 TOPL2 y2 y3 CL20
        have mL2 : (L2.length : Int) ≤ 16 := by have := KL2.out; omega
        have nL2 : 1 ≤ (L2.length : Int) := by have := KL2.out; omega
        have d2 : ((L2.length : Int)) - 1 = L0.length + 1 := by have := KL2.out; have := KL1.out; omega
        by_cases h0t : t = 0
        · have ht0 : ¬ (t : Int) > 0 := by omega
          have H0 := Lib.hid h0t
          clear h0t
          have CF : Hid (cmp l m (t + 1) = L2) := Lib.hid (by rw [CN.out]; unfold cPut; simp only [if_neg HC.out, if_pos, H0.out]; rw [EL2.out, EL1.out])
          go_wp2_with fail
          go_roundw
          case rel => exact ⟨t + 1, by omega, by go_num, congrArg (Value.int .i64) (by rw [if_neg (by omega), CF.out]; first | done | omega), by rw [CF.out]; exact CL2.out⟩
          case measure => simp [intOf]; omega
        · obtain rfl : sm = (L0.length : Int) - 1 := by rw [SM.out, if_neg h0t]
          have ht0 : (t : Int) > 0 := by omega
          have TOPL3 : Hid (w2.ownsRow w.heap.size 49 3 (.slice avL2 L2.length cvL2) L2.length (vals (sflat L2))) := Lib.hid CL2.out.own
          have szL3 : w.heap.size ≤ w2.heap.size := CL2.out.size
          go_wp2_with (first
            | (at_builtin; refine wpList_append_own _ rfl _ _ 27 rfl w.heap.size 49 i0 (.agg #[.int .i64 0, .int .i64 0, .int .i64 0]) 3 24 Tryd.underlying27 I1.out I2.out I3.out I4.out rfl (by decide) _ _ _ rfl (World.ownsRow.alloc TOPL3.out _) ⟨w2.heap.size, 0, none⟩ 1 1 [.int .i64 3, .int .i64 ((L0.length : Int) - 1), .int .i64 ((L0.length : Int) + 1)] rfl rfl cells_of3 (by simp [Value.oneCell']) ?c3 ?c4 ?c5 ?_))
          case c3 => unfold maxLen; omega
          case c4 => omega
          case c5 => simp; omega
          intro oL3 w3 ho hg _
          obtain ⟨L3, hL3⟩ : ∃ M, M = L2 ++ [(⟨3, ((L0.length : Int) - 1), ((L0.length : Int) + 1)⟩ : Stp)] := ⟨_, rfl⟩
          have KL3 : Hid (L3.length = L2.length + 1) := Lib.hid (by rw [hL3]; simp)
          have CL30 : Hid (Comp w bp n (.slice (some ⟨b1, o1, none⟩) nl k1) (.slice (some ⟨b2, o2, none⟩) nl k2) L3 oL3 w3) := Lib.hid (by rw [hL3]; exact CL2.out.more (s := ⟨3, ((L0.length : Int) - 1), ((L0.length : Int) + 1)⟩) (grown_trans (World.grownBy_alloc _ _ _) hg) ho rfl)
          have EL3 := Lib.hid hL3
          obtain ⟨avL3, cvL3, evL3, _, _⟩ := CL30.out.own.form
          subst evL3
          have CL3 := Lib.hid CL30.out
          clear ho hg hL3 TOPL3 hcn CL30
          have mL3 : (L3.length : Int) ≤ 16 := by have := KL3.out; omega
          have nL3 : 1 ≤ (L3.length : Int) := by have := KL3.out; omega
          have CF : Hid (cmp l m (t + 1) = L3) := Lib.hid (by rw [CN.out]; unfold cPut; simp only [if_neg HC.out, if_neg h0t]; rw [EL3.out, EL2.out, EL1.out]; simp <;> omega)
          go_wp2_with fail
          go_roundw
          case rel => exact ⟨t + 1, by omega, by go_num, congrArg (Value.int .i64) (by rw [if_neg (by omega), CF.out]; first | done | omega), by rw [CF.out]; exact CL3.out⟩
          case measure => simp [intOf]; omega
    · obtain rfl : t = nl := by omega
      have hi : ¬ (t : Int) < (t : Int) := by omega
      have O : Hid (SOwn wr w.heap.size u3 (cmp l m t)) := Lib.hid C.out.own
      have G : Hid (w.grownBy wr none) := Lib.hid C.out.grown
      go_wp2_with fail
      go_ret
      exact ⟨_, rfl, G.out, O.out⟩
/-- what ProgOf answers. -/
def ofL (n : Int) (l m : List Int) : List Stp := bif pForm n l m then cmp l m l.length else []

set_option maxHeartbeats 4000000 in
set_option maxRecDepth 20000 in
theorem implProgOf (n : Int) (u v : Value) (l m : List Int) (w : World) (hu : Sl w u l) (hv : Sl w v m) :
    Calls Tryd.prog 14 #[.agg #[.int .i64 n, u, v]] w (NewSteps2 (ofL n l m) (pForm n l m) w) := by
  have U := Lib.hid hu
  have V := Lib.hid hv
  obtain ⟨a1, c1, e1, _, _, _⟩ := hu
  obtain ⟨a2, c2, e2, _, _, _⟩ := hv
  subst e1 e2
  have PC := Lib.hid (fun w' (hg : w.grownBy w' none) (h : pForm n l m = true) => planCompile n _ _ l m w' (U.out.grown hg) (V.out.grown hg) h)
  have OF : Hid (ofL n l m = bif pForm n l m then cmp l m l.length else []) := Lib.hid rfl
  generalize ofL n l m = an at *
  obtain ⟨nl, hnl⟩ : ∃ x, l.length = x := ⟨_, rfl⟩
  obtain ⟨ml, hml⟩ : ∃ x, m.length = x := ⟨_, rfl⟩
  rw [hnl] at U PC OF ⊢
  rw [hml] at V PC ⊢
  clear hnl hml
  have R0 : Hid (Blk (w.alloc (.cells #[.int .i64 n, .slice a1 nl c1, .slice a2 ml c2] 25)) w.heap.size 25 [.int .i64 n, .slice a1 nl c1, .slice a2 ml c2]) := Lib.hid (heap_alloc_new _ _)
  have G0 := Lib.hid (grown_alloc (World.grownBy.refl w none) (.cells #[.int .i64 n, .slice a1 nl c1, .slice a2 ml c2] 25))
  go_enter Tryd.func14, Tryd.ntmps14
  go_upto_region 1 with fail
  generalize w.alloc (.cells #[.int .i64 n, .slice a1 nl c1, .slice a2 ml c2] 25) = w0 at *
  generalize w.heap.size = bp at *
  have k0 := R0.out.cell (i := 0) rfl
  have k1 := R0.out.cell (i := 1) rfl
  have k2 := R0.out.cell (i := 2) rfl
  go_wp2_with fail
  refine (implTimes n _ _ l m _ (U.out.grown G0.out) (V.out.grown G0.out)).mono ?_
  rintro e w5 ⟨rfl, hg⟩
  have hT := sprOr_len n l m
  obtain ⟨t, ht⟩ : ∃ t, sprOr n l m = t := ⟨_, rfl⟩
  rw [ht] at hT ⊢
  clear ht
  have hs := storeT w5 hT
  have hvl : (vals t).length = 8 := by rw [vals_length]; exact hT
  have G6 := Lib.hid (grown_alloc (grown_trans G0.out hg) (.cells (vals t).toArray 68))
  have R6 := Lib.hid ((R0.out.kept hg (by simp)).kept (World.grownBy_alloc w5 (.cells (vals t).toArray 68) none) (by simp))
  obtain ⟨q, hq⟩ : ∃ q, pForm n l m = q := ⟨_, rfl⟩
  have Q := Lib.hid hq
  rw [hq] at PC OF ⊢
  clear hq hg R0 G0 hT U V k0 k1 k2
  go_upto_region 2 with fail
  clear hs hvl
  generalize w5.alloc (.cells (vals t).toArray 68) = w6 at *
  generalize w5.heap.size = gt at *
  cases q with
  | false =>
    obtain rfl : an = [] := OF.out
    go_wp2_with fail
    exact bodyPost_ret (v := .tuple #[.slice none 0 0, .bool false]) (by simp [results, Tryd.results14, go_sem]) rfl ⟨_, by rw [Q.out], G6.out, SOwn.none_ _ _⟩
  | true =>
    obtain rfl : an = cmp l m nl := OF.out
    have k0 := R6.out.cell (i := 0) rfl
    have k1 := R6.out.cell (i := 1) rfl
    have k2 := R6.out.cell (i := 2) rfl
    go_wp2_with fail
    refine (PC.out _ G6.out (by first | rfl | trivial)).mono ?_
    rintro e w7 ⟨vv, rfl, hg, ho⟩
    have G7 := Lib.hid (grown_trans G6.out hg)
    have O7 := Lib.hid (ho.lower G6.out.size)
    clear hg ho k0 k1 k2
    obtain ⟨pa, pc, pe, _, _⟩ := O7.out.form
    subst pe
    go_wp2_with fail
    exact bodyPost_ret (v := .tuple #[.slice pa (cmp l m nl).length pc, .bool true]) (by simp [results, Tryd.results14, go_sem]) rfl ⟨_, by rw [Q.out], G7.out, O7.out⟩
end Go.Proofs.YtlehcpcejkpbmaaDoor
