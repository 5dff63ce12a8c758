/-
  A program that is drawn, some spoilt.
  Conditions: the reader has been read at most 800,000 times.
-/
import Derived.Test.YtlehcpcejkpbmaaDoorSpecOf
import Derived.Test.YtlehcpcejkpbmaaDoorStepHelp
import Derived.Test.YtlehcpcejkpbmaaDoorDrawPlan
namespace Go.Proofs.YtlehcpcejkpbmaaDoor
open Go.RowKit
set_option linter.unusedVariables false

/-- what drawing a program leaves. -/
def DrawnProg (c p : Nat) (w : World) (e : Ending) (w' : World) : Prop :=
  ∃ (v : Value) (L : List Stp), e = .returned v ∧ 1 ≤ L.length ∧ L.length ≤ 12 ∧ SOwn w' w.heap.size v L ∧ Far c w w' ∧ Rd w' c (p + 70)
/-- where the drawing stands: the reader, the steps so far. -/
structure PD (c p : Nat) (w : World) (L : List Stp) (v : Value) (W : World) : Prop where
  far : Far c w W
  rd : Rd W c p
  own : SOwn W w.heap.size v L
  low : c < w.heap.size
namespace PD
variable {c p q : Nat} {w W W' : World} {L M : List Stp} {v v' : Value}
theorem pick (h : PD c p w L v W) (hf : Far c W W') (hr : Rd W' c q) : PD c q w L v W' :=
  ⟨h.far.trans hf, hr, h.own.kept (far_grown hf) (sfar h.own h.low), h.low⟩
theorem more (h : PD c p w L v W) (hg : W.grownBy W' none) : PD c p w L v W' :=
  ⟨h.far.own hg (by simp), h.rd.up hg (by simp), h.own.still hg, h.low⟩
theorem put (h : PD c p w L v W) (hg : W.grownBy W' v.ownBlock) (ho : SOwn W' w.heap.size v' M) : PD c p w M v' W' :=
  ⟨h.far.own hg (fun k hk => (h.own.lt k hk).1), h.rd.up hg (fun k hk => by have := (h.own.lt k hk).1; have := h.low; omega), ho, h.low⟩
theorem mono (h : PD c p w L v W) (hq : p ≤ q) : PD c q w L v W := ⟨h.far, h.rd.mono hq, h.own, h.low⟩
theorem size (h : PD c p w L v W) : w.heap.size ≤ W.heap.size := h.far.size
end PD
theorem take_here {L : List Stp} {j : Nat} (h : j < L.length) : L = L.take j ++ L.getD j szero :: L.drop (j + 1) := by
  rw [List.getD_eq_getElem?_getD, List.getElem?_eq_getElem h]
  simp
/-- one number of a step is written. -/
theorem SOwn.set1 {w : World} {base g cap n : Nat} {L : List Stp} (h : SOwn w base (.slice (some ⟨g, 0, none⟩) n cap) L) (hn : n = L.length) {j : Nat} (hj : j < L.length) (c : Nat) (hc : c < 3) (y : Int) :
    ∃ L' : List Stp, L'.length = L.length ∧ SOwn (w.setCell ⟨g, j * 3 + c, none⟩ (.int .i64 y)) base (.slice (some ⟨g, 0, none⟩) n cap) L' ∧ w.grownBy (w.setCell ⟨g, j * 3 + c, none⟩ (.int .i64 y)) (some g) := by
  obtain ⟨A, s, B, hL, hA⟩ : ∃ (A : List Stp) (s : Stp) (B : List Stp), L = A ++ s :: B ∧ A.length = j := ⟨L.take j, L.getD j szero, L.drop (j + 1), take_here hj, by rw [List.length_take]; omega⟩
  subst hL hA
  unfold SOwn at h
  rw [← hn] at h
  have h1 := World.ownsRow.stored h (A.length * 3 + c) (.int .i64 y)
  rw [vals_set] at h1
  have hl := sflat_len A
  have e : ∀ s' : Stp, ([s.op, s.a, s.b] ++ sflat B).set c y = [s'.op, s'.a, s'.b] ++ sflat B → (sflat (A ++ s :: B)).set (A.length * 3 + c) y = sflat (A ++ s' :: B) := fun s' hs => by
    rw [sflat_app, sflat_app, sflat_cons, sflat_cons, List.set_append_right _ _ (by omega), hl, Nat.add_sub_cancel_left, hs]
  match c, hc with
  | 0, _ =>
    refine ⟨A ++ ⟨y, s.a, s.b⟩ :: B, by simp, sown_len (n := n) ?_ (by rw [hn]; simp), h1.2⟩
    rw [← e ⟨y, s.a, s.b⟩ rfl]; exact h1.1
  | 1, _ =>
    refine ⟨A ++ ⟨s.op, y, s.b⟩ :: B, by simp, sown_len (n := n) ?_ (by rw [hn]; simp), h1.2⟩
    rw [← e ⟨s.op, y, s.b⟩ rfl]; exact h1.1
  | 2, _ =>
    refine ⟨A ++ ⟨s.op, s.a, y⟩ :: B, by simp, sown_len (n := n) ?_ (by rw [hn]; simp), h1.2⟩
    rw [← e ⟨s.op, s.a, y⟩ rfl]; exact h1.1

set_option maxHeartbeats 8000000 in
set_option maxRecDepth 20000 in
theorem drawProg (c p : Nat) (w : World) (h : Rd w c p) (hp : p ≤ 700000) : Calls Tryd.prog 64 #[.pointer (some ⟨c, 0, none⟩)] w (DrawnProg c p w) := by
  have hcw := h.lt
  have R0 := Lib.hid h
  clear h
  obtain ⟨i0, hi, hz0, hz1, hz2⟩ := info_parts infoStep
  have I1 := Lib.hid hi
  have I2 := Lib.hid hz0
  have I3 := Lib.hid hz1
  have I4 := Lib.hid hz2
  clear hi hz0 hz1 hz2
  go_enter Tryd.func64, Tryd.ntmps64
  go_wp2_with fail
  refine (pick c p _ _ R0.out (by omega) (by omega) (by omega)).mono ?_
  rintro e w1 ⟨x, x0, x1, rfl, hf, h1⟩
  have s1 : w.heap.size ≤ w1.heap.size := hf.size
  have D2 : Hid (PD c (p + 1) w [⟨1, x, 0⟩] (.slice (some ⟨w1.heap.size, 0, none⟩) 1 1) (w1.alloc (.cells #[.int .i64 1, .int .i64 x, .int .i64 0] 49))) := Lib.hid ⟨hf.trans (Far.alloc _ _), h1.alloc _, sown_len (n := 1) ⟨by simp [sflat, vals], .inr ⟨w1.heap.size, 1, _, rfl, s1, heap_alloc_new w1 _, Nat.le_refl _, by simp [maxLen], by simp, by simp [sflat, vals]⟩⟩ rfl, hcw⟩
  clear hf h1 R0
  go_upto_region 2 with fail
  generalize w1.alloc (.cells #[.int .i64 1, .int .i64 x, .int .i64 0] 49) = w2 at *
  generalize w1.heap.size = g1 at *
  go_wp2_with fail
  refine (drawPlan c (p + 1) _ D2.out.rd (by omega)).mono ?_
  rintro e w3 ⟨k, d, u, v, l, m, hk, rfl, hl4, hu, hv, hf, h3⟩
  obtain ⟨au, cu, eu, _, _, _⟩ := hu.sl
  obtain ⟨av, cv, ev, _, _, _⟩ := hv.sl
  subst eu ev
  obtain ⟨nl, hnl⟩ : ∃ x, x = l.length := ⟨_, rfl⟩
  obtain ⟨ml, hml⟩ : ∃ x, x = m.length := ⟨_, rfl⟩
  have OFL : Hid ((ofL d l m).length ≤ 12) := Lib.hid (by
    unfold ofL
    cases pForm d l m with
    | false => simp
    | true => have := (cmp_len l m l.length).2; simp; omega)
  have OFP : Hid (pForm d l m = true → 1 ≤ (ofL d l m).length) := Lib.hid (fun h => by
    unfold ofL
    rw [h]
    have h1 := (cmp_len l m l.length).1
    have h2 := (form_pos h).1
    show 1 ≤ (cmp l m l.length).length
    omega)
  rw [← hnl] at hu ⊢
  rw [← hml] at hv ⊢
  have ga := World.grownBy_alloc w3 (.cells #[.int .i64 d, .slice au nl cu, .slice av ml cv] 25) none
  have D4 : Hid (PD c (p + 16) w [⟨1, x, 0⟩] (.slice (some ⟨g1, 0, none⟩) 1 1) (w3.alloc (.cells #[.int .i64 d, .slice au nl cu, .slice av ml cv] 25))) := Lib.hid ((D2.out.pick hf h3).more ga)
  have U4 := Lib.hid (hu.still ga).sl
  have V4 := Lib.hid (hv.still ga).sl
  have K4 : Hid (Blk (w3.alloc (.cells #[.int .i64 d, .slice au nl cu, .slice av ml cv] 25)) w3.heap.size 25 [.int .i64 d, .slice au nl cu, .slice av ml cv]) := Lib.hid (heap_alloc_new _ _)
  clear hu hv hf h3 ga D2 hnl hml hl4
  go_upto_region 3 with fail
  generalize w3.alloc (.cells #[.int .i64 d, .slice au nl cu, .slice av ml cv] 25) = w4 at *
  generalize w3.heap.size = bp at *
  have k0 := K4.out.cell (i := 0) rfl
  have k1 := K4.out.cell (i := 1) rfl
  have k2 := K4.out.cell (i := 2) rfl
  go_wp2_with fail
  refine (specProgOf d _ _ l m _ U4.out V4.out).mono ?_
  rintro e w5 ⟨vx, rfl, hg, ho⟩
  have D5 := Lib.hid (D4.out.more hg)
  have X5 : Hid (PD c (p + 16) w (ofL d l m) vx w5) := Lib.hid ⟨D5.out.far, D5.out.rd, ho.lower (D4.out.size), hcw⟩
  obtain ⟨b, hb⟩ : ∃ b, pForm d l m = b := ⟨_, rfl⟩
  rw [hb] at OFP ⊢
  generalize ofL d l m = LX at *
  clear hb hg ho D4 U4 V4 K4 k0 k1 k2
  cases b with
  | true =>
    go_wp2_with fail
    refine (pick c (p + 16) _ _ X5.out.rd (by omega) (by omega) (by omega)).mono ?_
    rintro e w6 ⟨y, y0, y1, rfl, hf, h6⟩
    have D6 := Lib.hid (D5.out.pick hf h6)
    have X6 := Lib.hid (X5.out.pick hf h6)
    clear hf h6 D5 X5
    by_cases hy : y = 0
    · subst hy
      have LB1 : 1 ≤ LX.length := OFP.out (by first | rfl | trivial)
      have LB2 : LX.length ≤ 12 := OFL.out
      clear OFP OFL D6
      go_wp2_with fail
      refine (pick c (p + 16 + 1) _ _ X6.out.rd (by omega) (by omega) (by omega)).mono ?_
      rintro e wt ⟨y, y0, y1, rfl, hf, ht⟩
      have DT := Lib.hid (X6.out.pick hf ht)
      clear hf ht X6
      obtain ⟨tg, tc, te, _, _⟩ := DT.out.own.form
      obtain ⟨tn, htn⟩ : ∃ n, n = LX.length := ⟨_, rfl⟩
      rw [← htn] at te LB1 LB2
      subst te
      have TN := Lib.hid htn
      clear htn
      have tb1 : 1 ≤ (tn : Int) := by omega
      have tb2 : (tn : Int) ≤ 12 := by omega
      by_cases hy0 : y = 0
      · subst hy0
        go_wp2_with fail
        refine (pick c (p + 16 + 1 + 1) _ _ DT.out.rd (by omega) (by omega) (by omega)).mono ?_
        rintro e wu ⟨j', j0, j1, rfl, hf, hu⟩
        obtain ⟨j, hj, rfl⟩ := below_n j0 j1
        have DU := Lib.hid (DT.out.pick hf hu)
        clear hf hu DT
        have j1' : (j : Int) < (tn : Int) := by omega
        go_wp2_with fail
        refine (pick c (p + 16 + 1 + 1 + 1) _ _ DU.out.rd (by omega) (by omega) (by omega)).mono ?_
        rintro e wv ⟨z, z0, z1, rfl, hf, hv⟩
        have DV := Lib.hid (DU.out.pick hf hv)
        clear hf hv DU
        obtain ⟨g', c', e', _, c0, c1, c2, fz⟩ := DV.out.own.at_ (i := j) (by rw [← TN.out]; exact hj)
        injection e' with e1 e2 e3
        subst e1
        clear e2 e3 c0 c2
        have f1 := fz (j * 3 + 1)
        obtain ⟨L', hL', hO', hG'⟩ := DV.out.own.set1 TN.out (by rw [← TN.out]; exact hj) 1 (by omega) (z - 1)
        have DW : Hid (PD c (p + 16 + 1 + 1 + 1 + 1) w L' (.slice (some ⟨g', 0, none⟩) tn tc) (wv.setCell ⟨g', j * 3 + 1, none⟩ (.int .i64 (z - 1)))) := Lib.hid (DV.out.put hG' hO')
        have LL' : 1 ≤ L'.length ∧ L'.length ≤ 12 := by rw [hL', ← TN.out]; omega
        generalize (LX.getD j szero).a = old at *
        clear fz hO' hG' hL' DV
        go_wp2_with fail
        go_ret
        exact ⟨_, L', rfl, LL'.1, LL'.2, DW.out.own, DW.out.far, (DW.out.mono (by omega)).rd⟩
      · have ny0 : (y == 0) = false := by rw [beq_eq_false_iff_ne]; exact hy0
        by_cases hy1 : y = 1
        · subst hy1
          go_wp2_with fail
          refine (pick c (p + 16 + 1 + 1) _ _ DT.out.rd (by omega) (by omega) (by omega)).mono ?_
          rintro e wu ⟨j', j0, j1, rfl, hf, hu⟩
          obtain ⟨j, hj, rfl⟩ := below_n j0 j1
          have DU := Lib.hid (DT.out.pick hf hu)
          clear hf hu DT
          have j1' : (j : Int) < (tn : Int) := by omega
          go_wp2_with fail
          refine (pick c (p + 16 + 1 + 1 + 1) _ _ DU.out.rd (by omega) (by omega) (by omega)).mono ?_
          rintro e wv ⟨z, z0, z1, rfl, hf, hv⟩
          have DV := Lib.hid (DU.out.pick hf hv)
          clear hf hv DU
          obtain ⟨g', c', e', _, c0, c1, c2, fz⟩ := DV.out.own.at_ (i := j) (by rw [← TN.out]; exact hj)
          injection e' with e1 e2 e3
          subst e1
          clear e2 e3 c1 c2
          have f1 := fz (j * 3)
          obtain ⟨L', hL', hO', hG'⟩ := DV.out.own.set1 TN.out (by rw [← TN.out]; exact hj) 0 (by omega) z
          have DW : Hid (PD c (p + 16 + 1 + 1 + 1 + 1) w L' (.slice (some ⟨g', 0, none⟩) tn tc) (wv.setCell ⟨g', j * 3, none⟩ (.int .i64 z))) := Lib.hid (DV.out.put hG' hO')
          have LL' : 1 ≤ L'.length ∧ L'.length ≤ 12 := by rw [hL', ← TN.out]; omega
          generalize (LX.getD j szero).op = old at *
          clear fz hO' hG' hL' DV
          go_wp2_with fail
          go_ret
          exact ⟨_, L', rfl, LL'.1, LL'.2, DW.out.own, DW.out.far, (DW.out.mono (by omega)).rd⟩
        · have ny1 : (y == 1) = false := by rw [beq_eq_false_iff_ne]; exact hy1
          go_wp2_with fail
          go_ret
          exact ⟨_, LX, rfl, by rw [← TN.out]; omega, by rw [← TN.out]; omega, DT.out.own, DT.out.far, (DT.out.mono (by omega)).rd⟩
    · have hy' : (y == 0) = false := by rw [beq_eq_false_iff_ne]; exact hy
      clear X6 OFP OFL
      go_wp2_with fail
      refine (pick c (p + 16 + 1) _ _ D6.out.rd (by omega) (by omega) (by omega)).mono ?_
      rintro e w7 ⟨n', n0, n1, rfl, hf, h7⟩
      obtain ⟨n, hn, rfl⟩ := below_n (n := 8) n0 n1
      have D7 := Lib.hid (D6.out.pick hf h7)
      clear hf h7 D6
      go_wp2_with fail
      go_loopw [3, 8] (fun o i wr => ∃ (k : Nat) (L : List Stp), i = .int .i64 k ∧ 1 ≤ L.length ∧ L.length + k ≤ 8 ∧ PD c (p + 16 + 1 + 1 + 6 * (8 - k)) w L o wr) (fun _ i _ => (intOf i).toNat)
      case atStart => exact ⟨n, _, rfl, by simp, by simp; omega, D7.out.mono (by omega)⟩
      case round =>
        obtain ⟨k, L, rfl, hL1, hL8, hd⟩ := hrel
        have D := Lib.hid hd
        clear hd D7
        by_cases hk0 : k = 0
        · subst hk0
          have LB1 : 1 ≤ L.length := hL1
          have LB2 : L.length ≤ 12 := by omega
          have DQ : Hid (PD c (p + 16 + 1 + 50) w L u3 wr) := Lib.hid (D.out.mono (by omega))
          clear D hL1 hL8
          go_wp2_with fail
          refine (pick c (p + 16 + 1 + 50) _ _ DQ.out.rd (by omega) (by omega) (by omega)).mono ?_
          rintro e wt ⟨y, y0, y1, rfl, hf, ht⟩
          have DT := Lib.hid (DQ.out.pick hf ht)
          clear hf ht DQ
          obtain ⟨tg, tc, te, _, _⟩ := DT.out.own.form
          obtain ⟨tn, htn⟩ : ∃ n, n = L.length := ⟨_, rfl⟩
          rw [← htn] at te LB1 LB2
          subst te
          have TN := Lib.hid htn
          clear htn
          have tb1 : 1 ≤ (tn : Int) := by omega
          have tb2 : (tn : Int) ≤ 12 := by omega
          by_cases hy0 : y = 0
          · subst hy0
            go_wp2_with fail
            refine (pick c (p + 16 + 1 + 50 + 1) _ _ DT.out.rd (by omega) (by omega) (by omega)).mono ?_
            rintro e wu ⟨j', j0, j1, rfl, hf, hu⟩
            obtain ⟨j, hj, rfl⟩ := below_n j0 j1
            have DU := Lib.hid (DT.out.pick hf hu)
            clear hf hu DT
            have j1' : (j : Int) < (tn : Int) := by omega
            go_wp2_with fail
            refine (pick c (p + 16 + 1 + 50 + 1 + 1) _ _ DU.out.rd (by omega) (by omega) (by omega)).mono ?_
            rintro e wv ⟨z, z0, z1, rfl, hf, hv⟩
            have DV := Lib.hid (DU.out.pick hf hv)
            clear hf hv DU
            obtain ⟨g', c', e', _, c0, c1, c2, fz⟩ := DV.out.own.at_ (i := j) (by rw [← TN.out]; exact hj)
            injection e' with e1 e2 e3
            subst e1
            clear e2 e3 c0 c2
            have f1 := fz (j * 3 + 1)
            obtain ⟨L', hL', hO', hG'⟩ := DV.out.own.set1 TN.out (by rw [← TN.out]; exact hj) 1 (by omega) (z - 1)
            have DW : Hid (PD c (p + 16 + 1 + 50 + 1 + 1 + 1) w L' (.slice (some ⟨g', 0, none⟩) tn tc) (wv.setCell ⟨g', j * 3 + 1, none⟩ (.int .i64 (z - 1)))) := Lib.hid (DV.out.put hG' hO')
            have LL' : 1 ≤ L'.length ∧ L'.length ≤ 12 := by rw [hL', ← TN.out]; omega
            generalize (L.getD j szero).a = old at *
            clear fz hO' hG' hL' DV
            go_wp2_with fail
            go_ret
            exact ⟨_, L', rfl, LL'.1, LL'.2, DW.out.own, DW.out.far, (DW.out.mono (by omega)).rd⟩
          · have ny0 : (y == 0) = false := by rw [beq_eq_false_iff_ne]; exact hy0
            by_cases hy1 : y = 1
            · subst hy1
              go_wp2_with fail
              refine (pick c (p + 16 + 1 + 50 + 1) _ _ DT.out.rd (by omega) (by omega) (by omega)).mono ?_
              rintro e wu ⟨j', j0, j1, rfl, hf, hu⟩
              obtain ⟨j, hj, rfl⟩ := below_n j0 j1
              have DU := Lib.hid (DT.out.pick hf hu)
              clear hf hu DT
              have j1' : (j : Int) < (tn : Int) := by omega
              go_wp2_with fail
              refine (pick c (p + 16 + 1 + 50 + 1 + 1) _ _ DU.out.rd (by omega) (by omega) (by omega)).mono ?_
              rintro e wv ⟨z, z0, z1, rfl, hf, hv⟩
              have DV := Lib.hid (DU.out.pick hf hv)
              clear hf hv DU
              obtain ⟨g', c', e', _, c0, c1, c2, fz⟩ := DV.out.own.at_ (i := j) (by rw [← TN.out]; exact hj)
              injection e' with e1 e2 e3
              subst e1
              clear e2 e3 c1 c2
              have f1 := fz (j * 3)
              obtain ⟨L', hL', hO', hG'⟩ := DV.out.own.set1 TN.out (by rw [← TN.out]; exact hj) 0 (by omega) z
              have DW : Hid (PD c (p + 16 + 1 + 50 + 1 + 1 + 1) w L' (.slice (some ⟨g', 0, none⟩) tn tc) (wv.setCell ⟨g', j * 3, none⟩ (.int .i64 z))) := Lib.hid (DV.out.put hG' hO')
              have LL' : 1 ≤ L'.length ∧ L'.length ≤ 12 := by rw [hL', ← TN.out]; omega
              generalize (L.getD j szero).op = old at *
              clear fz hO' hG' hL' DV
              go_wp2_with fail
              go_ret
              exact ⟨_, L', rfl, LL'.1, LL'.2, DW.out.own, DW.out.far, (DW.out.mono (by omega)).rd⟩
            · have ny1 : (y == 1) = false := by rw [beq_eq_false_iff_ne]; exact hy1
              go_wp2_with fail
              go_ret
              exact ⟨_, L, rfl, by rw [← TN.out]; omega, by rw [← TN.out]; omega, DT.out.own, DT.out.far, (DT.out.mono (by omega)).rd⟩
        · have hkp : (k : Int) > 0 := by omega
          obtain ⟨la, lc, le, _, _⟩ := D.out.own.form
          subst le
          have DP : Hid (PD c (p + 16 + 1 + 1 + 6 * (8 - k)) w L (.slice la L.length lc) wr) := Lib.hid D.out
          clear D
          have b1 : 1 ≤ (L.length : Int) := by omega
          have b2 : (L.length : Int) ≤ 8 := by omega
          go_wp2_with fail
          refine (pick c (p + 16 + 1 + 1 + 6 * (8 - k)) _ _ DP.out.rd (by omega) (by omega) (by omega)).mono ?_
          rintro e v1 ⟨x1, xa1, xb1, rfl, hf, hr⟩
          have E1 := Lib.hid (DP.out.pick hf hr)
          clear hf hr DP
          go_wp2_with fail
          refine (pick c (p + 16 + 1 + 1 + 6 * (8 - k) + 1) _ _ E1.out.rd (by omega) (by omega) (by omega)).mono ?_
          rintro e v2 ⟨x2, xa2, xb2, rfl, hf, hr⟩
          have E2 := Lib.hid (E1.out.pick hf hr)
          clear hf hr E1
          go_wp2_with fail
          refine (pick c (p + 16 + 1 + 1 + 6 * (8 - k) + 1 + 1) _ _ E2.out.rd (by omega) (by omega) (by omega)).mono ?_
          rintro e v3 ⟨x3, xa3, xb3, rfl, hf, hr⟩
          have E3 := Lib.hid (E2.out.pick hf hr)
          clear hf hr E2
          go_wp2_with fail
          refine (pick c (p + 16 + 1 + 1 + 6 * (8 - k) + 1 + 1 + 1) _ _ E3.out.rd (by omega) (by omega) (by omega)).mono ?_
          rintro e v4 ⟨x4, xa4, xb4, rfl, hf, hr⟩
          have E4 := Lib.hid (E3.out.pick hf hr)
          clear hf hr E3
          go_wp2_with fail
          refine (pick c (p + 16 + 1 + 1 + 6 * (8 - k) + 1 + 1 + 1 + 1) _ _ E4.out.rd (by omega) (by omega) (by omega)).mono ?_
          rintro e v5 ⟨x5, xa5, xb5, rfl, hf, hr⟩
          have E5 := Lib.hid (E4.out.pick hf hr)
          clear hf hr E4
          have KB : Hid (Blk (v5.alloc (.cells #[.int .i64 1, .int .i64 x1, .int .i64 0, .int .i64 2, .int .i64 x2, .int .i64 x3, .int .i64 3, .int .i64 x4, .int .i64 x5] 49)) v5.heap.size 49 [.int .i64 1, .int .i64 x1, .int .i64 0, .int .i64 2, .int .i64 x2, .int .i64 x3, .int .i64 3, .int .i64 x4, .int .i64 x5]) := Lib.hid (heap_alloc_new _ _)
          have EB := Lib.hid (E5.out.more (World.grownBy_alloc v5 (.cells #[.int .i64 1, .int .i64 x1, .int .i64 0, .int .i64 2, .int .i64 x2, .int .i64 x3, .int .i64 3, .int .i64 x4, .int .i64 x5] 49) none))
          have cb : c < v5.heap.size := by have := E5.out.size; omega
          clear E5
          go_wp2_with fail
          generalize v5.alloc (.cells #[.int .i64 1, .int .i64 x1, .int .i64 0, .int .i64 2, .int .i64 x2, .int .i64 x3, .int .i64 3, .int .i64 x4, .int .i64 x5] 49) = v6 at *
          generalize v5.heap.size = bb at *
          refine (pick c (p + 16 + 1 + 1 + 6 * (8 - k) + 1 + 1 + 1 + 1 + 1) _ _ EB.out.rd (by omega) (by omega) (by omega)).mono ?_
          rintro e v7 ⟨q', q0, q1, rfl, hf, hr⟩
          have E7 := Lib.hid (EB.out.pick hf hr)
          have KC : Hid (Blk v7 bb 49 [.int .i64 1, .int .i64 x1, .int .i64 0, .int .i64 2, .int .i64 x2, .int .i64 x3, .int .i64 3, .int .i64 x4, .int .i64 x5]) := Lib.hid (KB.out.kept (far_grown hf) (fun e => by injection e with e; omega))
          clear hf hr EB KB
          have TOP : Hid (v7.ownsRow w.heap.size 49 3 (.slice la L.length lc) L.length (vals (sflat L))) := Lib.hid E7.out.own
          have szz : w.heap.size ≤ v7.heap.size := E7.out.size
          obtain ⟨s, hs⟩ : ∃ s : Stp, (q' = 0 ∧ s = ⟨1, x1, 0⟩) ∨ (q' = 1 ∧ s = ⟨2, x2, x3⟩) ∨ (q' = 2 ∧ s = ⟨3, x4, x5⟩) := by
            rcases (by omega : q' = 0 ∨ q' = 1 ∨ q' = 2) with h | h | h
            · exact ⟨_, .inl ⟨h, rfl⟩⟩
            · exact ⟨_, .inr (.inl ⟨h, rfl⟩)⟩
            · exact ⟨_, .inr (.inr ⟨h, rfl⟩)⟩
          obtain ⟨qn, hqn, rfl⟩ := below_n (n := 3) q0 q1
          have qn3 : (qn : Int) < 3 := by omega
          have KD : Hid (v7.cell? ⟨bb, qn * 3, none⟩ = some (.int .i64 s.op) ∧ v7.cell? ⟨bb, qn * 3 + 1, none⟩ = some (.int .i64 s.a) ∧ v7.cell? ⟨bb, qn * 3 + 2, none⟩ = some (.int .i64 s.b)) := Lib.hid (by
            rcases hs with ⟨h, rfl⟩ | ⟨h, rfl⟩ | ⟨h, rfl⟩
            · obtain rfl : qn = 0 := by omega
              exact ⟨KC.out.cell (i := 0) rfl, KC.out.cell (i := 1) rfl, KC.out.cell (i := 2) rfl⟩
            · obtain rfl : qn = 1 := by omega
              exact ⟨KC.out.cell (i := 3) rfl, KC.out.cell (i := 4) rfl, KC.out.cell (i := 5) rfl⟩
            · obtain rfl : qn = 2 := by omega
              exact ⟨KC.out.cell (i := 6) rfl, KC.out.cell (i := 7) rfl, KC.out.cell (i := 8) rfl⟩)
          clear hs KC q0 q1
          obtain ⟨so, sa, sb⟩ := s
          have z0 : v7.cell? ⟨bb, qn * 3, none⟩ = some (.int .i64 so) := KD.out.1
          have z1 : v7.cell? ⟨bb, qn * 3 + 1, none⟩ = some (.int .i64 sa) := KD.out.2.1
          have z2 : v7.cell? ⟨bb, qn * 3 + 2, none⟩ = some (.int .i64 sb) := KD.out.2.2
          clear KD
          go_wp2_with (first
            | (at_builtin; refine wpList_append_own _ rfl _ _ 27 rfl w.heap.size 49 i0 (.agg #[.int .i64 0, .int .i64 0, .int .i64 0]) 3 24 Tryd.underlying27 I1.out I2.out I3.out I4.out rfl (by decide) _ _ _ rfl (World.ownsRow.alloc TOP.out _) ⟨v7.heap.size, 0, none⟩ 1 1 [.int .i64 so, .int .i64 sa, .int .i64 sb] rfl rfl cells_of3 (by simp [Value.oneCell']) ?c3 ?c4 ?c5 ?_))
          case c3 => unfold maxLen; omega
          case c4 => omega
          case c5 => simp; omega
          intro o' w9 ho hg _
          have D9 : Hid (PD c (p + 16 + 1 + 1 + 6 * (8 - k) + 1 + 1 + 1 + 1 + 1 + 1) w (L ++ [⟨so, sa, sb⟩]) o' w9) := Lib.hid (E7.out.put (grown_trans (World.grownBy_alloc _ _ _) hg) (sown_snoc ho rfl))
          clear ho hg TOP E7 z0 z1 z2
          obtain ⟨k, rfl⟩ : ∃ k', k = k' + 1 := ⟨k - 1, by omega⟩
          go_wp2_with fail
          go_roundw
          case rel => exact ⟨k, _, by go_num, by simp, by simp; omega, D9.out.mono (by omega)⟩
          case measure => simp [intOf]
  | false =>
    clear X5 OFP OFL
    go_wp2_with fail
    refine (pick c (p + 16) _ _ D5.out.rd (by omega) (by omega) (by omega)).mono ?_
    rintro e w7 ⟨n', n0, n1, rfl, hf, h7⟩
    obtain ⟨n, hn, rfl⟩ := below_n (n := 8) n0 n1
    have D7 := Lib.hid (D5.out.pick hf h7)
    clear hf h7 D5
    go_wp2_with fail
    go_loopw [3, 8] (fun o i wr => ∃ (k : Nat) (L : List Stp), i = .int .i64 k ∧ 1 ≤ L.length ∧ L.length + k ≤ 8 ∧ PD c (p + 16 + 1 + 6 * (8 - k)) w L o wr) (fun _ i _ => (intOf i).toNat)
    case atStart => exact ⟨n, _, rfl, by simp, by simp; omega, D7.out.mono (by omega)⟩
    case round =>
      obtain ⟨k, L, rfl, hL1, hL8, hd⟩ := hrel
      have D := Lib.hid hd
      clear hd D7
      by_cases hk0 : k = 0
      · subst hk0
        have LB1 : 1 ≤ L.length := hL1
        have LB2 : L.length ≤ 12 := by omega
        have DQ : Hid (PD c (p + 16 + 50) w L u3 wr) := Lib.hid (D.out.mono (by omega))
        clear D hL1 hL8
        go_wp2_with fail
        refine (pick c (p + 16 + 50) _ _ DQ.out.rd (by omega) (by omega) (by omega)).mono ?_
        rintro e wt ⟨y, y0, y1, rfl, hf, ht⟩
        have DT := Lib.hid (DQ.out.pick hf ht)
        clear hf ht DQ
        obtain ⟨tg, tc, te, _, _⟩ := DT.out.own.form
        obtain ⟨tn, htn⟩ : ∃ n, n = L.length := ⟨_, rfl⟩
        rw [← htn] at te LB1 LB2
        subst te
        have TN := Lib.hid htn
        clear htn
        have tb1 : 1 ≤ (tn : Int) := by omega
        have tb2 : (tn : Int) ≤ 12 := by omega
        by_cases hy0 : y = 0
        · subst hy0
          go_wp2_with fail
          refine (pick c (p + 16 + 50 + 1) _ _ DT.out.rd (by omega) (by omega) (by omega)).mono ?_
          rintro e wu ⟨j', j0, j1, rfl, hf, hu⟩
          obtain ⟨j, hj, rfl⟩ := below_n j0 j1
          have DU := Lib.hid (DT.out.pick hf hu)
          clear hf hu DT
          have j1' : (j : Int) < (tn : Int) := by omega
          go_wp2_with fail
          refine (pick c (p + 16 + 50 + 1 + 1) _ _ DU.out.rd (by omega) (by omega) (by omega)).mono ?_
          rintro e wv ⟨z, z0, z1, rfl, hf, hv⟩
          have DV := Lib.hid (DU.out.pick hf hv)
          clear hf hv DU
          obtain ⟨g', c', e', _, c0, c1, c2, fz⟩ := DV.out.own.at_ (i := j) (by rw [← TN.out]; exact hj)
          injection e' with e1 e2 e3
          subst e1
          clear e2 e3 c0 c2
          have f1 := fz (j * 3 + 1)
          obtain ⟨L', hL', hO', hG'⟩ := DV.out.own.set1 TN.out (by rw [← TN.out]; exact hj) 1 (by omega) (z - 1)
          have DW : Hid (PD c (p + 16 + 50 + 1 + 1 + 1) w L' (.slice (some ⟨g', 0, none⟩) tn tc) (wv.setCell ⟨g', j * 3 + 1, none⟩ (.int .i64 (z - 1)))) := Lib.hid (DV.out.put hG' hO')
          have LL' : 1 ≤ L'.length ∧ L'.length ≤ 12 := by rw [hL', ← TN.out]; omega
          generalize (L.getD j szero).a = old at *
          clear fz hO' hG' hL' DV
          go_wp2_with fail
          go_ret
          exact ⟨_, L', rfl, LL'.1, LL'.2, DW.out.own, DW.out.far, (DW.out.mono (by omega)).rd⟩
        · have ny0 : (y == 0) = false := by rw [beq_eq_false_iff_ne]; exact hy0
          by_cases hy1 : y = 1
          · subst hy1
            go_wp2_with fail
            refine (pick c (p + 16 + 50 + 1) _ _ DT.out.rd (by omega) (by omega) (by omega)).mono ?_
            rintro e wu ⟨j', j0, j1, rfl, hf, hu⟩
            obtain ⟨j, hj, rfl⟩ := below_n j0 j1
            have DU := Lib.hid (DT.out.pick hf hu)
            clear hf hu DT
            have j1' : (j : Int) < (tn : Int) := by omega
            go_wp2_with fail
            refine (pick c (p + 16 + 50 + 1 + 1) _ _ DU.out.rd (by omega) (by omega) (by omega)).mono ?_
            rintro e wv ⟨z, z0, z1, rfl, hf, hv⟩
            have DV := Lib.hid (DU.out.pick hf hv)
            clear hf hv DU
            obtain ⟨g', c', e', _, c0, c1, c2, fz⟩ := DV.out.own.at_ (i := j) (by rw [← TN.out]; exact hj)
            injection e' with e1 e2 e3
            subst e1
            clear e2 e3 c1 c2
            have f1 := fz (j * 3)
            obtain ⟨L', hL', hO', hG'⟩ := DV.out.own.set1 TN.out (by rw [← TN.out]; exact hj) 0 (by omega) z
            have DW : Hid (PD c (p + 16 + 50 + 1 + 1 + 1) w L' (.slice (some ⟨g', 0, none⟩) tn tc) (wv.setCell ⟨g', j * 3, none⟩ (.int .i64 z))) := Lib.hid (DV.out.put hG' hO')
            have LL' : 1 ≤ L'.length ∧ L'.length ≤ 12 := by rw [hL', ← TN.out]; omega
            generalize (L.getD j szero).op = old at *
            clear fz hO' hG' hL' DV
            go_wp2_with fail
            go_ret
            exact ⟨_, L', rfl, LL'.1, LL'.2, DW.out.own, DW.out.far, (DW.out.mono (by omega)).rd⟩
          · have ny1 : (y == 1) = false := by rw [beq_eq_false_iff_ne]; exact hy1
            go_wp2_with fail
            go_ret
            exact ⟨_, L, rfl, by rw [← TN.out]; omega, by rw [← TN.out]; omega, DT.out.own, DT.out.far, (DT.out.mono (by omega)).rd⟩
      · have hkp : (k : Int) > 0 := by omega
        obtain ⟨la, lc, le, _, _⟩ := D.out.own.form
        subst le
        have DP : Hid (PD c (p + 16 + 1 + 6 * (8 - k)) w L (.slice la L.length lc) wr) := Lib.hid D.out
        clear D
        have b1 : 1 ≤ (L.length : Int) := by omega
        have b2 : (L.length : Int) ≤ 8 := by omega
        go_wp2_with fail
        refine (pick c (p + 16 + 1 + 6 * (8 - k)) _ _ DP.out.rd (by omega) (by omega) (by omega)).mono ?_
        rintro e v1 ⟨x1, xa1, xb1, rfl, hf, hr⟩
        have E1 := Lib.hid (DP.out.pick hf hr)
        clear hf hr DP
        go_wp2_with fail
        refine (pick c (p + 16 + 1 + 6 * (8 - k) + 1) _ _ E1.out.rd (by omega) (by omega) (by omega)).mono ?_
        rintro e v2 ⟨x2, xa2, xb2, rfl, hf, hr⟩
        have E2 := Lib.hid (E1.out.pick hf hr)
        clear hf hr E1
        go_wp2_with fail
        refine (pick c (p + 16 + 1 + 6 * (8 - k) + 1 + 1) _ _ E2.out.rd (by omega) (by omega) (by omega)).mono ?_
        rintro e v3 ⟨x3, xa3, xb3, rfl, hf, hr⟩
        have E3 := Lib.hid (E2.out.pick hf hr)
        clear hf hr E2
        go_wp2_with fail
        refine (pick c (p + 16 + 1 + 6 * (8 - k) + 1 + 1 + 1) _ _ E3.out.rd (by omega) (by omega) (by omega)).mono ?_
        rintro e v4 ⟨x4, xa4, xb4, rfl, hf, hr⟩
        have E4 := Lib.hid (E3.out.pick hf hr)
        clear hf hr E3
        go_wp2_with fail
        refine (pick c (p + 16 + 1 + 6 * (8 - k) + 1 + 1 + 1 + 1) _ _ E4.out.rd (by omega) (by omega) (by omega)).mono ?_
        rintro e v5 ⟨x5, xa5, xb5, rfl, hf, hr⟩
        have E5 := Lib.hid (E4.out.pick hf hr)
        clear hf hr E4
        have KB : Hid (Blk (v5.alloc (.cells #[.int .i64 1, .int .i64 x1, .int .i64 0, .int .i64 2, .int .i64 x2, .int .i64 x3, .int .i64 3, .int .i64 x4, .int .i64 x5] 49)) v5.heap.size 49 [.int .i64 1, .int .i64 x1, .int .i64 0, .int .i64 2, .int .i64 x2, .int .i64 x3, .int .i64 3, .int .i64 x4, .int .i64 x5]) := Lib.hid (heap_alloc_new _ _)
        have EB := Lib.hid (E5.out.more (World.grownBy_alloc v5 (.cells #[.int .i64 1, .int .i64 x1, .int .i64 0, .int .i64 2, .int .i64 x2, .int .i64 x3, .int .i64 3, .int .i64 x4, .int .i64 x5] 49) none))
        have cb : c < v5.heap.size := by have := E5.out.size; omega
        clear E5
        go_wp2_with fail
        generalize v5.alloc (.cells #[.int .i64 1, .int .i64 x1, .int .i64 0, .int .i64 2, .int .i64 x2, .int .i64 x3, .int .i64 3, .int .i64 x4, .int .i64 x5] 49) = v6 at *
        generalize v5.heap.size = bb at *
        refine (pick c (p + 16 + 1 + 6 * (8 - k) + 1 + 1 + 1 + 1 + 1) _ _ EB.out.rd (by omega) (by omega) (by omega)).mono ?_
        rintro e v7 ⟨q', q0, q1, rfl, hf, hr⟩
        have E7 := Lib.hid (EB.out.pick hf hr)
        have KC : Hid (Blk v7 bb 49 [.int .i64 1, .int .i64 x1, .int .i64 0, .int .i64 2, .int .i64 x2, .int .i64 x3, .int .i64 3, .int .i64 x4, .int .i64 x5]) := Lib.hid (KB.out.kept (far_grown hf) (fun e => by injection e with e; omega))
        clear hf hr EB KB
        have TOP : Hid (v7.ownsRow w.heap.size 49 3 (.slice la L.length lc) L.length (vals (sflat L))) := Lib.hid E7.out.own
        have szz : w.heap.size ≤ v7.heap.size := E7.out.size
        obtain ⟨s, hs⟩ : ∃ s : Stp, (q' = 0 ∧ s = ⟨1, x1, 0⟩) ∨ (q' = 1 ∧ s = ⟨2, x2, x3⟩) ∨ (q' = 2 ∧ s = ⟨3, x4, x5⟩) := by
          rcases (by omega : q' = 0 ∨ q' = 1 ∨ q' = 2) with h | h | h
          · exact ⟨_, .inl ⟨h, rfl⟩⟩
          · exact ⟨_, .inr (.inl ⟨h, rfl⟩)⟩
          · exact ⟨_, .inr (.inr ⟨h, rfl⟩)⟩
        obtain ⟨qn, hqn, rfl⟩ := below_n (n := 3) q0 q1
        have qn3 : (qn : Int) < 3 := by omega
        have KD : Hid (v7.cell? ⟨bb, qn * 3, none⟩ = some (.int .i64 s.op) ∧ v7.cell? ⟨bb, qn * 3 + 1, none⟩ = some (.int .i64 s.a) ∧ v7.cell? ⟨bb, qn * 3 + 2, none⟩ = some (.int .i64 s.b)) := Lib.hid (by
          rcases hs with ⟨h, rfl⟩ | ⟨h, rfl⟩ | ⟨h, rfl⟩
          · obtain rfl : qn = 0 := by omega
            exact ⟨KC.out.cell (i := 0) rfl, KC.out.cell (i := 1) rfl, KC.out.cell (i := 2) rfl⟩
          · obtain rfl : qn = 1 := by omega
            exact ⟨KC.out.cell (i := 3) rfl, KC.out.cell (i := 4) rfl, KC.out.cell (i := 5) rfl⟩
          · obtain rfl : qn = 2 := by omega
            exact ⟨KC.out.cell (i := 6) rfl, KC.out.cell (i := 7) rfl, KC.out.cell (i := 8) rfl⟩)
        clear hs KC q0 q1
        obtain ⟨so, sa, sb⟩ := s
        have z0 : v7.cell? ⟨bb, qn * 3, none⟩ = some (.int .i64 so) := KD.out.1
        have z1 : v7.cell? ⟨bb, qn * 3 + 1, none⟩ = some (.int .i64 sa) := KD.out.2.1
        have z2 : v7.cell? ⟨bb, qn * 3 + 2, none⟩ = some (.int .i64 sb) := KD.out.2.2
        clear KD
        go_wp2_with (first
          | (at_builtin; refine wpList_append_own _ rfl _ _ 27 rfl w.heap.size 49 i0 (.agg #[.int .i64 0, .int .i64 0, .int .i64 0]) 3 24 Tryd.underlying27 I1.out I2.out I3.out I4.out rfl (by decide) _ _ _ rfl (World.ownsRow.alloc TOP.out _) ⟨v7.heap.size, 0, none⟩ 1 1 [.int .i64 so, .int .i64 sa, .int .i64 sb] rfl rfl cells_of3 (by simp [Value.oneCell']) ?c3 ?c4 ?c5 ?_))
        case c3 => unfold maxLen; omega
        case c4 => omega
        case c5 => simp; omega
        intro o' w9 ho hg _
        have D9 : Hid (PD c (p + 16 + 1 + 6 * (8 - k) + 1 + 1 + 1 + 1 + 1 + 1) w (L ++ [⟨so, sa, sb⟩]) o' w9) := Lib.hid (E7.out.put (grown_trans (World.grownBy_alloc _ _ _) hg) (sown_snoc ho rfl))
        clear ho hg TOP E7 z0 z1 z2
        obtain ⟨k, rfl⟩ : ∃ k', k = k' + 1 := ⟨k - 1, by omega⟩
        go_wp2_with fail
        go_roundw
        case rel => exact ⟨k, _, by go_num, by simp, by simp; omega, D9.out.mono (by omega)⟩
        case measure => simp [intOf]
end Go.Proofs.YtlehcpcejkpbmaaDoor
