/-
  A plan that is drawn, some spoilt.
  Conditions: none.
-/
import Derived.Test.YtlehcpcejkpbmaaDoorPlanArg
namespace Go.Proofs.YtlehcpcejkpbmaaDoor
open Go.RowKit
set_option linter.unusedVariables false

theorem Own.big {w : World} {base n : Nat} {v : Value} {l : List Int} (h : Own w base v l) (hn : l.length = n) (h0 : 0 < n) :
    ∃ g cap, v = .slice (some ⟨g, 0, none⟩) n cap ∧ base ≤ g ∧ g < w.heap.size ∧ n ≤ cap ∧ cap ≤ maxLen ∧ (∀ j, j < n → w.cell? ⟨g, j, none⟩ = some (.int .i64 (l.getD j 0))) ∧ ∀ j, w.frozen? ⟨g, j, none⟩ = false := by
  unfold Own at h
  rw [hn] at h
  rcases h.2 with ⟨_, h1⟩ | ⟨g, cap, cur, rfl, hb, hg, h1, h2, h3, ht⟩
  · omega
  · refine ⟨g, cap, rfl, hb, (Array.getElem?_eq_some_iff.1 hg).1, h1, h2, fun j hj => ?_, fun j => World.ownsRow.frozenAt h j⟩
    have hc := World.ownsRow.cells h (g := g) rfl j _ (vals_get l j (by omega))
    rw [Addr.add_lit] at hc
    simpa using hc
theorem Own.putN {w : World} {base g cap n : Nat} {l : List Int} (h : Own w base (.slice (some ⟨g, 0, none⟩) n cap) l) (hn : l.length = n) (j : Nat) (x : Int) :
    Own (w.setCell ⟨g, j, none⟩ (.int .i64 x)) base (.slice (some ⟨g, 0, none⟩) n cap) (l.set j x) ∧ w.grownBy (w.setCell ⟨g, j, none⟩ (.int .i64 x)) (some g) := by
  unfold Own at h
  rw [hn] at h
  have hs := World.ownsRow.stored h j (.int .i64 x)
  refine ⟨own_len (n := n) ?_ (by rw [List.length_set]; exact hn), hs.2⟩
  rw [← vals_set]
  exact hs.1
theorem own_not {w : World} {base g : Nat} {v : Value} {l : List Int} {cs : List Value} (h : Own w base v l) (k : Blk w g 25 cs) : v.ownBlock = none ∨ v.ownBlock ≠ some g := .inr fun e => own_blk h k e.symm
/-- a kind, and a plan. -/
def DrawnPlan (c p : Nat) (w : World) (e : Ending) (w' : World) : Prop :=
  ∃ (k : Nat) (d : Int) (u v : Value) (l m : List Int), (k = 1 ∨ k = 2) ∧ e = .returned (.tuple #[.int .i64 k, .agg #[.int .i64 d, u, v]]) ∧ l.length ≤ 4 ∧ Own w' w.heap.size u l ∧ Own w' w.heap.size v m ∧ Far c w w' ∧ Rd w' c (p + 15)
theorem below_n {m : Int} {n : Nat} (h0 : 0 ≤ m) (h1 : m < n) : ∃ j : Nat, j < n ∧ m = j := ⟨m.toNat, by omega, by omega⟩

set_option maxHeartbeats 8000000 in
set_option maxRecDepth 20000 in
theorem drawPlan (c p : Nat) (w : World) (h : Rd w c p) (hp : p ≤ 800000) : Calls Tryd.prog 45 #[.pointer (some ⟨c, 0, none⟩)] w (DrawnPlan c p w) := by
  have hcw := h.lt
  have Z0 : Hid (Blk (w.alloc (.cells #[.int .i64 0, .slice none 0 0, .slice none 0 0] 25)) w.heap.size 25 [.int .i64 0, .slice none 0 0, .slice none 0 0]) := Lib.hid (heap_alloc_new _ _)
  have F0 : Hid (Far c w (w.alloc (.cells #[.int .i64 0, .slice none 0 0, .slice none 0 0] 25))) := Lib.hid (Far.alloc _ _)
  have R0 := Lib.hid (h.alloc (.cells #[.int .i64 0, .slice none 0 0, .slice none 0 0] 25))
  have S0 : w.heap.size + 1 ≤ (w.alloc (.cells #[.int .i64 0, .slice none 0 0, .slice none 0 0] 25)).heap.size := by simp
  clear h
  go_enter Tryd.func45, Tryd.ntmps45
  go_wp2_with fail
  generalize w.alloc (.cells #[.int .i64 0, .slice none 0 0, .slice none 0 0] 25) = w0 at *
  obtain ⟨r, hr⟩ : ∃ r, r = w.heap.size := ⟨_, rfl⟩
  rw [← hr] at Z0 S0 ⊢
  have hr1 : w.heap.size ≤ r := by omega
  have hr2 : r ≤ w.heap.size := by omega
  clear hr
  refine (pick c p _ _ R0.out (by omega) (by omega) (by omega)).mono ?_
  rintro e w1 ⟨q, q0, q1, rfl, hf, h1⟩
  have F1 := Lib.hid (F0.out.trans hf)
  have R1 := Lib.hid h1
  have Z1 : Hid (Blk w1 r 25 [.int .i64 0, .slice none 0 0, .slice none 0 0]) := Lib.hid (Z0.out.kept (far_grown hf) (fun e => by injection e with e; omega))
  have S1 : r + 1 ≤ w1.heap.size := by have := hf.size; omega
  clear hf h1 F0 R0 Z0 S0
  obtain ⟨k, hke, hk⟩ : ∃ k : Nat, 1 + q = k ∧ (k = 1 ∨ k = 2) := ⟨(1 + q).toNat, by omega, by omega⟩
  go_wp2_with fail
  clear hke q0 q1
  refine (pick c (p + 1) _ _ R1.out (by omega) (by omega) (by omega)).mono ?_
  rintro e w2 ⟨n, n0, n1, rfl, hf, h2⟩
  have F2 := Lib.hid (F1.out.trans hf)
  have R2 := Lib.hid h2
  have Z2 : Hid (Blk w2 r 25 [.int .i64 0, .slice none 0 0, .slice none 0 0]) := Lib.hid (Z1.out.kept (far_grown hf) (fun e => by injection e with e; omega))
  have S2 : r + 1 ≤ w2.heap.size := by have := hf.size; omega
  clear hf h2 F1 R1 Z1 S1
  go_wp2_with fail
  refine (drawThere c (p + 1 + 1) _ R2.out (by omega)).mono ?_
  rintro e w3 ⟨v0, f, rfl, hf8, hf, hbu, h3⟩
  have F3 := Lib.hid (F2.out.trans hf)
  have R3 := Lib.hid h3
  have Z3 : Hid (Blk w3 r 25 [.int .i64 0, .slice none 0 0, .slice none 0 0]) := Lib.hid (Z2.out.kept (far_grown hf) (fun e => by injection e with e; omega))
  have S3 : r + 1 ≤ w3.heap.size := by have := hf.size; omega
  have B3 := Lib.hid hbu.1
  clear hf h3 F2 R2 Z2 S2 hbu hf8
  go_wp2_with fail
  refine (specPlanOf k n v0 f _ B3.out).mono ?_
  rintro e w4 ⟨d, l, m, b, u, v, hT, rfl, hg, ht⟩
  obtain ⟨au, nl, cu, av, ml, cv, rfl, rfl⟩ := ht.form
  have l4 := hT.len
  have NL : Hid (l.length = nl) := Lib.hid (by obtain ⟨_, _, e, _⟩ := ht.1.sl; injection e with _ e; omega)
  have ML : Hid (m.length = ml) := Lib.hid (by obtain ⟨_, _, e, _⟩ := ht.2.1.sl; injection e with _ e; omega)
  have ga := World.grownBy_alloc w4 (.cells #[.int .i64 d, .slice au nl cu, .slice av ml cv] 25) none
  have G5 := Lib.hid (grown_trans hg ga)
  have F5 : Hid (Far c w (w4.alloc (.cells #[.int .i64 d, .slice au nl cu, .slice av ml cv] 25))) := Lib.hid (F3.out.own G5.out (by simp))
  have R5 := Lib.hid (R3.out.up G5.out (by simp))
  have Z5 : Hid (Blk (w4.alloc (.cells #[.int .i64 d, .slice au nl cu, .slice av ml cv] 25)) r 25 [.int .i64 0, .slice none 0 0, .slice none 0 0]) := Lib.hid (Z3.out.kept G5.out (by simp))
  have U5 : Hid (Own (w4.alloc (.cells #[.int .i64 d, .slice au nl cu, .slice av ml cv] 25)) (r + 1) (.slice au nl cu) l) := Lib.hid ((ht.1.still ga).lower S3)
  have V5 : Hid (Own (w4.alloc (.cells #[.int .i64 d, .slice au nl cu, .slice av ml cv] 25)) (r + 1) (.slice av ml cv) m) := Lib.hid ((ht.2.1.still ga).lower S3)
  have K5 : Hid (Blk (w4.alloc (.cells #[.int .i64 d, .slice au nl cu, .slice av ml cv] 25)) w4.heap.size 25 [.int .i64 d, .slice au nl cu, .slice av ml cv]) := Lib.hid (heap_alloc_new _ _)
  have AP := ht.2.2
  have S5 : r + 1 ≤ w4.heap.size := by have := hg.size; omega
  clear hT hg ht ga F3 R3 Z3 B3 G5 S3
  go_upto_region 3 with fail
  generalize w4.alloc (.cells #[.int .i64 d, .slice au nl cu, .slice av ml cv] 25) = w5 at *
  generalize w4.heap.size = bp at *
  go_wp2_with fail
  refine (pick c (p + 1 + 1 + 10) _ _ R5.out (by omega) (by omega) (by omega)).mono ?_
  rintro e w6 ⟨j, j0, j1, rfl, hf, h6⟩
  have FE := Lib.hid (F5.out.trans hf)
  have RE := Lib.hid h6
  have ZE : Hid (Blk w6 r 25 [.int .i64 0, .slice none 0 0, .slice none 0 0]) := Lib.hid (Z5.out.kept (far_grown hf) (fun e => by injection e with e; omega))
  have KE : Hid (Blk w6 bp 25 [.int .i64 d, .slice au nl cu, .slice av ml cv]) := Lib.hid (K5.out.kept (far_grown hf) (fun e => by injection e with e; omega))
  have UE := Lib.hid (U5.out.far hf (by omega))
  have VE := Lib.hid (V5.out.far hf (by omega))
  clear hf h6 F5 R5 Z5 K5 U5 V5
  have kk1 := KE.out.cell (i := 1) rfl
  have kk2 := KE.out.cell (i := 2) rfl
  have kk0 := KE.out.cell (i := 0) rfl
  by_cases hj0 : j = 0
  · subst hj0
    by_cases hz : ml = 0
    · subst hz
      clear kk0
      go_wp2_with fail
      obtain ⟨WX, hWX⟩ : ∃ W, W = w6 := ⟨_, rfl⟩
      subst hWX
      have k0 : WX.drew.cell? ⟨bp, 0, none⟩ = some (.int .i64 (d)) := KE.out.cell (i := 0) rfl
      have k1 : WX.drew.cell? ⟨bp, 1, none⟩ = some (.slice au nl cu) := KE.out.cell (i := 1) rfl
      have k2 : WX.drew.cell? ⟨bp, 2, none⟩ = some (.slice av 0 cv) := KE.out.cell (i := 2) rfl
      have z0 : WX.drew.cell? ⟨r, 0, none⟩ = some (.int .i64 0) := ZE.out.cell (i := 0) rfl
      have z1 : WX.drew.cell? ⟨r, 1, none⟩ = some (.slice none 0 0) := ZE.out.cell (i := 1) rfl
      have z2 : WX.drew.cell? ⟨r, 2, none⟩ = some (.slice none 0 0) := ZE.out.cell (i := 2) rfl
      have f0 : WX.drew.frozen? ⟨r, 0, none⟩ = false := ZE.out.frozen 0
      have f1 : WX.drew.frozen? ⟨r, 1, none⟩ = false := ZE.out.frozen 1
      have f2 : WX.drew.frozen? ⟨r, 2, none⟩ = false := ZE.out.frozen 2
      have GD : Hid (WX.grownBy WX.drew none) := Lib.hid (grown_drew (World.grownBy.refl _ none))
      have GS : Hid (WX.drew.grownBy (((WX.drew.setCell ⟨r, 0, none⟩ (.int .i64 (d))).setCell ⟨r, 1, none⟩ (.slice au nl cu)).setCell ⟨r, 2, none⟩ (.slice av 0 cv)) (some r)) := Lib.hid (grown_trans (grown_trans (grown_cell _ _ _) (grown_cell _ _ _)) (grown_cell _ _ _))
      have FZ : Hid (Far c w (((WX.drew.setCell ⟨r, 0, none⟩ (.int .i64 (d))).setCell ⟨r, 1, none⟩ (.slice au nl cu)).setCell ⟨r, 2, none⟩ (.slice av 0 cv))) := Lib.hid ((FE.out.own GD.out (by simp)).own GS.out (fun q hq => by injection hq with hq; omega))
      have RZ : Hid (Rd (((WX.drew.setCell ⟨r, 0, none⟩ (.int .i64 (d))).setCell ⟨r, 1, none⟩ (.slice au nl cu)).setCell ⟨r, 2, none⟩ (.slice av 0 cv)) c (p + 15)) := Lib.hid (((RE.out.up GD.out (by simp)).up GS.out (fun q hq => by injection hq with hq; omega)).mono (by omega))
      have OZ : Hid (Own (((WX.drew.setCell ⟨r, 0, none⟩ (.int .i64 (d))).setCell ⟨r, 1, none⟩ (.slice au nl cu)).setCell ⟨r, 2, none⟩ (.slice av 0 cv)) w.heap.size (.slice au nl cu) (l)) := Lib.hid (((UE.out.still GD.out).kept GS.out (own_far UE.out (by omega))).lower (by omega))
      have PZ : Hid (Own (((WX.drew.setCell ⟨r, 0, none⟩ (.int .i64 (d))).setCell ⟨r, 1, none⟩ (.slice au nl cu)).setCell ⟨r, 2, none⟩ (.slice av 0 cv)) w.heap.size (.slice av 0 cv) (m)) := Lib.hid (((VE.out.still GD.out).kept GS.out (own_far VE.out (by omega))).lower (by omega))
      clear KE ZE UE VE FE RE GS GD
      refine wp_region_still_tail 3 (by kernel_rfl) (by kernel_rfl) ?_
      simp only [List.take_succ_cons, List.take_zero, List.drop_succ_cons, List.drop_zero]
      change wpStill _ _ WX.drew (fun a' => wpList _ _ _ _ a' WX.drew) _ _
      generalize WX.drew = WY at *
      repeat still_step
      refine wpStill_nil ?_
      go_wp2_with fail
      refine bodyPost_ret (v := .tuple #[.int .i64 k, .agg #[.int .i64 (d), .slice au nl cu, .slice av 0 cv]]) (by simp [results, Tryd.results45, go_sem, z0, z1, z2]) rfl ?_
      exact ⟨k, _, _, _, l, m, hk, rfl, l4.1, OZ.out, PZ.out, FZ.out, RZ.out⟩
    · obtain ⟨g, cap, e', gb, gl, gc, gm, gcell, gfr⟩ := VE.out.big ML.out (by omega)
      injection e' with e1 e2 e3
      subst e1 e3
      obtain ⟨cap, hcap⟩ : ∃ x, x = cv := ⟨_, rfl⟩
      subst hcap
      unfold maxLen at gm
      clear e2 gcell gfr
      have hpos : (ml : Int) > 0 := by omega
      have hn4 : ml ≤ 4 := by have := ML.out; omega
      have y0 : w6.drew.cell? ⟨bp, 2, none⟩ = some (.slice (some ⟨g, 0, none⟩) ml cap) := KE.out.cell (i := 2) rfl
      have FD := Lib.hid (FE.out.own (grown_drew (World.grownBy.refl w6 none)) (by simp))
      have RD := Lib.hid (RE.out.up (grown_drew (World.grownBy.refl w6 none)) (by simp))
      have ZD : Hid (Blk w6.drew r 25 [.int .i64 0, .slice none 0 0, .slice none 0 0]) := Lib.hid ZE.out
      have KD : Hid (Blk w6.drew bp 25 [.int .i64 d, .slice au nl cu, .slice (some ⟨g, 0, none⟩) ml cap]) := Lib.hid KE.out
      have UD := Lib.hid (UE.out.still (grown_drew (World.grownBy.refl w6 none)))
      have VD := Lib.hid (VE.out.still (grown_drew (World.grownBy.refl w6 none)))
      clear FE RE ZE KE UE VE
      go_wp2_with fail
      go_region_held3 (fun w' => w'.cell? ⟨bp, 2, none⟩ = some (.slice (some ⟨g, 0, none⟩) ml cap))
        (first
          | with_reducible exact y0
          | with_reducible exact y1
          | with_reducible exact y2
          | with_reducible exact y3)
        (first
          | (go_at_call 72; refine (pick c (p + 1 + 1 + 10 + 1 + 1) 32 _ RA.out (by omega) (by omega) (by omega)).mono ?_; rintro e w8 ⟨x, x0, x1, rfl, hf8, hr8⟩
             have FB := Lib.hid (FA.out.trans hf8)
             have RB := Lib.hid hr8
             have ZB : Hid (Blk w8 r 25 [.int .i64 0, .slice none 0 0, .slice none 0 0]) := Lib.hid (ZA.out.kept (far_grown hf8) (fun e => by injection e with e; omega))
             have KB : Hid (Blk w8 bp 25 [.int .i64 d, .slice au nl cu, .slice (some ⟨g, 0, none⟩) ml cap]) := Lib.hid (KA.out.kept (far_grown hf8) (fun e => by injection e with e; omega))
             have UB := Lib.hid (UA.out.far hf8 (by omega))
             have VB := Lib.hid (VA.out.far hf8 (by omega))
             have y2 := KB.out.cell (i := 2) rfl
             have hcx := (VB.out.big ML.out (by omega)).choose_spec
             have hfz : w8.frozen? ⟨g, i, none⟩ = false := by
               obtain ⟨g', cap', e', _, _, _, _, _, gfr⟩ := VB.out.big ML.out (by omega)
               injection e' with e1 _ _
               injection e1 with e1
               injection e1 with e1
               subst e1
               exact gfr i
             have hcl : w8.cell? ⟨g, i, none⟩ = some (.int .i64 (m.getD i 0)) := by
               obtain ⟨g', cap', e', _, _, _, _, gcell, _⟩ := VB.out.big ML.out (by omega)
               injection e' with e1 _ _
               injection e1 with e1
               injection e1 with e1
               subst e1
               exact gcell i hi4
             have y3 : (w8.setCell ⟨g, i, none⟩ (.int .i64 x)).cell? ⟨bp, 2, none⟩ = some (.slice (some ⟨g, 0, none⟩) ml cap) := (KB.out.kept (grown_cell w8 ⟨g, i, none⟩ _) (fun e => own_blk VB.out KB.out (by rw [e]; rfl))).cell (i := 2) rfl
             clear hcx hf8 hr8)
          | (go_at_call 72; refine (pick c (p + 1 + 1 + 10 + 1) ml _ RD.out (by omega) (by omega) (by omega)).mono ?_; rintro e w7 ⟨i', i0, i1, rfl, hf7, hr7⟩
             obtain ⟨i, hi4, rfl⟩ := below_n i0 i1
             have hi4' : (i : Int) < (ml : Int) := by omega
             have FA := Lib.hid (FD.out.trans hf7)
             have RA := Lib.hid hr7
             have ZA : Hid (Blk w7 r 25 [.int .i64 0, .slice none 0 0, .slice none 0 0]) := Lib.hid (ZD.out.kept (far_grown hf7) (fun e => by injection e with e; omega))
             have KA : Hid (Blk w7 bp 25 [.int .i64 d, .slice au nl cu, .slice (some ⟨g, 0, none⟩) ml cap]) := Lib.hid (KD.out.kept (far_grown hf7) (fun e => by injection e with e; omega))
             have UA := Lib.hid (UD.out.far hf7 (by omega))
             have VA := Lib.hid (VD.out.far hf7 (by omega))
             have y1 := KA.out.cell (i := 2) rfl
             clear hf7 hr7))
      have PP := Lib.hid (VB.out.putN ML.out i x)
      have FE : Hid (Far c w (w8.setCell ⟨g, i, none⟩ (.int .i64 x))) := Lib.hid (FB.out.own PP.out.2 (fun q hq => by injection hq with hq; omega))
      have RE : Hid (Rd (w8.setCell ⟨g, i, none⟩ (.int .i64 x)) c (p + 1 + 1 + 10 + 1 + 1 + 1)) := Lib.hid (RB.out.up PP.out.2 (fun q hq => by injection hq with hq; omega))
      have ZE : Hid (Blk (w8.setCell ⟨g, i, none⟩ (.int .i64 x)) r 25 [.int .i64 0, .slice none 0 0, .slice none 0 0]) := Lib.hid (ZB.out.kept PP.out.2 (fun e => by injection e with e; omega))
      have KE : Hid (Blk (w8.setCell ⟨g, i, none⟩ (.int .i64 x)) bp 25 [.int .i64 d, .slice au nl cu, .slice (some ⟨g, 0, none⟩) ml cap]) := Lib.hid (KB.out.kept PP.out.2 (fun e => own_blk VB.out KB.out (by rw [e]; rfl)))
      have VE : Hid (Own (w8.setCell ⟨g, i, none⟩ (.int .i64 x)) (r + 1) (.slice (some ⟨g, 0, none⟩) ml cap) (m.set i x)) := Lib.hid PP.out.1
      have UE : Hid (Own (w8.setCell ⟨g, i, none⟩ (.int .i64 x)) (r + 1) (.slice au nl cu) l) := Lib.hid (UB.out.kept PP.out.2 (by
        rcases AP with h | h
        · left; exact h
        · right; exact h))
      clear y0 y1 y2 y3 hfz hcl PP FB RB ZB KB UB VB FA RA ZA KA UA VA FD RD ZD KD UD VD kk0 kk1 kk2
      go_wp2_with fail
      generalize w8.setCell ⟨g, i, none⟩ (.int .i64 x) = WX at *
      have k0 : WX.drew.cell? ⟨bp, 0, none⟩ = some (.int .i64 (d)) := KE.out.cell (i := 0) rfl
      have k1 : WX.drew.cell? ⟨bp, 1, none⟩ = some (.slice au nl cu) := KE.out.cell (i := 1) rfl
      have k2 : WX.drew.cell? ⟨bp, 2, none⟩ = some (.slice (some ⟨g, 0, none⟩) ml cap) := KE.out.cell (i := 2) rfl
      have z0 : WX.drew.cell? ⟨r, 0, none⟩ = some (.int .i64 0) := ZE.out.cell (i := 0) rfl
      have z1 : WX.drew.cell? ⟨r, 1, none⟩ = some (.slice none 0 0) := ZE.out.cell (i := 1) rfl
      have z2 : WX.drew.cell? ⟨r, 2, none⟩ = some (.slice none 0 0) := ZE.out.cell (i := 2) rfl
      have f0 : WX.drew.frozen? ⟨r, 0, none⟩ = false := ZE.out.frozen 0
      have f1 : WX.drew.frozen? ⟨r, 1, none⟩ = false := ZE.out.frozen 1
      have f2 : WX.drew.frozen? ⟨r, 2, none⟩ = false := ZE.out.frozen 2
      have GD : Hid (WX.grownBy WX.drew none) := Lib.hid (grown_drew (World.grownBy.refl _ none))
      have GS : Hid (WX.drew.grownBy (((WX.drew.setCell ⟨r, 0, none⟩ (.int .i64 (d))).setCell ⟨r, 1, none⟩ (.slice au nl cu)).setCell ⟨r, 2, none⟩ (.slice (some ⟨g, 0, none⟩) ml cap)) (some r)) := Lib.hid (grown_trans (grown_trans (grown_cell _ _ _) (grown_cell _ _ _)) (grown_cell _ _ _))
      have FZ : Hid (Far c w (((WX.drew.setCell ⟨r, 0, none⟩ (.int .i64 (d))).setCell ⟨r, 1, none⟩ (.slice au nl cu)).setCell ⟨r, 2, none⟩ (.slice (some ⟨g, 0, none⟩) ml cap))) := Lib.hid ((FE.out.own GD.out (by simp)).own GS.out (fun q hq => by injection hq with hq; omega))
      have RZ : Hid (Rd (((WX.drew.setCell ⟨r, 0, none⟩ (.int .i64 (d))).setCell ⟨r, 1, none⟩ (.slice au nl cu)).setCell ⟨r, 2, none⟩ (.slice (some ⟨g, 0, none⟩) ml cap)) c (p + 15)) := Lib.hid (((RE.out.up GD.out (by simp)).up GS.out (fun q hq => by injection hq with hq; omega)).mono (by omega))
      have OZ : Hid (Own (((WX.drew.setCell ⟨r, 0, none⟩ (.int .i64 (d))).setCell ⟨r, 1, none⟩ (.slice au nl cu)).setCell ⟨r, 2, none⟩ (.slice (some ⟨g, 0, none⟩) ml cap)) w.heap.size (.slice au nl cu) (l)) := Lib.hid (((UE.out.still GD.out).kept GS.out (own_far UE.out (by omega))).lower (by omega))
      have PZ : Hid (Own (((WX.drew.setCell ⟨r, 0, none⟩ (.int .i64 (d))).setCell ⟨r, 1, none⟩ (.slice au nl cu)).setCell ⟨r, 2, none⟩ (.slice (some ⟨g, 0, none⟩) ml cap)) w.heap.size (.slice (some ⟨g, 0, none⟩) ml cap) (m.set i x)) := Lib.hid (((VE.out.still GD.out).kept GS.out (own_far VE.out (by omega))).lower (by omega))
      clear KE ZE UE VE FE RE GS GD
      refine wp_region_still_tail 3 (by kernel_rfl) (by kernel_rfl) ?_
      simp only [List.take_succ_cons, List.take_zero, List.drop_succ_cons, List.drop_zero]
      change wpStill _ _ WX.drew (fun a' => wpList _ _ _ _ a' WX.drew) _ _
      generalize WX.drew = WY at *
      repeat still_step
      refine wpStill_nil ?_
      go_wp2_with fail
      refine bodyPost_ret (v := .tuple #[.int .i64 k, .agg #[.int .i64 (d), .slice au nl cu, .slice (some ⟨g, 0, none⟩) ml cap]]) (by simp [results, Tryd.results45, go_sem, z0, z1, z2]) rfl ?_
      exact ⟨k, _, _, _, l, m.set i x, hk, rfl, l4.1, OZ.out, PZ.out, FZ.out, RZ.out⟩
  · have e0 : (j == 0) = false := by rw [beq_eq_false_iff_ne]; exact hj0
    by_cases hj1 : j = 1
    · subst hj1
      clear e0 hj0
      go_wp2_with fail
      refine (pick c (p + 1 + 1 + 10 + 1) _ _ RE.out (by omega) (by omega) (by omega)).mono ?_
      rintro e w7 ⟨x, x0, x1, rfl, hf, h7⟩
      have FA := Lib.hid (FE.out.trans hf)
      have RA := Lib.hid h7
      have ZA : Hid (Blk w7 r 25 [.int .i64 0, .slice none 0 0, .slice none 0 0]) := Lib.hid (ZE.out.kept (far_grown hf) (fun e => by injection e with e; omega))
      have KA : Hid (Blk w7 bp 25 [.int .i64 d, .slice au nl cu, .slice av ml cv]) := Lib.hid (KE.out.kept (far_grown hf) (fun e => by injection e with e; omega))
      have UA := Lib.hid (UE.out.far hf (by omega))
      have VA := Lib.hid (VE.out.far hf (by omega))
      clear hf h7 FE RE ZE KE UE VE kk0 kk1 kk2
      have kz := KA.out.cell (i := 0) rfl
      have kf := KA.out.frozen 0
      have GG := Lib.hid (grown_cell w7 ⟨bp, 0, none⟩ (.int .i64 (x - 1)))
      have FE : Hid (Far c w (w7.setCell ⟨bp, 0, none⟩ (.int .i64 (x - 1)))) := Lib.hid (FA.out.own GG.out (fun q hq => by injection hq with hq; have : bp = q := hq; omega))
      have RE : Hid (Rd (w7.setCell ⟨bp, 0, none⟩ (.int .i64 (x - 1))) c (p + 1 + 1 + 10 + 1 + 1)) := Lib.hid (RA.out.up GG.out (fun q hq => by injection hq with hq; have : bp = q := hq; omega))
      have ZE : Hid (Blk (w7.setCell ⟨bp, 0, none⟩ (.int .i64 (x - 1))) r 25 [.int .i64 0, .slice none 0 0, .slice none 0 0]) := Lib.hid (ZA.out.kept GG.out (fun e => by injection e with e; have : r = bp := e; omega))
      have KE : Hid (Blk (w7.setCell ⟨bp, 0, none⟩ (.int .i64 (x - 1))) bp 25 [.int .i64 (x - 1), .slice au nl cu, .slice av ml cv]) := Lib.hid (KA.out.put 0 _)
      have UE := Lib.hid (UA.out.kept GG.out (own_not UA.out KA.out))
      have VE := Lib.hid (VA.out.kept GG.out (own_not VA.out KA.out))
      clear FA RA ZA KA UA VA GG
      go_wp2_with fail
      generalize w7.setCell ⟨bp, 0, none⟩ (.int .i64 (x - 1)) = WX at *
      have k0 : WX.drew.cell? ⟨bp, 0, none⟩ = some (.int .i64 (x - 1)) := KE.out.cell (i := 0) rfl
      have k1 : WX.drew.cell? ⟨bp, 1, none⟩ = some (.slice au nl cu) := KE.out.cell (i := 1) rfl
      have k2 : WX.drew.cell? ⟨bp, 2, none⟩ = some (.slice av ml cv) := KE.out.cell (i := 2) rfl
      have z0 : WX.drew.cell? ⟨r, 0, none⟩ = some (.int .i64 0) := ZE.out.cell (i := 0) rfl
      have z1 : WX.drew.cell? ⟨r, 1, none⟩ = some (.slice none 0 0) := ZE.out.cell (i := 1) rfl
      have z2 : WX.drew.cell? ⟨r, 2, none⟩ = some (.slice none 0 0) := ZE.out.cell (i := 2) rfl
      have f0 : WX.drew.frozen? ⟨r, 0, none⟩ = false := ZE.out.frozen 0
      have f1 : WX.drew.frozen? ⟨r, 1, none⟩ = false := ZE.out.frozen 1
      have f2 : WX.drew.frozen? ⟨r, 2, none⟩ = false := ZE.out.frozen 2
      have GD : Hid (WX.grownBy WX.drew none) := Lib.hid (grown_drew (World.grownBy.refl _ none))
      have GS : Hid (WX.drew.grownBy (((WX.drew.setCell ⟨r, 0, none⟩ (.int .i64 (x - 1))).setCell ⟨r, 1, none⟩ (.slice au nl cu)).setCell ⟨r, 2, none⟩ (.slice av ml cv)) (some r)) := Lib.hid (grown_trans (grown_trans (grown_cell _ _ _) (grown_cell _ _ _)) (grown_cell _ _ _))
      have FZ : Hid (Far c w (((WX.drew.setCell ⟨r, 0, none⟩ (.int .i64 (x - 1))).setCell ⟨r, 1, none⟩ (.slice au nl cu)).setCell ⟨r, 2, none⟩ (.slice av ml cv))) := Lib.hid ((FE.out.own GD.out (by simp)).own GS.out (fun q hq => by injection hq with hq; omega))
      have RZ : Hid (Rd (((WX.drew.setCell ⟨r, 0, none⟩ (.int .i64 (x - 1))).setCell ⟨r, 1, none⟩ (.slice au nl cu)).setCell ⟨r, 2, none⟩ (.slice av ml cv)) c (p + 15)) := Lib.hid (((RE.out.up GD.out (by simp)).up GS.out (fun q hq => by injection hq with hq; omega)).mono (by omega))
      have OZ : Hid (Own (((WX.drew.setCell ⟨r, 0, none⟩ (.int .i64 (x - 1))).setCell ⟨r, 1, none⟩ (.slice au nl cu)).setCell ⟨r, 2, none⟩ (.slice av ml cv)) w.heap.size (.slice au nl cu) (l)) := Lib.hid (((UE.out.still GD.out).kept GS.out (own_far UE.out (by omega))).lower (by omega))
      have PZ : Hid (Own (((WX.drew.setCell ⟨r, 0, none⟩ (.int .i64 (x - 1))).setCell ⟨r, 1, none⟩ (.slice au nl cu)).setCell ⟨r, 2, none⟩ (.slice av ml cv)) w.heap.size (.slice av ml cv) (m)) := Lib.hid (((VE.out.still GD.out).kept GS.out (own_far VE.out (by omega))).lower (by omega))
      clear KE ZE UE VE FE RE GS GD
      refine wp_region_still_tail 3 (by kernel_rfl) (by kernel_rfl) ?_
      simp only [List.take_succ_cons, List.take_zero, List.drop_succ_cons, List.drop_zero]
      change wpStill _ _ WX.drew (fun a' => wpList _ _ _ _ a' WX.drew) _ _
      generalize WX.drew = WY at *
      repeat still_step
      refine wpStill_nil ?_
      go_wp2_with fail
      refine bodyPost_ret (v := .tuple #[.int .i64 k, .agg #[.int .i64 (x - 1), .slice au nl cu, .slice av ml cv]]) (by simp [results, Tryd.results45, go_sem, z0, z1, z2]) rfl ?_
      exact ⟨k, _, _, _, l, m, hk, rfl, l4.1, OZ.out, PZ.out, FZ.out, RZ.out⟩
    · have e1 : (j == 1) = false := by rw [beq_eq_false_iff_ne]; exact hj1
      by_cases hj2 : j = 2
      · subst hj2
        clear e0 e1 hj0 hj1
        by_cases hz : nl = 0
        · subst hz
          clear kk0
          go_wp2_with fail
          obtain ⟨WX, hWX⟩ : ∃ W, W = w6 := ⟨_, rfl⟩
          subst hWX
          have k0 : WX.drew.cell? ⟨bp, 0, none⟩ = some (.int .i64 (d)) := KE.out.cell (i := 0) rfl
          have k1 : WX.drew.cell? ⟨bp, 1, none⟩ = some (.slice au 0 cu) := KE.out.cell (i := 1) rfl
          have k2 : WX.drew.cell? ⟨bp, 2, none⟩ = some (.slice av ml cv) := KE.out.cell (i := 2) rfl
          have z0 : WX.drew.cell? ⟨r, 0, none⟩ = some (.int .i64 0) := ZE.out.cell (i := 0) rfl
          have z1 : WX.drew.cell? ⟨r, 1, none⟩ = some (.slice none 0 0) := ZE.out.cell (i := 1) rfl
          have z2 : WX.drew.cell? ⟨r, 2, none⟩ = some (.slice none 0 0) := ZE.out.cell (i := 2) rfl
          have f0 : WX.drew.frozen? ⟨r, 0, none⟩ = false := ZE.out.frozen 0
          have f1 : WX.drew.frozen? ⟨r, 1, none⟩ = false := ZE.out.frozen 1
          have f2 : WX.drew.frozen? ⟨r, 2, none⟩ = false := ZE.out.frozen 2
          have GD : Hid (WX.grownBy WX.drew none) := Lib.hid (grown_drew (World.grownBy.refl _ none))
          have GS : Hid (WX.drew.grownBy (((WX.drew.setCell ⟨r, 0, none⟩ (.int .i64 (d))).setCell ⟨r, 1, none⟩ (.slice au 0 cu)).setCell ⟨r, 2, none⟩ (.slice av ml cv)) (some r)) := Lib.hid (grown_trans (grown_trans (grown_cell _ _ _) (grown_cell _ _ _)) (grown_cell _ _ _))
          have FZ : Hid (Far c w (((WX.drew.setCell ⟨r, 0, none⟩ (.int .i64 (d))).setCell ⟨r, 1, none⟩ (.slice au 0 cu)).setCell ⟨r, 2, none⟩ (.slice av ml cv))) := Lib.hid ((FE.out.own GD.out (by simp)).own GS.out (fun q hq => by injection hq with hq; omega))
          have RZ : Hid (Rd (((WX.drew.setCell ⟨r, 0, none⟩ (.int .i64 (d))).setCell ⟨r, 1, none⟩ (.slice au 0 cu)).setCell ⟨r, 2, none⟩ (.slice av ml cv)) c (p + 15)) := Lib.hid (((RE.out.up GD.out (by simp)).up GS.out (fun q hq => by injection hq with hq; omega)).mono (by omega))
          have OZ : Hid (Own (((WX.drew.setCell ⟨r, 0, none⟩ (.int .i64 (d))).setCell ⟨r, 1, none⟩ (.slice au 0 cu)).setCell ⟨r, 2, none⟩ (.slice av ml cv)) w.heap.size (.slice au 0 cu) (l)) := Lib.hid (((UE.out.still GD.out).kept GS.out (own_far UE.out (by omega))).lower (by omega))
          have PZ : Hid (Own (((WX.drew.setCell ⟨r, 0, none⟩ (.int .i64 (d))).setCell ⟨r, 1, none⟩ (.slice au 0 cu)).setCell ⟨r, 2, none⟩ (.slice av ml cv)) w.heap.size (.slice av ml cv) (m)) := Lib.hid (((VE.out.still GD.out).kept GS.out (own_far VE.out (by omega))).lower (by omega))
          clear KE ZE UE VE FE RE GS GD
          refine wp_region_still_tail 3 (by kernel_rfl) (by kernel_rfl) ?_
          simp only [List.take_succ_cons, List.take_zero, List.drop_succ_cons, List.drop_zero]
          change wpStill _ _ WX.drew (fun a' => wpList _ _ _ _ a' WX.drew) _ _
          generalize WX.drew = WY at *
          repeat still_step
          refine wpStill_nil ?_
          go_wp2_with fail
          refine bodyPost_ret (v := .tuple #[.int .i64 k, .agg #[.int .i64 (d), .slice au 0 cu, .slice av ml cv]]) (by simp [results, Tryd.results45, go_sem, z0, z1, z2]) rfl ?_
          exact ⟨k, _, _, _, l, m, hk, rfl, l4.1, OZ.out, PZ.out, FZ.out, RZ.out⟩
        · obtain ⟨g, cap, e', gb, gl, gc, gm, gcell, gfr⟩ := UE.out.big NL.out (by omega)
          injection e' with e1 e2 e3
          subst e1 e3
          obtain ⟨cap, hcap⟩ : ∃ x, x = cu := ⟨_, rfl⟩
          subst hcap
          unfold maxLen at gm
          clear e2 gcell gfr
          have hpos : (nl : Int) > 0 := by omega
          have hn4 : nl ≤ 4 := by have := NL.out; omega
          have y0 : w6.drew.cell? ⟨bp, 1, none⟩ = some (.slice (some ⟨g, 0, none⟩) nl cap) := KE.out.cell (i := 1) rfl
          have FD := Lib.hid (FE.out.own (grown_drew (World.grownBy.refl w6 none)) (by simp))
          have RD := Lib.hid (RE.out.up (grown_drew (World.grownBy.refl w6 none)) (by simp))
          have ZD : Hid (Blk w6.drew r 25 [.int .i64 0, .slice none 0 0, .slice none 0 0]) := Lib.hid ZE.out
          have KD : Hid (Blk w6.drew bp 25 [.int .i64 d, .slice (some ⟨g, 0, none⟩) nl cap, .slice av ml cv]) := Lib.hid KE.out
          have UD := Lib.hid (UE.out.still (grown_drew (World.grownBy.refl w6 none)))
          have VD := Lib.hid (VE.out.still (grown_drew (World.grownBy.refl w6 none)))
          clear FE RE ZE KE UE VE
          go_wp2_with fail
          go_region_held3 (fun w' => w'.cell? ⟨bp, 1, none⟩ = some (.slice (some ⟨g, 0, none⟩) nl cap))
            (first
              | with_reducible exact y0
              | with_reducible exact y1
              | with_reducible exact y2
              | with_reducible exact y3)
            (first
              | (go_at_call 72; refine (pick c (p + 1 + 1 + 10 + 1 + 1) 8 _ RA.out (by omega) (by omega) (by omega)).mono ?_; rintro e w8 ⟨x, x0, x1, rfl, hf8, hr8⟩
                 have FB := Lib.hid (FA.out.trans hf8)
                 have RB := Lib.hid hr8
                 have ZB : Hid (Blk w8 r 25 [.int .i64 0, .slice none 0 0, .slice none 0 0]) := Lib.hid (ZA.out.kept (far_grown hf8) (fun e => by injection e with e; omega))
                 have KB : Hid (Blk w8 bp 25 [.int .i64 d, .slice (some ⟨g, 0, none⟩) nl cap, .slice av ml cv]) := Lib.hid (KA.out.kept (far_grown hf8) (fun e => by injection e with e; omega))
                 have UB := Lib.hid (UA.out.far hf8 (by omega))
                 have VB := Lib.hid (VA.out.far hf8 (by omega))
                 have y2 := KB.out.cell (i := 1) rfl
                 have hcx := (UB.out.big NL.out (by omega)).choose_spec
                 have hfz : w8.frozen? ⟨g, i, none⟩ = false := by
                   obtain ⟨g', cap', e', _, _, _, _, _, gfr⟩ := UB.out.big NL.out (by omega)
                   injection e' with e1 _ _
                   injection e1 with e1
                   injection e1 with e1
                   subst e1
                   exact gfr i
                 have hcl : w8.cell? ⟨g, i, none⟩ = some (.int .i64 (l.getD i 0)) := by
                   obtain ⟨g', cap', e', _, _, _, _, gcell, _⟩ := UB.out.big NL.out (by omega)
                   injection e' with e1 _ _
                   injection e1 with e1
                   injection e1 with e1
                   subst e1
                   exact gcell i hi4
                 have y3 : (w8.setCell ⟨g, i, none⟩ (.int .i64 x)).cell? ⟨bp, 1, none⟩ = some (.slice (some ⟨g, 0, none⟩) nl cap) := (KB.out.kept (grown_cell w8 ⟨g, i, none⟩ _) (fun e => own_blk UB.out KB.out (by rw [e]; rfl))).cell (i := 1) rfl
                 clear hcx hf8 hr8)
              | (go_at_call 72; refine (pick c (p + 1 + 1 + 10 + 1) nl _ RD.out (by omega) (by omega) (by omega)).mono ?_; rintro e w7 ⟨i', i0, i1, rfl, hf7, hr7⟩
                 obtain ⟨i, hi4, rfl⟩ := below_n i0 i1
                 have hi4' : (i : Int) < (nl : Int) := by omega
                 have FA := Lib.hid (FD.out.trans hf7)
                 have RA := Lib.hid hr7
                 have ZA : Hid (Blk w7 r 25 [.int .i64 0, .slice none 0 0, .slice none 0 0]) := Lib.hid (ZD.out.kept (far_grown hf7) (fun e => by injection e with e; omega))
                 have KA : Hid (Blk w7 bp 25 [.int .i64 d, .slice (some ⟨g, 0, none⟩) nl cap, .slice av ml cv]) := Lib.hid (KD.out.kept (far_grown hf7) (fun e => by injection e with e; omega))
                 have UA := Lib.hid (UD.out.far hf7 (by omega))
                 have VA := Lib.hid (VD.out.far hf7 (by omega))
                 have y1 := KA.out.cell (i := 1) rfl
                 clear hf7 hr7))
          have PP := Lib.hid (UB.out.putN NL.out i x)
          have FE : Hid (Far c w (w8.setCell ⟨g, i, none⟩ (.int .i64 x))) := Lib.hid (FB.out.own PP.out.2 (fun q hq => by injection hq with hq; omega))
          have RE : Hid (Rd (w8.setCell ⟨g, i, none⟩ (.int .i64 x)) c (p + 1 + 1 + 10 + 1 + 1 + 1)) := Lib.hid (RB.out.up PP.out.2 (fun q hq => by injection hq with hq; omega))
          have ZE : Hid (Blk (w8.setCell ⟨g, i, none⟩ (.int .i64 x)) r 25 [.int .i64 0, .slice none 0 0, .slice none 0 0]) := Lib.hid (ZB.out.kept PP.out.2 (fun e => by injection e with e; omega))
          have KE : Hid (Blk (w8.setCell ⟨g, i, none⟩ (.int .i64 x)) bp 25 [.int .i64 d, .slice (some ⟨g, 0, none⟩) nl cap, .slice av ml cv]) := Lib.hid (KB.out.kept PP.out.2 (fun e => own_blk UB.out KB.out (by rw [e]; rfl)))
          have UE : Hid (Own (w8.setCell ⟨g, i, none⟩ (.int .i64 x)) (r + 1) (.slice (some ⟨g, 0, none⟩) nl cap) (l.set i x)) := Lib.hid PP.out.1
          have VE : Hid (Own (w8.setCell ⟨g, i, none⟩ (.int .i64 x)) (r + 1) (.slice av ml cv) m) := Lib.hid (VB.out.kept PP.out.2 (by
            rcases AP with h | h
            · exact absurd h (by simp [Value.ownBlock])
            · right; exact fun e => h e.symm))
          clear y0 y1 y2 y3 hfz hcl PP FB RB ZB KB UB VB FA RA ZA KA UA VA FD RD ZD KD UD VD kk0 kk1 kk2
          go_wp2_with fail
          generalize w8.setCell ⟨g, i, none⟩ (.int .i64 x) = WX at *
          have k0 : WX.drew.cell? ⟨bp, 0, none⟩ = some (.int .i64 (d)) := KE.out.cell (i := 0) rfl
          have k1 : WX.drew.cell? ⟨bp, 1, none⟩ = some (.slice (some ⟨g, 0, none⟩) nl cap) := KE.out.cell (i := 1) rfl
          have k2 : WX.drew.cell? ⟨bp, 2, none⟩ = some (.slice av ml cv) := KE.out.cell (i := 2) rfl
          have z0 : WX.drew.cell? ⟨r, 0, none⟩ = some (.int .i64 0) := ZE.out.cell (i := 0) rfl
          have z1 : WX.drew.cell? ⟨r, 1, none⟩ = some (.slice none 0 0) := ZE.out.cell (i := 1) rfl
          have z2 : WX.drew.cell? ⟨r, 2, none⟩ = some (.slice none 0 0) := ZE.out.cell (i := 2) rfl
          have f0 : WX.drew.frozen? ⟨r, 0, none⟩ = false := ZE.out.frozen 0
          have f1 : WX.drew.frozen? ⟨r, 1, none⟩ = false := ZE.out.frozen 1
          have f2 : WX.drew.frozen? ⟨r, 2, none⟩ = false := ZE.out.frozen 2
          have GD : Hid (WX.grownBy WX.drew none) := Lib.hid (grown_drew (World.grownBy.refl _ none))
          have GS : Hid (WX.drew.grownBy (((WX.drew.setCell ⟨r, 0, none⟩ (.int .i64 (d))).setCell ⟨r, 1, none⟩ (.slice (some ⟨g, 0, none⟩) nl cap)).setCell ⟨r, 2, none⟩ (.slice av ml cv)) (some r)) := Lib.hid (grown_trans (grown_trans (grown_cell _ _ _) (grown_cell _ _ _)) (grown_cell _ _ _))
          have FZ : Hid (Far c w (((WX.drew.setCell ⟨r, 0, none⟩ (.int .i64 (d))).setCell ⟨r, 1, none⟩ (.slice (some ⟨g, 0, none⟩) nl cap)).setCell ⟨r, 2, none⟩ (.slice av ml cv))) := Lib.hid ((FE.out.own GD.out (by simp)).own GS.out (fun q hq => by injection hq with hq; omega))
          have RZ : Hid (Rd (((WX.drew.setCell ⟨r, 0, none⟩ (.int .i64 (d))).setCell ⟨r, 1, none⟩ (.slice (some ⟨g, 0, none⟩) nl cap)).setCell ⟨r, 2, none⟩ (.slice av ml cv)) c (p + 15)) := Lib.hid (((RE.out.up GD.out (by simp)).up GS.out (fun q hq => by injection hq with hq; omega)).mono (by omega))
          have OZ : Hid (Own (((WX.drew.setCell ⟨r, 0, none⟩ (.int .i64 (d))).setCell ⟨r, 1, none⟩ (.slice (some ⟨g, 0, none⟩) nl cap)).setCell ⟨r, 2, none⟩ (.slice av ml cv)) w.heap.size (.slice (some ⟨g, 0, none⟩) nl cap) (l.set i x)) := Lib.hid (((UE.out.still GD.out).kept GS.out (own_far UE.out (by omega))).lower (by omega))
          have PZ : Hid (Own (((WX.drew.setCell ⟨r, 0, none⟩ (.int .i64 (d))).setCell ⟨r, 1, none⟩ (.slice (some ⟨g, 0, none⟩) nl cap)).setCell ⟨r, 2, none⟩ (.slice av ml cv)) w.heap.size (.slice av ml cv) (m)) := Lib.hid (((VE.out.still GD.out).kept GS.out (own_far VE.out (by omega))).lower (by omega))
          clear KE ZE UE VE FE RE GS GD
          refine wp_region_still_tail 3 (by kernel_rfl) (by kernel_rfl) ?_
          simp only [List.take_succ_cons, List.take_zero, List.drop_succ_cons, List.drop_zero]
          change wpStill _ _ WX.drew (fun a' => wpList _ _ _ _ a' WX.drew) _ _
          generalize WX.drew = WY at *
          repeat still_step
          refine wpStill_nil ?_
          go_wp2_with fail
          refine bodyPost_ret (v := .tuple #[.int .i64 k, .agg #[.int .i64 (d), .slice (some ⟨g, 0, none⟩) nl cap, .slice av ml cv]]) (by simp [results, Tryd.results45, go_sem, z0, z1, z2]) rfl ?_
          exact ⟨k, _, _, _, l.set i x, m, hk, rfl, by simp; exact l4.1, OZ.out, PZ.out, FZ.out, RZ.out⟩
      · have e2 : (j == 2) = false := by rw [beq_eq_false_iff_ne]; exact hj2
        clear kk0 kk1 kk2
        go_wp2_with fail
        obtain ⟨WX, hWX⟩ : ∃ W, W = w6 := ⟨_, rfl⟩
        subst hWX
        have k0 : WX.drew.cell? ⟨bp, 0, none⟩ = some (.int .i64 (d)) := KE.out.cell (i := 0) rfl
        have k1 : WX.drew.cell? ⟨bp, 1, none⟩ = some (.slice au nl cu) := KE.out.cell (i := 1) rfl
        have k2 : WX.drew.cell? ⟨bp, 2, none⟩ = some (.slice av ml cv) := KE.out.cell (i := 2) rfl
        have z0 : WX.drew.cell? ⟨r, 0, none⟩ = some (.int .i64 0) := ZE.out.cell (i := 0) rfl
        have z1 : WX.drew.cell? ⟨r, 1, none⟩ = some (.slice none 0 0) := ZE.out.cell (i := 1) rfl
        have z2 : WX.drew.cell? ⟨r, 2, none⟩ = some (.slice none 0 0) := ZE.out.cell (i := 2) rfl
        have f0 : WX.drew.frozen? ⟨r, 0, none⟩ = false := ZE.out.frozen 0
        have f1 : WX.drew.frozen? ⟨r, 1, none⟩ = false := ZE.out.frozen 1
        have f2 : WX.drew.frozen? ⟨r, 2, none⟩ = false := ZE.out.frozen 2
        have GD : Hid (WX.grownBy WX.drew none) := Lib.hid (grown_drew (World.grownBy.refl _ none))
        have GS : Hid (WX.drew.grownBy (((WX.drew.setCell ⟨r, 0, none⟩ (.int .i64 (d))).setCell ⟨r, 1, none⟩ (.slice au nl cu)).setCell ⟨r, 2, none⟩ (.slice av ml cv)) (some r)) := Lib.hid (grown_trans (grown_trans (grown_cell _ _ _) (grown_cell _ _ _)) (grown_cell _ _ _))
        have FZ : Hid (Far c w (((WX.drew.setCell ⟨r, 0, none⟩ (.int .i64 (d))).setCell ⟨r, 1, none⟩ (.slice au nl cu)).setCell ⟨r, 2, none⟩ (.slice av ml cv))) := Lib.hid ((FE.out.own GD.out (by simp)).own GS.out (fun q hq => by injection hq with hq; omega))
        have RZ : Hid (Rd (((WX.drew.setCell ⟨r, 0, none⟩ (.int .i64 (d))).setCell ⟨r, 1, none⟩ (.slice au nl cu)).setCell ⟨r, 2, none⟩ (.slice av ml cv)) c (p + 15)) := Lib.hid (((RE.out.up GD.out (by simp)).up GS.out (fun q hq => by injection hq with hq; omega)).mono (by omega))
        have OZ : Hid (Own (((WX.drew.setCell ⟨r, 0, none⟩ (.int .i64 (d))).setCell ⟨r, 1, none⟩ (.slice au nl cu)).setCell ⟨r, 2, none⟩ (.slice av ml cv)) w.heap.size (.slice au nl cu) (l)) := Lib.hid (((UE.out.still GD.out).kept GS.out (own_far UE.out (by omega))).lower (by omega))
        have PZ : Hid (Own (((WX.drew.setCell ⟨r, 0, none⟩ (.int .i64 (d))).setCell ⟨r, 1, none⟩ (.slice au nl cu)).setCell ⟨r, 2, none⟩ (.slice av ml cv)) w.heap.size (.slice av ml cv) (m)) := Lib.hid (((VE.out.still GD.out).kept GS.out (own_far VE.out (by omega))).lower (by omega))
        clear KE ZE UE VE FE RE GS GD
        refine wp_region_still_tail 3 (by kernel_rfl) (by kernel_rfl) ?_
        simp only [List.take_succ_cons, List.take_zero, List.drop_succ_cons, List.drop_zero]
        change wpStill _ _ WX.drew (fun a' => wpList _ _ _ _ a' WX.drew) _ _
        generalize WX.drew = WY at *
        repeat still_step
        refine wpStill_nil ?_
        go_wp2_with fail
        refine bodyPost_ret (v := .tuple #[.int .i64 k, .agg #[.int .i64 (d), .slice au nl cu, .slice av ml cv]]) (by simp [results, Tryd.results45, go_sem, z0, z1, z2]) rfl ?_
        exact ⟨k, _, _, _, l, m, hk, rfl, l4.1, OZ.out, PZ.out, FZ.out, RZ.out⟩
end Go.Proofs.YtlehcpcejkpbmaaDoor
