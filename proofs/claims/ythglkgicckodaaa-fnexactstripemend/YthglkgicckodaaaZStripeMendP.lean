/-
  What this claim wants of the texts of earlier chapters.
  Conditions: none.
-/
import Derived.Test.YthglkgicckodaaaZStripeTop2
import Derived.Test.YthglkgicckodaaaZStripeMendS
namespace Go.Proofs.Ythglkgicckodaaa
open Go.RowKit Go.Shelf
set_option linter.unusedVariables false
set_option linter.unusedSimpArgs false
attribute [local go_sem] Oper.semAt_some
def MendP (k : Nat) (a v : List Int) (F : List Bool) (n : Nat) (w : World) (e : Ending) (w' : World) : Prop := ∃ a' v' F' b, SMendAt k a v F n a' v' F' b ∧ e = .returned (.tuple #[.agg (stv k (grid k) a' v' F').toArray, .bool b]) ∧ w.grownBy w' none
set_option maxHeartbeats 32000000 in
set_option maxRecDepth 60000 in
theorem stMend {j : Nat} (hj : j = 1 ∨ j = 2) {a v : List Int} {F : List Bool} (hl : SLen (grid j) a v F) (ok : StOk j a v F) {n : Nat} (hn : n < 8) (w : World) : Calls Try.prog 62 #[.agg (stv j (grid j) a v F).toArray, .int .i64 n] w (MendP j a v F n w) := by
  have HJ := Lib.hid hj
  have OK := Lib.hid ok
  have LN := Lib.hid hl
  have HN := Lib.hid hn
  have HS := Lib.hid (infoSt (k := j) hl)
  have HZ : Hid (∀ k L a v F, SLen L a v F → (stv k L a v F).toArray.size = 57) := Lib.hid (fun k L a v F h => stv_size h)
  have SBE := Lib.hid (fun w => stBest hj hl ok.clean w)
  have S := Lib.hid ((SB.new w j (grid j) a v F).alloc (.cells #[.int .i64 0, .int .i64 0, .int .i64 0, .int .i64 0, .int .i64 0, .int .i64 0, .int .i64 0, .int .i64 0, .int .i64 0, .int .i64 0, .int .i64 0, .int .i64 0, .int .i64 0, .int .i64 0, .int .i64 0, .int .i64 0, .int .i64 0, .int .i64 0, .int .i64 0, .int .i64 0, .int .i64 0, .int .i64 0, .int .i64 0, .int .i64 0, .int .i64 0, .int .i64 0, .int .i64 0, .int .i64 0, .int .i64 0, .int .i64 0, .int .i64 0, .int .i64 0, .int .i64 0, .int .i64 0, .int .i64 0, .int .i64 0, .int .i64 0, .int .i64 0, .int .i64 0, .int .i64 0, .int .i64 0, .int .i64 0, .int .i64 0, .int .i64 0, .int .i64 0, .int .i64 0, .int .i64 0, .int .i64 0, .int .i64 0, .bool false, .bool false, .bool false, .bool false, .bool false, .bool false, .bool false, .bool false] 94))
  have Z := Lib.hid (SZ.new (w.alloc (.cells (stv j (grid j) a v F).toArray 94)))
  have G := Lib.hid (grown_alloc (World.grownBy_alloc w (.cells (stv j (grid j) a v F).toArray 94) none) (.cells #[.int .i64 0, .int .i64 0, .int .i64 0, .int .i64 0, .int .i64 0, .int .i64 0, .int .i64 0, .int .i64 0, .int .i64 0, .int .i64 0, .int .i64 0, .int .i64 0, .int .i64 0, .int .i64 0, .int .i64 0, .int .i64 0, .int .i64 0, .int .i64 0, .int .i64 0, .int .i64 0, .int .i64 0, .int .i64 0, .int .i64 0, .int .i64 0, .int .i64 0, .int .i64 0, .int .i64 0, .int .i64 0, .int .i64 0, .int .i64 0, .int .i64 0, .int .i64 0, .int .i64 0, .int .i64 0, .int .i64 0, .int .i64 0, .int .i64 0, .int .i64 0, .int .i64 0, .int .i64 0, .int .i64 0, .int .i64 0, .int .i64 0, .int .i64 0, .int .i64 0, .int .i64 0, .int .i64 0, .int .i64 0, .int .i64 0, .bool false, .bool false, .bool false, .bool false, .bool false, .bool false, .bool false, .bool false] 94))
  have EP := enters_of (P := Try.prog) Try.func85 (by kernel_rfl) rfl
  have ED := enters_of (P := Try.prog) Try.func86 (by kernel_rfl) rfl
  have EI := enters_of (P := Try.prog) Try.func87 (by kernel_rfl) rfl
  clear hj hl ok hn
  go_enter Try.func62, Try.ntmps62
  go_upto_region 1 with fail
  rw [World.size_alloc] at Z
  generalize (w.alloc (.cells (stv j (grid j) a v F).toArray 94)).alloc (.cells #[.int .i64 0, .int .i64 0, .int .i64 0, .int .i64 0, .int .i64 0, .int .i64 0, .int .i64 0, .int .i64 0, .int .i64 0, .int .i64 0, .int .i64 0, .int .i64 0, .int .i64 0, .int .i64 0, .int .i64 0, .int .i64 0, .int .i64 0, .int .i64 0, .int .i64 0, .int .i64 0, .int .i64 0, .int .i64 0, .int .i64 0, .int .i64 0, .int .i64 0, .int .i64 0, .int .i64 0, .int .i64 0, .int .i64 0, .int .i64 0, .int .i64 0, .int .i64 0, .int .i64 0, .int .i64 0, .int .i64 0, .int .i64 0, .int .i64 0, .int .i64 0, .int .i64 0, .int .i64 0, .int .i64 0, .int .i64 0, .int .i64 0, .int .i64 0, .int .i64 0, .int .i64 0, .int .i64 0, .int .i64 0, .int .i64 0, .bool false, .bool false, .bool false, .bool false, .bool false, .bool false, .bool false, .bool false] 94) = wr at *
  obtain ⟨g, hg⟩ : ∃ g, g = w.heap.size := ⟨_, rfl⟩
  obtain ⟨gz, hgz⟩ : ∃ g, g = w.heap.size + 1 := ⟨_, rfl⟩
  rw [← hg] at S
  rw [← hgz] at Z
  rw [← hgz, ← hg]
  have LG : w.heap.size ≤ g := by omega
  have LZ : w.heap.size ≤ gz := by omega
  have NE : g ≠ gz := by omega
  clear hg hgz
  apply wp_region_lit
  refine wpList_load_row rfl _ _ rfl g rfl _ _ _ _ S.out Try.underlying94 rfl HS.out ?_
  simp only [Act.put, List.setIfInBounds_toArray, List.set_cons_succ, List.set_cons_zero]
  go_wp2_with fail
  refine (SBE.out _).mono ?_
  rintro e wr ⟨x, FG, rfl, hG8, hbest, hGe, hg⟩
  have hs := storeF wr hG8
  have hvl : (bvals FG).length = 8 := by rw [bvals_length]; exact hG8
  replace hg := grown_alloc hg (.cells (bvals FG).toArray 92)
  have B := Lib.hid (BArr.new wr 92 FG)
  replace G := Lib.hid (grown_trans G.out hg)
  replace S := Lib.hid (S.out.still hg)
  replace Z := Lib.hid (Z.out.still hg)
  have BS := Lib.hid hbest
  have GE := Lib.hid hGe
  have L8 := Lib.hid hG8
  obtain ⟨q, hq⟩ : ∃ q, decide (0 < x) = q := ⟨_, rfl⟩
  have HQ := Lib.hid hq
  rw [hq]
  clear hg hbest hGe hG8 hq SBE
  go_upto_region 2 with fail
  clear hs hvl
  generalize hwx : wr.alloc (.cells (bvals FG).toArray 92) = wx at *
  generalize wr.heap.size = gf at *
  clear hwx wr
  cases q with
  | false =>
    have BZ : Hid (SMendAt j a v F n a v F false) := Lib.hid (by
      have h1 := HQ.out
      simp only [decide_eq_false_iff_not] at h1
      exact ⟨x, BS.out, .inr ⟨rfl, rfl, rfl, rfl, fun h => by omega⟩⟩)
    go_upto_region 3 with fail
    apply wp_region_lit
    refine wpList_load_row rfl _ _ rfl g rfl _ _ _ _ S.out Try.underlying94 rfl HS.out ?_
    simp only [Act.put, List.setIfInBounds_toArray, List.set_cons_succ, List.set_cons_zero]
    obtain ⟨old, ho, hz⟩ := Z.out
    refine wpList_store_row rfl _ _ _ rfl gz (stv j (grid j) a v F).toArray rfl rfl _ _ ho HS.out (by rw [hz, HZ.out _ _ _ _ _ LN.out]) (all_oneCell_toArray stv_one) ?_
    have A9 := Lib.hid (sbRow ho j (grid j) a v F)
    have G9 := Lib.hid (grown_own G.out (grownRow ho (stv j (grid j) a v F).toArray) (fun i hi => by injection hi with hi; omega))
    have FIN : Hid (MendP j a v F n w (.returned (.tuple #[.agg (stv j (grid j) a v F).toArray, .bool false])) (wx.setRow gz (stv j (grid j) a v F).toArray)) := Lib.hid ⟨_, _, _, _, BZ.out, rfl, G9.out⟩
    clear ho hz G9 S Z G
    generalize hcs : (stv j (grid j) a v F).toArray = cs at *
    go_wp2_with fail
    subst hcs
    refine bodyPost_ret (v := .tuple #[.agg (stv j (grid j) a v F).toArray, .bool false]) ?_ rfl FIN.out
    exact results_row_slot Try.results62 _ _ gz _ _ _ _ _ rfl rfl A9.out Try.underlying94 rfl HS.out
  | true =>
    have ZP : Hid (1 ≤ x) := Lib.hid (by have := of_decide_eq_true HQ.out; omega)
    obtain rfl : FG = ofM v F x := GE.out (by have := ZP.out; omega)
    clear HQ GE
    go_upto_region 4 with fail
    refine wp_region_held (S := fun W => SB W g j (grid j) a v F ∧ BArr W gf 92 (ofM v F x)) (by kernel_rfl) ?_
    change wpAnyH _ _ _ _ _ _ _ _ wx.drew
    have hg := grown_drew (World.grownBy.refl wx none)
    replace G := Lib.hid (grown_trans G.out hg)
    replace S := Lib.hid (S.out.still hg)
    replace Z := Lib.hid (Z.out.still hg)
    replace B := Lib.hid (B.out.kept hg (by simp))
    clear hg
    generalize wx.drew = wr at *
    refine Rg.take_ 0 (some 22) (.pointer (some ⟨g, 0, none⟩)) rfl rfl (by kernel_rfl) (by kernel_rfl) (by kernel_rfl) (fun _ _ _ h => h) (.inl ⟨by rfl, fun W' hS => (by go_simp)⟩) ⟨S.out, B.out⟩ ?_
    simp only [Act.put, List.setIfInBounds_toArray, List.set_cons_zero, List.set_cons_succ]
    refine Rg.take_ 1 (some 23) (.int .i64 j) rfl rfl (by kernel_rfl) (by kernel_rfl) (by kernel_rfl) (fun _ _ _ h => h) (.inl ⟨by rfl, fun W' hS => (by have c0 := hS.1.kind; go_simp)⟩) ⟨S.out, B.out⟩ ?_
    simp only [Act.put, List.setIfInBounds_toArray, List.set_cons_zero, List.set_cons_succ]
    refine Rg.take_ 2 (some 24) (.int .i64 n) rfl rfl (by kernel_rfl) (by kernel_rfl) (by kernel_rfl) (fun _ _ _ h => h) (.inl ⟨by rfl, fun W' hS => (by go_simp)⟩) ⟨S.out, B.out⟩ ?_
    simp only [Act.put, List.setIfInBounds_toArray, List.set_cons_zero, List.set_cons_succ]
    refine Rg.take_ 3 (some 25) (.slice (some ⟨gf, 0, none⟩) 8 8) rfl rfl (by kernel_rfl) (by kernel_rfl) (by kernel_rfl) (fun _ _ _ h => h) (.inl ⟨by rfl, fun W' hS => (by go_simp)⟩) ⟨S.out, B.out⟩ ?_
    simp only [Act.put, List.setIfInBounds_toArray, List.set_cons_zero, List.set_cons_succ]
    refine Rg.ready_two (i := 4) (k := 8) (by kernel_rfl) rfl rfl rfl rfl ?_ ?_
    · refine Rg.call_at (some 26) (f := 85) (args := #[.int .i64 j, .int .i64 n, .slice (some ⟨gf, 0, none⟩) 8 8]) rfl (by go_simp) ((implPlanOf j n _ (ofM v F x) _ (B.out.bl8 L8.out)).mono ?_)
      rintro e wr ⟨d, l, m, b, pu, pv, hP, rfl, hg, ho⟩
      have HP := Lib.hid hP
      have PO := Lib.hid (ho.lower G.out.size)
      replace G := Lib.hid (grown_trans G.out hg)
      replace S := Lib.hid (S.out.still hg)
      replace Z := Lib.hid (Z.out.still hg)
      replace B := Lib.hid (B.out.kept hg (by simp))
      clear hg ho hP
      obtain ⟨p1, r1, q1', p2, r2, q2', e1, e2⟩ := PO.out.form
      subst e1 e2
      refine ⟨_, rfl, ⟨S.out, B.out⟩, ?_⟩
      simp only [Act.put, List.setIfInBounds_toArray, List.set_cons_zero, List.set_cons_succ]
      refine Rg.take_ 5 (some 21) (.tuple #[.agg #[.int .i64 d, .slice p1 r1 q1', .slice p2 r2 q2'], .bool b]) rfl rfl (by kernel_rfl) (by kernel_rfl) (by kernel_rfl) (fun _ _ _ h => h) (.inl ⟨by rfl, fun W' hS => (by go_simp)⟩) ⟨S.out, B.out⟩ ?_
      simp only [Act.put, List.setIfInBounds_toArray, List.set_cons_zero, List.set_cons_succ]
      refine Rg.take_ 6 (some 27) (.agg #[.int .i64 d, .slice p1 r1 q1', .slice p2 r2 q2']) rfl rfl (by kernel_rfl) (by kernel_rfl) (by kernel_rfl) (fun _ _ _ h => h) (.inl ⟨by rfl, fun W' hS => (by go_simp)⟩) ⟨S.out, B.out⟩ ?_
      simp only [Act.put, List.setIfInBounds_toArray, List.set_cons_zero, List.set_cons_succ]
      refine Rg.take_ 7 (some 28) (.bool b) rfl rfl (by kernel_rfl) (by kernel_rfl) (by kernel_rfl) (fun _ _ _ h => h) (.inl ⟨by rfl, fun W' hS => (by go_simp)⟩) ⟨S.out, B.out⟩ ?_
      simp only [Act.put, List.setIfInBounds_toArray, List.set_cons_zero, List.set_cons_succ]
      refine Rg.ready_one (i := 8) (by kernel_rfl) rfl rfl ?_
      refine Rg.value_at (some 9) (.pointer (some ⟨wr.heap.size, 0, none⟩)) (wr.alloc (.cells #[.int .i64 0, .slice none 0 0, .slice none 0 0] 110)) rfl (by go_simp) ?_
      have hg := World.grownBy_alloc wr (.cells #[.int .i64 0, .slice none 0 0, .slice none 0 0] 110) none
      have T : Hid (Blk (wr.alloc (.cells #[.int .i64 0, .slice none 0 0, .slice none 0 0] 110)) wr.heap.size 110 [.int .i64 0, .slice none 0 0, .slice none 0 0]) := Lib.hid (heap_alloc_new _ _)
      have TZ : gz < wr.heap.size ∧ g < wr.heap.size ∧ gf < wr.heap.size ∧ w.heap.size ≤ wr.heap.size := ⟨Z.out.lt, S.out.lt, (Array.getElem?_eq_some_iff.1 B.out).1, G.out.size⟩
      replace G := Lib.hid (grown_trans G.out hg)
      replace S := Lib.hid (S.out.still hg)
      replace Z := Lib.hid (Z.out.still hg)
      replace B := Lib.hid (B.out.kept hg (by simp))
      replace PO := Lib.hid (PO.out.still hg)
      clear hg
      refine ⟨⟨S.out, B.out⟩, ?_⟩
      simp only [Act.put, List.setIfInBounds_toArray, List.set_cons_zero, List.set_cons_succ]
      generalize wr.heap.size = tp at *
      generalize wr.alloc (.cells #[.int .i64 0, .slice none 0 0, .slice none 0 0] 110) = wr at *
      refine Rg.ready_one (i := 9) (by kernel_rfl) rfl rfl ?_
      refine storeAt none 110 _ _ rfl rfl tp #[.int .i64 d, .slice p1 r1 q1', .slice p2 r2 q2'] rfl rfl _ _ T.out infoPl rfl (by kernel_rfl) ?_
      have hg := grownRow T.out #[.int .i64 d, .slice p1 r1 q1', .slice p2 r2 q2']
      have T6 : Hid (Blk (wr.setRow tp #[.int .i64 d, .slice p1 r1 q1', .slice p2 r2 q2']) tp 110 [.int .i64 d, .slice p1 r1 q1', .slice p2 r2 q2']) := Lib.hid (setRow_heap wr tp _ _ _ (0, 0) T.out)
      have PO6 : Hid (Sl (wr.setRow tp #[.int .i64 d, .slice p1 r1 q1', .slice p2 r2 q2']) (.slice p1 r1 q1') l ∧ Sl (wr.setRow tp #[.int .i64 d, .slice p1 r1 q1', .slice p2 r2 q2']) (.slice p2 r2 q2') m) := Lib.hid ⟨(PO.out.1.kept hg (.inr fun e => own_blk PO.out.1 T.out e.symm)).sl, (PO.out.2.1.kept hg (.inr fun e => own_blk PO.out.2.1 T.out e.symm)).sl⟩
      replace G := Lib.hid (grown_own G.out hg (fun i hi => by injection hi with hi; omega))
      replace S := Lib.hid (S.out.kept hg (fun e => by injection e with e; omega))
      replace Z := Lib.hid (Z.out.kept hg (fun e => by injection e with e; omega))
      replace B : Hid (BArr (wr.setRow tp #[.int .i64 d, .slice p1 r1 q1', .slice p2 r2 q2']) gf 92 (ofM v F x)) := Lib.hid (B.out.kept hg (fun e => by injection e with e; omega))
      clear hg T PO
      have T := T6
      clear T6
      refine ⟨⟨S.out, B.out⟩, ?_⟩
      simp only [Act.put, List.setIfInBounds_toArray]
      generalize wr.setRow tp #[.int .i64 d, .slice p1 r1 q1', .slice p2 r2 q2'] = wr at *
      refine Rg.take_ 10 (some 8) (.bool b) rfl rfl (by kernel_rfl) (by kernel_rfl) (by kernel_rfl) (fun _ _ _ h => h) (.inl ⟨by rfl, fun W' hS => (by go_simp)⟩) ⟨S.out, B.out⟩ ?_
      simp only [Act.put, List.setIfInBounds_toArray, List.set_cons_zero, List.set_cons_succ]
      refine wpAnyH_done (by kernel_rfl) ?_ _
      cases b with
      | false =>
        have BZ : Hid (SMendAt j a v F n a v F false) := Lib.hid ⟨x, BS.out, .inr ⟨rfl, rfl, rfl, rfl, fun _ => ⟨d, l, m, HP.out⟩⟩⟩
        go_upto_region 6 with fail
        apply wp_region_lit
        refine wpList_load_row rfl _ _ rfl g rfl _ _ _ _ S.out Try.underlying94 rfl HS.out ?_
        simp only [Act.put, List.setIfInBounds_toArray, List.set_cons_succ, List.set_cons_zero]
        obtain ⟨old, ho, hz⟩ := Z.out
        refine wpList_store_row rfl _ _ _ rfl gz (stv j (grid j) a v F).toArray rfl rfl _ _ ho HS.out (by rw [hz, HZ.out _ _ _ _ _ LN.out]) (all_oneCell_toArray stv_one) ?_
        have A9 := Lib.hid (sbRow ho j (grid j) a v F)
        have G9 := Lib.hid (grown_own G.out (grownRow ho (stv j (grid j) a v F).toArray) (fun i hi => by injection hi with hi; omega))
        have FIN : Hid (MendP j a v F n w (.returned (.tuple #[.agg (stv j (grid j) a v F).toArray, .bool false])) (wr.setRow gz (stv j (grid j) a v F).toArray)) := Lib.hid ⟨_, _, _, _, BZ.out, rfl, G9.out⟩
        clear ho hz G9 S Z G
        generalize hcs : (stv j (grid j) a v F).toArray = cs at *
        go_wp2_with fail
        subst hcs
        refine bodyPost_ret (v := .tuple #[.agg (stv j (grid j) a v F).toArray, .bool false]) ?_ rfl FIN.out
        exact results_row_slot Try.results62 _ _ gz _ _ _ _ _ rfl rfl A9.out Try.underlying94 rfl HS.out
      | true =>
        have PF := plan_form HP.out
        have DP : Hid (doP d l m a = true) := Lib.hid (by unfold doP; rw [PF, OK.out.sh]; rfl)
        have DN : Hid (doN d l m a = dsum a l m l.length) := Lib.hid (by unfold doN; rw [DP.out]; rfl)
        have BZ : Hid (SMendAt j a v F n (a.set n (dsum a l m l.length)) (v.set n x) (F.set n true) true) := Lib.hid ⟨x, BS.out, .inl ⟨ZP.out, d, l, m, HP.out, rfl, rfl, rfl, rfl⟩⟩
        have SI := Lib.hid (fun w => shardInts a LN.out.a w)
        have HA := Lib.hid (infoSh LN.out.a)
        clear PF
        go_upto_region 7 with fail
        refine wp_region_held (S := fun W => SB W g j (grid j) a v F ∧ Blk W tp 110 [.int .i64 d, .slice p1 r1 q1', .slice p2 r2 q2']) (by kernel_rfl) ?_
        change wpAnyH _ _ _ _ _ _ _ _ wr.drew
        have hg := grown_drew (World.grownBy.refl wr none)
        replace G := Lib.hid (grown_trans G.out hg)
        replace S := Lib.hid (S.out.still hg)
        replace Z := Lib.hid (Z.out.still hg)
        replace T := Lib.hid (T.out.kept hg (by simp))
        replace PO6 := Lib.hid (And.intro (PO6.out.1.grown hg) (PO6.out.2.grown hg))
        clear hg B
        generalize wr.drew = wr at *
        refine Rg.take_ 0 (some 33) (.agg #[.int .i64 d, .slice p1 r1 q1', .slice p2 r2 q2']) rfl rfl (by kernel_rfl) (by kernel_rfl) (by kernel_rfl) (fun _ _ _ h => h) (.inl ⟨by rfl, fun W' hS => (by have c0 := hS.2.cell (i := 0) rfl; have c1 := hS.2.cell (i := 1) rfl; have c2 := hS.2.cell (i := 2) rfl; go_simp)⟩) ⟨S.out, T.out⟩ ?_
        simp only [Act.put, List.setIfInBounds_toArray, List.set_cons_zero, List.set_cons_succ]
        refine Rg.take_ 1 (some 34) (.pointer (some ⟨g, 33, none⟩)) rfl rfl (by kernel_rfl) (by kernel_rfl) (by kernel_rfl) (fun _ _ _ h => h) (.inl ⟨by rfl, fun W' hS => (by go_simp)⟩) ⟨S.out, T.out⟩ ?_
        simp only [Act.put, List.setIfInBounds_toArray, List.set_cons_zero, List.set_cons_succ]
        refine Rg.take_ 2 (some 35) (.agg (vals a).toArray) rfl rfl (by kernel_rfl) (by kernel_rfl) (by kernel_rfl) (fun _ _ _ h => h) (yieldsIf_load_mid rfl _ _ rfl g 33 rfl (vals a) _ (fun W hS => hS.1.vals_ LN.out) Try.underlying89 rfl HA.out) ⟨S.out, T.out⟩ ?_
        simp only [Act.put, List.setIfInBounds_toArray, List.set_cons_zero, List.set_cons_succ]
        refine Rg.ready_one (i := 3) (by kernel_rfl) rfl rfl ?_
        refine Rg.call_at (some 36) (f := 87) (args := #[.agg (vals a).toArray]) rfl (by go_simp) ((SI.out _).mono ?_)
        rintro e wr ⟨av, rfl, hg, ho⟩
        have AV := Lib.hid ho.sl
        replace G := Lib.hid (grown_trans G.out hg)
        replace S := Lib.hid (S.out.still hg)
        replace Z := Lib.hid (Z.out.still hg)
        replace T := Lib.hid (T.out.kept hg (by simp))
        replace PO6 := Lib.hid (And.intro (PO6.out.1.grown hg) (PO6.out.2.grown hg))
        clear hg ho
        refine ⟨_, rfl, ⟨S.out, T.out⟩, ?_⟩
        simp only [Act.put, List.setIfInBounds_toArray, List.set_cons_zero, List.set_cons_succ]
        refine Rg.ready_one (i := 4) (by kernel_rfl) rfl rfl ?_
        refine Rg.call_at (some 37) (f := 86) (args := #[.agg #[.int .i64 d, .slice p1 r1 q1', .slice p2 r2 q2'], av]) rfl (by go_simp) ((implPlanDo d _ _ _ l m a _ PO6.out.1 PO6.out.2 AV.out).mono ?_)
        rintro e wr ⟨rfl, hg⟩
        rw [DP.out, DN.out]
        replace G := Lib.hid (grown_trans G.out hg)
        replace S := Lib.hid (S.out.still hg)
        replace Z := Lib.hid (Z.out.still hg)
        replace T := Lib.hid (T.out.kept hg (by simp))
        clear hg PO6 AV DP DN
        generalize dsum a l m l.length = y at *
        refine ⟨_, rfl, ⟨S.out, T.out⟩, ?_⟩
        simp only [Act.put, List.setIfInBounds_toArray, List.set_cons_zero, List.set_cons_succ]
        refine Rg.take_ 5 (some 32) (.tuple #[.int .i64 y, .bool true]) rfl rfl (by kernel_rfl) (by kernel_rfl) (by kernel_rfl) (fun _ _ _ h => h) (.inl ⟨by rfl, fun W' hS => (by go_simp)⟩) ⟨S.out, T.out⟩ ?_
        simp only [Act.put, List.setIfInBounds_toArray, List.set_cons_zero, List.set_cons_succ]
        refine Rg.take_ 6 (some 38) (.int .i64 y) rfl rfl (by kernel_rfl) (by kernel_rfl) (by kernel_rfl) (fun _ _ _ h => h) (.inl ⟨by rfl, fun W' hS => (by go_simp)⟩) ⟨S.out, T.out⟩ ?_
        simp only [Act.put, List.setIfInBounds_toArray, List.set_cons_zero, List.set_cons_succ]
        refine Rg.take_ 7 (some 39) (.bool true) rfl rfl (by kernel_rfl) (by kernel_rfl) (by kernel_rfl) (fun _ _ _ h => h) (.inl ⟨by rfl, fun W' hS => (by go_simp)⟩) ⟨S.out, T.out⟩ ?_
        simp only [Act.put, List.setIfInBounds_toArray, List.set_cons_zero, List.set_cons_succ]
        refine Rg.take_ 8 (some 10) (.int .i64 y) rfl rfl (by kernel_rfl) (by kernel_rfl) (by kernel_rfl) (fun _ _ _ h => h) (.inl ⟨by rfl, fun W' hS => (by go_simp)⟩) ⟨S.out, T.out⟩ ?_
        simp only [Act.put, List.setIfInBounds_toArray, List.set_cons_zero, List.set_cons_succ]
        refine Rg.take_ 9 (some 11) (.bool true) rfl rfl (by kernel_rfl) (by kernel_rfl) (by kernel_rfl) (fun _ _ _ h => h) (.inl ⟨by rfl, fun W' hS => (by go_simp)⟩) ⟨S.out, T.out⟩ ?_
        simp only [Act.put, List.setIfInBounds_toArray, List.set_cons_zero, List.set_cons_succ]
        refine wpAnyH_done (by kernel_rfl) ?_ _
        have SP := Lib.hid (fun w => stPut (k := j) LN.out HN.out y x w)
        have LN2 := Lib.hid (((LN.out.setA n y).setV n x).setF n true)
        have HS2 := Lib.hid (infoSt (k := j) LN2.out)
        go_upto_region 8 with fail
        apply wp_region_lit
        refine wpList_load_row rfl _ _ rfl g rfl _ _ _ _ S.out Try.underlying94 rfl HS.out ?_
        simp only [Act.put, List.setIfInBounds_toArray, List.set_cons_succ, List.set_cons_zero]
        go_wp2_with fail
        refine (SP.out _).mono ?_
        rintro e wr ⟨rfl, hg⟩
        replace G := Lib.hid (grown_trans G.out hg)
        replace Z := Lib.hid (Z.out.still hg)
        clear hg SP S T
        rename_i hK
        refine hK _ _ ?_
        clear hK
        obtain ⟨old, ho, hz⟩ := Z.out
        refine wpList_store_row rfl _ _ _ rfl gz (stv j (grid j) (a.set n y) (v.set n x) (F.set n true)).toArray rfl rfl _ _ ho HS2.out (by rw [hz, HZ.out _ _ _ _ _ LN2.out]) (all_oneCell_toArray stv_one) ?_
        have A9 := Lib.hid (sbRow ho j (grid j) (a.set n y) (v.set n x) (F.set n true))
        have G9 := Lib.hid (grown_own G.out (grownRow ho (stv j (grid j) (a.set n y) (v.set n x) (F.set n true)).toArray) (fun i hi => by injection hi with hi; omega))
        have FIN : Hid (MendP j a v F n w (.returned (.tuple #[.agg (stv j (grid j) (a.set n y) (v.set n x) (F.set n true)).toArray, .bool true])) (wr.setRow gz (stv j (grid j) (a.set n y) (v.set n x) (F.set n true)).toArray)) := Lib.hid ⟨_, _, _, _, BZ.out, rfl, G9.out⟩
        clear ho hz G9 Z G
        generalize hcs : (stv j (grid j) (a.set n y) (v.set n x) (F.set n true)).toArray = cs at *
        go_wp2_with fail
        subst hcs
        refine bodyPost_ret (v := .tuple #[.agg (stv j (grid j) (a.set n y) (v.set n x) (F.set n true)).toArray, .bool true]) ?_ rfl FIN.out
        exact results_row_slot Try.results62 _ _ gz _ _ _ _ _ rfl rfl A9.out Try.underlying94 rfl HS2.out
    · refine Rg.value_at (some 9) (.pointer (some ⟨wr.heap.size, 0, none⟩)) (wr.alloc (.cells #[.int .i64 0, .slice none 0 0, .slice none 0 0] 110)) rfl (by go_simp) ?_
      have hg := World.grownBy_alloc wr (.cells #[.int .i64 0, .slice none 0 0, .slice none 0 0] 110) none
      have T : Hid (Blk (wr.alloc (.cells #[.int .i64 0, .slice none 0 0, .slice none 0 0] 110)) wr.heap.size 110 [.int .i64 0, .slice none 0 0, .slice none 0 0]) := Lib.hid (heap_alloc_new _ _)
      have TZ : gz < wr.heap.size ∧ g < wr.heap.size ∧ gf < wr.heap.size ∧ w.heap.size ≤ wr.heap.size := ⟨Z.out.lt, S.out.lt, (Array.getElem?_eq_some_iff.1 B.out).1, G.out.size⟩
      replace G := Lib.hid (grown_trans G.out hg)
      replace S := Lib.hid (S.out.still hg)
      replace Z := Lib.hid (Z.out.still hg)
      replace B := Lib.hid (B.out.kept hg (by simp))
      clear hg
      refine ⟨⟨S.out, B.out⟩, ?_⟩
      simp only [Act.put, List.setIfInBounds_toArray, List.set_cons_zero, List.set_cons_succ]
      generalize wr.heap.size = tp at *
      generalize wr.alloc (.cells #[.int .i64 0, .slice none 0 0, .slice none 0 0] 110) = wr at *
      refine Rg.ready_one (i := 4) (by kernel_rfl) rfl rfl ?_
      refine Rg.call_at (some 26) (f := 85) (args := #[.int .i64 j, .int .i64 n, .slice (some ⟨gf, 0, none⟩) 8 8]) rfl (by go_simp) ((implPlanOf j n _ (ofM v F x) _ (B.out.bl8 L8.out)).mono ?_)
      rintro e wr ⟨d, l, m, b, pu, pv, hP, rfl, hg, ho⟩
      have HP := Lib.hid hP
      have PO := Lib.hid (ho.lower G.out.size)
      replace G := Lib.hid (grown_trans G.out hg)
      replace S := Lib.hid (S.out.still hg)
      replace Z := Lib.hid (Z.out.still hg)
      replace B := Lib.hid (B.out.kept hg (by simp))
      replace T := Lib.hid (T.out.kept hg (by simp))
      clear hg ho hP
      obtain ⟨p1, r1, q1', p2, r2, q2', e1, e2⟩ := PO.out.form
      subst e1 e2
      refine ⟨_, rfl, ⟨S.out, B.out⟩, ?_⟩
      simp only [Act.put, List.setIfInBounds_toArray, List.set_cons_zero, List.set_cons_succ]
      refine Rg.take_ 5 (some 21) (.tuple #[.agg #[.int .i64 d, .slice p1 r1 q1', .slice p2 r2 q2'], .bool b]) rfl rfl (by kernel_rfl) (by kernel_rfl) (by kernel_rfl) (fun _ _ _ h => h) (.inl ⟨by rfl, fun W' hS => (by go_simp)⟩) ⟨S.out, B.out⟩ ?_
      simp only [Act.put, List.setIfInBounds_toArray, List.set_cons_zero, List.set_cons_succ]
      refine Rg.take_ 6 (some 27) (.agg #[.int .i64 d, .slice p1 r1 q1', .slice p2 r2 q2']) rfl rfl (by kernel_rfl) (by kernel_rfl) (by kernel_rfl) (fun _ _ _ h => h) (.inl ⟨by rfl, fun W' hS => (by go_simp)⟩) ⟨S.out, B.out⟩ ?_
      simp only [Act.put, List.setIfInBounds_toArray, List.set_cons_zero, List.set_cons_succ]
      refine Rg.take_ 7 (some 28) (.bool b) rfl rfl (by kernel_rfl) (by kernel_rfl) (by kernel_rfl) (fun _ _ _ h => h) (.inl ⟨by rfl, fun W' hS => (by go_simp)⟩) ⟨S.out, B.out⟩ ?_
      simp only [Act.put, List.setIfInBounds_toArray, List.set_cons_zero, List.set_cons_succ]
      refine Rg.ready_one (i := 9) (by kernel_rfl) rfl rfl ?_
      refine storeAt none 110 _ _ rfl rfl tp #[.int .i64 d, .slice p1 r1 q1', .slice p2 r2 q2'] rfl rfl _ _ T.out infoPl rfl (by kernel_rfl) ?_
      have hg := grownRow T.out #[.int .i64 d, .slice p1 r1 q1', .slice p2 r2 q2']
      have T6 : Hid (Blk (wr.setRow tp #[.int .i64 d, .slice p1 r1 q1', .slice p2 r2 q2']) tp 110 [.int .i64 d, .slice p1 r1 q1', .slice p2 r2 q2']) := Lib.hid (setRow_heap wr tp _ _ _ (0, 0) T.out)
      have PO6 : Hid (Sl (wr.setRow tp #[.int .i64 d, .slice p1 r1 q1', .slice p2 r2 q2']) (.slice p1 r1 q1') l ∧ Sl (wr.setRow tp #[.int .i64 d, .slice p1 r1 q1', .slice p2 r2 q2']) (.slice p2 r2 q2') m) := Lib.hid ⟨(PO.out.1.kept hg (.inr fun e => own_blk PO.out.1 T.out e.symm)).sl, (PO.out.2.1.kept hg (.inr fun e => own_blk PO.out.2.1 T.out e.symm)).sl⟩
      replace G := Lib.hid (grown_own G.out hg (fun i hi => by injection hi with hi; omega))
      replace S := Lib.hid (S.out.kept hg (fun e => by injection e with e; omega))
      replace Z := Lib.hid (Z.out.kept hg (fun e => by injection e with e; omega))
      replace B : Hid (BArr (wr.setRow tp #[.int .i64 d, .slice p1 r1 q1', .slice p2 r2 q2']) gf 92 (ofM v F x)) := Lib.hid (B.out.kept hg (fun e => by injection e with e; omega))
      clear hg T PO
      have T := T6
      clear T6
      refine ⟨⟨S.out, B.out⟩, ?_⟩
      simp only [Act.put, List.setIfInBounds_toArray]
      generalize wr.setRow tp #[.int .i64 d, .slice p1 r1 q1', .slice p2 r2 q2'] = wr at *
      refine Rg.take_ 10 (some 8) (.bool b) rfl rfl (by kernel_rfl) (by kernel_rfl) (by kernel_rfl) (fun _ _ _ h => h) (.inl ⟨by rfl, fun W' hS => (by go_simp)⟩) ⟨S.out, B.out⟩ ?_
      simp only [Act.put, List.setIfInBounds_toArray, List.set_cons_zero, List.set_cons_succ]
      refine wpAnyH_done (by kernel_rfl) ?_ _
      cases b with
      | false =>
        have BZ : Hid (SMendAt j a v F n a v F false) := Lib.hid ⟨x, BS.out, .inr ⟨rfl, rfl, rfl, rfl, fun _ => ⟨d, l, m, HP.out⟩⟩⟩
        go_upto_region 6 with fail
        apply wp_region_lit
        refine wpList_load_row rfl _ _ rfl g rfl _ _ _ _ S.out Try.underlying94 rfl HS.out ?_
        simp only [Act.put, List.setIfInBounds_toArray, List.set_cons_succ, List.set_cons_zero]
        obtain ⟨old, ho, hz⟩ := Z.out
        refine wpList_store_row rfl _ _ _ rfl gz (stv j (grid j) a v F).toArray rfl rfl _ _ ho HS.out (by rw [hz, HZ.out _ _ _ _ _ LN.out]) (all_oneCell_toArray stv_one) ?_
        have A9 := Lib.hid (sbRow ho j (grid j) a v F)
        have G9 := Lib.hid (grown_own G.out (grownRow ho (stv j (grid j) a v F).toArray) (fun i hi => by injection hi with hi; omega))
        have FIN : Hid (MendP j a v F n w (.returned (.tuple #[.agg (stv j (grid j) a v F).toArray, .bool false])) (wr.setRow gz (stv j (grid j) a v F).toArray)) := Lib.hid ⟨_, _, _, _, BZ.out, rfl, G9.out⟩
        clear ho hz G9 S Z G
        generalize hcs : (stv j (grid j) a v F).toArray = cs at *
        go_wp2_with fail
        subst hcs
        refine bodyPost_ret (v := .tuple #[.agg (stv j (grid j) a v F).toArray, .bool false]) ?_ rfl FIN.out
        exact results_row_slot Try.results62 _ _ gz _ _ _ _ _ rfl rfl A9.out Try.underlying94 rfl HS.out
      | true =>
        have PF := plan_form HP.out
        have DP : Hid (doP d l m a = true) := Lib.hid (by unfold doP; rw [PF, OK.out.sh]; rfl)
        have DN : Hid (doN d l m a = dsum a l m l.length) := Lib.hid (by unfold doN; rw [DP.out]; rfl)
        have BZ : Hid (SMendAt j a v F n (a.set n (dsum a l m l.length)) (v.set n x) (F.set n true) true) := Lib.hid ⟨x, BS.out, .inl ⟨ZP.out, d, l, m, HP.out, rfl, rfl, rfl, rfl⟩⟩
        have SI := Lib.hid (fun w => shardInts a LN.out.a w)
        have HA := Lib.hid (infoSh LN.out.a)
        clear PF
        go_upto_region 7 with fail
        refine wp_region_held (S := fun W => SB W g j (grid j) a v F ∧ Blk W tp 110 [.int .i64 d, .slice p1 r1 q1', .slice p2 r2 q2']) (by kernel_rfl) ?_
        change wpAnyH _ _ _ _ _ _ _ _ wr.drew
        have hg := grown_drew (World.grownBy.refl wr none)
        replace G := Lib.hid (grown_trans G.out hg)
        replace S := Lib.hid (S.out.still hg)
        replace Z := Lib.hid (Z.out.still hg)
        replace T := Lib.hid (T.out.kept hg (by simp))
        replace PO6 := Lib.hid (And.intro (PO6.out.1.grown hg) (PO6.out.2.grown hg))
        clear hg B
        generalize wr.drew = wr at *
        refine Rg.take_ 0 (some 33) (.agg #[.int .i64 d, .slice p1 r1 q1', .slice p2 r2 q2']) rfl rfl (by kernel_rfl) (by kernel_rfl) (by kernel_rfl) (fun _ _ _ h => h) (.inl ⟨by rfl, fun W' hS => (by have c0 := hS.2.cell (i := 0) rfl; have c1 := hS.2.cell (i := 1) rfl; have c2 := hS.2.cell (i := 2) rfl; go_simp)⟩) ⟨S.out, T.out⟩ ?_
        simp only [Act.put, List.setIfInBounds_toArray, List.set_cons_zero, List.set_cons_succ]
        refine Rg.take_ 1 (some 34) (.pointer (some ⟨g, 33, none⟩)) rfl rfl (by kernel_rfl) (by kernel_rfl) (by kernel_rfl) (fun _ _ _ h => h) (.inl ⟨by rfl, fun W' hS => (by go_simp)⟩) ⟨S.out, T.out⟩ ?_
        simp only [Act.put, List.setIfInBounds_toArray, List.set_cons_zero, List.set_cons_succ]
        refine Rg.take_ 2 (some 35) (.agg (vals a).toArray) rfl rfl (by kernel_rfl) (by kernel_rfl) (by kernel_rfl) (fun _ _ _ h => h) (yieldsIf_load_mid rfl _ _ rfl g 33 rfl (vals a) _ (fun W hS => hS.1.vals_ LN.out) Try.underlying89 rfl HA.out) ⟨S.out, T.out⟩ ?_
        simp only [Act.put, List.setIfInBounds_toArray, List.set_cons_zero, List.set_cons_succ]
        refine Rg.ready_one (i := 3) (by kernel_rfl) rfl rfl ?_
        refine Rg.call_at (some 36) (f := 87) (args := #[.agg (vals a).toArray]) rfl (by go_simp) ((SI.out _).mono ?_)
        rintro e wr ⟨av, rfl, hg, ho⟩
        have AV := Lib.hid ho.sl
        replace G := Lib.hid (grown_trans G.out hg)
        replace S := Lib.hid (S.out.still hg)
        replace Z := Lib.hid (Z.out.still hg)
        replace T := Lib.hid (T.out.kept hg (by simp))
        replace PO6 := Lib.hid (And.intro (PO6.out.1.grown hg) (PO6.out.2.grown hg))
        clear hg ho
        refine ⟨_, rfl, ⟨S.out, T.out⟩, ?_⟩
        simp only [Act.put, List.setIfInBounds_toArray, List.set_cons_zero, List.set_cons_succ]
        refine Rg.ready_one (i := 4) (by kernel_rfl) rfl rfl ?_
        refine Rg.call_at (some 37) (f := 86) (args := #[.agg #[.int .i64 d, .slice p1 r1 q1', .slice p2 r2 q2'], av]) rfl (by go_simp) ((implPlanDo d _ _ _ l m a _ PO6.out.1 PO6.out.2 AV.out).mono ?_)
        rintro e wr ⟨rfl, hg⟩
        rw [DP.out, DN.out]
        replace G := Lib.hid (grown_trans G.out hg)
        replace S := Lib.hid (S.out.still hg)
        replace Z := Lib.hid (Z.out.still hg)
        replace T := Lib.hid (T.out.kept hg (by simp))
        clear hg PO6 AV DP DN
        generalize dsum a l m l.length = y at *
        refine ⟨_, rfl, ⟨S.out, T.out⟩, ?_⟩
        simp only [Act.put, List.setIfInBounds_toArray, List.set_cons_zero, List.set_cons_succ]
        refine Rg.take_ 5 (some 32) (.tuple #[.int .i64 y, .bool true]) rfl rfl (by kernel_rfl) (by kernel_rfl) (by kernel_rfl) (fun _ _ _ h => h) (.inl ⟨by rfl, fun W' hS => (by go_simp)⟩) ⟨S.out, T.out⟩ ?_
        simp only [Act.put, List.setIfInBounds_toArray, List.set_cons_zero, List.set_cons_succ]
        refine Rg.take_ 6 (some 38) (.int .i64 y) rfl rfl (by kernel_rfl) (by kernel_rfl) (by kernel_rfl) (fun _ _ _ h => h) (.inl ⟨by rfl, fun W' hS => (by go_simp)⟩) ⟨S.out, T.out⟩ ?_
        simp only [Act.put, List.setIfInBounds_toArray, List.set_cons_zero, List.set_cons_succ]
        refine Rg.take_ 7 (some 39) (.bool true) rfl rfl (by kernel_rfl) (by kernel_rfl) (by kernel_rfl) (fun _ _ _ h => h) (.inl ⟨by rfl, fun W' hS => (by go_simp)⟩) ⟨S.out, T.out⟩ ?_
        simp only [Act.put, List.setIfInBounds_toArray, List.set_cons_zero, List.set_cons_succ]
        refine Rg.take_ 8 (some 10) (.int .i64 y) rfl rfl (by kernel_rfl) (by kernel_rfl) (by kernel_rfl) (fun _ _ _ h => h) (.inl ⟨by rfl, fun W' hS => (by go_simp)⟩) ⟨S.out, T.out⟩ ?_
        simp only [Act.put, List.setIfInBounds_toArray, List.set_cons_zero, List.set_cons_succ]
        refine Rg.take_ 9 (some 11) (.bool true) rfl rfl (by kernel_rfl) (by kernel_rfl) (by kernel_rfl) (fun _ _ _ h => h) (.inl ⟨by rfl, fun W' hS => (by go_simp)⟩) ⟨S.out, T.out⟩ ?_
        simp only [Act.put, List.setIfInBounds_toArray, List.set_cons_zero, List.set_cons_succ]
        refine wpAnyH_done (by kernel_rfl) ?_ _
        have SP := Lib.hid (fun w => stPut (k := j) LN.out HN.out y x w)
        have LN2 := Lib.hid (((LN.out.setA n y).setV n x).setF n true)
        have HS2 := Lib.hid (infoSt (k := j) LN2.out)
        go_upto_region 8 with fail
        apply wp_region_lit
        refine wpList_load_row rfl _ _ rfl g rfl _ _ _ _ S.out Try.underlying94 rfl HS.out ?_
        simp only [Act.put, List.setIfInBounds_toArray, List.set_cons_succ, List.set_cons_zero]
        go_wp2_with fail
        refine (SP.out _).mono ?_
        rintro e wr ⟨rfl, hg⟩
        replace G := Lib.hid (grown_trans G.out hg)
        replace Z := Lib.hid (Z.out.still hg)
        clear hg SP S T
        rename_i hK
        refine hK _ _ ?_
        clear hK
        obtain ⟨old, ho, hz⟩ := Z.out
        refine wpList_store_row rfl _ _ _ rfl gz (stv j (grid j) (a.set n y) (v.set n x) (F.set n true)).toArray rfl rfl _ _ ho HS2.out (by rw [hz, HZ.out _ _ _ _ _ LN2.out]) (all_oneCell_toArray stv_one) ?_
        have A9 := Lib.hid (sbRow ho j (grid j) (a.set n y) (v.set n x) (F.set n true))
        have G9 := Lib.hid (grown_own G.out (grownRow ho (stv j (grid j) (a.set n y) (v.set n x) (F.set n true)).toArray) (fun i hi => by injection hi with hi; omega))
        have FIN : Hid (MendP j a v F n w (.returned (.tuple #[.agg (stv j (grid j) (a.set n y) (v.set n x) (F.set n true)).toArray, .bool true])) (wr.setRow gz (stv j (grid j) (a.set n y) (v.set n x) (F.set n true)).toArray)) := Lib.hid ⟨_, _, _, _, BZ.out, rfl, G9.out⟩
        clear ho hz G9 Z G
        generalize hcs : (stv j (grid j) (a.set n y) (v.set n x) (F.set n true)).toArray = cs at *
        go_wp2_with fail
        subst hcs
        refine bodyPost_ret (v := .tuple #[.agg (stv j (grid j) (a.set n y) (v.set n x) (F.set n true)).toArray, .bool true]) ?_ rfl FIN.out
        exact results_row_slot Try.results62 _ _ gz _ _ _ _ _ rfl rfl A9.out Try.underlying94 rfl HS2.out
end Go.Proofs.Ythglkgicckodaaa
