/-
  The contract of the program's check that shards fit.
  Conditions: none.
-/
import Derived.Test.YtbpkfcaokbidnabCodeFit
import Derived.Test.YtbpkfcaokbidnabSpanTopsBy
import Derived.Deep.RegionHeld3
namespace Go.Proofs.Ytbpkfcaokbidnab
open Go.RowKit
set_option linter.unusedVariables false

/-- a row that is there is made of those that are there. -/
theorem padd_has {k : Nat} (hk : k = 1 ∨ k = 2) {f : List Bool} {n : Nat} (hn : n < 8) (ht : f.getD n false = true) : Sp.has (Sp.padd k f) (Sp.crow k n) = true := by
  refine (Sp.has_iff (Sp.padd_row hk f) (Sp.crow_row hk hn)).2 ?_
  have hl : n < (Sp.padd k f).length := by rw [Sp.padd_len]; exact hn
  have e : (Sp.padd k f).getD n [] = Sp.crow k n := by rw [Sp.padd_get hn, ht]; rfl
  have : Sp.toV (Sp.crow k n) ∈ (Sp.padd k f).map Sp.toV := by
    refine List.mem_map.2 ⟨_, ?_, rfl⟩
    rw [← e, List.getD_eq_getElem?_getD, List.getElem?_eq_getElem hl]
    exact List.getElem_mem hl
  exact Sp.In.mem this

theorem keep17 {w w' : World} (hg : w.grownBy w' none) {ga gt n : Nat} {a0 a1 a2 a3 a4 a5 a6 a7 s0 s1 s2 s3 s4 s5 s6 s7 y : Int} (h : (w.cell? ⟨ga, 0, none⟩ = some (.int .i64 a0) ∧ w.cell? ⟨ga, 1, none⟩ = some (.int .i64 a1) ∧ w.cell? ⟨ga, 2, none⟩ = some (.int .i64 a2) ∧ w.cell? ⟨ga, 3, none⟩ = some (.int .i64 a3) ∧ w.cell? ⟨ga, 4, none⟩ = some (.int .i64 a4) ∧ w.cell? ⟨ga, 5, none⟩ = some (.int .i64 a5) ∧ w.cell? ⟨ga, 6, none⟩ = some (.int .i64 a6) ∧ w.cell? ⟨ga, 7, none⟩ = some (.int .i64 a7)) ∧ (w.cell? ⟨gt, 0, none⟩ = some (.int .i64 s0) ∧ w.cell? ⟨gt, 1, none⟩ = some (.int .i64 s1) ∧ w.cell? ⟨gt, 2, none⟩ = some (.int .i64 s2) ∧ w.cell? ⟨gt, 3, none⟩ = some (.int .i64 s3) ∧ w.cell? ⟨gt, 4, none⟩ = some (.int .i64 s4) ∧ w.cell? ⟨gt, 5, none⟩ = some (.int .i64 s5) ∧ w.cell? ⟨gt, 6, none⟩ = some (.int .i64 s6) ∧ w.cell? ⟨gt, 7, none⟩ = some (.int .i64 s7)) ∧ w.cell? ⟨ga, n, none⟩ = some (.int .i64 y)) :
    (w'.cell? ⟨ga, 0, none⟩ = some (.int .i64 a0) ∧ w'.cell? ⟨ga, 1, none⟩ = some (.int .i64 a1) ∧ w'.cell? ⟨ga, 2, none⟩ = some (.int .i64 a2) ∧ w'.cell? ⟨ga, 3, none⟩ = some (.int .i64 a3) ∧ w'.cell? ⟨ga, 4, none⟩ = some (.int .i64 a4) ∧ w'.cell? ⟨ga, 5, none⟩ = some (.int .i64 a5) ∧ w'.cell? ⟨ga, 6, none⟩ = some (.int .i64 a6) ∧ w'.cell? ⟨ga, 7, none⟩ = some (.int .i64 a7)) ∧ (w'.cell? ⟨gt, 0, none⟩ = some (.int .i64 s0) ∧ w'.cell? ⟨gt, 1, none⟩ = some (.int .i64 s1) ∧ w'.cell? ⟨gt, 2, none⟩ = some (.int .i64 s2) ∧ w'.cell? ⟨gt, 3, none⟩ = some (.int .i64 s3) ∧ w'.cell? ⟨gt, 4, none⟩ = some (.int .i64 s4) ∧ w'.cell? ⟨gt, 5, none⟩ = some (.int .i64 s5) ∧ w'.cell? ⟨gt, 6, none⟩ = some (.int .i64 s6) ∧ w'.cell? ⟨gt, 7, none⟩ = some (.int .i64 s7)) ∧ w'.cell? ⟨ga, n, none⟩ = some (.int .i64 y) := by
  obtain ⟨⟨h0, h1, h2, h3, h4, h5, h6, h7⟩, ⟨k0, k1, k2, k3, k4, k5, k6, k7⟩, hn⟩ := h
  exact ⟨⟨hg.cell h0 (by simp), hg.cell h1 (by simp), hg.cell h2 (by simp), hg.cell h3 (by simp), hg.cell h4 (by simp), hg.cell h5 (by simp), hg.cell h6 (by simp), hg.cell h7 (by simp)⟩, ⟨hg.cell k0 (by simp), hg.cell k1 (by simp), hg.cell k2 (by simp), hg.cell k3 (by simp), hg.cell k4 (by simp), hg.cell k5 (by simp), hg.cell k6 (by simp), hg.cell k7 (by simp)⟩, hg.cell hn (by simp)⟩

/-- what CodeFits' check answers. -/
def FitsOf (k : Nat) (f : List Bool) (a : List Int) (w : World) (e : Ending) (w' : World) : Prop := ∃ q, e = .returned (.bool q) ∧ (q = true ↔ Sp.Fit k f a) ∧ w.grownBy w' none

set_option maxHeartbeats 8000000 in
set_option maxRecDepth 20000 in
theorem genFits {k : Nat} (hk : k = 1 ∨ k = 2) (f : List Bool) (hf : f.length = 8) (a : List Int) (ra : Sp.Row 8 a) (w : World) : Calls Try.prog 93 #[.agg (vals (grid k)).toArray, .agg (vals a).toArray, .agg (bvals f).toArray] w (FitsOf k f a w) := by
  have GL := grid_len k hk
  have IX := Lib.hid (fun (n : Nat) (h : n < 8) (W : World) => idxG hk h W)
  have z : (vals (grid k)).toArray.size = 32 := by simp [vals_length, GL]
  have z8 : (bvals f).toArray.size = 8 := by simp [bvals_length, hf]
  have hi : (Try.prog.info? 76).map (·.size) = some (vals (grid k)).toArray.size := by rw [z]; kernel_rfl
  have hj : (Try.prog.info? 80).map (·.size) = some (bvals f).toArray.size := by rw [z8]; kernel_rfl
  obtain ⟨W0, hW0⟩ : ∃ W, W = ((w.alloc (.cells (vals (grid k)).toArray 76)).alloc (.cells (vals a).toArray 99)).alloc (.cells (bvals f).toArray 80) := ⟨_, rfl⟩
  have A0 : Hid (Arr W0 w.heap.size 76 (grid k)) := Lib.hid (by rw [hW0]; exact ((Arr.new w _ _).alloc _).alloc _)
  have V0 : Hid (Arr W0 (w.heap.size + 1) 99 a) := Lib.hid (by
    rw [hW0]
    have := (Arr.new (w.alloc (.cells (vals (grid k)).toArray 76)) 99 a).alloc (.cells (bvals f).toArray 80)
    rw [World.size_alloc] at this
    exact this)
  have F0 : Hid (BArr W0 (w.heap.size + 2) 80 f) := Lib.hid (by
    rw [hW0]
    have := BArr.new ((w.alloc (.cells (vals (grid k)).toArray 76)).alloc (.cells (vals a).toArray 99)) 80 f
    rw [World.size_alloc, World.size_alloc] at this
    exact this)
  have G0 : Hid (w.grownBy W0 none) := Lib.hid (by rw [hW0]; exact grown_alloc (grown_alloc (grown_alloc (World.grownBy.refl _ _) _) _) _)
  have RA := Lib.hid ra
  have HF8 := Lib.hid hf
  have GR := Lib.hid (fun w => genReduce hk f hf w)
  go_enter Try.func93, Try.ntmps93
  go_upto_region 1 with fail
  rw [← hW0]
  clear hW0
  obtain ⟨ga, hga⟩ : ∃ b, b = w.heap.size + 1 := ⟨_, rfl⟩
  obtain ⟨gf, hgf⟩ : ∃ g, g = w.heap.size + 1 + 1 := ⟨_, rfl⟩
  rw [← hga] at V0
  rw [show w.heap.size + 2 = gf from hgf.symm] at F0
  rw [← hgf, ← hga]
  obtain ⟨gg, hgg⟩ : ∃ g, g = w.heap.size := ⟨_, rfl⟩
  rw [← hgg] at A0 ⊢
  clear hga hgf hgg
  apply wp_region_lit
  refine wpList_load_row rfl _ _ rfl gg rfl _ _ _ _ A0.out Try.underlying76 rfl hi ?_
  refine wpList_load_row rfl _ _ rfl gf rfl _ _ _ _ F0.out Try.underlying80 rfl hj ?_
  have HI := Lib.hid hi
  clear GL z z8 hi hj hf ra
  generalize hfv : bvals f = fv at GR ⊢
  clear hfv
  generalize hgr : grid k = l at *
  clear hgr
  go_wp2_with fail
  refine (GR.out _).mono ?_
  rintro e w1 ⟨hg, b, g, q, S, pv, pn, rfl, hb, he, hst⟩
  have G1 := Lib.hid (grown_trans G0.out hg)
  have E1 := Lib.hid he
  have BY := Lib.hid (fun (v : List Int) (hv : Sp.Row 4 v) => hst.by (Sp.padd_row hk f) (by rw [Sp.padd_len]; exact Nat.le_refl _) hv)
  have RS := Lib.hid hst.row
  have A1 := Lib.hid (A0.out.still hg)
  have V1 := Lib.hid (V0.out.still hg)
  have F1 := Lib.hid (F0.out.still hg)
  clear hg hb he hst A0 V0 F0 GR G0
  go_upto_region 2 with fail
  apply wp_region_lit
  refine wpList_load_row rfl _ _ rfl gg rfl _ _ _ _ A1.out Try.underlying76 rfl HI.out ?_
  clear A1 HI
  go_wp2_with fail
  go_loopw [16] (fun i wr => ∃ n : Nat, n ≤ 8 ∧ i = .int .i64 n ∧ w.grownBy wr none ∧ Ech wr b g q S pv (pn.map fun (i : Nat) => (i : Int)) ∧ Arr wr ga 99 a ∧ BArr wr gf 80 f ∧ ∀ i, i < n → f.getD i false = true → ∃ c, Sp.IsBy (Sp.padd k f) (Sp.crow k i) c ∧ Sp.csum a c 8 = a.getD i 0) (fun i _ => 8 - (intOf i).toNat)
  case atStart => exact ⟨0, by omega, rfl, G1.out, E1.out, V1.out, F1.out, fun i hi => by omega⟩
  case round =>
    obtain ⟨n, hn, rfl, hgr, he, hv, hfl, hin⟩ := hrel
    have G := Lib.hid hgr
    have E := Lib.hid he
    have V := Lib.hid hv
    have F := Lib.hid hfl
    have IN := Lib.hid hin
    clear hgr he hv hfl hin G1 E1 V1 F1
    by_cases hlt : n < 8
    · have hlt' : (n : Int) < 8 := by omega
      obtain ⟨x, y, zz, t, hc, hok⟩ := crow_four hk hlt
      have ix0 := IX.out n hlt wr
      rw [hc] at ix0
      have ix : (Instr.index 76 (.agg (vals l).toArray) (.int .i64 n)).run Try.prog wr = .ok (.agg #[.int .i64 x, .int .i64 y, .int .i64 zz, .int .i64 t]) wr := ix0
      clear ix0
      have HC := Lib.hid hc
      have V4 : Hid (Vec.ok [x, y, zz, t] = true) := Lib.hid (by rw [← hc]; exact Sp.row_ok.2 (Sp.crow_row hk hlt))
      clear hc hok
      have fl : wr.cell? ⟨gf, n, none⟩ = some (.bool (f.getD n false)) := F.out.cell (by rw [HF8.out]; exact hlt)
      have FL := F.out.lt
      have G1 := Lib.hid (grown_alloc G.out (.cells (vals [x, y, zz, t]).toArray 74))
      have F1 := Lib.hid (F.out.alloc (.cells (vals [x, y, zz, t]).toArray 74))
      have V1 := Lib.hid (V.out.alloc (.cells (vals [x, y, zz, t]).toArray 74))
      have E1 := Lib.hid (E.out.grown (World.grownBy_alloc wr (.cells (vals [x, y, zz, t]).toArray 74) none))
      cases hfn : f.getD n false with
      | false =>
        rw [hfn] at fl
        have IN1 : Hid (∀ i, i < n + 1 → f.getD i false = true → ∃ c, Sp.IsBy (Sp.padd k f) (Sp.crow k i) c ∧ Sp.csum a c 8 = a.getD i 0) := Lib.hid (fun i hi ht => by
          by_cases e : i = n
          · subst e; rw [hfn] at ht; cases ht
          · exact IN.out i (by omega) ht)
        clear hfn G F E V IN
        go_wp2_with fail
        go_roundw
        case rel => exact ⟨n + 1, by omega, by go_num, G1.out, E1.out, V1.out, F1.out, IN1.out⟩
        case measure => simp [intOf]; omega
      | true =>
        rw [hfn] at fl
        have HT := Lib.hid hfn
        have BN := Lib.hid (BY.out (Sp.crow k n) (Sp.crow_row hk hlt))
        have NG := Lib.hid (BN.out.2.1.1 (padd_has hk hlt hfn))
        rw [HC.out] at BN NG
        obtain ⟨r, hr⟩ : ∃ r, Sp.red S 4 ([x, y, zz, t] ++ Sp.none8) = r := ⟨_, rfl⟩
        rw [hr] at BN NG
        have HR := Lib.hid hr
        clear hfn G F E V hr
        go_wp2_with fail
        change Calls _ _ _ (wr.alloc (.cells (vals [x, y, zz, t]).toArray 74)) _
        clear fl ix
        generalize wr.alloc (.cells (vals [x, y, zz, t]).toArray 74) = w2 at *
        refine (echBy b g q S pv _ x y zz t _ E1.out RS.out V4.out).mono ?_
        rw [HR.out]
        rintro e w3 ⟨hg, ⟨hneg, rfl⟩ | ⟨hpos, rfl⟩⟩
        · have G3 := Lib.hid (grown_trans G1.out hg)
          have E3 := Lib.hid (E1.out.grown hg)
          have V3 := Lib.hid (V1.out.still hg)
          have F3 := Lib.hid (F1.out.still hg)
          have IB := Lib.hid (BN.out.2.2 hneg)
          have RR := Lib.hid (Sp.row_lmul BN.out.1 30)
          have hs8 : ((Sp.lmul r 30).drop 4).length = 8 := by rw [List.length_drop, RR.out.1]
          have OS : Hid (∀ x ∈ (Sp.lmul r 30).drop 4, Fld.ok x = true) := Lib.hid (fun x hx => RR.out.2 x (List.mem_of_mem_drop hx))
          have IB' : Hid (Sp.IsBy (Sp.padd k f) (Sp.crow k n) ((Sp.lmul r 30).drop 4)) := Lib.hid (by
            have := IB.out
            rw [Sp.padd_len, List.take_of_length_le (by rw [hs8]; exact Nat.le_refl _)] at this
            rw [HC.out]; exact this)
          obtain ⟨s, hs⟩ : ∃ s, (Sp.lmul r 30).drop 4 = s := ⟨_, rfl⟩
          rw [hs] at IB' hs8 OS ⊢
          have S8 := Lib.hid hs8
          clear hg hneg hs BN NG HR IB RR G1 E1 V1 F1
          have CB := Lib.hid (fun w => combine a s RA.out.1 S8.out RA.out.2 OS.out w)
          have an : a.getD n 0 = a.getD n 0 := rfl
          obtain ⟨cs, hcs⟩ : ∃ cs, Sp.csum a s 8 = cs := ⟨_, rfl⟩
          obtain ⟨s0, s1, s2, s3, s4, s5, s6, s7, rfl⟩ := list_eight hs8
          obtain ⟨a0, a1, a2, a3, a4, a5, a6, a7, rfl⟩ := list_eight RA.out.1
          rw [show (vals [s0, s1, s2, s3, s4, s5, s6, s7]).toArray = #[.int .i64 s0, .int .i64 s1, .int .i64 s2, .int .i64 s3, .int .i64 s4, .int .i64 s5, .int .i64 s6, .int .i64 s7] from rfl]
          rw [show (vals [s0, s1, s2, s3, s4, s5, s6, s7]).toArray = #[.int .i64 s0, .int .i64 s1, .int .i64 s2, .int .i64 s3, .int .i64 s4, .int .i64 s5, .int .i64 s6, .int .i64 s7] from rfl,
            show (vals [a0, a1, a2, a3, a4, a5, a6, a7]).toArray = #[.int .i64 a0, .int .i64 a1, .int .i64 a2, .int .i64 a3, .int .i64 a4, .int .i64 a5, .int .i64 a6, .int .i64 a7] from rfl, hcs] at CB
          obtain ⟨w4, hw4⟩ : ∃ W, w3.alloc (.cells #[.int .i64 s0, .int .i64 s1, .int .i64 s2, .int .i64 s3, .int .i64 s4, .int .i64 s5, .int .i64 s6, .int .i64 s7] 88) = W := ⟨_, rfl⟩
          have T4 : Arr w4 w3.heap.size 88 [s0, s1, s2, s3, s4, s5, s6, s7] := by rw [← hw4]; exact Arr.new w3 88 [s0, s1, s2, s3, s4, s5, s6, s7]
          have G4 : Hid (w.grownBy w4 none) := Lib.hid (by rw [← hw4]; exact grown_alloc G3.out _)
          have E4 : Hid (Ech w4 b g q S pv (pn.map fun (i : Nat) => (i : Int))) := Lib.hid (by rw [← hw4]; exact E3.out.grown (World.grownBy_alloc _ _ _))
          have V5 : Arr w4 ga 99 [a0, a1, a2, a3, a4, a5, a6, a7] := by rw [← hw4]; exact V3.out.alloc _
          have V4' := Lib.hid V5
          have F4 : Hid (BArr w4 gf 80 f) := Lib.hid (by rw [← hw4]; exact F3.out.alloc _)
          have lt3 : w3.heap.size < w4.heap.size := T4.lt
          have va0 : w4.drew.cell? ⟨ga, 0, none⟩ = some (.int .i64 a0) := V5.cell (by simp)
          have va1 : w4.drew.cell? ⟨ga, 1, none⟩ = some (.int .i64 a1) := V5.cell (by simp)
          have va2 : w4.drew.cell? ⟨ga, 2, none⟩ = some (.int .i64 a2) := V5.cell (by simp)
          have va3 : w4.drew.cell? ⟨ga, 3, none⟩ = some (.int .i64 a3) := V5.cell (by simp)
          have va4 : w4.drew.cell? ⟨ga, 4, none⟩ = some (.int .i64 a4) := V5.cell (by simp)
          have va5 : w4.drew.cell? ⟨ga, 5, none⟩ = some (.int .i64 a5) := V5.cell (by simp)
          have va6 : w4.drew.cell? ⟨ga, 6, none⟩ = some (.int .i64 a6) := V5.cell (by simp)
          have va7 : w4.drew.cell? ⟨ga, 7, none⟩ = some (.int .i64 a7) := V5.cell (by simp)
          have vs0 : w4.drew.cell? ⟨w3.heap.size, 0, none⟩ = some (.int .i64 s0) := T4.cell (by simp)
          have vs1 : w4.drew.cell? ⟨w3.heap.size, 1, none⟩ = some (.int .i64 s1) := T4.cell (by simp)
          have vs2 : w4.drew.cell? ⟨w3.heap.size, 2, none⟩ = some (.int .i64 s2) := T4.cell (by simp)
          have vs3 : w4.drew.cell? ⟨w3.heap.size, 3, none⟩ = some (.int .i64 s3) := T4.cell (by simp)
          have vs4 : w4.drew.cell? ⟨w3.heap.size, 4, none⟩ = some (.int .i64 s4) := T4.cell (by simp)
          have vs5 : w4.drew.cell? ⟨w3.heap.size, 5, none⟩ = some (.int .i64 s5) := T4.cell (by simp)
          have vs6 : w4.drew.cell? ⟨w3.heap.size, 6, none⟩ = some (.int .i64 s6) := T4.cell (by simp)
          have vs7 : w4.drew.cell? ⟨w3.heap.size, 7, none⟩ = some (.int .i64 s7) := T4.cell (by simp)
          have vn : w4.drew.cell? ⟨ga, n, none⟩ = some (.int .i64 ([a0, a1, a2, a3, a4, a5, a6, a7].getD n 0)) := V5.cell (by simp; omega)
          obtain ⟨an', han⟩ : ∃ y, [a0, a1, a2, a3, a4, a5, a6, a7].getD n 0 = y := ⟨_, rfl⟩
          rw [han] at vn
          have HAN := Lib.hid han
          have HCS := Lib.hid hcs
          have W4 := Lib.hid hw4
          have S1 : Hid (w4.drew.cell? ⟨ga, n, none⟩ = some (.int .i64 an')) := Lib.hid vn
          clear T4 V5 an hcs han hw4 V3 F3 E3 G3 hs8
          obtain ⟨gt, hgt⟩ : ∃ gt, w3.heap.size = gt := ⟨_, rfl⟩
          rw [hgt] at vs0 vs1 vs2 vs3 vs4 vs5 vs6 vs7
          go_wp2_with fail
          rw [W4.out]
          clear hgt
          go_region_held3 (fun w' => ((w'.cell? ⟨ga, 0, none⟩ = some (.int .i64 a0) ∧ w'.cell? ⟨ga, 1, none⟩ = some (.int .i64 a1) ∧ w'.cell? ⟨ga, 2, none⟩ = some (.int .i64 a2) ∧ w'.cell? ⟨ga, 3, none⟩ = some (.int .i64 a3) ∧ w'.cell? ⟨ga, 4, none⟩ = some (.int .i64 a4) ∧ w'.cell? ⟨ga, 5, none⟩ = some (.int .i64 a5) ∧ w'.cell? ⟨ga, 6, none⟩ = some (.int .i64 a6) ∧ w'.cell? ⟨ga, 7, none⟩ = some (.int .i64 a7)) ∧ (w'.cell? ⟨gt, 0, none⟩ = some (.int .i64 s0) ∧ w'.cell? ⟨gt, 1, none⟩ = some (.int .i64 s1) ∧ w'.cell? ⟨gt, 2, none⟩ = some (.int .i64 s2) ∧ w'.cell? ⟨gt, 3, none⟩ = some (.int .i64 s3) ∧ w'.cell? ⟨gt, 4, none⟩ = some (.int .i64 s4) ∧ w'.cell? ⟨gt, 5, none⟩ = some (.int .i64 s5) ∧ w'.cell? ⟨gt, 6, none⟩ = some (.int .i64 s6) ∧ w'.cell? ⟨gt, 7, none⟩ = some (.int .i64 s7)) ∧ w'.cell? ⟨ga, n, none⟩ = some (.int .i64 an')))
            (first
              | with_reducible exact ⟨⟨va0, va1, va2, va3, va4, va5, va6, va7⟩, ⟨vs0, vs1, vs2, vs3, vs4, vs5, vs6, vs7⟩, vn⟩
              | with_reducible exact HS.out)
            (first
              | (go_at_call 74; refine (CB.out _).mono ?_; rintro e w5 ⟨rfl, hg5⟩
                 have HS := Lib.hid (keep17 hg5 ⟨⟨va0, va1, va2, va3, va4, va5, va6, va7⟩, ⟨vs0, vs1, vs2, vs3, vs4, vs5, vs6, vs7⟩, vn⟩)))
          have GD : Hid (w4.grownBy w5 none) := Lib.hid (grown_trans (grown_drew (World.grownBy.refl _ none)) hg5)
          have G5 := Lib.hid (grown_trans G4.out GD.out)
          have E5 := Lib.hid (E4.out.grown GD.out)
          have V5 := Lib.hid (V4'.out.still GD.out)
          have F5 := Lib.hid (F4.out.still GD.out)
          clear va0 va1 va2 va3 va4 va5 va6 va7 vs0 vs1 vs2 vs3 vs4 vs5 vs6 vs7 vn HS hg5 GD G4 E4 V4' F4 S1 CB W4 S8 OS
          by_cases hne : cs = an'
          · have IN1 : Hid (∀ i, i < n + 1 → f.getD i false = true → ∃ c, Sp.IsBy (Sp.padd k f) (Sp.crow k i) c ∧ Sp.csum [a0, a1, a2, a3, a4, a5, a6, a7] c 8 = [a0, a1, a2, a3, a4, a5, a6, a7].getD i 0) := Lib.hid (fun i hi ht => by
              by_cases e : i = n
              · subst e; exact ⟨_, IB'.out, by rw [HCS.out, HAN.out]; exact hne⟩
              · exact IN.out i (by omega) ht)
            subst hne
            clear IN HCS HAN IB'
            go_wp2_with fail
            go_roundw
            case rel => exact ⟨n + 1, by omega, by go_num, G5.out, E5.out, V5.out, F5.out, IN1.out⟩
            case measure => simp [intOf]; omega
          · have NF : Hid (¬ Sp.Fit k f [a0, a1, a2, a3, a4, a5, a6, a7]) := Lib.hid (Sp.fit_no hk RA.out hlt HT.out IB'.out (by rw [HCS.out, HAN.out]; exact hne))
            have hnb : (cs != an') = true := by rw [bne_iff_ne]; exact hne
            clear IN HCS HAN IB'
            go_wp2_with fail
            go_ret
            exact ⟨false, rfl, ⟨fun h => (by cases h), fun h => absurd h NF.out⟩, G5.out⟩
        · exact absurd NG.out hpos
    · obtain rfl : n = 8 := by omega
      have Y := Lib.hid (Sp.fit_yes hk (vals := a) (fun i hi ht => IN.out i hi ht))
      go_wp2_with fail
      go_ret
      exact ⟨true, rfl, ⟨fun _ => Y.out, fun _ => rfl⟩, G.out⟩

/-- what CodeFits answers. -/
def FitM (k : Int) (l : List Int) (f : List Bool) : Prop := (k = 1 ∨ k = 2) ∧ shOk l = true ∧ f.length = 8 ∧ Sp.Fit k.toNat f l
def FitsTop (k : Int) (l : List Int) (f : List Bool) (w : World) (e : Ending) (w' : World) : Prop := ∃ q, e = .returned (.bool q) ∧ (q = true ↔ FitM k l f) ∧ w.grownBy w' none
theorem storeS (w : World) {l : List Int} (hl : l.length = 8) : (storeCells ⟨w.heap.size, 0, none⟩ (vals l) 0).run Try.prog (w.alloc (.cells #[.int .i64 0, .int .i64 0, .int .i64 0, .int .i64 0, .int .i64 0, .int .i64 0, .int .i64 0, .int .i64 0] 99)) = .ok () (w.alloc (.cells (vals l).toArray 99)) := by
  have h := run_storeCells_from (P := Try.prog) w.heap.size 99 (vals l) 0 _ (w.alloc (.cells #[.int .i64 0, .int .i64 0, .int .i64 0, .int .i64 0, .int .i64 0, .int .i64 0, .int .i64 0, .int .i64 0] 99)) (heap_alloc_last w _) (by rw [vals_length, hl]; rfl) (vals_one l)
  rw [h, World.setRow_alloc_new]
  rfl
theorem shOr_len (l : List Int) : (shOr l).length = 8 := by
  unfold shOr
  cases h : shOk l with
  | false => rfl
  | true => exact (shOk_row.1 h).1

end Go.Proofs.Ytbpkfcaokbidnab
