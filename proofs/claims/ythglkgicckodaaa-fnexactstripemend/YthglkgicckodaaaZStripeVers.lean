/-
  What this claim wants of the texts of earlier chapters.
  Conditions: none.
-/
import Derived.Test.YthglkgicckodaaaZStripeClean
namespace Go.Proofs.Ythglkgicckodaaa
open Go.RowKit
set_option linter.unusedVariables false
theorem lookupAt {P : Program} (w : World) {ops : Array Oper} {rest : List Oper} {o : Oper} {a : Act} {Q : Exit → Act → World → Prop}
    (hg : o.guard = none) (m x : Operand) (t : TypeId) (hop : o.op = Op.lookup t m x false)
    (k e : TypeId) (K : Maps.Keyed P k) (ht : P.underlying t = some (.map k e)) (R : Value → Option (DataW Unit × List MemPlace)) {z : Value} (hz : (zeroValue e).run P w = .ok z w) {zd : DataW Unit} {zp : List MemPlace} (hzd : R z = some (zd, zp)) (b n : Nat) (D : DataW Unit)
    (hm : a.eval m = .map (some b)) (hown : w.ownsMap P k R b n D) (key : Value) (kl : Lit) (hx : a.eval x = key) (hkey : keyOf P k key = some kl)
    (hK : ∀ v ps, R v = some (D.atKey kl zd, ps) → wpList P ops Q rest (a.put o.dst v) w) :
    wpList P ops Q (o :: rest) a w := by
  refine wpList_plain hg fun K' hK' => ?_
  obtain ⟨v, ps, hrun, hv⟩ := hown.lookup K ht hz hzd hkey
  unfold Oper.wp
  simp [execOp, hop, hm, hx, hrun, Result.andThen]
  exact hK' _ _ (hK v ps hv)
theorem mapPutAt {P : Program} {w : World} {o : Oper} {a : Act} {K' : Act → World → Prop} {Q : Exit → Act → World → Prop} (m x u : Operand) (t : TypeId) (hop : o.op = Op.mapUpdate t m x u)
    (k e : TypeId) (K : Maps.Keyed P k) (ht : P.underlying t = some (.map k e)) (R : Value → Option (DataW Unit × List MemPlace)) (b n : Nat) (D : DataW Unit)
    (hm : a.eval m = .map (some b)) (hown : w.ownsMap P k R b n D) (hn : n < maxLen) (key val : Value) (kl : Lit) (hx : a.eval x = key) (hv : a.eval u = val) (hkey : keyOf P k key = some kl)
    (d : DataW Unit) (ps : List MemPlace) (hval : R val = some (d, ps))
    (hK : ∀ w', w'.ownsMap P k R b (n + 1) (D.put kl d) → w.grownBy w' (some b) → K' (a.put o.dst undef) w') : o.wp P a w K' Q := by
  obtain ⟨w', hrun, r1, r2⟩ := hown.update K ht hn hkey hval
  unfold Oper.wp
  simp [execOp, hop, hm, hx, hv, hrun, Result.andThen]
  exact hK w' r1 r2
theorem zeroFlags (w : World) : (zeroValue 92).run Try.prog w = .ok (.agg (bvals (List.replicate 8 false)).toArray) w := by kernel_rfl
theorem zeroElem : flagElem (.agg (bvals (List.replicate 8 false)).toArray) = some (.lit (.int .i64 (Sp.num (List.replicate 8 false))), []) := flagElem_mk rfl
theorem wfVer {a v : List Int} {F : List Bool} (h : Clean a v F) {i : Nat} (hi : i < 8) : (Lit.int .i64 (v.getD i 0)).wf = true := by
  have := h.nonneg hi
  exact WalkArith.wf_i64 (by omega)
structure InVers (g b : Nat) (k : Int) (L a v : List Int) (F : List Bool) (w : World) (n : Nat) (wr : World) : Prop where
  grown : w.grownBy wr none
  blk : SB wr g k L a v F
  map : ∃ D, wr.ownsMap Try.prog 3 flagElem b n D ∧ MapIs D v F n
set_option maxHeartbeats 8000000 in
set_option maxRecDepth 20000 in
theorem stVersions {k : Int} {L a v : List Int} {F : List Bool} (hl : SLen L a v F) (hc : Clean a v F) (w : World) : Calls Try.prog 101 #[.agg (stv k L a v F).toArray] w fun e w' => ∃ (b : Nat) (D : DataW Unit), e = .returned (.map (some b)) ∧ w.heap.size ≤ b ∧ w'.ownsMap Try.prog 3 flagElem b 8 D ∧ MapIs D v F 8 ∧ w.grownBy w' none := by
  have IX : Hid (∀ (n : Nat) (h : n < 8) (W : World), (Instr.index 92 (.agg (bvals F).toArray) (.int .i64 n)).run Try.prog W = .ok (.bool (F.getD n false)) W) := Lib.hid (by
    obtain ⟨b0, b1, b2, b3, b4, b5, b6, b7, rfl⟩ := list_eight hl.f
    exact fun n h W => idxF b0 b1 b2 b3 b4 b5 b6 b7 h W)
  have HL := Lib.hid hl
  have S0 := Lib.hid (SB.new w k L a v F)
  have G0 := Lib.hid (World.grownBy_alloc w (.cells (stv k L a v F).toArray 94) none)
  have Z0 := World.size_alloc w (.cells (stv k L a v F).toArray 94)
  have HF := Lib.hid (infoFl hl.f)
  have WF := Lib.hid (fun i (hi : i < 8) => wfVer hc hi)
  clear hl hc
  have hmm := @run_makeMap Try.prog
  go_enter Try.func101, Try.ntmps101
  go_upto_region 1 with fail
  generalize w.alloc (.cells (stv k L a v F).toArray 94) = W0 at *
  have BS : w.heap.size < W0.heap.size := by omega
  obtain ⟨g, hg⟩ : ∃ g, g = w.heap.size := ⟨_, rfl⟩
  rw [← hg] at S0 ⊢
  have HG := Lib.hid hg
  clear hg Z0
  go_upto_region 2 with fail
  clear hmm
  have O1 := Lib.hid (World.ownsMap_made W0 Try.prog 3 flagElem)
  have S1 := Lib.hid (S0.out.alloc (.map #[] 0))
  have G1 := Lib.hid (grown_alloc G0.out (.map #[] 0))
  generalize W0.alloc (.map #[] 0) = W1 at *
  obtain ⟨b, hb⟩ : ∃ b, b = W0.heap.size := ⟨_, rfl⟩
  rw [← hb] at O1 BS ⊢
  clear hb S0 G0
  have GB : g < b := by rw [HG.out]; exact BS
  apply wp_region_lit
  refine wpList_plain rfl (fun K hK => ?_)
  go_simp
  refine hK _ _ ?_
  clear hK
  refine wpList_load_mid rfl _ _ rfl g 49 rfl (bvals F) _ (S1.out.there_ HL.out) Try.underlying92 rfl HF.out ?_
  simp only [Act.put, List.setIfInBounds_toArray, List.set_cons_succ, List.set_cons_zero]
  obtain ⟨fv, hfv⟩ : ∃ x, (bvals F).toArray = x := ⟨_, rfl⟩
  rw [hfv] at IX ⊢
  clear hfv
  go_wp2_with fail
  go_loopw [10] (fun i wr => ∃ n : Nat, n ≤ 8 ∧ i = .int .i64 n ∧ InVers g b k L a v F w n wr) (fun i _ => 8 - (intOf i).toNat)
  case atStart => exact ⟨0, by omega, rfl, G1.out, S1.out, _, O1.out, MapIs.start v F⟩
  case round =>
    obtain ⟨n, hn, rfl, hv⟩ := hrel
    have IV := Lib.hid hv
    clear hv O1 S1 G1
    by_cases hlt : n < 8
    · have hlt' : (n : Int) < 8 := by omega
      have ix := IX.out n hlt wr
      cases hfn : F.getD n false with
      | false =>
        rw [hfn] at ix
        have NV : Hid (InVers g b k L a v F w (n + 1) wr) := Lib.hid (by
          obtain ⟨h1, h2, D, h3, h4⟩ := IV.out
          exact ⟨h1, h2, D, h3.mono (by omega), h4.skip hfn⟩)
        clear hfn
        go_wp2_with fail
        go_roundw
        case rel => exact ⟨n + 1, by omega, by go_num, NV.out⟩
        case measure => simp [intOf]; omega
      | true =>
        rw [hfn] at ix
        have HT := Lib.hid hfn
        clear hfn
        obtain ⟨hg1, hs1, D, hD, hM⟩ := IV.out
        have G := Lib.hid hg1
        have S := Lib.hid hs1
        have OD := Lib.hid hD
        have M := Lib.hid hM
        have cx := S.out.ver HL.out hlt
        have LG : g < wr.heap.size := S.out.lt
        have LB : b < wr.heap.size := OD.out.lt
        have GZ : w.heap.size ≤ wr.heap.size := G.out.size
        have WX := Lib.hid (WF.out n hlt)
        clear hg1 hs1 hD hM IV
        obtain ⟨x, hx⟩ : ∃ x, v.getD n 0 = x := ⟨_, rfl⟩
        have VX := Lib.hid hx
        rw [hx] at cx WX
        clear hx
        go_upto_region 6 with fail
        apply wp_region_lit
        refine wpList_plain rfl (fun K hK => ?_)
        go_simp
        refine hK _ _ ?_
        clear hK
        refine wpList_plain rfl (fun K hK => ?_)
        go_simp
        refine hK _ _ ?_
        clear hK
        refine wpList_plain rfl (fun K hK => ?_)
        go_simp
        refine hK _ _ ?_
        clear hK
        refine wpList_plain rfl (fun K hK => ?_)
        go_simp
        refine hK _ _ ?_
        clear hK
        refine wpList_plain rfl (fun K hK => ?_)
        go_simp
        refine hK _ _ ?_
        clear hK
        refine lookupAt _ rfl _ _ 136 rfl 3 92 keyedInt Try.underlying136 flagElem (zeroFlags _) zeroElem b n D rfl OD.out _ (.int .i64 x) rfl (keyInt WX.out) ?_
        intro u ps hu
        obtain ⟨G8, hG8, rfl, hy⟩ := flagElem_inv hu
        have HG8 : Hid (G8 = ofP v F x n) := Lib.hid (by
          injection hy with hy _
          exact num_inj hG8 (ofP_len _ _ _ _) (hy.symm.trans (M.out.at_ x)))
        clear hu hy
        have hs := storeF wr hG8
        have hvl : (bvals G8).length = 8 := by rw [bvals_length]; exact hG8
        have L8 := Lib.hid hG8
        simp only [Act.put, List.setIfInBounds_toArray, List.set_cons_succ, List.set_cons_zero]
        go_upto_region 7 with fail
        have GN := Lib.hid (World.grownBy_alloc wr (.cells (bvals G8).toArray 92) none)
        have X2 := Lib.hid (BArr.new wr 92 G8)
        clear hs hvl ix
        have G2 := Lib.hid (grown_trans G.out GN.out)
        have S2 := Lib.hid (S.out.still GN.out)
        have O2 := Lib.hid (OD.out.kept GN.out (by simp))
        clear G S OD GN cx hG8
        generalize wr.alloc (.cells (bvals G8).toArray 92) = w2 at *
        generalize wr.heap.size = gx at *
        have cg := X2.out.cell (i := n) (by rw [L8.out]; exact hlt)
        have fg := X2.out.frozen n
        have X3 := Lib.hid (X2.out.put n true)
        have GC := Lib.hid (grownCell w2 ⟨gx, n, none⟩ (.bool true))
        have G3 := Lib.hid (grown_set G2.out (p := ⟨gx, n, none⟩) GZ (.bool true))
        have S3 := Lib.hid (S2.out.far (p := ⟨gx, n, none⟩) (by simp; omega) (.bool true))
        have O3 := Lib.hid (O2.out.kept GC.out (by simp; omega))
        go_upto_region 8 with fail
        clear cg fg X2 G2 S2 O2 GC
        generalize w2.setCell ⟨gx, n, none⟩ (.bool true) = w3 at *
        have S8 : Hid ((G8.set n true).length = 8) := Lib.hid (by rw [List.length_set]; exact L8.out)
        have cx : ∀ W, SB W g k L a v F → W.cell? ⟨g, 41 + n, none⟩ = some (.int .i64 x) := fun W h => by rw [← VX.out]; exact h.ver HL.out hlt
        have zf : (bvals (G8.set n true)).toArray.size = 8 := by simp [bvals_length, S8.out]
        have H8 : Hid ((Try.prog.info? 92).map (·.size) = some (bvals (G8.set n true)).toArray.size) := Lib.hid (by rw [zf]; kernel_rfl)
        clear zf
        refine wp_region_held (S := fun W => SB W g k L a v F ∧ BArr W gx 92 (G8.set n true)) (by kernel_rfl) ?_
        have B3 : Hid (SB w3 g k L a v F ∧ BArr w3 gx 92 (G8.set n true)) := Lib.hid ⟨S3.out, X3.out⟩
        refine Rg.take_ 0 (some 23) (.map (some b)) rfl rfl (by kernel_rfl) (by kernel_rfl) (by kernel_rfl) (fun _ _ _ h => h) (.inl ⟨by rfl, fun W' hS => (by go_simp)⟩) B3.out ?_
        simp only [Act.put, List.setIfInBounds_toArray, List.set_cons_zero, List.set_cons_succ]
        refine Rg.take_ 1 (some 24) (.int .i64 n) rfl rfl (by kernel_rfl) (by kernel_rfl) (by kernel_rfl) (fun _ _ _ h => h) (.inl ⟨by rfl, fun W' hS => (by go_simp)⟩) B3.out ?_
        simp only [Act.put, List.setIfInBounds_toArray, List.set_cons_zero, List.set_cons_succ]
        refine Rg.take_ 2 (some 25) (.pointer (some ⟨g, 41, none⟩)) rfl rfl (by kernel_rfl) (by kernel_rfl) (by kernel_rfl) (fun _ _ _ h => h) (.inl ⟨by rfl, fun W' hS => (by go_simp)⟩) B3.out ?_
        simp only [Act.put, List.setIfInBounds_toArray, List.set_cons_zero, List.set_cons_succ]
        refine Rg.take_ 3 (some 26) (.pointer (some ⟨g, 41 + n, none⟩)) rfl rfl (by kernel_rfl) (by kernel_rfl) (by kernel_rfl) (fun _ _ _ h => h) (.inl ⟨by rfl, fun W' hS => (by go_simp)⟩) B3.out ?_
        simp only [Act.put, List.setIfInBounds_toArray, List.set_cons_zero, List.set_cons_succ]
        refine Rg.take_ 4 (some 27) (.int .i64 x) rfl rfl (by kernel_rfl) (by kernel_rfl) (by kernel_rfl) (fun _ _ _ h => h) (.inl ⟨by rfl, fun W' hS => (by have c := cx W' hS.1; go_simp)⟩) B3.out ?_
        simp only [Act.put, List.setIfInBounds_toArray, List.set_cons_zero, List.set_cons_succ]
        refine Rg.take_ 5 (some 28) (.agg (bvals (G8.set n true)).toArray) rfl rfl (by kernel_rfl) (by kernel_rfl) (by kernel_rfl) (fun _ _ _ h => h) (Rg.yields_row _ _ rfl rfl gx rfl _ _ _ (fun W hS => hS.2) Try.underlying92 rfl H8.out) B3.out ?_
        simp only [Act.put, List.setIfInBounds_toArray, List.set_cons_zero, List.set_cons_succ]
        refine Rg.ready_one (i := 6) (by kernel_rfl) rfl rfl ?_
        refine mapPutAt _ _ _ 136 rfl 3 92 keyedInt Try.underlying136 flagElem b n D rfl O3.out (by unfold maxLen; omega) _ _ (.int .i64 x) rfl rfl (keyInt WX.out) _ _ (flagElem_mk S8.out) ?_
        intro w4 hO hgr
        have S4 := Lib.hid (S3.out.drew.kept hgr (by simp; omega))
        have NV : Hid (InVers g b k L a v F w (n + 1) w4) := Lib.hid ⟨grown_own (grown_drew G3.out) hgr (fun j hj => by injection hj with hj; omega), S4.out, _, hO, by
          have hk := key_lit _ WX.out
          rw [← VX.out] at hk ⊢
          have := M.out.next hlt HT.out hk
          rw [HG8.out, ← VX.out]
          exact this⟩
        have B4 : SB w4 g k L a v F ∧ BArr w4 gx 92 (G8.set n true) := ⟨S4.out, X3.out.drew.kept hgr (by simp; omega)⟩
        refine ⟨B4, ?_⟩
        simp only [Act.put, List.setIfInBounds_toArray]
        refine wpAnyH_done (by kernel_rfl) ?_ _
        clear hO hgr B4 S4 B3 X3 G3 S3 O3 M HT
        go_wp2_with fail
        go_roundw
        case rel => exact ⟨n + 1, by omega, by go_num, NV.out⟩
        case measure => simp [intOf]; omega
    · obtain rfl : n = 8 := by omega
      obtain ⟨hg1, hs1, D, hD, hM⟩ := IV.out
      have G := Lib.hid hg1
      have OD := Lib.hid hD
      have M := Lib.hid hM
      clear hg1 hs1 hD hM IV
      go_wp2_with fail
      go_ret
      exact ⟨b, D, rfl, by omega, OD.out, M.out, G.out⟩
end Go.Proofs.Ythglkgicckodaaa
