/-
  The contracts of the program's ReadFind: the look for one shard that is wrong.
  Conditions: none.
-/
import Derived.Test.YtdmbbipcdkikiaaReadTop2
namespace Go.Proofs.Ytdmbbipcdkikiaa
open Go.RowKit
set_option linter.unusedVariables false

/-- what is asked of shards. -/
def okR (k : Int) (a : List Int) (f : List Bool) : Prop := (k = 1 ∨ k = 2) ∧ shOk a = true ∧ f.length = 8
/-- what ReadFind answers. -/
def FindT (k : Int) (a : List Int) (f : List Bool) (r : Int) : Prop := (okR k a f ∧ Sp.Found k.toNat f a r) ∨ (¬ okR k a f ∧ r = -2)
theorem FindT.one {k : Int} {a : List Int} {f : List Bool} {r s : Int} (h : FindT k a f r) (h' : FindT k a f s) : r = s := by
  rcases h with ⟨h1, h2⟩ | ⟨h1, rfl⟩
  · rcases h' with ⟨_, h2'⟩ | ⟨h1', _⟩
    · exact h2.unique h2'
    · exact absurd h1 h1'
  · rcases h' with ⟨h1', _⟩ | ⟨_, rfl⟩
    · exact absurd h1' h1
    · rfl
theorem idxF (b0 b1 b2 b3 b4 b5 b6 b7 : Bool) {n : Nat} (hn : n < 8) (W : World) : (Instr.index 60 (.agg (bvals [b0, b1, b2, b3, b4, b5, b6, b7]).toArray) (.int .i64 n)).run Try.prog W = .ok (.bool ([b0, b1, b2, b3, b4, b5, b6, b7].getD n false)) W := by
  rcases (by omega : n = 0 ∨ n = 1 ∨ n = 2 ∨ n = 3 ∨ n = 4 ∨ n = 5 ∨ n = 6 ∨ n = 7) with rfl | rfl | rfl | rfl | rfl | rfl | rfl | rfl <;> kernel_rfl

set_option maxHeartbeats 8000000 in
set_option maxRecDepth 20000 in
theorem genFind {k : Nat} (hk : k = 1 ∨ k = 2) (f : List Bool) (hf : f.length = 8) (a : List Int) (ra : Sp.Row 8 a) (w : World) : Calls Try.prog 49 #[.agg (vals (grid k)).toArray, .agg (vals a).toArray, .agg (bvals f).toArray] w fun e w' => ∃ r, e = .returned (.int .i64 r) ∧ Sp.Found k f a r ∧ w.grownBy w' none := by
  have IX : Hid (∀ (n : Nat) (h : n < 8) (W : World), (Instr.index 60 (.agg (bvals f).toArray) (.int .i64 n)).run Try.prog W = .ok (.bool (f.getD n false)) W) := Lib.hid (by
    obtain ⟨b0, b1, b2, b3, b4, b5, b6, b7, rfl⟩ := list_eight hf
    exact fun n h W => idxF b0 b1 b2 b3 b4 b5 b6 b7 h W)
  have z : (vals (grid k)).toArray.size = 32 := by simp [vals_length, grid_len k hk]
  have hi : (Try.prog.info? 56).map (·.size) = some (vals (grid k)).toArray.size := by rw [z]; kernel_rfl
  have zs : (vals a).toArray.size = 8 := by simp [vals_length, ra.1]
  have hj : (Try.prog.info? 80).map (·.size) = some (vals a).toArray.size := by rw [zs]; kernel_rfl
  have e8 : (Try.prog.info? 60).map (·.size) = some 8 := by kernel_rfl
  have hx8 : ∀ x : List Bool, x.length = 8 → (Try.prog.info? 60).map (·.size) = some (bvals x).toArray.size := by
    intro x hx
    have zf : (bvals x).toArray.size = 8 := by simp [bvals_length, hx]
    rw [zf]
    exact e8
  have HX := Lib.hid hx8
  have H1 := Lib.hid hi
  have H2 := Lib.hid hj
  have H3 := Lib.hid (HX.out f hf)
  obtain ⟨W0, hW0⟩ : ∃ W, W = ((w.alloc (.cells (vals (grid k)).toArray 56)).alloc (.cells (vals a).toArray 80)).alloc (.cells (bvals f).toArray 60) := ⟨_, rfl⟩
  have T0 : Hid (Three w.heap.size (w.heap.size + 1) (w.heap.size + 2) (grid k) a f W0) := Lib.hid (by
    rw [hW0]
    refine ⟨((Arr.new w _ _).alloc _).alloc _, ?_, ?_⟩
    · have := (Arr.new (w.alloc (.cells (vals (grid k)).toArray 56)) 80 a).alloc (.cells (bvals f).toArray 60)
      rw [World.size_alloc] at this
      exact this
    · have := BArr.new ((w.alloc (.cells (vals (grid k)).toArray 56)).alloc (.cells (vals a).toArray 80)) 60 f
      rw [World.size_alloc, World.size_alloc] at this
      exact this)
  have G0 : Hid (w.grownBy W0 none) := Lib.hid (by rw [hW0]; exact grown_alloc (grown_alloc (grown_alloc (World.grownBy.refl _ _) _) _) _)
  have HF := Lib.hid hf
  have HK := Lib.hid hk
  have RA := Lib.hid ra
  have GF := Lib.hid (fun x (hx : x.length = 8) w => genFits hk x hx a ra w)
  clear z hi zs hj hf hk ra hx8 e8
  go_enter Try.func49, Try.ntmps49
  go_upto_region 1 with fail
  rw [← hW0]
  clear hW0
  obtain ⟨g, hg⟩ : ∃ b, b = w.heap.size := ⟨_, rfl⟩
  obtain ⟨ga, hga⟩ : ∃ b, b = w.heap.size + 1 := ⟨_, rfl⟩
  obtain ⟨gf, hgf⟩ : ∃ b, b = w.heap.size + 1 + 1 := ⟨_, rfl⟩
  rw [show w.heap.size + 2 = gf from hgf.symm, ← hga, ← hg] at T0
  rw [← hgf, ← hga, ← hg]
  clear hg hga hgf
  apply wp_region_lit
  refine wpList_load_row rfl _ _ rfl g rfl _ _ _ _ T0.out.gen Try.underlying56 rfl H1.out ?_
  refine wpList_load_row rfl _ _ rfl ga rfl _ _ _ _ T0.out.sh Try.underlying80 rfl H2.out ?_
  refine wpList_load_row rfl _ _ rfl gf rfl _ _ _ _ T0.out.fl Try.underlying60 rfl H3.out ?_
  simp only [Act.put, List.setIfInBounds_toArray, List.set_cons_succ, List.set_cons_zero]
  go_wp2_with fail
  refine (GF.out f HF.out _).mono ?_
  rintro e w1 ⟨q, rfl, hq, hg⟩
  have G1 := Lib.hid (grown_trans G0.out hg)
  have T1 := Lib.hid (T0.out.still hg)
  have Q := Lib.hid hq
  clear hg hq T0 G0
  cases q with
  | true =>
    have FA := Lib.hid (Sp.found_all (Q.out.1 rfl))
    go_wp2_with fail
    go_ret
    exact ⟨-1, rfl, FA.out, G1.out⟩
  | false =>
    have NF : Hid (¬ Sp.Fit k f a) := Lib.hid (fun h => by have := Q.out.2 h; cases this)
    clear Q
    go_upto_region 4 with fail
    apply wp_region_lit
    refine wpList_load_row rfl _ _ rfl gf rfl _ _ _ _ T1.out.fl Try.underlying60 rfl H3.out ?_
    simp only [Act.put, List.setIfInBounds_toArray, List.set_cons_succ, List.set_cons_zero]
    obtain ⟨fv, hfv⟩ : ∃ x, (bvals f).toArray = x := ⟨_, rfl⟩
    rw [hfv] at IX ⊢
    have FV := Lib.hid hfv
    clear hfv
    go_wp2_with fail
    go_loopw [7, 16] (fun o i wr => ∃ (n : Nat) (r : Int), n ≤ 8 ∧ i = .int .i64 n ∧ o = .int .i64 r ∧ Sp.Looked k f a n r ∧ w.grownBy wr none ∧ Three g ga gf (grid k) a f wr) (fun _ i _ => 8 - (intOf i).toNat)
    case atStart => exact ⟨0, -2, by omega, rfl, rfl, .start, G1.out, T1.out⟩
    case round =>
      obtain ⟨n, r, hn, rfl, rfl, hlo, hg, ht⟩ := hrel
      have LO := Lib.hid hlo
      have G := Lib.hid hg
      have T := Lib.hid ht
      clear hlo hg ht G1 T1
      by_cases hlt : n < 8
      · have hlt' : (n : Int) < 8 := by omega
        have ix := IX.out n hlt wr
        cases hfn : f.getD n false with
        | false =>
          rw [hfn] at ix
          have LS := Lib.hid (LO.out.skip (.inl hfn))
          clear hfn
          go_wp2_with fail
          go_roundw
          case rel => exact ⟨n + 1, r, by omega, by go_num, rfl, LS.out, G.out, T.out⟩
          case measure => simp [intOf]; omega
        | true =>
          rw [hfn] at ix
          have HT := Lib.hid hfn
          have S8 : Hid ((f.set n false).length = 8) := Lib.hid (by rw [List.length_set]; exact HF.out)
          clear hfn
          have hs := storeF wr HF.out
          have hvl : (bvals f).length = 8 := by rw [bvals_length]; exact HF.out
          have GN := Lib.hid (World.grownBy_alloc wr (.cells (bvals f).toArray 60) none)
          have X2 := Lib.hid (BArr.new wr 60 f)
          have GL : w.heap.size ≤ wr.heap.size := G.out.size
          have LG : g < wr.heap.size := T.out.gen.lt
          have LA : ga < wr.heap.size := T.out.sh.lt
          have LF : gf < wr.heap.size := T.out.fl.lt
          go_upto_region 8 with fail
          apply wp_region_lit
          refine wpList_load_row rfl _ _ rfl gf rfl _ _ _ _ T.out.fl Try.underlying60 rfl H3.out ?_
          simp only [Act.put, List.setIfInBounds_toArray, List.set_cons_succ, List.set_cons_zero]
          go_upto_region 9 with fail
          have G2 := Lib.hid (grown_trans G.out GN.out)
          have T2 := Lib.hid (T.out.still GN.out)
          clear hs hvl ix G T GN
          generalize wr.alloc (.cells (bvals f).toArray 60) = w2 at *
          generalize wr.heap.size = gx at *
          have cx : w2.cell? ⟨gx, n, none⟩ = some (.bool (f.getD n false)) := X2.out.cell (by rw [HF.out]; exact hlt)
          have fx := X2.out.frozen n
          have X3 := Lib.hid (X2.out.put n false)
          have G3 := Lib.hid (grown_set G2.out (p := ⟨gx, n, none⟩) GL (.bool false))
          have T3 : Hid (Three g ga gf (grid k) a f (w2.setCell ⟨gx, n, none⟩ (.bool false))) := Lib.hid ⟨T2.out.gen.far (p := ⟨gx, n, none⟩) (by simp; omega) _, T2.out.sh.far (p := ⟨gx, n, none⟩) (by simp; omega) _, T2.out.fl.far (p := ⟨gx, n, none⟩) (by simp; omega) _⟩
          clear X2 G2 T2
          go_upto_region 10 with fail
          clear cx fx
          generalize w2.setCell ⟨gx, n, none⟩ (.bool false) = w3 at *
          apply wp_region_lit
          refine wpList_load_row rfl _ _ rfl g rfl _ _ _ _ T3.out.gen Try.underlying56 rfl H1.out ?_
          refine wpList_load_row rfl _ _ rfl ga rfl _ _ _ _ T3.out.sh Try.underlying80 rfl H2.out ?_
          refine wpList_load_row rfl _ _ rfl gx rfl _ _ _ _ X3.out Try.underlying60 rfl (HX.out _ S8.out) ?_
          simp only [Act.put, List.setIfInBounds_toArray, List.set_cons_succ, List.set_cons_zero]
          go_wp2_with fail
          refine (GF.out _ S8.out _).mono ?_
          rintro e w4 ⟨q, rfl, hq, hg⟩
          have G4 := Lib.hid (grown_trans G3.out hg)
          have T4 := Lib.hid (T3.out.still hg)
          have Q := Lib.hid hq
          clear hg hq G3 T3 X3
          cases q with
          | false =>
            have LS := Lib.hid (LO.out.skip (.inr fun h => by have := Q.out.2 h; cases this))
            clear Q
            go_wp2_with fail
            go_roundw
            case rel => exact ⟨n + 1, r, by omega, by go_num, rfl, LS.out, G4.out, T4.out⟩
            case measure => simp [intOf]; omega
          | true =>
            have FI := Lib.hid (Q.out.1 rfl)
            clear Q
            by_cases hr : r = -2
            · subst hr
              have LS := Lib.hid (LO.out.new HT.out FI.out)
              go_wp2_with fail
              go_roundw
              case rel => exact ⟨n + 1, n, by omega, by go_num, rfl, LS.out, G4.out, T4.out⟩
              case measure => simp [intOf]; omega
            · have TW := Lib.hid (LO.out.two hr hlt HT.out FI.out NF.out)
              have hb : (r != -2) = true := by rw [bne_iff_ne]; exact hr
              clear hr
              go_wp2_with fail
              go_ret
              exact ⟨-2, rfl, TW.out, G4.out⟩
      · obtain rfl : n = 8 := by omega
        have DN := Lib.hid (LO.out.done NF.out)
        go_wp2_with fail
        go_ret
        exact ⟨r, rfl, DN.out, G.out⟩

set_option maxHeartbeats 8000000 in
set_option maxRecDepth 20000 in
theorem implReadFind (k : Int) (u v : Value) (l : List Int) (f : List Bool) (w : World) (hu : Sl w u l) (hv : Bl w v f) : Calls Try.prog 18 #[.int .i64 k, u, v] w fun e w' => ∃ r, e = .returned (.int .i64 r) ∧ FindT k l f r ∧ w.grownBy w' none := by
  have U := Lib.hid hu
  have V := Lib.hid hv
  clear hu hv
  go_enter Try.func18, Try.ntmps18
  go_wp2_with fail
  refine (implGen k _).mono ?_
  rintro e w1 ⟨L, bk, hL, hbk, hbL, rfl, hg⟩
  have hs := storeNew w1 hL
  have hvl : (vals L).length = 32 := by rw [vals_length]; exact hL
  have G2 := Lib.hid (grown_alloc hg (.cells (vals L).toArray 56))
  have A2 := Lib.hid (Arr.new w1 56 L)
  have HL := Lib.hid hL
  have BK := Lib.hid hbk
  have BL := Lib.hid hbL
  clear hg hL hbk hbL
  go_wp2_with fail
  clear hs hvl
  generalize w1.alloc (.cells (vals L).toArray 56) = w2 at *
  generalize w1.heap.size = g at *
  refine (implShards u l _ (U.out.grown G2.out)).mono ?_
  rintro e w3 ⟨rfl, hg⟩
  have hA := shOr_len l
  have SR : Hid (shOk l = true → shOr l = l) := Lib.hid (fun h => by simp [shOr, h])
  obtain ⟨A, hAe⟩ : ∃ A, shOr l = A := ⟨_, rfl⟩
  obtain ⟨ba, hba⟩ : ∃ b, shOk l = b := ⟨_, rfl⟩
  have HBA := Lib.hid hba
  rw [hAe] at hA SR ⊢
  rw [hba] at SR ⊢
  have hs := storeS w3 hA
  have hvl : (vals A).length = 8 := by rw [vals_length]; exact hA
  have G4 := Lib.hid (grown_alloc (grown_trans G2.out hg) (.cells (vals A).toArray 80))
  have A4 := Lib.hid ((A2.out.still hg).alloc (.cells (vals A).toArray 80))
  have S4 := Lib.hid (Arr.new w3 80 A)
  have HA := Lib.hid hA
  clear hg A2 G2 hAe hba hA
  go_wp2_with fail
  clear hs hvl
  generalize w3.alloc (.cells (vals A).toArray 80) = w4 at *
  generalize w3.heap.size = ga at *
  refine (implFlags v f _ (V.out.grown G4.out)).mono ?_
  rintro e w5 ⟨F, bf, hF, hbf, hbF, rfl, hg⟩
  have hs := storeF w5 hF
  have hvl : (bvals F).length = 8 := by rw [bvals_length]; exact hF
  have G6 := Lib.hid (grown_alloc (grown_trans G4.out hg) (.cells (bvals F).toArray 60))
  have A6 := Lib.hid ((A4.out.still hg).alloc (.cells (bvals F).toArray 60))
  have S6 := Lib.hid ((S4.out.still hg).alloc (.cells (bvals F).toArray 60))
  have F6 := Lib.hid (BArr.new w5 60 F)
  have HF := Lib.hid hF
  have BF := Lib.hid hbf
  have BFF := Lib.hid hbF
  clear hg A4 S4 G4 hF hbf hbF
  go_upto_region 4 with fail
  clear hs hvl
  generalize w5.alloc (.cells (bvals F).toArray 60) = w6 at *
  generalize w5.heap.size = gf at *
  by_cases hall : bk = true ∧ ba = true ∧ bf = true
  · obtain ⟨rfl, rfl, rfl⟩ := hall
    have kk := BK.out.1 rfl
    obtain ⟨j, rfl, hj⟩ : ∃ j : Nat, k = j ∧ (j = 1 ∨ j = 2) := ⟨k.toNat, by omega, by omega⟩
    obtain rfl : L = grid j := by have := BL.out rfl; simpa using this
    obtain rfl : A = l := SR.out rfl
    obtain rfl : F = f := BFF.out rfl
    have HJ := Lib.hid hj
    have RA := Lib.hid (shOk_row.1 HBA.out)
    have GF := Lib.hid (fun w => genFits hj F HF.out A RA.out w)
    have zl : (vals (grid j)).toArray.size = 32 := by simp [vals_length, HL.out]
    have hi : (Try.prog.info? 56).map (·.size) = some (vals (grid j)).toArray.size := by rw [zl]; kernel_rfl
    have zs : (vals A).toArray.size = 8 := by simp [vals_length, HA.out]
    have hj2 : (Try.prog.info? 80).map (·.size) = some (vals A).toArray.size := by rw [zs]; kernel_rfl
    have zf : (bvals F).toArray.size = 8 := by simp [bvals_length, HF.out]
    have hj3 : (Try.prog.info? 60).map (·.size) = some (bvals F).toArray.size := by rw [zf]; kernel_rfl
    have FI : Hid (Sp.Fit j F A ↔ FitM j A F) := Lib.hid (by unfold FitM; simp [kk, HBA.out, HF.out])
    have OKS : Hid (((j : Int) = 1 ∨ (j : Int) = 2) ∧ shOk A = true ∧ F.length = 8) := Lib.hid ⟨kk, HBA.out, HF.out⟩
    have H1 := Lib.hid hi
    have H2 := Lib.hid hj2
    have H3 := Lib.hid hj3
    have GD := Lib.hid (fun w => genFind hj F HF.out A RA.out w)
    clear kk zl zs zf hi hj2 hj3 BK BL SR BFF BF hj
    go_upto_region 6 with fail
    apply wp_region_lit
    refine wpList_load_row rfl _ _ rfl g rfl _ _ _ _ A6.out Try.underlying56 rfl H1.out ?_
    refine wpList_load_row rfl _ _ rfl ga rfl _ _ _ _ S6.out Try.underlying80 rfl H2.out ?_
    refine wpList_load_row rfl _ _ rfl gf rfl _ _ _ _ F6.out Try.underlying60 rfl H3.out ?_
    simp only [Act.put, List.setIfInBounds_toArray, List.set_cons_succ, List.set_cons_zero]
    go_wp2_with fail
    refine (GD.out _).mono ?_
    rintro e w7 ⟨r, rfl, hr, hg⟩
    have G7 := Lib.hid (grown_trans G6.out hg)
    have FR := Lib.hid hr
    clear hg hr
    go_wp2_with fail
    go_ret
    exact ⟨r, rfl, .inl ⟨OKS.out, FR.out⟩, G7.out⟩
  · have NO : Hid (¬ okR k l f) := Lib.hid (fun h => hall ⟨BK.out.2 h.1, by rw [← HBA.out]; exact h.2.1, BF.out.2 h.2.2⟩)
    clear A6 S6 F6
    cases bk with
    | false =>
      clear hall
      go_wp2_with fail
      go_ret
      exact ⟨-2, rfl, .inr ⟨NO.out, rfl⟩, G6.out⟩
    | true =>
      cases ba with
      | false =>
        clear hall
        go_wp2_with fail
        go_ret
        exact ⟨-2, rfl, .inr ⟨NO.out, rfl⟩, G6.out⟩
      | true =>
        cases bf with
        | false =>
          clear hall
          go_wp2_with fail
          go_ret
          exact ⟨-2, rfl, .inr ⟨NO.out, rfl⟩, G6.out⟩
        | true => exact absurd ⟨rfl, rfl, rfl⟩ hall
end Go.Proofs.Ytdmbbipcdkikiaa
