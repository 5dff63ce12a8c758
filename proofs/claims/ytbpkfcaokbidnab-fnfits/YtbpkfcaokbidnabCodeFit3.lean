/-
  The contract of the program's CodeFits.
  Conditions: none.
-/
import Derived.Test.YtbpkfcaokbidnabCodeFit2
namespace Go.Proofs.Ytbpkfcaokbidnab
open Go.RowKit
set_option linter.unusedVariables false

theorem implGen (k : Int) (w : World) : Calls Try.prog 56 #[.int .i64 k] w fun e w' => ∃ (L : List Int) (b : Bool), L.length = 32 ∧ (b = true ↔ k = 1 ∨ k = 2) ∧ (b = true → L = grid k.toNat) ∧ e = .returned (.tuple #[.agg (vals L).toArray, .bool b]) ∧ w.grownBy w' none := by
  rcases kind_cases k with ⟨n, rfl, hn⟩ | ⟨h1, h2⟩
  · refine (genYes hn w).mono fun e w' ⟨h1, h2⟩ => ⟨grid n, true, grid_len n hn, ⟨fun _ => by omega, fun _ => rfl⟩, fun _ => by simp, h1, h2⟩
  · refine (genNone k w h1 h2).mono fun e w' ⟨h3, h4⟩ => ⟨List.replicate 32 0, false, rfl, ⟨fun h => (by cases h), fun h => by omega⟩, fun h => (by cases h), h3, h4⟩
theorem implFlags (v : Value) (f : List Bool) (w : World) (h : Bl w v f) : Calls Try.prog 57 #[v] w fun e w' => ∃ (F : List Bool) (b : Bool), F.length = 8 ∧ (b = true ↔ f.length = 8) ∧ (b = true → F = f) ∧ e = .returned (.tuple #[.agg (bvals F).toArray, .bool b]) ∧ w.grownBy w' none := by
  by_cases hf : f.length = 8
  · obtain ⟨b0, b1, b2, b3, b4, b5, b6, b7, rfl⟩ := list_eight hf
    exact (flagsYes v b0 b1 b2 b3 b4 b5 b6 b7 w h).mono fun e w' ⟨h1, h2⟩ => ⟨_, true, rfl, ⟨fun _ => rfl, fun _ => rfl⟩, fun _ => rfl, h1, h2⟩
  · exact (flagsNo v f w h hf).mono fun e w' ⟨h1, h2⟩ => ⟨_, false, rfl, ⟨fun h => (by cases h), fun h => absurd h hf⟩, fun h => (by cases h), h1, h2⟩
theorem storeF (w : World) {l : List Bool} (hl : l.length = 8) : (storeCells ⟨w.heap.size, 0, none⟩ (bvals l) 0).run Try.prog (w.alloc (.cells #[.bool false, .bool false, .bool false, .bool false, .bool false, .bool false, .bool false, .bool false] 80)) = .ok () (w.alloc (.cells (bvals l).toArray 80)) := by
  have h := run_storeCells_from (P := Try.prog) w.heap.size 80 (bvals l) 0 _ (w.alloc (.cells #[.bool false, .bool false, .bool false, .bool false, .bool false, .bool false, .bool false, .bool false] 80)) (heap_alloc_last w _) (by rw [bvals_length, hl]; rfl) (bvals_one l)
  rw [h, World.setRow_alloc_new]
  rfl

set_option maxHeartbeats 8000000 in
set_option maxRecDepth 20000 in
theorem implFits (k : Int) (u v : Value) (l : List Int) (f : List Bool) (w : World) (hu : Sl w u l) (hv : Bl w v f) : Calls Try.prog 50 #[.int .i64 k, u, v] w (FitsTop k l f w) := by
  have U := Lib.hid hu
  have V := Lib.hid hv
  clear hu hv
  go_enter Try.func50, Try.ntmps50
  go_wp2_with fail
  refine (implGen k _).mono ?_
  rintro e w1 ⟨L, bk, hL, hbk, hbL, rfl, hg⟩
  have hs := storeNew w1 hL
  have hvl : (vals L).length = 32 := by rw [vals_length]; exact hL
  have G2 := Lib.hid (grown_alloc hg (.cells (vals L).toArray 76))
  have A2 := Lib.hid (Arr.new w1 76 L)
  have HL := Lib.hid hL
  have BK := Lib.hid hbk
  have BL := Lib.hid hbL
  clear hg hL hbk hbL
  go_wp2_with fail
  clear hs hvl
  generalize w1.alloc (.cells (vals L).toArray 76) = w2 at *
  generalize w1.heap.size = g at *
  refine (implShards u l _ (U.out.grown G2.out)).mono ?_
  rintro e w3 ⟨rfl, hg⟩
  have hA := shOr_len l
  have SR : Hid (shOk l = true → shOr l = l) := Lib.hid (fun h => by simp [shOr, h])
  obtain ⟨A, hAe⟩ : ∃ A, shOr l = A := ⟨_, rfl⟩
  obtain ⟨ba, hba⟩ : ∃ b, shOk l = b := ⟨_, rfl⟩
  have HBA := Lib.hid hba
  rw [hAe] at hA SR ⊢
  rw [hba] at SR ⊢
  have hs := storeS w3 hA
  have hvl : (vals A).length = 8 := by rw [vals_length]; exact hA
  have G4 := Lib.hid (grown_alloc (grown_trans G2.out hg) (.cells (vals A).toArray 99))
  have A4 := Lib.hid ((A2.out.still hg).alloc (.cells (vals A).toArray 99))
  have S4 := Lib.hid (Arr.new w3 99 A)
  have HA := Lib.hid hA
  clear hg A2 G2 hAe hba hA
  go_wp2_with fail
  clear hs hvl
  generalize w3.alloc (.cells (vals A).toArray 99) = w4 at *
  generalize w3.heap.size = ga at *
  refine (implFlags v f _ (V.out.grown G4.out)).mono ?_
  rintro e w5 ⟨F, bf, hF, hbf, hbF, rfl, hg⟩
  have hs := storeF w5 hF
  have hvl : (bvals F).length = 8 := by rw [bvals_length]; exact hF
  have G6 := Lib.hid (grown_alloc (grown_trans G4.out hg) (.cells (bvals F).toArray 80))
  have A6 := Lib.hid ((A4.out.still hg).alloc (.cells (bvals F).toArray 80))
  have S6 := Lib.hid ((S4.out.still hg).alloc (.cells (bvals F).toArray 80))
  have F6 := Lib.hid (BArr.new w5 80 F)
  have HF := Lib.hid hF
  have BF := Lib.hid hbf
  have BFF := Lib.hid hbF
  clear hg A4 S4 G4 hF hbf hbF
  go_upto_region 4 with fail
  clear hs hvl
  generalize w5.alloc (.cells (bvals F).toArray 80) = w6 at *
  generalize w5.heap.size = gf at *
  by_cases hall : bk = true ∧ ba = true ∧ bf = true
  · obtain ⟨rfl, rfl, rfl⟩ := hall
    have kk := BK.out.1 rfl
    obtain ⟨j, rfl, hj⟩ : ∃ j : Nat, k = j ∧ (j = 1 ∨ j = 2) := ⟨k.toNat, by omega, by omega⟩
    obtain rfl : L = grid j := by have := BL.out rfl; simpa using this
    obtain rfl : A = l := SR.out rfl
    obtain rfl : F = f := BFF.out rfl
    have RA := Lib.hid (shOk_row.1 HBA.out)
    have GF := Lib.hid (fun w => genFits hj F HF.out A RA.out w)
    have zl : (vals (grid j)).toArray.size = 32 := by simp [vals_length, HL.out]
    have hi : (Try.prog.info? 76).map (·.size) = some (vals (grid j)).toArray.size := by rw [zl]; kernel_rfl
    have zs : (vals A).toArray.size = 8 := by simp [vals_length, HA.out]
    have hj2 : (Try.prog.info? 99).map (·.size) = some (vals A).toArray.size := by rw [zs]; kernel_rfl
    have zf : (bvals F).toArray.size = 8 := by simp [bvals_length, HF.out]
    have hj3 : (Try.prog.info? 80).map (·.size) = some (bvals F).toArray.size := by rw [zf]; kernel_rfl
    have FI : Hid (Sp.Fit j F A ↔ FitM j A F) := Lib.hid (by unfold FitM; simp [kk, HBA.out, HF.out])
    have H1 := Lib.hid hi
    have H2 := Lib.hid hj2
    have H3 := Lib.hid hj3
    clear kk zl zs zf hi hj2 hj3 BK BL SR BFF BF
    apply wp_region_lit
    refine wpList_plain rfl (fun K hK => ?_)
    go_simp
    refine hK _ _ ?_
    clear hK
    refine wpList_plain rfl (fun K hK => ?_)
    go_simp
    refine hK _ _ ?_
    clear hK
    go_guarded
    go_simp
    rename_i hK
    refine hK _ _ ?_
    clear hK
    refine wpList_plain rfl (fun K hK => ?_)
    go_simp
    refine hK _ _ ?_
    clear hK
    refine wpList_plain rfl (fun K hK => ?_)
    go_simp
    refine hK _ _ ?_
    clear hK
    go_guarded
    go_simp
    rename_i hK
    refine hK _ _ ?_
    clear hK
    refine wpList_plain rfl (fun K hK => ?_)
    go_simp
    refine hK _ _ ?_
    clear hK
    refine wpList_plain rfl (fun K hK => ?_)
    go_simp
    refine hK _ _ ?_
    clear hK
    go_guarded
    rename_i hK
    refine wp_load_row _ _ rfl g rfl _ _ _ _ A6.out Try.underlying76 rfl H1.out (hK _ _ ?_)
    clear hK
    simp only [Act.put, List.setIfInBounds_toArray, List.set_cons_succ, List.set_cons_zero]
    go_guarded
    rename_i hK
    refine wp_load_row _ _ rfl ga rfl _ _ _ _ S6.out Try.underlying99 rfl H2.out (hK _ _ ?_)
    clear hK
    simp only [Act.put, List.setIfInBounds_toArray, List.set_cons_succ, List.set_cons_zero]
    go_guarded
    rename_i hK
    refine wp_load_row _ _ rfl gf rfl _ _ _ _ F6.out Try.underlying80 rfl H3.out (hK _ _ ?_)
    clear hK
    simp only [Act.put, List.setIfInBounds_toArray, List.set_cons_succ, List.set_cons_zero]
    clear A6 S6 F6 H1 H2 H3
    generalize vals (grid j) = lv at *
    generalize hav : vals A = av at *
    generalize hfv : bvals F = fv at *
    clear hav hfv
    go_wp2_with fail
    refine (GF.out _).mono ?_
    rintro e w7 ⟨q, rfl, hq, hg⟩
    have G7 := Lib.hid (grown_trans G6.out hg)
    have Q := Lib.hid (hq.trans FI.out)
    clear hg hq G6 GF
    cases q
    · go_wp2_with fail
      go_ret
      exact ⟨false, rfl, Q.out, G7.out⟩
    · go_wp2_with fail
      go_ret
      exact ⟨true, rfl, ⟨fun _ => Q.out.1 (by first | rfl | trivial), fun _ => rfl⟩, G7.out⟩
  · have NO : Hid (¬ FitM k l f) := Lib.hid (fun h => hall ⟨BK.out.2 h.1, by rw [← HBA.out]; exact h.2.1, BF.out.2 h.2.2.1⟩)
    clear A6 S6 F6
    cases bk with
    | false =>
      clear hall
      go_wp2_with fail
      go_ret
      exact ⟨false, rfl, ⟨fun h => (by cases h), fun h => absurd h NO.out⟩, G6.out⟩
    | true =>
      cases ba with
      | false =>
        clear hall
        go_wp2_with fail
        go_ret
        exact ⟨false, rfl, ⟨fun h => (by cases h), fun h => absurd h NO.out⟩, G6.out⟩
      | true =>
        cases bf with
        | false =>
          clear hall
          go_wp2_with fail
          go_ret
          exact ⟨false, rfl, ⟨fun h => (by cases h), fun h => absurd h NO.out⟩, G6.out⟩
        | true => exact absurd ⟨rfl, rfl, rfl⟩ hall
end Go.Proofs.Ytbpkfcaokbidnab
