/-
  The contracts of the program's ReadData and ReadFind.
  Conditions: none.
-/
import Derived.Test.YtoflijiinkmjoaaReadTop
import Derived.Shelf.Abstract
import Derived.Shelf.RegionOpen
namespace Go.Proofs.Ytoflijiinkmjoaa
open Go.RowKit Go.Shelf
set_option linter.unusedVariables false
set_option linter.unusedSimpArgs false
attribute [local go_sem] Oper.semAt_some

/-- what is read. -/
def ReadT (k : Int) (a : List Int) (f : List Bool) (l : List Int) (b : Bool) : Prop :=
  (b = true ∧ FitM k a f ∧ bearsM k f = true ∧ Sp.IsData k.toNat f a l) ∨ (b = false ∧ l = [] ∧ ¬ (FitM k a f ∧ bearsM k f = true))
theorem ReadT.one {k : Int} {a : List Int} {f : List Bool} {l l' : List Int} {b b' : Bool} (h : ReadT k a f l b) (h' : ReadT k a f l' b') : l = l' ∧ b = b' := by
  rcases h with ⟨rfl, h1, h2, h3⟩ | ⟨rfl, rfl, h1⟩
  · rcases h' with ⟨rfl, _, _, h3'⟩ | ⟨rfl, rfl, h1'⟩
    · exact ⟨h3.one h1.2.2.2 h3', rfl⟩
    · exact absurd ⟨h1, h2⟩ h1'
  · rcases h' with ⟨rfl, h1', h2', _⟩ | ⟨rfl, rfl, _⟩
    · exact absurd ⟨h1', h2'⟩ h1
    · exact ⟨rfl, rfl⟩
def NewRead (k : Int) (a : List Int) (f : List Bool) (w : World) (e : Ending) (w' : World) : Prop := ∃ l b v, e = .returned (.tuple #[v, .bool b]) ∧ w.grownBy w' none ∧ Own w' w.heap.size v l ∧ ReadT k a f l b
/-- what is known of three rows in memory. -/
structure Three (g ga gf : Nat) (L A : List Int) (F : List Bool) (W : World) : Prop where
  gen : Arr W g 60 L
  sh : Arr W ga 62 A
  fl : BArr W gf 65 F
theorem Three.still {g ga gf : Nat} {L A : List Int} {F : List Bool} {W W' : World} (h : Three g ga gf L A F W) (hg : W.grownBy W' none) : Three g ga gf L A F W' := ⟨h.gen.still hg, h.sh.still hg, h.fl.still hg⟩

set_option maxHeartbeats 8000000 in
set_option maxRecDepth 20000 in
theorem implReadData (k : Int) (u v : Value) (l : List Int) (f : List Bool) (w : World) (hu : Sl w u l) (hv : Bl w v f) : Calls Try.prog 18 #[.int .i64 k, u, v] w (NewRead k l f w) := by
  have U := Lib.hid hu
  have V := Lib.hid hv
  clear hu hv
  go_enter Try.func18, Try.ntmps18
  go_wp2_with fail
  refine (implGen k _).mono ?_
  rintro e w1 ⟨L, bk, hL, hbk, hbL, rfl, hg⟩
  have hs := storeNew w1 hL
  have hvl : (vals L).length = 32 := by rw [vals_length]; exact hL
  have G2 := Lib.hid (grown_alloc hg (.cells (vals L).toArray 60))
  have A2 := Lib.hid (Arr.new w1 60 L)
  have HL := Lib.hid hL
  have BK := Lib.hid hbk
  have BL := Lib.hid hbL
  clear hg hL hbk hbL
  go_wp2_with fail
  clear hs hvl
  generalize w1.alloc (.cells (vals L).toArray 60) = w2 at *
  generalize w1.heap.size = g at *
  refine (implShards u l _ (U.out.grown G2.out)).mono ?_
  rintro e w3 ⟨rfl, hg⟩
  have hA := shOr_len l
  have SR : Hid (shOk l = true → shOr l = l) := Lib.hid (fun h => by simp [shOr, h])
  obtain ⟨A, hAe⟩ : ∃ A, shOr l = A := ⟨_, rfl⟩
  obtain ⟨ba, hba⟩ : ∃ b, shOk l = b := ⟨_, rfl⟩
  have HBA := Lib.hid hba
  rw [hAe] at hA SR ⊢
  rw [hba] at SR ⊢
  have hs := storeS w3 hA
  have hvl : (vals A).length = 8 := by rw [vals_length]; exact hA
  have G4 := Lib.hid (grown_alloc (grown_trans G2.out hg) (.cells (vals A).toArray 62))
  have A4 := Lib.hid ((A2.out.still hg).alloc (.cells (vals A).toArray 62))
  have S4 := Lib.hid (Arr.new w3 62 A)
  have HA := Lib.hid hA
  clear hg A2 G2 hAe hba hA
  go_wp2_with fail
  clear hs hvl
  generalize w3.alloc (.cells (vals A).toArray 62) = w4 at *
  generalize w3.heap.size = ga at *
  refine (implFlags v f _ (V.out.grown G4.out)).mono ?_
  rintro e w5 ⟨F, bf, hF, hbf, hbF, rfl, hg⟩
  have hs := storeF w5 hF
  have hvl : (bvals F).length = 8 := by rw [bvals_length]; exact hF
  have G6 := Lib.hid (grown_alloc (grown_trans G4.out hg) (.cells (bvals F).toArray 65))
  have A6 := Lib.hid ((A4.out.still hg).alloc (.cells (bvals F).toArray 65))
  have S6 := Lib.hid ((S4.out.still hg).alloc (.cells (bvals F).toArray 65))
  have F6 := Lib.hid (BArr.new w5 65 F)
  have HF := Lib.hid hF
  have BF := Lib.hid hbf
  have BFF := Lib.hid hbF
  clear hg A4 S4 G4 hF hbf hbF
  go_upto_region 4 with fail
  clear hs hvl
  generalize w5.alloc (.cells (bvals F).toArray 65) = w6 at *
  generalize w5.heap.size = gf at *
  by_cases hall : bk = true ∧ ba = true ∧ bf = true
  · obtain ⟨rfl, rfl, rfl⟩ := hall
    have kk := BK.out.1 rfl
    obtain ⟨j, rfl, hj⟩ : ∃ j : Nat, k = j ∧ (j = 1 ∨ j = 2) := ⟨k.toNat, by omega, by omega⟩
    obtain rfl : L = grid j := by have := BL.out rfl; simpa using this
    obtain rfl : A = l := SR.out rfl
    obtain rfl : F = f := BFF.out rfl
    have HJ := Lib.hid hj
    have RA := Lib.hid (shOk_row.1 HBA.out)
    have GF := Lib.hid (fun w => genFits hj F HF.out A RA.out w)
    have zl : (vals (grid j)).toArray.size = 32 := by simp [vals_length, HL.out]
    have hi : (Try.prog.info? 60).map (·.size) = some (vals (grid j)).toArray.size := by rw [zl]; kernel_rfl
    have zs : (vals A).toArray.size = 8 := by simp [vals_length, HA.out]
    have hj2 : (Try.prog.info? 62).map (·.size) = some (vals A).toArray.size := by rw [zs]; kernel_rfl
    have zf : (bvals F).toArray.size = 8 := by simp [bvals_length, HF.out]
    have hj3 : (Try.prog.info? 65).map (·.size) = some (bvals F).toArray.size := by rw [zf]; kernel_rfl
    have FI : Hid (Sp.Fit j F A ↔ FitM j A F) := Lib.hid (by unfold FitM; simp [kk, HBA.out, HF.out])
    have OKS : Hid (((j : Int) = 1 ∨ (j : Int) = 2) ∧ shOk A = true ∧ F.length = 8) := Lib.hid ⟨kk, HBA.out, HF.out⟩
    have H1 := Lib.hid hi
    have H2 := Lib.hid hj2
    have H3 := Lib.hid hj3
    have GB := Lib.hid (fun w => genBears hj F HF.out w)
    have GR := Lib.hid (fun w => genReduce hj F HF.out w)
    have QE := Lib.hid (bearsM_yes hj HF.out)
    obtain ⟨q, hq⟩ : ∃ q, Sp.bears j F = q := ⟨_, rfl⟩
    have HQ := Lib.hid hq
    rw [hq] at GB QE
    clear kk zl zs zf hi hj2 hj3 BK BL SR BFF BF hj hq
    apply wp_region_lit
    refine wpList_plain rfl (fun K hK => ?_)
    go_simp
    refine hK _ _ ?_
    clear hK
    refine wpList_plain rfl (fun K hK => ?_)
    go_simp
    refine hK _ _ ?_
    clear hK
    refine wpList_plain rfl (fun K hK => ?_)
    go_simp
    refine hK _ _ ?_
    clear hK
    go_guarded
    go_simp
    rename_i hK
    refine hK _ _ ?_
    clear hK
    go_guarded
    go_simp
    rename_i hK
    refine hK _ _ ?_
    clear hK
    refine wpList_plain rfl (fun K hK => ?_)
    go_simp
    refine hK _ _ ?_
    clear hK
    refine wpList_plain rfl (fun K hK => ?_)
    go_simp
    refine hK _ _ ?_
    clear hK
    go_guarded
    go_simp
    rename_i hK
    refine hK _ _ ?_
    clear hK
    go_guarded
    go_simp
    rename_i hK
    refine hK _ _ ?_
    clear hK
    refine wpList_plain rfl (fun K hK => ?_)
    go_simp
    refine hK _ _ ?_
    clear hK
    refine wpList_plain rfl (fun K hK => ?_)
    go_simp
    refine hK _ _ ?_
    clear hK
    go_guarded
    rename_i hK
    refine wp_load_row _ _ rfl g rfl _ _ _ _ A6.out Try.underlying60 rfl H1.out (hK _ _ ?_)
    clear hK
    simp only [Act.put, List.setIfInBounds_toArray, List.set_cons_succ, List.set_cons_zero]
    go_guarded
    rename_i hK
    refine wp_load_row _ _ rfl gf rfl _ _ _ _ F6.out Try.underlying65 rfl H3.out (hK _ _ ?_)
    clear hK
    simp only [Act.put, List.setIfInBounds_toArray, List.set_cons_succ, List.set_cons_zero]
    go_wp2_with fail
    refine (GB.out _).mono ?_
    rintro e w7 ⟨rfl, hg⟩
    have G7 := Lib.hid (grown_trans G6.out hg)
    have A7 := Lib.hid (A6.out.still hg)
    have S7 := Lib.hid (S6.out.still hg)
    have F7 := Lib.hid (F6.out.still hg)
    clear hg A6 F6 S6 G6 GB
    cases q with
    | false =>
      have NO : Hid (ReadT j A F [] false) := Lib.hid (.inr ⟨rfl, rfl, fun h => by have := QE.out; rw [h.2] at this; cases this⟩)
      go_wp2_with fail
      go_ret2
      exact ⟨[], false, _, rfl, G7.out, Own.none_ _ _, NO.out⟩
    | true =>
      dsimp only
      rename_i hK
      refine hK _ _ ?_
      clear hK
      go_guarded
      go_simp
      rename_i hK
      refine hK _ _ ?_
      clear hK
      refine wpList_plain rfl (fun K hK => ?_)
      go_simp
      refine hK _ _ ?_
      clear hK
      refine wpList_plain rfl (fun K hK => ?_)
      go_simp
      refine hK _ _ ?_
      clear hK
      go_guarded
      rename_i hK
      refine wp_load_row _ _ rfl g rfl _ _ _ _ A7.out Try.underlying60 rfl H1.out (hK _ _ ?_)
      clear hK
      simp only [Act.put, List.setIfInBounds_toArray, List.set_cons_succ, List.set_cons_zero]
      go_guarded
      rename_i hK
      refine wp_load_row _ _ rfl ga rfl _ _ _ _ S7.out Try.underlying62 rfl H2.out (hK _ _ ?_)
      clear hK
      simp only [Act.put, List.setIfInBounds_toArray, List.set_cons_succ, List.set_cons_zero]
      go_guarded
      rename_i hK
      refine wp_load_row _ _ rfl gf rfl _ _ _ _ F7.out Try.underlying65 rfl H3.out (hK _ _ ?_)
      clear hK
      simp only [Act.put, List.setIfInBounds_toArray, List.set_cons_succ, List.set_cons_zero]
      go_wp2_with fail
      refine (GF.out _).mono ?_
      rintro e w8 ⟨q, rfl, hq, hg⟩
      have G8 := Lib.hid (grown_trans G7.out hg)
      have T8 : Hid (Three g ga gf (grid j) A F w8) := Lib.hid ⟨A7.out.still hg, S7.out.still hg, F7.out.still hg⟩
      have QF := Lib.hid (hq.trans FI.out)
      clear hg hq A7 S7 F7 G7 GF
      cases q with
      | false =>
        have NO : Hid (ReadT j A F [] false) := Lib.hid (.inr ⟨rfl, rfl, fun h => by have := QF.out.2 h.1; cases this⟩)
        go_wp2_with fail
        go_ret2
        exact ⟨[], false, _, rfl, G8.out, Own.none_ _ _, NO.out⟩
      | true =>
        have FM := Lib.hid (QF.out.1 rfl)
        have EC1 := enters_of (P := Try.prog) Try.func44 (by kernel_rfl) rfl
        have EC2 := enters_of (P := Try.prog) Try.func45 (by kernel_rfl) rfl
        have EC3 := enters_of (P := Try.prog) Try.func46 (by kernel_rfl) rfl
        have T9 : Hid (Three g ga gf (grid j) A F w8.drew) := Lib.hid ⟨T8.out.gen.drew, T8.out.sh.drew, T8.out.fl.drew⟩
        have G9 := Lib.hid (grown_drew G8.out)
        go_upto_region 6 with fail
        refine wp_region_held (S := Three g ga gf (grid j) A F) (by kernel_rfl) ?_
        refine Rg.take_ 0 (some 52) (.agg (vals (grid j)).toArray) rfl rfl (by kernel_rfl) (by kernel_rfl) (by kernel_rfl) (fun _ _ _ h => h) (Rg.yields_row _ _ rfl rfl g rfl _ _ _ (fun W hS => hS.gen) Try.underlying60 rfl H1.out) T9.out ?_
        simp only [Act.put, List.setIfInBounds_toArray, List.set_cons_zero, List.set_cons_succ]
        refine Rg.take_ 1 (some 53) (.agg (bvals F).toArray) rfl rfl (by kernel_rfl) (by kernel_rfl) (by kernel_rfl) (fun _ _ _ h => h) (Rg.yields_row _ _ rfl rfl gf rfl _ _ _ (fun W hS => hS.fl) Try.underlying65 rfl H3.out) T9.out ?_
        simp only [Act.put, List.setIfInBounds_toArray, List.set_cons_zero, List.set_cons_succ]
        refine Rg.take_ 3 (some 55) (.agg (vals A).toArray) rfl rfl (by kernel_rfl) (by kernel_rfl) (by kernel_rfl) (fun _ _ _ h => h) (Rg.yields_row _ _ rfl rfl ga rfl _ _ _ (fun W hS => hS.sh) Try.underlying62 rfl H2.out) T9.out ?_
        simp only [Act.put, List.setIfInBounds_toArray, List.set_cons_zero, List.set_cons_succ]
        refine Rg.ready_one (i := 2) (by kernel_rfl) rfl rfl ?_
        refine Rg.call_at (some 54) (f := 44) (args := #[.agg (vals (grid j)).toArray, .agg (bvals F).toArray]) rfl (by go_simp) ((GR.out _).mono ?_)
        rintro e wa ⟨hg, b, g8, q8, S, pv, pn, rfl, hb, he, hst⟩
        have Ta := Lib.hid (T9.out.still hg)
        have Ga := Lib.hid (grown_trans G9.out hg)
        have EA := Lib.hid he
        have ST := Lib.hid hst
        refine ⟨_, rfl, Ta.out, ?_⟩
        simp only [Act.put, List.setIfInBounds_toArray, List.set_cons_zero, List.set_cons_succ]
        clear hg he hst hb
        refine Rg.ready_one (i := 4) (by kernel_rfl) rfl rfl ?_
        refine Rg.call_at (some 56) (f := 45) (args := #[.pointer (some ⟨g8, 0, none⟩), .agg (vals A).toArray]) rfl (by go_simp) ((echData HJ.out F HQ.out A RA.out b g8 q8 S pv pn _ EA.out ST.out).mono ?_)
        rintro e wb ⟨D, rfl, hD, hg⟩
        have Tb := Lib.hid (Ta.out.still hg)
        have Gb := Lib.hid (grown_trans Ga.out hg)
        have DD := Lib.hid hD
        obtain ⟨x0, x1, x2, x3, rfl⟩ := list_four hD.1.1
        refine ⟨_, rfl, Tb.out, ?_⟩
        simp only [Act.put, List.setIfInBounds_toArray, List.set_cons_zero, List.set_cons_succ]
        clear hg hD
        refine Rg.ready_one (i := 5) (by kernel_rfl) rfl rfl ?_
        refine Rg.call_at (some 57) (f := 46) (args := #[.agg #[.int .i64 x0, .int .i64 x1, .int .i64 x2, .int .i64 x3]]) rfl (by go_simp; rfl) ((rowInts x0 x1 x2 x3 _).mono ?_)
        rintro e wc ⟨vo, rfl, hg, ho⟩
        have Tc := Lib.hid (Tb.out.still hg)
        have Gc := Lib.hid (grown_trans Gb.out hg)
        have OC := Lib.hid (ho.lower Gb.out.size)
        refine ⟨_, rfl, Tc.out, ?_⟩
        simp only [Act.put, List.setIfInBounds_toArray, List.set_cons_zero, List.set_cons_succ]
        obtain ⟨ao, co, eo, _, _, _⟩ := ho.sl
        subst eo
        clear hg ho
        refine Rg.take_ 6 (some 6) (.slice ao 4 co) rfl rfl (by kernel_rfl) (by kernel_rfl) (by kernel_rfl) (fun _ _ _ h => h) (.inl ⟨by rfl, fun W' hS => (by go_simp)⟩) Tc.out ?_
        simp only [Act.put, List.setIfInBounds_toArray, List.set_cons_zero, List.set_cons_succ]
        refine Rg.take_ 7 (some 7) (.bool true) rfl rfl (by kernel_rfl) (by kernel_rfl) (by kernel_rfl) (fun _ _ _ h => h) (.inl ⟨by rfl, fun W' hS => (by go_simp)⟩) Tc.out ?_
        simp only [Act.put, List.setIfInBounds_toArray, List.set_cons_zero, List.set_cons_succ]
        refine wpAnyH_done (by kernel_rfl) ?_ _
        go_wp2_with fail
        go_ret2
        exact ⟨_, true, _, rfl, Gc.out, OC.out, .inl ⟨rfl, FM.out, QE.out, DD.out⟩⟩
  · have NO : Hid (¬ (FitM k l f ∧ bearsM k f = true)) := Lib.hid (fun h => hall ⟨BK.out.2 h.1.1, by rw [← HBA.out]; exact h.1.2.1, BF.out.2 h.1.2.2.1⟩)
    clear A6 S6 F6
    cases bk with
    | false =>
      clear hall
      go_wp2_with fail
      go_ret2
      exact ⟨[], false, _, rfl, G6.out, Own.none_ _ _, .inr ⟨rfl, rfl, NO.out⟩⟩
    | true =>
      cases ba with
      | false =>
        clear hall
        go_wp2_with fail
        go_ret2
        exact ⟨[], false, _, rfl, G6.out, Own.none_ _ _, .inr ⟨rfl, rfl, NO.out⟩⟩
      | true =>
        cases bf with
        | false =>
          clear hall
          go_wp2_with fail
          go_ret2
          exact ⟨[], false, _, rfl, G6.out, Own.none_ _ _, .inr ⟨rfl, rfl, NO.out⟩⟩
        | true => exact absurd ⟨rfl, rfl, rfl⟩ hall
end Go.Proofs.Ytoflijiinkmjoaa
