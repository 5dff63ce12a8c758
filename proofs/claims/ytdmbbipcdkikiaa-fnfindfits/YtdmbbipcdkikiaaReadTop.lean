/-
  The contracts of the program's ReadFrom and ReadData.
  Conditions: none.
-/
import Derived.Test.YtdmbbipcdkikiaaReadProg
import Derived.Test.YtdmbbipcdkikiaaReadTake
namespace Go.Proofs.Ytdmbbipcdkikiaa
open Go.RowKit
set_option linter.unusedVariables false

/-- the first shards that are enough; none, if they are not. -/
def fromM (k : Int) (f : List Bool) : List Int := bif bearsM k f then ints (Sp.fromK k.toNat f) else []
theorem fromM_no {k : Int} {f : List Bool} (h : bearsM k f = false) : fromM k f = [] := by simp [fromM, h]
theorem fromM_yes {k : Nat} {f : List Bool} (h : bearsM k f = true) : fromM k f = ints (Sp.fromK k f) := by simp [fromM, h]
theorem bearsM_iff {k : Int} {f : List Bool} : bearsM k f = true ↔ (k = 1 ∨ k = 2) ∧ f.length = 8 ∧ Sp.bears k.toNat f = true := by
  simp [bearsM, and_assoc]

set_option maxHeartbeats 4000000 in
set_option maxRecDepth 20000 in
theorem implReadFrom (k : Int) (v : Value) (f : List Bool) (w : World) (hv : Bl w v f) : Calls Try.prog 10 #[.int .i64 k, v] w (NewInts (fromM k f) w) := by
  have V := Lib.hid hv
  clear hv
  go_enter Try.func10, Try.ntmps10
  go_wp2_with fail
  refine (implGen k _).mono ?_
  rintro e w1 ⟨L, bk, hL, hbk, hbL, rfl, hg⟩
  have hs := storeNew w1 hL
  have hvl : (vals L).length = 32 := by rw [vals_length]; exact hL
  have G2 := Lib.hid (grown_alloc hg (.cells (vals L).toArray 56))
  have A2 := Lib.hid (Arr.new w1 56 L)
  have HL := Lib.hid hL
  have BK := Lib.hid hbk
  have BL := Lib.hid hbL
  clear hg hL hbk hbL
  go_wp2_with fail
  clear hs hvl
  generalize w1.alloc (.cells (vals L).toArray 56) = w2 at *
  generalize w1.heap.size = g at *
  refine (implFlags v f _ (V.out.grown G2.out)).mono ?_
  rintro e w5 ⟨F, bf, hF, hbf, hbF, rfl, hg⟩
  have hs := storeF w5 hF
  have hvl : (bvals F).length = 8 := by rw [bvals_length]; exact hF
  have G6 := Lib.hid (grown_alloc (grown_trans G2.out hg) (.cells (bvals F).toArray 60))
  have A6 := Lib.hid ((A2.out.still hg).alloc (.cells (bvals F).toArray 60))
  have F6 := Lib.hid (BArr.new w5 60 F)
  have HF := Lib.hid hF
  have BF := Lib.hid hbf
  have BFF := Lib.hid hbF
  clear hg A2 G2 hF hbf hbF V
  go_upto_region 3 with fail
  clear hs hvl
  generalize w5.alloc (.cells (bvals F).toArray 60) = w6 at *
  generalize w5.heap.size = gf at *
  cases bk with
  | false =>
    have NO : Hid (fromM k f = []) := Lib.hid (fromM_no (by
      cases e : bearsM k f with
      | false => rfl
      | true => have := BK.out.2 (bearsM_iff.1 e).1; cases this))
    clear A6 F6
    go_wp2_with fail
    go_ret
    exact ⟨_, rfl, G6.out, by rw [NO.out]; exact Own.none_ _ _⟩
  | true =>
    have kk := BK.out.1 rfl
    obtain ⟨j, rfl, hj⟩ : ∃ j : Nat, k = j ∧ (j = 1 ∨ j = 2) := ⟨k.toNat, by omega, by omega⟩
    obtain rfl : L = grid j := by have := BL.out rfl; simpa using this
    clear kk BK BL
    cases bf with
    | false =>
      have NO : Hid (fromM j f = []) := Lib.hid (fromM_no (by
        cases e : bearsM j f with
        | false => rfl
        | true => have := BF.out.2 (bearsM_iff.1 e).2.1; cases this))
      clear A6 F6
      go_wp2_with fail
      go_ret
      exact ⟨_, rfl, G6.out, by rw [NO.out]; exact Own.none_ _ _⟩
    | true =>
      obtain rfl : F = f := BFF.out rfl
      have HJ := Lib.hid hj
      clear BF BFF
      have GB := Lib.hid (fun w => genBears hj F HF.out w)
      have GR := Lib.hid (fun w => genReduce hj F HF.out w)
      have QE := Lib.hid (bearsM_yes hj HF.out)
      have zl : (vals (grid j)).toArray.size = 32 := by simp [vals_length, HL.out]
      have hi : (Try.prog.info? 56).map (·.size) = some (vals (grid j)).toArray.size := by rw [zl]; kernel_rfl
      have zf : (bvals F).toArray.size = 8 := by simp [bvals_length, HF.out]
      have hj3 : (Try.prog.info? 60).map (·.size) = some (bvals F).toArray.size := by rw [zf]; kernel_rfl
      have H1 := Lib.hid hi
      have H3 := Lib.hid hj3
      obtain ⟨q, hq⟩ : ∃ q, Sp.bears j F = q := ⟨_, rfl⟩
      rw [hq] at GB QE
      clear hi hj3 zl zf hj hq
      apply wp_region_lit
      refine wpList_plain rfl (fun K hK => ?_)
      go_simp
      refine hK _ _ ?_
      clear hK
      refine wpList_plain rfl (fun K hK => ?_)
      go_simp
      refine hK _ _ ?_
      clear hK
      refine wpList_plain rfl (fun K hK => ?_)
      go_simp
      refine hK _ _ ?_
      clear hK
      go_guarded
      go_simp
      rename_i hK
      refine hK _ _ ?_
      clear hK
      go_guarded
      go_simp
      rename_i hK
      refine hK _ _ ?_
      clear hK
      refine wpList_plain rfl (fun K hK => ?_)
      go_simp
      refine hK _ _ ?_
      clear hK
      refine wpList_plain rfl (fun K hK => ?_)
      go_simp
      refine hK _ _ ?_
      clear hK
      go_guarded
      rename_i hK
      refine wp_load_row _ _ rfl g rfl _ _ _ _ A6.out Try.underlying56 rfl H1.out (hK _ _ ?_)
      clear hK
      simp only [Act.put, List.setIfInBounds_toArray, List.set_cons_succ, List.set_cons_zero]
      go_guarded
      rename_i hK
      refine wp_load_row _ _ rfl gf rfl _ _ _ _ F6.out Try.underlying60 rfl H3.out (hK _ _ ?_)
      clear hK
      simp only [Act.put, List.setIfInBounds_toArray, List.set_cons_succ, List.set_cons_zero]
      go_wp2_with fail
      refine (GB.out _).mono ?_
      rintro e w7 ⟨rfl, hg⟩
      have G7 := Lib.hid (grown_trans G6.out hg)
      have A7 := Lib.hid (A6.out.still hg)
      have F7 := Lib.hid (F6.out.still hg)
      clear hg A6 F6 G6 GB
      cases q with
      | false =>
        have NO := Lib.hid (fromM_no QE.out)
        go_wp2_with fail
        go_ret
        exact ⟨_, rfl, G7.out, by rw [NO.out]; exact Own.none_ _ _⟩
      | true =>
        have YES := Lib.hid (fromM_yes QE.out)
        go_upto_region 5 with fail
        apply wp_region_lit
        refine wpList_load_row rfl _ _ rfl g rfl _ _ _ _ A7.out Try.underlying56 rfl H1.out ?_
        refine wpList_load_row rfl _ _ rfl gf rfl _ _ _ _ F7.out Try.underlying60 rfl H3.out ?_
        simp only [Act.put, List.setIfInBounds_toArray, List.set_cons_succ, List.set_cons_zero]
        generalize vals (grid j) = lv at *
        generalize bvals F = fv at *
        go_wp2_with fail
        refine (GR.out _).mono ?_
        rintro e w8 ⟨hg, b, g8, q8, S, pv, pn, rfl, hb, he, hst⟩
        have G8 := Lib.hid (grown_trans G7.out hg)
        have c4 := he.blk.cell (i := 4) rfl
        have PN : Hid (pn = Sp.fromK j F) := Lib.hid (by
          have := hst.first
          rwa [List.take_of_length_le (by rw [Sp.padd_len]; exact Nat.le_refl _)] at this)
        have O8 := Lib.hid (he.own.lower (Nat.le_trans G7.out.size hb))
        clear hg he hst G7 hb
        go_wp2_with fail
        go_ret
        refine ⟨_, rfl, G8.out, ?_⟩
        rw [YES.out, ← PN.out]; exact O8.out
end Go.Proofs.Ytdmbbipcdkikiaa
