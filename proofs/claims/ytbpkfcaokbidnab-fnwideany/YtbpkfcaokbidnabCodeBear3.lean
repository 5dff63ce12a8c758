/-
  The contract of CodeBears, in the program.
  Conditions: none.
-/
import Derived.Test.YtbpkfcaokbidnabCodeBear2
namespace Go.Proofs.Ytbpkfcaokbidnab
open Go.RowKit
set_option linter.unusedVariables false

theorem list_eight {α : Type} {l : List α} (h : l.length = 8) : ∃ a b c d e f g i, l = [a, b, c, d, e, f, g, i] := by
  match l, h with
  | [a, b, c, d, e, f, g, i], _ => exact ⟨a, b, c, d, e, f, g, i, rfl⟩

set_option maxHeartbeats 4000000 in
set_option maxRecDepth 20000 in
theorem bearsYes {k : Nat} (hk : k = 1 ∨ k = 2) (v : Value) (f : List Bool) (w : World) (h : Bl w v f) (hf : f.length = 8) :
    Calls Try.prog 40 #[.int .i64 k, v] w fun e w' => e = .returned (.bool (Sp.bears k f)) ∧ w.grownBy w' none := by
  have GY := Lib.hid (fun w => genYes hk w)
  have GB := Lib.hid (fun w => genBears hk f hf w)
  generalize Sp.bears k f = q at *
  have GL := grid_len k hk
  have z : (vals (grid k)).toArray.size = 32 := by simp [vals_length, GL]
  have hi : (Try.prog.info? 76).map (·.size) = some (vals (grid k)).toArray.size := by rw [z]; kernel_rfl
  have HI := Lib.hid hi
  generalize grid k = l at *
  obtain ⟨b0, b1, b2, b3, b4, b5, b6, b7, rfl⟩ := list_eight hf
  have B := Lib.hid h
  clear h hf z hi
  go_enter Try.func40, Try.ntmps40
  go_wp2_with fail
  refine (GY.out _).mono ?_
  rintro e w1 ⟨rfl, hg⟩
  have hs := storeNew w1 GL
  have hv : (vals l).length = 32 := by rw [vals_length]; exact GL
  have G2 := Lib.hid (grown_alloc hg (.cells (vals l).toArray 76))
  have A2 := Lib.hid (Arr.new w1 76 l)
  clear hg GY GL
  go_wp2_with fail
  clear hs hv
  generalize w1.alloc (.cells (vals l).toArray 76) = w2 at *
  generalize w1.heap.size = g at *
  refine (flagsYes v b0 b1 b2 b3 b4 b5 b6 b7 _ (B.out.grown G2.out)).mono ?_
  rintro e w3 ⟨rfl, hg⟩
  have A4 := Lib.hid ((A2.out.still hg).alloc (.cells (bvals [b0, b1, b2, b3, b4, b5, b6, b7]).toArray 80))
  have F4 := Lib.hid (BArr.new w3 80 [b0, b1, b2, b3, b4, b5, b6, b7])
  have G4 := Lib.hid (grown_alloc (grown_trans G2.out hg) (.cells (bvals [b0, b1, b2, b3, b4, b5, b6, b7]).toArray 80))
  clear hg A2 G2
  have fv : bvals [b0, b1, b2, b3, b4, b5, b6, b7] = [.bool b0, .bool b1, .bool b2, .bool b3, .bool b4, .bool b5, .bool b6, .bool b7] := rfl
  go_upto_region 3 with fail
  change Code.wp _ _ _ _ (w3.alloc (.cells (bvals [b0, b1, b2, b3, b4, b5, b6, b7]).toArray 80))
  generalize w3.alloc (.cells (bvals [b0, b1, b2, b3, b4, b5, b6, b7]).toArray 80) = w4 at *
  generalize w3.heap.size = b at *
  clear fv
  apply wp_region_lit
  refine wpList_plain rfl (fun K hK => ?_)
  go_simp
  refine hK _ _ ?_
  clear hK
  refine wpList_plain rfl (fun K hK => ?_)
  go_simp
  refine hK _ _ ?_
  clear hK
  go_guarded
  go_simp
  rename_i hK
  refine hK _ _ ?_
  clear hK
  refine wpList_plain rfl (fun K hK => ?_)
  go_simp
  refine hK _ _ ?_
  clear hK
  refine wpList_plain rfl (fun K hK => ?_)
  go_simp
  refine hK _ _ ?_
  clear hK
  go_guarded
  rename_i hK
  refine wp_load_row _ _ rfl g rfl _ _ _ _ A4.out Try.underlying76 rfl HI.out (hK _ _ ?_)
  clear hK
  simp only [Act.put, List.setIfInBounds_toArray, List.set_cons_succ, List.set_cons_zero]
  go_guarded
  rename_i hK
  refine wp_load_row _ _ rfl b rfl _ _ _ _ F4.out Try.underlying80 rfl (by kernel_rfl) (hK _ _ ?_)
  clear hK
  simp only [Act.put, List.setIfInBounds_toArray, List.set_cons_succ, List.set_cons_zero]
  generalize vals l = lv at *
  generalize bvals [b0, b1, b2, b3, b4, b5, b6, b7] = fv at *
  go_wp2_with fail
  refine (GB.out _).mono ?_
  rintro e w5 ⟨rfl, hg⟩
  have G5 := Lib.hid (grown_trans G4.out hg)
  clear hg G4 GB A4 F4 HI
  cases q
  · go_wp2_with fail
    go_ret
    exact ⟨rfl, G5.out⟩
  · go_wp2_with fail
    go_ret
    exact ⟨rfl, G5.out⟩

set_option maxHeartbeats 4000000 in
set_option maxRecDepth 20000 in
theorem bearsShort {k : Nat} (hk : k = 1 ∨ k = 2) (v : Value) (f : List Bool) (w : World) (h : Bl w v f) (hf : f.length ≠ 8) :
    Calls Try.prog 40 #[.int .i64 k, v] w fun e w' => e = .returned (.bool false) ∧ w.grownBy w' none := by
  have GY := Lib.hid (fun w => genYes hk w)
  have GL := grid_len k hk
  generalize grid k = l at *
  have B := Lib.hid h
  have N := Lib.hid hf
  clear h hf
  go_enter Try.func40, Try.ntmps40
  go_wp2_with fail
  refine (GY.out _).mono ?_
  rintro e w1 ⟨rfl, hg⟩
  have hs := storeNew w1 GL
  have hv : (vals l).length = 32 := by rw [vals_length]; exact GL
  have G2 := Lib.hid (grown_alloc hg (.cells (vals l).toArray 76))
  clear hg GY GL
  go_wp2_with fail
  clear hs hv
  generalize w1.alloc (.cells (vals l).toArray 76) = w2 at *
  generalize w1.heap.size = g at *
  refine (flagsNo v f _ (B.out.grown G2.out) N.out).mono ?_
  rintro e w3 ⟨rfl, hg⟩
  have G4 := Lib.hid (grown_alloc (grown_trans G2.out hg) (.cells (bvals [false, false, false, false, false, false, false, false]).toArray 80))
  clear hg G2
  have fv : bvals [false, false, false, false, false, false, false, false] = [.bool false, .bool false, .bool false, .bool false, .bool false, .bool false, .bool false, .bool false] := rfl
  go_wp2_with fail
  go_ret
  exact ⟨rfl, G4.out⟩

set_option maxHeartbeats 4000000 in
set_option maxRecDepth 20000 in
theorem bearsNo {k : Int} (h1 : k ≠ 1) (h2 : k ≠ 2) (v : Value) (f : List Bool) (w : World) (h : Bl w v f) :
    Calls Try.prog 40 #[.int .i64 k, v] w fun e w' => e = .returned (.bool false) ∧ w.grownBy w' none := by
  have GY := Lib.hid (fun w => genNone k w h1 h2)
  have GL : (List.replicate 32 (0 : Int)).length = 32 := rfl
  generalize List.replicate 32 (0 : Int) = l at *
  have B := Lib.hid h
  clear h h1 h2
  go_enter Try.func40, Try.ntmps40
  go_wp2_with fail
  refine (GY.out _).mono ?_
  rintro e w1 ⟨rfl, hg⟩
  have hs := storeNew w1 GL
  have hv : (vals l).length = 32 := by rw [vals_length]; exact GL
  have G2 := Lib.hid (grown_alloc hg (.cells (vals l).toArray 76))
  clear hg GY GL
  go_wp2_with fail
  clear hs hv
  generalize w1.alloc (.cells (vals l).toArray 76) = w2 at *
  generalize w1.heap.size = g at *
  by_cases hf : f.length = 8
  · obtain ⟨b0, b1, b2, b3, b4, b5, b6, b7, rfl⟩ := list_eight hf
    clear hf
    refine (flagsYes v b0 b1 b2 b3 b4 b5 b6 b7 _ (B.out.grown G2.out)).mono ?_
    rintro e w3 ⟨rfl, hg⟩
    have G4 := Lib.hid (grown_alloc (grown_trans G2.out hg) (.cells (bvals [b0, b1, b2, b3, b4, b5, b6, b7]).toArray 80))
    clear hg G2
    have fv : bvals [b0, b1, b2, b3, b4, b5, b6, b7] = [.bool b0, .bool b1, .bool b2, .bool b3, .bool b4, .bool b5, .bool b6, .bool b7] := rfl
    go_wp2_with fail
    go_ret
    exact ⟨rfl, G4.out⟩
  · refine (flagsNo v f _ (B.out.grown G2.out) hf).mono ?_
    rintro e w3 ⟨rfl, hg⟩
    have G4 := Lib.hid (grown_alloc (grown_trans G2.out hg) (.cells (bvals [false, false, false, false, false, false, false, false]).toArray 80))
    clear hg G2 hf
    have fv : bvals [false, false, false, false, false, false, false, false] = [.bool false, .bool false, .bool false, .bool false, .bool false, .bool false, .bool false, .bool false] := rfl
    go_wp2_with fail
    go_ret
    exact ⟨rfl, G4.out⟩

/-- what CodeBears answers. -/
def bearsM (k : Int) (f : List Bool) : Bool := (decide (k = 1) || decide (k = 2)) && decide (f.length = 8) && Sp.bears k.toNat f
theorem bearsM_yes {k : Nat} (hk : k = 1 ∨ k = 2) {f : List Bool} (hf : f.length = 8) : bearsM k f = Sp.bears k f := by
  rcases hk with rfl | rfl <;> simp [bearsM, hf]
theorem bearsM_short {k : Int} {f : List Bool} (hf : f.length ≠ 8) : bearsM k f = false := by simp [bearsM, hf]
theorem bearsM_no {k : Int} (h1 : k ≠ 1) (h2 : k ≠ 2) (f : List Bool) : bearsM k f = false := by simp [bearsM, h1, h2]
theorem kind_cases (k : Int) : (∃ n : Nat, k = n ∧ (n = 1 ∨ n = 2)) ∨ (k ≠ 1 ∧ k ≠ 2) := by
  by_cases h1 : k = 1
  · exact .inl ⟨1, h1, .inl rfl⟩
  · by_cases h2 : k = 2
    · exact .inl ⟨2, h2, .inr rfl⟩
    · exact .inr ⟨h1, h2⟩
theorem implBears (k : Int) (v : Value) (f : List Bool) (w : World) (h : Bl w v f) : Calls Try.prog 40 #[.int .i64 k, v] w fun e w' => e = .returned (.bool (bearsM k f)) ∧ w.grownBy w' none := by
  rcases kind_cases k with ⟨n, rfl, hn⟩ | ⟨h1, h2⟩
  · by_cases hf : f.length = 8
    · rw [bearsM_yes hn hf]; exact bearsYes hn v f w h hf
    · rw [bearsM_short hf]; exact bearsShort hn v f w h hf
  · rw [bearsM_no h1 h2]; exact bearsNo h1 h2 v f w h

end Go.Proofs.Ytbpkfcaokbidnab
