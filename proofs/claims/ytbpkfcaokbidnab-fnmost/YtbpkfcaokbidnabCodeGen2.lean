/-
  The contracts of the rows of the codes, in the program: the second table of rows, the tables by their kind, the row of a shard.
  Conditions: none.
-/
import Derived.Test.YtbpkfcaokbidnabCodeGen
import Derived.Deep.Cut
namespace Go.Proofs.Ytbpkfcaokbidnab
open Go.RowKit
set_option linter.unusedVariables false

/-- the second table, so many rows of it. -/
def gridK (k : Nat) : List Int := (grid 2).take (k * 4) ++ List.replicate (32 - k * 4) 0
theorem gridK_step : ∀ k : Nat, k < 8 → ((((gridK k).set (k * 4) 1).set (k * 4 + 1) ((Sp.crow 2 k).getD 1 0)).set (k * 4 + 2) ((Sp.crow 2 k).getD 2 0)).set (k * 4 + 3) ((Sp.crow 2 k).getD 3 0) = gridK (k + 1) := by decide +kernel
theorem gridK_len : ∀ k : Nat, k ≤ 8 → (gridK k).length = 32 := by decide +kernel
theorem pow_wide : ∀ k : Nat, k < 8 → Fld.ok ((k : Int) + 1) = true ∧ ((k : Int) + 1) % 31 = (Sp.crow 2 k).getD 1 0 ∧ (Sp.crow 2 k).getD 1 0 * ((k : Int) + 1) % 31 = (Sp.crow 2 k).getD 2 0 ∧ (Sp.crow 2 k).getD 2 0 * ((k : Int) + 1) % 31 = (Sp.crow 2 k).getD 3 0 := by decide +kernel

set_option maxHeartbeats 4000000 in
set_option maxRecDepth 20000 in
theorem implWide (w : World) : Calls Try.prog 99 #[] w fun e w' => e = .returned (.agg (vals (grid 2)).toArray) ∧ w.grownBy w' none := by
  obtain ⟨l, hl⟩ : ∃ l, l = grid 2 := ⟨_, rfl⟩
  rw [← hl]
  have E8 : Hid (gridK 8 = l) := Lib.hid (by rw [hl]; decide +kernel)
  clear hl
  have A0 : Hid (Arr ((w.alloc (.cells (vals (List.replicate 32 0)).toArray 76)).alloc (.cells (vals (List.replicate 32 0)).toArray 76)) w.heap.size 76 (List.replicate 32 0)) := Lib.hid ((Arr.new w 76 (List.replicate 32 0)).alloc _)
  have B0 : Hid (Arr ((w.alloc (.cells (vals (List.replicate 32 0)).toArray 76)).alloc (.cells (vals (List.replicate 32 0)).toArray 76)) (w.heap.size + 1) 76 (List.replicate 32 0)) := Lib.hid (by
    have := Arr.new (w.alloc (.cells (vals (List.replicate 32 0)).toArray 76)) 76 (List.replicate 32 0)
    rw [World.size_alloc] at this
    exact this)
  have G0 : Hid (w.grownBy ((w.alloc (.cells (vals (List.replicate 32 0)).toArray 76)).alloc (.cells (vals (List.replicate 32 0)).toArray 76)) none) := Lib.hid (grown_alloc (grown_alloc (World.grownBy.refl w none) _) _)
  go_enter Try.func99, Try.ntmps99
  go_wp2_with fail
  change Code.wp _ _ _ _ ((w.alloc (.cells (vals (List.replicate 32 0)).toArray 76)).alloc (.cells (vals (List.replicate 32 0)).toArray 76))
  generalize (w.alloc (.cells (vals (List.replicate 32 0)).toArray 76)).alloc (.cells (vals (List.replicate 32 0)).toArray 76) = W0 at *
  obtain ⟨g, hg0⟩ : ∃ g, g = w.heap.size + 1 := ⟨_, rfl⟩
  obtain ⟨r, hr0⟩ : ∃ r, r = w.heap.size := ⟨_, rfl⟩
  rw [← hg0] at B0 ⊢
  rw [← hr0] at A0 ⊢
  have NE : w.heap.size ≤ r ∧ w.heap.size ≤ g ∧ r ≠ g := by omega
  clear hg0 hr0
  go_loopw [3] (fun i wr => ∃ k : Nat, k ≤ 8 ∧ i = .int .i64 k ∧ Arr wr g 76 (gridK k) ∧ Arr wr r 76 (List.replicate 32 0) ∧ w.grownBy wr none) (fun i _ => 8 - (intOf i).toNat)
  case atStart => exact ⟨0, by omega, rfl, B0.out, A0.out, G0.out⟩
  case round =>
    obtain ⟨k, hk, rfl, hb, ha, hw⟩ := hrel
    have A := Lib.hid ha
    have B := Lib.hid hb
    have G := Lib.hid hw
    clear ha hb hw A0 B0 G0
    by_cases hlt : k < 8
    · have hlt' : (k : Int) < 8 := by omega
      have hp := pow_wide k hlt
      have ST := Lib.hid (gridK_step k hlt)
      obtain ⟨a, ea⟩ : ∃ a, (Sp.crow 2 k).getD 1 0 = a := ⟨_, rfl⟩
      obtain ⟨b, eb⟩ : ∃ b, (Sp.crow 2 k).getD 2 0 = b := ⟨_, rfl⟩
      obtain ⟨c, ec⟩ : ∃ c, (Sp.crow 2 k).getD 3 0 = c := ⟨_, rfl⟩
      rw [ea, eb, ec] at hp ST
      have HP := Lib.hid hp
      clear ea eb ec hp
      go_wp2_with fail
      refine (powOf _ _ _ _ _ HP.out.1 HP.out.2.1 HP.out.2.2.1 HP.out.2.2.2).mono ?_
      rintro e w1 ⟨rfl, hg⟩
      have A1 := Lib.hid (A.out.still hg)
      have B1 := Lib.hid (B.out.still hg)
      have G1 := Lib.hid (grown_trans G.out hg)
      clear A B G hg HP
      have hl := gridK_len k hk
      have c0 : w1.cell? ⟨g, k * 4, none⟩ = some (.int .i64 ((gridK k).getD (k * 4) 0)) := B1.out.cell (by omega)
      have c1 : w1.cell? ⟨g, k * 4 + 1, none⟩ = some (.int .i64 ((gridK k).getD (k * 4 + 1) 0)) := B1.out.cell (by omega)
      have c2 : w1.cell? ⟨g, k * 4 + 2, none⟩ = some (.int .i64 ((gridK k).getD (k * 4 + 2) 0)) := B1.out.cell (by omega)
      have c3 : w1.cell? ⟨g, k * 4 + 3, none⟩ = some (.int .i64 ((gridK k).getD (k * 4 + 3) 0)) := B1.out.cell (by omega)
      have f0 := B1.out.frozen (k * 4)
      have f1 := B1.out.frozen (k * 4 + 1)
      have f2 := B1.out.frozen (k * 4 + 2)
      have f3 := B1.out.frozen (k * 4 + 3)
      clear hl
      go_wp2_with fail
      refine ⟨⟨k + 1, by omega, by go_num, ?_, ?_, ?_⟩, by simp [intOf]; omega⟩
      · rw [← ST.out]
        exact (((B1.out.put (k * 4) 1).put (k * 4 + 1) a).put (k * 4 + 2) b).put (k * 4 + 3) c
      · exact (((A1.out.far (p := ⟨g, k * 4, none⟩) NE.2.2 _).far (p := ⟨g, k * 4 + 1, none⟩) NE.2.2 _).far (p := ⟨g, k * 4 + 2, none⟩) NE.2.2 _).far (p := ⟨g, k * 4 + 3, none⟩) NE.2.2 _
      · exact grown_set (grown_set (grown_set (grown_set G1.out (p := ⟨g, k * 4, none⟩) NE.2.1 _) (p := ⟨g, k * 4 + 1, none⟩) NE.2.1 _) (p := ⟨g, k * 4 + 2, none⟩) NE.2.1 _) (p := ⟨g, k * 4 + 3, none⟩) NE.2.1 _
    · obtain rfl : k = 8 := by omega
      rw [E8.out] at B
      have z : l.length = 32 := by rw [← E8.out]; decide +kernel
      have z' : (vals l).toArray.size = 32 := by simp [vals_length, z]
      have hi : (Try.prog.info? 76).map (·.size) = some (vals l).toArray.size := by rw [z']; kernel_rfl
      go_upto_region 7 with fail
      apply wp_region_lit
      refine wpList_load_row rfl _ _ rfl g rfl _ _ _ _ B.out Try.underlying76 rfl hi ?_
      refine wpList_store_row rfl _ _ _ rfl r (vals l).toArray rfl rfl _ _ A.out hi (by rw [z']; kernel_rfl) (all_oneCell_toArray (vals_one l)) ?_
      have A3 := Lib.hid (A.out.row (l' := l))
      have G3 := Lib.hid (grown_row G.out A.out NE.1 (vals l).toArray)
      clear A B G z z'
      generalize wr.setRow r (vals l).toArray = w3 at *
      go_wp2_with fail
      refine bodyPost_ret (v := .agg (vals l).toArray) ?_ rfl ⟨rfl, G3.out⟩
      exact results_cell_row Try.results99 _ _ r _ _ _ _ rfl A3.out Try.underlying76 rfl hi

end Go.Proofs.Ytbpkfcaokbidnab
