/-
  The contracts of CodeBears, in the program: which shards are enough; flags as an array.
  Conditions: none.
-/
import Derived.Test.YtbpkfcaokbidnabCodeBear
import Derived.Laws.Cover3
namespace Go.Proofs.Ytbpkfcaokbidnab
open Go.RowKit
set_option linter.unusedVariables false

theorem stand_bears {k : Nat} (hk : k = 1 ∨ k = 2) {f : List Bool} {S : Sp.Cols} {pn : List Nat} (h : Sp.Stand (Sp.padd k f) 8 S pn) : Sp.bears k f = (pn.length == 4) := by
  have e := h.first
  rw [List.take_of_length_le (by rw [Sp.padd_len]; exact Nat.le_refl _)] at e
  rw [Sp.padd_bears hk f, ← e]

set_option maxHeartbeats 4000000 in
set_option maxRecDepth 20000 in
theorem genBears {k : Nat} (hk : k = 1 ∨ k = 2) (f : List Bool) (hf : f.length = 8) (w : World) : Calls Try.prog 83 #[.agg (vals (grid k)).toArray, .agg (bvals f).toArray] w fun e w' => e = .returned (.bool (Sp.bears k f)) ∧ w.grownBy w' none := by
  have GL := grid_len k hk
  have z : (vals (grid k)).toArray.size = 32 := by simp [vals_length, GL]
  have z8 : (bvals f).toArray.size = 8 := by simp [bvals_length, hf]
  have hi : (Try.prog.info? 76).map (·.size) = some (vals (grid k)).toArray.size := by rw [z]; kernel_rfl
  have hj : (Try.prog.info? 80).map (·.size) = some (bvals f).toArray.size := by rw [z8]; kernel_rfl
  have A0 : Hid (Arr ((w.alloc (.cells (vals (grid k)).toArray 76)).alloc (.cells (bvals f).toArray 80)) w.heap.size 76 (grid k)) := Lib.hid ((Arr.new w _ _).alloc _)
  have F0 : Hid (BArr ((w.alloc (.cells (vals (grid k)).toArray 76)).alloc (.cells (bvals f).toArray 80)) (w.heap.size + 1) 80 f) := Lib.hid (by
    have := BArr.new (w.alloc (.cells (vals (grid k)).toArray 76)) 80 f
    rw [World.size_alloc] at this
    exact this)
  have G0 : Hid (w.grownBy ((w.alloc (.cells (vals (grid k)).toArray 76)).alloc (.cells (bvals f).toArray 80)) none) := Lib.hid (grown_alloc (grown_alloc (World.grownBy.refl _ _) _) _)
  go_enter Try.func83, Try.ntmps83
  go_upto_region 1 with fail
  apply wp_region_lit
  refine wpList_load_row rfl _ _ rfl w.heap.size rfl _ _ _ _ A0.out Try.underlying76 rfl hi ?_
  refine wpList_load_row rfl _ _ rfl (w.heap.size + 1) rfl _ _ _ _ F0.out Try.underlying80 rfl hj ?_
  have GR := Lib.hid (fun w => genReduce hk f hf w)
  clear GL z z8 hi hj A0 F0 hf
  generalize (w.alloc (.cells (vals (grid k)).toArray 76)).alloc (.cells (bvals f).toArray 80) = W0 at *
  generalize vals (grid k) = gv at *
  generalize bvals f = fv at *
  go_wp2_with fail
  refine (GR.out _).mono ?_
  rintro e w1 ⟨hg, b, g, q, S, pv, pn, rfl, hb, he, hst⟩
  have G1 := Lib.hid (grown_trans G0.out hg)
  have BE := Lib.hid (stand_bears hk hst)
  obtain ⟨pa, pc, hpv, _, _, _⟩ := he.own.sl
  have c4 := he.blk.cell (i := 4) (v := pv) rfl
  rw [hpv] at c4
  have ln : (pn.map fun (i : Nat) => (i : Int)).length = pn.length := List.length_map ..
  rw [ln] at c4
  clear hg hb he hst hpv ln G0 GR
  generalize pn.length = m at *
  go_wp2_with fail
  go_ret
  refine ⟨ret_bool ?_, G1.out⟩
  rw [BE.out]
  by_cases h4 : m = 4
  · subst h4; rfl
  · have h1 : (m == 4) = false := by rw [beq_eq_false_iff_ne]; exact h4
    have h2 : ((m : Int) == 4) = false := by rw [beq_eq_false_iff_ne]; omega
    rw [h1, h2]

set_option maxHeartbeats 4000000 in
set_option maxRecDepth 20000 in
theorem flagsYes (v : Value) (b0 b1 b2 b3 b4 b5 b6 b7 : Bool) (w : World) (h : Bl w v [b0, b1, b2, b3, b4, b5, b6, b7]) :
    Calls Try.prog 57 #[v] w fun e w' => e = .returned (.tuple #[.agg (bvals [b0, b1, b2, b3, b4, b5, b6, b7]).toArray, .bool true]) ∧ w.grownBy w' none := by
  obtain ⟨a, cap, rfl, h1, h2, hr⟩ := h
  rcases hr with hr | ⟨b, o, rfl, hr⟩
  · cases hr
  unfold maxLen at h2
  have hlt := lt_of_cell (hr 0 (by simp))
  have c0 : w.cell? ⟨b, o, none⟩ = some (.bool b0) := hr 0 (by simp)
  have c1 : w.cell? ⟨b, o + 1, none⟩ = some (.bool b1) := hr 1 (by simp)
  have c2 : w.cell? ⟨b, o + 2, none⟩ = some (.bool b2) := hr 2 (by simp)
  have c3 : w.cell? ⟨b, o + 3, none⟩ = some (.bool b3) := hr 3 (by simp)
  have c4 : w.cell? ⟨b, o + 4, none⟩ = some (.bool b4) := hr 4 (by simp)
  have c5 : w.cell? ⟨b, o + 5, none⟩ = some (.bool b5) := hr 5 (by simp)
  have c6 : w.cell? ⟨b, o + 6, none⟩ = some (.bool b6) := hr 6 (by simp)
  have c7 : w.cell? ⟨b, o + 7, none⟩ = some (.bool b7) := hr 7 (by simp)
  clear hr
  simp only [List.length_cons, List.length_nil] at h1 ⊢
  have hat : ∀ W, (Instr.arrayAt 80 (.slice (some ⟨b, o, none⟩) 8 cap)).run Try.prog W = .ok (.pointer (some ⟨b, o, none⟩)) W := fun W => run_arrayAt W 80 _ 8 _ 8 cap Try.underlying80 (Nat.le_refl _)
  go_enter Try.func57, Try.ntmps57
  go_wp2_with fail
  refine bodyPost_ret (v := .tuple #[.agg #[.bool b0, .bool b1, .bool b2, .bool b3, .bool b4, .bool b5, .bool b6, .bool b7], .bool true]) (by simp [results, Try.results57, go_sem]) rfl ⟨rfl, ?_⟩
  repeat' first | exact World.grownBy.refl _ _ | refine grown_alloc ?_ _ | refine grown_set ?_ (by simp) _

set_option maxHeartbeats 4000000 in
set_option maxRecDepth 20000 in
theorem flagsNo (v : Value) (l : List Bool) (w : World) (h : Bl w v l) (hl : l.length ≠ 8) :
    Calls Try.prog 57 #[v] w fun e w' => e = .returned (.tuple #[.agg (bvals [false, false, false, false, false, false, false, false]).toArray, .bool false]) ∧ w.grownBy w' none := by
  obtain ⟨a, cap, rfl, h1, h2, hr⟩ := h
  unfold maxLen at h2
  have hne : ((l.length : Int) != 8) = true := by rw [bne_iff_ne]; omega
  clear hr hl
  go_enter Try.func57, Try.ntmps57
  go_wp2_with fail
  refine bodyPost_ret (v := .tuple #[.agg #[.bool false, .bool false, .bool false, .bool false, .bool false, .bool false, .bool false, .bool false], .bool false]) (by simp [results, Try.results57, go_sem]) rfl ⟨rfl, ?_⟩
  repeat' first | exact World.grownBy.refl _ _ | refine grown_alloc ?_ _ | refine grown_set ?_ (by simp) _

end Go.Proofs.Ytbpkfcaokbidnab
