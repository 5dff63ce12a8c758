/-
  The contract of CodeMost, in the program.
  Conditions: none.
-/
import Derived.Test.YtbpkfcaokbidnabCodeMost
namespace Go.Proofs.Ytbpkfcaokbidnab
open Go.RowKit
set_option linter.unusedVariables false

theorem Arr.range {w : World} {g : Nat} {t : TypeId} {l : List Int} (h : Arr w g t l) : w.rangeAt g 0 (vals l) := fun j v hv => by
  rw [cell_of_row w g (0 + j) _ t (0, 0) h]; simpa using hv
/-- the fewest that may not be lost, of the first n sets of lost ones. -/
def fewK (k : Nat) : Nat → Nat
  | 0 => 8
  | n + 1 => if Sp.bears k (Sp.bits (255 - n)) then fewK k n else min (fewK k n) (pop n)
theorem few_all {k : Nat} (hk : k = 1 ∨ k = 2) : fewK k 256 = Sp.most k + 1 := by
  have h1 : fewK 1 256 = Sp.most 1 + 1 := by decide +kernel
  have h2 : fewK 2 256 = Sp.most 2 + 1 := by decide +kernel
  rcases hk with rfl | rfl
  · exact h1
  · exact h2
theorem few_le (k n : Nat) : fewK k n ≤ 8 := by
  induction n with
  | zero => exact Nat.le_refl _
  | succ n ih =>
    unfold fewK
    split
    · exact ih
    · omega
theorem pop_le (n : Nat) : pop n ≤ 8 := by
  unfold pop Sp.many
  have := List.count_le_length (a := true) (l := Sp.bits n)
  simpa [Sp.bits] using this

theorem wpOp_run {P : Program} {ops : Array Oper} {Q : Exit → Act → World → Prop} {i : Nat} {K : Act → World → Prop} {a : Act} {w : World} {o : Oper} (ho : ops[i]? = some o) (hw : Region.wanted o (yielded ops a.tmps) = true)
    (h : ∀ K' : Act → World → Prop, (∀ a w, K a w → K' a w) → o.wp P a w K' Q) : wpOp P ops Q i K a w := by
  unfold wpOp
  rw [ho]
  simp only [hw, if_true]
  exact .inl (h K fun _ _ h => h)

set_option maxHeartbeats 4000000 in
set_option maxRecDepth 20000 in
theorem mostYes {k : Nat} (hk : k = 1 ∨ k = 2) (w : World) : Calls Try.prog 43 #[.int .i64 k] w fun e w' => e = .returned (.int .i64 (Sp.most k)) ∧ w.grownBy w' none := by
  have GY := Lib.hid (fun w => genYes hk w)
  have GB := Lib.hid (fun f hf w => genBears hk f hf w)
  have GL := grid_len k hk
  have hi : (Try.prog.info? 76).map (·.size) = some (vals (grid k)).length := by rw [vals_length, GL]; kernel_rfl
  have FA := Lib.hid (few_all hk)
  generalize grid k = l at *
  go_enter Try.func43, Try.ntmps43
  go_wp2_with fail
  refine (GY.out _).mono ?_
  rintro e w1 ⟨rfl, hg⟩
  have hs := storeNew w1 GL
  have hv : (vals l).length = 32 := by rw [vals_length]; exact GL
  have G2 := Lib.hid (grown_alloc hg (.cells (vals l).toArray 76))
  have A2 := Lib.hid (Arr.new w1 76 l)
  have HI := Lib.hid hi
  clear hg GY GL hi
  go_wp2_with fail
  clear hs hv
  generalize w1.alloc (.cells (vals l).toArray 76) = w2 at *
  generalize w1.heap.size = g at *
  go_loopw [5, 14] (fun o i wr => ∃ n : Nat, n ≤ 256 ∧ i = .int .u64 n ∧ o = .int .i64 (fewK k n) ∧ w.grownBy wr none ∧ Arr wr g 76 l) (fun _ i _ => 256 - (intOf i).toNat)
  case atStart => exact ⟨0, by omega, rfl, rfl, G2.out, A2.out⟩
  case round =>
    obtain ⟨n, hn, rfl, rfl, hg, ha⟩ := hrel
    have G := Lib.hid hg
    have A := Lib.hid ha
    clear hg ha G2 A2
    have fl := few_le k n
    have pl := pop_le n
    by_cases hlt : n < 256
    · have hlt' : (n : Int) < 256 := by omega
      have r0 : wr.drew.rangeAt g 0 (vals l) := A.out.drew.range
      have FK : Hid (fewK k (n + 1) = if Sp.bears k (Sp.bits (255 - n)) then fewK k n else min (fewK k n) (pop n)) := Lib.hid rfl
      have GBn := Lib.hid (GB.out (Sp.bits (255 - n)) (by simp [Sp.bits]))
      have WO := Lib.hid (fun w => without n hlt w)
      have OC := Lib.hid (fun w => onesCount n hlt w)
      generalize Sp.bears k (Sp.bits (255 - n)) = q at *
      generalize bvals (Sp.bits (255 - n)) = bv at *
      generalize hfe : fewK k n = fe at *
      generalize hpe : pop n = pe at *
      have PE := Lib.hid hpe
      have FE := Lib.hid hfe
      clear hfe hpe
      go_wp2_with fail
      refine wp_region_held_drew (S := fun w' => w'.rangeAt g 0 (vals l)) (by kernel_rfl) r0 (fun _ => ?_)
      refine wpAnyH_take (i := 0) (oi := { dst := some 17, op := .load 76 (.tmp 3), type := 76, pos := _, after := #[], guard := none }) (v := .agg (vals l).toArray) rfl (by kernel_rfl) (by kernel_rfl) (by kernel_rfl) (fun _ _ _ h => h) (yieldsIf_load_mid (by rfl) _ _ rfl g 0 rfl (vals l) _ (fun _ h => h) Try.underlying76 rfl HI.out) r0 ?_
      refine wpAnyH_take (i := 1) (oi := { dst := some 18, op := .move (.tmp 6), type := 111, pos := _, after := #[], guard := none }) (v := .int .u64 n) rfl (by kernel_rfl) (by kernel_rfl) (by kernel_rfl) (fun _ _ _ h => h) (Or.inl ⟨by rfl, fun w _ => by go_simp⟩) r0 ?_
      simp only [Act.put, List.setIfInBounds_toArray, List.set_cons_zero, List.set_cons_succ]
      refine wpAnyH_all (rs := [2]) (by kernel_rfl) (by simp) ?_
      intro i hi
      simp only [List.mem_singleton] at hi
      subst hi
      refine wpOp_run rfl (by kernel_rfl) (fun K' hK => ?_)
      have HK := Lib.hid hK
      clear hK
      go_simp
      go_wp2_with fail
      refine (WO.out _).mono ?_
      rintro e w3 ⟨rfl, hg3⟩
      have G3 := Lib.hid (grown_trans (grown_drew G.out) hg3)
      have A3 := Lib.hid (A.out.drew.still hg3)
      have r1 := A3.out.range
      clear hg3 A G r0 WO
      refine HK.out _ _ ⟨r1, ?_⟩
      clear HK
      refine wpAnyH_all (rs := [3]) (by kernel_rfl) (by simp) ?_
      intro i hi
      simp only [List.mem_singleton] at hi
      subst hi
      refine wpOp_run rfl (by kernel_rfl) (fun K' hK => ?_)
      have HK := Lib.hid hK
      clear hK
      go_simp
      go_wp2_with fail
      refine (GBn.out _).mono ?_
      rintro e w4 ⟨rfl, hg4⟩
      have G4 := Lib.hid (grown_trans G3.out hg4)
      have A4 := Lib.hid (A3.out.still hg4)
      have r2 := A4.out.range
      clear hg4 A3 G3 r1 GBn
      refine HK.out _ _ ⟨r2, ?_⟩
      clear HK
      refine wpAnyH_take (i := 4) (oi := { dst := some 21, op := .unOp .not 4 (.tmp 20), type := 4, pos := _, after := #[{ on := 3, ground := .data }], guard := none }) (v := .bool (!q)) rfl (by kernel_rfl) (by kernel_rfl) (by kernel_rfl) (fun _ _ _ h => h) (Or.inl ⟨by rfl, fun w _ => by go_simp⟩) r2 ?_
      simp only [Act.put, List.setIfInBounds_toArray, List.set_cons_zero, List.set_cons_succ]
      refine wpAnyH_done (by kernel_rfl) ?_ _
      clear r2
      cases q with
      | true =>
        have FK' : Hid (fewK k (n + 1) = fe) := Lib.hid (by rw [FK.out]; rfl)
        clear FK
        go_wp2_with fail
        go_roundw
        case rel => exact ⟨n + 1, by omega, by go_num, by rw [FK'.out], G4.out, A4.out⟩
        case measure => simp [intOf]; omega
      | false =>
        have FK' : Hid (fewK k (n + 1) = min fe pe) := Lib.hid (by rw [FK.out]; rfl)
        clear FK
        go_wp2_with fail
        refine (OC.out _).mono ?_
        rintro e w' ⟨rfl, rfl⟩
        go_wp2_with fail
        refine ⟨⟨n + 1, by omega, by go_num, ?_, G4.out, A4.out⟩, by simp [intOf]; omega⟩
        rw [FK'.out]
        refine congrArg _ ?_
        split <;> omega
    · obtain rfl : n = 256 := by omega
      rw [FA.out]
      have m4 : Sp.most k ≤ 4 := by unfold Sp.most; split <;> omega
      clear fl
      go_wp2_with fail
      go_ret
      exact ⟨ret_int (by omega), G.out⟩

set_option maxHeartbeats 4000000 in
set_option maxRecDepth 20000 in
theorem mostNo {k : Int} (h1 : k ≠ 1) (h2 : k ≠ 2) (w : World) : Calls Try.prog 43 #[.int .i64 k] w fun e w' => e = .returned (.int .i64 (-1)) ∧ w.grownBy w' none := by
  have GY := Lib.hid (fun w => genNone k w h1 h2)
  have GL : (List.replicate 32 (0 : Int)).length = 32 := rfl
  generalize List.replicate 32 (0 : Int) = l at *
  clear h1 h2
  go_enter Try.func43, Try.ntmps43
  go_wp2_with fail
  refine (GY.out _).mono ?_
  rintro e w1 ⟨rfl, hg⟩
  have hs := storeNew w1 GL
  have hv : (vals l).length = 32 := by rw [vals_length]; exact GL
  have G2 := Lib.hid (grown_alloc hg (.cells (vals l).toArray 76))
  clear hg GY GL
  go_wp2_with fail
  go_ret
  exact ⟨rfl, G2.out⟩
/-- what CodeMost answers. -/
def mostM (k : Int) : Int := if k = 1 then 3 else if k = 2 then 4 else -1
theorem mostM_yes {k : Nat} (hk : k = 1 ∨ k = 2) : mostM k = Sp.most k := by rcases hk with rfl | rfl <;> rfl
theorem mostM_no {k : Int} (h1 : k ≠ 1) (h2 : k ≠ 2) : mostM k = -1 := by simp [mostM, h1, h2]
theorem implMost (k : Int) (w : World) : Calls Try.prog 43 #[.int .i64 k] w fun e w' => e = .returned (.int .i64 (mostM k)) ∧ w.grownBy w' none := by
  rcases kind_cases k with ⟨n, rfl, hn⟩ | ⟨h1, h2⟩
  · rw [mostM_yes hn]; exact mostYes hn w
  · rw [mostM_no h1 h2]; exact mostNo h1 h2 w

end Go.Proofs.Ytbpkfcaokbidnab
