/-
  The contracts of the rows of the codes, in the program: the tables by their kind, the row of a shard.
  Conditions: none.
-/
import Derived.Test.YtbpkfcaokbidnabCodeGen2
namespace Go.Proofs.Ytbpkfcaokbidnab
open Go.RowKit
set_option linter.unusedVariables false

theorem results_row_slot {P : Program} {fn : Func} {p q : Tmp} {ty : TypeId} (h : fn.results = #[.cell p ty, .tmp q]) (tmps : Array Value) (w : World) (g : Nat) (t : TypeId) (cs : Array Value) (fr : Nat × Nat) (d : TypeDesc) (v : Value)
    (hp : tmps.getD p undef = .pointer (some ⟨g, 0, none⟩)) (hq : tmps.getD q undef = v) (hg : w.heap[g]? = some (.cells cs t fr))
    (hu : P.underlying ty = some d) (hd : (match d with | .struct _ | .array _ _ => true | _ => false) = true) (hi : (P.info? ty).map (·.size) = some cs.size) :
    (results fn tmps).run P w = .ok (.tuple #[.agg cs, v]) w := by
  have hp' : tmps[p]?.getD undef = .pointer (some ⟨g, 0, none⟩) := by simpa using hp
  have hq' : tmps[q]?.getD undef = v := by simpa using hq
  simp [results, h, hp', hq', asAddr, run_loadVar_row w g t ty cs fr d hg hu hd hi]

set_option maxHeartbeats 4000000 in
set_option maxRecDepth 20000 in
theorem genLocal (w : World) : Calls Try.prog 56 #[.int .i64 1] w fun e w' => e = .returned (.tuple #[.agg (vals (grid 1)).toArray, .bool true]) ∧ w.grownBy w' none := by
  obtain ⟨l, hl⟩ : ∃ l, l = grid 1 := ⟨_, rfl⟩
  have IL := Lib.hid (fun w => implLocal w)
  rw [← hl] at IL ⊢
  have z : (vals l).toArray.size = 32 := by rw [hl]; decide +kernel
  clear hl
  have hi : (Try.prog.info? 76).map (·.size) = some (vals l).toArray.size := by rw [z]; kernel_rfl
  have A0 := Lib.hid (Arr.new w 76 (List.replicate 32 0))
  have G0 := Lib.hid (grown_alloc (World.grownBy.refl w none) (.cells (vals (List.replicate 32 0)).toArray 76))
  go_enter Try.func56, Try.ntmps56
  go_wp2_with fail
  change Calls _ _ _ (w.alloc (.cells (vals (List.replicate 32 0)).toArray 76)) _
  generalize w.alloc (.cells (vals (List.replicate 32 0)).toArray 76) = W0 at *
  obtain ⟨g, hg0⟩ : ∃ g, g = w.heap.size := ⟨_, rfl⟩
  rw [← hg0] at A0 ⊢
  have GE : w.heap.size ≤ g := by omega
  clear hg0
  refine (IL.out _).mono ?_
  rintro e w1 ⟨rfl, hg⟩
  have A1 := Lib.hid (A0.out.still hg)
  have G1 := Lib.hid (grown_trans G0.out hg)
  clear A0 G0 hg
  rename_i h2
  refine h2 _ _ ?_
  clear h2
  refine wpList_store_row rfl _ _ _ rfl g (vals l).toArray rfl rfl _ _ A1.out hi (by rw [z]; kernel_rfl) (all_oneCell_toArray (vals_one l)) ?_
  have A3 := Lib.hid (A1.out.row (l' := l))
  have G3 := Lib.hid (grown_row G1.out A1.out GE (vals l).toArray)
  clear A1 G1 z
  generalize w1.setRow g (vals l).toArray = w3 at *
  go_wp2_with fail
  refine bodyPost_ret (v := .tuple #[.agg (vals l).toArray, .bool true]) ?_ rfl ⟨rfl, G3.out⟩
  exact results_row_slot Try.results56 _ _ g _ _ _ _ _ rfl rfl A3.out Try.underlying76 rfl hi

set_option maxHeartbeats 4000000 in
set_option maxRecDepth 20000 in
theorem genWide (w : World) : Calls Try.prog 56 #[.int .i64 2] w fun e w' => e = .returned (.tuple #[.agg (vals (grid 2)).toArray, .bool true]) ∧ w.grownBy w' none := by
  obtain ⟨l, hl⟩ : ∃ l, l = grid 2 := ⟨_, rfl⟩
  have IL := Lib.hid (fun w => implWide w)
  rw [← hl] at IL ⊢
  have z : (vals l).toArray.size = 32 := by rw [hl]; decide +kernel
  clear hl
  have hi : (Try.prog.info? 76).map (·.size) = some (vals l).toArray.size := by rw [z]; kernel_rfl
  have A0 := Lib.hid (Arr.new w 76 (List.replicate 32 0))
  have G0 := Lib.hid (grown_alloc (World.grownBy.refl w none) (.cells (vals (List.replicate 32 0)).toArray 76))
  go_enter Try.func56, Try.ntmps56
  go_wp2_with fail
  change Calls _ _ _ (w.alloc (.cells (vals (List.replicate 32 0)).toArray 76)) _
  generalize w.alloc (.cells (vals (List.replicate 32 0)).toArray 76) = W0 at *
  obtain ⟨g, hg0⟩ : ∃ g, g = w.heap.size := ⟨_, rfl⟩
  rw [← hg0] at A0 ⊢
  have GE : w.heap.size ≤ g := by omega
  clear hg0
  refine (IL.out _).mono ?_
  rintro e w1 ⟨rfl, hg⟩
  have A1 := Lib.hid (A0.out.still hg)
  have G1 := Lib.hid (grown_trans G0.out hg)
  clear A0 G0 hg
  rename_i h2
  refine h2 _ _ ?_
  clear h2
  refine wpList_store_row rfl _ _ _ rfl g (vals l).toArray rfl rfl _ _ A1.out hi (by rw [z]; kernel_rfl) (all_oneCell_toArray (vals_one l)) ?_
  have A3 := Lib.hid (A1.out.row (l' := l))
  have G3 := Lib.hid (grown_row G1.out A1.out GE (vals l).toArray)
  clear A1 G1 z
  generalize w1.setRow g (vals l).toArray = w3 at *
  go_wp2_with fail
  refine bodyPost_ret (v := .tuple #[.agg (vals l).toArray, .bool true]) ?_ rfl ⟨rfl, G3.out⟩
  exact results_row_slot Try.results56 _ _ g _ _ _ _ _ rfl rfl A3.out Try.underlying76 rfl hi

set_option maxHeartbeats 4000000 in
set_option maxRecDepth 20000 in
theorem genNone (kind : Int) (w : World) (h1 : kind ≠ 1) (h2 : kind ≠ 2) : Calls Try.prog 56 #[.int .i64 kind] w fun e w' => e = .returned (.tuple #[.agg (vals (List.replicate 32 0)).toArray, .bool false]) ∧ w.grownBy w' none := by
  obtain ⟨l, hl⟩ : ∃ l : List Int, l = List.replicate 32 0 := ⟨_, rfl⟩
  have z : (vals l).toArray.size = 32 := by rw [hl]; decide +kernel
  have hi : (Try.prog.info? 76).map (·.size) = some (vals l).toArray.size := by rw [z]; kernel_rfl
  have A0 := Lib.hid (Arr.new w 76 (List.replicate 32 0))
  have G0 := Lib.hid (grown_alloc (World.grownBy.refl w none) (.cells (vals (List.replicate 32 0)).toArray 76))
  go_enter Try.func56, Try.ntmps56
  go_upto_region 6 with fail
  change Code.wp _ _ _ _ (w.alloc (.cells (vals (List.replicate 32 0)).toArray 76))
  generalize w.alloc (.cells (vals (List.replicate 32 0)).toArray 76) = W0 at *
  obtain ⟨g, hg0⟩ : ∃ g, g = w.heap.size := ⟨_, rfl⟩
  rw [← hg0] at A0 ⊢
  have GE : w.heap.size ≤ g := by omega
  clear hg0
  apply wp_region_lit
  refine wpList_build rfl _ _ rfl (by kernel_rfl) ?_
  refine wpList_store_row rfl _ _ _ rfl g (vals (List.replicate 32 0)).toArray rfl (by kernel_rfl) _ _ A0.out (by kernel_rfl) (by kernel_rfl) (by kernel_rfl) ?_
  have A3 := Lib.hid (A0.out.row (l' := l))
  have G3 := Lib.hid (grown_row G0.out A0.out GE (vals l).toArray)
  rw [hl] at A3 G3 hi
  clear A0 G0 z hl
  generalize W0.setRow g (vals (List.replicate 32 0)).toArray = w3 at *
  go_wp2_with fail
  refine bodyPost_ret (v := .tuple #[.agg (vals (List.replicate 32 0)).toArray, .bool false]) ?_ rfl ⟨rfl, G3.out⟩
  exact results_row_slot Try.results56 _ _ g _ _ _ _ _ rfl rfl A3.out Try.underlying76 rfl hi
theorem storeNew (w : World) {l : List Int} (hl : l.length = 32) : (storeCells ⟨w.heap.size, 0, none⟩ (vals l) 0).run Try.prog (w.alloc (.cells #[.int .i64 0, .int .i64 0, .int .i64 0, .int .i64 0, .int .i64 0, .int .i64 0, .int .i64 0, .int .i64 0, .int .i64 0, .int .i64 0, .int .i64 0, .int .i64 0, .int .i64 0, .int .i64 0, .int .i64 0, .int .i64 0, .int .i64 0, .int .i64 0, .int .i64 0, .int .i64 0, .int .i64 0, .int .i64 0, .int .i64 0, .int .i64 0, .int .i64 0, .int .i64 0, .int .i64 0, .int .i64 0, .int .i64 0, .int .i64 0, .int .i64 0, .int .i64 0] 76)) = .ok () (w.alloc (.cells (vals l).toArray 76)) := by
  have h := run_storeCells_from (P := Try.prog) w.heap.size 76 (vals l) 0 _ (w.alloc (.cells #[.int .i64 0, .int .i64 0, .int .i64 0, .int .i64 0, .int .i64 0, .int .i64 0, .int .i64 0, .int .i64 0, .int .i64 0, .int .i64 0, .int .i64 0, .int .i64 0, .int .i64 0, .int .i64 0, .int .i64 0, .int .i64 0, .int .i64 0, .int .i64 0, .int .i64 0, .int .i64 0, .int .i64 0, .int .i64 0, .int .i64 0, .int .i64 0, .int .i64 0, .int .i64 0, .int .i64 0, .int .i64 0, .int .i64 0, .int .i64 0, .int .i64 0, .int .i64 0] 76)) (heap_alloc_last w _) (by rw [vals_length, hl]; rfl) (vals_one l)
  rw [h, World.setRow_alloc_new]
  rfl
theorem grid_len : ∀ k : Nat, k = 1 ∨ k = 2 → (grid k).length = 32 := by
  rintro k (rfl | rfl) <;> decide +kernel
theorem grid_get {k : Nat} (hk : k = 1 ∨ k = 2) : ∀ {n : Nat}, n < 8 → ∀ {i : Nat}, i < 4 → (grid k).getD (n * 4 + i) 0 = (Sp.crow k n).getD i 0 := by
  have h1 : ∀ n : Nat, n < 8 → ∀ i : Nat, i < 4 → (grid 1).getD (n * 4 + i) 0 = (Sp.crow 1 n).getD i 0 := by decide +kernel
  have h2 : ∀ n : Nat, n < 8 → ∀ i : Nat, i < 4 → (grid 2).getD (n * 4 + i) 0 = (Sp.crow 2 n).getD i 0 := by decide +kernel
  intro n hn i hi
  rcases hk with rfl | rfl
  · exact h1 n hn i hi
  · exact h2 n hn i hi
theorem crow_four {k n : Nat} (hk : k = 1 ∨ k = 2) (hn : n < 8) : ∃ a b c d, Sp.crow k n = [a, b, c, d] ∧ Vec.ok [a, b, c, d] = true := by
  have h := Sp.crow_row hk hn
  obtain ⟨x, y, z, t, e, _⟩ := Vec.ok_four (Sp.row_ok.2 h)
  exact ⟨x, y, z, t, e, by rw [← e]; exact Sp.row_ok.2 h⟩
/-- the table of a kind. -/
theorem genYes {k : Nat} (hk : k = 1 ∨ k = 2) (w : World) : Calls Try.prog 56 #[.int .i64 k] w fun e w' => e = .returned (.tuple #[.agg (vals (grid k)).toArray, .bool true]) ∧ w.grownBy w' none := by
  rcases hk with rfl | rfl
  · exact genLocal w
  · exact genWide w

theorem shardIn (n : Int) (h0 : 0 ≤ n) (h1 : n < 8) (w : World) : Calls Try.prog 79 #[.int .i64 n] w fun e w' => e = .returned (.bool true) ∧ w = w' := by
  go_enter Try.func79, Try.ntmps79
  go_wp2_with fail
  go_ret
  exact ⟨rfl, rfl⟩

theorem shardOut (n : Int) (h : n < 0 ∨ 8 ≤ n) (w : World) : Calls Try.prog 79 #[.int .i64 n] w fun e w' => e = .returned (.bool false) ∧ w = w' := by
  rcases h with h | h
  · have h0 : ¬ (0 ≤ n) := by omega
    go_enter Try.func79, Try.ntmps79
    go_wp2_with fail
    go_ret
    exact ⟨rfl, rfl⟩
  · have h0 : 0 ≤ n := by omega
    have h8 : ¬ (n < 8) := by omega
    go_enter Try.func79, Try.ntmps79
    go_wp2_with fail
    go_ret
    exact ⟨rfl, rfl⟩

set_option maxHeartbeats 4000000 in
set_option maxRecDepth 20000 in
theorem codeRowYes {k n : Nat} (hk : k = 1 ∨ k = 2) (hn : n < 8) (w : World) : Calls Try.prog 32 #[.int .i64 k, .int .i64 n] w (NewInts2 (Sp.crow k n) true w) := by
  obtain ⟨a, b, c, d, ec, _⟩ := crow_four hk hn
  have C0 := Lib.hid (grid_get hk hn (i := 0) (by omega))
  have C1 := Lib.hid (grid_get hk hn (i := 1) (by omega))
  have C2 := Lib.hid (grid_get hk hn (i := 2) (by omega))
  have C3 := Lib.hid (grid_get hk hn (i := 3) (by omega))
  rw [ec] at C0 C1 C2 C3 ⊢
  have GY := Lib.hid (fun w => genYes hk w)
  have GL := grid_len k hk
  generalize grid k = l at *
  have hn' : (n : Int) < 8 := by omega
  clear ec
  go_enter Try.func32, Try.ntmps32
  go_wp2_with fail
  refine (GY.out _).mono ?_
  rintro e w1 ⟨rfl, hg⟩
  have G1 := Lib.hid hg
  clear hg GY
  have hs := storeNew w1 GL
  have hv : (vals l).length = 32 := by rw [vals_length]; exact GL
  have A := Lib.hid (Arr.new w1 76 l)
  have c0 : (w1.alloc (.cells (vals l).toArray 76)).cell? ⟨w1.heap.size, n * 4, none⟩ = some (.int .i64 a) := by have := A.out.cell (i := n * 4) (by omega); rw [this]; have := C0.out; rw [Nat.add_zero] at this; rw [this]; rfl
  have c1 : (w1.alloc (.cells (vals l).toArray 76)).cell? ⟨w1.heap.size, n * 4 + 1, none⟩ = some (.int .i64 b) := by have := A.out.cell (i := n * 4 + 1) (by omega); rw [this, C1.out]; rfl
  have c2 : (w1.alloc (.cells (vals l).toArray 76)).cell? ⟨w1.heap.size, n * 4 + 2, none⟩ = some (.int .i64 c) := by have := A.out.cell (i := n * 4 + 2) (by omega); rw [this, C2.out]; rfl
  have c3 : (w1.alloc (.cells (vals l).toArray 76)).cell? ⟨w1.heap.size, n * 4 + 3, none⟩ = some (.int .i64 d) := by have := A.out.cell (i := n * 4 + 3) (by omega); rw [this, C3.out]; rfl
  clear GL C0 C1 C2 C3 A
  go_wp2_with fail
  refine (shardIn (n : Int) (by omega) hn' _).mono ?_
  rintro e w' ⟨rfl, rfl⟩
  go_wp2_with fail
  clear hs hv c0 c1 c2 c3
  have G2 := Lib.hid (grown_alloc G1.out (.cells (vals l).toArray 76))
  clear G1
  generalize w1.alloc (.cells (vals l).toArray 76) = w2 at *
  refine (rowInts a b c d _).mono ?_
  rintro e w3 ⟨v, rfl, hg, ho⟩
  have G3 := Lib.hid hg
  have O := Lib.hid ho
  clear hg ho
  go_wp2_with fail
  go_ret2
  exact new2_after G2.out G3.out O.out

set_option maxHeartbeats 4000000 in
set_option maxRecDepth 20000 in
theorem codeRowOut {k : Nat} (hk : k = 1 ∨ k = 2) {n : Int} (hn : n < 0 ∨ 8 ≤ n) (w : World) : Calls Try.prog 32 #[.int .i64 k, .int .i64 n] w (NewInts2 [] false w) := by
  have GY := Lib.hid (fun w => genYes hk w)
  have GL := grid_len k hk
  generalize grid k = l at *
  go_enter Try.func32, Try.ntmps32
  go_wp2_with fail
  refine (GY.out _).mono ?_
  rintro e w1 ⟨rfl, hg⟩
  have G1 := Lib.hid hg
  clear hg GY
  have hs := storeNew w1 GL
  have hv : (vals l).length = 32 := by rw [vals_length]; exact GL
  have G2 := Lib.hid (grown_alloc G1.out (.cells (vals l).toArray 76))
  clear GL G1
  go_wp2_with fail
  refine (shardOut n hn _).mono ?_
  rintro e w' ⟨rfl, rfl⟩
  go_wp2_with fail
  go_ret2
  exact ⟨_, rfl, G2.out, Own.none_ _ _⟩

set_option maxHeartbeats 4000000 in
set_option maxRecDepth 20000 in
theorem codeRowNo {k : Int} (h1 : k ≠ 1) (h2 : k ≠ 2) (n : Int) (w : World) : Calls Try.prog 32 #[.int .i64 k, .int .i64 n] w (NewInts2 [] false w) := by
  have GY := Lib.hid (fun w => genNone k w h1 h2)
  have GL : (List.replicate 32 (0 : Int)).length = 32 := rfl
  generalize List.replicate 32 (0 : Int) = l at *
  clear h1 h2
  go_enter Try.func32, Try.ntmps32
  go_wp2_with fail
  refine (GY.out _).mono ?_
  rintro e w1 ⟨rfl, hg⟩
  have G1 := Lib.hid hg
  clear hg GY
  have hs := storeNew w1 GL
  have hv : (vals l).length = 32 := by rw [vals_length]; exact GL
  have G2 := Lib.hid (grown_alloc G1.out (.cells (vals l).toArray 76))
  clear GL G1
  go_wp2_with fail
  go_ret2
  exact ⟨_, rfl, G2.out, Own.none_ _ _⟩
end Go.Proofs.Ytbpkfcaokbidnab
