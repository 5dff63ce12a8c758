/-
  The contracts of the rows of the codes, in the program: the powers of a number, the two tables of rows, the row of a shard.
  Conditions: none.
-/
import Derived.Test.YtbpkfcaokbidnabVec2
import Derived.Test.YtbpkfcaokbidnabCodeWork
import Derived.Deep.WholeRow
import Derived.Deep.MidRow
namespace Go.Proofs.Ytbpkfcaokbidnab
open Go.RowKit
set_option linter.unusedVariables false

set_option maxHeartbeats 2000000 in
set_option maxRecDepth 20000 in
theorem implPowers (x : Int) (w : World) (hx : Fld.ok x = true) :
    Calls Try.prog 124 #[.int .i64 x] w fun e w' => e = .returned (.agg #[.int .i64 1, .int .i64 (x % 31), .int .i64 (x % 31 * x % 31), .int .i64 (x % 31 * x % 31 * x % 31)]) ∧ w.grownBy w' none := by
  have ⟨x0, x1⟩ := Fld.ok_iff.1 hx
  have ⟨b0, b1⟩ := Fld.mul_le (Vec.mod_is x) hx
  have ⟨c0, c1⟩ := Fld.mul_le (Vec.mod_is (x % 31 * x)) hx
  have ⟨d0, d1⟩ := Fld.mul_le (Vec.mod_is (x % 31 * x % 31 * x)) hx
  have o : (1 : Int) * x = x := by omega
  clear hx
  go_enter Try.func124, Try.ntmps124
  go_wp2_with fail
  go_rounds 5
  refine bodyPost_ret (v := .agg #[.int .i64 1, .int .i64 (x % 31), .int .i64 (x % 31 * x % 31), .int .i64 (x % 31 * x % 31 * x % 31)]) (by simp [results, Try.results124, go_sem]) rfl ⟨rfl, ?_⟩
  repeat' first | exact World.grownBy.refl _ _ | refine grown_alloc ?_ _ | refine grown_set ?_ (by simp; try omega) _

theorem powOf (x : Int) (a b c : Int) (w : World) (hx : Fld.ok x = true) (ha : x % 31 = a) (hb : a * x % 31 = b) (hc : b * x % 31 = c) :
    Calls Try.prog 124 #[.int .i64 x] w fun e w' => e = .returned (.agg #[.int .i64 1, .int .i64 a, .int .i64 b, .int .i64 c]) ∧ w.grownBy w' none := by
  subst ha hb hc; exact implPowers x w hx

/-- the rows of all shards, one behind the other. -/
def grid (kind : Nat) : List Int := (List.range 8).flatMap (Sp.crow kind)
theorem zeros32 : List.replicate 32 (0 : Int) = [0, 0, 0, 0, 0, 0, 0, 0, 0, 0, 0, 0, 0, 0, 0, 0, 0, 0, 0, 0, 0, 0, 0, 0, 0, 0, 0, 0, 0, 0, 0, 0] := rfl
theorem Arr.row {w : World} {g : Nat} {t : TypeId} {l l' : List Int} (h : Arr w g t l) : Arr (w.setRow g (vals l').toArray) g t l' := setRow_heap w g _ _ t _ h
theorem grown_row {a w : World} {r : Option Nat} {g : Nat} {t : TypeId} {l : List Int} (h : a.grownBy w r) (ha : Arr w g t l) (hg : a.heap.size ≤ g) (cs : Array Value) : a.grownBy (w.setRow g cs) r := by
  refine ⟨h.os, h.tape, h.output, ?_, fun i hi hr => ?_⟩
  · have := h.size
    simpa [World.setRow] using this
  · rw [← h.block i hi hr]
    simp [World.setRow, Array.getElem?_modify, show g ≠ i by omega]

set_option maxHeartbeats 4000000 in
set_option maxRecDepth 20000 in
theorem implLocal (w : World) : Calls Try.prog 98 #[] w fun e w' => e = .returned (.agg (vals (grid 1)).toArray) ∧ w.grownBy w' none := by
  have A0 := Lib.hid (Arr.new w 76 (List.replicate 32 0))
  have G0 := Lib.hid (grown_alloc (World.grownBy.refl w none) (.cells (vals (List.replicate 32 0)).toArray 76))
  go_enter Try.func98, Try.ntmps98
  go_wp2_with fail
  change Calls _ _ _ (w.alloc (.cells (vals (List.replicate 32 0)).toArray 76)) _
  generalize w.alloc (.cells (vals (List.replicate 32 0)).toArray 76) = W0 at *
  obtain ⟨g, hg0⟩ : ∃ g, g = w.heap.size := ⟨_, rfl⟩
  rw [← hg0] at A0 ⊢
  have GE : w.heap.size ≤ g := by omega
  clear hg0
  refine (powOf 2 2 4 8 _ rfl rfl rfl rfl).mono ?_
  rintro e w1 ⟨rfl, hg⟩
  have A1 := Lib.hid (A0.out.still hg)
  have G1 := Lib.hid (grown_trans G0.out hg)
  clear A0 G0 hg
  go_wp2_with fail
  refine (powOf 3 3 9 27 _ rfl rfl rfl rfl).mono ?_
  rintro e w2 ⟨rfl, hg⟩
  have A2 := Lib.hid (A1.out.still hg)
  have G2 := Lib.hid (grown_trans G1.out hg)
  clear A1 G1 hg
  rename_i h2
  refine h2 _ _ ?_
  clear h2
  refine wpList_build rfl _ _ rfl (by kernel_rfl) ?_
  refine wpList_store_row rfl _ _ _ rfl g (vals (grid 1)).toArray rfl (by kernel_rfl) 76 _ A2.out (by kernel_rfl) (by kernel_rfl) (by kernel_rfl) ?_
  have A3 := Lib.hid (A2.out.row (l' := grid 1))
  have G3 := Lib.hid (grown_row G2.out A2.out GE (vals (grid 1)).toArray)
  clear A2 G2
  generalize w2.setRow g (vals (grid 1)).toArray = w3 at *
  go_wp2_with fail
  exact bodyPost_ret (v := .agg (vals (grid 1)).toArray) (results_cell_row Try.results98 _ _ g _ _ _ _ rfl A3.out Try.underlying76 rfl (by kernel_rfl)) rfl ⟨rfl, G3.out⟩
end Go.Proofs.Ytbpkfcaokbidnab
