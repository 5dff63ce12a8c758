/-
  The contracts of the program's elimination of the rows that are there: which shards are enough.
  Conditions: none.
-/
import Derived.Test.YtbpkfcaokbidnabCodeGen3
import Derived.Test.YtbpkfcaokbidnabSpanTops
import Derived.Test.YtbpkfcaokbidnabFlags
namespace Go.Proofs.Ytbpkfcaokbidnab
open Go.RowKit
set_option linter.unusedVariables false

theorem idxG {k : Nat} (hk : k = 1 ∨ k = 2) : ∀ {n : Nat}, n < 8 → ∀ (W : World), (Instr.index 76 (.agg (vals (grid k)).toArray) (.int .i64 n)).run Try.prog W = .ok (.agg (vals (Sp.crow k n)).toArray) W := by
  intro n hn W
  rcases hk with rfl | rfl
  · rcases (by omega : n = 0 ∨ n = 1 ∨ n = 2 ∨ n = 3 ∨ n = 4 ∨ n = 5 ∨ n = 6 ∨ n = 7) with rfl | rfl | rfl | rfl | rfl | rfl | rfl | rfl <;> kernel_rfl
  · rcases (by omega : n = 0 ∨ n = 1 ∨ n = 2 ∨ n = 3 ∨ n = 4 ∨ n = 5 ∨ n = 6 ∨ n = 7) with rfl | rfl | rfl | rfl | rfl | rfl | rfl | rfl <;> kernel_rfl

theorem grown_below' {a w w' : World} {B : Nat} (h : a.grownBy w none) (hb : Below B w w') (hB : a.heap.size ≤ B) : a.grownBy w' none :=
  ⟨hb.os.trans h.os, hb.tape.trans h.tape, hb.output.trans h.output, Nat.le_trans h.size hb.size, fun i hi hr => (hb.block i (by omega)).trans (h.block i hi hr)⟩
/-- what the elimination of the rows that are there leaves. -/
def Reduced (k : Nat) (f : List Bool) (w : World) (e : Ending) (w' : World) : Prop :=
  w.grownBy w' none ∧ ∃ b g q S pv pn, e = .returned (.pointer (some ⟨g, 0, none⟩)) ∧ w.heap.size ≤ b ∧ Ech w' b g q S pv (pn.map fun (i : Nat) => (i : Int)) ∧ Sp.Stand (Sp.padd k f) 8 S pn

set_option maxHeartbeats 4000000 in
set_option maxRecDepth 20000 in
theorem genReduce {k : Nat} (hk : k = 1 ∨ k = 2) (f : List Bool) (hf : f.length = 8) (w : World) : Calls Try.prog 101 #[.agg (vals (grid k)).toArray, .agg (bvals f).toArray] w (Reduced k f w) := by
  have GL := grid_len k hk
  have IX := Lib.hid (fun (n : Nat) (h : n < 8) (W : World) => idxG hk h W)
  have z : (vals (grid k)).toArray.size = 32 := by simp [vals_length, GL]
  have hi : (Try.prog.info? 76).map (·.size) = some (vals (grid k)).toArray.size := by rw [z]; kernel_rfl
  have A0 : Hid (Arr (((w.alloc (.cells (vals (grid k)).toArray 76)).alloc (.cells (bvals f).toArray 80)).alloc (.cells #[.pointer none, .pointer none, .pointer none, .pointer none, .slice none 0 0] 150)) w.heap.size 76 (grid k)) := Lib.hid (((Arr.new w _ _).alloc _).alloc _)
  have F0 : Hid (BArr (((w.alloc (.cells (vals (grid k)).toArray 76)).alloc (.cells (bvals f).toArray 80)).alloc (.cells #[.pointer none, .pointer none, .pointer none, .pointer none, .slice none 0 0] 150)) (w.heap.size + 1) 80 f) := Lib.hid (by
    have := (BArr.new (w.alloc (.cells (vals (grid k)).toArray 76)) 80 f).alloc (.cells #[.pointer none, .pointer none, .pointer none, .pointer none, .slice none 0 0] 150)
    rw [World.size_alloc] at this
    exact this)
  have E0 : Hid (Ech (((w.alloc (.cells (vals (grid k)).toArray 76)).alloc (.cells (bvals f).toArray 80)).alloc (.cells #[.pointer none, .pointer none, .pointer none, .pointer none, .slice none 0 0] 150)) (w.heap.size + 2) (w.heap.size + 2) (fun _ => none) (fun _ => none) (.slice none 0 0) []) := Lib.hid (by
    have := heap_alloc_new ((w.alloc (.cells (vals (grid k)).toArray 76)).alloc (.cells (bvals f).toArray 80)) (.cells #[.pointer none, .pointer none, .pointer none, .pointer none, .slice none 0 0] 150)
    rw [World.size_alloc, World.size_alloc] at this
    exact ⟨Nat.le_refl _, this, fun j => .inl ⟨rfl, rfl⟩, fun i j b h => (by cases h), fun j _ => rfl, Own.none_ _ _⟩)
  have G0 : Hid (w.grownBy (((w.alloc (.cells (vals (grid k)).toArray 76)).alloc (.cells (bvals f).toArray 80)).alloc (.cells #[.pointer none, .pointer none, .pointer none, .pointer none, .slice none 0 0] 150)) none) := Lib.hid (grown_alloc (grown_alloc (grown_alloc (World.grownBy.refl _ _) _) _) _)
  have S0 : w.heap.size + 3 ≤ (((w.alloc (.cells (vals (grid k)).toArray 76)).alloc (.cells (bvals f).toArray 80)).alloc (.cells #[.pointer none, .pointer none, .pointer none, .pointer none, .slice none 0 0] 150)).heap.size := by simp
  go_enter Try.func101, Try.ntmps101
  go_upto_region 2 with fail
  generalize ((w.alloc (.cells (vals (grid k)).toArray 76)).alloc (.cells (bvals f).toArray 80)).alloc (.cells #[.pointer none, .pointer none, .pointer none, .pointer none, .slice none 0 0] 150) = W0 at *
  obtain ⟨a, ha⟩ : ∃ a, a = w.heap.size := ⟨_, rfl⟩
  obtain ⟨b, hb⟩ : ∃ b, b = w.heap.size + 1 := ⟨_, rfl⟩
  obtain ⟨g, hg⟩ : ∃ g, g = w.heap.size + 1 + 1 := ⟨_, rfl⟩
  rw [← hb] at F0
  rw [show w.heap.size + 2 = g from hg.symm] at E0
  rw [← hg, ← hb]
  have BG : w.heap.size ≤ g ∧ b < g ∧ g ≤ W0.heap.size := by omega
  rw [← ha] at A0 ⊢
  clear ha hb hg S0
  generalize hgr : grid k = l at *
  clear hgr
  apply wp_region_lit
  refine wpList_load_row rfl _ _ rfl a rfl _ _ _ _ A0.out Try.underlying76 rfl hi ?_
  clear z hi A0 GL
  go_wp2_with fail
  go_loopw [11] (fun i wr => ∃ n : Nat, n ≤ 8 ∧ i = .int .i64 n ∧ w.grownBy wr none ∧ g ≤ wr.heap.size ∧ BArr wr b 80 f ∧ ∃ q S pv pn, Ech wr g g q S pv (pn.map fun (i : Nat) => (i : Int)) ∧ Sp.Stand (Sp.padd k f) n S pn) (fun i _ => 8 - (intOf i).toNat)
  case atStart => exact ⟨0, by omega, rfl, G0.out, BG.2.2, F0.out, _, _, _, [], E0.out, Sp.Stand.start _⟩
  case round =>
    obtain ⟨n, hn, rfl, hgr, hsz, hfl, q, S, pv, pn, he, hst⟩ := hrel
    have G := Lib.hid hgr
    have F := Lib.hid hfl
    have E := Lib.hid he
    have ST := Lib.hid hst
    clear hgr hfl he hst E0 F0 G0
    by_cases hlt : n < 8
    · have hlt' : (n : Int) < 8 := by omega
      obtain ⟨x, y, z, t, hc, hok⟩ := crow_four hk hlt
      have ix0 := IX.out n hlt wr
      rw [hc] at ix0
      have ix : (Instr.index 76 (.agg (vals l).toArray) (.int .i64 n)).run Try.prog wr = .ok (.agg #[.int .i64 x, .int .i64 y, .int .i64 z, .int .i64 t]) wr := ix0
      clear ix0
      have HC := Lib.hid hc
      clear hc hok
      have fl : wr.cell? ⟨b, n, none⟩ = some (.bool (f.getD n false)) := F.out.cell (by omega)
      have FL := F.out.lt
      cases hfn : f.getD n false with
      | false =>
        rw [hfn] at fl
        have ST1 := Lib.hid (ST.out.none_ hk hlt hfn)
        clear hfn
        have G1 := Lib.hid (grown_alloc G.out (.cells (vals [x, y, z, t]).toArray 74))
        have F1 := Lib.hid (F.out.alloc (.cells (vals [x, y, z, t]).toArray 74))
        have E1 := Lib.hid (E.out.grown (World.grownBy_alloc wr (.cells (vals [x, y, z, t]).toArray 74) none))
        clear G F E ST
        go_wp2_with fail
        go_roundw
        case rel => exact ⟨n + 1, by omega, by go_num, G1.out, by simp; omega, F1.out, q, S, pv, pn, E1.out, ST1.out⟩
        case measure => simp [intOf]; omega
      | true =>
        rw [hfn] at fl
        have HV : Hid ((Sp.padd k f).getD n [] = [x, y, z, t]) := Lib.hid (by rw [Sp.padd_get hlt, hfn]; exact HC.out)
        clear hfn
        have G1 := Lib.hid (grown_alloc G.out (.cells (vals [x, y, z, t]).toArray 74))
        have F1 := Lib.hid (F.out.alloc (.cells (vals [x, y, z, t]).toArray 74))
        have E1 := Lib.hid (E.out.grown (World.grownBy_alloc wr (.cells (vals [x, y, z, t]).toArray 74) none))
        have sz : g ≤ (wr.alloc (.cells (vals [x, y, z, t]).toArray 74)).heap.size := by simp; omega
        have SZ := Lib.hid sz
        clear G F E sz
        go_wp2_with fail
        change Calls _ _ _ (wr.alloc (.cells (vals [x, y, z, t]).toArray 74)) _
        clear fl ix
        generalize wr.alloc (.cells (vals [x, y, z, t]).toArray 74) = w1 at *
        refine (echTake g g n q S pv pn (Sp.padd k f) x y z t _ E1.out SZ.out ST.out (Sp.padd_row hk f) (by rw [Sp.padd_len]; exact hlt) (by rw [Sp.padd_len]; exact Nat.le_refl _) HV.out).mono ?_
        rintro e w4 ⟨rfl, hbl, q', S', pv', pn', he, hst⟩
        have G4 := Lib.hid (grown_below' G1.out hbl BG.1)
        have F4 : Hid (BArr w4 b 80 f) := Lib.hid ((hbl.block b BG.2.1).trans F1.out)
        have E4 := Lib.hid he
        have ST4 := Lib.hid hst
        have Z4 := Nat.le_trans SZ.out hbl.size
        clear hbl he hst E1 G1 F1 SZ ST
        go_wp2_with fail
        go_roundw
        case rel => exact ⟨n + 1, by omega, by go_num, G4.out, Z4, F4.out, q', S', pv', pn', E4.out, ST4.out⟩
        case measure => simp [intOf]; omega
    · obtain rfl : n = 8 := by omega
      go_wp2_with fail
      go_ret
      exact ⟨G.out, g, g, q, S, pv, pn, rfl, BG.1, E.out, ST.out⟩

end Go.Proofs.Ytbpkfcaokbidnab
