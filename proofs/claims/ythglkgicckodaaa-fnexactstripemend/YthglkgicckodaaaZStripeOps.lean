/-
  What this claim wants of the texts of earlier chapters.
  Conditions: none.
-/
import Derived.Test.YthglkgicckodaaaZStripeOf
import Derived.Test.YthglkgicckodaaaZReadSpec3
namespace Go.Proofs.Ythglkgicckodaaa
open Go.RowKit Go.Shelf
set_option linter.unusedVariables false
set_option linter.unusedSimpArgs false
theorem infoShA {L : List Int} (h : L.length = 8) : (Try.prog.info? 89).map (·.size) = some (vals L).toArray.size := infoSh h
theorem eqNilI (b o n c : Nat) (w : World) : (binOp .eql 23 (.slice (some ⟨b, o, none⟩) n c) (.slice none 0 0)).run Try.prog w = .ok (.bool false) w := by kernel_rfl
theorem eqNilB (b o n c : Nat) (w : World) : (binOp .eql 41 (.slice (some ⟨b, o, none⟩) n c) (.slice none 0 0)).run Try.prog w = .ok (.bool false) w := by kernel_rfl
theorem rds_news {w : World} {b o : Nat} {l : List Int} (h : Rds w (some ⟨b, o, none⟩) l) : ∀ j u, (vals l)[j]? = some u → w.cell? ((⟨b, o, none⟩ : Addr).add j) = some u := by
  intro j u hj
  have hl : j < l.length := by have := (List.getElem?_eq_some_iff.1 hj).1; rwa [vals_length] at this
  obtain ⟨b', o', e, hc⟩ := h.at_ hl
  injection e with e
  injection e with e1 e2
  subst e1 e2
  rw [vals_get l j hl] at hj
  injection hj with hj
  subst hj
  rw [Addr.add_lit]; exact hc
set_option maxHeartbeats 4000000 in
set_option maxRecDepth 20000 in
theorem cloneI (u : Value) (l : List Int) (w : World) (h : Sl w u l) (hl : l.length = 8) : Calls Try.prog 89 #[u] w (NewInts l w) := by
  obtain ⟨i0, hi, hz0, hz1, hz2⟩ := info_parts infoInt
  have I1 := Lib.hid hi
  have I2 := Lib.hid hz0
  have I3 := Lib.hid hz1
  have I4 := Lib.hid hz2
  clear hi hz0 hz1 hz2
  obtain ⟨a1, c1, rfl, q1, q2, hr⟩ := h
  obtain ⟨b, o, rfl, _⟩ := hr.at_ (k := 0) (by omega)
  have R0 := Lib.hid (rds_news (hr.grown (World.grownBy_alloc w (.cells #[] 3) none)))
  have fl : (vals l).length = 8 * 1 := by rw [vals_length, hl]
  have L8 := Lib.hid hl
  rw [hl] at q1 ⊢
  unfold maxLen at q2
  have O0 : Hid (Own (w.alloc (.cells #[] 3)) w.heap.size (.slice (some ⟨w.heap.size, 0, none⟩) 0 0) []) := Lib.hid ((Arr.new w 3 []).own rfl _ (Nat.le_refl _) (by simp [maxLen]))
  clear hr hl
  have en := eqNilI b o 8 c1 w
  go_enter Try.func89, Try.ntmps89
  go_wp2_with (first
    | (at_builtin; refine wpList_append_own _ rfl _ _ 23 rfl w.heap.size 3 i0 (.int .i64 0) 1 8 Try.underlying23 I1.out I2.out I3.out I4.out rfl (by decide) _ _ _ rfl O0.out ⟨b, o, none⟩ 8 c1 (vals l) rfl fl R0.out (vals_one l) ?c3 ?c4 ?c5 ?_))
  case c3 => simp [maxLen]
  case c4 => simp
  case c5 => simp
  intro x W4 ho hg _
  have G4 : Hid (w.grownBy W4 none) := Lib.hid (grown_own (grown_alloc (World.grownBy.refl _ _) _) hg (fun j hj => (World.ownsRow.lt O0.out j hj).1))
  have O4 : Hid (Own W4 w.heap.size x l) := Lib.hid (by
    unfold Own
    rw [L8.out]
    simpa [vals] using ho)
  clear ho hg O0 R0 fl en
  go_wp2_with fail
  go_ret
  exact ⟨x, rfl, G4.out, O4.out⟩
set_option maxHeartbeats 4000000 in
set_option maxRecDepth 20000 in
theorem cloneB (u : Value) (l : List Bool) (w : World) (h : Bl w u l) (hl : l.length = 8) : Calls Try.prog 90 #[u] w (NewBools l w) := by
  obtain ⟨i0, hi, hz0, hz1, hz2⟩ := info_parts infoBool
  have I1 := Lib.hid hi
  have I2 := Lib.hid hz0
  have I3 := Lib.hid hz1
  have I4 := Lib.hid hz2
  clear hi hz0 hz1 hz2
  obtain ⟨a1, c1, rfl, q1, q2, hr⟩ := h
  obtain ⟨b, o, rfl, _⟩ := hr.at_ (k := 0) (by omega)
  have R0 := Lib.hid (brds_news (hr.grown (World.grownBy_alloc w (.cells #[] 4) none)))
  have fl : (bvals l).length = 8 * 1 := by rw [bvals_length, hl]
  have L8 := Lib.hid hl
  rw [hl] at q1 ⊢
  unfold maxLen at q2
  have O0 : Hid (BOwn (w.alloc (.cells #[] 4)) w.heap.size (.slice (some ⟨w.heap.size, 0, none⟩) 0 0) []) := Lib.hid ((BArr.new w 4 []).own rfl _ (Nat.le_refl _) (by simp [maxLen]))
  clear hr hl
  have en := eqNilB b o 8 c1 w
  go_enter Try.func90, Try.ntmps90
  go_wp2_with (first
    | (at_builtin; refine wpList_append_own _ rfl _ _ 41 rfl w.heap.size 4 i0 (.bool false) 1 1 Try.underlying41 I1.out I2.out I3.out I4.out rfl (by decide) _ _ _ rfl O0.out ⟨b, o, none⟩ 8 c1 (bvals l) rfl fl R0.out (bvals_one l) ?c3 ?c4 ?c5 ?_))
  case c3 => simp [maxLen]
  case c4 => simp
  case c5 => simp
  intro x W4 ho hg _
  have G4 : Hid (w.grownBy W4 none) := Lib.hid (grown_own (grown_alloc (World.grownBy.refl _ _) _) hg (fun j hj => (World.ownsRow.lt O0.out j hj).1))
  have O4 : Hid (BOwn W4 w.heap.size x l) := Lib.hid (by
    unfold BOwn
    rw [L8.out]
    simpa [bvals] using ho)
  clear ho hg O0 R0 fl en
  go_wp2_with fail
  go_ret
  exact ⟨x, rfl, G4.out, O4.out⟩
set_option maxHeartbeats 4000000 in
set_option maxRecDepth 20000 in
theorem shardInts (l : List Int) (hl : l.length = 8) (w : World) : Calls Try.prog 87 #[.agg (vals l).toArray] w (NewInts l w) := by
  have IX : Hid (∀ (n : Nat) (h : n < 8) (W : World), (Instr.index 89 (.agg (vals l).toArray) (.int .i64 n)).run Try.prog W = .ok (.int .i64 (l.getD n 0)) W) := Lib.hid (by
    obtain ⟨b0, b1, b2, b3, b4, b5, b6, b7, rfl⟩ := list_eight hl
    exact fun n h W => idxS b0 b1 b2 b3 b4 b5 b6 b7 h W)
  obtain ⟨i0, hi, hz0, hz1, hz2⟩ := info_parts infoInt
  have I1 := Lib.hid hi
  have I2 := Lib.hid hz0
  have I3 := Lib.hid hz1
  have I4 := Lib.hid hz2
  clear hi hz0 hz1 hz2
  have A0 := Lib.hid (Arr.new w 89 l)
  have G0 := Lib.hid (World.grownBy_alloc w (.cells (vals l).toArray 89) none)
  have Z0 := World.size_alloc w (.cells (vals l).toArray 89)
  have HS := Lib.hid (infoShA hl)
  have L8 := Lib.hid hl
  clear hl
  go_enter Try.func87, Try.ntmps87
  go_upto_region 1 with fail
  generalize w.alloc (.cells (vals l).toArray 89) = W0 at *
  have LZ : w.heap.size ≤ W0.heap.size := by omega
  obtain ⟨g, hg⟩ : ∃ g, g = w.heap.size := ⟨_, rfl⟩
  rw [← hg] at A0 ⊢
  clear Z0 hg
  go_upto_region 2 with (at_make; refine wpList_make_full _ rfl _ _ 23 rfl W0.heap.size 3 i0 (.int .i64 0) 1 Try.underlying23 I1.out I2.out I3.out _ _ _ _ 8 rfl rfl rfl rfl ?b1 ?b2 ?b3 ?_)
  case b1 => rw [I4.out]; omega
  case b2 => unfold maxLen; omega
  case b3 => exact Nat.le_refl _
  intro w1 ho hg1
  have C0 : Hid (Copied W0 l W0.heap.size 0 w1) := Lib.hid (by
    refine ⟨Nat.zero_le _, hg1, Nat.le_refl _, own_len (n := l.length) ?_ (part_length l 0 (Nat.zero_le _))⟩
    rw [part_none]
    rw [L8.out]
    simpa using ho)
  have A1 := Lib.hid (A0.out.still hg1)
  clear ho hg1 A0
  go_upto_region 2 with fail
  apply wp_region_lit
  refine wpList_load_row rfl _ _ rfl g rfl _ _ _ _ A1.out Try.underlying89 rfl HS.out ?_
  simp only [Act.put, List.setIfInBounds_toArray, List.set_cons_succ, List.set_cons_zero]
  obtain ⟨fv, hfv⟩ : ∃ x, (vals l).toArray = x := ⟨_, rfl⟩
  rw [hfv] at IX ⊢
  clear hfv
  go_wp2_with fail
  go_loopw [8] (fun i wr => ∃ k : Nat, i = .int .i64 k ∧ Copied W0 l W0.heap.size k wr) (fun i _ => 8 - (intOf i).toNat)
  case atStart => exact ⟨0, rfl, C0.out⟩
  case round =>
    obtain ⟨k, rfl, hc⟩ := hrel
    have hk := hc.1
    have C := Lib.hid hc
    rw [L8.out] at hk
    clear hc
    by_cases hlt : k < 8
    · have hlt' : (k : Int) < 8 := by omega
      have ix := IX.out k hlt wr
      obtain ⟨hx, hf⟩ := C.out.cell (by rw [L8.out]; exact hlt)
      obtain ⟨x, hxe⟩ : ∃ x, l.getD k 0 = x := ⟨_, rfl⟩
      rw [hxe] at ix
      have E := Lib.hid hxe
      clear hxe
      go_wp2_with fail
      go_roundw
      case rel => exact ⟨k + 1, by go_num, by rw [← E.out]; exact C.out.next (by rw [L8.out]; exact hlt)⟩
      case measure => simp [intOf]; omega
    · obtain rfl : k = 8 := by omega
      go_wp2_with fail
      go_ret
      have h1 := C.out.2.2.2
      have h2 : part l 8 = l := by have := part_all l; rwa [L8.out] at this
      rw [h2, L8.out] at h1
      exact ⟨_, rfl, grown_trans G0.out C.out.2.1, h1.lower LZ⟩
set_option maxHeartbeats 4000000 in
set_option maxRecDepth 20000 in
theorem stPut {k : Int} {L a v : List Int} {F : List Bool} (hl : SLen L a v F) {n : Nat} (hn : n < 8) (y x : Int) (w : World) : Calls Try.prog 88 #[.agg (stv k L a v F).toArray, .int .i64 n, .int .i64 y, .int .i64 x] w fun e w' => e = .returned (.agg (stv k L (a.set n y) (v.set n x) (F.set n true)).toArray) ∧ w.grownBy w' none := by
  have hn' : (n : Int) < 8 := by omega
  have HS := Lib.hid (infoSt (k := k) ((hl.setA n y).setV n x |>.setF n true))
  have HZ : Hid (∀ k L a v F, SLen L a v F → (stv k L a v F).toArray.size = 57) := Lib.hid (fun k L a v F h => stv_size h)
  have HL := Lib.hid hl
  have S0 := Lib.hid ((SB.new w k L a v F).alloc (.cells #[.int .i64 0, .int .i64 0, .int .i64 0, .int .i64 0, .int .i64 0, .int .i64 0, .int .i64 0, .int .i64 0, .int .i64 0, .int .i64 0, .int .i64 0, .int .i64 0, .int .i64 0, .int .i64 0, .int .i64 0, .int .i64 0, .int .i64 0, .int .i64 0, .int .i64 0, .int .i64 0, .int .i64 0, .int .i64 0, .int .i64 0, .int .i64 0, .int .i64 0, .int .i64 0, .int .i64 0, .int .i64 0, .int .i64 0, .int .i64 0, .int .i64 0, .int .i64 0, .int .i64 0, .int .i64 0, .int .i64 0, .int .i64 0, .int .i64 0, .int .i64 0, .int .i64 0, .int .i64 0, .int .i64 0, .int .i64 0, .int .i64 0, .int .i64 0, .int .i64 0, .int .i64 0, .int .i64 0, .int .i64 0, .int .i64 0, .bool false, .bool false, .bool false, .bool false, .bool false, .bool false, .bool false, .bool false] 94))
  have Z0 := Lib.hid (SZ.new (w.alloc (.cells (stv k L a v F).toArray 94)))
  have G0 := Lib.hid (grown_alloc (World.grownBy_alloc w (.cells (stv k L a v F).toArray 94) none) (.cells #[.int .i64 0, .int .i64 0, .int .i64 0, .int .i64 0, .int .i64 0, .int .i64 0, .int .i64 0, .int .i64 0, .int .i64 0, .int .i64 0, .int .i64 0, .int .i64 0, .int .i64 0, .int .i64 0, .int .i64 0, .int .i64 0, .int .i64 0, .int .i64 0, .int .i64 0, .int .i64 0, .int .i64 0, .int .i64 0, .int .i64 0, .int .i64 0, .int .i64 0, .int .i64 0, .int .i64 0, .int .i64 0, .int .i64 0, .int .i64 0, .int .i64 0, .int .i64 0, .int .i64 0, .int .i64 0, .int .i64 0, .int .i64 0, .int .i64 0, .int .i64 0, .int .i64 0, .int .i64 0, .int .i64 0, .int .i64 0, .int .i64 0, .int .i64 0, .int .i64 0, .int .i64 0, .int .i64 0, .int .i64 0, .int .i64 0, .bool false, .bool false, .bool false, .bool false, .bool false, .bool false, .bool false, .bool false] 94))
  clear hl
  go_enter Try.func88, Try.ntmps88
  go_upto_region 1 with fail
  rw [World.size_alloc] at Z0
  generalize (w.alloc (.cells (stv k L a v F).toArray 94)).alloc (.cells #[.int .i64 0, .int .i64 0, .int .i64 0, .int .i64 0, .int .i64 0, .int .i64 0, .int .i64 0, .int .i64 0, .int .i64 0, .int .i64 0, .int .i64 0, .int .i64 0, .int .i64 0, .int .i64 0, .int .i64 0, .int .i64 0, .int .i64 0, .int .i64 0, .int .i64 0, .int .i64 0, .int .i64 0, .int .i64 0, .int .i64 0, .int .i64 0, .int .i64 0, .int .i64 0, .int .i64 0, .int .i64 0, .int .i64 0, .int .i64 0, .int .i64 0, .int .i64 0, .int .i64 0, .int .i64 0, .int .i64 0, .int .i64 0, .int .i64 0, .int .i64 0, .int .i64 0, .int .i64 0, .int .i64 0, .int .i64 0, .int .i64 0, .int .i64 0, .int .i64 0, .int .i64 0, .int .i64 0, .int .i64 0, .int .i64 0, .bool false, .bool false, .bool false, .bool false, .bool false, .bool false, .bool false, .bool false] 94) = W0 at *
  obtain ⟨g, hg⟩ : ∃ g, g = w.heap.size := ⟨_, rfl⟩
  obtain ⟨gz, hgz⟩ : ∃ g, g = w.heap.size + 1 := ⟨_, rfl⟩
  rw [← hg] at S0
  rw [← hgz] at Z0
  rw [← hgz, ← hg]
  have LG : w.heap.size ≤ g := by omega
  have LZ : w.heap.size ≤ gz := by omega
  have NE : g ≠ gz := by omega
  clear hg hgz
  have c1 := S0.out.val HL.out hn
  have f1 := S0.out.frozen (33 + n)
  have S1 := Lib.hid (S0.out.putVal HL.out hn y)
  have HL1 := Lib.hid (HL.out.setA n y)
  have c2 := S1.out.ver HL1.out hn
  have f2 := S1.out.frozen (41 + n)
  have S2 := Lib.hid (S1.out.putVer HL1.out hn x)
  have HL2 := Lib.hid (HL1.out.setV n x)
  have c3 := S2.out.there HL2.out hn
  have f3 := S2.out.frozen (49 + n)
  have S3 := Lib.hid (S2.out.putThere HL2.out hn true)
  have HL3 := Lib.hid (HL2.out.setF n true)
  have G3 := Lib.hid (grown_set (grown_set (grown_set G0.out (p := ⟨g, 33 + n, none⟩) LG (.int .i64 y)) (p := ⟨g, 41 + n, none⟩) LG (.int .i64 x)) (p := ⟨g, 49 + n, none⟩) LG (.bool true))
  have Z3 : Hid (SZ (((W0.setCell ⟨g, 33 + n, none⟩ (.int .i64 y)).setCell ⟨g, 41 + n, none⟩ (.int .i64 x)).setCell ⟨g, 49 + n, none⟩ (.bool true)) gz) := Lib.hid (((Z0.out.kept (grownCell W0 ⟨g, 33 + n, none⟩ (.int .i64 y)) (by simp; omega)).kept (grownCell _ ⟨g, 41 + n, none⟩ (.int .i64 x)) (by simp; omega)).kept (grownCell _ ⟨g, 49 + n, none⟩ (.bool true)) (by simp; omega))
  go_upto_region 2 with fail
  clear c1 f1 c2 f2 c3 f3 S0 S1 S2 G0 Z0
  generalize ((W0.setCell ⟨g, 33 + n, none⟩ (.int .i64 y)).setCell ⟨g, 41 + n, none⟩ (.int .i64 x)).setCell ⟨g, 49 + n, none⟩ (.bool true) = w3 at *
  apply wp_region_lit
  refine wpList_load_row rfl _ _ rfl g rfl _ _ _ _ S3.out Try.underlying94 rfl HS.out ?_
  simp only [Act.put, List.setIfInBounds_toArray, List.set_cons_succ, List.set_cons_zero]
  obtain ⟨old, ho, hz⟩ := Z3.out
  refine wpList_store_row rfl _ _ _ rfl gz (stv k L (a.set n y) (v.set n x) (F.set n true)).toArray rfl rfl _ _ ho HS.out (by rw [hz, HZ.out _ _ _ _ _ HL3.out]) (all_oneCell_toArray stv_one) ?_
  have A3 := Lib.hid (sbRow ho k L (a.set n y) (v.set n x) (F.set n true))
  have G4 := Lib.hid (grown_own G3.out (grownRow ho (stv k L (a.set n y) (v.set n x) (F.set n true)).toArray) (fun j hj => by injection hj with hj; omega))
  clear ho hz
  generalize hcs : (stv k L (a.set n y) (v.set n x) (F.set n true)).toArray = cs at *
  go_wp2_with fail
  subst hcs
  exact bodyPost_ret (v := .agg (stv k L (a.set n y) (v.set n x) (F.set n true)).toArray) (results_cell_row Try.results88 _ _ gz _ _ _ _ rfl A3.out Try.underlying94 rfl HS.out) rfl ⟨rfl, G4.out⟩
end Go.Proofs.Ythglkgicckodaaa
