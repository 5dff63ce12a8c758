/-
  What this claim wants of the texts of earlier chapters.
  Conditions: none.
-/
import Derived.Test.YthglkgicckodaaaZReadMath
import Derived.Test.YthglkgicckodaaaZG3
namespace Go.Proofs.Ythglkgicckodaaa
open Go.RowKit
set_option linter.unusedVariables false
def spotsK (f : List Bool) (n : Nat) : List Nat := (List.range n).filter fun i => f.getD i false
theorem spotsK_yes {f : List Bool} {n : Nat} (h : f.getD n false = true) : ints (spotsK f n) ++ [(n : Int)] = ints (spotsK f (n + 1)) := by
  unfold spotsK ints
  simp only [List.range_succ, List.filter_append, List.map_append]
  congr 1
  simp only [List.filter_cons, h]
  rfl
theorem spotsK_no {f : List Bool} {n : Nat} (h : f.getD n false = false) : spotsK f (n + 1) = spotsK f n := by
  unfold spotsK
  simp only [List.range_succ, List.filter_append]
  simp only [List.filter_cons, h]
  simp
theorem spotsK_len (f : List Bool) (n : Nat) : (spotsK f n).length ≤ n := by
  unfold spotsK
  have := List.length_filter_le (fun i => f.getD i false) (List.range n)
  rwa [List.length_range] at this
theorem crows_spots (k : Nat) (f : List Bool) : (Sp.crows k f).length = (spotsK f 8).length := by simp [Sp.crows, spotsK]
def pickK (k : Nat) (f : List Bool) (n : Nat) : List Nat := ((Sp.firsts Sp.has (Sp.crows k f)).take n).map fun j => (spotsK f 8).getD j 0
theorem pickK_next (k : Nat) (f : List Bool) {n : Nat} (hn : n < (Sp.firsts Sp.has (Sp.crows k f)).length) : ints (pickK k f n) ++ [(((spotsK f 8).getD ((Sp.firsts Sp.has (Sp.crows k f)).getD n 0) 0 : Nat) : Int)] = ints (pickK k f (n + 1)) := by
  unfold pickK ints
  rw [List.take_succ_eq_append_getElem hn, List.map_append, List.map_append]
  congr 1
  rw [show (Sp.firsts Sp.has (Sp.crows k f)).getD n 0 = (Sp.firsts Sp.has (Sp.crows k f))[n] by rw [List.getD_eq_getElem?_getD, List.getElem?_eq_getElem hn]; rfl]
  rfl
theorem pickK_all {k : Nat} (hk : k = 1 ∨ k = 2) {f : List Bool} (hf : f.length = 8) : pickK k f (Sp.firsts Sp.has (Sp.crows k f)).length = Sp.fromK k f := by
  unfold pickK
  rw [List.take_length]
  exact Sp.from_spots hk hf
theorem firsts_get_lt {m : List (List Int)} {n : Nat} (hn : n < (Sp.firsts Sp.has m).length) : (Sp.firsts Sp.has m).getD n 0 < m.length := by
  rw [List.getD_eq_getElem?_getD, List.getElem?_eq_getElem hn]
  exact Sp.first_lt _ (List.getElem_mem hn)
theorem pickK_len (k : Nat) (f : List Bool) (n : Nat) : (pickK k f n).length ≤ 8 := by
  unfold pickK
  rw [List.length_map, List.length_take]
  have h1 := Sp.first_len (Sp.crows k f)
  have h2 := spotsK_len f 8
  rw [crows_spots] at h1
  omega
set_option maxHeartbeats 2000000 in
set_option maxRecDepth 20000 in
theorem specFrom {k : Nat} (hk : k = 1 ∨ k = 2) (v : Value) (f : List Bool) (w : World) (h : Bl w v f) (hf : f.length = 8) : Calls Try.prog 114 #[.int .i64 k, v] w (NewInts (ints (Sp.fromK k f)) w) := by
  obtain ⟨i0, hi, hz0, hz1, hz2⟩ := info_parts infoInt
  have I1 := Lib.hid hi
  have I2 := Lib.hid hz0
  have I3 := Lib.hid hz1
  have I4 := Lib.hid hz2
  clear hi hz0 hz1 hz2
  have B := Lib.hid h
  obtain ⟨a, cap, rfl, h1, h2, hr⟩ := h
  rw [hf] at h1 B ⊢
  unfold maxLen at h2
  have R := Lib.hid hr
  have HF := Lib.hid hf
  have HK := Lib.hid hk
  clear hr hf hk
  go_enter Try.func114, Try.ntmps114
  go_wp2_with fail
  go_loopw [5, 6] (fun o i wr => ∃ n : Nat, n ≤ 8 ∧ i = .int .i64 n ∧ w.grownBy wr none ∧ Own wr w.heap.size o (ints (spotsK f n))) (fun _ i _ => 8 - (intOf i).toNat)
  case atStart => exact ⟨0, by omega, rfl, grown_alloc (World.grownBy.refl _ _) _, Own.made w w.heap.size [] (Nat.le_refl _) (by simp)⟩
  case round =>
    obtain ⟨n, hn, rfl, hg, ho⟩ := hrel
    have G := Lib.hid hg
    have O := Lib.hid ho
    clear hg ho
    by_cases hlt : n < 8
    · have hlt' : (n : Int) < 8 := by omega
      obtain ⟨b, o, rfl, hx⟩ := (R.out.grown G.out).at_ (k := n) (by rw [HF.out]; exact hlt)
      cases hfn : f.getD n false with
      | false =>
        rw [hfn] at hx
        have CK := Lib.hid (spotsK_no hfn)
        clear hfn
        go_wp2_with fail
        go_roundw
        case rel => exact ⟨n + 1, by omega, by go_num, G.out, by rw [CK.out]; exact O.out⟩
        case measure => simp [intOf]; omega
      | true =>
        rw [hfn] at hx
        have CK := Lib.hid (spotsK_yes hfn)
        have AL : (ints (spotsK f n)).length ≤ 8 := by rw [ints_len]; have := spotsK_len f n; omega
        have s4 : w.heap.size ≤ wr.heap.size := G.out.size
        clear hfn
        generalize ints (spotsK f n) = part at *
        go_wp2_with (first
          | (at_builtin; refine wpList_append_own _ rfl _ _ 23 rfl w.heap.size 3 i0 (.int .i64 0) 1 8 Try.underlying23 I1.out I2.out I3.out I4.out rfl (by decide) _ _ _ rfl (World.ownsRow.alloc O.out _) ⟨wr.heap.size, 0, none⟩ 1 1 [.int .i64 n] rfl rfl (one_cell (g := 0)) (vals_one [(n : Int)]) ?c3 ?c4 ?c5 ?_))
        case c3 => unfold maxLen; omega
        case c4 => omega
        case c5 => simp; omega
        intro o' w5 ho hg _
        have O5 := Lib.hid (own_snoc (l := part) (x := (n : Int)) ho rfl rfl)
        rw [CK.out] at O5
        have G5 : Hid (w.grownBy w5 none) := Lib.hid (grown_own (grown_alloc G.out _) hg (fun j hj => (World.ownsRow.lt O.out j hj).1))
        clear ho hg
        go_wp2_with fail
        go_roundw
        case rel => exact ⟨n + 1, by omega, by go_num, G5.out, O5.out⟩
        case measure => simp [intOf]; omega
    · obtain rfl : n = 8 := by omega
      go_wp2_with fail
      refine (specL4Rows HK.out _ f wr (B.out.grown G.out) HF.out).mono ?_
      rintro e w2 ⟨o2, vs2, rfl, hg, hst⟩
      have G2 := Lib.hid (grown_trans G.out hg)
      have O2 := Lib.hid (O.out.still hg)
      have T2 := Lib.hid hst.tab
      have C8 : Hid ((Sp.crows k f).length ≤ 8) := Lib.hid (by rw [crows_spots]; exact spotsK_len f 8)
      have CR := Lib.hid (Sp.crows_row HK.out f)
      clear hg hst G O
      go_wp2_with fail
      refine (specL3First o2 vs2 _ w2 T2.out CR.out C8.out).mono ?_
      rintro e w3 ⟨v3, rfl, hg, ho3⟩
      have G3 := Lib.hid (grown_trans G2.out hg)
      have O3 := Lib.hid (O2.out.still hg)
      have F3 := Lib.hid ho3.sl
      have L3 := ints_len (Sp.firsts Sp.has (Sp.crows k f))
      obtain ⟨a3, c3, e3, l3, m3, _⟩ := ho3.sl
      subst e3
      unfold maxLen at m3
      rw [List.length_map] at l3
      obtain ⟨fl, hfl⟩ : ∃ n, (Sp.firsts Sp.has (Sp.crows k f)).length = n := ⟨_, rfl⟩
      have FLE := Lib.hid hfl
      rw [List.length_map, hfl] at F3 ⊢
      rw [hfl] at l3
      obtain ⟨a4, c4, e4, l4, m4, _⟩ := O3.out.sl
      subst e4
      rw [ints_len] at l4 O3 ⊢
      have SL8 := spotsK_len f 8
      have fl8 : fl ≤ 8 := by rw [← hfl]; have := Sp.first_len (Sp.crows k f); have := C8.out; omega
      unfold maxLen at m4
      have P3 := Lib.hid O3.out.sl
      clear hg ho3 T2 G2 O2 L3 hfl
      go_wp2_with fail
      go_loopw [8, 9] (fun o i wr => ∃ n : Nat, n ≤ fl ∧ i = .int .i64 n ∧ w3.grownBy wr none ∧ Own wr w3.heap.size o (ints (pickK k f n))) (fun _ i _ => fl - (intOf i).toNat)
      case atStart => exact ⟨0, by omega, rfl, World.grownBy_alloc _ _ _, Own.made w3 w3.heap.size [] (Nat.le_refl _) (by simp)⟩
      case round =>
        obtain ⟨n, hn, rfl, hg3, ho⟩ := hrel
        have G4 := Lib.hid hg3
        have O := Lib.hid ho
        clear ho hg3
        by_cases hlt : n < fl
        · have hlt' : (n : Int) < (fl : Int) := by omega
          obtain ⟨a5, c5, e5, _, _, hr5⟩ := F3.out.grown G4.out
          injection e5 with e51 e52 e53
          subst e51 e53
          clear e52
          have hn1 : n < (Sp.firsts Sp.has (Sp.crows k f)).length := by rw [FLE.out]; exact hlt
          obtain ⟨b1, o1, rfl, hx1⟩ := hr5.at_ (k := n) (by rw [List.length_map]; exact hn1)
          have hx1' : ((Sp.firsts Sp.has (Sp.crows k f)).map fun (i : Nat) => (i : Int)).getD n 0 = (((Sp.firsts Sp.has (Sp.crows k f)).getD n 0 : Nat) : Int) := ints_get _ hn1
          rw [hx1'] at hx1
          have J1 : (Sp.firsts Sp.has (Sp.crows k f)).getD n 0 < (spotsK f 8).length := by rw [← crows_spots k f]; exact firsts_get_lt hn1
          obtain ⟨a6, c6, e6, _, _, hr6⟩ := P3.out.grown G4.out
          injection e6 with e61 e62 e63
          subst e61 e63
          clear e62
          have NX := Lib.hid (pickK_next k f hn1)
          obtain ⟨j, hj⟩ : ∃ j, (Sp.firsts Sp.has (Sp.crows k f)).getD n 0 = j := ⟨_, rfl⟩
          rw [hj] at hx1 J1 NX
          obtain ⟨b2, o2, rfl, hx2⟩ := hr6.at_ (k := j) (by rw [ints_len]; exact J1)
          rw [ints_get _ J1] at hx2
          have J1' : (j : Int) < ((spotsK f 8).length : Int) := by omega
          obtain ⟨y, hy⟩ : ∃ y, (((spotsK f 8).getD j 0 : Nat) : Int) = y := ⟨_, rfl⟩
          rw [hy] at hx2 NX
          have AL : (ints (pickK k f n)).length ≤ 8 := by rw [ints_len]; exact pickK_len k f n
          have s4 : w3.heap.size ≤ wr.heap.size := G4.out.size
          clear hj hy hx1' hr5 hr6 hn1
          generalize ints (pickK k f n) = part at *
          go_wp2_with (first
            | (at_builtin; refine wpList_append_own _ rfl _ _ 23 rfl w3.heap.size 3 i0 (.int .i64 0) 1 8 Try.underlying23 I1.out I2.out I3.out I4.out rfl (by decide) _ _ _ rfl (World.ownsRow.alloc O.out _) ⟨wr.heap.size, 0, none⟩ 1 1 [.int .i64 y] rfl rfl (one_cell (g := 0)) (vals_one [y]) ?d3 ?d4 ?d5 ?_))
          case d3 => unfold maxLen; omega
          case d4 => omega
          case d5 => simp; omega
          intro o' w5 ho hg _
          have O5 := Lib.hid (own_snoc (l := part) (x := y) ho rfl rfl)
          rw [NX.out] at O5
          have G5 : Hid (w3.grownBy w5 none) := Lib.hid (grown_own (grown_alloc G4.out _) hg (fun j hj => (World.ownsRow.lt O.out j hj).1))
          clear ho hg
          go_wp2_with fail
          go_roundw
          case rel => exact ⟨n + 1, by omega, by go_num, G5.out, O5.out⟩
          case measure => simp [intOf]; omega
        · obtain rfl : n = fl := by omega
          go_wp2_with fail
          go_ret
          refine ⟨_, rfl, grown_trans G3.out G4.out, ?_⟩
          have := O.out.lower G3.out.size
          rwa [← FLE.out, pickK_all HK.out HF.out] at this
end Go.Proofs.Ythglkgicckodaaa
