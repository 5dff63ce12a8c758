/-
  The contract of all shards of numbers, in the model.
  Conditions: none.
-/
import Derived.Test.YtbpkfcaokbidnabCodeSpec
import Derived.Test.YtbpkfcaokbidnabHelp
namespace Go.Proofs.Ytbpkfcaokbidnab
open Go.RowKit
set_option linter.unusedVariables false

/-- all shards of numbers. -/
def allK (k : Nat) (d : List Int) (n : Nat) : List Int := (List.range n).map fun i => Vec.dot (Sp.crow k i) d
theorem allK_len (k : Nat) (d : List Int) (n : Nat) : (allK k d n).length = n := by simp [allK]
theorem allK_next (k : Nat) (d : List Int) (n : Nat) : allK k d n ++ [Vec.dot (Sp.crow k n) d] = allK k d (n + 1) := by
  unfold allK; rw [List.range_succ, List.map_append]; rfl

set_option maxHeartbeats 2000000 in
set_option maxRecDepth 20000 in
theorem specL4All {k : Nat} (hk : k = 1 ∨ k = 2) (v : Value) (d : List Int) (w : World) (h : Sl w v d) (hd : Vec.ok d = true) : Calls Try.prog 118 #[.int .i64 k, v] w (NewInts (allK k d 8) w) := by
  obtain ⟨i0, hi, hz0, hz1, hz2⟩ := info_parts infoInt
  have I1 := Lib.hid hi
  have I2 := Lib.hid hz0
  have I3 := Lib.hid hz1
  have I4 := Lib.hid hz2
  clear hi hz0 hz1 hz2
  have V := Lib.hid h
  have D := Lib.hid hd
  clear h hd
  have RW := Lib.hid (fun (n : Nat) (h : n < 8) (w : World) => specL4Row hk h w)
  go_enter Try.func118, Try.ntmps118
  go_wp2_with fail
  go_loopw [5, 6] (fun o i wr => ∃ n : Nat, n ≤ 8 ∧ i = .int .i64 n ∧ w.grownBy wr none ∧ Own wr w.heap.size o (allK k d n)) (fun _ i _ => 8 - (intOf i).toNat)
  case atStart => exact ⟨0, by omega, rfl, grown_alloc (World.grownBy.refl _ _) _, Own.made w w.heap.size [] (Nat.le_refl _) (by simp)⟩
  case round =>
    obtain ⟨n, hn, rfl, hg, ho⟩ := hrel
    have G := Lib.hid hg
    have O := Lib.hid ho
    clear hg ho
    by_cases hlt : n < 8
    · have hlt' : (n : Int) < 8 := by omega
      have NX := Lib.hid (allK_next k d n)
      have AL : (allK k d n).length ≤ 8 := by rw [allK_len]; omega
      have CK := Lib.hid (Sp.row_ok.2 (Sp.crow_row hk hlt))
      have RN := Lib.hid (RW.out n hlt)
      generalize Sp.crow k n = row at *
      generalize allK k d n = part at *
      go_wp2_with fail
      refine (RN.out _).mono ?_
      rintro e w3 ⟨u, rfl, hg, hu⟩
      have G3 := Lib.hid (grown_trans G.out hg)
      have O3 := Lib.hid (O.out.still hg)
      have U3 := Lib.hid hu.sl
      clear hg hu G O
      go_wp2_with fail
      refine (specL2Dot u v row d _ U3.out (V.out.grown G3.out) CK.out D.out).mono ?_
      rintro e w4 ⟨rfl, hg⟩
      have G4 := Lib.hid (grown_trans G3.out hg)
      have O4 := Lib.hid (O3.out.still hg)
      have s4 : w.heap.size ≤ w4.heap.size := G4.out.size
      clear hg G3 O3 U3
      generalize Vec.dot row d = y at *
      go_wp2_with (first
        | (at_builtin; refine wpList_append_own _ rfl _ _ 33 rfl w.heap.size 3 i0 (.int .i64 0) 1 8 Try.underlying33 I1.out I2.out I3.out I4.out rfl (by decide) _ _ _ rfl (World.ownsRow.alloc O4.out _) ⟨w4.heap.size, 0, none⟩ 1 1 [.int .i64 y] rfl rfl (one_cell (g := 0)) (vals_one [y]) ?c3 ?c4 ?c5 ?_))
      case c3 => unfold maxLen; omega
      case c4 => omega
      case c5 => simp; omega
      intro o' w5 ho hg _
      have O5 := Lib.hid (own_snoc (l := part) (x := y) ho rfl rfl)
      rw [NX.out] at O5
      have G5 : Hid (w.grownBy w5 none) := Lib.hid (grown_own (grown_alloc G4.out _) hg (fun j hj => (World.ownsRow.lt O4.out j hj).1))
      clear ho hg
      go_wp2_with fail
      go_roundw
      case rel => exact ⟨n + 1, by omega, by go_num, G5.out, O5.out⟩
      case measure => simp [intOf]; omega
    · obtain rfl : n = 8 := by omega
      go_wp2_with fail
      go_ret
      exact ⟨_, rfl, G.out, O.out⟩
end Go.Proofs.Ytbpkfcaokbidnab
