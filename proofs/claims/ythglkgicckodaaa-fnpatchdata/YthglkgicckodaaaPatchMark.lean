/-
  The laws' own helpers on patches: marked and held.
  Conditions: at most 2^20 patches are marked.
-/
import Derived.Test.YthglkgicckodaaaPatchHelp
namespace Go.Proofs.Ythglkgicckodaaa
open Go.RowKit
set_option linter.unusedVariables false

/-- the marks of patches, two a patch. -/
def mkq1 (k : Int) (i : Nat) : Pat := ⟨k + 2 * (i : Int), k + 2 * (i : Int) + 1⟩
def mkQ (k : Int) (n : Nat) : List Pat := (List.range n).map (mkq1 k)
theorem mkQ_len (k : Int) (n : Nat) : (mkQ k n).length = n := by simp [mkQ]
theorem mkQ_get (k : Int) (n i : Nat) (h : i < n) : (mkQ k n).getD i pat0 = mkq1 k i := by
  simp [mkQ, List.getD_eq_getElem?_getD, h]
theorem mkQ_next (k : Int) (n : Nat) : mkQ k (n + 1) = mkQ k n ++ [mkq1 k n] := by simp [mkQ, List.range_succ]
/-- patches partly marked. -/
def mkqp (k : Int) (L : List Pat) (j : Nat) : List Pat := mkQ k j ++ L.drop j
theorem mkqp_none (k : Int) (L : List Pat) : mkqp k L 0 = L := by simp [mkqp, mkQ]
theorem mkqp_all (k : Int) (L : List Pat) : mkqp k L L.length = mkQ k L.length := by simp [mkqp]
theorem mkqp_len (k : Int) (L : List Pat) {j : Nat} (h : j ≤ L.length) : (mkqp k L j).length = L.length := by simp [mkqp, mkQ_len]; omega
theorem mkqp_here (k : Int) {L : List Pat} {j : Nat} (h : j < L.length) : mkqp k L j = mkQ k j ++ L.getD j pat0 :: L.drop (j + 1) := by
  unfold mkqp
  rw [List.drop_eq_getElem_cons h, List.getD_eq_getElem?_getD, List.getElem?_eq_getElem h]
  rfl
theorem mkqp_next (k : Int) {L : List Pat} {j : Nat} (h : j < L.length) : mkqp k L (j + 1) = mkQ k j ++ mkq1 k j :: L.drop (j + 1) := by
  unfold mkqp
  rw [mkQ_next, List.append_assoc]
  rfl

set_option maxHeartbeats 4000000 in
set_option maxRecDepth 20000 in
theorem markPatchS (v : Value) (L : List Pat) (k : Int) (base : Nat) (w : World) (h : POwn w base v L) (hl : L.length ≤ 1048576) (k0 : 0 ≤ k) (k1 : k ≤ 10000000) :
    Calls Try.prog 35 #[v, .int .i64 k] w fun e w' => e = .returned (.int .i64 (k + 2 * (L.length : Int))) ∧ w.grownBy w' v.ownBlock ∧ POwn w' base v (mkQ k L.length) := by
  rcases h.2 with ⟨rfl, h0⟩ | ⟨g, cap, cur, rfl, _, _⟩
  · have : L = [] := List.eq_nil_of_length_eq_zero h0
    subst this
    have O := Lib.hid h
    clear h h0
    go_enter Try.func35, Try.ntmps35
    go_wp2_with fail
    go_loop [1, 5] (fun m i => m = .int .i64 k ∧ i = .int .i64 0) (fun _ _ => 0)
    case atStart => exact ⟨rfl, rfl⟩
    case round =>
      obtain ⟨rfl, rfl⟩ := hrel
      go_wp2_with fail
      go_ret
      exact ⟨by simp, World.grownBy.refl _ _, O.out⟩
  · have O0 := Lib.hid h
    clear h
    obtain ⟨n, hn⟩ : ∃ n, n = L.length := ⟨_, rfl⟩
    rw [← hn] at O0 hl ⊢
    have N := Lib.hid hn
    clear hn
    go_enter Try.func35, Try.ntmps35
    go_wp2_with fail
    go_loopw [1, 5] (fun m i wr => ∃ j : Nat, i = .int .i64 j ∧ m = .int .i64 (k + 2 * (j : Int)) ∧ j ≤ n ∧ w.grownBy wr (some g) ∧ POwn wr base (.slice (some ⟨g, 0, none⟩) n cap) (mkqp k L j)) (fun _ i _ => n - (intOf i).toNat)
    case atStart => exact ⟨0, rfl, by simp, Nat.zero_le _, World.grownBy.refl _ _, by rw [mkqp_none]; exact O0.out⟩
    case round =>
      obtain ⟨j, rfl, rfl, hj, hg, ho⟩ := hrel
      have G := Lib.hid hg
      have O := Lib.hid ho
      clear hg ho O0
      by_cases hlt : j < n
      · have hlt' : (j : Int) < (n : Int) := by omega
        have hkL : j < L.length := by rw [← N.out]; exact hlt
        have SP := Lib.hid (mkqp_next k hkL)
        have SH := Lib.hid (mkqp_here k hkL)
        have hlen := mkQ_len k j
        obtain ⟨g', c', e', _, d0, d1, fz⟩ := O.out.at_ (i := j) (by rw [mkqp_len k L (by omega), ← N.out]; exact hlt)
        injection e' with e1 e2 e3
        injection e1 with e1
        injection e1 with e1
        subst e1
        clear e2 e3
        have f0 := fz (j * 2)
        have f1 := fz (j * 2 + 1)
        have PU := Lib.hid (POwn.put (by rw [SH.out] at O; exact O.out) (by rw [← SH.out, mkqp_len k L (by omega), N.out]) (mkq1 k j))
        rw [hlen] at PU
        have O3 : Hid (POwn ((wr.setCell ⟨g, j * 2, none⟩ (.int .i64 (k + 2 * (j : Int)))).setCell ⟨g, j * 2 + 1, none⟩ (.int .i64 (k + 2 * (j : Int) + 1))) base (.slice (some ⟨g, 0, none⟩) n cap) (mkqp k L (j + 1))) := Lib.hid (by rw [SP.out]; exact PU.out.1)
        have G3 : Hid (w.grownBy ((wr.setCell ⟨g, j * 2, none⟩ (.int .i64 (k + 2 * (j : Int)))).setCell ⟨g, j * 2 + 1, none⟩ (.int .i64 (k + 2 * (j : Int) + 1))) (some g)) := Lib.hid (grown_trans G.out PU.out.2)
        generalize ((mkqp k L j).getD j pat0) = old at *
        obtain ⟨po, xo⟩ := old
        have d0' : wr.cell? ⟨g, j * 2, none⟩ = some (.int .i64 po) := d0
        have d1' : wr.cell? ⟨g, j * 2 + 1, none⟩ = some (.int .i64 xo) := d1
        clear d0 d1 fz PU O G hlen SP SH
        go_wp2_with fail
        go_roundw
        case rel => exact ⟨j + 1, by go_num, by go_num, by omega, G3.out, O3.out⟩
        case measure => simp [intOf]; omega
      · obtain rfl : j = n := by omega
        have O4 : Hid (POwn wr base (.slice (some ⟨g, 0, none⟩) j cap) (mkQ k j)) := Lib.hid (by
          have := O.out
          rw [N.out, mkqp_all] at this
          rw [N.out]
          exact this)
        go_wp2_with fail
        go_ret
        exact ⟨rfl, G.out, O4.out⟩

set_option maxHeartbeats 4000000 in
set_option maxRecDepth 20000 in
theorem heldPatchS (v : Value) (n : Nat) (k : Int) (w : World) (h : PSl w v (mkQ k n)) (hl : n ≤ 1000) (k0 : 0 ≤ k) (k1 : k ≤ 10000000) :
    Calls Try.prog 36 #[v, .int .i64 k] w fun e w' => e = .returned (.int .i64 (k + 2 * (n : Int))) ∧ w = w' := by
  obtain ⟨a, cap, rfl, hlc, hcm, hr⟩ := h
  rw [mkQ_len] at hlc ⊢
  have R : Hid (Rds w a (pflat (mkQ k n))) := Lib.hid hr
  clear hr
  unfold maxLen at hcm
  go_enter Try.func36, Try.ntmps36
  go_wp2_with fail
  go_loop [1, 5] (fun m i => ∃ j : Nat, j ≤ n ∧ i = .int .i64 j ∧ m = .int .i64 (k + 2 * (j : Int))) (fun _ i => n - (intOf i).toNat)
  case atStart => exact ⟨0, Nat.zero_le _, rfl, by simp⟩
  case round =>
    obtain ⟨j, hj, rfl, rfl⟩ := hrel
    by_cases hlt : j < n
    · obtain ⟨b, o, rfl, c0, c1⟩ := pcells R.out (k := j) (by rw [mkQ_len]; exact hlt)
      rw [mkQ_get k n j hlt] at c0 c1
      have z0 : w.cell? ⟨b, o + j * 2, none⟩ = some (.int .i64 (k + 2 * (j : Int))) := c0
      have z1 : w.cell? ⟨b, o + j * 2 + 1, none⟩ = some (.int .i64 (k + 2 * (j : Int) + 1)) := c1
      clear c0 c1
      have b0 : (k + 2 * (j : Int) != k + 2 * (j : Int)) = false := by simp
      have b1 : (k + 2 * (j : Int) + 1 != k + 2 * (j : Int) + 1) = false := by simp
      go_wp2_with fail
      go_round
      case rel => exact ⟨j + 1, by omega, by go_num, by go_num⟩
      case measure => simp [intOf]; omega
    · have : j = n := by omega
      subst this
      go_wp2_with fail
      go_ret
      exact ⟨rfl, rfl⟩
end Go.Proofs.Ythglkgicckodaaa
