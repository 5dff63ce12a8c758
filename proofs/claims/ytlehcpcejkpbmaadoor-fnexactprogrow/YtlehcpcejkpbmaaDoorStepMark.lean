/-
  The laws' own helpers on steps: marked and held; and a plan of any length marked.
  Conditions: at most 2^20 steps are marked.
-/
import Derived.Test.YtlehcpcejkpbmaaDoorStepHelp
import Derived.Test.YtlehcpcejkpbmaaDoorPlanArg
namespace Go.Proofs.YtlehcpcejkpbmaaDoor
open Go.RowKit
set_option linter.unusedVariables false

/-- the marks of steps, three a step. -/
def mk1 (k : Int) (i : Nat) : Stp := ⟨k + 3 * (i : Int), k + 3 * (i : Int) + 1, k + 3 * (i : Int) + 1 + 1⟩
def mkS (k : Int) (n : Nat) : List Stp := (List.range n).map (mk1 k)
theorem mkS_len (k : Int) (n : Nat) : (mkS k n).length = n := by simp [mkS]
theorem mkS_get (k : Int) (n i : Nat) (h : i < n) : (mkS k n).getD i szero = mk1 k i := by
  simp [mkS, List.getD_eq_getElem?_getD, h]
theorem mkS_next (k : Int) (n : Nat) : mkS k (n + 1) = mkS k n ++ [mk1 k n] := by simp [mkS, List.range_succ]
/-- steps partly marked. -/
def mkp (k : Int) (L : List Stp) (j : Nat) : List Stp := mkS k j ++ L.drop j
theorem mkp_none (k : Int) (L : List Stp) : mkp k L 0 = L := by simp [mkp, mkS]
theorem mkp_all (k : Int) (L : List Stp) : mkp k L L.length = mkS k L.length := by simp [mkp]
theorem mkp_len (k : Int) (L : List Stp) {j : Nat} (h : j ≤ L.length) : (mkp k L j).length = L.length := by simp [mkp, mkS_len]; omega
theorem mkp_here (k : Int) {L : List Stp} {j : Nat} (h : j < L.length) : mkp k L j = mkS k j ++ L.getD j szero :: L.drop (j + 1) := by
  unfold mkp
  rw [List.drop_eq_getElem_cons h, List.getD_eq_getElem?_getD, List.getElem?_eq_getElem h]
  rfl
theorem mkp_next (k : Int) {L : List Stp} {j : Nat} (h : j < L.length) : mkp k L (j + 1) = mkS k j ++ mk1 k j :: L.drop (j + 1) := by
  unfold mkp
  rw [mkS_next, List.append_assoc]
  rfl

set_option maxHeartbeats 4000000 in
set_option maxRecDepth 20000 in
theorem markStepS (v : Value) (L : List Stp) (k : Int) (base : Nat) (w : World) (h : SOwn w base v L) (hl : L.length ≤ 1048576) (k0 : 0 ≤ k) (k1 : k ≤ 1000000) :
    Calls Tryd.prog 42 #[v, .int .i64 k] w fun e w' => e = .returned (.int .i64 (k + 3 * (L.length : Int))) ∧ w.grownBy w' v.ownBlock ∧ SOwn w' base v (mkS k L.length) := by
  rcases h.2 with ⟨rfl, h0⟩ | ⟨g, cap, cur, rfl, _, _⟩
  · have : L = [] := List.eq_nil_of_length_eq_zero h0
    subst this
    have O := Lib.hid h
    clear h h0
    go_enter Tryd.func42, Tryd.ntmps42
    go_wp2_with fail
    go_loop [1, 5] (fun m i => m = .int .i64 k ∧ i = .int .i64 0) (fun _ _ => 0)
    case atStart => exact ⟨rfl, rfl⟩
    case round =>
      obtain ⟨rfl, rfl⟩ := hrel
      go_wp2_with fail
      go_ret
      exact ⟨by simp, World.grownBy.refl _ _, O.out⟩
  · have O0 := Lib.hid h
    clear h
    obtain ⟨n, hn⟩ : ∃ n, n = L.length := ⟨_, rfl⟩
    rw [← hn] at O0 hl ⊢
    have N := Lib.hid hn
    clear hn
    go_enter Tryd.func42, Tryd.ntmps42
    go_wp2_with fail
    go_loopw [1, 5] (fun m i wr => ∃ j : Nat, i = .int .i64 j ∧ m = .int .i64 (k + 3 * (j : Int)) ∧ j ≤ n ∧ w.grownBy wr (some g) ∧ SOwn wr base (.slice (some ⟨g, 0, none⟩) n cap) (mkp k L j)) (fun _ i _ => n - (intOf i).toNat)
    case atStart => exact ⟨0, rfl, by simp, Nat.zero_le _, World.grownBy.refl _ _, by rw [mkp_none]; exact O0.out⟩
    case round =>
      obtain ⟨j, rfl, rfl, hj, hg, ho⟩ := hrel
      have G := Lib.hid hg
      have O := Lib.hid ho
      clear hg ho O0
      by_cases hlt : j < n
      · have hlt' : (j : Int) < (n : Int) := by omega
        have hkL : j < L.length := by rw [← N.out]; exact hlt
        have SP := Lib.hid (mkp_next k hkL)
        have SH := Lib.hid (mkp_here k hkL)
        have hlen := mkS_len k j
        obtain ⟨g', c', e', _, d0, d1, d2, fz⟩ := O.out.at_ (i := j) (by rw [mkp_len k L (by omega), ← N.out]; exact hlt)
        injection e' with e1 e2 e3
        injection e1 with e1
        injection e1 with e1
        subst e1
        clear e2 e3
        have f0 := fz (j * 3)
        have f1 := fz (j * 3 + 1)
        have f2 := fz (j * 3 + 2)
        have PU := Lib.hid (SOwn.put (by rw [SH.out] at O; exact O.out) (by rw [← SH.out, mkp_len k L (by omega), N.out]) (mk1 k j))
        rw [hlen] at PU
        have O3 : Hid (SOwn (((wr.setCell ⟨g, j * 3, none⟩ (.int .i64 (k + 3 * (j : Int)))).setCell ⟨g, j * 3 + 1, none⟩ (.int .i64 (k + 3 * (j : Int) + 1))).setCell ⟨g, j * 3 + 2, none⟩ (.int .i64 (k + 3 * (j : Int) + 1 + 1))) base (.slice (some ⟨g, 0, none⟩) n cap) (mkp k L (j + 1))) := Lib.hid (by rw [SP.out]; exact PU.out.1)
        have G3 : Hid (w.grownBy (((wr.setCell ⟨g, j * 3, none⟩ (.int .i64 (k + 3 * (j : Int)))).setCell ⟨g, j * 3 + 1, none⟩ (.int .i64 (k + 3 * (j : Int) + 1))).setCell ⟨g, j * 3 + 2, none⟩ (.int .i64 (k + 3 * (j : Int) + 1 + 1))) (some g)) := Lib.hid (grown_trans G.out PU.out.2)
        generalize ((mkp k L j).getD j szero) = old at *
        obtain ⟨po, xo, yo⟩ := old
        have d0' : wr.cell? ⟨g, j * 3, none⟩ = some (.int .i64 po) := d0
        have d1' : wr.cell? ⟨g, j * 3 + 1, none⟩ = some (.int .i64 xo) := d1
        have d2' : wr.cell? ⟨g, j * 3 + 2, none⟩ = some (.int .i64 yo) := d2
        clear d0 d1 d2 fz PU O G hlen SP SH
        go_wp2_with fail
        go_roundw
        case rel => exact ⟨j + 1, by go_num, by go_num, by omega, G3.out, O3.out⟩
        case measure => simp [intOf]; omega
      · obtain rfl : j = n := by omega
        have O4 : Hid (SOwn wr base (.slice (some ⟨g, 0, none⟩) j cap) (mkS k j)) := Lib.hid (by
          have := O.out
          rw [N.out, mkp_all] at this
          rw [N.out]
          exact this)
        go_wp2_with fail
        go_ret
        exact ⟨rfl, G.out, O4.out⟩

end Go.Proofs.YtlehcpcejkpbmaaDoor
