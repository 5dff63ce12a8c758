/-
  The laws' own helpers on steps: marked and held; and a plan of any length marked.
  Conditions: at most 1000 steps are marked.
-/
import Derived.Test.YtlehcpcejkpbmaaStepHelp
import Derived.Test.YtlehcpcejkpbmaaPlanArg
namespace Go.Proofs.Ytlehcpcejkpbmaa
open Go.RowKit
set_option linter.unusedVariables false

/-- the marks of steps, three a step. -/
def mk1 (k : Int) (i : Nat) : Stp := ⟨k + 3 * (i : Int), k + 3 * (i : Int) + 1, k + 3 * (i : Int) + 1 + 1⟩
def mkS (k : Int) (n : Nat) : List Stp := (List.range n).map (mk1 k)
theorem mkS_len (k : Int) (n : Nat) : (mkS k n).length = n := by simp [mkS]
theorem mkS_get (k : Int) (n i : Nat) (h : i < n) : (mkS k n).getD i szero = mk1 k i := by
  simp [mkS, List.getD_eq_getElem?_getD, h]
theorem mkS_next (k : Int) (n : Nat) : mkS k (n + 1) = mkS k n ++ [mk1 k n] := by simp [mkS, List.range_succ]
/-- steps partly marked. -/
def mkp (k : Int) (L : List Stp) (j : Nat) : List Stp := mkS k j ++ L.drop j
theorem mkp_none (k : Int) (L : List Stp) : mkp k L 0 = L := by simp [mkp, mkS]
theorem mkp_all (k : Int) (L : List Stp) : mkp k L L.length = mkS k L.length := by simp [mkp]
theorem mkp_len (k : Int) (L : List Stp) {j : Nat} (h : j ≤ L.length) : (mkp k L j).length = L.length := by simp [mkp, mkS_len]; omega
theorem mkp_here (k : Int) {L : List Stp} {j : Nat} (h : j < L.length) : mkp k L j = mkS k j ++ L.getD j szero :: L.drop (j + 1) := by
  unfold mkp
  rw [List.drop_eq_getElem_cons h, List.getD_eq_getElem?_getD, List.getElem?_eq_getElem h]
  rfl
theorem mkp_next (k : Int) {L : List Stp} {j : Nat} (h : j < L.length) : mkp k L (j + 1) = mkS k j ++ mk1 k j :: L.drop (j + 1) := by
  unfold mkp
  rw [mkS_next, List.append_assoc]
  rfl

set_option maxHeartbeats 4000000 in
set_option maxRecDepth 20000 in
theorem markStepS (v : Value) (L : List Stp) (k : Int) (base : Nat) (w : World) (h : SOwn w base v L) (hl : L.length ≤ 1000) (k0 : 0 ≤ k) (k1 : k ≤ 1000000) :
    Calls Try.prog 11 #[v, .int .i64 k] w fun e w' => e = .returned (.int .i64 (k + 3 * (L.length : Int))) ∧ w.grownBy w' v.ownBlock ∧ SOwn w' base v (mkS k L.length) := by
  rcases h.2 with ⟨rfl, h0⟩ | ⟨g, cap, cur, rfl, _, _⟩
  · have : L = [] := List.eq_nil_of_length_eq_zero h0
    subst this
    have O := Lib.hid h
    clear h h0
    go_enter Try.func11, Try.ntmps11
    go_wp2_with fail
    go_loop [1, 5] (fun m i => m = .int .i64 k ∧ i = .int .i64 0) (fun _ _ => 0)
    case atStart => exact ⟨rfl, rfl⟩
    case round =>
      obtain ⟨rfl, rfl⟩ := hrel
      go_wp2_with fail
      go_ret
      exact ⟨by simp, World.grownBy.refl _ _, O.out⟩
  · have O0 := Lib.hid h
    clear h
    obtain ⟨n, hn⟩ : ∃ n, n = L.length := ⟨_, rfl⟩
    rw [← hn] at O0 hl ⊢
    have N := Lib.hid hn
    clear hn
    go_enter Try.func11, Try.ntmps11
    go_wp2_with fail
    go_loopw [1, 5] (fun m i wr => ∃ j : Nat, i = .int .i64 j ∧ m = .int .i64 (k + 3 * (j : Int)) ∧ j ≤ n ∧ w.grownBy wr (some g) ∧ SOwn wr base (.slice (some ⟨g, 0, none⟩) n cap) (mkp k L j)) (fun _ i _ => n - (intOf i).toNat)
    case atStart => exact ⟨0, rfl, by simp, Nat.zero_le _, World.grownBy.refl _ _, by rw [mkp_none]; exact O0.out⟩
    case round =>
      obtain ⟨j, rfl, rfl, hj, hg, ho⟩ := hrel
      have G := Lib.hid hg
      have O := Lib.hid ho
      clear hg ho O0
      by_cases hlt : j < n
      · have hlt' : (j : Int) < (n : Int) := by omega
        have hkL : j < L.length := by rw [← N.out]; exact hlt
        have SP := Lib.hid (mkp_next k hkL)
        have SH := Lib.hid (mkp_here k hkL)
        have hlen := mkS_len k j
        obtain ⟨g', c', e', _, d0, d1, d2, fz⟩ := O.out.at_ (i := j) (by rw [mkp_len k L (by omega), ← N.out]; exact hlt)
        injection e' with e1 e2 e3
        injection e1 with e1
        injection e1 with e1
        subst e1
        clear e2 e3
        have f0 := fz (j * 3)
        have f1 := fz (j * 3 + 1)
        have f2 := fz (j * 3 + 2)
        have PU := Lib.hid (SOwn.put (by rw [SH.out] at O; exact O.out) (by rw [← SH.out, mkp_len k L (by omega), N.out]) (mk1 k j))
        rw [hlen] at PU
        have O3 : Hid (SOwn (((wr.setCell ⟨g, j * 3, none⟩ (.int .i64 (k + 3 * (j : Int)))).setCell ⟨g, j * 3 + 1, none⟩ (.int .i64 (k + 3 * (j : Int) + 1))).setCell ⟨g, j * 3 + 2, none⟩ (.int .i64 (k + 3 * (j : Int) + 1 + 1))) base (.slice (some ⟨g, 0, none⟩) n cap) (mkp k L (j + 1))) := Lib.hid (by rw [SP.out]; exact PU.out.1)
        have G3 : Hid (w.grownBy (((wr.setCell ⟨g, j * 3, none⟩ (.int .i64 (k + 3 * (j : Int)))).setCell ⟨g, j * 3 + 1, none⟩ (.int .i64 (k + 3 * (j : Int) + 1))).setCell ⟨g, j * 3 + 2, none⟩ (.int .i64 (k + 3 * (j : Int) + 1 + 1))) (some g)) := Lib.hid (grown_trans G.out PU.out.2)
        generalize ((mkp k L j).getD j szero) = old at *
        obtain ⟨po, xo, yo⟩ := old
        have d0' : wr.cell? ⟨g, j * 3, none⟩ = some (.int .i64 po) := d0
        have d1' : wr.cell? ⟨g, j * 3 + 1, none⟩ = some (.int .i64 xo) := d1
        have d2' : wr.cell? ⟨g, j * 3 + 2, none⟩ = some (.int .i64 yo) := d2
        clear d0 d1 d2 fz PU O G hlen SP SH
        go_wp2_with fail
        go_roundw
        case rel => exact ⟨j + 1, by go_num, by go_num, by omega, G3.out, O3.out⟩
        case measure => simp [intOf]; omega
      · obtain rfl : j = n := by omega
        have O4 : Hid (SOwn wr base (.slice (some ⟨g, 0, none⟩) j cap) (mkS k j)) := Lib.hid (by
          have := O.out
          rw [N.out, mkp_all] at this
          rw [N.out]
          exact this)
        go_wp2_with fail
        go_ret
        exact ⟨rfl, G.out, O4.out⟩

set_option maxHeartbeats 4000000 in
set_option maxRecDepth 20000 in
theorem heldStepS (v : Value) (n : Nat) (k : Int) (w : World) (h : SSl w v (mkS k n)) (hl : n ≤ 1000) (k0 : 0 ≤ k) (k1 : k ≤ 1000000) :
    Calls Try.prog 12 #[v, .int .i64 k] w fun e w' => e = .returned (.int .i64 (k + 3 * (n : Int))) ∧ w = w' := by
  obtain ⟨a, cap, rfl, hlc, hcm, hr⟩ := h
  rw [mkS_len] at hlc ⊢
  have R : Hid (Rds w a (sflat (mkS k n))) := Lib.hid hr
  clear hr
  unfold maxLen at hcm
  go_enter Try.func12, Try.ntmps12
  go_wp2_with fail
  go_loop [1, 5] (fun m i => ∃ j : Nat, j ≤ n ∧ i = .int .i64 j ∧ m = .int .i64 (k + 3 * (j : Int))) (fun _ i => n - (intOf i).toNat)
  case atStart => exact ⟨0, Nat.zero_le _, rfl, by simp⟩
  case round =>
    obtain ⟨j, hj, rfl, rfl⟩ := hrel
    by_cases hlt : j < n
    · obtain ⟨b, o, rfl, c0, c1, c2⟩ := cells3 R.out (k := j) (by rw [mkS_len]; exact hlt)
      rw [mkS_get k n j hlt] at c0 c1 c2
      have z0 : w.cell? ⟨b, o + j * 3, none⟩ = some (.int .i64 (k + 3 * (j : Int))) := c0
      have z1 : w.cell? ⟨b, o + j * 3 + 1, none⟩ = some (.int .i64 (k + 3 * (j : Int) + 1)) := c1
      have z2 : w.cell? ⟨b, o + j * 3 + 2, none⟩ = some (.int .i64 (k + 3 * (j : Int) + 1 + 1)) := c2
      clear c0 c1 c2
      have b0 : (k + 3 * (j : Int) != k + 3 * (j : Int)) = false := by simp
      have b1 : (k + 3 * (j : Int) + 1 != k + 3 * (j : Int) + 1) = false := by simp
      have b2 : (k + 3 * (j : Int) + 1 + 1 != k + 3 * (j : Int) + 1 + 1) = false := by simp
      go_wp2_with fail
      go_round
      case rel => exact ⟨j + 1, by omega, by go_num, by go_num⟩
      case measure => simp [intOf]; omega
    · have : j = n := by omega
      subst this
      go_wp2_with fail
      go_ret
      exact ⟨rfl, rfl⟩

set_option maxHeartbeats 4000000 in
set_option maxRecDepth 20000 in
/-- a plan's rows are marked, however long: what is written lies in the rows that it holds. -/
theorem markPlanBig (d : Int) (u v : Value) (l m : List Int) (k : Int) (base : Nat) (w : World) (h : TwoOwn w base u v l m) (hl : l.length ≤ 1048576) (hm : m.length ≤ 1048576) (k0 : 0 ≤ k) (k1 : k ≤ 1000000) :
    Calls Try.prog 10 #[.agg #[.int .i64 d, u, v], .int .i64 k] w fun e w' => e = .returned (.int .i64 (k + l.length + m.length)) ∧ ∃ w1 w2, w.grownBy w1 none ∧ w1.grownBy w2 u.ownBlock ∧ w2.grownBy w' v.ownBlock := by
  obtain ⟨hu, hv, hne⟩ := h
  have hne' : v.ownBlock = none ∨ v.ownBlock ≠ u.ownBlock := by
    rcases hne with e | e
    · cases hb : v.ownBlock with
      | none => exact .inl rfl
      | some r => exact .inr (by rw [e]; simp)
    · exact .inr fun e' => e e'.symm
  obtain ⟨a1, c1, e1, _, _, _⟩ := hu.sl
  obtain ⟨a2, c2, e2, _, _, _⟩ := hv.sl
  obtain ⟨nl, hnl⟩ : ∃ n, l.length = n := ⟨_, rfl⟩
  obtain ⟨ml, hml⟩ : ∃ n, m.length = n := ⟨_, rfl⟩
  rw [hnl] at e1 hl ⊢
  rw [hml] at e2 hm ⊢
  have NL := Lib.hid hnl
  have ML := Lib.hid hml
  subst e1 e2
  have ga := World.grownBy_alloc w (.cells #[.int .i64 d, .slice a1 nl c1, .slice a2 ml c2] 29) none
  have U0 := Lib.hid (hu.still ga)
  have V0 := Lib.hid (hv.still ga)
  have NE := Lib.hid hne'
  have K0 : Hid (Blk (w.alloc (.cells #[.int .i64 d, .slice a1 nl c1, .slice a2 ml c2] 29)) w.heap.size 29 [.int .i64 d, .slice a1 nl c1, .slice a2 ml c2]) := Lib.hid (heap_alloc_new _ _)
  have GA := Lib.hid ga
  clear ga hu hv hnl hml hne hne'
  go_enter Try.func10, Try.ntmps10
  go_upto_region 1 with fail
  generalize w.alloc (.cells #[.int .i64 d, .slice a1 nl c1, .slice a2 ml c2] 29) = w1 at *
  generalize w.heap.size = r at *
  have k1' := K0.out.cell (i := 1) rfl
  go_wp2_with fail
  refine (markIntS _ l k base _ U0.out (by rw [NL.out]; omega) k0 (by omega)).mono ?_
  rintro e w2 ⟨rfl, hg, ho⟩
  rw [NL.out] at ho ⊢
  have V2 := Lib.hid (V0.out.kept hg NE.out)
  have K2 := Lib.hid (K0.out.kept hg (own_blk U0.out K0.out))
  have GU := Lib.hid hg
  have k2' := K2.out.cell (i := 2) rfl
  clear hg ho K0 U0 V0 k1'
  go_wp2_with fail
  refine (markIntS _ m (k + nl) base _ V2.out (by rw [ML.out]; omega) (by omega) (by omega)).mono ?_
  rintro e w3 ⟨rfl, hg, ho⟩
  rw [ML.out] at ho ⊢
  have GV := Lib.hid hg
  clear hg ho K2 V2 k2'
  go_wp2_with fail
  go_ret
  exact ⟨rfl, w1, w2, GA.out, GU.out, GV.out⟩
end Go.Proofs.Ytlehcpcejkpbmaa
