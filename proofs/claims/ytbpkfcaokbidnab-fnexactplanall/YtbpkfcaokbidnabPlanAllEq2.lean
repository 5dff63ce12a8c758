/-
  The laws' helpers on slices of plans: marked, held.
  Conditions: none.
-/
import Derived.Test.YtbpkfcaokbidnabPlanAllEq
namespace Go.Proofs.Ytbpkfcaokbidnab
open Go.RowKit
set_option linter.unusedVariables false

theorem at_mid {α : Type} (A B : List α) (x : α) : (A ++ x :: B)[A.length]? = some x := by
  rw [List.getElem?_append_right (Nat.le_refl _)]; simp
theorem range_len (L : List PIt) (k : Int) (i : Nat) : ((List.range i).map (mkIt L k)).length = i := by simp
theorem frozen_plan {w : World} {base g n c : Nat} {xs : List Value} (h : w.ownsRow base 35 3 (.slice (some ⟨g, 0, none⟩) n c) n xs) (j : Nat) : w.frozen? ⟨g, j, none⟩ = false := World.ownsRow.frozenAt h j

set_option maxHeartbeats 8000000 in
set_option maxRecDepth 20000 in
theorem markPlanS (vv : Value) (L : List PIt) (base : Nat) (k : Int) (w : World) (h : PTab w base vv L) (hb : base ≤ w.heap.size) (hs : Short L) (k0 : 0 ≤ k) (k1 : k ≤ 1000) :
    Calls Try.prog 21 #[vv, .int .i64 k] w fun e w' => e = .returned (.int .i64 (kAt L k L.length)) ∧ PTab w' base vv (mkL L k L.length) ∧ Below base w w' := by
  obtain ⟨va, vc, ve, v1, v2⟩ := h.form
  subst ve
  have P0 := Lib.hid h
  have SH := Lib.hid hs
  have n8 := hs.1
  obtain ⟨n, hn⟩ : ∃ n, n = L.length := ⟨_, rfl⟩
  have NL := Lib.hid hn
  rw [← hn] at P0 n8 ⊢
  unfold maxLen at v2
  clear h hs hn
  go_enter Try.func21, Try.ntmps21
  go_wp2_with fail
  go_loopw [1, 5] (fun o i wr => ∃ t : Nat, t ≤ n ∧ i = .int .i64 t ∧ o = .int .i64 (kAt L k t) ∧ PTab wr base (.slice va n vc) (mkL L k t) ∧ Below base w wr) (fun _ i _ => n - (intOf i).toNat)
  case atStart => exact ⟨0, by omega, rfl, rfl, by rw [mkL_zero]; exact P0.out, Below.refl _ _⟩
  case round =>
    obtain ⟨t, ht, rfl, rfl, hp, hbl⟩ := hrel
    have B := Lib.hid hbl
    have KB := kAt_in SH.out k t
    by_cases hlt : t < n
    · have hlt' : (t : Int) < (n : Int) := by omega
      have hx4 := SH.out.2 t
      have MN := Lib.hid (mkL_next (L := L) k t)
      have KS : Hid (kAt L k (t + 1) = kAt L k t + 1 + ((L.getD t pnone).l.length : Int) + ((L.getD t pnone).m.length : Int)) := Lib.hid rfl
      have MK : Hid (mkIt L k t = ⟨kAt L k t, (L.getD t pnone).u, (L.getD t pnone).v, marks (kAt L k t + 1) (L.getD t pnone).l.length, marks (kAt L k t + 1 + (L.getD t pnone).l.length) (L.getD t pnone).m.length⟩) := Lib.hid rfl
      have LL := Lib.hid (mkL_len L k (i := t) (by rw [← NL.out]; omega))
      rw [mkL_here k (by rw [← NL.out]; exact hlt)] at hp LL
      have RL := Lib.hid (range_len L k t)
      generalize L.getD t pnone = x at *
      obtain ⟨d, u, v, l, m⟩ := x
      simp only at hx4 KS MK
      generalize (List.range t).map (mkIt L k) = A at *
      generalize L.drop (t + 1) = D at *
      generalize kAt L k t = q at *
      have P := Lib.hid hp
      clear hp hbl P0
      obtain ⟨g, c', ee, gb, y0, y1, y2, ou, ov⟩ := P.out.at_ (at_mid A D _)
      rw [LL.out, ← NL.out] at ee
      injection ee with e1 e2 e3
      subst e1 e3
      rw [RL.out] at y0 y1 y2
      simp only at y0 y1 y2 ou ov
      obtain ⟨a3, c3, e3, _, _, _⟩ := ou.sl
      obtain ⟨a4, c4, e4, _, _, _⟩ := ov.sl
      obtain ⟨nl, hnl⟩ : ∃ z, l.length = z := ⟨_, rfl⟩
      obtain ⟨nm, hnm⟩ : ∃ z, m.length = z := ⟨_, rfl⟩
      have HL := Lib.hid hnl
      have HM := Lib.hid hnm
      rw [hnl] at e3 hx4 KS MK
      rw [hnm] at e4 hx4 KS MK
      subst e3 e4
      have NE : Hid (n = (A ++ (⟨d, .slice a3 nl c3, .slice a4 nm c4, l, m⟩ : PIt) :: D).length) := Lib.hid (by rw [LL.out]; exact NL.out)
      have f0 : wr.frozen? ⟨g, t * 3, none⟩ = false := frozen_plan (by have := P.out.top; rw [← NE.out] at this; exact this) _
      have PD := P.out.putD (d' := q) NE.out
      rw [RL.out] at PD
      have P1 := Lib.hid PD.1
      have B1 : Hid (Below base w (wr.setCell ⟨g, t * 3, none⟩ (.int .i64 q))) := Lib.hid (B.out.grown PD.2 (Nat.le_trans hb B.out.size) (fun j hj => by injection hj with hj; omega))
      have z1 : (wr.setCell ⟨g, t * 3, none⟩ (.int .i64 q)).cell? ⟨g, t * 3 + 1, none⟩ = some (.slice a3 nl c3) := by
        obtain ⟨g', c'', ee, _, _, y1, _⟩ := P1.out.at_ (at_mid A D _)
        injection ee with e1 _ _
        injection e1 with e1
        injection e1 with e1
        subst e1
        rw [RL.out] at y1
        exact y1
      clear PD y1 y2 ou ov hnl hnm P e2
      go_upto_region 5 with fail
      clear y0 f0
      generalize wr.setCell ⟨g, t * 3, none⟩ (.int .i64 q) = w1 at *
      have O1 : Hid (Own w1 base (.slice a3 nl c3) l) := Lib.hid (by
        obtain ⟨_, _, _, _, _, _, _, ou, _⟩ := P1.out.at_ (at_mid A D _)
        exact ou)
      go_wp2_with fail
      refine (markIntS _ l (q + 1) base _ O1.out (by rw [HL.out]; omega) (by omega) (by omega)).mono ?_
      rintro e w2 ⟨rfl, hg, ho⟩
      rw [HL.out] at ho ⊢
      have P2 := Lib.hid (P1.out.putU hg ho)
      have B2 := Lib.hid (B1.out.grown hg (Nat.le_trans hb B1.out.size) (fun j hj => (World.ownsRow.lt O1.out j hj).1))
      clear hg ho z1 P1 B1 O1
      have z2 : w2.cell? ⟨g, t * 3 + 2, none⟩ = some (.slice a4 nm c4) := by
        obtain ⟨g', c'', ee, _, _, _, y2, _⟩ := P2.out.at_ (at_mid A D _)
        injection ee with e1 _ _
        injection e1 with e1
        injection e1 with e1
        subst e1
        rw [RL.out] at y2
        exact y2
      have O2 : Hid (Own w2 base (.slice a4 nm c4) m) := Lib.hid (by
        obtain ⟨_, _, _, _, _, _, _, _, ov⟩ := P2.out.at_ (at_mid A D _)
        exact ov)
      go_wp2_with fail
      refine (markIntS _ m (q + 1 + nl) base _ O2.out (by rw [HM.out]; omega) (by omega) (by omega)).mono ?_
      rintro e w3 ⟨rfl, hg, ho⟩
      rw [HM.out] at ho ⊢
      have P3 := Lib.hid (P2.out.putV hg ho)
      have B3 := Lib.hid (B2.out.grown hg (Nat.le_trans hb B2.out.size) (fun j hj => (World.ownsRow.lt O2.out j hj).1))
      have P4 : Hid (PTab w3 base (.slice (some ⟨g, 0, none⟩) n vc) (mkL L k (t + 1))) := Lib.hid (by rw [MN.out, MK.out]; exact P3.out)
      clear hg ho z2 P2 B2 O2 P3
      go_wp2_with fail
      go_roundw
      case rel => exact ⟨t + 1, by omega, by go_num, by rw [KS.out], P4.out, B3.out⟩
      case measure => simp [intOf]; omega
    · obtain rfl : t = n := by omega
      have hi : ¬ (t : Int) < (t : Int) := by omega
      have P := Lib.hid hp
      clear hp hbl
      go_wp2_with fail
      go_ret
      exact ⟨rfl, P.out, B.out⟩

set_option maxHeartbeats 8000000 in
set_option maxRecDepth 20000 in
theorem heldPlanS (vv : Value) (L : List PIt) (base : Nat) (k : Int) (w : World) (h : PTab w base vv (mkL L k L.length)) (hs : Short L) (k0 : 0 ≤ k) (k1 : k ≤ 1000) :
    Calls Try.prog 22 #[vv, .int .i64 k] w fun e w' => e = .returned (.int .i64 (kAt L k L.length)) ∧ w = w' := by
  obtain ⟨va, vc, ve, v1, v2⟩ := h.form
  rw [mkL_len L k (Nat.le_refl _)] at ve v1
  subst ve
  have SH := Lib.hid hs
  have n8 := hs.1
  rw [mkL_all] at h
  have P0 := Lib.hid h
  obtain ⟨n, hn⟩ : ∃ n, n = L.length := ⟨_, rfl⟩
  have NL := Lib.hid hn
  rw [← hn] at P0 n8 ⊢
  unfold maxLen at v2
  clear h hs hn
  go_enter Try.func22, Try.ntmps22
  go_wp2_with fail
  go_loopw [1, 5] (fun o i wr => ∃ t : Nat, t ≤ n ∧ i = .int .i64 t ∧ o = .int .i64 (kAt L k t) ∧ wr = w) (fun _ i _ => n - (intOf i).toNat)
  case atStart => exact ⟨0, by omega, rfl, rfl, rfl⟩
  case round =>
    obtain ⟨t, ht, rfl, rfl, rfl⟩ := hrel
    have KB := kAt_in SH.out k t
    by_cases hlt : t < n
    · have hlt' : (t : Int) < (n : Int) := by omega
      have hx4 := SH.out.2 t
      have KS : Hid (kAt L k (t + 1) = kAt L k t + 1 + ((L.getD t pnone).l.length : Int) + ((L.getD t pnone).m.length : Int)) := Lib.hid rfl
      obtain ⟨g, c', ee, gb, y0, y1, y2, ou, ov⟩ := P0.out.at_ (i := t) (x := mkIt L k t) (by simp [hlt])
      injection ee with e1 e2 e3
      subst e1 e3
      unfold mkIt at y0 y1 y2 ou ov
      simp only at y0 y1 y2 ou ov
      generalize L.getD t pnone = x at *
      obtain ⟨d, u, v, l, m⟩ := x
      simp only at hx4 KS y0 y1 y2 ou ov
      generalize kAt L k t = q at *
      generalize l.length = nl at *
      generalize m.length = nm at *
      have OU := Lib.hid ou.sl
      have OV := Lib.hid ov.sl
      obtain ⟨a3, c3, e3, _, _, _⟩ := ou.sl
      obtain ⟨a4, c4, e4, _, _, _⟩ := ov.sl
      rw [marks_length] at e3 e4
      subst e3 e4
      clear ou ov e2
      have hne : (q != q) = false := by simp
      go_wp2_with fail
      refine (heldIntS _ nl (q + 1) _ OU.out (by omega) (by omega) (by omega)).mono ?_
      rintro e w' ⟨rfl, rfl⟩
      have q1 : ¬ (q + 1 + (nl : Int)) < 0 := by omega
      go_wp2_with fail
      refine (heldIntS _ nm (q + 1 + nl) _ OV.out (by omega) (by omega) (by omega)).mono ?_
      rintro e w' ⟨rfl, rfl⟩
      have q2 : ¬ (q + 1 + (nl : Int) + (nm : Int)) < 0 := by omega
      go_wp2_with fail
      go_roundw
      case rel => exact ⟨t + 1, by omega, by go_num, by rw [KS.out], by first | rfl | trivial⟩
      case measure => simp [intOf]; omega
    · obtain rfl : t = n := by omega
      have hi : ¬ (t : Int) < (t : Int) := by omega
      go_wp2_with fail
      go_ret
      exact ⟨rfl, rfl⟩
end Go.Proofs.Ytbpkfcaokbidnab
