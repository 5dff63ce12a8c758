/-
  What this claim wants of the texts of earlier chapters.
  Conditions: none.
-/
import Derived.Test.YthglkgicckodaaaZStripeBlk
import Derived.Test.YthglkgicckodaaaZReadTop3
namespace Go.Proofs.Ythglkgicckodaaa
open Go.RowKit
set_option linter.unusedVariables false
theorem versIs (x : Int) (w : World) : Calls Try.prog 100 #[.int .i64 x] w fun e w' => e = .returned (.bool (decide (1 ≤ x ∧ x ≤ 99))) ∧ w' = w := by
  by_cases h1 : 1 ≤ x
  · by_cases h2 : x ≤ 99
    · have hd : decide (1 ≤ x ∧ x ≤ 99) = true := by simp [h1, h2]
      rw [hd]
      clear hd
      go_enter Try.func100, Try.ntmps100
      go_wp2_with fail
      go_ret
      exact ⟨rfl, rfl⟩
    · have hd : decide (1 ≤ x ∧ x ≤ 99) = false := by simp [h2]
      rw [hd]
      clear hd
      go_enter Try.func100, Try.ntmps100
      go_wp2_with fail
      go_ret
      exact ⟨rfl, rfl⟩
  · have hd : decide (1 ≤ x ∧ x ≤ 99) = false := by simp [h1]
    rw [hd]
    clear hd
    go_enter Try.func100, Try.ntmps100
    go_wp2_with fail
    go_ret
    exact ⟨rfl, rfl⟩
set_option maxHeartbeats 4000000 in
set_option maxRecDepth 20000 in
theorem stClean {k : Int} {L a v : List Int} {F : List Bool} (hl : SLen L a v F) (w : World) : Calls Try.prog 82 #[.agg (stv k L a v F).toArray] w fun e w' => ∃ q, e = .returned (.bool q) ∧ (q = true ↔ Clean a v F) ∧ w.grownBy w' none := by
  have IX : Hid (∀ (n : Nat) (h : n < 8) (W : World), (Instr.index 92 (.agg (bvals F).toArray) (.int .i64 n)).run Try.prog W = .ok (.bool (F.getD n false)) W) := Lib.hid (by
    obtain ⟨b0, b1, b2, b3, b4, b5, b6, b7, rfl⟩ := list_eight hl.f
    exact fun n h W => idxF b0 b1 b2 b3 b4 b5 b6 b7 h W)
  have HL := Lib.hid hl
  have S0 := Lib.hid (SB.new w k L a v F)
  have G0 := Lib.hid (World.grownBy_alloc w (.cells (stv k L a v F).toArray 94) none)
  have HF := Lib.hid (infoFl hl.f)
  clear hl
  go_enter Try.func82, Try.ntmps82
  go_upto_region 1 with fail
  generalize w.alloc (.cells (stv k L a v F).toArray 94) = W0 at *
  generalize w.heap.size = g at *
  apply wp_region_lit
  refine wpList_plain rfl (fun K hK => ?_)
  go_simp
  refine hK _ _ ?_
  clear hK
  refine wpList_load_mid rfl _ _ rfl g 49 rfl (bvals F) _ (S0.out.there_ HL.out) Try.underlying92 rfl HF.out ?_
  simp only [Act.put, List.setIfInBounds_toArray, List.set_cons_succ, List.set_cons_zero]
  obtain ⟨fv, hfv⟩ : ∃ x, (bvals F).toArray = x := ⟨_, rfl⟩
  rw [hfv] at IX ⊢
  clear hfv
  go_wp2_with fail
  go_loopw [7] (fun i wr => ∃ n : Nat, n ≤ 8 ∧ i = .int .i64 n ∧ wr = W0 ∧ ∀ j, j < n → CleanAt a v F j) (fun i _ => 8 - (intOf i).toNat)
  case atStart => exact ⟨0, by omega, rfl, rfl, fun j hj => by omega⟩
  case round =>
    obtain ⟨n, hn, rfl, rfl, hc⟩ := hrel
    have HC := Lib.hid hc
    clear hc
    by_cases hlt : n < 8
    · have hlt' : (n : Int) < 8 := by omega
      have ix := IX.out n hlt wr
      have cv := S0.out.val HL.out hlt
      have cx := S0.out.ver HL.out hlt
      have NX : Hid (CleanAt a v F n → ∀ j, j < n + 1 → CleanAt a v F j) := Lib.hid (fun h j hj => by
        by_cases e : j = n
        · subst e; exact h
        · exact HC.out j (by omega))
      have NO : Hid (¬ CleanAt a v F n → ¬ Clean a v F) := Lib.hid (fun h hc => h (hc n hlt))
      obtain ⟨av, hav⟩ : ∃ x, a.getD n 0 = x := ⟨_, rfl⟩
      obtain ⟨vv, hvv⟩ : ∃ x, v.getD n 0 = x := ⟨_, rfl⟩
      have AV := Lib.hid hav
      have VV := Lib.hid hvv
      rw [hav] at cv
      rw [hvv] at cx
      clear hav hvv
      cases hfn : F.getD n false with
      | true =>
        rw [hfn] at ix
        have HT := Lib.hid hfn
        clear hfn
        by_cases ho : 1 ≤ vv ∧ vv ≤ 99
        · have DO : decide (1 ≤ vv ∧ vv ≤ 99) = true := by simp [ho]
          have CA : Hid (CleanAt a v F n) := Lib.hid ⟨fun _ => by rw [VV.out]; exact ho, fun h => by rw [HT.out] at h; cases h⟩
          clear ho
          go_wp2_with fail
          refine (versIs vv _).mono ?_
          rintro e w' ⟨rfl, rfl⟩
          rw [DO]
          clear DO
          go_wp2_with fail
          go_roundw
          case rel => exact ⟨n + 1, by omega, by go_num, by first | rfl | trivial, NX.out CA.out⟩
          case measure => simp [intOf]; omega
        · have DO : decide (1 ≤ vv ∧ vv ≤ 99) = false := by simp only [decide_eq_false_iff_not]; exact ho
          have CA : Hid (¬ CleanAt a v F n) := Lib.hid (fun h => ho (by have := h.1 HT.out; rwa [VV.out] at this))
          clear ho
          go_wp2_with fail
          refine (versIs vv _).mono ?_
          rintro e w' ⟨rfl, rfl⟩
          rw [DO]
          clear DO
          go_wp2_with fail
          go_ret
          exact ⟨false, rfl, ⟨fun h => (by cases h), fun h => absurd h (NO.out CA.out)⟩, G0.out⟩
      | false =>
        rw [hfn] at ix
        have HT := Lib.hid hfn
        clear hfn
        by_cases ha : av = 0
        · subst ha
          by_cases hv : vv = 0
          · subst hv
            have CA : Hid (CleanAt a v F n) := Lib.hid ⟨fun h => (by rw [HT.out] at h; cases h), fun _ => ⟨AV.out, VV.out⟩⟩
            go_wp2_with fail
            go_roundw
            case rel => exact ⟨n + 1, by omega, by go_num, by first | rfl | trivial, NX.out CA.out⟩
            case measure => simp [intOf]; omega
          · have hb : (vv != 0) = true := by rw [bne_iff_ne]; exact hv
            have CA : Hid (¬ CleanAt a v F n) := Lib.hid (fun h => hv (by have := (h.2 HT.out).2; rwa [VV.out] at this))
            clear hv
            go_wp2_with fail
            go_ret
            exact ⟨false, rfl, ⟨fun h => (by cases h), fun h => absurd h (NO.out CA.out)⟩, G0.out⟩
        · have hb : (av != 0) = true := by rw [bne_iff_ne]; exact ha
          have CA : Hid (¬ CleanAt a v F n) := Lib.hid (fun h => ha (by have := (h.2 HT.out).1; rwa [AV.out] at this))
          clear ha
          go_wp2_with fail
          go_ret
          exact ⟨false, rfl, ⟨fun h => (by cases h), fun h => absurd h (NO.out CA.out)⟩, G0.out⟩
    · obtain rfl : n = 8 := by omega
      go_wp2_with fail
      go_ret
      exact ⟨true, rfl, ⟨fun _ => HC.out, fun _ => rfl⟩, G0.out⟩
end Go.Proofs.Ythglkgicckodaaa
