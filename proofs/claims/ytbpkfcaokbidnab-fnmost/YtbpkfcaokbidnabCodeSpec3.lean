/-
  The contracts of CodeMost in the model: flags by the bits of a number, how many are there, how many may be lost.
  Conditions: none.
-/
import Derived.Test.YtbpkfcaokbidnabCodeSpec2
import Derived.Test.YtbpkfcaokbidnabCodeMost2
namespace Go.Proofs.Ytbpkfcaokbidnab
open Go.RowKit
set_option linter.unusedVariables false

theorem makeEight (W : World) : (Instr.makeSlice 22 (.int .i64 8) (.int .i64 8)).run Try.prog W = .ok (.slice (some ⟨W.heap.size, 0, none⟩) 8 8) (W.alloc (.cells #[.bool false, .bool false, .bool false, .bool false, .bool false, .bool false, .bool false, .bool false] 4)) := by
  obtain ⟨i0, hi, hz0, hz1, hz2⟩ := info_parts (show (Try.prog.info? 4).map (fun i => (i.zero, i.size, i.bytes)) = some (some (.bool false), 1, 1) by kernel_rfl)
  have h := run_make (P := Try.prog) W 22 4 i0 (.bool false) Try.underlying22 hi hz0 .i64 .i64 8 8 (by omega) (by omega) (by rw [hz2]; decide) (by omega)
  have e : madeCells (Value.bool false).cells (8 * 1) = #[.bool false, .bool false, .bool false, .bool false, .bool false, .bool false, .bool false, .bool false] := Array.ext' (toList_madeCells_one (.bool false) 8)
  rw [h, hz1, ← e]
  rfl

theorem set_bits : ∀ n : Nat, n < 256 → [(n : Int) % 2 == 1, (n : Int) / 2 % 2 == 1, (n : Int) / 2 / 2 % 2 == 1, (n : Int) / 2 / 2 / 2 % 2 == 1, (n : Int) / 2 / 2 / 2 / 2 % 2 == 1, (n : Int) / 2 / 2 / 2 / 2 / 2 % 2 == 1, (n : Int) / 2 / 2 / 2 / 2 / 2 / 2 % 2 == 1, (n : Int) / 2 / 2 / 2 / 2 / 2 / 2 / 2 % 2 == 1] = Sp.bits n := by decide +kernel

set_option maxHeartbeats 2000000 in
set_option maxRecDepth 20000 in
theorem specL4Set (n : Nat) (hn : n < 256) (w : World) : Calls Try.prog 88 #[.int .i64 n] w (NewBools (Sp.bits n) w) := by
  have hm := makeEight
  go_enter Try.func88, Try.ntmps88
  go_wp2_with fail
  go_rounds 9
  have key := set_bits n hn
  go_ret
  refine ⟨_, rfl, grown_alloc (World.grownBy.refl _ _) _, ?_⟩
  rw [← key]
  exact (BArr.new w 4 [(n : Int) % 2 == 1, (n : Int) / 2 % 2 == 1, (n : Int) / 2 / 2 % 2 == 1, (n : Int) / 2 / 2 / 2 % 2 == 1, (n : Int) / 2 / 2 / 2 / 2 % 2 == 1, (n : Int) / 2 / 2 / 2 / 2 / 2 % 2 == 1, (n : Int) / 2 / 2 / 2 / 2 / 2 / 2 % 2 == 1, (n : Int) / 2 / 2 / 2 / 2 / 2 / 2 / 2 % 2 == 1]).own rfl _ (Nat.le_refl _) (by simp [maxLen])

theorem many_take {f : List Bool} {k : Nat} (h : k < f.length) : Sp.many (f.take (k + 1)) = Sp.many (f.take k) + (if f.getD k false then 1 else 0) := by
  unfold Sp.many
  rw [List.take_succ_eq_append_getElem h, List.count_append]
  have e : f[k] = f.getD k false := by simp [List.getD_eq_getElem?_getD, h]
  rw [e]
  cases f.getD k false <;> simp
theorem many_le (f : List Bool) : Sp.many f ≤ f.length := List.count_le_length

set_option maxHeartbeats 2000000 in
set_option maxRecDepth 20000 in
theorem specMany (v : Value) (f : List Bool) (w : World) (h : Bl w v f) (hf : f.length ≤ 1000) : Calls Try.prog 89 #[v] w fun e w' => e = .returned (.int .i64 (Sp.many f)) ∧ w.grownBy w' none := by
  obtain ⟨a, cap, rfl, h1, h2, hr⟩ := h
  unfold maxLen at h2
  have R := Lib.hid hr
  clear hr
  go_enter Try.func89, Try.ntmps89
  go_wp2_with fail
  go_loopw [3, 4] (fun o i wr => ∃ k : Nat, k ≤ f.length ∧ i = .int .i64 k ∧ o = .int .i64 (Sp.many (f.take k)) ∧ w.grownBy wr none) (fun _ i _ => f.length - (intOf i).toNat)
  case atStart => exact ⟨0, by omega, rfl, rfl, World.grownBy.refl _ _⟩
  case round =>
    obtain ⟨k, hk, rfl, rfl, hg⟩ := hrel
    have G := Lib.hid hg
    clear hg
    have ml := many_le (f.take k)
    rw [List.length_take] at ml
    by_cases hlt : k < f.length
    · have hlt' : (k : Int) < (f.length : Int) := by omega
      obtain ⟨b, o, rfl, hx⟩ := (R.out.grown G.out).at_ hlt
      have MT := Lib.hid (many_take hlt)
      generalize Sp.many (f.take k) = m at *
      cases hfn : f.getD k false with
      | false =>
        rw [hfn] at hx MT
        clear hfn
        go_wp2_with fail
        go_roundw
        case rel => exact ⟨k + 1, by omega, by go_num, by rw [MT.out]; rfl, G.out⟩
        case measure => simp [intOf]; omega
      | true =>
        rw [hfn] at hx MT
        clear hfn
        go_wp2_with fail
        go_roundw
        case rel => exact ⟨k + 1, by omega, by go_num, by rw [MT.out]; rfl, G.out⟩
        case measure => simp [intOf]; omega
    · obtain rfl : k = f.length := by omega
      rw [List.take_length]
      go_wp2_with fail
      go_ret
      exact ⟨rfl, G.out⟩

/-- so many may be lost, by the first n sets of those that are there. -/
def mosK (k : Nat) : Nat → Int
  | 0 => 8
  | n + 1 => if Sp.bears k (Sp.bits n) then mosK k n else min (mosK k n) (8 - (Sp.many (Sp.bits n) : Int) - 1)
theorem mos_all {k : Nat} (hk : k = 1 ∨ k = 2) : mosK k 256 = Sp.most k := by
  have h1 : mosK 1 256 = Sp.most 1 := by decide +kernel
  have h2 : mosK 2 256 = Sp.most 2 := by decide +kernel
  rcases hk with rfl | rfl
  · exact h1
  · exact h2
theorem bits_len (n : Nat) : (Sp.bits n).length = 8 := by simp [Sp.bits]

set_option maxHeartbeats 2000000 in
set_option maxRecDepth 20000 in
theorem specMost (k : Int) (w : World) : Calls Try.prog 45 #[.int .i64 k] w fun e w' => e = .returned (.int .i64 (mostM k)) ∧ w.grownBy w' none := by
  rcases kind_cases k with ⟨j, rfl, hj⟩ | ⟨k1, k2⟩
  · rw [mostM_yes hj]
    have K := kindM_yes hj
    have FA := Lib.hid (mos_all hj)
    go_enter Try.func45, Try.ntmps45
    go_wp2_with fail
    refine (specKind j _).mono ?_
    rintro e w' ⟨rfl, rfl⟩
    rw [K]
    go_wp2_with fail
    go_loopw [3, 4] (fun o i wr => ∃ n : Nat, n ≤ 256 ∧ i = .int .i64 n ∧ o = .int .i64 (mosK j n) ∧ w.grownBy wr none) (fun _ i _ => 256 - (intOf i).toNat)
    case atStart => exact ⟨0, by omega, rfl, rfl, World.grownBy.refl _ _⟩
    case round =>
      obtain ⟨n, hn, rfl, rfl, hg⟩ := hrel
      have G := Lib.hid hg
      clear hg
      by_cases hlt : n < 256
      · have hlt' : (n : Int) < 256 := by omega
        have MK : Hid (mosK j (n + 1) = if Sp.bears j (Sp.bits n) then mosK j n else min (mosK j n) (8 - (Sp.many (Sp.bits n) : Int) - 1)) := Lib.hid rfl
        have BM := Lib.hid (bearsM_yes hj (bits_len n))
        have ml := many_le (Sp.bits n)
        rw [bits_len] at ml
        have SL := Lib.hid (fun w => specL4Set n hlt w)
        have BL : Hid ((Sp.bits n).length ≤ 1000) := Lib.hid (by rw [bits_len]; omega)
        generalize Sp.bits n = f at *
        generalize Sp.bears j f = q at *
        generalize mosK j n = mo at *
        go_wp2_with fail
        refine (SL.out _).mono ?_
        rintro e w2 ⟨v, rfl, hg, ho⟩
        have G2 := Lib.hid (grown_trans G.out hg)
        have O2 := Lib.hid ho.bl
        clear hg ho G
        go_wp2_with fail
        refine (specBears j v f _ O2.out).mono ?_
        rintro e w3 ⟨rfl, hg⟩
        rw [BM.out]
        have G3 := Lib.hid (grown_trans G2.out hg)
        have O3 := Lib.hid (O2.out.grown hg)
        clear hg G2 O2 BM SL
        cases q with
        | true =>
          have MK' : Hid (mosK j (n + 1) = mo) := Lib.hid (by rw [MK.out]; rfl)
          clear MK
          go_wp2_with fail
          go_roundw
          case rel => exact ⟨n + 1, by omega, by go_num, by rw [MK'.out], G3.out⟩
          case measure => simp [intOf]; omega
        | false =>
          have MK' : Hid (mosK j (n + 1) = min mo (8 - (Sp.many f : Int) - 1)) := Lib.hid (by rw [MK.out]; rfl)
          clear MK
          go_wp2_with fail
          refine (specMany v f _ O3.out BL.out).mono ?_
          rintro e w4 ⟨rfl, hg⟩
          have G4 := Lib.hid (grown_trans G3.out hg)
          clear hg G3 O3
          generalize Sp.many f = m at *
          go_wp2_with fail
          refine ⟨⟨n + 1, by omega, by go_num, ?_, G4.out⟩, by simp [intOf]; omega⟩
          rw [MK'.out]
          refine congrArg _ ?_
          split <;> omega
      · obtain rfl : n = 256 := by omega
        rw [FA.out]
        go_wp2_with fail
        go_ret
        exact ⟨rfl, G.out⟩
  · rw [mostM_no k1 k2]
    have K := kindM_no k1 k2
    clear k1 k2
    go_enter Try.func45, Try.ntmps45
    go_wp2_with fail
    refine (specKind k _).mono ?_
    rintro e w' ⟨rfl, rfl⟩
    rw [K]
    go_wp2_with fail
    go_ret
    exact ⟨rfl, World.grownBy.refl _ _⟩
end Go.Proofs.Ytbpkfcaokbidnab
