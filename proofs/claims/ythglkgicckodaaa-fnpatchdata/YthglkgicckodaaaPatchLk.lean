/-
  The laws' helpers of chapter 22: two rows compared, whatever they are; two of patches that read alike.
  Conditions: none.
-/
import Derived.Test.YthglkgicckodaaaPatchMath2
import Derived.Test.YthglkgicckodaaaPatchHelp
import Derived.Test.YthglkgicckodaaaG1
namespace Go.Proofs.Ythglkgicckodaaa
open Go.RowKit
set_option linter.unusedVariables false

set_option maxHeartbeats 2000000 in
set_option maxRecDepth 20000 in
theorem lkDiffer (u v : Value) (l m : List Int) (w : World) (h : Sl w u l) (k : Sl w v m) (hne : l ≠ m) : Calls Try.prog 16 #[u, v] w fun e w' => e = .returned (.bool false) ∧ w.grownBy w' none := by
  obtain ⟨a, cap, rfl, hlc, hcm, hr⟩ := h
  obtain ⟨a', cap', rfl, hlc', hcm', hr'⟩ := k
  have R := Lib.hid hr
  have R' := Lib.hid hr'
  have NE := Lib.hid hne
  clear hr hr' hne
  unfold maxLen at hcm hcm'
  by_cases hlen : l.length = m.length
  · obtain ⟨n, hn⟩ : ∃ n, n = l.length := ⟨_, rfl⟩
    have N := Lib.hid hn
    have M := Lib.hid (show n = m.length by omega)
    rw [← hlen, ← hn] at hlc'
    rw [← hn] at hlc
    rw [← hlen, ← hn]
    clear hn hlen
    have hne : ((n : Int) != (n : Int)) = false := by simp
    go_enter Try.func16, Try.ntmps16
    go_wp2_with fail
    go_loopw [5] (fun i wr => ∃ k : Nat, i = .int .i64 k ∧ k ≤ n ∧ w.grownBy wr none ∧ ∀ j, j < k → l.getD j 0 = m.getD j 0) (fun i _ => n - (intOf i).toNat)
    case atStart => exact ⟨0, rfl, Nat.zero_le _, World.grownBy.refl _ _, by omega⟩
    case round =>
      obtain ⟨k, rfl, hk, hg, hall⟩ := hrel
      have G := Lib.hid hg
      have AL := Lib.hid hall
      clear hg hall
      by_cases hlt : k < n
      · have hlt' : (k : Int) < (n : Int) := by omega
        obtain ⟨b, o, rfl, hx⟩ := (R.out.grown G.out).at_ (show k < l.length by rw [← N.out]; exact hlt)
        obtain ⟨b', o', rfl, hx'⟩ := (R'.out.grown G.out).at_ (show k < m.length by rw [← M.out]; exact hlt)
        obtain ⟨x, hxe⟩ : ∃ x, l.getD k 0 = x := ⟨_, rfl⟩
        obtain ⟨y, hye⟩ : ∃ x, m.getD k 0 = x := ⟨_, rfl⟩
        rw [hxe] at hx
        rw [hye] at hx'
        have X := Lib.hid hxe
        have Y := Lib.hid hye
        clear hxe hye
        by_cases hxy : x = y
        · subst hxy
          go_wp2_with fail
          go_quiet (fail)
          go_wp2_with fail
          go_roundw
          case rel => exact ⟨k + 1, by go_num, by omega, grown_draws G.out _, fun j hj => by
            by_cases hjk : j = k
            · subst hjk; rw [X.out, Y.out]
            · exact AL.out j (by omega)⟩
          case measure => simp [intOf]; omega
        · go_wp2_with fail
          go_quiet (fail)
          go_wp2_with fail
          go_ret
          exact ⟨rfl, grown_draws G.out _⟩
      · exact absurd (row_ext (n := n) N.out.symm M.out.symm fun i hi => AL.out i (by omega)) NE.out
  · have hne : ((l.length : Int) != (m.length : Int)) = true := by rw [bne_iff_ne]; omega
    clear hlen
    go_enter Try.func16, Try.ntmps16
    go_wp2_with fail
    go_ret
    exact ⟨rfl, World.grownBy.refl _ _⟩

set_option maxHeartbeats 4000000 in
set_option maxRecDepth 20000 in
theorem lkPatchSame (u v : Value) (L : List Pat) (w : World) (h : PSl w u L) (k : PSl w v L) : Calls Try.prog 12 #[u, v] w fun e w' => e = .returned (.bool true) ∧ w.grownBy w' none := by
  obtain ⟨a, cap, rfl, hlc, hcm, hr⟩ := h
  obtain ⟨a', cap', rfl, hlc', hcm', hr'⟩ := k
  have R : Hid (Rds w a (pflat L)) := Lib.hid hr
  have R' : Hid (Rds w a' (pflat L)) := Lib.hid hr'
  clear hr hr'
  unfold maxLen at hcm hcm'
  obtain ⟨n, hn⟩ : ∃ n, n = L.length := ⟨_, rfl⟩
  rw [← hn] at hlc hlc' ⊢
  have N := Lib.hid hn
  clear hn
  have hne : ((n : Int) != (n : Int)) = false := by simp
  go_enter Try.func12, Try.ntmps12
  go_wp2_with fail
  go_loopw [5] (fun i wr => ∃ k : Nat, i = .int .i64 k ∧ k ≤ n ∧ w.grownBy wr none) (fun i _ => n - (intOf i).toNat)
  case atStart => exact ⟨0, rfl, Nat.zero_le _, World.grownBy.refl _ _⟩
  case round =>
    obtain ⟨k, rfl, hk, hg⟩ := hrel
    have G := Lib.hid hg
    clear hg
    by_cases hlt : k < n
    · have hlt' : (k : Int) < (n : Int) := by omega
      obtain ⟨b, o, rfl, c0, c1⟩ := pcells (R.out.grown G.out) (k := k) (by rw [← N.out]; exact hlt)
      obtain ⟨b', o', rfl, d0, d1⟩ := pcells (R'.out.grown G.out) (k := k) (by rw [← N.out]; exact hlt)
      generalize L.getD k pat0 = s at *
      obtain ⟨p, x⟩ := s
      dsimp only at c0 c1 d0 d1
      go_wp2_with fail
      go_quiet (fail)
      go_wp2_with fail
      go_roundw
      case rel => exact ⟨k + 1, by go_num, by omega, grown_draws G.out _⟩
      case measure => simp [intOf]; omega
    · go_wp2_with fail
      go_ret
      exact ⟨rfl, G.out⟩
end Go.Proofs.Ythglkgicckodaaa
