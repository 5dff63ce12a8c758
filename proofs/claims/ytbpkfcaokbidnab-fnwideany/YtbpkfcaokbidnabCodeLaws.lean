/-
  The contracts of the laws' helpers on flags: flags by the bits of a number, how many are there, the rows that are there.
  Conditions: none.
-/
import Derived.Test.YtbpkfcaokbidnabCodeSpec3
import Derived.Test.YtbpkfcaokbidnabCodeRows
import Derived.Test.YtbpkfcaokbidnabHelpB
namespace Go.Proofs.Ytbpkfcaokbidnab
open Go.RowKit
set_option linter.unusedVariables false

theorem bits_take {n k : Nat} (hk : k < 8) : (Sp.bits n).take k ++ [((n / 2 ^ k : Nat) : Int) % 2 == 1] = (Sp.bits n).take (k + 1) := by
  have hl : k < (Sp.bits n).length := by rw [bits_len]; exact hk
  rw [List.take_succ_eq_append_getElem hl]
  have e : (Sp.bits n)[k] = (n / 2 ^ k % 2 == 1) := by simp [Sp.bits]
  have : (((n / 2 ^ k : Nat) : Int) % 2 == 1) = (n / 2 ^ k % 2 == 1) := by
    rw [Bool.eq_iff_iff, beq_iff_eq, beq_iff_eq]; omega
  rw [e, this]
theorem bits_next (n k : Nat) : ((n / 2 ^ k : Nat) : Int) / 2 = ((n / 2 ^ (k + 1) : Nat) : Int) := by
  rw [Nat.pow_succ, ← Nat.div_div_eq_div_mul]; omega

set_option maxHeartbeats 2000000 in
set_option maxRecDepth 20000 in
theorem lkThere (n : Nat) (hn : n < 256) (w : World) : Calls Try.prog 46 #[.int .i64 n] w (NewBools (Sp.bits n) w) := by
  obtain ⟨i0, hi, hz0, hz1, hz2⟩ := info_parts infoBool
  have I1 := Lib.hid hi
  have I2 := Lib.hid hz0
  have I3 := Lib.hid hz1
  have I4 := Lib.hid hz2
  clear hi hz0 hz1 hz2
  have M0 : Hid (BOwn (w.alloc (.cells #[] 4)) w.heap.size (.slice (some ⟨w.heap.size, 0, none⟩) 0 0) []) := Lib.hid ((BArr.new w 4 []).own rfl _ (Nat.le_refl _) (by simp [maxLen]))
  go_enter Try.func46, Try.ntmps46
  go_wp2_with fail
  go_loopw [0, 3, 4] (fun b o i wr => ∃ k : Nat, k ≤ 8 ∧ i = .int .i64 k ∧ b = .int .i64 (n / 2 ^ k : Nat) ∧ w.grownBy wr none ∧ BOwn wr w.heap.size o ((Sp.bits n).take k)) (fun _ _ i _ => 8 - (intOf i).toNat)
  case atStart => exact ⟨0, by omega, rfl, by rw [Nat.pow_zero, Nat.div_one], grown_alloc (World.grownBy.refl _ _) _, M0.out⟩
  case round =>
    obtain ⟨k, hk, rfl, rfl, hg, ho⟩ := hrel
    have G := Lib.hid hg
    have O := Lib.hid ho
    clear hg ho M0
    by_cases hlt : k < 8
    · have hlt' : (k : Int) < 8 := by omega
      have T := Lib.hid (bits_take (n := n) hlt)
      have X := Lib.hid (bits_next n k)
      have tl : ((Sp.bits n).take k).length = k := by rw [List.length_take, bits_len]; omega
      have TL := Lib.hid tl
      have dl : n / 2 ^ k < 256 := Nat.lt_of_le_of_lt (Nat.div_le_self _ _) hn
      generalize n / 2 ^ k = m at *
      have hsz : w.heap.size ≤ wr.heap.size := G.out.size
      obtain ⟨q, hq⟩ : ∃ q, ((m : Int) % 2 == 1) = q := ⟨_, rfl⟩
      rw [hq] at T
      have OW : Hid (wr.ownsRow w.heap.size 4 1 u3 k (bvals ((Sp.bits n).take k))) := Lib.hid (by have := O.out; unfold BOwn at this; rw [TL.out] at this; exact this)
      have hl2 : (bvals ((Sp.bits n).take k)).length = k := by rw [bvals_length]; exact tl
      clear tl O
      go_wp2_with (first
          | (at_builtin; refine wpList_append_own _ rfl _ _ 22 rfl w.heap.size 4 i0 (.bool false) 1 1 Try.underlying22 I1.out I2.out I3.out I4.out rfl (by decide) _ _ _ rfl (World.ownsRow.alloc OW.out _) ⟨wr.heap.size, 0, none⟩ 1 1 [.bool q] rfl rfl (one_cell (g := 0)) (by simp [Value.oneCell']) ?c3 ?c4 ?c5 ?_))
      case c3 => unfold maxLen; omega
      case c4 => omega
      case c5 => simp; omega
      intro o' w5 ho2 hg2 _
      have N : Hid (BOwn w5 w.heap.size o' ((Sp.bits n).take (k + 1))) := Lib.hid (by
        unfold BOwn
        rw [← T.out, ← bvals_append, List.length_append, TL.out]
        exact ho2)
      have G5 : Hid (w.grownBy w5 none) := Lib.hid (grown_own (grown_alloc G.out _) hg2 (fun j hj => (World.ownsRow.lt OW.out j hj).1))
      clear ho2 hg2 OW hq
      go_wp2_with fail
      go_roundw
      case rel => exact ⟨k + 1, by omega, by go_num, by rw [← X.out], G5.out, N.out⟩
      case measure => simp [intOf]; omega
    · obtain rfl : k = 8 := by omega
      have F : Hid ((Sp.bits n).take 8 = Sp.bits n) := Lib.hid (by rw [List.take_of_length_le]; rw [bits_len]; omega)
      go_wp2_with fail
      go_ret
      exact ⟨_, rfl, G.out, by rw [← F.out]; exact O.out⟩

set_option maxHeartbeats 2000000 in
set_option maxRecDepth 20000 in
theorem lkMany (v : Value) (f : List Bool) (w : World) (h : Bl w v f) (hf : f.length ≤ 1000) : Calls Try.prog 42 #[v] w fun e w' => e = .returned (.int .i64 (Sp.many f)) ∧ w.grownBy w' none := by
  obtain ⟨a, cap, rfl, h1, h2, hr⟩ := h
  unfold maxLen at h2
  have R := Lib.hid hr
  clear hr
  go_enter Try.func42, Try.ntmps42
  go_wp2_with fail
  go_loopw [3, 4] (fun o i wr => ∃ k : Nat, k ≤ f.length ∧ i = .int .i64 k ∧ o = .int .i64 (Sp.many (f.take k)) ∧ w.grownBy wr none) (fun _ i _ => f.length - (intOf i).toNat)
  case atStart => exact ⟨0, by omega, rfl, rfl, World.grownBy.refl _ _⟩
  case round =>
    obtain ⟨k, hk, rfl, rfl, hg⟩ := hrel
    have G := Lib.hid hg
    clear hg
    have ml := many_le (f.take k)
    rw [List.length_take] at ml
    by_cases hlt : k < f.length
    · have hlt' : (k : Int) < (f.length : Int) := by omega
      obtain ⟨b, o, rfl, hx⟩ := (R.out.grown G.out).at_ hlt
      have MT := Lib.hid (many_take hlt)
      generalize Sp.many (f.take k) = m at *
      cases hfn : f.getD k false with
      | false =>
        rw [hfn] at hx MT
        clear hfn
        go_wp2_with fail
        go_roundw
        case rel => exact ⟨k + 1, by omega, by go_num, by rw [MT.out]; rfl, G.out⟩
        case measure => simp [intOf]; omega
      | true =>
        rw [hfn] at hx MT
        clear hfn
        go_wp2_with fail
        go_roundw
        case rel => exact ⟨k + 1, by omega, by go_num, by rw [MT.out]; rfl, G.out⟩
        case measure => simp [intOf]; omega
    · obtain rfl : k = f.length := by omega
      rw [List.take_length]
      go_wp2_with fail
      go_ret
      exact ⟨rfl, G.out⟩

set_option maxHeartbeats 2000000 in
set_option maxRecDepth 20000 in
theorem lkTheir {k : Nat} (hk : k = 1 ∨ k = 2) (v : Value) (f : List Bool) (w : World) (h : Bl w v f) (hf : f.length = 8) : Calls Try.prog 48 #[.int .i64 k, v] w (NewSTab w.heap.size (Sp.crows k f) w) := by
  obtain ⟨i0, hi, hz0, hz1, hz2⟩ := info_parts infoInts
  have I1 := Lib.hid hi
  have I2 := Lib.hid hz0
  have I3 := Lib.hid hz1
  have I4 := Lib.hid hz2
  clear hi hz0 hz1 hz2
  obtain ⟨a, cap, rfl, h1, h2, hr⟩ := h
  rw [hf] at h1 ⊢
  unfold maxLen at h2
  have R := Lib.hid hr
  have HF := Lib.hid hf
  clear hr hf
  have M0 := Lib.hid (STab.made w w.heap.size (Nat.le_refl _))
  have RW := Lib.hid (fun (n : Nat) (h : n < 8) (w : World) => codeRowYes hk h w)
  go_enter Try.func48, Try.ntmps48
  go_wp2_with fail
  go_loopw [5, 6] (fun o i wr => ∃ n : Nat, n ≤ 8 ∧ i = .int .i64 n ∧ w.grownBy wr none ∧ ∃ vs, STab wr w.heap.size o vs (crowsK k f n)) (fun _ i _ => 8 - (intOf i).toNat)
  case atStart => exact ⟨0, by omega, rfl, grown_alloc (World.grownBy.refl _ _) _, [], M0.out⟩
  case round =>
    obtain ⟨n, hn, rfl, hg, vs, ho⟩ := hrel
    have GR := Lib.hid hg
    have O := Lib.hid ho
    clear hg ho M0
    by_cases hlt : n < 8
    · have hlt' : (n : Int) < 8 := by omega
      obtain ⟨b, o, rfl, hx⟩ := (R.out.grown GR.out).at_ (k := n) (by rw [HF.out]; exact hlt)
      cases hfn : f.getD n false with
      | false =>
        rw [hfn] at hx
        have CK := Lib.hid (crowsK_no (k := k) hfn)
        clear hfn
        go_wp2_with fail
        go_roundw
        case rel => exact ⟨n + 1, by omega, by go_num, GR.out, vs, by rw [CK.out]; exact O.out⟩
        case measure => simp [intOf]; omega
      | true =>
        rw [hfn] at hx
        have CK := Lib.hid (crowsK_yes (k := k) hfn)
        have vl : vs.length ≤ 8 := by
          have := crowsK_len k f n
          rw [← O.out.len] at this
          omega
        clear hfn
        have r4 := (Sp.crow_row hk hlt).1
        have C4 := Lib.hid r4
        clear r4
        have hsz : w.heap.size ≤ wr.heap.size := GR.out.size
        have RN := Lib.hid (RW.out n hlt)
        generalize Sp.crow k n = row at *
        go_wp2_with fail
        refine (RN.out _).mono ?_
        rintro e w3 ⟨u, rfl, hg, ho⟩
        have G3 := Lib.hid hg
        have R3 : Hid (Sl w3 u row ∧ IntRow w3 u) := Lib.hid ⟨ho.sl, ho.intRow⟩
        have TOP : Hid (w3.ownsRow w.heap.size 33 1 u5 vs.length vs) := Lib.hid (O.out.still hg).top
        obtain ⟨au, cu, eu, _, _, _⟩ := ho.sl
        rw [C4.out] at eu
        clear hg ho hx
        subst eu
        have s3 : w.heap.size ≤ w3.heap.size := Nat.le_trans hsz G3.out.size
        go_wp2_with (first
          | (at_builtin; refine wpList_append_own _ rfl _ _ 62 rfl w.heap.size 33 i0 (.slice none 0 0) 1 24 Try.underlying62 I1.out I2.out I3.out I4.out rfl (by decide) _ _ _ rfl (World.ownsRow.alloc TOP.out _) ⟨w3.heap.size, 0, none⟩ 1 1 [.slice au 4 cu] rfl rfl (one_cell (g := 0)) (by simp [Value.oneCell']) ?c3 ?c4 ?c5 ?_))
        case c3 => unfold maxLen; omega
        case c4 => omega
        case c5 => simp; omega
        intro o' w5 ho2 hg2 _
        have N : Hid (STab w5 w.heap.size o' (vs ++ [.slice au 4 cu]) (crowsK k f (n + 1))) := Lib.hid (O.out.snoc G3.out R3.out (grown_trans (World.grownBy_alloc _ _ _) hg2) ho2 rfl CK.out)
        have G5 : Hid (w.grownBy w5 none) := Lib.hid (grown_own (grown_alloc (grown_trans GR.out G3.out) _) hg2 (fun j hj => (World.ownsRow.lt TOP.out j hj).1))
        clear ho2 hg2 TOP R3 G3
        go_wp2_with fail
        go_roundw
        case rel => exact ⟨n + 1, by omega, by go_num, G5.out, _, N.out⟩
        case measure => simp [intOf]; omega
    · obtain rfl : n = 8 := by omega
      go_wp2_with fail
      go_ret
      exact ⟨_, vs, rfl, GR.out, O.out⟩
end Go.Proofs.Ytbpkfcaokbidnab
