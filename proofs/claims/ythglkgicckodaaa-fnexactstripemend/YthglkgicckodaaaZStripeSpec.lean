/-
  What this claim wants of the texts of earlier chapters.
  Conditions: none.
-/
import Derived.Test.YthglkgicckodaaaZStripePub
import Derived.Test.YthglkgicckodaaaZReadSpec2
namespace Go.Proofs.Ythglkgicckodaaa
open Go.RowKit Go.Shelf
set_option linter.unusedVariables false
set_option linter.unusedSimpArgs false
set_option maxHeartbeats 4000000 in
set_option maxRecDepth 20000 in
theorem specOf (k n : Int) (u x y : Value) (a v : List Int) (f : List Bool) (w : World) (hu : Sl w u a) (hx : Sl w x v) (hy : Bl w y f) (h8 : v.length = 8) (hf : f.length = 8) : Calls Try.prog 74 #[.agg #[.int .i64 k, u, x, y], .int .i64 n] w (NewBools (ofM v f n) w) := by
  obtain ⟨i0, hi, hz0, hz1, hz2⟩ := info_parts infoBool
  have I1 := Lib.hid hi
  have I2 := Lib.hid hz0
  have I3 := Lib.hid hz1
  have I4 := Lib.hid hz2
  clear hi hz0 hz1 hz2
  have U := Lib.hid hu
  have X := Lib.hid hx
  have Y := Lib.hid hy
  obtain ⟨a1, c1, e1, q1, q2, hr1⟩ := hu
  obtain ⟨a2, c2, e2, q3, q4, hr2⟩ := hx
  obtain ⟨a3, c3, e3, q5, q6, hr3⟩ := hy
  subst e1 e2 e3
  have R1 := Lib.hid hr1
  have R2 := Lib.hid hr2
  have R3 := Lib.hid hr3
  obtain ⟨l1, hl1⟩ : ∃ n, n = a.length := ⟨_, rfl⟩
  obtain ⟨l2, hl2⟩ : ∃ n, n = v.length := ⟨_, rfl⟩
  obtain ⟨l3, hl3⟩ : ∃ n, n = f.length := ⟨_, rfl⟩
  rw [← hl1] at U q1 ⊢
  rw [← hl2] at X q3 ⊢
  rw [← hl3] at Y q5 ⊢
  have NL1 := Lib.hid hl1
  have NL2 := Lib.hid hl2
  have NL3 := Lib.hid hl3
  unfold maxLen at q2 q4 q6
  clear hl1 hl2 hl3 hr1 hr2 hr3
  obtain rfl : l2 = 8 := NL2.out.trans h8
  obtain rfl : l3 = 8 := NL3.out.trans hf
  clear h8 hf
  have K0 : Hid (Blk ((w.alloc (.cells #[.int .i64 k, .slice a1 l1 c1, .slice a2 8 c2, .slice a3 8 c3] 45)).alloc (.cells #[] 4)) w.heap.size 45 [.int .i64 k, .slice a1 l1 c1, .slice a2 8 c2, .slice a3 8 c3]) := Lib.hid (by
    have h : Blk (w.alloc (.cells #[.int .i64 k, .slice a1 l1 c1, .slice a2 8 c2, .slice a3 8 c3] 45)) w.heap.size 45 [.int .i64 k, .slice a1 l1 c1, .slice a2 8 c2, .slice a3 8 c3] := heap_alloc_new _ _
    exact h.kept (World.grownBy_alloc _ _ none) (by simp))
  have M0 : Hid (BOwn ((w.alloc (.cells #[.int .i64 k, .slice a1 l1 c1, .slice a2 8 c2, .slice a3 8 c3] 45)).alloc (.cells #[] 4)) (w.heap.size + 1) (.slice (some ⟨w.heap.size + 1, 0, none⟩) 0 0) []) := Lib.hid (by
    have := (BArr.new (w.alloc (.cells #[.int .i64 k, .slice a1 l1 c1, .slice a2 8 c2, .slice a3 8 c3] 45)) 4 []).own rfl (w.heap.size + 1) (by simp) (by simp [maxLen])
    rw [World.size_alloc] at this
    exact this)
  have G0 := Lib.hid (grown_alloc (World.grownBy_alloc w (.cells #[.int .i64 k, .slice a1 l1 c1, .slice a2 8 c2, .slice a3 8 c3] 45) none) (.cells #[] 4))
  go_enter Try.func74, Try.ntmps74
  go_upto_region 2 with fail
  have LZ : w.heap.size + 1 ≤ ((w.alloc (.cells #[.int .i64 k, .slice a1 l1 c1, .slice a2 8 c2, .slice a3 8 c3] 45)).alloc (.cells #[] 4)).heap.size := by simp
  generalize (w.alloc (.cells #[.int .i64 k, .slice a1 l1 c1, .slice a2 8 c2, .slice a3 8 c3] 45)).alloc (.cells #[] 4) = W0 at *
  obtain ⟨g, hg⟩ : ∃ g, g = w.heap.size := ⟨_, rfl⟩
  have HG := Lib.hid hg
  rw [← hg] at K0 M0 LZ ⊢
  clear hg
  go_wp2_with fail
  go_loopw [5, 6] (fun o i wr => ∃ m : Nat, m ≤ 8 ∧ i = .int .i64 m ∧ w.grownBy wr none ∧ Blk wr g 45 [.int .i64 k, .slice a1 l1 c1, .slice a2 8 c2, .slice a3 8 c3] ∧ g + 1 ≤ wr.heap.size ∧ BOwn wr (g + 1) o (ofN v f n m)) (fun _ i _ => 8 - (intOf i).toNat)
  case atStart => exact ⟨0, by omega, rfl, G0.out, K0.out, LZ, M0.out⟩
  case round =>
    obtain ⟨m, hm, rfl, hg, hk, hz, ho⟩ := hrel
    have G := Lib.hid hg
    have K := Lib.hid hk
    have O := Lib.hid ho
    clear hg hk ho K0 M0 G0 LZ
    have k2 := K.out.cell (i := 2) rfl
    have k3 := K.out.cell (i := 3) rfl
    by_cases hlt : m < 8
    · have hlt' : (m : Int) < 8 := by omega
      obtain ⟨b2, o2, rfl, hx2⟩ := (R2.out.grown G.out).at_ (k := m) (by rw [← NL2.out]; exact hlt)
      obtain ⟨b3, o3, rfl, hx3⟩ := (R3.out.grown G.out).at_ (k := m) (by rw [← NL3.out]; exact hlt)
      have T := Lib.hid (ofN_snoc v f n m)
      obtain ⟨t, ht⟩ : ∃ t, f.getD m false = t := ⟨_, rfl⟩
      obtain ⟨z, hz'⟩ : ∃ z, v.getD m 0 = z := ⟨_, rfl⟩
      rw [ht] at hx3 T
      rw [hz'] at hx2 T
      clear ht hz'
      have OW : Hid (wr.ownsRow (g + 1) 4 1 u5 m (bvals (ofN v f n m))) := Lib.hid (by have := O.out; unfold BOwn at this; rw [ofN_len] at this; exact this)
      have hl2 : (bvals (ofN v f n m)).length = m := by rw [bvals_length, ofN_len]
      clear O
      cases t with
      | false =>
        rw [Bool.false_and] at T
        go_wp2_with (first
          | (at_builtin; refine wpList_append_own _ rfl _ _ 41 rfl (g + 1) 4 i0 (.bool false) 1 1 Try.underlying41 I1.out I2.out I3.out I4.out rfl (by decide) _ _ _ rfl (World.ownsRow.alloc OW.out _) ⟨wr.heap.size, 0, none⟩ 1 1 [.bool false] rfl rfl (one_cell (g := 0)) (by simp [Value.oneCell']) ?c3 ?c4 ?c5 ?_))
        case c3 => unfold maxLen; omega
        case c4 => omega
        case c5 => simp; omega
        intro o' w5 ho2 hg2 _
        have N : Hid (BOwn w5 (g + 1) o' (ofN v f n (m + 1))) := Lib.hid (by
          unfold BOwn
          rw [← T.out, ← bvals_append, List.length_append, ofN_len]
          exact ho2)
        have G5 : Hid (w.grownBy w5 none) := Lib.hid (grown_own (grown_alloc G.out _) hg2 (fun j hj => by have := (World.ownsRow.lt OW.out j hj).1; rw [← HG.out]; omega))
        have K5 : Hid (Blk w5 g 45 [.int .i64 k, .slice a1 l1 c1, .slice (some ⟨b2, o2, none⟩) 8 c2, .slice (some ⟨b3, o3, none⟩) 8 c3]) := Lib.hid ((K.out.kept (World.grownBy_alloc wr _ none) (by simp)).kept hg2 (fun e => by have := (World.ownsRow.lt OW.out g e.symm).1; omega))
        have Z5 : g + 1 ≤ w5.heap.size := by have := hg2.size; simp at this; omega
        clear ho2 hg2 OW
        go_wp2_with fail
        go_roundw
        case rel => exact ⟨m + 1, by omega, by go_num, G5.out, K5.out, Z5, N.out⟩
        case measure => simp [intOf]; omega
      | true =>
        rw [Bool.true_and] at T
        obtain ⟨q, hq⟩ : ∃ q, (z == n) = q := ⟨_, rfl⟩
        rw [hq] at T
        go_wp2_with (first
          | (at_builtin; refine wpList_append_own _ rfl _ _ 41 rfl (g + 1) 4 i0 (.bool false) 1 1 Try.underlying41 I1.out I2.out I3.out I4.out rfl (by decide) _ _ _ rfl (World.ownsRow.alloc OW.out _) ⟨wr.heap.size, 0, none⟩ 1 1 [.bool q] rfl rfl (one_cell (g := 0)) (by simp [Value.oneCell']) ?c3 ?c4 ?c5 ?_))
        case c3 => unfold maxLen; omega
        case c4 => omega
        case c5 => simp; omega
        intro o' w5 ho2 hg2 _
        have N : Hid (BOwn w5 (g + 1) o' (ofN v f n (m + 1))) := Lib.hid (by
          unfold BOwn
          rw [← T.out, ← bvals_append, List.length_append, ofN_len]
          exact ho2)
        have G5 : Hid (w.grownBy w5 none) := Lib.hid (grown_own (grown_alloc G.out _) hg2 (fun j hj => by have := (World.ownsRow.lt OW.out j hj).1; rw [← HG.out]; omega))
        have K5 : Hid (Blk w5 g 45 [.int .i64 k, .slice a1 l1 c1, .slice (some ⟨b2, o2, none⟩) 8 c2, .slice (some ⟨b3, o3, none⟩) 8 c3]) := Lib.hid ((K.out.kept (World.grownBy_alloc wr _ none) (by simp)).kept hg2 (fun e => by have := (World.ownsRow.lt OW.out g e.symm).1; omega))
        have Z5 : g + 1 ≤ w5.heap.size := by have := hg2.size; simp at this; omega
        clear ho2 hg2 OW hq
        go_wp2_with fail
        go_roundw
        case rel => exact ⟨m + 1, by omega, by go_num, G5.out, K5.out, Z5, N.out⟩
        case measure => simp [intOf]; omega
    · obtain rfl : m = 8 := by omega
      go_wp2_with fail
      go_ret
      exact ⟨_, rfl, G.out, by rw [← HG.out]; exact O.out.lower (by omega)⟩
set_option maxHeartbeats 4000000 in
set_option maxRecDepth 20000 in
theorem specL21Top (k : Int) (u x y : Value) (a v : List Int) (f : List Bool) (w : World) (hu : Sl w u a) (hx : Sl w x v) (hy : Bl w y f) (h8 : v.length = 8) : Calls Try.prog 94 #[.agg #[.int .i64 k, u, x, y]] w fun e w' => e = .returned (.int .i64 (topN v 8)) ∧ w.grownBy w' none := by
  have U := Lib.hid hu
  have X := Lib.hid hx
  have Y := Lib.hid hy
  obtain ⟨a1, c1, e1, q1, q2, hr1⟩ := hu
  obtain ⟨a2, c2, e2, q3, q4, hr2⟩ := hx
  obtain ⟨a3, c3, e3, q5, q6, hr3⟩ := hy
  subst e1 e2 e3
  have R1 := Lib.hid hr1
  have R2 := Lib.hid hr2
  have R3 := Lib.hid hr3
  obtain ⟨l1, hl1⟩ : ∃ n, n = a.length := ⟨_, rfl⟩
  obtain ⟨l2, hl2⟩ : ∃ n, n = v.length := ⟨_, rfl⟩
  obtain ⟨l3, hl3⟩ : ∃ n, n = f.length := ⟨_, rfl⟩
  rw [← hl1] at U q1 ⊢
  rw [← hl2] at X q3 ⊢
  rw [← hl3] at Y q5 ⊢
  have NL1 := Lib.hid hl1
  have NL2 := Lib.hid hl2
  have NL3 := Lib.hid hl3
  unfold maxLen at q2 q4 q6
  clear hl1 hl2 hl3 hr1 hr2 hr3
  obtain rfl : l2 = 8 := NL2.out.trans h8
  clear h8
  have K0 : Hid (Blk (w.alloc (.cells #[.int .i64 k, .slice a1 l1 c1, .slice a2 8 c2, .slice a3 l3 c3] 45)) w.heap.size 45 [.int .i64 k, .slice a1 l1 c1, .slice a2 8 c2, .slice a3 l3 c3]) := Lib.hid (heap_alloc_new _ _)
  have G0 := Lib.hid (World.grownBy_alloc w (.cells #[.int .i64 k, .slice a1 l1 c1, .slice a2 8 c2, .slice a3 l3 c3] 45) none)
  go_enter Try.func94, Try.ntmps94
  go_upto_region 1 with fail
  generalize w.alloc (.cells #[.int .i64 k, .slice a1 l1 c1, .slice a2 8 c2, .slice a3 l3 c3] 45) = W0 at *
  generalize w.heap.size = g at *
  go_wp2_with fail
  go_loopw [3, 4] (fun o i wr => ∃ m : Nat, m ≤ 8 ∧ i = .int .i64 m ∧ o = .int .i64 (topN v m) ∧ wr = W0) (fun _ i _ => 8 - (intOf i).toNat)
  case atStart => exact ⟨0, by omega, rfl, rfl, rfl⟩
  case round =>
    obtain ⟨m, hm, rfl, rfl, rfl⟩ := hrel
    have k2 := K0.out.cell (i := 2) rfl
    by_cases hlt : m < 8
    · have hlt' : (m : Int) < 8 := by omega
      obtain ⟨b2, o2, rfl, hx2⟩ := (R2.out.grown G0.out).at_ (k := m) (by rw [← NL2.out]; exact hlt)
      have TN : Hid (topN v (m + 1) = max (topN v m) (v.getD m 0)) := Lib.hid rfl
      obtain ⟨z, hz⟩ : ∃ z, v.getD m 0 = z := ⟨_, rfl⟩
      obtain ⟨q, hq⟩ : ∃ z, topN v m = z := ⟨_, rfl⟩
      rw [hz] at hx2 TN
      rw [hq] at TN ⊢
      clear hz hq
      go_wp2_with fail
      go_roundw
      case rel => exact ⟨m + 1, by omega, by go_num, by rw [TN.out]; congr 1; split <;> omega, by first | rfl | trivial⟩
      case measure => simp [intOf]; omega
    · obtain rfl : m = 8 := by omega
      go_wp2_with fail
      go_ret
      exact ⟨rfl, G0.out⟩
end Go.Proofs.Ythglkgicckodaaa
