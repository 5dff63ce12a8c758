/-
  A plan's form, what it makes of values, and of rows: in the model.
  Conditions: none.
-/
import Derived.Test.YtlehcpcejkpbmaaDoorPlanDoOk
namespace Go.Proofs.YtlehcpcejkpbmaaDoor
open Go.RowKit
set_option linter.unusedVariables false

theorem Blk.draws {w : World} {g : Nat} {t : TypeId} {cs : List Value} (h : Blk w g t cs) (n : Nat) : Blk (w.drewN n) g t cs := h
theorem inIs {x a b : Int} {v : Bool} (h : (decide (a ≤ x) && decide (x ≤ b)) = v) (W : World) : Calls Tryd.prog 73 #[.int .i64 x, .int .i64 a, .int .i64 b] W fun e w' => e = .returned (.bool v) ∧ w' = W :=
  (specIn x a b W).mono fun e w' ⟨he, hw⟩ => ⟨by rw [he, h], hw.symm⟩
/-- what the model's first loop asks of a place. -/
def pA1 (n : Int) (l : List Int) (i : Nat) : Prop := (0 ≤ l.getD i 0 ∧ l.getD i 0 < 8) ∧ pBef l i < l.getD i 0 ∧ l.getD i 0 ≠ n
theorem pForm_by {n : Int} {l m : List Int} {i : Nat} (hi : i < m.length) (h : ¬ (1 ≤ m.getD i 0 ∧ m.getD i 0 ≤ 30)) : pForm n l m = false := by
  by_cases e : m.length = l.length
  · refine pForm_not (i := i) (by omega) ?_
    unfold pAt
    refine decide_eq_false fun h' => h ?_
    have h1 := Fld.ok_iff.1 h'.2.2.2.1
    have h2 := h'.2.2.2.2
    omega
  · exact pForm_head (by simp [pHead, e])
theorem pForm_last {n : Int} {l m : List Int} (h1 : ∀ i, i < l.length → pA1 n l i) (h2 : ∀ i, i < m.length → 1 ≤ m.getD i 0 ∧ m.getD i 0 ≤ 30) : pForm n l m = pHead n l m := by
  cases e : pHead n l m with
  | false => exact pForm_head e
  | true =>
    have eq : m.length = l.length := (of_decide_eq_true e).2.2.2
    refine pForm_all e fun i hi => decide_eq_true ⟨(h1 i hi).1, (h1 i hi).2.1, (h1 i hi).2.2, Fld.ok_iff.2 ?_, ?_⟩
    · have := h2 i (by omega); omega
    · have := h2 i (by omega); omega

set_option maxHeartbeats 8000000 in
set_option maxRecDepth 20000 in
theorem specL11Form (n : Int) (u v : Value) (l m : List Int) (w : World) (hu : Sl w u l) (hv : Sl w v m) :
    Calls Tryd.prog 49 #[.agg #[.int .i64 n, u, v]] w fun e w' => e = .returned (.bool (pForm n l m)) ∧ w.grownBy w' none := by
  have U := Lib.hid hu
  have V := Lib.hid hv
  obtain ⟨a1, c1, e1, q1, q2, hr1⟩ := hu
  obtain ⟨a2, c2, e2, q3, q4, hr2⟩ := hv
  have R1 := Lib.hid hr1
  have R2 := Lib.hid hr2
  subst e1 e2
  unfold maxLen at q2 q4
  obtain ⟨nl, hnl⟩ : ∃ x, x = l.length := ⟨_, rfl⟩
  obtain ⟨ml, hml⟩ : ∃ x, x = m.length := ⟨_, rfl⟩
  rw [← hnl] at U q1 ⊢
  rw [← hml] at V q3 ⊢
  have NL := Lib.hid hnl
  have ML := Lib.hid hml
  clear hnl hml hr1 hr2
  have K0 : Hid (Blk (w.alloc (.cells #[.int .i64 n, .slice a1 nl c1, .slice a2 ml c2] 25)) w.heap.size 25 [.int .i64 n, .slice a1 nl c1, .slice a2 ml c2]) := Lib.hid (heap_alloc_new _ _)
  have G0 := Lib.hid (grown_alloc (World.grownBy.refl w none) (.cells #[.int .i64 n, .slice a1 nl c1, .slice a2 ml c2] 25))
  go_enter Tryd.func49, Tryd.ntmps49
  go_upto_region 1 with fail
  generalize (w.alloc (.cells #[.int .i64 n, .slice a1 nl c1, .slice a2 ml c2] 25)) = w0 at *
  generalize w.heap.size = bp at *
  go_wp2_with fail
  go_loopw [3] (fun i wr => ∃ k : Nat, k ≤ nl ∧ i = .int .i64 k ∧ (∀ j, j < k → pA1 n l j) ∧ w.grownBy wr none ∧ Blk wr bp 25 [.int .i64 n, .slice a1 nl c1, .slice a2 ml c2]) (fun i _ => nl - (intOf i).toNat)
  case atStart => exact ⟨0, by omega, rfl, fun j hj => by omega, G0.out, K0.out⟩
  case round =>
    obtain ⟨k, hk, rfl, hok, hg, hb⟩ := hrel
    have OK := Lib.hid hok
    have G := Lib.hid hg
    have K := Lib.hid hb
    clear hok hg hb G0 K0
    have k0 := K.out.cell (i := 0) rfl
    have k1 := K.out.cell (i := 1) rfl
    have k2 := K.out.cell (i := 2) rfl
    by_cases hlt' : k < nl
    · have hlt : k < l.length := by rw [← NL.out]; exact hlt'
      have hi : (k : Int) < (nl : Int) := by omega
      obtain ⟨b1, o1, rfl, hx⟩ := (R1.out.grown G.out).at_ (k := k) hlt
      have OP := Lib.hid (fun (i : Nat) (h : i < l.length) => (R1.out.grown G.out).at_ (k := i) h)
      obtain ⟨x, hxe⟩ : ∃ x, l.getD k 0 = x := ⟨_, rfl⟩
      rw [hxe] at hx
      have XE := Lib.hid hxe
      clear hxe
      by_cases hx8 : 0 ≤ x ∧ x < 8
      · have SI : Hid (∀ W : World, Calls Tryd.prog 73 #[.int .i64 x, .int .i64 0, .int .i64 7] W fun e w' => e = .returned (.bool true) ∧ w' = W) := Lib.hid (inIs (by rw [decide_eq_true hx8.1, decide_eq_true (by omega)]; rfl))
        by_cases hxn : x = n
        · have hxn' : (x == n) = true := by rw [beq_iff_eq]; exact hxn
          have NO : Hid (pForm n l m = false) := Lib.hid (pForm_not hlt (by unfold pAt; rw [XE.out]; exact decide_eq_false (fun h => h.2.2.1 hxn)))
          clear hxn hlt hlt' k2 OP
          go_wp2_with fail
          go_quiet (first | (go_at_call 73; exact Calls.quiet_of_same (SI.out _)))
          go_wp2_with fail
          go_ret
          exact ⟨by rw [NO.out]; rfl, grown_draws G.out _⟩
        · have hxn' : (x == n) = false := by rw [beq_eq_false_iff_ne]; exact hxn
          cases k with
          | zero =>
            have OK' : Hid (∀ j, j < 0 + 1 → pA1 n l j) := Lib.hid (fun j hj => by
              obtain rfl : j = 0 := by omega
              unfold pA1
              rw [XE.out]
              exact ⟨hx8, by show (-1 : Int) < x; omega, hxn⟩)
            have hin : 0 < nl := by omega
            have hi0 : (0 : Int) < (nl : Int) := by omega
            rw [Nat.add_zero] at hx
            clear hxn hlt hlt' k2 OP
            simp only [Int.natCast_zero] at hi ⊢
            go_wp2_with fail
            go_quiet (first | (go_at_call 73; exact Calls.quiet_of_same (SI.out _)))
            go_wp2_with fail
            go_roundw
            case rel => exact ⟨0 + 1, by omega, by go_num, OK'.out, grown_draws G.out _, K.out.draws _⟩
            case measure => simp [intOf]; omega
          | succ k =>
            obtain ⟨b1', o1', e', hy⟩ := OP.out k (by omega)
            injection e' with e'
            injection e' with e1 e2
            subst e1 e2
            obtain ⟨y, hye⟩ : ∃ y, l.getD k 0 = y := ⟨_, rfl⟩
            rw [hye] at hy
            have YE := Lib.hid hye
            have kz : ((k + 1 : Nat) : Int) > 0 := by omega
            have ks : ((k + 1 : Nat) : Int) - 1 = (k : Int) := by omega
            clear hye OP
            by_cases hyx : y < x
            · have hyx' : ¬ y ≥ x := by omega
              have OK' : Hid (∀ j, j < k + 1 + 1 → pA1 n l j) := Lib.hid (fun j hj => by
                by_cases e : j = k + 1
                · subst e
                  unfold pA1
                  rw [XE.out]
                  exact ⟨hx8, by show l.getD k 0 < x; rw [YE.out]; exact hyx, hxn⟩
                · exact OK.out j (by omega))
              clear hxn hlt hlt' k2
              go_wp2_with fail
              go_quiet (first | (go_at_call 73; exact Calls.quiet_of_same (SI.out _)))
              go_wp2_with fail
              go_roundw
              case rel => exact ⟨k + 1 + 1, by omega, by go_num, OK'.out, grown_draws G.out _, K.out.draws _⟩
              case measure => simp [intOf]; omega
            · have hyx' : y ≥ x := by omega
              have NO : Hid (pForm n l m = false) := Lib.hid (pForm_not hlt (by unfold pAt; rw [XE.out]; exact decide_eq_false (fun h => hyx (by have h2 := h.2.1; simp only [pBef] at h2; rw [YE.out] at h2; exact h2))))
              clear hxn hlt hlt' k2
              go_wp2_with fail
              go_quiet (first | (go_at_call 73; exact Calls.quiet_of_same (SI.out _)))
              go_wp2_with fail
              go_ret
              exact ⟨by rw [NO.out]; rfl, grown_draws G.out _⟩
      · have SI : Hid (∀ W : World, Calls Tryd.prog 73 #[.int .i64 x, .int .i64 0, .int .i64 7] W fun e w' => e = .returned (.bool false) ∧ w' = W) := Lib.hid (inIs (by rw [Bool.and_eq_false_iff]; simp only [decide_eq_false_iff_not]; omega))
        have NO : Hid (pForm n l m = false) := Lib.hid (pForm_not hlt (by unfold pAt; rw [XE.out]; exact decide_eq_false (fun h => hx8 h.1)))
        clear hlt hlt' k2 OP
        go_wp2_with fail
        go_quiet (first | (go_at_call 73; exact Calls.quiet_of_same (SI.out _)))
        go_wp2_with fail
        go_ret
        exact ⟨by rw [NO.out]; rfl, grown_draws G.out _⟩
    · obtain rfl : k = nl := by omega
      have ALL : Hid (∀ i, i < l.length → pA1 n l i) := Lib.hid (by rw [← NL.out]; exact OK.out)
      have hi : ¬ (k : Int) < (k : Int) := by omega
      clear OK
      go_wp2_with fail
      clear k0 k1 k2
      obtain ⟨w1, hw1⟩ : ∃ W, W = wr := ⟨_, rfl⟩
      rw [← hw1] at G K ⊢
      clear hw1 wr
      go_loopw [4] (fun i wr => ∃ j : Nat, j ≤ ml ∧ i = .int .i64 j ∧ (∀ i, i < j → 1 ≤ m.getD i 0 ∧ m.getD i 0 ≤ 30) ∧ w.grownBy wr none ∧ Blk wr bp 25 [.int .i64 n, .slice a1 k c1, .slice a2 ml c2]) (fun i _ => ml - (intOf i).toNat)
      case atStart => exact ⟨0, by omega, rfl, fun j hj => by omega, G.out, K.out⟩
      case round =>
        obtain ⟨j, hj, rfl, hok, hg, hb⟩ := hrel
        clear G K
        have OK := Lib.hid hok
        have G := Lib.hid hg
        have K := Lib.hid hb
        clear hok hg hb
        have k0 := K.out.cell (i := 0) rfl
        have k1 := K.out.cell (i := 1) rfl
        have k2 := K.out.cell (i := 2) rfl
        by_cases hjl : j < ml
        · have hlt : j < m.length := by rw [← ML.out]; exact hjl
          have hi : (j : Int) < (ml : Int) := by omega
          obtain ⟨b2, o2, rfl, hx⟩ := (R2.out.grown G.out).at_ (k := j) hlt
          obtain ⟨x, hxe⟩ : ∃ x, m.getD j 0 = x := ⟨_, rfl⟩
          rw [hxe] at hx
          have XE := Lib.hid hxe
          clear hxe
          by_cases hx8 : 1 ≤ x ∧ x ≤ 30
          · have SI : Hid (∀ W : World, Calls Tryd.prog 73 #[.int .i64 x, .int .i64 1, .int .i64 30] W fun e w' => e = .returned (.bool true) ∧ w' = W) := Lib.hid (inIs (by rw [decide_eq_true hx8.1, decide_eq_true hx8.2]; rfl))
            have OK' : Hid (∀ i, i < j + 1 → 1 ≤ m.getD i 0 ∧ m.getD i 0 ≤ 30) := Lib.hid (fun i hi => by
              by_cases e : i = j
              · subst e; rw [XE.out]; exact hx8
              · exact OK.out i (by omega))
            clear hlt hjl k0 k1
            go_wp2_with fail
            refine (SI.out _).mono ?_
            rintro e w' ⟨rfl, rfl⟩
            go_wp2_with fail
            go_roundw
            case rel => exact ⟨j + 1, by omega, by go_num, OK'.out, G.out, K.out⟩
            case measure => simp [intOf]; omega
          · have SI : Hid (∀ W : World, Calls Tryd.prog 73 #[.int .i64 x, .int .i64 1, .int .i64 30] W fun e w' => e = .returned (.bool false) ∧ w' = W) := Lib.hid (inIs (by rw [Bool.and_eq_false_iff]; simp only [decide_eq_false_iff_not]; omega))
            have NO : Hid (pForm n l m = false) := Lib.hid (pForm_by hlt (by rw [XE.out]; exact hx8))
            clear hlt hjl k0 k1
            go_wp2_with fail
            refine (SI.out _).mono ?_
            rintro e w' ⟨rfl, rfl⟩
            go_wp2_with fail
            go_ret
            exact ⟨by rw [NO.out]; rfl, G.out⟩
        · obtain rfl : j = ml := by omega
          have hi : ¬ (j : Int) < (j : Int) := by omega
          have FO : Hid (pForm n l m = decide ((0 ≤ n ∧ n < 8) ∧ k ≠ 0 ∧ k ≤ 4 ∧ j = k)) := Lib.hid (by rw [pForm_last ALL.out (by rw [← ML.out]; exact OK.out), NL.out, ML.out]; rfl)
          clear OK ALL
          by_cases hn : 0 ≤ n ∧ n < 8
          · have SI : Hid (∀ W : World, Calls Tryd.prog 73 #[.int .i64 n, .int .i64 0, .int .i64 7] W fun e w' => e = .returned (.bool true) ∧ w' = W) := Lib.hid (inIs (by rw [decide_eq_true hn.1, decide_eq_true (by omega)]; rfl))
            by_cases hjk : j = k
            · have hjk' : ((j : Int) == (k : Int)) = true := by rw [beq_iff_eq]; omega
              have SK := Lib.hid (specIn k 1 4)
              go_wp2_with fail
              refine (SI.out _).mono ?_
              rintro e w' ⟨rfl, rfl⟩
              go_wp2_with fail
              refine (SK.out _).mono ?_
              rintro e w' ⟨rfl, rfl⟩
              obtain ⟨r, hr⟩ : ∃ r, (decide ((1 : Int) ≤ k) && decide ((k : Int) ≤ 4)) = r := ⟨_, rfl⟩
              have FR : Hid (pForm n l m = r) := Lib.hid (by
                rw [FO.out, ← hr, Bool.eq_iff_iff]
                simp only [decide_eq_true_eq, Bool.and_eq_true]
                omega)
              rw [hr]
              clear hr
              go_wp2_with fail
              go_ret
              exact ⟨by rw [FR.out]; rfl, G.out⟩
            · have hjk' : ((j : Int) == (k : Int)) = false := by rw [beq_eq_false_iff_ne]; omega
              have NO : Hid (pForm n l m = false) := Lib.hid (by rw [FO.out]; exact decide_eq_false (fun h => hjk h.2.2.2))
              go_wp2_with fail
              refine (SI.out _).mono ?_
              rintro e w' ⟨rfl, rfl⟩
              go_wp2_with fail
              go_ret
              exact ⟨by rw [NO.out]; rfl, G.out⟩
          · have SI : Hid (∀ W : World, Calls Tryd.prog 73 #[.int .i64 n, .int .i64 0, .int .i64 7] W fun e w' => e = .returned (.bool false) ∧ w' = W) := Lib.hid (inIs (by rw [Bool.and_eq_false_iff]; simp only [decide_eq_false_iff_not]; omega))
            have NO : Hid (pForm n l m = false) := Lib.hid (by rw [FO.out]; exact decide_eq_false (fun h => hn h.1))
            go_wp2_with fail
            refine (SI.out _).mono ?_
            rintro e w' ⟨rfl, rfl⟩
            go_wp2_with fail
            go_ret
            exact ⟨by rw [NO.out]; rfl, G.out⟩
end Go.Proofs.YtlehcpcejkpbmaaDoor
