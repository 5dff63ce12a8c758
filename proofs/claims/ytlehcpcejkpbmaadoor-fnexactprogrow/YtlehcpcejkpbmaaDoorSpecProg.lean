/-
  The contracts of the model's ProgOk and ProgMany.
  Conditions: none.
-/
import Derived.Test.YtlehcpcejkpbmaaDoorProgRunP
import Derived.Test.YtlehcpcejkpbmaaDoorPlanSpecDo
namespace Go.Proofs.YtlehcpcejkpbmaaDoor
open Go.RowKit
set_option linter.unusedVariables false

set_option maxHeartbeats 8000000 in
set_option maxRecDepth 20000 in
theorem specProgOk (v : Value) (L : List Stp) (w : World) (h : SSl w v L) : Calls Tryd.prog 35 #[v] w fun e w' => e = .returned (.bool (progOk L)) ∧ w.grownBy w' none := by
  obtain ⟨a, cap, rfl, p1, p2, hr⟩ := h
  have R : Hid (Rds w a (sflat L)) := Lib.hid hr
  unfold maxLen at p2
  obtain ⟨n, hn⟩ : ∃ n, n = L.length := ⟨_, rfl⟩
  rw [← hn] at p1 ⊢
  have N := Lib.hid hn
  obtain ⟨ans, hans⟩ : ∃ q, progOk L = q := ⟨_, rfl⟩
  rw [hans]
  have AN := Lib.hid hans
  clear hr hn hans
  go_enter Tryd.func35, Tryd.ntmps35
  go_wp2_with fail
  go_loopw [3] (fun i wr => ∃ m : Nat, m ≤ n ∧ i = .int .i64 m ∧ w.grownBy wr none ∧ Oks (L.take m)) (fun i _ => n - (intOf i).toNat)
  case atStart => exact ⟨0, by omega, rfl, World.grownBy.refl _ _, by rw [List.take_zero]; exact Oks.nil⟩
  case round =>
    obtain ⟨m, hm, rfl, hg, hok⟩ := hrel
    have G := Lib.hid hg
    have OK := Lib.hid hok
    clear hg hok
    by_cases hlt : m < n
    · have hlt' : (m : Int) < (n : Int) := by omega
      have hmL : m < L.length := by rw [← N.out]; exact hlt
      obtain ⟨b, o, rfl, c0, c1, c2⟩ := cells3 (R.out.grown G.out) hmL
      obtain ⟨s, hs⟩ : ∃ s, L.getD m szero = s := ⟨_, rfl⟩
      rw [hs] at c0 c1 c2
      have NO : Hid (¬ OkAt m s → ans = false) := Lib.hid (fun h => AN.out.symm.trans (progOk_not hmL (by rw [hs]; exact h)))
      have YES : Hid (OkAt m s → Oks (L.take (m + 1))) := Lib.hid (fun h => by
        rw [take_snocS hmL, hs]
        exact OK.out.snoc (by rw [List.length_take, Nat.min_eq_left (by omega)]; exact h))
      clear hs
      obtain ⟨p, x, y⟩ := s
      have c0' : wr.cell? ⟨b, o + m * 3, none⟩ = some (.int .i64 p) := c0
      have c1' : wr.cell? ⟨b, o + m * 3 + 1, none⟩ = some (.int .i64 x) := c1
      have c2' : wr.cell? ⟨b, o + m * 3 + 2, none⟩ = some (.int .i64 y) := c2
      clear c0 c1 c2
      have G2 : Hid (w.grownBy (wr.alloc (.cells #[.int .i64 p, .int .i64 x, .int .i64 y] 49)) none) := Lib.hid (grown_alloc G.out _)
      have k0 : (wr.alloc (.cells #[.int .i64 p, .int .i64 x, .int .i64 y] 49)).cell? ⟨wr.heap.size, 0, none⟩ = some (.int .i64 p) := cells_of3 0 _ rfl
      have k1 : (wr.alloc (.cells #[.int .i64 p, .int .i64 x, .int .i64 y] 49)).cell? ⟨wr.heap.size, 1, none⟩ = some (.int .i64 x) := by have := cells_of3 (w := wr) (x := .int .i64 p) (y := .int .i64 x) (z := .int .i64 y) (t := 49) 1 _ rfl; rwa [Addr.add_lit] at this
      have k2 : (wr.alloc (.cells #[.int .i64 p, .int .i64 x, .int .i64 y] 49)).cell? ⟨wr.heap.size, 2, none⟩ = some (.int .i64 y) := by have := cells_of3 (w := wr) (x := .int .i64 p) (y := .int .i64 x) (z := .int .i64 y) (t := 49) 2 _ rfl; rwa [Addr.add_lit] at this
      go_upto_region 5 with fail
      generalize wr.alloc (.cells #[.int .i64 p, .int .i64 x, .int .i64 y] 49) = w2 at *
      generalize wr.heap.size = bp at *
      clear c0' c1' c2' R
      by_cases h1 : p = 1
      · subst h1
        obtain ⟨q, hq⟩ : ∃ q, (decide ((0 : Int) ≤ x) && decide (x ≤ 7)) = q := ⟨_, rfl⟩
        have Q := Lib.hid hq
        go_wp2_with fail
        refine (inIs hq _).mono ?_
        rintro e w' ⟨rfl, rfl⟩
        clear hq
        cases q with
        | false =>
          obtain rfl := NO.out (by
            rintro (⟨_, h, _⟩ | ⟨h, _⟩ | ⟨h, _⟩)
            · have := Q.out; simp at this; have h' : 0 ≤ x ∧ x < 8 := h; have := this h'.1; omega
            · cases h
            · cases h)
          go_wp2_with fail
          go_ret
          exact ⟨rfl, G2.out⟩
        | true =>
          by_cases hy : y = 0
          · subst hy
            have Y := Lib.hid (YES.out (.inl ⟨rfl, by have := Q.out; simp at this; show 0 ≤ x ∧ x < 8; omega, rfl⟩))
            clear YES NO
            go_wp2_with fail
            go_roundw
            case rel => exact ⟨m + 1, by omega, by go_num, G2.out, Y.out⟩
            case measure => simp [intOf]; omega
          · obtain rfl := NO.out (by
              rintro (⟨_, _, h⟩ | ⟨h, _⟩ | ⟨h, _⟩)
              · exact hy h
              · cases h
              · cases h)
            have hy' : (y != 0) = true := by rw [bne_iff_ne]; exact hy
            go_wp2_with fail
            go_ret
            exact ⟨rfl, G2.out⟩
      · have n1 : (p == 1) = false := by rw [beq_eq_false_iff_ne]; exact h1
        by_cases h2 : p = 2
        · subst h2
          obtain ⟨q, hq⟩ : ∃ q, (decide ((0 : Int) ≤ x) && decide (x ≤ (m : Int) - 1)) = q := ⟨_, rfl⟩
          have Q := Lib.hid hq
          go_wp2_with fail
          refine (inIs hq _).mono ?_
          rintro e w' ⟨rfl, rfl⟩
          clear hq
          cases q with
          | false =>
            obtain rfl := NO.out (by
              rintro (⟨h, _⟩ | ⟨_, h, _⟩ | ⟨h, _⟩)
              · cases h
              · have := Q.out; simp at this; have h' : 0 ≤ x ∧ x < m := h; have := this h'.1; omega
              · cases h)
            go_wp2_with fail
            go_ret
            exact ⟨rfl, G2.out⟩
          | true =>
            obtain ⟨r, hr⟩ : ∃ r, Fld.ok y = r := ⟨_, rfl⟩
            have HR := Lib.hid hr
            clear hr
            go_wp2_with fail
            refine (specOk y _).mono ?_
            rintro e w' ⟨rfl, rfl⟩
            rw [HR.out]
            cases r with
            | true =>
              have Y := Lib.hid (YES.out (.inr (.inl ⟨rfl, by have := Q.out; simp at this; show 0 ≤ x ∧ x < m; omega, HR.out⟩)))
              clear YES NO
              go_wp2_with fail
              go_roundw
              case rel => exact ⟨m + 1, by omega, by go_num, G2.out, Y.out⟩
              case measure => simp [intOf]; omega
            | false =>
              obtain rfl := NO.out (by
                rintro (⟨h, _⟩ | ⟨_, _, h⟩ | ⟨h, _⟩)
                · cases h
                · rw [HR.out] at h; cases h
                · cases h)
              go_wp2_with fail
              go_ret
              exact ⟨rfl, G2.out⟩
        · have n2 : (p == 2) = false := by rw [beq_eq_false_iff_ne]; exact h2
          by_cases h3 : p = 3
          · subst h3
            obtain ⟨q, hq⟩ : ∃ q, (decide ((0 : Int) ≤ x) && decide (x ≤ (m : Int) - 1)) = q := ⟨_, rfl⟩
            have Q := Lib.hid hq
            obtain ⟨r, hr⟩ : ∃ q, (decide ((0 : Int) ≤ y) && decide (y ≤ (m : Int) - 1)) = q := ⟨_, rfl⟩
            have HR := Lib.hid hr
            go_wp2_with fail
            refine (inIs hq _).mono ?_
            rintro e w' ⟨rfl, rfl⟩
            clear hq
            cases q with
            | false =>
              obtain rfl := NO.out (by
                rintro (⟨h, _⟩ | ⟨h, _⟩ | ⟨_, h, _⟩)
                · cases h
                · cases h
                · have := Q.out; simp at this; have h' : 0 ≤ x ∧ x < m := h; have := this h'.1; omega)
              clear hr
              go_wp2_with fail
              go_ret
              exact ⟨rfl, G2.out⟩
            | true =>
              go_wp2_with fail
              refine (inIs hr _).mono ?_
              rintro e w' ⟨rfl, rfl⟩
              clear hr
              cases r with
              | true =>
                have Y := Lib.hid (YES.out (.inr (.inr ⟨rfl, by have := Q.out; simp at this; show 0 ≤ x ∧ x < m; omega, by have := HR.out; simp at this; show 0 ≤ y ∧ y < m; omega⟩)))
                clear YES NO
                go_wp2_with fail
                go_roundw
                case rel => exact ⟨m + 1, by omega, by go_num, G2.out, Y.out⟩
                case measure => simp [intOf]; omega
              | false =>
                obtain rfl := NO.out (by
                  rintro (⟨h, _⟩ | ⟨h, _⟩ | ⟨_, _, h⟩)
                  · cases h
                  · cases h
                  · have := HR.out; simp at this; have h' : 0 ≤ y ∧ y < m := h; have := this h'.1; omega)
                go_wp2_with fail
                go_ret
                exact ⟨rfl, G2.out⟩
          · have n3 : (p == 3) = false := by rw [beq_eq_false_iff_ne]; exact h3
            obtain rfl := NO.out (by
              rintro (⟨h, _⟩ | ⟨h, _⟩ | ⟨h, _⟩)
              · exact h1 h
              · exact h2 h
              · exact h3 h)
            clear h1 h2 h3
            go_wp2_with fail
            go_ret
            exact ⟨rfl, G2.out⟩
    · obtain rfl : m = n := by omega
      have TA : L.take m = L := by rw [N.out]; exact List.take_length
      obtain rfl : ans = (decide ((1 : Int) ≤ m) && decide ((m : Int) ≤ 16)) := by
        have OKL : Oks L := by have := OK.out; rwa [TA] at this
        rw [← AN.out]
        unfold progOk
        rw [← N.out]
        by_cases hh : 1 ≤ m ∧ m ≤ 16
        · rw [decide_eq_true ⟨hh, OKL⟩, decide_eq_true (show (1 : Int) ≤ m by omega), decide_eq_true (show (m : Int) ≤ 16 by omega)]; rfl
        · rw [decide_eq_false (fun k => hh k.1)]
          by_cases h1 : 1 ≤ m
          · rw [decide_eq_false (show ¬ (m : Int) ≤ 16 by omega), Bool.and_false]
          · rw [decide_eq_false (show ¬ (1 : Int) ≤ m by omega), Bool.false_and]
      clear TA
      obtain ⟨q, hq⟩ : ∃ q, (decide ((1 : Int) ≤ m) && decide ((m : Int) ≤ 16)) = q := ⟨_, rfl⟩
      have Q := Lib.hid hq
      go_wp2_with fail
      refine (inIs hq _).mono ?_
      rintro e w' ⟨rfl, rfl⟩
      clear hq
      go_wp2_with fail
      go_ret
      exact ⟨by rw [Q.out]; rfl, G.out⟩

set_option maxHeartbeats 2000000 in
set_option maxRecDepth 20000 in
theorem specProgMany (v : Value) (L : List Stp) (o : Int) (w : World) (h : SSl w v L) : Calls Tryd.prog 33 #[v, .int .i64 o] w fun en w' => en = .returned (.int .i64 (manyN L o)) ∧ w.grownBy w' none := by
  have H := Lib.hid h
  obtain ⟨a, cap, rfl, p1, p2, hr⟩ := h
  have R : Hid (Rds w a (sflat L)) := Lib.hid hr
  unfold maxLen at p2
  obtain ⟨n, hn⟩ : ∃ n, n = L.length := ⟨_, rfl⟩
  rw [← hn] at H p1 ⊢
  have N := Lib.hid hn
  have MN : Hid (manyN L o = bif progOk L then (manyS o L : Int) else -1) := Lib.hid rfl
  have LE : Hid (progOk L = true → n ≤ 16) := Lib.hid (fun h => by have := (progOk_out h).1; omega)
  generalize manyN L o = ans at *
  clear hr hn
  go_enter Tryd.func33, Tryd.ntmps33
  go_wp2_with fail
  refine (specProgOk _ L _ H.out).mono ?_
  rintro e' w' ⟨rfl, hg⟩
  have G := Lib.hid hg
  obtain ⟨q, hq⟩ : ∃ q, progOk L = q := ⟨_, rfl⟩
  rw [hq] at MN LE ⊢
  clear hq hg
  cases q with
  | false =>
    obtain rfl : ans = -1 := MN.out
    go_wp2_with fail
    go_ret
    exact ⟨rfl, G.out⟩
  | true =>
    have h16 := LE.out rfl
    have AN : Hid (ans = (manyS o L : Int)) := Lib.hid MN.out
    clear MN LE
    go_wp2_with fail
    go_loopw [5, 6] (fun c i wr => ∃ m : Nat, m ≤ n ∧ i = .int .i64 m ∧ c = .int .i64 (manyS o (L.take m) : Nat) ∧ w.grownBy wr none) (fun _ i _ => n - (intOf i).toNat)
    case atStart => exact ⟨0, by omega, rfl, rfl, G.out⟩
    case round =>
      obtain ⟨m, hm, rfl, rfl, hg⟩ := hrel
      have G1 := Lib.hid hg
      clear hg G
      by_cases hlt : m < n
      · have hlt' : (m : Int) < (n : Int) := by omega
        have hmL : m < L.length := by rw [← N.out]; exact hlt
        obtain ⟨b, of, rfl, c0, c1, c2⟩ := cells3 (R.out.grown G1.out) hmL
        have MX := Lib.hid (many_next (o := o) hmL)
        have ML := manyS_le o (L.take m)
        rw [List.length_take] at ML
        generalize hs : L.getD m szero = s at *
        clear hs
        obtain ⟨p, x, y⟩ := s
        have c0' : wr.cell? ⟨b, of + m * 3, none⟩ = some (.int .i64 p) := c0
        clear c0 c1 c2
        generalize hk : manyS o (L.take m) = k at *
        clear hk
        by_cases ho : p = o
        · have MX' : Hid (manyS o (L.take (m + 1)) = k + 1) := Lib.hid (by rw [MX.out, if_pos ho])
          subst ho
          clear MX
          go_wp2_with fail
          go_roundw
          case rel => exact ⟨m + 1, by omega, by go_num, by rw [MX'.out]; go_num, G1.out⟩
          case measure => simp [intOf]; omega
        · have MX' : Hid (manyS o (L.take (m + 1)) = k) := Lib.hid (by rw [MX.out, if_neg ho]; rfl)
          have d0 : (p == o) = false := by rw [beq_eq_false_iff_ne]; exact ho
          clear MX ho
          go_wp2_with fail
          go_roundw
          case rel => exact ⟨m + 1, by omega, by go_num, by rw [MX'.out], G1.out⟩
          case measure => simp [intOf]; omega
      · obtain rfl : m = n := by omega
        have TA : Hid (L.take m = L) := Lib.hid (by rw [N.out]; exact List.take_length)
        have AM : Hid (ans = (manyS o (L.take m) : Nat)) := Lib.hid (by rw [TA.out]; exact AN.out)
        go_wp2_with fail
        go_ret
        exact ⟨by rw [AM.out]; rfl, G1.out⟩
end Go.Proofs.YtlehcpcejkpbmaaDoor
