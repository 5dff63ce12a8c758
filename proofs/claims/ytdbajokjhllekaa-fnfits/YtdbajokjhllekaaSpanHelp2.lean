/-
  The contracts of the laws' own helpers on tables, the second part: comparisons, marks, and whether a table is a matrix, of the program and of its model.
  Conditions: a table that is marked has at most 2^20 rows and elements together.
-/
import Derived.Test.YtdbajokjhllekaaSpanHelp
import Derived.Test.YtdbajokjhllekaaVec
namespace Go.Proofs.Ytdbajokjhllekaa
open Go.RowKit
set_option linter.unusedVariables false

set_option maxHeartbeats 1000000 in
set_option maxRecDepth 20000 in
theorem eqTabSame (u v : Value) (us us' : List Value) (m : List (List Int)) (w : World) (h : Tab w u us m) (h' : Tab w v us' m) : Calls Try.prog 57 #[u, v] w fun e w' => e = .returned (.bool true) ∧ w.grownBy w' none := by
  have T := Lib.hid h
  have T' := Lib.hid h'
  obtain ⟨a, cap, rfl, h1, h2, h3⟩ := h.top
  obtain ⟨a', cap', rfl, h1', h2', h3'⟩ := h'.top
  clear h h' h3 h3'
  unfold maxLen at h2 h2'
  have hne : ((m.length : Int) != (m.length : Int)) = false := by simp
  go_enter Try.func57, Try.ntmps57
  go_wp2_with fail
  go_loopw [5] (fun i wr => ∃ k : Nat, i = .int .i64 k ∧ k ≤ m.length ∧ w.grownBy wr none) (fun i _ => m.length - (intOf i).toNat)
  case atStart => exact ⟨0, rfl, Nat.zero_le _, World.grownBy.refl _ _⟩
  case round =>
    obtain ⟨k, rfl, hk, hg⟩ := hrel
    have G := Lib.hid (grown_drew hg)
    have G0 := Lib.hid hg
    clear hg
    by_cases hlt : k < m.length
    · have hlt' : (k : Int) < (m.length : Int) := by omega
      obtain ⟨b, o, cp, r, e, hu, hx, hs⟩ := (T.out.grown G.out).at_ hlt
      injection e with e1 e2 e3
      subst e1 e3
      obtain ⟨b', o', cp', r', e, hu', hx', hs'⟩ := (T'.out.grown G.out).at_ hlt
      injection e with e1 e2 e3
      subst e1 e3
      have S := Lib.hid hs
      have S' := Lib.hid hs'
      clear hs hs' hu hu' G0
      go_wp2_with fail
      refine wp_region_still_tail 8 (by kernel_rfl) (by kernel_rfl) ?_
      simp only [List.take_succ_cons, List.take_zero, List.drop_succ_cons, List.drop_zero]
      change wpStill _ _ wr.drew (fun a' => wpList _ _ _ _ a' wr.drew) _ _
      generalize wr.drew = w2 at *
      repeat still_step
      refine wpStill_nil ?_
      go_wp2_with fail
      refine (eqSame r r' (m.getD k []) _ S.out S'.out).mono ?_
      rintro e w3 ⟨rfl, hg⟩
      have G3 := Lib.hid (grown_trans G.out hg)
      clear hg
      go_wp2_with fail
      go_roundw
      case rel => exact ⟨k + 1, by go_num, by omega, G3.out⟩
      case measure => simp [intOf]; omega
    · go_wp2_with fail
      go_ret
      exact ⟨rfl, G0.out⟩

theorem list_ne_at {l m : List Int} {k : Nat} (h : l.getD k 0 ≠ m.getD k 0) : decide (l = m) = false := decide_eq_false (fun e => h (by rw [e]))
theorem list_ne_len {l m : List Int} (h : l.length ≠ m.length) : decide (l = m) = false := decide_eq_false (fun e => h (by rw [e]))
theorem list_all {l m : List Int} (h : l.length = m.length) (k : ∀ j, j < l.length → l.getD j 0 = m.getD j 0) : decide (l = m) = true := by
  refine decide_eq_true (List.ext_getElem h fun i h1 h2 => ?_)
  have := k i h1
  simpa [List.getD_eq_getElem?_getD, h1, h2] using this

set_option maxHeartbeats 1000000 in
set_option maxRecDepth 20000 in
/-- whether two slices are alike. -/
theorem lkIs (u v : Value) (l l' : List Int) (w : World) (h : Sl w u l) (k : Sl w v l') : Calls Try.prog 18 #[u, v] w fun e w' => e = .returned (.bool (decide (l = l'))) ∧ w.grownBy w' none := by
  obtain ⟨a, cap, rfl, hlc, hcm, hr⟩ := h
  obtain ⟨a', cap', rfl, hlc', hcm', hr'⟩ := k
  have R := Lib.hid hr
  have R' := Lib.hid hr'
  clear hr hr'
  unfold maxLen at hcm hcm'
  by_cases hb : l.length = l'.length
  · have hne : ((l.length : Int) != (l'.length : Int)) = false := by simp [hb]
    go_enter Try.func18, Try.ntmps18
    go_wp2_with fail
    go_loopw [5] (fun i wr => ∃ k : Nat, i = .int .i64 k ∧ k ≤ l.length ∧ w.grownBy wr none ∧ ∀ j, j < k → l.getD j 0 = l'.getD j 0) (fun i _ => l.length - (intOf i).toNat)
    case atStart => exact ⟨0, rfl, Nat.zero_le _, World.grownBy.refl _ _, fun j hj => by omega⟩
    case round =>
      obtain ⟨k, rfl, hk, hg, hall⟩ := hrel
      have G := Lib.hid hg
      have HA := Lib.hid hall
      clear hg hall
      by_cases hlt : k < l.length
      · have hlt' : (k : Int) < (l.length : Int) := by omega
        have hlt2 : (k : Int) < (l'.length : Int) := by omega
        obtain ⟨b, o, rfl, hx⟩ := (R.out.grown G.out).at_ hlt
        obtain ⟨b', o', rfl, hx'⟩ := (R'.out.grown G.out).at_ (k := k) (by omega)
        obtain ⟨x, hxe⟩ : ∃ x, l.getD k 0 = x := ⟨_, rfl⟩
        obtain ⟨y, hye⟩ : ∃ y, l'.getD k 0 = y := ⟨_, rfl⟩
        rw [hxe] at hx
        rw [hye] at hx'
        have EX := Lib.hid hxe
        have EY := Lib.hid hye
        clear hxe hye
        by_cases hxy : x = y
        · subst hxy
          go_wp2_with fail
          go_quiet (fail)
          go_wp2_with fail
          go_roundw
          case rel => exact ⟨k + 1, by go_num, by omega, grown_draws G.out _, fun j hj => by
            by_cases e : j = k
            · rw [e, EX.out, EY.out]
            · exact HA.out j (by omega)⟩
          case measure => simp [intOf]; omega
        · have hbx : (x != y) = true := by simp [hxy]
          have D : Hid (decide (l = l') = false) := Lib.hid (list_ne_at (k := k) (by rw [EX.out, EY.out]; exact hxy))
          go_wp2_with fail
          go_quiet (fail)
          go_wp2_with fail
          go_ret
          exact ⟨ret_bool D.out, grown_draws G.out _⟩
      · have D : Hid (decide (l = l') = true) := Lib.hid (list_all hb (fun j hj => HA.out j (by omega)))
        go_wp2_with fail
        go_ret
        exact ⟨ret_bool D.out, G.out⟩
  · have hne : ((l.length : Int) != (l'.length : Int)) = true := by simp; omega
    have D : Hid (decide (l = l') = false) := Lib.hid (list_ne_len hb)
    go_enter Try.func18, Try.ntmps18
    go_wp2_with fail
    go_ret
    exact ⟨ret_bool D.out, World.grownBy.refl _ _⟩

theorem tab_ne_at {l m : List (List Int)} {k : Nat} (h : l.getD k [] ≠ m.getD k []) : decide (l = m) = false := decide_eq_false (fun e => h (by rw [e]))
theorem tab_ne_len {l m : List (List Int)} (h : l.length ≠ m.length) : decide (l = m) = false := decide_eq_false (fun e => h (by rw [e]))
theorem tab_all {l m : List (List Int)} (h : l.length = m.length) (k : ∀ j, j < l.length → l.getD j [] = m.getD j []) : decide (l = m) = true := by
  refine decide_eq_true (List.ext_getElem h fun i h1 h2 => ?_)
  have := k i h1
  simpa [List.getD_eq_getElem?_getD, h1, h2] using this

/-- marks in a table, from k on. -/
def marksT : Int → List (List Int) → List (List Int)
  | _, [] => []
  | k, l :: m => marks k l.length :: marksT (k + l.length) m
theorem marksT_length (m : List (List Int)) : ∀ k, (marksT k m).length = m.length := by
  induction m with
  | nil => intro k; rfl
  | cons l m ih => intro k; simp [marksT, ih]
theorem tot_cons (l : List Int) (m : List (List Int)) : tot (l :: m) = l.length + tot m := by simp [tot]
theorem tot_take_le (m : List (List Int)) (j : Nat) : tot (m.take j) ≤ tot m := by
  have e : tot (m.take j ++ m.drop j) = tot (m.take j) + tot (m.drop j) := by simp only [tot, List.map_append, List.sum_append]
  rw [List.take_append_drop] at e
  omega
theorem marksT_snoc (m : List (List Int)) (l : List Int) : ∀ k, marksT k (m ++ [l]) = marksT k m ++ [marks (k + tot m) l.length] := by
  induction m with
  | nil => intro k; simp [marksT, tot]
  | cons r m ih =>
    intro k
    rw [List.cons_append, marksT, ih, marksT, tot_cons, List.cons_append]
    have e : k + (r.length : Int) + (tot m : Int) = k + ((r.length + tot m : Nat) : Int) := by omega
    rw [e]
theorem marksT_get (m : List (List Int)) : ∀ (k : Int) (i : Nat), i < m.length → (marksT k m).getD i [] = marks (k + tot (m.take i)) (m.getD i []).length := by
  induction m with
  | nil => intro k i h; simp at h
  | cons r m ih =>
    intro k i h
    cases i with
    | zero => simp [marksT, tot]
    | succ i =>
      have := ih (k + r.length) i (by simpa using h)
      rw [List.take_succ_cons, tot_cons]
      have e : k + (r.length : Int) + (tot (m.take i) : Int) = k + ((r.length + tot (m.take i) : Nat) : Int) := by omega
      rw [← e]
      exact this

theorem items_at {us : List Value} {m M : List (List Int)} {i : Nat} {u : Value} {l : List Int} (hl : us.length = m.length) (hu : us[i]? = some u) (hM : M.length = i) (hi : i < m.length) :
    List.zipWith row1 us (M ++ l :: m.drop (i + 1)) = List.zipWith row1 (us.take i) M ++ row1 u l :: List.zipWith row1 (us.drop (i + 1)) (m.drop (i + 1)) := by
  have h1 : us = us.take i ++ u :: us.drop (i + 1) := by
    obtain ⟨h, rfl⟩ := List.getElem?_eq_some_iff.1 hu
    simp
  conv => lhs; rw [h1]
  rw [List.zipWith_append (by rw [List.length_take, hM]; omega)]
  rfl
/-- a table partly marked. -/
def markedT (k : Int) (m : List (List Int)) (i : Nat) : List (List Int) := marksT k (m.take i) ++ m.drop i
theorem markedT_length (k : Int) (m : List (List Int)) (i : Nat) : (markedT k m i).length = m.length := by
  unfold markedT; rw [List.length_append, marksT_length, List.length_take, List.length_drop]; omega
theorem markedT_this (k : Int) (m : List (List Int)) {i : Nat} (hi : i < m.length) : markedT k m i = marksT k (m.take i) ++ m.getD i [] :: m.drop (i + 1) := by
  unfold markedT; rw [List.drop_eq_getElem_cons hi]; simp [List.getD_eq_getElem?_getD, hi]
theorem markedT_next (k : Int) (m : List (List Int)) {i : Nat} (hi : i < m.length) : markedT k m (i + 1) = marksT k (m.take i) ++ marks (k + tot (m.take i)) (m.getD i []).length :: m.drop (i + 1) := by
  unfold markedT; rw [take_more m hi, marksT_snoc, List.append_assoc]; rfl
theorem markedT_get (k : Int) (m : List (List Int)) {i : Nat} (hi : i < m.length) : (markedT k m i).getD i [] = m.getD i [] := by
  rw [markedT_this k m hi, List.getD_eq_getElem?_getD, List.getElem?_append_right (by rw [marksT_length, List.length_take]; omega), marksT_length, List.length_take, show i - min i m.length = 0 by omega]; rfl

set_option maxHeartbeats 1000000 in
set_option maxRecDepth 20000 in
theorem markIntSS (w0 : World) (A C : List Item) (v : Value) (us : List Value) (m : List (List Int)) (k : Int) (w : World) (h : Lives w0 w (A ++ tabItems v us m ++ C)) (hus : us.length = m.length) (hl : m.length ≤ 1048576) (ht : tot m ≤ 1048576) (k0 : 0 ≤ k) (k1 : k ≤ 1073741824) :
    Calls Try.prog 58 #[v, .int .i64 k] w fun e w' => e = .returned (.int .i64 (k + tot m)) ∧ Lives w0 w' (A ++ tabItems v us (marksT k m) ++ C) := by
  have T := Lib.hid (h.tab (v := v) (us := us) (m := m) hus (fun x hx => by simp [hx]))
  obtain ⟨a, cap, rfl, h1, h2, _⟩ := T.out.top
  unfold maxLen at h2
  have US := Lib.hid hus
  have M0 : Hid (Lives w0 w (A ++ tabItems (.slice a m.length cap) us (markedT k m 0) ++ C)) := Lib.hid h
  clear h hus
  go_enter Try.func58, Try.ntmps58
  go_wp2_with fail
  go_loopw [1, 5] (fun q i wr => ∃ j : Nat, j ≤ m.length ∧ i = .int .i64 j ∧ (∃ r : Int, q = .int .i64 r ∧ r = k + tot (m.take j)) ∧ Lives w0 wr (A ++ tabItems (.slice a m.length cap) us (markedT k m j) ++ C)) (fun _ i _ => m.length - (intOf i).toNat)
  case atStart => exact ⟨0, Nat.zero_le _, rfl, ⟨_, rfl, by simp [tot]⟩, M0.out⟩
  case round =>
    obtain ⟨j, hj, rfl, ⟨r, rfl, hr⟩, hL⟩ := hrel
    have L := Lib.hid hL
    have HR := Lib.hid hr
    clear hr hL M0
    by_cases hlt : j < m.length
    · have hlt' : (j : Int) < (m.length : Int) := by omega
      have tt : Hid (tot (m.take (j + 1)) = tot (m.take j) + (m.getD j []).length) := Lib.hid (tot_take m hlt)
      have tl := tot_some m j
      have tk := tot_take_le m j
      have r0 : 0 ≤ r ∧ r ≤ 1099511627776 := by have := HR.out; omega
      have TT := L.out.tab (v := .slice a m.length cap) (us := us) (m := markedT k m j) (by rw [markedT_length, US.out]) (fun x hx => by simp [hx])
      obtain ⟨b, o, cap', u, e, hu, hx, hs⟩ := TT.at_ (i := j) (by rw [markedT_length]; exact hlt)
      rw [markedT_length] at e
      injection e with e1 e2 e3
      subst e1 e3
      have eL : A ++ tabItems (.slice (some ⟨b, o, none⟩) m.length cap) us (markedT k m j) ++ C = (A ++ ⟨.slice (some ⟨b, o, none⟩) m.length cap, 24, us⟩ :: List.zipWith row1 (us.take j) (marksT k (m.take j))) ++ row1 u (m.getD j []) :: (List.zipWith row1 (us.drop (j + 1)) (m.drop (j + 1)) ++ C) := by
        unfold tabItems
        rw [markedT_this k m hlt, items_at US.out hu (by rw [marksT_length, List.length_take]; omega) hlt]
        simp
      have eR : A ++ tabItems (.slice (some ⟨b, o, none⟩) m.length cap) us (markedT k m (j + 1)) ++ C = (A ++ ⟨.slice (some ⟨b, o, none⟩) m.length cap, 24, us⟩ :: List.zipWith row1 (us.take j) (marksT k (m.take j))) ++ row1 u (marks (k + tot (m.take j)) (m.getD j []).length) :: (List.zipWith row1 (us.drop (j + 1)) (m.drop (j + 1)) ++ C) := by
        unfold tabItems
        rw [markedT_next k m hlt, items_at US.out hu (by rw [marksT_length, List.length_take]; omega) hlt]
        simp
      have L1 := L.out
      rw [eL] at L1
      have LL := Lib.hid L1
      have ER := Lib.hid eR
      have O := Lib.hid (row1_own.1 (L1.own.1 (row1 u (m.getD j [])) (by simp)))
      clear TT hs L1 eL eR L hu
      obtain ⟨lj, hlj⟩ : ∃ l, m.getD j [] = l := ⟨_, rfl⟩
      rw [hlj] at O tl tt LL ER
      clear hlj
      go_wp2_with fail
      refine (markIntS u lj r w0.heap.size _ O.out (by omega) r0.1 r0.2).mono ?_
      rintro e w2 ⟨rfl, hg, ho⟩
      have N : Hid (Lives w0 w2 (A ++ tabItems (.slice (some ⟨b, o, none⟩) m.length cap) us (markedT k m (j + 1)) ++ C)) := Lib.hid (by
        rw [ER.out]
        refine LL.out.put rfl hg (row1_own.2 ?_)
        have := HR.out
        rw [← this]; exact ho)
      clear hg ho LL ER O hx
      go_wp2_with fail
      go_roundw
      case rel => exact ⟨j + 1, by omega, by go_num, ⟨_, rfl, by have := HR.out; have := tt.out; omega⟩, N.out⟩
      case measure => simp [intOf]; omega
    · have : j = m.length := by omega
      subst this
      have hr := HR.out
      rw [List.take_length] at hr
      subst hr
      go_wp2_with fail
      go_ret
      refine ⟨rfl, ?_⟩
      have := L.out
      unfold markedT at this
      rwa [List.take_length, List.drop_length, List.append_nil] at this