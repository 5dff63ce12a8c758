/-
  The contracts of the laws' own helpers on tables, the second part: comparisons, marks, and whether a table is a matrix, of the program and of its model.
  Conditions: a table that is marked has at most 2^20 rows and elements together.
-/
import Derived.Test.YtbpkfcaokbidnabSpanHelp
import Derived.Test.YtbpkfcaokbidnabVec
namespace Go.Proofs.Ytbpkfcaokbidnab
open Go.RowKit
set_option linter.unusedVariables false

theorem list_ne_at {l m : List Int} {k : Nat} (h : l.getD k 0 ≠ m.getD k 0) : decide (l = m) = false := decide_eq_false (fun e => h (by rw [e]))
theorem list_ne_len {l m : List Int} (h : l.length ≠ m.length) : decide (l = m) = false := decide_eq_false (fun e => h (by rw [e]))
theorem list_all {l m : List Int} (h : l.length = m.length) (k : ∀ j, j < l.length → l.getD j 0 = m.getD j 0) : decide (l = m) = true := by
  refine decide_eq_true (List.ext_getElem h fun i h1 h2 => ?_)
  have := k i h1
  simpa [List.getD_eq_getElem?_getD, h1, h2] using this

set_option maxHeartbeats 1000000 in
set_option maxRecDepth 20000 in
/-- whether two slices are alike. -/
theorem lkIs (u v : Value) (l l' : List Int) (w : World) (h : Sl w u l) (k : Sl w v l') : Calls Try.prog 33 #[u, v] w fun e w' => e = .returned (.bool (decide (l = l'))) ∧ w.grownBy w' none := by
  obtain ⟨a, cap, rfl, hlc, hcm, hr⟩ := h
  obtain ⟨a', cap', rfl, hlc', hcm', hr'⟩ := k
  have R := Lib.hid hr
  have R' := Lib.hid hr'
  clear hr hr'
  unfold maxLen at hcm hcm'
  by_cases hb : l.length = l'.length
  · have hne : ((l.length : Int) != (l'.length : Int)) = false := by simp [hb]
    go_enter Try.func33, Try.ntmps33
    go_wp2_with fail
    go_loopw [5] (fun i wr => ∃ k : Nat, i = .int .i64 k ∧ k ≤ l.length ∧ w.grownBy wr none ∧ ∀ j, j < k → l.getD j 0 = l'.getD j 0) (fun i _ => l.length - (intOf i).toNat)
    case atStart => exact ⟨0, rfl, Nat.zero_le _, World.grownBy.refl _ _, fun j hj => by omega⟩
    case round =>
      obtain ⟨k, rfl, hk, hg, hall⟩ := hrel
      have G := Lib.hid hg
      have HA := Lib.hid hall
      clear hg hall
      by_cases hlt : k < l.length
      · have hlt' : (k : Int) < (l.length : Int) := by omega
        have hlt2 : (k : Int) < (l'.length : Int) := by omega
        obtain ⟨b, o, rfl, hx⟩ := (R.out.grown G.out).at_ hlt
        obtain ⟨b', o', rfl, hx'⟩ := (R'.out.grown G.out).at_ (k := k) (by omega)
        obtain ⟨x, hxe⟩ : ∃ x, l.getD k 0 = x := ⟨_, rfl⟩
        obtain ⟨y, hye⟩ : ∃ y, l'.getD k 0 = y := ⟨_, rfl⟩
        rw [hxe] at hx
        rw [hye] at hx'
        have EX := Lib.hid hxe
        have EY := Lib.hid hye
        clear hxe hye
        by_cases hxy : x = y
        · subst hxy
          go_wp2_with fail
          go_quiet (fail)
          go_wp2_with fail
          go_roundw
          case rel => exact ⟨k + 1, by go_num, by omega, grown_draws G.out _, fun j hj => by
            by_cases e : j = k
            · rw [e, EX.out, EY.out]
            · exact HA.out j (by omega)⟩
          case measure => simp [intOf]; omega
        · have hbx : (x != y) = true := by simp [hxy]
          have D : Hid (decide (l = l') = false) := Lib.hid (list_ne_at (k := k) (by rw [EX.out, EY.out]; exact hxy))
          go_wp2_with fail
          go_quiet (fail)
          go_wp2_with fail
          go_ret
          exact ⟨ret_bool D.out, grown_draws G.out _⟩
      · have D : Hid (decide (l = l') = true) := Lib.hid (list_all hb (fun j hj => HA.out j (by omega)))
        go_wp2_with fail
        go_ret
        exact ⟨ret_bool D.out, G.out⟩
  · have hne : ((l.length : Int) != (l'.length : Int)) = true := by simp; omega
    have D : Hid (decide (l = l') = false) := Lib.hid (list_ne_len hb)
    go_enter Try.func33, Try.ntmps33
    go_wp2_with fail
    go_ret
    exact ⟨ret_bool D.out, World.grownBy.refl _ _⟩

theorem tab_ne_at {l m : List (List Int)} {k : Nat} (h : l.getD k [] ≠ m.getD k []) : decide (l = m) = false := decide_eq_false (fun e => h (by rw [e]))
theorem tab_ne_len {l m : List (List Int)} (h : l.length ≠ m.length) : decide (l = m) = false := decide_eq_false (fun e => h (by rw [e]))
theorem tab_all {l m : List (List Int)} (h : l.length = m.length) (k : ∀ j, j < l.length → l.getD j [] = m.getD j []) : decide (l = m) = true := by
  refine decide_eq_true (List.ext_getElem h fun i h1 h2 => ?_)
  have := k i h1
  simpa [List.getD_eq_getElem?_getD, h1, h2] using this

/-- marks in a table, from k on. -/
def marksT : Int → List (List Int) → List (List Int)
  | _, [] => []
  | k, l :: m => marks k l.length :: marksT (k + l.length) m
theorem marksT_length (m : List (List Int)) : ∀ k, (marksT k m).length = m.length := by
  induction m with
  | nil => intro k; rfl
  | cons l m ih => intro k; simp [marksT, ih]
theorem tot_cons (l : List Int) (m : List (List Int)) : tot (l :: m) = l.length + tot m := by simp [tot]
theorem tot_take_le (m : List (List Int)) (j : Nat) : tot (m.take j) ≤ tot m := by
  have e : tot (m.take j ++ m.drop j) = tot (m.take j) + tot (m.drop j) := by simp only [tot, List.map_append, List.sum_append]
  rw [List.take_append_drop] at e
  omega
theorem marksT_snoc (m : List (List Int)) (l : List Int) : ∀ k, marksT k (m ++ [l]) = marksT k m ++ [marks (k + tot m) l.length] := by
  induction m with
  | nil => intro k; simp [marksT, tot]
  | cons r m ih =>
    intro k
    rw [List.cons_append, marksT, ih, marksT, tot_cons, List.cons_append]
    have e : k + (r.length : Int) + (tot m : Int) = k + ((r.length + tot m : Nat) : Int) := by omega
    rw [e]
theorem marksT_get (m : List (List Int)) : ∀ (k : Int) (i : Nat), i < m.length → (marksT k m).getD i [] = marks (k + tot (m.take i)) (m.getD i []).length := by
  induction m with
  | nil => intro k i h; simp at h
  | cons r m ih =>
    intro k i h
    cases i with
    | zero => simp [marksT, tot]
    | succ i =>
      have := ih (k + r.length) i (by simpa using h)
      rw [List.take_succ_cons, tot_cons]
      have e : k + (r.length : Int) + (tot (m.take i) : Int) = k + ((r.length + tot (m.take i) : Nat) : Int) := by omega
      rw [← e]
      exact this

theorem items_at {us : List Value} {m M : List (List Int)} {i : Nat} {u : Value} {l : List Int} (hl : us.length = m.length) (hu : us[i]? = some u) (hM : M.length = i) (hi : i < m.length) :
    List.zipWith row1 us (M ++ l :: m.drop (i + 1)) = List.zipWith row1 (us.take i) M ++ row1 u l :: List.zipWith row1 (us.drop (i + 1)) (m.drop (i + 1)) := by
  have h1 : us = us.take i ++ u :: us.drop (i + 1) := by
    obtain ⟨h, rfl⟩ := List.getElem?_eq_some_iff.1 hu
    simp
  conv => lhs; rw [h1]
  rw [List.zipWith_append (by rw [List.length_take, hM]; omega)]
  rfl
/-- a table partly marked. -/
def markedT (k : Int) (m : List (List Int)) (i : Nat) : List (List Int) := marksT k (m.take i) ++ m.drop i
theorem markedT_length (k : Int) (m : List (List Int)) (i : Nat) : (markedT k m i).length = m.length := by
  unfold markedT; rw [List.length_append, marksT_length, List.length_take, List.length_drop]; omega
theorem markedT_this (k : Int) (m : List (List Int)) {i : Nat} (hi : i < m.length) : markedT k m i = marksT k (m.take i) ++ m.getD i [] :: m.drop (i + 1) := by
  unfold markedT; rw [List.drop_eq_getElem_cons hi]; simp [List.getD_eq_getElem?_getD, hi]
theorem markedT_next (k : Int) (m : List (List Int)) {i : Nat} (hi : i < m.length) : markedT k m (i + 1) = marksT k (m.take i) ++ marks (k + tot (m.take i)) (m.getD i []).length :: m.drop (i + 1) := by
  unfold markedT; rw [take_more m hi, marksT_snoc, List.append_assoc]; rfl
theorem markedT_get (k : Int) (m : List (List Int)) {i : Nat} (hi : i < m.length) : (markedT k m i).getD i [] = m.getD i [] := by
  rw [markedT_this k m hi, List.getD_eq_getElem?_getD, List.getElem?_append_right (by rw [marksT_length, List.length_take]; omega), marksT_length, List.length_take, show i - min i m.length = 0 by omega]; rfl