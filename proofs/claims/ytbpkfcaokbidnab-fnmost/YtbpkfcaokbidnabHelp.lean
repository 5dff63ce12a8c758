/-
  The contracts of the laws' own helpers on slices of integers: a copy, a comparison, marks that are laid and looked for.
  Conditions: a slice has at most 2^20 elements; marks begin between 0 and 2^40.
-/
import Derived.Test.YtbpkfcaokbidnabRows
import Derived.Test.YtbpkfcaokbidnabInts
import Derived.WalkKit
import Derived.ProofKit
import Derived.Lib.Hide
import Derived.Deep.QuietTactic
import Derived.BigQuiet
namespace Go.Proofs.Ytbpkfcaokbidnab
open Go.RowKit
set_option linter.unusedVariables false

theorem infoInt : (Try.prog.info? 3).map (fun i => (i.zero, i.size, i.bytes)) = some (some (.int .i64 0), 1, 8) := by kernel_rfl

/-- a row partly copied: the first k are as told. -/
def part (l : List Int) (k : Nat) : List Int := l.take k ++ List.replicate (l.length - k) 0
theorem part_length (l : List Int) (k : Nat) (h : k ≤ l.length) : (part l k).length = l.length := by simp [part]; omega
theorem part_all (l : List Int) : part l l.length = l := by simp [part]
theorem part_set (l : List Int) (k : Nat) (h : k < l.length) : (part l k).set k (l.getD k 0) = part l (k + 1) := by
  unfold part
  rw [List.set_append_right _ _ (by simp; omega)]
  have e : l.take (k + 1) = l.take k ++ [l.getD k 0] := by
    rw [List.take_succ_eq_append_getElem h]; simp [List.getD_eq_getElem?_getD, h]
  rw [e, List.append_assoc]
  congr 1
  have e2 : l.length - k = (l.length - (k + 1)) + 1 := by omega
  rw [e2, List.replicate_succ]
  simp [Nat.min_eq_left (Nat.le_of_lt h)]
theorem part_none (l : List Int) : vals (part l 0) = (madeCells #[Value.int .i64 0] l.length).toList := by
  rw [toList_madeCells_one]; simp [part, vals]

/-- where the copy stands: its row holds the first k. -/
def Copied (w : World) (l : List Int) (g k : Nat) (wr : World) : Prop :=
  k ≤ l.length ∧ w.grownBy wr none ∧ w.heap.size ≤ g ∧ Own wr w.heap.size (.slice (some ⟨g, 0, none⟩) l.length l.length) (part l k)

theorem own_len {w : World} {base : Nat} {v : Value} {l : List Int} {n : Nat} (h : w.ownsRow base 3 1 v n (vals l)) (hl : l.length = n) : Own w base v l := by
  subst hl; exact h

theorem Copied.cell {w wr : World} {l : List Int} {g k : Nat} (h : Copied w l g k wr) (hk : k < l.length) : wr.cell? ⟨g, k, none⟩ = some (.int .i64 ((part l k).getD k 0)) ∧ wr.frozen? ⟨g, k, none⟩ = false := by
  obtain ⟨h0, h1, h2, h3⟩ := h
  unfold Own at h3
  rw [part_length l k h0] at h3
  have hc := World.ownsRow.cells h3 (g := g) rfl k _ (vals_get (part l k) k (by rw [part_length l k h0]; exact hk))
  rw [Addr.add_lit] at hc
  exact ⟨by simpa using hc, World.ownsRow.frozenAt h3 k⟩
theorem Copied.next {w wr : World} {l : List Int} {g k : Nat} (h : Copied w l g k wr) (hk : k < l.length) : Copied w l g (k + 1) (wr.setCell ⟨g, k, none⟩ (.int .i64 (l.getD k 0))) := by
  obtain ⟨h0, h1, h2, h3⟩ := h
  unfold Own at h3
  rw [part_length l k h0] at h3
  have hs := World.ownsRow.stored h3 k (.int .i64 (l.getD k 0))
  refine ⟨hk, grown_set h1 (p := ⟨g, k, none⟩) h2 _, h2, ?_⟩
  refine own_len (n := l.length) ?_ (part_length l (k + 1) hk)
  rw [← part_set l k hk, ← vals_set]
  exact hs.1

set_option maxHeartbeats 1000000 in
set_option maxRecDepth 20000 in
theorem toIntS (v : Value) (l : List Int) (w : World) (h : Sl w v l) (hl : l.length ≤ 1048576) : Calls Try.prog 53 #[v] w (NewInts l w) := by
  obtain ⟨a, cap, rfl, hlc, hcm, hr⟩ := h
  have R := Lib.hid hr
  clear hr
  obtain ⟨i0, hi, hz0, hz1, hz2⟩ := info_parts infoInt
  have I1 := Lib.hid hi
  have I2 := Lib.hid hz0
  have I3 := Lib.hid hz1
  have I4 := Lib.hid hz2
  clear hi hz0 hz1 hz2
  unfold maxLen at hcm
  have hn0 : (0 : Int) ≤ (l.length : Int) := by omega
  go_enter Try.func53, Try.ntmps53
  go_wp2_with (at_make; refine wpList_make_full _ rfl _ _ 33 rfl w.heap.size 3 i0 (.int .i64 0) 1 Try.underlying33 I1.out I2.out I3.out _ _ _ _ l.length rfl rfl rfl rfl ?b1 ?b2 ?b3 ?_)
  case b1 => rw [I4.out]; omega
  case b2 => unfold maxLen; omega
  case b3 => exact Nat.le_refl _
  intro w1 ho hg
  have C0 : Hid (Copied w l w.heap.size 0 w1) := by
    refine ⟨Nat.zero_le _, hg, Nat.le_refl _, own_len (n := l.length) ?_ (part_length l 0 (Nat.zero_le _))⟩
    rw [part_none]
    simpa using ho
  clear ho hg
  go_wp2_with fail
  go_loopw [4] (fun i wr => ∃ k : Nat, i = .int .i64 k ∧ Copied w l w.heap.size k wr) (fun i _ => l.length - (intOf i).toNat)
  case atStart => exact ⟨0, rfl, C0.out⟩
  case round =>
    obtain ⟨k, rfl, hc⟩ := hrel
    have hk := hc.1
    have C := Lib.hid hc
    clear hc
    by_cases hlt : k < l.length
    · obtain ⟨hx, hf⟩ := C.out.cell hlt
      obtain ⟨b, o, rfl, hx2⟩ := (R.out.grown C.out.2.1).at_ hlt
      obtain ⟨x, hxe⟩ : ∃ x, l.getD k 0 = x := ⟨_, rfl⟩
      rw [hxe] at hx2
      have E := Lib.hid hxe
      clear hxe
      go_wp2_with fail
      go_roundw
      case rel => exact ⟨k + 1, by go_num, by rw [← E.out]; exact C.out.next hlt⟩
      case measure => simp [intOf]; omega
    · have : k = l.length := by omega
      subst this
      go_wp2_with fail
      go_ret
      refine ⟨_, rfl, C.out.2.1, ?_⟩
      have := C.out.2.2.2
      rwa [part_all] at this

set_option maxHeartbeats 1000000 in
set_option maxRecDepth 20000 in
theorem eqSame (u v : Value) (l : List Int) (w : World) (h : Sl w u l) (k : Sl w v l) : Calls Try.prog 36 #[u, v] w fun e w' => e = .returned (.bool true) ∧ w.grownBy w' none := by
  obtain ⟨a, cap, rfl, hlc, hcm, hr⟩ := h
  obtain ⟨a', cap', rfl, hlc', hcm', hr'⟩ := k
  have R := Lib.hid hr
  have R' := Lib.hid hr'
  clear hr hr'
  unfold maxLen at hcm hcm'
  have hne : ((l.length : Int) != (l.length : Int)) = false := by simp
  go_enter Try.func36, Try.ntmps36
  go_wp2_with fail
  go_loopw [5] (fun i wr => ∃ k : Nat, i = .int .i64 k ∧ k ≤ l.length ∧ w.grownBy wr none) (fun i _ => l.length - (intOf i).toNat)
  case atStart => exact ⟨0, rfl, Nat.zero_le _, World.grownBy.refl _ _⟩
  case round =>
    obtain ⟨k, rfl, hk, hg⟩ := hrel
    have G := Lib.hid hg
    clear hg
    by_cases hlt : k < l.length
    · have hlt' : (k : Int) < (l.length : Int) := by omega
      obtain ⟨b, o, rfl, hx⟩ := (R.out.grown G.out).at_ hlt
      obtain ⟨b', o', rfl, hx'⟩ := (R'.out.grown G.out).at_ hlt
      generalize l.getD k 0 = x at hx hx'
      go_wp2_with fail
      go_quiet (fail)
      go_wp2_with fail
      go_roundw
      case rel => exact ⟨k + 1, by go_num, by omega, grown_draws G.out _⟩
      case measure => simp [intOf]; omega
    · go_wp2_with fail
      go_ret
      exact ⟨rfl, G.out⟩

set_option maxHeartbeats 1000000 in
set_option maxRecDepth 20000 in
theorem lkSame (u v : Value) (l : List Int) (w : World) (h : Sl w u l) (k : Sl w v l) : Calls Try.prog 33 #[u, v] w fun e w' => e = .returned (.bool true) ∧ w.grownBy w' none := by
  obtain ⟨a, cap, rfl, hlc, hcm, hr⟩ := h
  obtain ⟨a', cap', rfl, hlc', hcm', hr'⟩ := k
  have R := Lib.hid hr
  have R' := Lib.hid hr'
  clear hr hr'
  unfold maxLen at hcm hcm'
  have hne : ((l.length : Int) != (l.length : Int)) = false := by simp
  go_enter Try.func33, Try.ntmps33
  go_wp2_with fail
  go_loopw [5] (fun i wr => ∃ k : Nat, i = .int .i64 k ∧ k ≤ l.length ∧ w.grownBy wr none) (fun i _ => l.length - (intOf i).toNat)
  case atStart => exact ⟨0, rfl, Nat.zero_le _, World.grownBy.refl _ _⟩
  case round =>
    obtain ⟨k, rfl, hk, hg⟩ := hrel
    have G := Lib.hid hg
    clear hg
    by_cases hlt : k < l.length
    · have hlt' : (k : Int) < (l.length : Int) := by omega
      obtain ⟨b, o, rfl, hx⟩ := (R.out.grown G.out).at_ hlt
      obtain ⟨b', o', rfl, hx'⟩ := (R'.out.grown G.out).at_ hlt
      generalize l.getD k 0 = x at hx hx'
      go_wp2_with fail
      go_quiet (fail)
      go_wp2_with fail
      go_roundw
      case rel => exact ⟨k + 1, by go_num, by omega, grown_draws G.out _⟩
      case measure => simp [intOf]; omega
    · go_wp2_with fail
      go_ret
      exact ⟨rfl, G.out⟩

/-- marks from k on. -/
def marks (k : Int) (n : Nat) : List Int := (List.range n).map fun (i : Nat) => k + (i : Int)
theorem marks_length (k : Int) (n : Nat) : (marks k n).length = n := by simp [marks]
theorem marks_get (k : Int) (n i : Nat) (h : i < n) : (marks k n).getD i 0 = k + i := by
  simp [marks, List.getD_eq_getElem?_getD, h]
/-- a row of which the first i are marked. -/
def marked (k : Int) (l : List Int) (i : Nat) : List Int := marks k i ++ l.drop i
theorem marked_length (k : Int) (l : List Int) (i : Nat) (h : i ≤ l.length) : (marked k l i).length = l.length := by simp [marked, marks]; omega
theorem marked_all (k : Int) (l : List Int) : marked k l l.length = marks k l.length := by simp [marked]
theorem marked_none (k : Int) (l : List Int) : marked k l 0 = l := by simp [marked, marks]
theorem marked_set (k : Int) (l : List Int) (i : Nat) (h : i < l.length) : (marked k l i).set i (k + i) = marked k l (i + 1) := by
  unfold marked
  rw [List.set_append_right _ _ (by simp [marks])]
  have e : marks k (i + 1) = marks k i ++ [k + (i : Int)] := by simp [marks, List.range_succ]
  rw [e, List.append_assoc, marks_length, Nat.sub_self, List.drop_eq_getElem_cons h, List.set_cons_zero]
  rfl

/-- where the marking stands. -/
def Marking (w : World) (base g cap : Nat) (k : Int) (l : List Int) (i : Nat) (wr : World) : Prop :=
  i ≤ l.length ∧ w.grownBy wr (some g) ∧ Own wr base (.slice (some ⟨g, 0, none⟩) l.length cap) (marked k l i)
theorem Marking.cell {w wr : World} {base g cap i : Nat} {k : Int} {l : List Int} (h : Marking w base g cap k l i wr) (hi : i < l.length) :
    wr.cell? ⟨g, i, none⟩ = some (.int .i64 ((marked k l i).getD i 0)) ∧ wr.frozen? ⟨g, i, none⟩ = false := by
  obtain ⟨h0, h1, h3⟩ := h
  unfold Own at h3
  rw [marked_length k l i h0] at h3
  have hc := World.ownsRow.cells h3 (g := g) rfl i _ (vals_get (marked k l i) i (by rw [marked_length k l i h0]; exact hi))
  rw [Addr.add_lit] at hc
  exact ⟨by simpa using hc, World.ownsRow.frozenAt h3 i⟩
theorem Marking.next {w wr : World} {base g cap i : Nat} {k : Int} {l : List Int} (h : Marking w base g cap k l i wr) (hi : i < l.length) :
    Marking w base g cap k l (i + 1) (wr.setCell ⟨g, i, none⟩ (.int .i64 (k + i))) := by
  obtain ⟨h0, h1, h3⟩ := h
  unfold Own at h3
  rw [marked_length k l i h0] at h3
  have hs := World.ownsRow.stored h3 i (.int .i64 (k + i))
  refine ⟨hi, grown_trans h1 hs.2, own_len (n := l.length) ?_ (marked_length k l (i + 1) hi)⟩
  rw [← marked_set k l i hi, ← vals_set]
  exact hs.1

set_option maxHeartbeats 1000000 in
set_option maxRecDepth 20000 in
theorem markSome (g cap : Nat) (l : List Int) (k : Int) (base : Nat) (w : World) (h : Own w base (.slice (some ⟨g, 0, none⟩) l.length cap) l) (hl : l.length ≤ 1048576) (k0 : 0 ≤ k) (k1 : k ≤ 1099511627776) :
    Calls Try.prog 37 #[.slice (some ⟨g, 0, none⟩) l.length cap, .int .i64 k] w fun e w' => e = .returned (.int .i64 (k + l.length)) ∧ w.grownBy w' (some g) ∧ Own w' base (.slice (some ⟨g, 0, none⟩) l.length cap) (marks k l.length) := by
  have M : Hid (Marking w base g cap k l 0 w) := ⟨Nat.zero_le _, World.grownBy.refl _ _, by rw [marked_none]; exact h⟩
  clear h
  go_enter Try.func37, Try.ntmps37
  go_wp2_with fail
  go_loopw [1, 5] (fun m i wr => ∃ j : Nat, i = .int .i64 j ∧ m = .int .i64 (k + j) ∧ Marking w base g cap k l j wr) (fun _ i _ => l.length - (intOf i).toNat)
  case atStart => exact ⟨0, rfl, by simp, M.out⟩
  case round =>
    obtain ⟨j, rfl, rfl, hm⟩ := hrel
    have hj := hm.1
    have C := Lib.hid hm
    clear hm
    by_cases hlt : j < l.length
    · obtain ⟨hx, hf⟩ := C.out.cell hlt
      go_wp2_with fail
      go_roundw
      case rel => exact ⟨j + 1, by go_num, by go_num, C.out.next hlt⟩
      case measure => simp [intOf]; omega
    · have : j = l.length := by omega
      subst this
      go_wp2_with fail
      go_ret
      refine ⟨rfl, C.out.2.1, ?_⟩
      have := C.out.2.2
      rwa [marked_all] at this

set_option maxHeartbeats 400000 in
set_option maxRecDepth 20000 in
theorem markNone (k : Int) (w : World) (k0 : 0 ≤ k) (k1 : k ≤ 1099511627776) :
    Calls Try.prog 37 #[.slice none 0 0, .int .i64 k] w fun e w' => e = .returned (.int .i64 k) ∧ w = w' := by
  go_enter Try.func37, Try.ntmps37
  go_wp2_with fail
  go_loop [1, 5] (fun m i => m = .int .i64 k ∧ i = .int .i64 0) (fun _ _ => 0)
  case atStart => exact ⟨rfl, rfl⟩
  case round =>
    obtain ⟨rfl, rfl⟩ := hrel
    go_wp2_with fail
    go_ret
    exact ⟨rfl, rfl⟩

/-- what marking leaves. -/
def Marked (v : Value) (l : List Int) (k : Int) (base : Nat) (w : World) (e : Ending) (w' : World) : Prop :=
  e = .returned (.int .i64 (k + l.length)) ∧ w.grownBy w' v.ownBlock ∧ Own w' base v (marks k l.length)
theorem mark_len {w : World} {base : Nat} {v : Value} {l : List Int} {k : Int} (h : w.ownsRow base 3 1 v l.length (vals (marks k l.length))) : Own w base v (marks k l.length) := own_len h (marks_length _ _)
theorem markIntS (v : Value) (l : List Int) (k : Int) (base : Nat) (w : World) (h : Own w base v l) (hl : l.length ≤ 1048576) (k0 : 0 ≤ k) (k1 : k ≤ 1099511627776) :
    Calls Try.prog 37 #[v, .int .i64 k] w (Marked v l k base w) := by
  rcases h.2 with ⟨rfl, h0⟩ | ⟨g, cap, cur, rfl, r⟩
  · have : l = [] := List.eq_nil_of_length_eq_zero h0
    subst this
    refine (markNone k w k0 k1).mono ?_
    rintro e w' ⟨rfl, rfl⟩
    exact ⟨by simp, World.grownBy.refl _ _, Own.none_ _ _⟩
  · exact markSome g cap l k base w h hl k0 k1

set_option maxHeartbeats 1000000 in
set_option maxRecDepth 20000 in
theorem heldIntS (v : Value) (n : Nat) (k : Int) (w : World) (h : Sl w v (marks k n)) (hl : n ≤ 1048576) (k0 : 0 ≤ k) (k1 : k ≤ 1099511627776) :
    Calls Try.prog 38 #[v, .int .i64 k] w fun e w' => e = .returned (.int .i64 (k + n)) ∧ w = w' := by
  obtain ⟨a, cap, rfl, hlc, hcm, hr⟩ := h
  rw [marks_length] at hlc ⊢
  have R := Lib.hid hr
  clear hr
  go_enter Try.func38, Try.ntmps38
  go_wp2_with fail
  go_loop [1, 5] (fun m i => ∃ j : Nat, j ≤ n ∧ i = .int .i64 j ∧ m = .int .i64 (k + j)) (fun _ i => n - (intOf i).toNat)
  case atStart => exact ⟨0, Nat.zero_le _, rfl, by simp⟩
  case round =>
    obtain ⟨j, hj, rfl, rfl⟩ := hrel
    by_cases hlt : j < n
    · obtain ⟨b, o, rfl, hx⟩ := R.out.at_ (k := j) (by rw [marks_length]; exact hlt)
      rw [marks_get k n j hlt] at hx
      go_wp2_with fail
      go_round
      case rel => exact ⟨j + 1, by omega, by go_num, by go_num⟩
      case measure => simp [intOf]; omega
    · have : j = n := by omega
      subst this
      go_wp2_with fail
      go_ret
      exact ⟨rfl, rfl⟩
end Go.Proofs.Ytbpkfcaokbidnab
