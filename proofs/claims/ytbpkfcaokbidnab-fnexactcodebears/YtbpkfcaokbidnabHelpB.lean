/-
  The contracts of the laws' helpers on slices of flags: a copy, and whether two are the same.
  Conditions: none.
-/
import Derived.Test.YtbpkfcaokbidnabHelp
import Derived.Test.YtbpkfcaokbidnabFlags
namespace Go.Proofs.Ytbpkfcaokbidnab
open Go.RowKit
set_option linter.unusedVariables false

theorem infoBool : (Try.prog.info? 4).map (fun i => (i.zero, i.size, i.bytes)) = some (some (.bool false), 1, 1) := by kernel_rfl

/-- a row partly copied: the first k are as told. -/
def bpart (l : List Bool) (k : Nat) : List Bool := l.take k ++ List.replicate (l.length - k) false
theorem bpart_length (l : List Bool) (k : Nat) (h : k ≤ l.length) : (bpart l k).length = l.length := by simp [bpart]; omega
theorem bpart_all (l : List Bool) : bpart l l.length = l := by simp [bpart]
theorem bpart_set (l : List Bool) (k : Nat) (h : k < l.length) : (bpart l k).set k (l.getD k false) = bpart l (k + 1) := by
  unfold bpart
  rw [List.set_append_right _ _ (by simp; omega)]
  have e : l.take (k + 1) = l.take k ++ [l.getD k false] := by
    rw [List.take_succ_eq_append_getElem h]; simp [List.getD_eq_getElem?_getD, h]
  rw [e, List.append_assoc]
  congr 1
  have e2 : l.length - k = (l.length - (k + 1)) + 1 := by omega
  rw [e2, List.replicate_succ]
  simp [Nat.min_eq_left (Nat.le_of_lt h)]
theorem bpart_none (l : List Bool) : bvals (bpart l 0) = (madeCells #[Value.bool false] l.length).toList := by
  rw [toList_madeCells_one]; simp [bpart, bvals]

/-- where the copy stands: its row holds the first k. -/
def BCopied (w : World) (l : List Bool) (g k : Nat) (wr : World) : Prop :=
  k ≤ l.length ∧ w.grownBy wr none ∧ w.heap.size ≤ g ∧ BOwn wr w.heap.size (.slice (some ⟨g, 0, none⟩) l.length l.length) (bpart l k)

theorem bown_len {w : World} {base : Nat} {v : Value} {l : List Bool} {n : Nat} (h : w.ownsRow base 4 1 v n (bvals l)) (hl : l.length = n) : BOwn w base v l := by
  subst hl; exact h

theorem BCopied.cell {w wr : World} {l : List Bool} {g k : Nat} (h : BCopied w l g k wr) (hk : k < l.length) : wr.cell? ⟨g, k, none⟩ = some (.bool ((bpart l k).getD k false)) ∧ wr.frozen? ⟨g, k, none⟩ = false := by
  obtain ⟨h0, h1, h2, h3⟩ := h
  unfold BOwn at h3
  rw [bpart_length l k h0] at h3
  have hc := World.ownsRow.cells h3 (g := g) rfl k _ (bvals_get (bpart l k) k (by rw [bpart_length l k h0]; exact hk))
  rw [Addr.add_lit] at hc
  exact ⟨by simpa using hc, World.ownsRow.frozenAt h3 k⟩
theorem BCopied.next {w wr : World} {l : List Bool} {g k : Nat} (h : BCopied w l g k wr) (hk : k < l.length) : BCopied w l g (k + 1) (wr.setCell ⟨g, k, none⟩ (.bool (l.getD k false))) := by
  obtain ⟨h0, h1, h2, h3⟩ := h
  unfold BOwn at h3
  rw [bpart_length l k h0] at h3
  have hs := World.ownsRow.stored h3 k (.bool (l.getD k false))
  refine ⟨hk, grown_set h1 (p := ⟨g, k, none⟩) h2 _, h2, ?_⟩
  refine bown_len (n := l.length) ?_ (bpart_length l (k + 1) hk)
  rw [← bpart_set l k hk, ← bvals_set]
  exact hs.1

set_option maxHeartbeats 1000000 in
set_option maxRecDepth 20000 in
theorem toBoolS (v : Value) (l : List Bool) (w : World) (h : Bl w v l) (hl : l.length ≤ 1048576) : Calls Try.prog 16 #[v] w (NewBools l w) := by
  obtain ⟨a, cap, rfl, hlc, hcm, hr⟩ := h
  have R := Lib.hid hr
  clear hr
  obtain ⟨i0, hi, hz0, hz1, hz2⟩ := info_parts infoBool
  have I1 := Lib.hid hi
  have I2 := Lib.hid hz0
  have I3 := Lib.hid hz1
  have I4 := Lib.hid hz2
  clear hi hz0 hz1 hz2
  unfold maxLen at hcm
  have hn0 : (0 : Int) ≤ (l.length : Int) := by omega
  go_enter Try.func16, Try.ntmps16
  go_wp2_with (at_make; refine wpList_make_full _ rfl _ _ 22 rfl w.heap.size 4 i0 (.bool false) 1 Try.underlying22 I1.out I2.out I3.out _ _ _ _ l.length rfl rfl rfl rfl ?b1 ?b2 ?b3 ?_)
  case b1 => rw [I4.out]; omega
  case b2 => unfold maxLen; omega
  case b3 => exact Nat.le_refl _
  intro w1 ho hg
  have C0 : Hid (BCopied w l w.heap.size 0 w1) := by
    refine ⟨Nat.zero_le _, hg, Nat.le_refl _, bown_len (n := l.length) ?_ (bpart_length l 0 (Nat.zero_le _))⟩
    rw [bpart_none]
    simpa using ho
  clear ho hg
  go_wp2_with fail
  go_loopw [4] (fun i wr => ∃ k : Nat, i = .int .i64 k ∧ BCopied w l w.heap.size k wr) (fun i _ => l.length - (intOf i).toNat)
  case atStart => exact ⟨0, rfl, C0.out⟩
  case round =>
    obtain ⟨k, rfl, hc⟩ := hrel
    have hk := hc.1
    have C := Lib.hid hc
    clear hc
    by_cases hlt : k < l.length
    · obtain ⟨hx, hf⟩ := C.out.cell hlt
      obtain ⟨b, o, rfl, hx2⟩ := (R.out.grown C.out.2.1).at_ hlt
      obtain ⟨x, hxe⟩ : ∃ x, l.getD k false = x := ⟨_, rfl⟩
      rw [hxe] at hx2
      have E := Lib.hid hxe
      clear hxe
      go_wp2_with fail
      go_roundw
      case rel => exact ⟨k + 1, by go_num, by rw [← E.out]; exact C.out.next hlt⟩
      case measure => simp [intOf]; omega
    · have : k = l.length := by omega
      subst this
      go_wp2_with fail
      go_ret
      refine ⟨_, rfl, C.out.2.1, ?_⟩
      have := C.out.2.2.2
      rwa [bpart_all] at this

set_option maxHeartbeats 1000000 in
set_option maxRecDepth 20000 in
theorem eqSameB (u v : Value) (l : List Bool) (w : World) (h : Bl w u l) (k : Bl w v l) : Calls Try.prog 19 #[u, v] w fun e w' => e = .returned (.bool true) ∧ w.grownBy w' none := by
  obtain ⟨a, cap, rfl, hlc, hcm, hr⟩ := h
  obtain ⟨a', cap', rfl, hlc', hcm', hr'⟩ := k
  have R := Lib.hid hr
  have R' := Lib.hid hr'
  clear hr hr'
  unfold maxLen at hcm hcm'
  have hne : ((l.length : Int) != (l.length : Int)) = false := by simp
  go_enter Try.func19, Try.ntmps19
  go_wp2_with fail
  go_loopw [5] (fun i wr => ∃ k : Nat, i = .int .i64 k ∧ k ≤ l.length ∧ w.grownBy wr none) (fun i _ => l.length - (intOf i).toNat)
  case atStart => exact ⟨0, rfl, Nat.zero_le _, World.grownBy.refl _ _⟩
  case round =>
    obtain ⟨k, rfl, hk, hg⟩ := hrel
    have G := Lib.hid hg
    clear hg
    by_cases hlt : k < l.length
    · have hlt' : (k : Int) < (l.length : Int) := by omega
      obtain ⟨b, o, rfl, hx⟩ := (R.out.grown G.out).at_ hlt
      obtain ⟨b', o', rfl, hx'⟩ := (R'.out.grown G.out).at_ hlt
      generalize l.getD k false = x at hx hx'
      go_wp2_with fail
      go_quiet (fail)
      go_wp2_with fail
      go_roundw
      case rel => exact ⟨k + 1, by go_num, by omega, grown_draws G.out _⟩
      case measure => simp [intOf]; omega
    · go_wp2_with fail
      go_ret
      exact ⟨rfl, G.out⟩

end Go.Proofs.Ytbpkfcaokbidnab
