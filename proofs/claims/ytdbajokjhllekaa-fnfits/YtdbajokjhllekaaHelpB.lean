/-
  The contracts of the laws' helpers on slices of flags: a copy, and whether two are the same.
  Conditions: none.
-/
import Derived.Test.YtdbajokjhllekaaHelp
import Derived.Test.YtdbajokjhllekaaFlags
namespace Go.Proofs.Ytdbajokjhllekaa
open Go.RowKit
set_option linter.unusedVariables false

theorem infoBool : (Try.prog.info? 4).map (fun i => (i.zero, i.size, i.bytes)) = some (some (.bool false), 1, 1) := by kernel_rfl

/-- a row partly copied: the first k are as told. -/
def bpart (l : List Bool) (k : Nat) : List Bool := l.take k ++ List.replicate (l.length - k) false
theorem bpart_length (l : List Bool) (k : Nat) (h : k ≤ l.length) : (bpart l k).length = l.length := by simp [bpart]; omega
theorem bpart_all (l : List Bool) : bpart l l.length = l := by simp [bpart]
theorem bpart_set (l : List Bool) (k : Nat) (h : k < l.length) : (bpart l k).set k (l.getD k false) = bpart l (k + 1) := by
  unfold bpart
  rw [List.set_append_right _ _ (by simp; omega)]
  have e : l.take (k + 1) = l.take k ++ [l.getD k false] := by
    rw [List.take_succ_eq_append_getElem h]; simp [List.getD_eq_getElem?_getD, h]
  rw [e, List.append_assoc]
  congr 1
  have e2 : l.length - k = (l.length - (k + 1)) + 1 := by omega
  rw [e2, List.replicate_succ]
  simp [Nat.min_eq_left (Nat.le_of_lt h)]
theorem bpart_none (l : List Bool) : bvals (bpart l 0) = (madeCells #[Value.bool false] l.length).toList := by
  rw [toList_madeCells_one]; simp [bpart, bvals]

/-- where the copy stands: its row holds the first k. -/
def BCopied (w : World) (l : List Bool) (g k : Nat) (wr : World) : Prop :=
  k ≤ l.length ∧ w.grownBy wr none ∧ w.heap.size ≤ g ∧ BOwn wr w.heap.size (.slice (some ⟨g, 0, none⟩) l.length l.length) (bpart l k)

theorem bown_len {w : World} {base : Nat} {v : Value} {l : List Bool} {n : Nat} (h : w.ownsRow base 4 1 v n (bvals l)) (hl : l.length = n) : BOwn w base v l := by
  subst hl; exact h

theorem BCopied.cell {w wr : World} {l : List Bool} {g k : Nat} (h : BCopied w l g k wr) (hk : k < l.length) : wr.cell? ⟨g, k, none⟩ = some (.bool ((bpart l k).getD k false)) ∧ wr.frozen? ⟨g, k, none⟩ = false := by
  obtain ⟨h0, h1, h2, h3⟩ := h
  unfold BOwn at h3
  rw [bpart_length l k h0] at h3
  have hc := World.ownsRow.cells h3 (g := g) rfl k _ (bvals_get (bpart l k) k (by rw [bpart_length l k h0]; exact hk))
  rw [Addr.add_lit] at hc
  exact ⟨by simpa using hc, World.ownsRow.frozenAt h3 k⟩
theorem BCopied.next {w wr : World} {l : List Bool} {g k : Nat} (h : BCopied w l g k wr) (hk : k < l.length) : BCopied w l g (k + 1) (wr.setCell ⟨g, k, none⟩ (.bool (l.getD k false))) := by
  obtain ⟨h0, h1, h2, h3⟩ := h
  unfold BOwn at h3
  rw [bpart_length l k h0] at h3
  have hs := World.ownsRow.stored h3 k (.bool (l.getD k false))
  refine ⟨hk, grown_set h1 (p := ⟨g, k, none⟩) h2 _, h2, ?_⟩
  refine bown_len (n := l.length) ?_ (bpart_length l (k + 1) hk)
  rw [← bpart_set l k hk, ← bvals_set]
  exact hs.1

end Go.Proofs.Ytdbajokjhllekaa
