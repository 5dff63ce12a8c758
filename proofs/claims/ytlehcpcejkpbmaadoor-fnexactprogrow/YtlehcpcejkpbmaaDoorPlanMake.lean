/-
  The program's planBy: a plan out of how often each shard is taken; those taken 0 times are left out.
  Conditions: none.
-/
import Derived.Test.YtlehcpcejkpbmaaDoorPlanWork
import Derived.Test.YtlehcpcejkpbmaaDoorG4
import Derived.Maps.AppendAt
namespace Go.Proofs.YtlehcpcejkpbmaaDoor
open Go.RowKit
set_option linter.unusedVariables false

/-- two rows, owned, apart. -/
def TwoOwn (w : World) (base : Nat) (u v : Value) (l m : List Int) : Prop := Own w base u l ∧ Own w base v m ∧ (u.ownBlock = none ∨ u.ownBlock ≠ v.ownBlock)
theorem TwoOwn.all {w : World} {base : Nat} {u v : Value} {l m : List Int} (h : TwoOwn w base u v l m) : OwnAll w base [row1 u l, row1 v m] := by
  constructor
  · intro x hx
    rcases List.mem_cons.1 hx with rfl | hx
    · exact row1_own.2 h.1
    · rcases List.mem_cons.1 hx with rfl | hx
      · exact row1_own.2 h.2.1
      · cases hx
  · refine List.pairwise_cons.2 ⟨fun y hy => ?_, List.pairwise_cons.2 ⟨fun y hy => (by cases hy), List.Pairwise.nil⟩⟩
    rcases List.mem_cons.1 hy with rfl | hy
    · exact h.2.2
    · cases hy
theorem TwoOwn.still {w w' : World} {base : Nat} {u v : Value} {l m : List Int} (h : TwoOwn w base u v l m) (hg : w.grownBy w' none) : TwoOwn w' base u v l m := ⟨h.1.still hg, h.2.1.still hg, h.2.2⟩
theorem TwoOwn.lower {w : World} {base base' : Nat} {u v : Value} {l m : List Int} (h : TwoOwn w base u v l m) (hb : base' ≤ base) : TwoOwn w base' u v l m := ⟨h.1.lower hb, h.2.1.lower hb, h.2.2⟩
theorem apart_symm {u v : Value} (h : u.ownBlock = none ∨ u.ownBlock ≠ v.ownBlock) : v.ownBlock = none ∨ v.ownBlock ≠ u.ownBlock := by
  rcases h with h | h
  · cases hv : v.ownBlock with
    | none => exact .inl rfl
    | some k => exact .inr (by rw [h]; simp)
  · exact .inr fun e => h e.symm
/-- a plan that a call has made. -/
def NewPlan (lost : Int) (l m : List Int) (w : World) (e : Ending) (w' : World) : Prop := ∃ u v, e = .returned (.agg #[.int .i64 lost, u, v]) ∧ w.grownBy w' none ∧ TwoOwn w' w.heap.size u v l m

theorem idxT (a0 a1 a2 a3 a4 a5 a6 a7 : Int) {n : Nat} (hn : n < 8) (W : World) : (Instr.index 68 (.agg (vals [a0, a1, a2, a3, a4, a5, a6, a7]).toArray) (.int .i64 n)).run Tryd.prog W = .ok (.int .i64 ([a0, a1, a2, a3, a4, a5, a6, a7].getD n 0)) W := by
  rcases (by omega : n = 0 ∨ n = 1 ∨ n = 2 ∨ n = 3 ∨ n = 4 ∨ n = 5 ∨ n = 6 ∨ n = 7) with rfl | rfl | rfl | rfl | rfl | rfl | rfl | rfl <;> kernel_rfl

theorem taken_len (c : List Int) (n : Nat) : (Sp.taken c n).length ≤ n := by
  unfold Sp.taken
  exact Nat.le_trans (List.length_filter_le _ _) (by simp)
theorem ints_len (S : List Nat) : (Sp.ints S).length = S.length := by simp [Sp.ints]
theorem nums_len (c : List Int) (S : List Nat) : (Sp.nums c S).length = S.length := by simp [Sp.nums]

end Go.Proofs.YtlehcpcejkpbmaaDoor
