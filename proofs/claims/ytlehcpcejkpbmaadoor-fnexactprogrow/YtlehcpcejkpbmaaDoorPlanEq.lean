/-
  The laws' helpers on plans: the same, marked, held.
  Conditions: none.
-/
import Derived.Test.YtlehcpcejkpbmaaDoorPlanNear
namespace Go.Proofs.YtlehcpcejkpbmaaDoor
open Go.RowKit
set_option linter.unusedVariables false

theorem PlanT.len {k lost : Int} {f : List Bool} {n : Int} {l m : List Int} {b : Bool} (h : PlanT k lost f n l m b) : l.length ≤ 4 ∧ m.length ≤ 4 := by
  rcases h with ⟨_, k1, l1, S, _, _, _, _, _, hp, hc, rfl, _⟩ | ⟨_, _, rfl, rfl, _⟩
  · have := (Sp.plan_some hp).2.1
    rw [ints_len, hc.1.1]; omega
  · simp
theorem Lives.new2 {w0 w w' : World} {L : List Item} (h : Lives w0 w L) {u v : Value} {l m : List Int} (hg : w.grownBy w' none) (k : TwoOwn w' w.heap.size u v l m) : Lives w0 w' (row1 u l :: row1 v m :: L) :=
  h.new (M := [row1 u l, row1 v m]) hg k.all
/-- a plan's block is no row's. -/
theorem own_blk {w : World} {base g : Nat} {v : Value} {l : List Int} {cs : List Value} (h : Own w base v l) (k : Blk w g 25 cs) : some g ≠ v.ownBlock := by
  intro e
  rcases h.2 with ⟨rfl, _⟩ | ⟨g', cap, cur, rfl, _, hg, _⟩
  · cases e
  · have e' : g = g' := by injection e
    subst e'
    unfold Blk at k
    rw [hg] at k
    simp at k
theorem bown_blk {w : World} {base g : Nat} {v : Value} {l : List Bool} {cs : List Value} (h : BOwn w base v l) (k : Blk w g 25 cs) : some g ≠ v.ownBlock := by
  intro e
  rcases h.2 with ⟨rfl, _⟩ | ⟨g', cap, cur, rfl, _, hg, _⟩
  · cases e
  · have e' : g = g' := by injection e
    subst e'
    unfold Blk at k
    rw [hg] at k
    simp at k

end Go.Proofs.YtlehcpcejkpbmaaDoor
