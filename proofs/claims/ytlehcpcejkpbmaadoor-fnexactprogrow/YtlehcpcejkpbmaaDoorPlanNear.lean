/-
  PlanNear, in the program and in the model; what is drawn for plans; whether two plans are the same.
  Conditions: none.
-/
import Derived.Test.YtlehcpcejkpbmaaDoorPlanSpec2
import Derived.Test.YtlehcpcejkpbmaaDoorG3
import Derived.Test.YtlehcpcejkpbmaaDoorG4
namespace Go.Proofs.YtlehcpcejkpbmaaDoor
open Go.RowKit
set_option linter.unusedVariables false

/-- how many shards a shard is made of, if all others are there. -/
def NearP (k lost : Int) (f : List Bool) (w : World) (e : Ending) (w' : World) : Prop := ∃ n l m b, PlanT k lost f n l m b ∧ e = .returned (.int .i64 (l.length : Nat)) ∧ w.grownBy w' none

theorem BArr.bl8 {w : World} {g : Nat} {t : TypeId} {l : List Bool} (h : BArr w g t l) (h8 : l.length = 8) : Bl w (.slice (some ⟨g, 0, none⟩) 8 8) l :=
  ⟨_, 8, by rw [h8], by omega, by simp [maxLen], .inr ⟨g, 0, rfl, fun i hi => by rw [Nat.zero_add]; exact h.cell hi⟩⟩

/-- a kind, a shard, and which are there. -/
def DrawnKLT (w : World) (e : Ending) (w' : World) : Prop :=
  ∃ (k n : Nat) (v : Value) (f : List Bool), k ≤ 3 ∧ n ≤ 15 ∧ e = .returned (.tuple #[.int .i64 k, .int .i64 n, v]) ∧ (f.length = 8 ∨ f.length = 7) ∧ Bl w' v f ∧ Below w.heap.size w w'
def DrawnKL (w : World) (e : Ending) (w' : World) : Prop :=
  ∃ (k n : Nat), k ≤ 3 ∧ n ≤ 15 ∧ e = .returned (.tuple #[.int .i64 k, .int .i64 n]) ∧ Below w.heap.size w w'

theorem eight_more {n q : Int} (n0 : 0 ≤ n) (n1 : n < 8) (q0 : 0 ≤ q) (q1 : q < 24) : ∃ m : Nat, m ≤ 15 ∧ n + q / 23 * 8 = m ∧ q / 23 * 8 ≤ 8 ∧ 0 ≤ q / 23 ∧ q / 23 ≤ 1 := ⟨(n + q / 23 * 8).toNat, by omega, by omega, by omega, by omega, by omega⟩

end Go.Proofs.YtlehcpcejkpbmaaDoor
