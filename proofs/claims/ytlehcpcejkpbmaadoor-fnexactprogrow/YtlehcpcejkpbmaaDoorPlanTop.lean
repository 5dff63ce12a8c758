/-
  The contract of the program's PlanOf.
  Conditions: none.
-/
import Derived.Test.YtlehcpcejkpbmaaDoorPlanFind
namespace Go.Proofs.YtlehcpcejkpbmaaDoor
open Go.RowKit
set_option linter.unusedVariables false

/-- a plan, as it is told: its number, its shards, how often each, and whether there is one. -/
def PlanT (k lost : Int) (f : List Bool) (n : Int) (l m : List Int) (b : Bool) : Prop :=
  (b = true ∧ ∃ (k' lost' : Nat) (S : List Nat), k = k' ∧ (k' = 1 ∨ k' = 2) ∧ lost = lost' ∧ lost' < 8 ∧ f.length = 8 ∧ Sp.planM k' lost' f = some S ∧ Sp.PlanBy k' lost' S m ∧ l = Sp.ints S ∧ n = lost') ∨
  (b = false ∧ n = 0 ∧ l = [] ∧ m = [] ∧ ∀ (k' lost' : Nat), k = k' → (k' = 1 ∨ k' = 2) → lost = lost' → lost' < 8 → f.length = 8 → Sp.planM k' lost' f = none)
theorem PlanT.one {k lost : Int} {f : List Bool} {n n' : Int} {l l' m m' : List Int} {b b' : Bool} (h : PlanT k lost f n l m b) (h' : PlanT k lost f n' l' m' b') : n = n' ∧ l = l' ∧ m = m' ∧ b = b' := by
  rcases h with ⟨rfl, k1, l1, S, rfl, hk, rfl, hl, hf, hp, hc, rfl, rfl⟩ | ⟨rfl, rfl, rfl, rfl, h⟩
  · rcases h' with ⟨rfl, k2, l2, S', e1, hk', e2, hl', hf', hp', hc', rfl, rfl⟩ | ⟨rfl, rfl, rfl, rfl, h'⟩
    · obtain rfl : k1 = k2 := by omega
      obtain rfl : l1 = l2 := by omega
      rw [hp] at hp'
      injection hp' with hp'
      subst hp'
      obtain ⟨_, _, hu, hcan, _⟩ := Sp.plan_some hp
      unfold Sp.can at hcan
      rw [Bool.and_eq_true] at hcan
      exact ⟨rfl, rfl, hc.one hk hu.lt hc' hcan.1, rfl⟩
    · have := h' k1 l1 rfl hk rfl hl hf
      rw [hp] at this; cases this
  · rcases h' with ⟨rfl, k2, l2, S', rfl, hk', rfl, hl', hf', hp', hc', rfl, rfl⟩ | ⟨rfl, rfl, rfl, rfl, h'⟩
    · have := h k2 l2 rfl hk' rfl hl' hf'
      rw [hp'] at this; cases this
    · exact ⟨rfl, rfl, rfl, rfl⟩
/-- a call that answers with a plan, and whether there is one. -/
def NewP (k lost : Int) (f : List Bool) (w : World) (e : Ending) (w' : World) : Prop :=
  ∃ (n : Int) (l m : List Int) (b : Bool) (u v : Value), PlanT k lost f n l m b ∧ e = .returned (.tuple #[.agg #[.int .i64 n, u, v], .bool b]) ∧ w.grownBy w' none ∧ TwoOwn w' w.heap.size u v l m
theorem PlanOut.told {k lost : Nat} (hk : k = 1 ∨ k = 2) (hl : lost < 8) {f : List Bool} (hf : f.length = 8) {w : World} {e : Ending} {w' : World} (h : PlanOut k lost f w e w') : NewP k lost f w e w' := by
  obtain ⟨hg, ⟨S, c, u, v, hp, hc, he, ht⟩ | ⟨hp, he⟩⟩ := h
  · exact ⟨lost, Sp.ints S, c, true, u, v, .inl ⟨rfl, k, lost, S, rfl, hk, rfl, hl, hf, hp, hc, rfl, rfl⟩, he, hg, ht⟩
  · refine ⟨0, [], [], false, _, _, .inr ⟨rfl, rfl, rfl, rfl, fun k' l' e1 _ e2 _ _ => ?_⟩, he, hg, Own.none_ _ _, Own.none_ _ _, .inl rfl⟩
    obtain rfl : k = k' := by omega
    obtain rfl : lost = l' := by omega
    exact hp
theorem PlanT.nope {k lost : Int} {f : List Bool} (h : ¬ ((k = 1 ∨ k = 2) ∧ (0 ≤ lost ∧ lost < 8) ∧ f.length = 8)) : PlanT k lost f 0 [] [] false :=
  .inr ⟨rfl, rfl, rfl, rfl, fun k' l' e1 h1 e2 h2 h3 => absurd ⟨by omega, by omega, h3⟩ h⟩

end Go.Proofs.YtlehcpcejkpbmaaDoor
