/-
  The model's search for a plan.
  Conditions: none.
-/
import Derived.Test.YtlehcpcejkpbmaaPlanSpec
namespace Go.Proofs.Ytlehcpcejkpbmaa
open Go.RowKit
set_option linter.unusedVariables false

/-- one round of the search. -/
def stepS (k lost : Nat) (f : List Bool) (n : Nat) (S : List Nat) (at_ i : Nat) : Option (List Nat) := if at_ ≤ i ∧ f.getD i false = true ∧ i ≠ lost then Sp.search k lost f n (S ++ [i]) (i + 1) else none
theorem search_hit {k lost : Nat} {f : List Bool} {n : Nat} {S : List Nat} {at_ j : Nat} {r : List Nat} (hj : j < 8) (h1 : at_ ≤ j) (h2 : f.getD j false = true) (h3 : j ≠ lost) (hno : ∀ i, i < j → stepS k lost f n S at_ i = none) (h : Sp.search k lost f n (S ++ [j]) (j + 1) = some r) : Sp.search k lost f (n + 1) S at_ = some r := by
  show (List.range 8).findSome? (fun i => stepS k lost f n S at_ i) = some r
  refine Sp.findSome_some hj hno ?_
  unfold stepS
  rw [if_pos ⟨h1, h2, h3⟩]; exact h
theorem search_miss {k lost : Nat} {f : List Bool} {n : Nat} {S : List Nat} {at_ : Nat} (hno : ∀ i, i < 8 → stepS k lost f n S at_ i = none) : Sp.search k lost f (n + 1) S at_ = none := by
  show (List.range 8).findSome? (fun i => stepS k lost f n S at_ i) = none
  exact Sp.findSome_none hno
theorem step_skip {k lost : Nat} {f : List Bool} {n : Nat} {S : List Nat} {at_ j : Nat} (h : f.getD j false = false ∨ j = lost) : stepS k lost f n S at_ j = none := by
  unfold stepS
  rw [if_neg]
  rintro ⟨_, h2, h3⟩
  rcases h with h | h
  · rw [h] at h2; cases h2
  · exact h3 h
theorem step_none {k lost : Nat} {f : List Bool} {n : Nat} {S : List Nat} {at_ j : Nat} (h : Sp.search k lost f n (S ++ [j]) (j + 1) = none) : stepS k lost f n S at_ j = none := by
  unfold stepS
  split
  · exact h
  · rfl
theorem step_low {k lost : Nat} {f : List Bool} {n : Nat} {S : List Nat} {at_ j : Nat} (h : j < at_) : stepS k lost f n S at_ j = none := by
  unfold stepS
  rw [if_neg]
  rintro ⟨h1, _⟩
  omega
theorem ints_snoc (S : List Nat) (j : Nat) : Sp.ints S ++ [(j : Int)] = Sp.ints (S ++ [j]) := by simp [Sp.ints]

/-- the zero plan in a block of the function's own. -/
abbrev Zp (w : World) (r : Nat) : Prop := Blk w r 29 [.int .i64 0, .slice none 0 0, .slice none 0 0]
abbrev put3 (w : World) (r : Nat) (x y z : Value) : World := ((w.setCell ⟨r, 0, none⟩ x).setCell ⟨r, 1, none⟩ y).setCell ⟨r, 2, none⟩ z
theorem Zp.put3 {w : World} {r : Nat} (h : Zp w r) (x y z : Value) : Blk (put3 w r x y z) r 29 [x, y, z] := ((h.put 0 x).put 1 y).put 2 z
theorem put3_grown {w0 w : World} {r : Nat} (hg : w0.grownBy w none) (hr : w0.heap.size ≤ r) (x y z : Value) : w0.grownBy (put3 w r x y z) none := grown_set (grown_set (grown_set hg hr _) hr _) hr _
theorem put3_two {w : World} {r base : Nat} {u v : Value} {l m : List Int} (h : TwoOwn w (r + 1) u v l m) (hb : base ≤ r) (x y z : Value) : TwoOwn (put3 w r x y z) base u v l m := by
  have gs : w.grownBy (Go.Proofs.Ytlehcpcejkpbmaa.put3 w r x y z) (some r) := grown_at (grown_at (grown_at (World.grownBy.refl w (some r)) 0 _) 1 _) 2 _
  exact TwoOwn.lower ⟨h.1.kept gs (.inr fun e => far_own h.1 (by omega) e.symm), h.2.1.kept gs (.inr fun e => far_own h.2.1 (by omega) e.symm), h.2.2⟩ (by omega)
theorem TwoOwn.form {w : World} {base : Nat} {u v : Value} {l m : List Int} (h : TwoOwn w base u v l m) : ∃ a n c b k d, u = .slice a n c ∧ v = .slice b k d := by
  obtain ⟨a, c, e, _⟩ := h.1.sl
  obtain ⟨b, d, e', _⟩ := h.2.1.sl
  exact ⟨a, _, c, b, _, d, e, e'⟩

end Go.Proofs.Ytlehcpcejkpbmaa
