/-
  What this claim wants of the texts of earlier chapters.
  Conditions: none.
-/
import Derived.Test.YthglkgicckodaaaZReadTop
import Derived.Shelf.Abstract
import Derived.Shelf.RegionOpen
namespace Go.Proofs.Ythglkgicckodaaa
open Go.RowKit Go.Shelf
set_option linter.unusedVariables false
set_option linter.unusedSimpArgs false
attribute [local go_sem] Oper.semAt_some
def ReadT (k : Int) (a : List Int) (f : List Bool) (l : List Int) (b : Bool) : Prop :=
  (b = true ∧ FitM k a f ∧ bearsM k f = true ∧ Sp.IsData k.toNat f a l) ∨ (b = false ∧ l = [] ∧ ¬ (FitM k a f ∧ bearsM k f = true))
theorem ReadT.one {k : Int} {a : List Int} {f : List Bool} {l l' : List Int} {b b' : Bool} (h : ReadT k a f l b) (h' : ReadT k a f l' b') : l = l' ∧ b = b' := by
  rcases h with ⟨rfl, h1, h2, h3⟩ | ⟨rfl, rfl, h1⟩
  · rcases h' with ⟨rfl, _, _, h3'⟩ | ⟨rfl, rfl, h1'⟩
    · exact ⟨h3.one h1.2.2.2 h3', rfl⟩
    · exact absurd ⟨h1, h2⟩ h1'
  · rcases h' with ⟨rfl, h1', h2', _⟩ | ⟨rfl, rfl, _⟩
    · exact absurd ⟨h1', h2'⟩ h1
    · exact ⟨rfl, rfl⟩
def NewRead (k : Int) (a : List Int) (f : List Bool) (w : World) (e : Ending) (w' : World) : Prop := ∃ l b v, e = .returned (.tuple #[v, .bool b]) ∧ w.grownBy w' none ∧ Own w' w.heap.size v l ∧ ReadT k a f l b
structure Three (g ga gf : Nat) (L A : List Int) (F : List Bool) (W : World) : Prop where
  gen : Arr W g 87 L
  sh : Arr W ga 89 A
  fl : BArr W gf 92 F
theorem Three.still {g ga gf : Nat} {L A : List Int} {F : List Bool} {W W' : World} (h : Three g ga gf L A F W) (hg : W.grownBy W' none) : Three g ga gf L A F W' := ⟨h.gen.still hg, h.sh.still hg, h.fl.still hg⟩
end Go.Proofs.Ythglkgicckodaaa
