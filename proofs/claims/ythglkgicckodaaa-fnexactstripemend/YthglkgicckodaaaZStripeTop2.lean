/-
  What this claim wants of the texts of earlier chapters.
  Conditions: none.
-/
import Derived.Test.YthglkgicckodaaaZStripeTop
namespace Go.Proofs.Ythglkgicckodaaa
open Go.RowKit Go.Shelf
set_option linter.unusedVariables false
set_option linter.unusedSimpArgs false
attribute [local go_sem] Oper.semAt_some
theorem shardIsS (n : Int) (w : World) : Calls Try.prog 61 #[.int .i64 n] w fun e w' => e = .returned (.bool (decide (0 ≤ n ∧ n < 8))) ∧ w' = w := by
  by_cases h : 0 ≤ n ∧ n < 8
  · refine (shardIn n h.1 h.2 w).mono fun e w' ⟨h1, h2⟩ => ⟨?_, h2.symm⟩
    rw [h1]; simp [h]
  · refine (shardOut n (by omega) w).mono fun e w' ⟨h1, h2⟩ => ⟨?_, h2.symm⟩
    rw [h1]
    have : decide (0 ≤ n ∧ n < 8) = false := by simp only [decide_eq_false_iff_not]; exact h
    rw [this]
def SZ4 (w : World) (g : Nat) : Prop := ∃ old, w.heap[g]? = some (.cells old 45 (0, 0)) ∧ old.size = 4
theorem SZ4.lt {w : World} {g : Nat} (h : SZ4 w g) : g < w.heap.size := by obtain ⟨old, h, _⟩ := h; exact (Array.getElem?_eq_some_iff.1 h).1
theorem SZ4.still {w w' : World} {g : Nat} (h : SZ4 w g) (hg : w.grownBy w' none) : SZ4 w' g := by
  have hlt := h.lt
  obtain ⟨old, h, h2⟩ := h
  exact ⟨old, (hg.block g hlt (by simp)).trans h, h2⟩
theorem builtNone : Try.prog.built 45 [] = some #[.int .i64 0, .slice none 0 0, .slice none 0 0, .slice none 0 0] := by kernel_rfl
theorem StOwn.none_ (w : World) (b : Nat) : StOwn w b (.slice none 0 0) (.slice none 0 0) (.slice none 0 0) [] [] [] :=
  mk3 (row1_own.2 (Own.none_ w b)) (row1_own.2 (Own.none_ w b)) (bool1_own.2 (BOwn.none_ w b)) (.inl rfl) (.inl rfl) (.inl rfl)
structure HeldR (g gf : Nat) (k : Int) (L a v : List Int) (F G : List Bool) (W : World) : Prop where
  blk : SB W g k L a v F
  fl : BArr W gf 92 G
theorem HeldR.still {g gf : Nat} {k : Int} {L a v : List Int} {F G : List Bool} {W W' : World} (h : HeldR g gf k L a v F G W) (hg : W.grownBy W' none) : HeldR g gf k L a v F G W' := ⟨h.blk.still hg, h.fl.still hg⟩
end Go.Proofs.Ythglkgicckodaaa
