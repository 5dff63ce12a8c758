/-
  What this claim wants of the texts of earlier chapters.
  Conditions: none.
-/
import Derived.Test.YthglkgicckodaaaZStripeSpec4
import Derived.Test.YthglkgicckodaaaZG4
namespace Go.Proofs.Ythglkgicckodaaa
open Go.RowKit Go.Shelf
set_option linter.unusedVariables false
set_option linter.unusedSimpArgs false
attribute [local go_sem] Oper.semAt_some
structure InNew (base s gz : Nat) (k n : Int) (u y o : Value) (A : List Int) (m : Nat) (wr : World) : Prop where
  blk : Blk wr s 45 [.int .i64 k, u, o, y]
  own : OwnAll wr base [row1 u A, row1 o (List.replicate m n), bool1 y (List.replicate 8 true)]
  out : OutC wr gz
theorem outC_kept {w w' : World} {gz : Nat} {r : Option Nat} (h : OutC w gz) (hg : w.grownBy w' r) (hr : some gz ≠ r) : OutC w' gz := by
  obtain ⟨old, h1, h2⟩ := h
  exact ⟨old, (hg.block gz (Array.getElem?_eq_some_iff.1 h1).1 hr).trans h1, h2⟩
theorem outC_lt {w : World} {gz : Nat} (h : OutC w gz) : gz < w.heap.size := by obtain ⟨old, h1, _⟩ := h; exact (Array.getElem?_eq_some_iff.1 h1).1
theorem item_ne {w : World} {base s : Nat} {p : Item} {cs : List Value} (h : p.Own w base) (hs : Blk w s 45 cs) (he : p.e ≠ 45) : some s ≠ p.v.ownBlock := by
  rcases h.2 with ⟨h0, _⟩ | ⟨g, cap, cur, h0, _, hb, _⟩
  · rw [h0]; simp [Value.ownBlock]
  · rw [h0]
    intro e
    injection e with e
    subst e
    have := hb.symm.trans hs
    injection this with this
    injection this with _ this
    exact he this
theorem item_neC {w : World} {base gz : Nat} {p : Item} (h : p.Own w base) (hs : OutC w gz) (he : p.e ≠ 45) : some gz ≠ p.v.ownBlock := by
  obtain ⟨old, h1, _⟩ := hs
  rcases h.2 with ⟨h0, _⟩ | ⟨g, cap, cur, h0, _, hb, _⟩
  · rw [h0]; simp [Value.ownBlock]
  · rw [h0]
    intro e
    injection e with e
    subst e
    have := hb.symm.trans h1
    injection this with this
    injection this with _ this
    exact he this
end Go.Proofs.Ythglkgicckodaaa
