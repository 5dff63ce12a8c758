/-
  What this claim wants of the texts of earlier chapters.
  Conditions: none.
-/
import Derived.Test.YthglkgicckodaaaZStripeNewS
namespace Go.Proofs.Ythglkgicckodaaa
open Go.RowKit Go.Shelf
set_option linter.unusedVariables false
set_option linter.unusedSimpArgs false
attribute [local go_sem] Oper.semAt_some
theorem storeOne {P : Program} {o : Oper} {a : Act} {w : World} {K : Act → World → Prop} {Q : Exit → Act → World → Prop} (ty : TypeId) (x y : Operand) (ho : o.op = .store ty x y) (hd : o.dst = none)
    (g i : Nat) (u : Value) (w' : World) (hx : a.eval x = .pointer (some ⟨g, i, none⟩)) (hy : a.eval y = u) (hrun : (Instr.storeAt ty (.pointer (some ⟨g, i, none⟩)) u).run P w = .ok () w')
    (h : K (a.put none undef) w') : o.wp P a w K Q := by
  rw [← hd] at h
  unfold Oper.wp execOp
  simp only [ho, hx, hy, Sem.run_bind, Sem.run_pure, Result.andThen_ok, hrun]
  exact h
structure HeldP2 (g s gz g1 g2 g3 d1 d2 d3 base : Nat) (cs : List Value) (k : Int) (a v : List Int) (f : List Bool) (W : World) : Prop where
  arg : Blk W g 45 cs
  st : ∃ a', StAt W base s g1 g2 g3 d1 d2 d3 k a' v f
  out : OutC W gz
end Go.Proofs.Ythglkgicckodaaa
