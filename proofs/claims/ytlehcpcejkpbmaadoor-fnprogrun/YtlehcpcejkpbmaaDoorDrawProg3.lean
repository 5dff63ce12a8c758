/-
  What FnProgRun draws: a program, and values.
  Conditions: none.
-/
import Derived.Test.YtlehcpcejkpbmaaDoorDrawProg2
import Derived.Test.YtlehcpcejkpbmaaDoorG4
namespace Go.Proofs.YtlehcpcejkpbmaaDoor
open Go.RowKit
set_option linter.unusedVariables false

/-- a program, and values. -/
def DrawnSV (w : World) (e : Ending) (w' : World) : Prop := ∃ (v x : Value) (L : List Stp) (a : List Int), e = .returned (.tuple #[v, x]) ∧ L.length ≤ 12 ∧ a.length = 8 ∧ SSl w' v L ∧ Sl w' x a ∧ Below w.heap.size w w'

set_option maxHeartbeats 2000000 in
set_option maxRecDepth 20000 in
theorem drawProgRun (a : Option Addr) (len cap : Nat) (w : World) (h : Code w a len cap) : Calls Tryd.prog 27 #[.slice a len cap] w (DrawnSV w) := by
  have H0 := Lib.hid h
  clear h
  go_enter Tryd.func27, Tryd.ntmps27
  go_wp2_with fail
  refine (openR a len cap _ H0.out).mono ?_
  rintro e w1 ⟨rfl, hb1, h1⟩
  have B1 := Lib.hid hb1
  have R1 := Lib.hid h1
  obtain ⟨c, hc⟩ : ∃ c, c = w.heap.size := ⟨_, rfl⟩
  have C1 := h1.lt
  rw [← hc] at R1 C1 ⊢
  have hcw := Lib.hid hc
  clear hb1 h1 hc H0
  go_wp2_with fail
  refine (drawProg c 0 _ R1.out (by omega)).mono ?_
  rintro e w2 ⟨v, L, rfl, hL1, hL12, ho, hf, h2⟩
  have O2 := Lib.hid ho
  have F2 := Lib.hid hf
  have R2 := Lib.hid h2
  clear ho hf h2 R1
  go_wp2_with fail
  refine (drawVals c (0 + 70) _ R2.out (by omega)).mono ?_
  rintro e w3 ⟨k', x, y, z, f, _, rfl, hz8, hf8, hx, hy, hf⟩
  have O3 := Lib.hid (O2.out.kept (far_grown hf) (sfar O2.out C1))
  have B3 : Hid (Below w.heap.size w w3) := Lib.hid (B1.out.trans (((F2.out.trans hf).below (by rw [hcw.out]; exact Nat.le_refl _) B1.out.size)))
  have X3 := Lib.hid hx
  clear hf hy O2 F2 R2 hf8
  obtain ⟨g, cp, hv, _, _⟩ := O3.out.form
  subst hv
  obtain ⟨xa, xc, xe, _, _, _⟩ := hx
  rw [hz8] at xe
  subst xe
  go_wp2_with fail
  exact bodyPost_ret (v := .tuple #[.slice g L.length cp, .slice xa 8 xc]) (by simp [results, Tryd.results27, go_sem]) rfl ⟨_, _, L, z, rfl, hL12, hz8, O3.out.sl, X3.out, B3.out⟩
end Go.Proofs.YtlehcpcejkpbmaaDoor
