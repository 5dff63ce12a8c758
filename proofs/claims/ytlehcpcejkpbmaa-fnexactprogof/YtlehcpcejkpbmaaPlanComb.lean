/-
  The contract of the program's sum of rows, each so often as told.
  Conditions: none.
-/
import Derived.Test.YtlehcpcejkpbmaaPlanForm
namespace Go.Proofs.Ytlehcpcejkpbmaa
open Go.RowKit
set_option linter.unusedVariables false

/-- the first rows of a code, each so often as told, together. -/
def gco (k : Nat) (t : List Int) : Nat → List Int
  | 0 => [0, 0, 0, 0]
  | n + 1 => List.zipWith (fun x y => (x + y) % 31) (gco k t n) ((Sp.crow k n).map fun x => x * t.getD n 0 % 31)
theorem gco_succ {k : Nat} {t : List Int} {n : Nat} {x y z u x' y' z' u' c : Int} (h : gco k t n = [x, y, z, u]) (h' : Sp.crow k n = [x', y', z', u']) (hc : t.getD n 0 = c) : gco k t (n + 1) = [(x + x' * c) % 31, (y + y' * c) % 31, (z + z' * c) % 31, (u + u' * c) % 31] := by
  simp only [gco, h, h', hc, List.map_cons, List.map_nil, List.zipWith_cons_cons, List.zipWith_nil_right, add_short]
theorem gco_four {k : Nat} (hk : k = 1 ∨ k = 2) (t : List Int) : ∀ n, n ≤ 8 → ∃ x y z u, gco k t n = [x, y, z, u] ∧ Vec.ok [x, y, z, u] = true
  | 0, _ => ⟨0, 0, 0, 0, rfl, by decide⟩
  | n + 1, h => by
    obtain ⟨x, y, z, u, e, _⟩ := gco_four hk t n (by omega)
    obtain ⟨x', y', z', u', e', _⟩ := crow_four hk (show n < 8 by omega)
    exact ⟨_, _, _, _, gco_succ e e' rfl, Vec.ok_mk (Vec.mod_is _) (Vec.mod_is _) (Vec.mod_is _) (Vec.mod_is _)⟩

end Go.Proofs.Ytlehcpcejkpbmaa
