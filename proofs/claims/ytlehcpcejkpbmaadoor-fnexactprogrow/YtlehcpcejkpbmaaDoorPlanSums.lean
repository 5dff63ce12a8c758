/-
  What a plan makes, plainly: of values, and of rows.
  Conditions: none.
-/
import Derived.Test.YtlehcpcejkpbmaaDoorPlanComb
namespace Go.Proofs.YtlehcpcejkpbmaaDoor
open Go.RowKit
set_option linter.unusedVariables false

/-- what the first places of a plan make of values. -/
def dsum (a l m : List Int) : Nat → Int
  | 0 => 0
  | i + 1 => (dsum a l m i + m.getD i 0 * a.getD (l.getD i 0).toNat 0) % 31
theorem dsum_ok (a l m : List Int) (i : Nat) : Fld.ok (dsum a l m i) = true := by
  cases i with
  | zero => rfl
  | succ n => exact Vec.mod_is _
theorem getD_set_ne {l : List Int} {p q : Nat} (h : p ≠ q) (y : Int) : (l.set p y).getD q 0 = l.getD q 0 := by
  simp [List.getD_eq_getElem?_getD, h]
theorem getD_set_eq {l : List Int} {p : Nat} (h : p < l.length) (y : Int) : (l.set p y).getD p 0 = y := by
  simp [List.getD_eq_getElem?_getD, h]
theorem csum_past (a t : List Int) {p : Nat} (y : Int) : ∀ n, n ≤ p → Sp.csum a (t.set p y) n = Sp.csum a t n
  | 0, _ => rfl
  | n + 1, h => by
    show (Sp.csum a (t.set p y) n + a.getD n 0 * (t.set p y).getD n 0 % 31) % 31 = (Sp.csum a t n + a.getD n 0 * t.getD n 0 % 31) % 31
    rw [csum_past a t y n (by omega), getD_set_ne (by omega)]
theorem csum_set (a t : List Int) {p : Nat} (hp : p < t.length) (h0 : t.getD p 0 = 0) (y : Int) : ∀ n, p < n → Sp.csum a (t.set p y) n = (Sp.csum a t n + y * a.getD p 0) % 31
  | 0, h => by omega
  | n + 1, h => by
    show (Sp.csum a (t.set p y) n + a.getD n 0 * (t.set p y).getD n 0 % 31) % 31 = ((Sp.csum a t n + a.getD n 0 * t.getD n 0 % 31) % 31 + y * a.getD p 0) % 31
    by_cases e : n = p
    · subst e
      rw [csum_past a t y n (Nat.le_refl _), getD_set_eq hp, h0, Int.mul_comm y]
      generalize a.getD n 0 * y = q
      simp only [Int.mul_zero]
      omega
    · rw [csum_set a t hp h0 y n (by omega), getD_set_ne (fun h => e h.symm)]
      generalize a.getD n 0 * t.getD n 0 = q
      generalize y * a.getD p 0 = r
      omega
theorem pAt_out {n : Int} {l m : List Int} {i : Nat} (h : pAt n l m i = true) : (0 ≤ l.getD i 0 ∧ l.getD i 0 < 8) ∧ pBef l i < l.getD i 0 ∧ l.getD i 0 ≠ n ∧ Fld.ok (m.getD i 0) = true ∧ m.getD i 0 ≠ 0 := of_decide_eq_true h
theorem pBef_up {n : Int} {l m : List Int} : ∀ i, (∀ j, j < i → pAt n l m j = true) → ∀ j, j < i → l.getD j 0 ≤ pBef l i
  | 0, _, j, hj => by omega
  | i + 1, h, j, hj => by
    show l.getD j 0 ≤ l.getD i 0
    by_cases e : j = i
    · subst e; exact Int.le_refl _
    · have h1 := pBef_up i (fun j hj => h j (by omega)) j (by omega)
      have h2 := (pAt_out (h i (by omega))).2.1
      omega
theorem spr_other (l m : List Int) (q : Nat) : ∀ i, (∀ j, j < i → (l.getD j 0).toNat ≠ q) → (spr l m i).getD q 0 = 0
  | 0, _ => by
    show ([0, 0, 0, 0, 0, 0, 0, 0] : List Int).getD q 0 = 0
    rcases (by omega : q = 0 ∨ q = 1 ∨ q = 2 ∨ q = 3 ∨ q = 4 ∨ q = 5 ∨ q = 6 ∨ q = 7 ∨ 8 ≤ q) with rfl | rfl | rfl | rfl | rfl | rfl | rfl | rfl | h
    all_goals first | rfl | (rw [List.getD_eq_getElem?_getD, List.getElem?_eq_none (by simp; omega)]; rfl)
  | i + 1, h => by
    show ((spr l m i).set (l.getD i 0).toNat (m.getD i 0)).getD q 0 = 0
    rw [getD_set_ne (h i (by omega))]
    exact spr_other l m q i fun j hj => h j (by omega)
theorem csum_spr {n : Int} {l m : List Int} (a : List Int) : ∀ i, (∀ j, j < i → pAt n l m j = true) → Sp.csum a (spr l m i) 8 = dsum a l m i
  | 0, _ => by
    show Sp.csum a zero8 8 = 0
    simp [Sp.csum, zero8]
  | i + 1, h => by
    have hi := pAt_out (h i (by omega))
    have hno : ∀ j, j < i → (l.getD j 0).toNat ≠ (l.getD i 0).toNat := fun j hj => by
      have h1 := pBef_up i (fun j hj => h j (by omega)) j hj
      have h2 := hi.2.1
      have h3 := (pAt_out (h j (by omega))).1
      omega
    show Sp.csum a ((spr l m i).set (l.getD i 0).toNat (m.getD i 0)) 8 = (dsum a l m i + m.getD i 0 * a.getD (l.getD i 0).toNat 0) % 31
    rw [csum_set a _ (by rw [spr_len]; omega) (spr_other l m _ i hno) _ 8 (by omega), csum_spr a i (fun j hj => h j (by omega))]
theorem spr_ok {n : Int} {l m : List Int} : ∀ i, (∀ j, j < i → pAt n l m j = true) → ∀ x ∈ spr l m i, Fld.ok x = true
  | 0, _ => by
    intro x hx
    have : x = 0 := by simpa [spr, zero8] using hx
    subst this; rfl
  | i + 1, h => by
    intro x hx
    rcases List.mem_or_eq_of_mem_set hx with hx | rfl
    · exact spr_ok i (fun j hj => h j (by omega)) x hx
    · exact (pAt_out (h i (by omega))).2.2.2.1
theorem sprOr_ok (n : Int) (l m : List Int) : ∀ x ∈ sprOr n l m, Fld.ok x = true := by
  unfold sprOr
  cases e : pForm n l m with
  | true => exact spr_ok _ (pForm_out e).2
  | false =>
    intro x hx
    have : x = 0 := by simpa [zero8] using hx
    subst this; rfl
/-- a column of a code's rows. -/
def col (k j : Nat) : List Int := (List.range 8).map fun i => (Sp.crow k i).getD j 0
theorem col_get (k j : Nat) {i : Nat} (hi : i < 8) : (col k j).getD i 0 = (Sp.crow k i).getD j 0 := by
  simp [col, List.getD_eq_getElem?_getD, hi]
theorem gco_is {k : Nat} (hk : k = 1 ∨ k = 2) (t : List Int) : ∀ n, n ≤ 8 → gco k t n = [Sp.csum (col k 0) t n, Sp.csum (col k 1) t n, Sp.csum (col k 2) t n, Sp.csum (col k 3) t n]
  | 0, _ => rfl
  | n + 1, h => by
    obtain ⟨x', y', z', u', e', _⟩ := crow_four hk (show n < 8 by omega)
    rw [gco_succ (gco_is hk t n (by omega)) e' rfl]
    simp only [Sp.csum, col_get k _ (show n < 8 by omega), e', add_short]
    rfl
/-- what the first places of a plan make of a code's rows. -/
def planV (k : Nat) (l m : List Int) (i : Nat) : List Int := [dsum (col k 0) l m i, dsum (col k 1) l m i, dsum (col k 2) l m i, dsum (col k 3) l m i]
theorem gco_plan {k : Nat} (hk : k = 1 ∨ k = 2) {n : Int} {l m : List Int} (h : pForm n l m = true) : gco k (sprOr n l m) 8 = planV k l m l.length := by
  have e : sprOr n l m = spr l m l.length := by simp [sprOr, h]
  have h' := (pForm_out h).2
  rw [e, gco_is hk _ 8 (Nat.le_refl _), csum_spr _ _ h', csum_spr _ _ h', csum_spr _ _ h', csum_spr _ _ h']
  rfl
theorem planV_ok (k : Nat) (l m : List Int) (i : Nat) : Vec.ok (planV k l m i) = true := Vec.ok_mk (dsum_ok _ _ _ _) (dsum_ok _ _ _ _) (dsum_ok _ _ _ _) (dsum_ok _ _ _ _)
/-- what PlanOk answers. -/
def okP (k n : Int) (l m : List Int) : Bool := decide (k = 1 ∨ k = 2) && (pForm n l m && decide (planV k.toNat l m l.length = Sp.crow k.toNat n.toNat))
/-- what PlanDo answers. -/
def doP (n : Int) (l m a : List Int) : Bool := pForm n l m && shOk a
def doN (n : Int) (l m a : List Int) : Int := bif doP n l m a then dsum a l m l.length else 0
end Go.Proofs.YtlehcpcejkpbmaaDoor
