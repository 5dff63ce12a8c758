/-
  Programs, plainly: what one makes of rows; the program of a plan.
  Conditions: none.
-/
import Derived.Test.YtlehcpcejkpbmaaDoorPlanTold
import Derived.Test.YtlehcpcejkpbmaaDoorStepMath
namespace Go.Proofs.YtlehcpcejkpbmaaDoor
open Go.RowKit
set_option linter.unusedVariables false

theorem sh_each {a : List Int} (h : shOk a = true) (i : Nat) : Fld.ok (a.getD i 0) = true := (shOk_row.1 h).get i
/-- what ProgRun answers. -/
def runP (L : List Stp) (a : List Int) : Bool := progOk L && shOk a
def runN (L : List Stp) (a : List Int) : Int := bif runP L a then runV a L else 0
/-- what a program makes of the rows of a code: by columns. -/
def rowR (k : Nat) (L : List Stp) (p : Nat) : List Int := [(runS (col k 0) L).getD p 0, (runS (col k 1) L).getD p 0, (runS (col k 2) L).getD p 0, (runS (col k 3) L).getD p 0]
theorem col_ok {k : Nat} (hk : k = 1 ∨ k = 2) {j : Nat} (i : Nat) : Fld.ok ((col k j).getD i 0) = true := by
  by_cases hi : i < 8
  · rw [col_get k j hi]; exact (Sp.crow_row hk hi).get j
  · rw [List.getD_eq_getElem?_getD, List.getElem?_eq_none (by simp [col]; omega)]; rfl
theorem rowR_ok {k : Nat} (hk : k = 1 ∨ k = 2) (L : List Stp) (p : Nat) : Vec.ok (rowR k L p) = true :=
  Vec.ok_mk (runS_ok (col_ok hk) L p) (runS_ok (col_ok hk) L p) (runS_ok (col_ok hk) L p) (runS_ok (col_ok hk) L p)
theorem rowR_left (k : Nat) (L M : List Stp) {p : Nat} (hp : p < L.length) : rowR k (L ++ M) p = rowR k L p := by
  unfold rowR; rw [runS_get _ _ _ hp, runS_get _ _ _ hp, runS_get _ _ _ hp, runS_get _ _ _ hp]
theorem rowR_here (k : Nat) (L : List Stp) (s : Stp) : rowR k (L ++ [s]) L.length = [stepV (col k 0) (runS (col k 0) L) s, stepV (col k 1) (runS (col k 1) L) s, stepV (col k 2) (runS (col k 2) L) s, stepV (col k 3) (runS (col k 3) L) s] := by
  have h : ∀ a, (runS a (L ++ [s])).getD L.length 0 = stepV a (runS a L) s := fun a => by
    have := runS_last a (L := L) s []
    rwa [List.append_nil] at this
  unfold rowR
  rw [h, h, h, h]
/-- the row that ProgRow answers with. -/
def rowV (k : Nat) (L : List Stp) : List Int := rowR k L (L.length - 1)
theorem rowV_is (k : Nat) (L : List Stp) : rowV k L = [runV (col k 0) L, runV (col k 1) L, runV (col k 2) L, runV (col k 3) L] := rfl

/-! ### the program of a plan -/
def cPut (L : List Stp) (i : Nat) (p c : Int) : List Stp :=
  let L1 := L ++ [(⟨1, p, 0⟩ : Stp)]
  let L2 := if c = 1 then L1 else L1 ++ [(⟨2, (L.length : Int), c⟩ : Stp)]
  if i = 0 then L2 else L2 ++ [⟨3, (L.length : Int) - 1, (L2.length : Int) - 1⟩]
def cmp (l m : List Int) : Nat → List Stp
  | 0 => []
  | i + 1 => cPut (cmp l m i) i (l.getD i 0) (m.getD i 0)
theorem cPut_len (L : List Stp) (i : Nat) (p c : Int) : L.length + 1 ≤ (cPut L i p c).length ∧ (cPut L i p c).length ≤ L.length + 3 := by
  unfold cPut
  split <;> split <;> simp
theorem cmp_len (l m : List Int) : ∀ i, i ≤ (cmp l m i).length ∧ (cmp l m i).length ≤ 3 * i
  | 0 => by simp [cmp]
  | i + 1 => by
    have h := cmp_len l m i
    have h1 := cPut_len (cmp l m i) i (l.getD i 0) (m.getD i 0)
    show i + 1 ≤ (cPut _ _ _ _).length ∧ (cPut _ _ _ _).length ≤ _
    omega
theorem cPut_ok {L : List Stp} {i : Nat} {p c : Int} (h : Oks L) (hi : i ≤ L.length) (hp : 0 ≤ p ∧ p < 8) (hc : Fld.ok c = true) : Oks (cPut L i p c) := by
  have h1 : Oks (L ++ [(⟨1, p, 0⟩ : Stp)]) := h.snoc (.inl ⟨rfl, hp, rfl⟩)
  have l1 : (L ++ [(⟨1, p, 0⟩ : Stp)]).length = L.length + 1 := by simp
  unfold cPut
  by_cases c1 : c = 1
  · simp only [if_pos c1]
    by_cases i0 : i = 0
    · rw [if_pos i0]; exact h1
    · rw [if_neg i0]
      refine h1.snoc (.inr (.inr ⟨rfl, ?_, ?_⟩))
      · rw [l1]; show (0 : Int) ≤ (L.length : Int) - 1 ∧ (L.length : Int) - 1 < _; omega
      · rw [l1]; show (0 : Int) ≤ ((L.length + 1 : Nat) : Int) - 1 ∧ ((L.length + 1 : Nat) : Int) - 1 < _; omega
  · simp only [if_neg c1]
    have h2 : Oks ((L ++ [(⟨1, p, 0⟩ : Stp)]) ++ [(⟨2, (L.length : Int), c⟩ : Stp)]) := h1.snoc (.inr (.inl ⟨rfl, by rw [l1]; show (0 : Int) ≤ (L.length : Int) ∧ (L.length : Int) < _; omega, hc⟩))
    have l2 : ((L ++ [(⟨1, p, 0⟩ : Stp)]) ++ [(⟨2, (L.length : Int), c⟩ : Stp)]).length = L.length + 2 := by simp
    by_cases i0 : i = 0
    · rw [if_pos i0]; exact h2
    · rw [if_neg i0]
      refine h2.snoc (.inr (.inr ⟨rfl, ?_, ?_⟩))
      · rw [l2]; show (0 : Int) ≤ (L.length : Int) - 1 ∧ (L.length : Int) - 1 < _; omega
      · rw [l2]; show (0 : Int) ≤ ((L.length + 2 : Nat) : Int) - 1 ∧ ((L.length + 2 : Nat) : Int) - 1 < _; omega
theorem cmp_ok {n : Int} {l m : List Int} : ∀ i, (∀ j, j < i → pAt n l m j = true) → Oks (cmp l m i)
  | 0, _ => Oks.nil
  | i + 1, h => by
    have hi := pAt_out (h i (by omega))
    exact cPut_ok (cmp_ok i (fun j hj => h j (by omega))) (cmp_len l m i).1 hi.1 hi.2.2.2.1
theorem cmp_prog {n : Int} {l m : List Int} (h : pForm n l m = true) : progOk (cmp l m l.length) = true := by
  obtain ⟨h0, h1⟩ := pForm_out h
  have hd := of_decide_eq_true h0
  have hl := cmp_len l m l.length
  exact decide_eq_true ⟨by omega, cmp_ok _ h1⟩
/-- what is put to what is there. -/
theorem cPut_run {a : List Int} (ha : ∀ i, Fld.ok (a.getD i 0) = true) (L : List Stp) (i : Nat) (p c q : Int) (h0 : i = 0 → q = 0) (h1 : i ≠ 0 → 1 ≤ L.length ∧ runV a L = q) : runV a (cPut L i p c) = (q + c * a.getD p.toNat 0) % 31 := by
  have hx := Fld.ok_iff.1 (ha p.toNat)
  have s1 : stepV a (runS a L) ⟨1, p, 0⟩ = a.getD p.toNat 0 := rfl
  have n1 : (runS a (L ++ [(⟨1, p, 0⟩ : Stp)])).getD L.length 0 = a.getD p.toNat 0 := by
    have := runS_last a (L := L) ⟨1, p, 0⟩ []
    rwa [List.append_nil, s1] at this
  have l1 : (L ++ [(⟨1, p, 0⟩ : Stp)]).length = L.length + 1 := by simp
  unfold cPut
  by_cases c1 : c = 1
  · simp only [if_pos c1]
    by_cases i0 : i = 0
    · rw [if_pos i0, runV_snoc, s1, h0 i0, c1]; omega
    · rw [if_neg i0, runV_snoc]
      obtain ⟨h2, h3⟩ := h1 i0
      show ((runS a (L ++ [(⟨1, p, 0⟩ : Stp)])).getD ((L.length : Int) - 1).toNat 0 + (runS a (L ++ [(⟨1, p, 0⟩ : Stp)])).getD (((L ++ [(⟨1, p, 0⟩ : Stp)]).length : Int) - 1).toNat 0) % 31 = _
      rw [l1, show (((L.length + 1 : Nat) : Int) - 1).toNat = L.length by omega, show ((L.length : Int) - 1).toNat = L.length - 1 by omega, n1, runS_get _ _ _ (by omega)]
      show (runV a L + _) % 31 = _
      rw [h3, c1]; omega
  · simp only [if_neg c1]
    have s2 : stepV a (runS a (L ++ [(⟨1, p, 0⟩ : Stp)])) ⟨2, (L.length : Int), c⟩ = a.getD p.toNat 0 * c % 31 := by
      show (runS a (L ++ [(⟨1, p, 0⟩ : Stp)])).getD ((L.length : Int)).toNat 0 * c % 31 = _
      rw [Int.toNat_natCast, n1]
    have l2 : ((L ++ [(⟨1, p, 0⟩ : Stp)]) ++ [(⟨2, (L.length : Int), c⟩ : Stp)]).length = L.length + 2 := by simp
    by_cases i0 : i = 0
    · rw [if_pos i0, runV_snoc, s2, h0 i0, Int.mul_comm c]; omega
    · rw [if_neg i0, runV_snoc]
      obtain ⟨h2, h3⟩ := h1 i0
      have n2 : (runS a ((L ++ [(⟨1, p, 0⟩ : Stp)]) ++ [(⟨2, (L.length : Int), c⟩ : Stp)])).getD (L.length + 1) 0 = a.getD p.toNat 0 * c % 31 := by
        have := runS_last a (L := L ++ [(⟨1, p, 0⟩ : Stp)]) ⟨2, (L.length : Int), c⟩ []
        rwa [List.append_nil, s2, l1] at this
      show ((runS a ((L ++ [(⟨1, p, 0⟩ : Stp)]) ++ [(⟨2, (L.length : Int), c⟩ : Stp)])).getD ((L.length : Int) - 1).toNat 0 + (runS a ((L ++ [(⟨1, p, 0⟩ : Stp)]) ++ [(⟨2, (L.length : Int), c⟩ : Stp)])).getD ((((L ++ [(⟨1, p, 0⟩ : Stp)]) ++ [(⟨2, (L.length : Int), c⟩ : Stp)]).length : Int) - 1).toNat 0) % 31 = _
      rw [l2, show (((L.length + 2 : Nat) : Int) - 1).toNat = L.length + 1 by omega, show ((L.length : Int) - 1).toNat = L.length - 1 by omega, n2, List.append_assoc, runS_get _ _ _ (by omega)]
      show (runV a L + _) % 31 = _
      rw [h3, Int.mul_comm c]; omega
theorem cmp_run {a : List Int} (ha : ∀ i, Fld.ok (a.getD i 0) = true) (l m : List Int) : ∀ i, i ≠ 0 → runV a (cmp l m i) = dsum a l m i
  | 0, h => absurd rfl h
  | i + 1, _ => by
    show runV a (cPut (cmp l m i) i (l.getD i 0) (m.getD i 0)) = (dsum a l m i + m.getD i 0 * a.getD (l.getD i 0).toNat 0) % 31
    refine cPut_run ha _ _ _ _ _ (fun e => by rw [e]; rfl) (fun e => ⟨?_, cmp_run ha l m i e⟩)
    have := (cmp_len l m i).1
    omega
theorem form_pos {n : Int} {l m : List Int} (h : pForm n l m = true) : l.length ≠ 0 ∧ l.length ≤ 4 ∧ m.length = l.length := (of_decide_eq_true (pForm_out h).1).2
/-- a plan's program makes of the code's rows what the plan makes. -/
theorem cmp_rows {k : Nat} (hk : k = 1 ∨ k = 2) {n : Int} {l m : List Int} (h : pForm n l m = true) : rowV k (cmp l m l.length) = planV k l m l.length := by
  have h0 := (form_pos h).1
  rw [rowV_is, cmp_run (col_ok hk) l m _ h0, cmp_run (col_ok hk) l m _ h0, cmp_run (col_ok hk) l m _ h0, cmp_run (col_ok hk) l m _ h0]
  rfl
/-- how many of the first numbers are not 1. -/
def notOne (m : List Int) : Nat → Nat
  | 0 => 0
  | i + 1 => notOne m i + if m.getD i 0 = 1 then 0 else 1
theorem cmp_many (l m : List Int) : ∀ i, manyS 1 (cmp l m i) = i ∧ manyS 2 (cmp l m i) = notOne m i ∧ manyS 3 (cmp l m i) = i - 1
  | 0 => ⟨rfl, rfl, rfl⟩
  | i + 1 => by
    obtain ⟨h1, h2, h3⟩ := cmp_many l m i
    show manyS 1 (cPut _ _ _ _) = _ ∧ manyS 2 (cPut _ _ _ _) = notOne m i + (if m.getD i 0 = 1 then 0 else 1) ∧ manyS 3 (cPut _ _ _ _) = _
    unfold cPut
    by_cases c1 : m.getD i 0 = 1
    · simp only [if_pos c1]
      by_cases i0 : i = 0
      · rw [if_pos i0]
        simp only [manyS_app, manyS_one, h1, h2, h3]
        simp
        omega
      · rw [if_neg i0]
        simp only [manyS_app, manyS_one, h1, h2, h3]
        simp
        omega
    · simp only [if_neg c1]
      by_cases i0 : i = 0
      · rw [if_pos i0]
        simp only [manyS_app, manyS_one, h1, h2, h3]
        simp
        omega
      · rw [if_neg i0]
        simp only [manyS_app, manyS_one, h1, h2, h3]
        simp
        omega
end Go.Proofs.YtlehcpcejkpbmaaDoor
