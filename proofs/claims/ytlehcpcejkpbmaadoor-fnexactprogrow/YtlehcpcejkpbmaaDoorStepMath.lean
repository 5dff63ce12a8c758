/-
  Steps, plainly: which are a program, what they make of values, how many are of an operation.
  Conditions: none.
-/
import Derived.Test.YtlehcpcejkpbmaaDoorG1
namespace Go.Proofs.YtlehcpcejkpbmaaDoor
open Go.RowKit
set_option linter.unusedVariables false

/-- a step: its operation, and two numbers. -/
structure Stp where
  op : Int
  a : Int
  b : Int
def szero : Stp := ⟨0, 0, 0⟩
/-- s can be step number i. -/
def OkAt (i : Nat) (s : Stp) : Prop :=
  (s.op = 1 ∧ (0 ≤ s.a ∧ s.a < 8) ∧ s.b = 0) ∨ (s.op = 2 ∧ (0 ≤ s.a ∧ s.a < i) ∧ Fld.ok s.b = true) ∨ (s.op = 3 ∧ (0 ≤ s.a ∧ s.a < i) ∧ (0 ≤ s.b ∧ s.b < i))
instance (i : Nat) (s : Stp) : Decidable (OkAt i s) := by unfold OkAt; infer_instance
def Oks (L : List Stp) : Prop := ∀ i, i < L.length → OkAt i (L.getD i szero)
instance (L : List Stp) : Decidable (Oks L) := by unfold Oks; infer_instance
/-- steps are a program. -/
def progOk (L : List Stp) : Bool := decide ((1 ≤ L.length ∧ L.length ≤ 16) ∧ Oks L)
theorem progOk_out {L : List Stp} (h : progOk L = true) : (1 ≤ L.length ∧ L.length ≤ 16) ∧ Oks L := of_decide_eq_true h
theorem progOk_not {L : List Stp} {i : Nat} (hi : i < L.length) (h : ¬ OkAt i (L.getD i szero)) : progOk L = false := decide_eq_false fun k => h (k.2 i hi)
theorem progOk_len {L : List Stp} (h : ¬ (1 ≤ L.length ∧ L.length ≤ 16)) : progOk L = false := decide_eq_false fun k => h k.1
theorem getD_left {α : Type} {z : α} {L M : List α} {i : Nat} (h : i < L.length) : (L ++ M).getD i z = L.getD i z := by
  simp [List.getD_eq_getElem?_getD, List.getElem?_append_left h]
theorem getD_last {α : Type} {z : α} {L : List α} {x : α} : (L ++ [x]).getD L.length z = x := by
  simp [List.getD_eq_getElem?_getD]
theorem Oks.nil : Oks [] := fun i hi => by simp at hi
theorem Oks.snoc {L : List Stp} {s : Stp} (h : Oks L) (hs : OkAt L.length s) : Oks (L ++ [s]) := by
  intro i hi
  rw [List.length_append] at hi
  by_cases e : i < L.length
  · rw [getD_left e]; exact h i e
  · have : i = L.length := by simp at hi; omega
    subst this
    rw [getD_last]; exact hs
theorem Oks.left {L M : List Stp} (h : Oks (L ++ M)) : Oks L := fun i hi => by
  have := h i (by rw [List.length_append]; omega)
  rwa [getD_left hi] at this
theorem take_snocS {L : List Stp} {i : Nat} (h : i < L.length) : L.take (i + 1) = L.take i ++ [L.getD i szero] := by
  rw [List.take_succ_eq_append_getElem h]; simp [List.getD_eq_getElem?_getD, h]
/-- what a step makes of values a, where r is what those ahead made. -/
def stepV (a r : List Int) (s : Stp) : Int :=
  if s.op = 1 then a.getD s.a.toNat 0 else if s.op = 2 then r.getD s.a.toNat 0 * s.b % 31 else (r.getD s.a.toNat 0 + r.getD s.b.toNat 0) % 31
/-- what all steps make. -/
def runS (a : List Int) (L : List Stp) : List Int := L.foldl (fun r s => r ++ [stepV a r s]) []
theorem runS_snoc (a : List Int) (L : List Stp) (s : Stp) : runS a (L ++ [s]) = runS a L ++ [stepV a (runS a L) s] := by simp [runS]
theorem snoc_ind {α : Type} {P : List α → Prop} (h0 : P []) (h1 : ∀ L x, P L → P (L ++ [x])) (L : List α) : P L := by
  have : ∀ n, ∀ L : List α, L.length = n → P L := by
    intro n
    induction n with
    | zero => intro L h; rw [List.eq_nil_of_length_eq_zero h]; exact h0
    | succ n ih =>
      intro L h
      have hn : L ≠ [] := fun e => by rw [e] at h; simp at h
      rw [← List.dropLast_concat_getLast hn]
      exact h1 _ _ (ih _ (by simp [h]))
  exact this _ L rfl
theorem runS_len (a : List Int) (L : List Stp) : (runS a L).length = L.length := by
  refine snoc_ind (P := fun L => (runS a L).length = L.length) rfl (fun L s ih => ?_) L
  rw [runS_snoc, List.length_append, List.length_append, ih]; rfl
theorem runS_get (a : List Int) (L M : List Stp) {p : Nat} (hp : p < L.length) : (runS a (L ++ M)).getD p 0 = (runS a L).getD p 0 := by
  refine snoc_ind (P := fun M => (runS a (L ++ M)).getD p 0 = (runS a L).getD p 0) (by rw [List.append_nil]) (fun M s ih => ?_) M
  rw [← List.append_assoc, runS_snoc, getD_left (by rw [runS_len, List.length_append]; omega), ih]
/-- the last step's. -/
def runV (a : List Int) (L : List Stp) : Int := (runS a L).getD (L.length - 1) 0
theorem runV_snoc (a : List Int) (L : List Stp) (s : Stp) : runV a (L ++ [s]) = stepV a (runS a L) s := by
  unfold runV
  rw [runS_snoc, List.length_append]
  have : L.length + [s].length - 1 = (runS a L).length := by rw [runS_len]; simp
  rw [this, getD_last]
theorem runS_last (a : List Int) {L : List Stp} (s : Stp) (M : List Stp) : (runS a ((L ++ [s]) ++ M)).getD L.length 0 = stepV a (runS a L) s := by
  rw [runS_get _ _ _ (by simp), runS_snoc]
  have : L.length = (runS a L).length := (runS_len _ _).symm
  rw [this, getD_last]
theorem stepV_ok {a r : List Int} (ha : ∀ i, Fld.ok (a.getD i 0) = true) (s : Stp) : Fld.ok (stepV a r s) = true := by
  unfold stepV
  split
  · exact ha _
  · split
    · exact Vec.mod_is _
    · exact Vec.mod_is _
theorem runS_ok {a : List Int} (ha : ∀ i, Fld.ok (a.getD i 0) = true) (L : List Stp) : ∀ p, Fld.ok ((runS a L).getD p 0) = true := by
  refine snoc_ind (P := fun L => ∀ p, Fld.ok ((runS a L).getD p 0) = true) (fun p => by simp [runS]; rfl) (fun L s ih p => ?_) L
  rw [runS_snoc]
  by_cases h : p < (runS a L).length
  · rw [getD_left h]; exact ih p
  · by_cases e : p = (runS a L).length
    · subst e; rw [getD_last]; exact stepV_ok ha s
    · rw [List.getD_eq_getElem?_getD, List.getElem?_eq_none (by simp; omega)]; rfl
theorem runV_ok {a : List Int} (ha : ∀ i, Fld.ok (a.getD i 0) = true) (L : List Stp) : Fld.ok (runV a L) = true := runS_ok ha L _
/-! ### how many steps are of an operation -/
def manyS (o : Int) (L : List Stp) : Nat := (L.filter fun s => decide (s.op = o)).length
theorem manyS_app (o : Int) (L M : List Stp) : manyS o (L ++ M) = manyS o L + manyS o M := by simp [manyS]
theorem manyS_le (o : Int) (L : List Stp) : manyS o L ≤ L.length := List.length_filter_le _ _
theorem manyS_one (o : Int) (s : Stp) : manyS o [s] = if s.op = o then 1 else 0 := by
  unfold manyS
  by_cases h : s.op = o <;> simp [h]
theorem many_next {o : Int} {L : List Stp} {i : Nat} (h : i < L.length) : manyS o (L.take (i + 1)) = manyS o (L.take i) + if (L.getD i szero).op = o then 1 else 0 := by
  rw [take_snocS h, manyS_app, manyS_one]
theorem many_all {L : List Stp} (h : Oks L) : manyS 1 L + manyS 2 L + manyS 3 L = L.length := by
  revert h
  refine snoc_ind (P := fun L => Oks L → manyS 1 L + manyS 2 L + manyS 3 L = L.length) (fun _ => rfl) (fun L s ih h => ?_) L
  have h1 := ih h.left
  have h2 := h L.length (by simp)
  rw [getD_last] at h2
  rw [manyS_app, manyS_app, manyS_app, manyS_one, manyS_one, manyS_one, List.length_append]
  rcases h2 with ⟨e, _⟩ | ⟨e, _⟩ | ⟨e, _⟩ <;> rw [e] <;> simp <;> omega
end Go.Proofs.YtlehcpcejkpbmaaDoor
