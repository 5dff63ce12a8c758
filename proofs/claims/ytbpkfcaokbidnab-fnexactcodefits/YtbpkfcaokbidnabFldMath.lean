/-
  Plain arithmetic modulo 31: what the functions of chapter 1 compute, as functions of integers, and their laws. It speaks of no program.
  Conditions: none.
-/
import Derived.Below
namespace Go.Proofs.Ytbpkfcaokbidnab.Fld
set_option linter.unusedVariables false

/-- 'a number from 0 to 30'. -/
def ok (n : Int) : Bool := decide (0 ≤ n) && decide (n ≤ 30)
def sum (a b : Int) : Int := bif ok a && ok b then (a + b) % 31 else 0
def dif (a b : Int) : Int := bif ok a && ok b then (a - b) % 31 else 0
def mul (a b : Int) : Int := bif ok a && ok b then a * b % 31 else 0

theorem ok_iff {n : Int} : ok n = true ↔ 0 ≤ n ∧ n ≤ 30 := by simp [ok]
theorem ok_true {n : Int} (h0 : 0 ≤ n) (h1 : n ≤ 30) : ok n = true := ok_iff.2 ⟨h0, h1⟩
theorem ok_false {n : Int} (h : ¬ (0 ≤ n ∧ n ≤ 30)) : ok n = false := by
  rw [← Bool.not_eq_true]; intro e; exact h (ok_iff.1 e)
theorem not_ok {n : Int} (h : ok n = false) : ¬ (0 ≤ n ∧ n ≤ 30) := by
  intro e; rw [ok_true e.1 e.2] at h; cases h

theorem sum_ok {a b : Int} (ha : ok a = true) (hb : ok b = true) : sum a b = (a + b) % 31 := by simp [sum, ha, hb]
theorem dif_ok {a b : Int} (ha : ok a = true) (hb : ok b = true) : dif a b = (a - b) % 31 := by simp [dif, ha, hb]
theorem mul_ok {a b : Int} (ha : ok a = true) (hb : ok b = true) : mul a b = a * b % 31 := by simp [mul, ha, hb]
theorem sum_no {a b : Int} (h : (ok a && ok b) = false) : sum a b = 0 := by simp [sum, h]
theorem dif_no {a b : Int} (h : (ok a && ok b) = false) : dif a b = 0 := by simp [dif, h]
theorem mul_no {a b : Int} (h : (ok a && ok b) = false) : mul a b = 0 := by simp [mul, h]

theorem sum_in (a b : Int) : 0 ≤ sum a b ∧ sum a b ≤ 30 := by
  unfold sum; cases ok a && ok b <;> simp <;> omega
theorem dif_in (a b : Int) : 0 ≤ dif a b ∧ dif a b ≤ 30 := by
  unfold dif; cases ok a && ok b <;> simp <;> omega
theorem mul_in (a b : Int) : 0 ≤ mul a b ∧ mul a b ≤ 30 := by
  unfold mul; cases ok a && ok b <;> simp <;> omega
theorem sum_is (a b : Int) : ok (sum a b) = true := ok_iff.2 (sum_in a b)
theorem dif_is (a b : Int) : ok (dif a b) = true := ok_iff.2 (dif_in a b)
theorem mul_is (a b : Int) : ok (mul a b) = true := ok_iff.2 (mul_in a b)
theorem mul_le {a b : Int} (ha : ok a = true) (hb : ok b = true) : 0 ≤ a * b ∧ a * b ≤ 900 := by
  have ⟨a0, a1⟩ := ok_iff.1 ha
  have ⟨b0, b1⟩ := ok_iff.1 hb
  refine ⟨Int.mul_nonneg a0 b0, ?_⟩
  have h : a * b ≤ 30 * 30 := Int.mul_le_mul a1 b1 b0 (by omega)
  omega

/-! The laws of a ring -/
theorem sum_comm (a b : Int) : sum b a = sum a b := by
  unfold sum; rw [Bool.and_comm, Int.add_comm]
theorem mul_comm (a b : Int) : mul b a = mul a b := by
  unfold mul; rw [Bool.and_comm, Int.mul_comm]
theorem sum_assoc {a b c : Int} (ha : ok a = true) (hb : ok b = true) (hc : ok c = true) : sum (sum a b) c = sum a (sum b c) := by
  rw [sum_ok (sum_is a b) hc, sum_ok ha (sum_is b c), sum_ok ha hb, sum_ok hb hc]; omega
theorem sum_zero {a : Int} (ha : ok a = true) : sum a 0 = a := by
  rw [sum_ok ha rfl]; have := ok_iff.1 ha; omega
theorem dif_sum {a b : Int} (ha : ok a = true) (hb : ok b = true) : sum (dif a b) b = a := by
  rw [sum_ok (dif_is a b) hb, dif_ok ha hb]; have := ok_iff.1 ha; omega
theorem sum_dif {a b : Int} (ha : ok a = true) (hb : ok b = true) : dif (sum a b) b = a := by
  rw [dif_ok (sum_is a b) hb, sum_ok ha hb]; have := ok_iff.1 ha; have := ok_iff.1 hb; omega
theorem dif_self {a : Int} (ha : ok a = true) : dif a a = 0 := by
  rw [dif_ok ha ha]; omega
theorem mod_mul (a c : Int) : a % 31 * c % 31 = a * c % 31 := by
  rw [Int.mul_emod, Int.emod_emod_of_dvd a (Int.dvd_refl 31), ← Int.mul_emod]
theorem mul_mod (a c : Int) : a * (c % 31) % 31 = a * c % 31 := by
  rw [Int.mul_comm, mod_mul, Int.mul_comm]
theorem mul_assoc {a b c : Int} (ha : ok a = true) (hb : ok b = true) (hc : ok c = true) : mul (mul a b) c = mul a (mul b c) := by
  rw [mul_ok (mul_is a b) hc, mul_ok ha (mul_is b c), mul_ok ha hb, mul_ok hb hc, mod_mul, mul_mod, Int.mul_assoc]
theorem mul_one {a : Int} (ha : ok a = true) : mul a 1 = a := by
  rw [mul_ok ha rfl]; have := ok_iff.1 ha; omega
theorem mul_sum {a b c : Int} (ha : ok a = true) (hb : ok b = true) (hc : ok c = true) : mul a (sum b c) = sum (mul a b) (mul a c) := by
  rw [mul_ok ha (sum_is b c), sum_ok (mul_is a b) (mul_is a c), mul_ok ha hb, mul_ok ha hc, sum_ok hb hc, mul_mod, Int.mul_add]; omega

/-! The inverse, as a table -/
def invs : List Int := [0, 1, 16, 21, 8, 25, 26, 9, 4, 7, 28, 17, 13, 12, 20, 29, 2, 11, 19, 18, 14, 3, 24, 27, 22, 5, 6, 23, 10, 15, 30]
/-- the number with which a is 1; 0 of what has none. -/
def inv (a : Int) : Int := bif ok a then invs.getD a.toNat 0 else 0
theorem lift (P : Int → Prop) (h : ∀ n : Nat, n < 31 → P (n : Int)) {a : Int} (ha : ok a = true) : P a := by
  have ⟨a0, a1⟩ := ok_iff.1 ha
  have := h a.toNat (by omega)
  rwa [Int.toNat_of_nonneg a0] at this
theorem inv_in {a : Int} (ha : ok a = true) : 0 ≤ inv a ∧ inv a ≤ 30 := lift (fun a => 0 ≤ inv a ∧ inv a ≤ 30) (by decide +kernel) ha
theorem inv_is {a : Int} (ha : ok a = true) : ok (inv a) = true := ok_iff.2 (inv_in ha)
theorem mul_inv {a : Int} (ha : ok a = true) (h : a ≠ 0) : mul a (inv a) = 1 := lift (fun a => a ≠ 0 → mul a (inv a) = 1) (by decide +kernel) ha h
theorem inv_inv {a : Int} (ha : ok a = true) : inv (inv a) = a := lift (fun a => inv (inv a) = a) (by decide +kernel) ha
theorem inv_ne {a : Int} (ha : ok a = true) (h : a ≠ 0) : inv a ≠ 0 := lift (fun a => a ≠ 0 → inv a ≠ 0) (by decide +kernel) ha h
theorem two (P : Int → Int → Prop) (h : ∀ n : Nat, n < 31 → ∀ m : Nat, m < 31 → P (n : Int) (m : Int)) {a b : Int} (ha : ok a = true) (hb : ok b = true) : P a b :=
  lift (fun a => P a b) (fun n hn => lift (fun b => P n b) (fun m hm => h n hn m hm) hb) ha
theorem inv_mul {a b : Int} (ha : ok a = true) (hb : ok b = true) : inv (mul a b) = mul (inv a) (inv b) := two (fun a b => inv (mul a b) = mul (inv a) (inv b)) (by decide +kernel) ha hb
theorem mul_none {a b : Int} (ha : ok a = true) (hb : ok b = true) : mul a b = 0 ↔ a = 0 ∨ b = 0 := two (fun a b => mul a b = 0 ↔ a = 0 ∨ b = 0) (by decide +kernel) ha hb
/-- what is 1 with a, one times the other, is the inverse. -/
theorem inv_alone {a n : Int} (ha : ok a = true) (hn : ok n = true) (h : a * n % 31 = 1) : n = inv a := two (fun a n => a * n % 31 = 1 → n = inv a) (by decide +kernel) ha hn h
theorem inv_there {a : Int} (ha : ok a = true) (h : a ≠ 0) : a * inv a % 31 = 1 := by rw [← mul_ok ha (inv_is ha)]; exact mul_inv ha h
theorem inv_pos {a : Int} (ha : ok a = true) (h : a ≠ 0) : 1 ≤ inv a := by have := inv_in ha; have := inv_ne ha h; omega

/-! Euclid's steps, with the bounds of what they reckon: 'run f r n t u' is the end of at most f steps. -/
def run : Nat → Int → Int → Int → Int → Option Int
  | 0, _, _, _, _ => none
  | f + 1, r, n, t, u =>
    if n = 0 then (if -31 < t ∧ t < 31 then some t else none)
    else if 0 ≤ r ∧ r ≤ 31 ∧ 0 < n ∧ n ≤ 31 ∧ -31 ≤ t ∧ t ≤ 31 ∧ -31 ≤ u ∧ u ≤ 31 then run f n (r - r / n * n) u (t - r / n * u) else none
theorem run_end {f : Nat} {r t u x : Int} (h : run f r 0 t u = some x) : -31 < t ∧ t < 31 ∧ t = x := by
  cases f with
  | zero => simp [run] at h
  | succ f => simp only [run, if_true] at h; split at h <;> simp_all
theorem run_step {f : Nat} {r n t u x : Int} (h : run f r n t u = some x) (hn : n ≠ 0) : (0 ≤ r ∧ r ≤ 31 ∧ 0 < n ∧ n ≤ 31 ∧ -31 ≤ t ∧ t ≤ 31 ∧ -31 ≤ u ∧ u ≤ 31) ∧ ∃ g, f = g + 1 ∧ run g n (r - r / n * n) u (t - r / n * u) = some x := by
  cases f with
  | zero => simp [run] at h
  | succ f =>
    simp only [run, if_neg hn] at h
    split at h
    · exact ⟨by assumption, f, rfl, h⟩
    · simp at h
theorem quo_in {r n u : Int} (r0 : 0 ≤ r) (r1 : r ≤ 31) (n0 : 0 < n) (u0 : -31 ≤ u) (u1 : u ≤ 31) :
    0 ≤ r / n ∧ r / n ≤ 31 ∧ 0 ≤ r / n * n ∧ r / n * n ≤ r ∧ -961 ≤ r / n * u ∧ r / n * u ≤ 961 := by
  have q0 : 0 ≤ r / n := Int.ediv_nonneg r0 (by omega)
  have q1 : r / n ≤ 31 := by
    have : r / n ≤ r := Int.ediv_le_self _ r0
    omega
  have e := Int.emod_add_ediv_mul r n
  have e0 := Int.emod_nonneg r (show n ≠ 0 by omega)
  have h1 : r / n * u ≤ 31 * 31 := by
    by_cases hu : 0 ≤ u
    · exact Int.mul_le_mul q1 u1 hu (by omega)
    · have := Int.mul_nonpos_of_nonneg_of_nonpos q0 (show u ≤ 0 by omega); omega
  have h2 : r / n * (-u) ≤ 31 * 31 := by
    by_cases hu : 0 ≤ -u
    · exact Int.mul_le_mul q1 (by omega) hu (by omega)
    · have := Int.mul_nonpos_of_nonneg_of_nonpos q0 (show -u ≤ 0 by omega); omega
  have h3 : r / n * (-u) = -(r / n * u) := Int.mul_neg _ _
  exact ⟨q0, q1, Int.mul_nonneg q0 (by omega), by omega, by omega, by omega⟩
theorem rem_lt {r n : Int} (n0 : 0 < n) : 0 ≤ r - r / n * n ∧ r - r / n * n < n := by
  have e := Int.emod_add_ediv_mul r n
  have e0 := Int.emod_nonneg r (show n ≠ 0 by omega)
  have e1 := Int.emod_lt_of_pos r n0
  omega
/-- what the steps end in, from 31 and a on, is the inverse, or less by 31. -/
theorem run_inv {a : Int} (ha : ok a = true) (h : a ≠ 0) : ∃ x, run 12 31 a 0 1 = some x ∧ -31 < x ∧ x < 31 ∧ (if x < 0 then x + 31 else x) = inv a := by
  have g := lift (fun a => a ≠ 0 → ((run 12 31 a 0 1).any fun x => decide (-31 < x ∧ x < 31 ∧ (if x < 0 then x + 31 else x) = inv a)) = true) (by decide +kernel) ha h
  cases e : run 12 31 a 0 1 with
  | none => rw [e] at g; cases g
  | some x => rw [e] at g; exact ⟨x, rfl, of_decide_eq_true g⟩
end Go.Proofs.Ytbpkfcaokbidnab.Fld
