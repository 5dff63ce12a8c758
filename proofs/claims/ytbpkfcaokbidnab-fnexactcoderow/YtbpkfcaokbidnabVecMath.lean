/-
  Plain arithmetic of rows of four numbers modulo 31: what the functions of chapter 2 compute, as functions of lists of integers, and their laws. It speaks of no program.
  Conditions: none.
-/
import Derived.Test.YtbpkfcaokbidnabFldMath
namespace Go.Proofs.Ytbpkfcaokbidnab.Vec
set_option linter.unusedVariables false

/-- 'a row': four numbers from 0 to 30. -/
def ok (l : List Int) : Bool := decide (l.length = 4) && l.all Fld.ok
def sum (a b : List Int) : List Int := bif ok a && ok b then List.zipWith (fun x y => (x + y) % 31) a b else []
def scale (a : List Int) (c : Int) : List Int := bif ok a && Fld.ok c then a.map (fun x => x * c % 31) else []
def at_ (l : List Int) (i : Nat) : Int := l.getD i 0
def dot (a b : List Int) : Int := bif ok a && ok b then (at_ a 0 * at_ b 0 + at_ a 1 * at_ b 1 + at_ a 2 * at_ b 2 + at_ a 3 * at_ b 3) % 31 else 0
def unit (n : Int) : List Int := bif decide (0 ≤ n) && decide (n < 4) then (List.replicate 4 (0 : Int)).set n.toNat 1 else []
/-- the place of the first number that is not 0, from i on; -1, if there is none. -/
def first : List Int → Nat → Int
  | [], _ => -1
  | x :: l, i => bif x == 0 then first l (i + 1) else (i : Int)
theorem first_yes {x : Int} {l : List Int} {i : Nat} (h : (x != 0) = true) : first (x :: l) i = i := by
  have e : (x == 0) = false := by simpa [bne] using h
  simp [first, e]
theorem first_no {x : Int} {l : List Int} {i : Nat} (h : (x != 0) = false) : first (x :: l) i = first l (i + 1) := by
  have e : (x == 0) = true := by simpa [bne] using h
  simp [first, e]
/-- numbers ahead that are 0 are passed by. -/
theorem first_skip {l : List Int} : ∀ {k i : Nat}, (∀ j, j < k → l.getD j 0 = 0) → k ≤ l.length → first l i = first (l.drop k) (i + k) := by
  intro k
  induction k generalizing l with
  | zero => intro i _ _; rfl
  | succ k ih =>
    intro i h hk
    match l, hk with
    | x :: l, hk =>
      have h0 : x = 0 := by simpa using h 0 (by omega)
      subst h0
      rw [first_no (by simp), List.drop_succ_cons, ih (l := l) (i := i + 1) (fun j hj => by simpa using h (j + 1) (by omega)) (by simpa using hk)]
      congr 1
      omega
def lead (a : List Int) : Int := bif ok a then first a 0 else -1

theorem ok_four {l : List Int} (h : ok l = true) : ∃ x y z t : Int, l = [x, y, z, t] ∧ Fld.ok x = true ∧ Fld.ok y = true ∧ Fld.ok z = true ∧ Fld.ok t = true := by
  simp only [ok, Bool.and_eq_true, decide_eq_true_eq] at h
  obtain ⟨h4, h⟩ := h
  match l, h4 with
  | [x, y, z, t], _ =>
    simp at h
    exact ⟨x, y, z, t, rfl, h.1, h.2.1, h.2.2.1, h.2.2.2⟩
theorem ok_mk {x y z t : Int} (hx : Fld.ok x = true) (hy : Fld.ok y = true) (hz : Fld.ok z = true) (ht : Fld.ok t = true) : ok [x, y, z, t] = true := by simp [ok, hx, hy, hz, ht]
theorem ok_len {l : List Int} (h : ok l = true) : l.length = 4 := by simp [ok] at h; exact h.1
theorem ok_get {l : List Int} (h : ok l = true) {i : Nat} (hi : i < 4) : Fld.ok (l.getD i 0) = true := by
  obtain ⟨x, y, z, t, rfl, hx, hy, hz, ht⟩ := ok_four h
  match i, hi with
  | 0, _ => exact hx
  | 1, _ => exact hy
  | 2, _ => exact hz
  | 3, _ => exact ht
theorem ok_no_len {l : List Int} (h : l.length ≠ 4) : ok l = false := by simp [ok, h]
theorem ok_no_get {l : List Int} {i : Nat} (hi : i < l.length) (h : Fld.ok (l.getD i 0) = false) : ok l = false := by
  rw [← Bool.not_eq_true]
  intro e
  have h4 := ok_len e
  rw [ok_get e (by omega)] at h
  cases h
theorem ok_all {l : List Int} (h4 : l.length = 4) (h : ∀ i, i < 4 → Fld.ok (l.getD i 0) = true) : ok l = true := by
  match l, h4 with
  | [x, y, z, t], _ => exact ok_mk (h 0 (by omega)) (h 1 (by omega)) (h 2 (by omega)) (h 3 (by omega))

theorem mod_is (n : Int) : Fld.ok (n % 31) = true := Fld.ok_true (by omega) (by omega)
theorem sum_ok {a b : List Int} (ha : ok a = true) (hb : ok b = true) : sum a b = List.zipWith (fun x y => (x + y) % 31) a b := by simp [sum, ha, hb]
theorem scale_ok {a : List Int} {c : Int} (ha : ok a = true) (hc : Fld.ok c = true) : scale a c = a.map (fun x => x * c % 31) := by simp [scale, ha, hc]
theorem dot_ok {a b : List Int} (ha : ok a = true) (hb : ok b = true) : dot a b = (at_ a 0 * at_ b 0 + at_ a 1 * at_ b 1 + at_ a 2 * at_ b 2 + at_ a 3 * at_ b 3) % 31 := by simp [dot, ha, hb]
theorem lead_ok {a : List Int} (ha : ok a = true) : lead a = first a 0 := by simp [lead, ha]
theorem sum_no {a b : List Int} (h : (ok a && ok b) = false) : sum a b = [] := by simp [sum, h]
theorem scale_no {a : List Int} {c : Int} (h : (ok a && Fld.ok c) = false) : scale a c = [] := by simp [scale, h]
theorem dot_no {a b : List Int} (h : (ok a && ok b) = false) : dot a b = 0 := by simp [dot, h]
theorem lead_no {a : List Int} (h : ok a = false) : lead a = -1 := by simp [lead, h]
theorem sum_is {a b : List Int} (ha : ok a = true) (hb : ok b = true) : ok (sum a b) = true := by
  rw [sum_ok ha hb]
  obtain ⟨x, y, z, t, rfl, _⟩ := ok_four ha
  obtain ⟨x', y', z', t', rfl, _⟩ := ok_four hb
  exact ok_mk (mod_is _) (mod_is _) (mod_is _) (mod_is _)
theorem scale_is {a : List Int} {c : Int} (ha : ok a = true) (hc : Fld.ok c = true) : ok (scale a c) = true := by
  rw [scale_ok ha hc]
  obtain ⟨x, y, z, t, rfl, _⟩ := ok_four ha
  exact ok_mk (mod_is _) (mod_is _) (mod_is _) (mod_is _)
theorem sum_get {a b : List Int} (ha : ok a = true) (hb : ok b = true) {i : Nat} (hi : i < 4) : (sum a b).getD i 0 = Fld.sum (a.getD i 0) (b.getD i 0) := by
  rw [Fld.sum_ok (ok_get ha hi) (ok_get hb hi), sum_ok ha hb]
  obtain ⟨x, y, z, t, rfl, _⟩ := ok_four ha
  obtain ⟨x', y', z', t', rfl, _⟩ := ok_four hb
  match i, hi with
  | 0, _ => rfl
  | 1, _ => rfl
  | 2, _ => rfl
  | 3, _ => rfl
theorem scale_get {a : List Int} {c : Int} (ha : ok a = true) (hc : Fld.ok c = true) {i : Nat} (hi : i < 4) : (scale a c).getD i 0 = Fld.mul (a.getD i 0) c := by
  rw [Fld.mul_ok (ok_get ha hi) hc, scale_ok ha hc]
  obtain ⟨x, y, z, t, rfl, _⟩ := ok_four ha
  match i, hi with
  | 0, _ => rfl
  | 1, _ => rfl
  | 2, _ => rfl
  | 3, _ => rfl
/-- two rows are one, if they are so at each place. -/
theorem ext {a b : List Int} (ha : ok a = true) (hb : ok b = true) (h : ∀ i, i < 4 → a.getD i 0 = b.getD i 0) : a = b := by
  obtain ⟨x, y, z, t, rfl, _⟩ := ok_four ha
  obtain ⟨x', y', z', t', rfl, _⟩ := ok_four hb
  have h0 := h 0 (by omega)
  have h1 := h 1 (by omega)
  have h2 := h 2 (by omega)
  have h3 := h 3 (by omega)
  simp at h0 h1 h2 h3
  rw [h0, h1, h2, h3]
theorem sum_comm (a b : List Int) : sum b a = sum a b := by
  cases ha : ok a
  · rw [sum_no (by simp [ha]), sum_no (by simp [ha])]
  cases hb : ok b
  · rw [sum_no (by simp [hb]), sum_no (by simp [hb])]
  refine ext (sum_is hb ha) (sum_is ha hb) fun i hi => ?_
  rw [sum_get hb ha hi, sum_get ha hb hi, Fld.sum_comm]
theorem sum_assoc {a b c : List Int} (ha : ok a = true) (hb : ok b = true) (hc : ok c = true) : sum (sum a b) c = sum a (sum b c) := by
  refine ext (sum_is (sum_is ha hb) hc) (sum_is ha (sum_is hb hc)) fun i hi => ?_
  rw [sum_get (sum_is ha hb) hc hi, sum_get ha hb hi, sum_get ha (sum_is hb hc) hi, sum_get hb hc hi, Fld.sum_assoc (ok_get ha hi) (ok_get hb hi) (ok_get hc hi)]
theorem scale_one {a : List Int} (ha : ok a = true) : scale a 1 = a := by
  refine ext (scale_is ha rfl) ha fun i hi => ?_
  rw [scale_get ha rfl hi, Fld.mul_one (ok_get ha hi)]
theorem scale_mul {a : List Int} {c d : Int} (ha : ok a = true) (hc : Fld.ok c = true) (hd : Fld.ok d = true) : scale (scale a c) d = scale a (Fld.mul c d) := by
  refine ext (scale_is (scale_is ha hc) hd) (scale_is ha (Fld.mul_is _ _)) fun i hi => ?_
  rw [scale_get (scale_is ha hc) hd hi, scale_get ha hc hi, scale_get ha (Fld.mul_is _ _) hi, Fld.mul_assoc (ok_get ha hi) hc hd]
theorem scale_sum {a : List Int} {c d : Int} (ha : ok a = true) (hc : Fld.ok c = true) (hd : Fld.ok d = true) : scale a (Fld.sum c d) = sum (scale a c) (scale a d) := by
  refine ext (scale_is ha (Fld.sum_is _ _)) (sum_is (scale_is ha hc) (scale_is ha hd)) fun i hi => ?_
  rw [sum_get (scale_is ha hc) (scale_is ha hd) hi, scale_get ha hc hi, scale_get ha hd hi, scale_get ha (Fld.sum_is _ _) hi, Fld.mul_sum (ok_get ha hi) hc hd]
theorem lead_zero {a : List Int} (ha : ok a = true) : lead (scale a 0) = -1 := by
  rw [lead_ok (scale_is ha rfl), scale_ok ha rfl]
  obtain ⟨x, y, z, t, rfl, _⟩ := ok_four ha
  simp [first]
theorem lead_scale {a : List Int} {c : Int} (ha : ok a = true) (hc : Fld.ok c = true) (h0 : c ≠ 0) : lead (scale a c) = lead a := by
  rw [lead_ok (scale_is ha hc), scale_ok ha hc, lead_ok ha]
  obtain ⟨x, y, z, t, rfl, hx, hy, hz, ht⟩ := ok_four ha
  have e : ∀ n : Int, Fld.ok n = true → (n * c % 31 == 0) = (n == 0) := by
    intro n hn
    have := Fld.mul_none hn hc
    rw [Fld.mul_ok hn hc] at this
    rw [Bool.eq_iff_iff, beq_iff_eq, beq_iff_eq, this]
    simp [h0]
  simp [first, e x hx, e y hy, e z hz, e t ht]
theorem dot_comm (a b : List Int) : dot b a = dot a b := by
  unfold dot
  rw [Bool.and_comm, Int.mul_comm (at_ b 0), Int.mul_comm (at_ b 1), Int.mul_comm (at_ b 2), Int.mul_comm (at_ b 3)]
theorem dot_in (a b : List Int) : 0 ≤ dot a b ∧ dot a b ≤ 30 := by
  unfold dot; cases ok a && ok b <;> simp <;> omega
theorem dot_is (a b : List Int) : Fld.ok (dot a b) = true := Fld.ok_iff.2 (dot_in a b)
theorem dot_sum {a b c : List Int} (ha : ok a = true) (hb : ok b = true) (hc : ok c = true) : dot a (sum b c) = Fld.sum (dot a b) (dot a c) := by
  rw [Fld.sum_ok (dot_is _ _) (dot_is _ _), dot_ok ha (sum_is hb hc), dot_ok ha hb, dot_ok ha hc, sum_ok hb hc]
  obtain ⟨x, y, z, t, rfl, _⟩ := ok_four ha
  obtain ⟨x', y', z', t', rfl, _⟩ := ok_four hb
  obtain ⟨x'', y'', z'', t'', rfl, _⟩ := ok_four hc
  simp only [at_, List.getD_eq_getElem?_getD, List.zipWith_cons_cons, List.getElem?_cons_zero, List.getElem?_cons_succ, Option.getD_some]
  have e : ∀ p q r : Int, ∃ k : Int, p * ((q + r) % 31) = p * q + p * r + 31 * k := fun p q r => ⟨-(p * ((q + r) / 31)), by
    have h := Int.emod_def (q + r) 31
    rw [h, Int.mul_sub, Int.mul_add, ← Int.mul_assoc, Int.mul_comm p 31, Int.mul_assoc]
    omega⟩
  obtain ⟨k0, e0⟩ := e x x' x''
  obtain ⟨k1, e1⟩ := e y y' y''
  obtain ⟨k2, e2⟩ := e z z' z''
  obtain ⟨k3, e3⟩ := e t t' t''
  rw [e0, e1, e2, e3]
  omega
/-- the first k products, together. -/
def dpart (l m : List Int) : Nat → Int
  | 0 => 0
  | k + 1 => (dpart l m k + l.getD k 0 * m.getD k 0) % 31
theorem dpart_is (l m : List Int) (k : Nat) : Fld.ok (dpart l m k) = true := by
  cases k with
  | zero => rfl
  | succ k => exact mod_is _
theorem dpart_next (l m : List Int) (k : Nat) : (dpart l m k + l.getD k 0 * m.getD k 0 % 31) % 31 = dpart l m (k + 1) := by
  show _ = (dpart l m k + l.getD k 0 * m.getD k 0) % 31
  omega
theorem dpart_sum (l m : List Int) (k : Nat) (hx : Fld.ok (l.getD k 0) = true) (hy : Fld.ok (m.getD k 0) = true) : Fld.sum (dpart l m k) (Fld.mul (l.getD k 0) (m.getD k 0)) = dpart l m (k + 1) := by
  rw [Fld.sum_ok (dpart_is l m k) (Fld.mul_is _ _), Fld.mul_ok hx hy, dpart_next]
theorem dpart_all {l m : List Int} (hl : ok l = true) (hm : ok m = true) : dpart l m 4 = dot l m := by
  rw [dot_ok hl hm]
  simp only [dpart, at_]
  omega
theorem unit_four (k : Nat) (h : k < 4) : unit k = (List.replicate 4 (0 : Int)).set k 1 := by
  match k, h with
  | 0, _ => rfl
  | 1, _ => rfl
  | 2, _ => rfl
  | 3, _ => rfl
theorem unit_is (k : Nat) (h : k < 4) : ok (unit k) = true := by
  match k, h with
  | 0, _ => rfl
  | 1, _ => rfl
  | 2, _ => rfl
  | 3, _ => rfl
theorem dot_unit {a : List Int} (ha : ok a = true) (k : Nat) (h : k < 4) : dot a (unit k) = a.getD k 0 := by
  rw [dot_ok ha (unit_is k h), unit_four k h]
  have hin := Fld.ok_iff.1 (ok_get ha h)
  obtain ⟨x, y, z, t, rfl, _⟩ := ok_four ha
  match k, h with
  | 0, _ => simp [at_] at hin ⊢; omega
  | 1, _ => simp [at_] at hin ⊢; omega
  | 2, _ => simp [at_] at hin ⊢; omega
  | 3, _ => simp [at_] at hin ⊢; omega
theorem lead_unit (k : Nat) (h : k < 4) : lead (unit k) = k := by
  match k, h with
  | 0, _ => rfl
  | 1, _ => rfl
  | 2, _ => rfl
  | 3, _ => rfl
theorem unit_get (k : Nat) (h : k < 4) : (unit k).getD k 0 = 1 := by
  match k, h with
  | 0, _ => rfl
  | 1, _ => rfl
  | 2, _ => rfl
  | 3, _ => rfl
theorem dot_self_unit (k : Nat) (h : k < 4) : dot (unit k) (unit k) = 1 := by
  match k, h with
  | 0, _ => rfl
  | 1, _ => rfl
  | 2, _ => rfl
  | 3, _ => rfl
end Go.Proofs.Ytbpkfcaokbidnab.Vec
