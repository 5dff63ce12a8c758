/-
  What this claim wants of the texts of earlier chapters.
  Conditions: none.
-/
import Derived.Below
import Derived.Laws.Rows
import Derived.Deep.Draws
import Derived.Test.YthglkgicckodaaaRows
import Derived.WalkKit
import Derived.ProofKit
import Derived.Lib.Hide
import Derived.OwnWalk
import Derived.OpenShut
import Derived.Laws.OwnMore
import Derived.Deep.Matrix
import Derived.Deep.QuietTactic
import Derived.BigQuiet
import Derived.Handy
import Derived.StillTailTactics
import Derived.RegionTactic
import Derived.Deep.AppendLies
import Derived.Deep.RegionLaw

namespace Go.Proofs.Ythglkgicckodaaa.Fld
set_option linter.unusedVariables false
def ok (n : Int) : Bool := decide (0 ≤ n) && decide (n ≤ 30)
def sum (a b : Int) : Int := bif ok a && ok b then (a + b) % 31 else 0
def mul (a b : Int) : Int := bif ok a && ok b then a * b % 31 else 0
theorem ok_iff {n : Int} : ok n = true ↔ 0 ≤ n ∧ n ≤ 30 := by simp [ok]
theorem ok_true {n : Int} (h0 : 0 ≤ n) (h1 : n ≤ 30) : ok n = true := ok_iff.2 ⟨h0, h1⟩
theorem ok_false {n : Int} (h : ¬ (0 ≤ n ∧ n ≤ 30)) : ok n = false := by
  rw [← Bool.not_eq_true]; intro e; exact h (ok_iff.1 e)
theorem mul_ok {a b : Int} (ha : ok a = true) (hb : ok b = true) : mul a b = a * b % 31 := by simp [mul, ha, hb]
theorem mul_le {a b : Int} (ha : ok a = true) (hb : ok b = true) : 0 ≤ a * b ∧ a * b ≤ 900 := by
  have ⟨a0, a1⟩ := ok_iff.1 ha
  have ⟨b0, b1⟩ := ok_iff.1 hb
  refine ⟨Int.mul_nonneg a0 b0, ?_⟩
  have h : a * b ≤ 30 * 30 := Int.mul_le_mul a1 b1 b0 (by omega)
  omega
theorem mul_comm (a b : Int) : mul b a = mul a b := by
  unfold mul; rw [Bool.and_comm, Int.mul_comm]
theorem mul_one {a : Int} (ha : ok a = true) : mul a 1 = a := by
  rw [mul_ok ha rfl]; have := ok_iff.1 ha; omega
def invs : List Int := [0, 1, 16, 21, 8, 25, 26, 9, 4, 7, 28, 17, 13, 12, 20, 29, 2, 11, 19, 18, 14, 3, 24, 27, 22, 5, 6, 23, 10, 15, 30]
def inv (a : Int) : Int := bif ok a then invs.getD a.toNat 0 else 0
theorem lift (P : Int → Prop) (h : ∀ n : Nat, n < 31 → P (n : Int)) {a : Int} (ha : ok a = true) : P a := by
  have ⟨a0, a1⟩ := ok_iff.1 ha
  have := h a.toNat (by omega)
  rwa [Int.toNat_of_nonneg a0] at this
theorem inv_in {a : Int} (ha : ok a = true) : 0 ≤ inv a ∧ inv a ≤ 30 := lift (fun a => 0 ≤ inv a ∧ inv a ≤ 30) (by decide +kernel) ha
theorem inv_is {a : Int} (ha : ok a = true) : ok (inv a) = true := ok_iff.2 (inv_in ha)
theorem mul_inv {a : Int} (ha : ok a = true) (h : a ≠ 0) : mul a (inv a) = 1 := lift (fun a => a ≠ 0 → mul a (inv a) = 1) (by decide +kernel) ha h
theorem inv_ne {a : Int} (ha : ok a = true) (h : a ≠ 0) : inv a ≠ 0 := lift (fun a => a ≠ 0 → inv a ≠ 0) (by decide +kernel) ha h
theorem two (P : Int → Int → Prop) (h : ∀ n : Nat, n < 31 → ∀ m : Nat, m < 31 → P (n : Int) (m : Int)) {a b : Int} (ha : ok a = true) (hb : ok b = true) : P a b :=
  lift (fun a => P a b) (fun n hn => lift (fun b => P n b) (fun m hm => h n hn m hm) hb) ha
theorem mul_none {a b : Int} (ha : ok a = true) (hb : ok b = true) : mul a b = 0 ↔ a = 0 ∨ b = 0 := two (fun a b => mul a b = 0 ↔ a = 0 ∨ b = 0) (by decide +kernel) ha hb
theorem inv_alone {a n : Int} (ha : ok a = true) (hn : ok n = true) (h : a * n % 31 = 1) : n = inv a := two (fun a n => a * n % 31 = 1 → n = inv a) (by decide +kernel) ha hn h
theorem inv_there {a : Int} (ha : ok a = true) (h : a ≠ 0) : a * inv a % 31 = 1 := by rw [← mul_ok ha (inv_is ha)]; exact mul_inv ha h
theorem inv_pos {a : Int} (ha : ok a = true) (h : a ≠ 0) : 1 ≤ inv a := by have := inv_in ha; have := inv_ne ha h; omega
def run : Nat → Int → Int → Int → Int → Option Int
  | 0, _, _, _, _ => none
  | f + 1, r, n, t, u =>
    if n = 0 then (if -31 < t ∧ t < 31 then some t else none)
    else if 0 ≤ r ∧ r ≤ 31 ∧ 0 < n ∧ n ≤ 31 ∧ -31 ≤ t ∧ t ≤ 31 ∧ -31 ≤ u ∧ u ≤ 31 then run f n (r - r / n * n) u (t - r / n * u) else none
theorem run_end {f : Nat} {r t u x : Int} (h : run f r 0 t u = some x) : -31 < t ∧ t < 31 ∧ t = x := by
  cases f with
  | zero => simp [run] at h
  | succ f => simp only [run, if_true] at h; split at h <;> simp_all
theorem run_step {f : Nat} {r n t u x : Int} (h : run f r n t u = some x) (hn : n ≠ 0) : (0 ≤ r ∧ r ≤ 31 ∧ 0 < n ∧ n ≤ 31 ∧ -31 ≤ t ∧ t ≤ 31 ∧ -31 ≤ u ∧ u ≤ 31) ∧ ∃ g, f = g + 1 ∧ run g n (r - r / n * n) u (t - r / n * u) = some x := by
  cases f with
  | zero => simp [run] at h
  | succ f =>
    simp only [run, if_neg hn] at h
    split at h
    · exact ⟨by assumption, f, rfl, h⟩
    · simp at h
theorem quo_in {r n u : Int} (r0 : 0 ≤ r) (r1 : r ≤ 31) (n0 : 0 < n) (u0 : -31 ≤ u) (u1 : u ≤ 31) :
    0 ≤ r / n ∧ r / n ≤ 31 ∧ 0 ≤ r / n * n ∧ r / n * n ≤ r ∧ -961 ≤ r / n * u ∧ r / n * u ≤ 961 := by
  have q0 : 0 ≤ r / n := Int.ediv_nonneg r0 (by omega)
  have q1 : r / n ≤ 31 := by
    have : r / n ≤ r := Int.ediv_le_self _ r0
    omega
  have e := Int.emod_add_ediv_mul r n
  have e0 := Int.emod_nonneg r (show n ≠ 0 by omega)
  have h1 : r / n * u ≤ 31 * 31 := by
    by_cases hu : 0 ≤ u
    · exact Int.mul_le_mul q1 u1 hu (by omega)
    · have := Int.mul_nonpos_of_nonneg_of_nonpos q0 (show u ≤ 0 by omega); omega
  have h2 : r / n * (-u) ≤ 31 * 31 := by
    by_cases hu : 0 ≤ -u
    · exact Int.mul_le_mul q1 (by omega) hu (by omega)
    · have := Int.mul_nonpos_of_nonneg_of_nonpos q0 (show -u ≤ 0 by omega); omega
  have h3 : r / n * (-u) = -(r / n * u) := Int.mul_neg _ _
  exact ⟨q0, q1, Int.mul_nonneg q0 (by omega), by omega, by omega, by omega⟩
theorem rem_lt {r n : Int} (n0 : 0 < n) : 0 ≤ r - r / n * n ∧ r - r / n * n < n := by
  have e := Int.emod_add_ediv_mul r n
  have e0 := Int.emod_nonneg r (show n ≠ 0 by omega)
  have e1 := Int.emod_lt_of_pos r n0
  omega
theorem run_inv {a : Int} (ha : ok a = true) (h : a ≠ 0) : ∃ x, run 12 31 a 0 1 = some x ∧ -31 < x ∧ x < 31 ∧ (if x < 0 then x + 31 else x) = inv a := by
  have g := lift (fun a => a ≠ 0 → ((run 12 31 a 0 1).any fun x => decide (-31 < x ∧ x < 31 ∧ (if x < 0 then x + 31 else x) = inv a)) = true) (by decide +kernel) ha h
  cases e : run 12 31 a 0 1 with
  | none => rw [e] at g; cases g
  | some x => rw [e] at g; exact ⟨x, rfl, of_decide_eq_true g⟩
end Go.Proofs.Ythglkgicckodaaa.Fld
namespace Go.Proofs.Ythglkgicckodaaa
open Go.RowKit
set_option linter.unusedVariables false
structure Far (c : Nat) (w w' : World) : Prop where
  os : w'.os = w.os
  tape : w'.tape = w.tape
  output : w'.output = w.output
  size : w.heap.size ≤ w'.heap.size
  block : ∀ k, k < w.heap.size → k ≠ c → w'.heap[k]? = w.heap[k]?
namespace Far
variable {c : Nat} {a b w w' : World}
theorem refl (c : Nat) (w : World) : Far c w w := ⟨rfl, rfl, rfl, Nat.le_refl _, fun _ _ _ => rfl⟩
theorem trans (h : Far c a b) (k : Far c b w) : Far c a w :=
  ⟨k.os.trans h.os, k.tape.trans h.tape, k.output.trans h.output, Nat.le_trans h.size k.size, fun i hi hc => (k.block i (Nat.lt_of_lt_of_le hi h.size) hc).trans (h.block i hi hc)⟩
theorem below {B : Nat} (h : Far c w w') (hc : B ≤ c) (hB : B ≤ w.heap.size) : Below B w w' :=
  ⟨h.os, h.tape, h.output, h.size, fun k hk => h.block k (by omega) (by omega)⟩
theorem ofBelow (h : Below w.heap.size w w') : Far c w w' := ⟨h.os, h.tape, h.output, h.size, fun k hk _ => h.block k hk⟩
theorem set (w : World) (c i : Nat) (v : Value) : Far c w (w.setCell ⟨c, i, none⟩ v) := by
  have h := Below.setCell (Below.refl 0 w) (p := ⟨c, i, none⟩) (Nat.zero_le _) v
  exact ⟨h.os, h.tape, h.output, h.size, fun k _ hc => Below.heap_setCell w ⟨c, i, none⟩ v k hc⟩
theorem draws (h : Far c a w) (n : Nat) : Far c a (w.drewN n) := ⟨h.os, h.tape, h.output, h.size, h.block⟩
theorem alloc (w : World) (o : Obj) : Far c w (w.alloc o) := ofBelow ((Below.refl _ w).alloc (Nat.le_refl _) o)
theorem cell (h : Far c w w') {p : Addr} (hp : p.block < w.heap.size) (hc : p.block ≠ c) : w'.cell? p = w.cell? p := World.cell?_of_block (w := w) (h.block p.block hp hc)
theorem frozen (h : Far c w w') {p : Addr} (hp : p.block < w.heap.size) (hc : p.block ≠ c) : w'.frozen? p = w.frozen? p := World.frozen?_of_block (w := w) (h.block p.block hp hc)
end Far
theorem lt_of_cell {w : World} {p : Addr} {v : Value} (h : w.cell? p = some v) : p.block < w.heap.size := by
  rcases Nat.lt_or_ge p.block w.heap.size with hlt | hge
  · exact hlt
  · simp [World.cell?, Array.getElem?_eq_none hge] at h
theorem ret_int {k : IntKind} {a b : Int} (h : a = b) : Ending.returned (.int k a) = .returned (.int k b) := by rw [h]
theorem ret_bool {a b : Bool} (h : a = b) : Ending.returned (.bool b) = .returned (.bool a) := by rw [h]
end Go.Proofs.Ythglkgicckodaaa
namespace Go.Proofs.Ythglkgicckodaaa
open Go.RowKit
set_option linter.unusedVariables false
set_option maxHeartbeats 400000 in
set_option maxRecDepth 20000 in
theorem implOk (n : Int) (w : World) : Calls Try.prog 47 #[.int .i64 n] w fun e w' => e = .returned (.bool (Fld.ok n)) ∧ w = w' := by
  by_cases h0 : 0 ≤ n
  · by_cases h1 : n < 31
    · rw [Fld.ok_true h0 (by omega)]
      go_enter Try.func47, Try.ntmps47
      go_wp2
      go_ret
      exact ⟨rfl, rfl⟩
    · rw [Fld.ok_false (by omega)]
      go_enter Try.func47, Try.ntmps47
      go_wp2
      go_ret
      exact ⟨rfl, rfl⟩
  · rw [Fld.ok_false (by omega)]
    go_enter Try.func47, Try.ntmps47
    go_wp2
    go_ret
    exact ⟨rfl, rfl⟩
set_option maxHeartbeats 400000 in
set_option maxRecDepth 20000 in
theorem specOk (n : Int) (w : World) : Calls Try.prog 46 #[.int .i64 n] w fun e w' => e = .returned (.bool (Fld.ok n)) ∧ w = w' := by
  by_cases h0 : 0 ≤ n
  · by_cases h1 : n ≤ 30
    · rw [Fld.ok_true h0 (by omega)]
      go_enter Try.func46, Try.ntmps46
      go_wp2
      go_ret
      exact ⟨rfl, rfl⟩
    · rw [Fld.ok_false (by omega)]
      go_enter Try.func46, Try.ntmps46
      go_wp2
      go_ret
      exact ⟨rfl, rfl⟩
  · rw [Fld.ok_false (by omega)]
    go_enter Try.func46, Try.ntmps46
    go_wp2
    go_ret
    exact ⟨rfl, rfl⟩
set_option maxHeartbeats 400000 in
set_option maxRecDepth 20000 in
theorem elemSum (a b : Int) (w : World) (ha : Fld.ok a = true) (hb : Fld.ok b = true) : Calls Try.prog 70 #[.int .i64 a, .int .i64 b] w fun e w' => e = .returned (.int .i64 ((a + b) % 31)) ∧ w = w' := by
  have ⟨a0, a1⟩ := Fld.ok_iff.1 ha
  have ⟨b0, b1⟩ := Fld.ok_iff.1 hb
  go_enter Try.func70, Try.ntmps70
  go_wp2
  go_ret
  exact ⟨rfl, rfl⟩
set_option maxHeartbeats 400000 in
set_option maxRecDepth 20000 in
theorem elemDif (a b : Int) (w : World) (ha : Fld.ok a = true) (hb : Fld.ok b = true) : Calls Try.prog 44 #[.int .i64 a, .int .i64 b] w fun e w' => e = .returned (.int .i64 ((a - b) % 31)) ∧ w = w' := by
  have ⟨a0, a1⟩ := Fld.ok_iff.1 ha
  have ⟨b0, b1⟩ := Fld.ok_iff.1 hb
  go_enter Try.func44, Try.ntmps44
  go_wp2
  go_ret
  exact ⟨ret_int (by omega), rfl⟩
set_option maxHeartbeats 400000 in
set_option maxRecDepth 20000 in
theorem elemMul (a b : Int) (w : World) (ha : Fld.ok a = true) (hb : Fld.ok b = true) : Calls Try.prog 121 #[.int .i64 a, .int .i64 b] w fun e w' => e = .returned (.int .i64 (a * b % 31)) ∧ w = w' := by
  have ⟨a0, a1⟩ := Fld.ok_iff.1 ha
  have ⟨b0, b1⟩ := Fld.ok_iff.1 hb
  have ⟨m0, m1⟩ := Fld.mul_le ha hb
  go_enter Try.func121, Try.ntmps121
  go_wp2
  go_ret
  exact ⟨rfl, rfl⟩
set_option maxHeartbeats 400000 in
set_option maxRecDepth 20000 in
/-- the model's search: the first n with a*n = 1. -/
theorem specSearch (a : Int) (w : World) (ha : Fld.ok a = true) (hz : a ≠ 0) : Calls Try.prog 122 #[.int .i64 a] w fun e w' => e = .returned (.int .i64 (Fld.inv a)) ∧ w = w' := by
  have ⟨a0, a1⟩ := Fld.ok_iff.1 ha
  have ⟨i0, i1⟩ := Fld.inv_in ha
  have ip := Fld.inv_pos ha hz
  have hin := Lib.hid (Fld.inv_there ha hz)
  clear hz
  go_enter Try.func122, Try.ntmps122
  go_wp2
  go_loop [3] (fun n => ∃ k : Int, 1 ≤ k ∧ k ≤ Fld.inv a ∧ n = .int .i64 k) (fun n => (31 - intOf n).toNat)
  case atStart => exact ⟨1, by omega, ip, rfl⟩
  case round =>
    obtain ⟨k, k0, k1, rfl⟩ := hrel
    have hk := Fld.ok_true (n := k) (by omega) (by omega)
    have ⟨m0, m1⟩ := Fld.mul_le ha hk
    by_cases he : k = Fld.inv a
    · have ht : (a * k % 31 == 1) = true := by rw [beq_iff_eq, he]; exact hin.out
      have He := Lib.hid he
      clear he
      go_wp2
      go_ret
      exact ⟨ret_int He.out, rfl⟩
    · have ht : (a * k % 31 == 1) = false := by rw [beq_eq_false_iff_ne]; exact fun h => he (Fld.inv_alone ha hk h)
      go_wp2
      go_round
      case rel => exact ⟨k + 1, by omega, by omega, rfl⟩
      case measure => simp [intOf]; omega
set_option maxHeartbeats 1000000 in
set_option maxRecDepth 20000 in
/-- the program's steps after Euclid. -/
theorem implEuclid (a : Int) (w : World) (ha : Fld.ok a = true) (hz : a ≠ 0) : Calls Try.prog 132 #[.int .i64 a] w fun e w' => e = .returned (.int .i64 (Fld.inv a)) ∧ w = w' := by
  have ⟨a0, a1⟩ := Fld.ok_iff.1 ha
  obtain ⟨x, hrun, x0, x1, hx⟩ := Fld.run_inv ha hz
  have Hx := Lib.hid hx
  have Hr := Lib.hid hrun
  clear hx hrun hz
  go_enter Try.func132, Try.ntmps132
  go_wp2
  go_loop [3, 4, 5, 6] (fun s3 s4 s5 s6 => ∃ (f : Nat) (r n t u : Int), Fld.run f r n t u = some x ∧ s3 = .int .i64 r ∧ s4 = .int .i64 n ∧ s5 = .int .i64 t ∧ s6 = .int .i64 u) (fun _ s4 _ _ => (intOf s4).toNat)
  case atStart => exact ⟨12, 31, a, 0, 1, Hr.out, rfl, rfl, rfl, rfl⟩
  case round =>
    obtain ⟨f, r, n, t, u, hf, rfl, rfl, rfl, rfl⟩ := hrel
    by_cases hn : n = 0
    · subst hn
      have ⟨t0, t1, ht⟩ := Fld.run_end hf
      have Ht := Lib.hid ht
      clear hf ht
      by_cases hs : t < 0
      · go_wp2
        go_ret
        exact ⟨ret_int (by rw [← Hx.out, ← Ht.out, if_pos (by omega)]), rfl⟩
      · go_wp2
        go_ret
        exact ⟨ret_int (by rw [← Hx.out, ← Ht.out, if_neg (by omega)]), rfl⟩
    · have ⟨⟨r0, r1, n0, n1, t0, t1, u0, u1⟩, g, _, hg⟩ := Fld.run_step hf hn
      have ⟨q0, q1, p0, p1, p2, p3⟩ := Fld.quo_in r0 r1 n0 u0 u1
      have ⟨m0, m1⟩ := Fld.rem_lt (r := r) n0
      have Hg := Lib.hid hg
      clear hf hg
      have hb : (n != 0) = true := by rw [bne_iff_ne]; exact hn
      go_wp2
      go_round
      case rel => exact ⟨g, _, _, _, _, Hg.out, rfl, rfl, rfl, rfl⟩
      case measure => simp [intOf]; omega
end Go.Proofs.Ythglkgicckodaaa
namespace Go.Proofs.Ythglkgicckodaaa.Vec
set_option linter.unusedVariables false
def ok (l : List Int) : Bool := decide (l.length = 4) && l.all Fld.ok
def sum (a b : List Int) : List Int := bif ok a && ok b then List.zipWith (fun x y => (x + y) % 31) a b else []
def at_ (l : List Int) (i : Nat) : Int := l.getD i 0
def dot (a b : List Int) : Int := bif ok a && ok b then (at_ a 0 * at_ b 0 + at_ a 1 * at_ b 1 + at_ a 2 * at_ b 2 + at_ a 3 * at_ b 3) % 31 else 0
def unit (n : Int) : List Int := bif decide (0 ≤ n) && decide (n < 4) then (List.replicate 4 (0 : Int)).set n.toNat 1 else []
def first : List Int → Nat → Int
  | [], _ => -1
  | x :: l, i => bif x == 0 then first l (i + 1) else (i : Int)
theorem first_yes {x : Int} {l : List Int} {i : Nat} (h : (x != 0) = true) : first (x :: l) i = i := by
  have e : (x == 0) = false := by simpa [bne] using h
  simp [first, e]
theorem first_no {x : Int} {l : List Int} {i : Nat} (h : (x != 0) = false) : first (x :: l) i = first l (i + 1) := by
  have e : (x == 0) = true := by simpa [bne] using h
  simp [first, e]
theorem first_skip {l : List Int} : ∀ {k i : Nat}, (∀ j, j < k → l.getD j 0 = 0) → k ≤ l.length → first l i = first (l.drop k) (i + k) := by
  intro k
  induction k generalizing l with
  | zero => intro i _ _; rfl
  | succ k ih =>
    intro i h hk
    match l, hk with
    | x :: l, hk =>
      have h0 : x = 0 := by simpa using h 0 (by omega)
      subst h0
      rw [first_no (by simp), List.drop_succ_cons, ih (l := l) (i := i + 1) (fun j hj => by simpa using h (j + 1) (by omega)) (by simpa using hk)]
      congr 1
      omega
def lead (a : List Int) : Int := bif ok a then first a 0 else -1
theorem ok_four {l : List Int} (h : ok l = true) : ∃ x y z t : Int, l = [x, y, z, t] ∧ Fld.ok x = true ∧ Fld.ok y = true ∧ Fld.ok z = true ∧ Fld.ok t = true := by
  simp only [ok, Bool.and_eq_true, decide_eq_true_eq] at h
  obtain ⟨h4, h⟩ := h
  match l, h4 with
  | [x, y, z, t], _ =>
    simp at h
    exact ⟨x, y, z, t, rfl, h.1, h.2.1, h.2.2.1, h.2.2.2⟩
theorem ok_mk {x y z t : Int} (hx : Fld.ok x = true) (hy : Fld.ok y = true) (hz : Fld.ok z = true) (ht : Fld.ok t = true) : ok [x, y, z, t] = true := by simp [ok, hx, hy, hz, ht]
theorem ok_len {l : List Int} (h : ok l = true) : l.length = 4 := by simp [ok] at h; exact h.1
theorem ok_get {l : List Int} (h : ok l = true) {i : Nat} (hi : i < 4) : Fld.ok (l.getD i 0) = true := by
  obtain ⟨x, y, z, t, rfl, hx, hy, hz, ht⟩ := ok_four h
  match i, hi with
  | 0, _ => exact hx
  | 1, _ => exact hy
  | 2, _ => exact hz
  | 3, _ => exact ht
theorem mod_is (n : Int) : Fld.ok (n % 31) = true := Fld.ok_true (by omega) (by omega)
theorem ext {a b : List Int} (ha : ok a = true) (hb : ok b = true) (h : ∀ i, i < 4 → a.getD i 0 = b.getD i 0) : a = b := by
  obtain ⟨x, y, z, t, rfl, _⟩ := ok_four ha
  obtain ⟨x', y', z', t', rfl, _⟩ := ok_four hb
  have h0 := h 0 (by omega)
  have h1 := h 1 (by omega)
  have h2 := h 2 (by omega)
  have h3 := h 3 (by omega)
  simp at h0 h1 h2 h3
  rw [h0, h1, h2, h3]
theorem unit_four (k : Nat) (h : k < 4) : unit k = (List.replicate 4 (0 : Int)).set k 1 := by
  match k, h with
  | 0, _ => rfl
  | 1, _ => rfl
  | 2, _ => rfl
  | 3, _ => rfl
end Go.Proofs.Ythglkgicckodaaa.Vec
namespace Go.Proofs.Ythglkgicckodaaa.Sp
set_option linter.unusedVariables false
abbrev F := Fin 31
abbrev V := Nat → F
theorem mul_none (a b : F) : a * b = 0 → a = 0 ∨ b = 0 := by revert a b; decide
def comb (c : Nat → F) : List V → V
  | [] => fun _ => 0
  | a :: A => fun j => c 0 * a j + comb (fun i => c (i + 1)) A j
theorem comb_nil (c : Nat → F) (j : Nat) : comb c [] j = 0 := rfl
theorem comb_cons (c : Nat → F) (a : V) (A : List V) (j : Nat) : comb c (a :: A) j = c 0 * a j + comb (fun i => c (i + 1)) A j := rfl
theorem comb_add (A : List V) : ∀ (c d : Nat → F) (j : Nat), comb (fun i => c i + d i) A j = comb c A j + comb d A j := by
  induction A with
  | nil => intro c d j; simp [comb]
  | cons a A ih => intro c d j; simp only [comb_cons, ih]; grind
theorem comb_mul (A : List V) : ∀ (k : F) (c : Nat → F) (j : Nat), comb (fun i => k * c i) A j = k * comb c A j := by
  induction A with
  | nil => intro k c j; simp only [comb_nil]; grind
  | cons a A ih => intro k c j; simp only [comb_cons, ih]; grind
theorem comb_zero (A : List V) : ∀ (j : Nat), comb (fun _ => 0) A j = 0 := by
  induction A with
  | nil => intro j; rfl
  | cons a A ih => intro j; simp only [comb_cons, ih]; grind
theorem comb_at_zero (A : List V) (p : Nat) : ∀ (c : Nat → F), (∀ a ∈ A, a p = 0) → comb c A p = 0 := by
  induction A with
  | nil => intro c _; rfl
  | cons a A ih =>
    intro c h
    rw [comb_cons, ih _ (fun b hb => h b (List.mem_cons_of_mem _ hb)), h a (by simp)]
    grind
theorem comb_congr (A : List V) (j : Nat) : ∀ (c d : Nat → F), (∀ i, i < A.length → c i = d i) → comb c A j = comb d A j := by
  induction A with
  | nil => intro c d _; rfl
  | cons a A ih =>
    intro c d h
    rw [comb_cons, comb_cons, h 0 (by simp), ih _ (fun i => d (i + 1)) (fun i hi => h (i + 1) (by simpa using hi))]
def one (i : Nat) : Nat → F := fun k => if k = i then 1 else 0
theorem comb_one (A : List V) : ∀ (i : Nat) (h : i < A.length) (j : Nat), comb (one i) A j = A[i] j := by
  induction A with
  | nil => intro i h; simp at h
  | cons a A ih =>
    intro i h j
    cases i with
    | zero =>
      rw [comb_cons, comb_congr A j (fun i => one 0 (i + 1)) (fun _ => 0) (fun i _ => by simp [one]), comb_zero]
      simp only [one, if_true, List.getElem_cons_zero]; grind
    | succ i =>
      rw [comb_cons, comb_congr A j (fun k => one (i + 1) (k + 1)) (one i) (fun k _ => by simp [one]), ih i (by simpa using h)]
      have e : one (i + 1) 0 = 0 := by simp [one]
      rw [e, List.getElem_cons_succ]; grind
theorem comb_append (A B : List V) (j : Nat) : ∀ (c : Nat → F), comb c (A ++ B) j = comb c A j + comb (fun i => c (i + A.length)) B j := by
  induction A with
  | nil => intro c; simp [comb]
  | cons a A ih =>
    intro c
    rw [List.cons_append, comb_cons, ih, comb_cons]
    have e : (fun i => (fun i => c (i + 1)) (i + A.length)) = fun i => c (i + (a :: A).length) := by
      funext i; simp [Nat.add_assoc]
    rw [e]
    grind
def In (A : List V) (v : V) : Prop := ∃ c, ∀ j, v j = comb c A j
theorem In.zero (A : List V) : In A (fun _ => 0) := ⟨fun _ => 0, fun j => (comb_zero A j).symm⟩
theorem In.add {A : List V} {u v : V} (h : In A u) (k : In A v) : In A (fun j => u j + v j) := by
  obtain ⟨c, hc⟩ := h
  obtain ⟨d, hd⟩ := k
  exact ⟨fun i => c i + d i, fun j => by show u j + v j = _; rw [comb_add, hc, hd]⟩
theorem In.mul {A : List V} {v : V} (h : In A v) (k : F) : In A (fun j => k * v j) := by
  obtain ⟨c, hc⟩ := h
  exact ⟨fun i => k * c i, fun j => by show k * v j = _; rw [comb_mul, hc]⟩
theorem In.mem {A : List V} {a : V} (h : a ∈ A) : In A a := by
  obtain ⟨i, hi, rfl⟩ := List.getElem_of_mem h
  exact ⟨one i, fun j => (comb_one A i hi j).symm⟩
theorem In.eq {A : List V} {u v : V} (h : In A u) (e : ∀ j, v j = u j) : In A v := by
  obtain ⟨c, hc⟩ := h
  exact ⟨c, fun j => (e j).trans (hc j)⟩
theorem in_comb {A B : List V} : ∀ (c : Nat → F), (∀ a ∈ A, In B a) → In B (comb c A) := by
  induction A with
  | nil => intro c _; exact In.zero B
  | cons a A ih =>
    intro c h
    exact ((h a (by simp)).mul (c 0)).add (ih _ (fun b hb => h b (List.mem_cons_of_mem _ hb)))
theorem In.trans {A B : List V} {v : V} (h : In A v) (k : ∀ a ∈ A, In B a) : In B v := by
  obtain ⟨c, hc⟩ := h
  exact (in_comb c k).eq hc
theorem In.sub {A : List V} {u v : V} (h : In A u) (k : In A v) (c : F) : In A (fun j => u j - c * v j) :=
  (h.add (k.mul (-c))).eq (fun j => by grind)
theorem In.mono {A B : List V} {v : V} (h : In A v) (k : ∀ a ∈ A, a ∈ B) : In B v := h.trans fun a ha => In.mem (k a ha)
theorem in_nil {v : V} : In [] v ↔ ∀ j, v j = 0 := ⟨fun ⟨c, hc⟩ j => hc j, fun h => ⟨fun _ => 0, h⟩⟩
def Same (A B : List V) : Prop := (∀ a ∈ A, In B a) ∧ ∀ b ∈ B, In A b
theorem Same.refl (A : List V) : Same A A := ⟨fun _ h => In.mem h, fun _ h => In.mem h⟩
theorem Same.symm {A B : List V} (h : Same A B) : Same B A := ⟨h.2, h.1⟩
theorem Same.iff {A B : List V} (h : Same A B) (v : V) : In A v ↔ In B v := ⟨fun k => k.trans h.1, fun k => k.trans h.2⟩
theorem Same.trans {A B C : List V} (h : Same A B) (k : Same B C) : Same A C := ⟨fun a ha => (h.1 a ha).trans k.1, fun c hc => (k.2 c hc).trans h.2⟩
theorem Same.of {A B : List V} (h : ∀ v, In A v ↔ In B v) : Same A B := ⟨fun a ha => (h a).1 (In.mem ha), fun b hb => (h b).2 (In.mem hb)⟩
structure Tidy (L : List (Nat × V)) : Prop where
  up : L.Pairwise fun x y => x.1 < y.1
  one : ∀ x ∈ L, x.2 x.1 = 1
  ahead : ∀ x ∈ L, ∀ j, j < x.1 → x.2 j = 0
  others : ∀ x ∈ L, ∀ y ∈ L, x.1 ≠ y.1 → y.2 x.1 = 0
def rows (L : List (Nat × V)) : List V := L.map Prod.snd
theorem Tidy.nil : Tidy [] := ⟨List.Pairwise.nil, by simp, by simp, by simp⟩
theorem Tidy.tail {x : Nat × V} {L : List (Nat × V)} (h : Tidy (x :: L)) : Tidy L :=
  ⟨(List.pairwise_cons.1 h.up).2, fun y hy => h.one y (by simp [hy]), fun y hy => h.ahead y (by simp [hy]), fun y hy z hz => h.others y (by simp [hy]) z (by simp [hz])⟩
theorem Tidy.head_lt {x : Nat × V} {L : List (Nat × V)} (h : Tidy (x :: L)) : ∀ y ∈ L, x.1 < y.1 := (List.pairwise_cons.1 h.up).1
theorem Tidy.eq_of {L : List (Nat × V)} (h : Tidy L) {x y : Nat × V} (hx : x ∈ L) (hy : y ∈ L) (e : x.1 = y.1) : x = y := by
  induction L with
  | nil => simp at hx
  | cons z L ih =>
    rcases List.mem_cons.1 hx with rfl | hx' <;> rcases List.mem_cons.1 hy with rfl | hy'
    · rfl
    · have := h.head_lt y hy'; omega
    · have := h.head_lt x hx'; omega
    · exact ih h.tail hx' hy'
theorem comb_at {L : List (Nat × V)} (h : Tidy L) : ∀ (c : Nat → F) (i : Nat) (hi : i < L.length), comb c (rows L) (L[i]).1 = c i := by
  induction L with
  | nil => intro c i hi; simp at hi
  | cons x L ih =>
    intro c i hi
    cases i with
    | zero =>
      show comb c (x.2 :: rows L) x.1 = c 0
      rw [comb_cons, h.one x (by simp), comb_at_zero]
      · grind
      · intro a ha
        obtain ⟨y, hy, rfl⟩ := List.mem_map.1 ha
        exact h.others x (by simp) y (by simp [hy]) (by have := h.head_lt y hy; omega)
    | succ i =>
      have hi' : i < L.length := by simpa using hi
      show comb c (x.2 :: rows L) (L[i]).1 = c (i + 1)
      have hm : L[i] ∈ L := List.getElem_mem hi'
      rw [comb_cons, ih h.tail _ i hi', h.others L[i] (by simp [hm]) x (by simp) (by have := h.head_lt _ hm; omega)]
      grind
theorem In.at_ {L : List (Nat × V)} (h : Tidy L) {v : V} (k : In (rows L) v) (j : Nat) : v j = comb (fun i => if hi : i < L.length then v (L[i]).1 else 0) (rows L) j := by
  obtain ⟨c, hc⟩ := k
  rw [hc]
  refine comb_congr _ _ _ _ fun i hi => ?_
  have hi' : i < L.length := by simpa [rows] using hi
  rw [dif_pos hi', hc, comb_at h c i hi']
theorem In.none_ {L : List (Nat × V)} (h : Tidy L) {v : V} (k : In (rows L) v) (z : ∀ x ∈ L, v x.1 = 0) (j : Nat) : v j = 0 := by
  rw [k.at_ h j, ← comb_zero (rows L) j]
  refine comb_congr _ _ _ _ fun i hi => ?_
  have hi' : i < L.length := by simpa [rows] using hi
  rw [dif_pos hi']
  exact z _ (List.getElem_mem hi')
def Lead (v : V) (p : Nat) : Prop := v p ≠ 0 ∧ ∀ j, j < p → v j = 0
theorem Lead.one {v : V} {p q : Nat} (h : Lead v p) (k : Lead v q) : p = q := by
  rcases Nat.lt_trichotomy p q with hl | hl | hl
  · exact absurd (k.2 p hl) h.1
  · exact hl
  · exact absurd (h.2 q hl) k.1
theorem lead_in {L : List (Nat × V)} : Tidy L → ∀ {v : V} {p : Nat}, In (rows L) v → Lead v p → ∃ x ∈ L, x.1 = p := by
  induction L with
  | nil => intro h v p k hl; exact absurd ((in_nil.1 k) p) hl.1
  | cons x L ih =>
    intro h v p k hl
    by_cases hv : v x.1 = 0
    · have hin : In (rows L) v := by
        obtain ⟨c, hc⟩ := k
        refine ⟨fun i => c (i + 1), fun j => ?_⟩
        have h0 : c 0 = 0 := by
          rw [← comb_at h c 0 (by simp), ← hc]; exact hv
        rw [hc]
        show comb c (x.2 :: rows L) j = _
        rw [comb_cons, h0]
        grind
      obtain ⟨y, hy, e⟩ := ih h.tail hin hl
      exact ⟨y, by simp [hy], e⟩
    · refine ⟨x, by simp, ?_⟩
      refine Lead.one ⟨hv, fun j hj => ?_⟩ hl
      obtain ⟨c, hc⟩ := k
      rw [hc]
      refine comb_at_zero _ _ _ fun a ha => ?_
      obtain ⟨y, hy, rfl⟩ := List.mem_map.1 ha
      rcases List.mem_cons.1 hy with rfl | hy'
      · exact h.ahead y (by simp) j hj
      · exact h.ahead y (by simp [hy']) j (by have := h.head_lt y hy'; omega)
theorem Tidy.lead {L : List (Nat × V)} (h : Tidy L) {x : Nat × V} (hx : x ∈ L) : Lead x.2 x.1 := ⟨by rw [h.one x hx]; decide, h.ahead x hx⟩
theorem up_ext : ∀ {l m : List Nat}, l.Pairwise (· < ·) → m.Pairwise (· < ·) → (∀ x, x ∈ l ↔ x ∈ m) → l = m := by
  intro l
  induction l with
  | nil =>
    intro m _ _ h
    match m with
    | [] => rfl
    | y :: m => exact absurd ((h y).2 (by simp)) (by simp)
  | cons x l ih =>
    intro m hl hm h
    match m with
    | [] => exact absurd ((h x).1 (by simp)) (by simp)
    | y :: m =>
      have hl' := List.pairwise_cons.1 hl
      have hm' := List.pairwise_cons.1 hm
      have exy : x = y := by
        have h1 := (h x).1 (by simp)
        have h2 := (h y).2 (by simp)
        rcases List.mem_cons.1 h1 with e | h1
        · exact e
        · rcases List.mem_cons.1 h2 with e | h2
          · exact e.symm
          · have := hm'.1 x h1; have := hl'.1 y h2; omega
      subst exy
      rw [ih hl'.2 hm'.2 (fun z => ?_)]
      constructor
      · intro hz
        rcases List.mem_cons.1 ((h z).1 (by simp [hz])) with e | h'
        · have := hl'.1 z hz; omega
        · exact h'
      · intro hz
        rcases List.mem_cons.1 ((h z).2 (by simp [hz])) with e | h'
        · have := hm'.1 z hz; omega
        · exact h'
theorem tidy_one {L M : List (Nat × V)} (h : Tidy L) (k : Tidy M) (s : Same (rows L) (rows M)) : L = M := by
  have hle : ∀ {L M : List (Nat × V)}, Tidy L → Tidy M → Same (rows L) (rows M) → ∀ p, p ∈ L.map Prod.fst → p ∈ M.map Prod.fst := by
    intro L M h k s p hp
    obtain ⟨x, hx, rfl⟩ := List.mem_map.1 hp
    obtain ⟨y, hy, e⟩ := lead_in k (s.1 x.2 (List.mem_map.2 ⟨x, hx, rfl⟩)) (h.lead hx)
    exact List.mem_map.2 ⟨y, hy, e⟩
  have hu : ∀ {L : List (Nat × V)}, Tidy L → (L.map Prod.fst).Pairwise (· < ·) := fun h => List.pairwise_map.2 h.up
  have he : L.map Prod.fst = M.map Prod.fst := up_ext (hu h) (hu k) fun p => ⟨hle h k s p, hle k h s.symm p⟩
  have hlen : L.length = M.length := by simpa using congrArg List.length he
  refine List.ext_getElem hlen fun i hi hi' => ?_
  have e1 : ∀ n (a : n < L.length) (b : n < M.length), (L[n]).1 = (M[n]).1 := by
    intro n a b
    have := congrArg (fun l => l[n]?) he
    simpa [a, b] using this
  refine Prod.ext (e1 i hi hi') (funext fun j => ?_)
  have hx : L[i] ∈ L := List.getElem_mem hi
  have hin : In (rows M) (L[i]).2 := s.1 _ (List.mem_map.2 ⟨L[i], hx, rfl⟩)
  rw [hin.at_ k j]
  have hrow : (M[i]).2 j = comb (one i) (rows M) j := by rw [comb_one (rows M) i (by simpa [rows] using hi')]; unfold rows; rw [List.getElem_map]
  rw [hrow]
  refine comb_congr _ _ _ _ fun n hn => ?_
  have hn' : n < M.length := by simpa [rows] using hn
  have hn'' : n < L.length := by omega
  rw [dif_pos hn', ← e1 n hn'' hn']
  by_cases hni : n = i
  · subst hni; simp [Sp.one, h.one _ hx]
  · simp only [Sp.one, if_neg hni]
    refine h.others _ (List.getElem_mem hn'') _ hx fun e => hni ?_
    have hp := List.pairwise_iff_getElem.1 h.up
    rcases Nat.lt_trichotomy n i with hl | hl | hl
    · have := hp n i hn'' hi hl; omega
    · exact hl
    · have := hp i n hi hn'' hl; omega
end Go.Proofs.Ythglkgicckodaaa.Sp
namespace Go.Proofs.Ythglkgicckodaaa.Sp
set_option linter.unusedVariables false
def toF (x : Int) : F := Fin.ofNat 31 (x % 31).toNat
theorem toF_val (x : Int) : ((toF x).val : Int) = x % 31 := by
  simp only [toF, Fin.ofNat]
  omega
theorem toF_eq {x y : Int} (h : x % 31 = y % 31) : toF x = toF y := by unfold toF; rw [h]
theorem toF_inj {x y : Int} (hx : Fld.ok x = true) (hy : Fld.ok y = true) (h : toF x = toF y) : x = y := by
  have h1 := toF_val x
  have h2 := toF_val y
  rw [h, h2] at h1
  have := Fld.ok_iff.1 hx
  have := Fld.ok_iff.1 hy
  omega
theorem toF_zero : toF 0 = 0 := rfl
theorem toF_one : toF 1 = 1 := rfl
theorem toF_none {x : Int} (hx : Fld.ok x = true) (h : toF x = 0) : x = 0 := toF_inj hx rfl h
theorem toF_add (x y : Int) : toF ((x + y) % 31) = toF x + toF y := by
  apply Fin.ext
  have h1 := toF_val x
  have h2 := toF_val y
  have h3 := toF_val ((x + y) % 31)
  rw [Fin.val_add]
  omega
theorem toF_mul (x y : Int) : toF (x * y % 31) = toF x * toF y := by
  apply Fin.ext
  have h1 := toF_val x
  have h2 := toF_val y
  have h3 := toF_val (x * y % 31)
  rw [Fin.val_mul]
  have e : (((toF x).val * (toF y).val % 31 : Nat) : Int) = x * y % 31 := by
    rw [Int.natCast_emod, Int.natCast_mul, h1, h2, Int.mul_emod x y]
    rfl
  omega
theorem toF_neg (x : Int) (h0 : 0 ≤ x) (h1 : x ≤ 31) : toF ((31 - x) % 31) = - toF x := by
  have h : toF ((31 - x) % 31) + toF x = 0 := by
    rw [← toF_add, ← toF_zero]
    exact toF_eq (by omega)
  grind
theorem toF_inv {x : Int} (hx : Fld.ok x = true) (h : x ≠ 0) : toF x * toF (Fld.inv x) = 1 := by
  rw [← toF_mul, Fld.inv_there hx h]
  rfl
def Row (n : Nat) (l : List Int) : Prop := l.length = n ∧ ∀ x ∈ l, Fld.ok x = true
theorem row_ok {l : List Int} : Vec.ok l = true ↔ Row 4 l := by simp [Vec.ok, Row]
theorem Row.get {n : Nat} {l : List Int} (h : Row n l) (j : Nat) : Fld.ok (l.getD j 0) = true := by
  by_cases hj : j < l.length
  · rw [List.getD_eq_getElem?_getD, List.getElem?_eq_getElem hj]; exact h.2 _ (List.getElem_mem hj)
  · rw [List.getD_eq_getElem?_getD, List.getElem?_eq_none (by omega)]; rfl
def toV (l : List Int) : V := fun j => toF (l.getD j 0)
theorem toV_out {n : Nat} {l : List Int} (h : Row n l) {j : Nat} (hj : n ≤ j) : toV l j = 0 := by
  unfold toV; rw [List.getD_eq_getElem?_getD, List.getElem?_eq_none (by rw [h.1]; exact hj)]; rfl
theorem toV_inj {n : Nat} {l m : List Int} (h : Row n l) (k : Row n m) (e : toV l = toV m) : l = m := by
  refine List.ext_getElem (by rw [h.1, k.1]) fun i hi hi' => ?_
  have := toF_inj (h.get i) (k.get i) (congrFun e i)
  simpa [List.getD_eq_getElem?_getD, hi, hi'] using this
def ladd (u v : List Int) : List Int := List.zipWith (fun x y => (x + y) % 31) u v
def lmul (v : List Int) (c : Int) : List Int := v.map fun x => x * c % 31
theorem row_ladd {n : Nat} {u v : List Int} (hu : Row n u) (hv : Row n v) : Row n (ladd u v) := by
  refine ⟨by simp [ladd, hu.1, hv.1], fun x hx => ?_⟩
  simp only [ladd, List.mem_iff_getElem, List.getElem_zipWith] at hx
  obtain ⟨i, _, rfl⟩ := hx
  exact Vec.mod_is _
theorem row_lmul {n : Nat} {v : List Int} (hv : Row n v) (c : Int) : Row n (lmul v c) := by
  refine ⟨by simp [lmul, hv.1], fun x hx => ?_⟩
  simp only [lmul, List.mem_map] at hx
  obtain ⟨y, _, rfl⟩ := hx
  exact Vec.mod_is _
theorem toV_ladd {n : Nat} {u v : List Int} (hu : Row n u) (hv : Row n v) (j : Nat) : toV (ladd u v) j = toV u j + toV v j := by
  by_cases hj : j < n
  · simp only [toV, ladd, List.getD_eq_getElem?_getD, List.getElem?_zipWith]
    rw [List.getElem?_eq_getElem (by rw [hu.1]; exact hj), List.getElem?_eq_getElem (by rw [hv.1]; exact hj)]
    exact toF_add _ _
  · rw [toV_out (row_ladd hu hv) (by omega), toV_out hu (by omega), toV_out hv (by omega)]; rfl
theorem toV_lmul {n : Nat} {v : List Int} (hv : Row n v) (c : Int) (j : Nat) : toV (lmul v c) j = toV v j * toF c := by
  by_cases hj : j < n
  · simp only [toV, lmul, List.getD_eq_getElem?_getD, List.getElem?_map]
    rw [List.getElem?_eq_getElem (by rw [hv.1]; exact hj)]
    exact toF_mul _ _
  · rw [toV_out (row_lmul hv c) (by omega), toV_out hv (by omega)]; grind
theorem first_lead {n : Nat} {l : List Int} (h : Row n l) {p : Nat} (k : Lead (toV l) p) : Vec.first l 0 = p := by
  have hp : p < l.length := by
    rcases Nat.lt_or_ge p l.length with hl | hl
    · exact hl
    · exact absurd (toV_out h (by rw [← h.1]; exact hl)) k.1
  rw [Vec.first_skip (k := p) (fun j hj => toF_none (h.get j) (k.2 j hj)) (by omega), List.drop_eq_getElem_cons hp, Vec.first_yes]
  · simp
  · rw [bne_iff_ne]
    intro e
    apply k.1
    unfold toV
    rw [List.getD_eq_getElem?_getD, List.getElem?_eq_getElem hp, Option.getD_some, e]; rfl
theorem first_none {n : Nat} {l : List Int} (h : Row n l) (k : ∀ j, toV l j = 0) : Vec.first l 0 = -1 := by
  rw [Vec.first_skip (k := l.length) (fun j _ => toF_none (h.get j) (k j)) (Nat.le_refl _), List.drop_length]; rfl
theorem lead_or {n : Nat} {l : List Int} (h : Row n l) : (∀ j, toV l j = 0) ∨ ∃ p, p < n ∧ Lead (toV l) p := by
  by_cases hz : ∀ j, toV l j = 0
  · exact .inl hz
  · right
    have hex : ∃ p, toV l p ≠ 0 := by
      rcases Classical.em (∃ p, toV l p ≠ 0) with h | h
      · exact h
      · exact absurd (fun j => Classical.byContradiction fun hj => h ⟨j, hj⟩) hz
    obtain ⟨p, hp⟩ := hex
    have hleast : ∀ m, (∃ q, q ≤ m ∧ toV l q ≠ 0) → ∃ q, q ≤ m ∧ Lead (toV l) q := by
      intro m
      induction m with
      | zero => rintro ⟨q, hq, hv⟩; exact ⟨q, hq, hv, fun j hj => by omega⟩
      | succ m ih =>
        rintro ⟨q, hq, hv⟩
        rcases Classical.em (∃ q, q ≤ m ∧ toV l q ≠ 0) with h | h
        · obtain ⟨r, hr, hl⟩ := ih h; exact ⟨r, by omega, hl⟩
        · have : q = m + 1 := by
            rcases Nat.lt_or_ge q (m + 1) with hl | hl
            · exact absurd ⟨q, by omega, hv⟩ h
            · omega
          subst this
          exact ⟨m + 1, Nat.le_refl _, hv, fun j hj => Classical.byContradiction fun hj' => h ⟨j, by omega, hj'⟩⟩
    obtain ⟨q, _, hl⟩ := hleast p ⟨p, Nat.le_refl _, hp⟩
    refine ⟨q, ?_, hl⟩
    rcases Nat.lt_or_ge q n with h' | h'
    · exact h'
    · exact absurd (toV_out h h') hl.1
def lless (v w : List Int) : List Int := ladd v (lmul w ((31 - v.getD (Vec.first w 0).toNat 0 * Fld.inv (w.getD (Vec.first w 0).toNat 0) % 31) % 31))
theorem row_lless {n : Nat} {v w : List Int} (hv : Row n v) (hw : Row n w) : Row n (lless v w) := row_ladd hv (row_lmul hw _)
theorem toV_lless {n : Nat} {v w : List Int} (hv : Row n v) (hw : Row n w) {p : Nat} (k : Lead (toV w) p) (j : Nat) :
    toV (lless v w) j = toV v j - toV v p * toF (Fld.inv (w.getD p 0)) * toV w j := by
  unfold lless
  rw [first_lead hw k, Int.toNat_natCast, toV_ladd hv (row_lmul hw _), toV_lmul hw, toF_neg _ (by omega) (by omega), toF_mul]
  show toV v j + toV w j * -(toV v p * _) = _
  grind
theorem toV_lless1 {n : Nat} {v w : List Int} (hv : Row n v) (hw : Row n w) {p : Nat} (k : Lead (toV w) p) (h1 : toV w p = 1) (j : Nat) :
    toV (lless v w) j = toV v j - toV v p * toV w j := by
  rw [toV_lless hv hw k]
  have e : w.getD p 0 = 1 := toF_inj (hw.get p) rfl h1
  rw [e, show Fld.inv 1 = 1 from rfl, toF_one]
  grind
def vred (L : List (Nat × V)) (u : V) : V := L.foldl (fun u x j => u j - u x.1 * x.2 j) u
theorem vred_cons (x : Nat × V) (L : List (Nat × V)) (u : V) : vred (x :: L) u = vred L (fun j => u j - u x.1 * x.2 j) := rfl
theorem vred_keeps {L : List (Nat × V)} (p : Nat) (h : ∀ x ∈ L, x.2 p = 0) : ∀ u, vred L u p = u p := by
  induction L with
  | nil => intro u; rfl
  | cons x L ih =>
    intro u
    rw [vred_cons, ih (fun y hy => h y (by simp [hy]))]
    show u p - u x.1 * x.2 p = u p
    rw [h x (by simp)]; grind
theorem vred_zero {L : List (Nat × V)} (h : Tidy L) : ∀ u, ∀ x ∈ L, vred L u x.1 = 0 := by
  induction L with
  | nil => intro u x hx; simp at hx
  | cons y L ih =>
    intro u x hx
    rw [vred_cons]
    rcases List.mem_cons.1 hx with rfl | hx'
    · rw [vred_keeps x.1 (fun z hz => h.others x (by simp) z (by simp [hz]) (by have := h.head_lt z hz; omega))]
      show u x.1 - u x.1 * x.2 x.1 = 0
      rw [h.one x (by simp)]; grind
    · exact ih h.tail _ x hx'
theorem vred_in {L : List (Nat × V)} : ∀ u, In (rows L) (fun j => u j - vred L u j) := by
  induction L with
  | nil => intro u; exact (In.zero _).eq (fun j => by show u j - u j = 0; grind)
  | cons x L ih =>
    intro u
    have h1 := (ih (fun j => u j - u x.1 * x.2 j)).mono (B := rows (x :: L)) (fun a ha => by simp [rows] at ha ⊢; exact .inr ha)
    have h2 : In (rows (x :: L)) x.2 := In.mem (by simp [rows])
    refine (h1.add (h2.mul (u x.1))).eq fun j => ?_
    rw [vred_cons]; grind
theorem in_iff_red {L : List (Nat × V)} (h : Tidy L) (u : V) : In (rows L) u ↔ ∀ j, vred L u j = 0 := by
  constructor
  · intro k
    have h1 : In (rows L) (vred L u) := (k.sub (vred_in (L := L) u) 1).eq fun j => by grind
    exact h1.none_ h (vred_zero h u)
  · intro k
    exact (vred_in (L := L) u).eq fun j => by rw [k j]; grind
def vins (p : Nat) (v : V) : List (Nat × V) → List (Nat × V)
  | [] => [(p, v)]
  | x :: L => if p < x.1 then (p, v) :: (x :: L).map (fun y => (y.1, fun j => y.2 j - y.2 p * v j)) else (x.1, fun j => x.2 j - x.2 p * v j) :: vins p v L
theorem mem_vins {p : Nat} {v : V} {L : List (Nat × V)} {y : Nat × V} : y ∈ vins p v L ↔ y = (p, v) ∨ ∃ x ∈ L, y = (x.1, fun j => x.2 j - x.2 p * v j) := by
  induction L with
  | nil => simp [vins]
  | cons x L ih =>
    unfold vins
    by_cases hp : p < x.1
    · rw [if_pos hp]
      simp only [List.mem_cons, List.mem_map]
      constructor
      · rintro (h | ⟨z, hz, rfl⟩)
        · exact .inl h
        · exact .inr ⟨z, hz, rfl⟩
      · rintro (h | ⟨z, hz, rfl⟩)
        · exact .inl h
        · exact .inr ⟨z, hz, rfl⟩
    · rw [if_neg hp]
      simp only [List.mem_cons, ih]
      constructor
      · rintro (h | h | ⟨z, hz, rfl⟩)
        · exact .inr ⟨x, .inl rfl, h⟩
        · exact .inl h
        · exact .inr ⟨z, .inr hz, rfl⟩
      · rintro (h | ⟨z, rfl | hz, rfl⟩)
        · exact .inr (.inl h)
        · exact .inl rfl
        · exact .inr (.inr ⟨z, hz, rfl⟩)
theorem vins_up {p : Nat} {v : V} {L : List (Nat × V)} (h : L.Pairwise fun x y => x.1 < y.1) (hp : ∀ x ∈ L, x.1 ≠ p) : (vins p v L).Pairwise fun x y => x.1 < y.1 := by
  induction L with
  | nil => simp [vins]
  | cons x L ih =>
    have h' := List.pairwise_cons.1 h
    unfold vins
    by_cases hlt : p < x.1
    · rw [if_pos hlt, List.pairwise_cons]
      refine ⟨?_, ?_⟩
      · intro y hy
        obtain ⟨z, hz, rfl⟩ := List.mem_map.1 hy
        rcases List.mem_cons.1 hz with rfl | hz
        · exact hlt
        · have := h'.1 z hz; show p < z.1; omega
      · exact List.pairwise_map.2 h
    · rw [if_neg hlt, List.pairwise_cons]
      refine ⟨?_, ih h'.2 (fun y hy => hp y (by simp [hy]))⟩
      intro y hy
      rcases mem_vins.1 hy with rfl | ⟨z, hz, rfl⟩
      · have := hp x (by simp); show x.1 < p; omega
      · exact h'.1 z hz
theorem vins_tidy {p : Nat} {v : V} {L : List (Nat × V)} (h : Tidy L) (hl : Lead v p) (h1 : v p = 1) (hz : ∀ x ∈ L, v x.1 = 0) : Tidy (vins p v L) := by
  have hp : ∀ x ∈ L, x.1 ≠ p := fun x hx e => by
    have h0 := hz x hx
    rw [e, h1] at h0
    exact absurd h0 (by decide)
  have hx0 : ∀ x ∈ L, p < x.1 → x.2 p = 0 := fun x hx hlt => h.ahead x hx p hlt
  refine ⟨vins_up h.up hp, ?_, ?_, ?_⟩
  · intro y hy
    rcases mem_vins.1 hy with rfl | ⟨x, hx, rfl⟩
    · exact h1
    · show x.2 x.1 - x.2 p * v x.1 = 1
      rw [h.one x hx, hz x hx]; grind
  · intro y hy j hj
    rcases mem_vins.1 hy with rfl | ⟨x, hx, rfl⟩
    · exact hl.2 j hj
    · show x.2 j - x.2 p * v j = 0
      have hj' : j < x.1 := hj
      rw [h.ahead x hx j hj']
      rcases Nat.lt_or_ge p x.1 with hlt | hge
      · rw [hx0 x hx hlt]; grind
      · rw [hl.2 j (by have := hp x hx; omega)]; grind
  · intro y hy z hzz hne
    rcases mem_vins.1 hy with rfl | ⟨x, hx, rfl⟩ <;> rcases mem_vins.1 hzz with rfl | ⟨x', hx', rfl⟩
    · exact absurd rfl hne
    · show x'.2 p - x'.2 p * v p = 0
      rw [h1]; grind
    · exact hz x hx
    · show x'.2 x.1 - x'.2 p * v x.1 = 0
      rw [hz x hx, h.others x hx x' hx' hne]; grind
theorem vins_same {p : Nat} {v : V} {L : List (Nat × V)} : Same (rows (vins p v L)) (v :: rows L) := by
  constructor
  · intro a ha
    obtain ⟨y, hy, rfl⟩ := List.mem_map.1 ha
    rcases mem_vins.1 hy with rfl | ⟨x, hx, rfl⟩
    · exact In.mem (by simp)
    · have hx2 : In (v :: rows L) x.2 := In.mem (by simp [rows]; exact .inr ⟨x.1, hx⟩)
      exact hx2.sub (In.mem (by simp)) (x.2 p)
  · intro b hb
    have hv : In (rows (vins p v L)) v := In.mem (List.mem_map.2 ⟨(p, v), mem_vins.2 (.inl rfl), rfl⟩)
    rcases List.mem_cons.1 hb with rfl | hb
    · exact hv
    · obtain ⟨x, hx, rfl⟩ := List.mem_map.1 hb
      have h1 : In (rows (vins p v L)) (fun j => x.2 j - x.2 p * v j) := In.mem (List.mem_map.2 ⟨_, mem_vins.2 (.inr ⟨x, hx, rfl⟩), rfl⟩)
      exact (h1.add (hv.mul (x.2 p))).eq fun j => by grind
theorem vins_length {p : Nat} {v : V} {L : List (Nat × V)} : (vins p v L).length = L.length + 1 := by
  induction L with
  | nil => rfl
  | cons x L ih =>
    unfold vins
    split
    · simp
    · simp [ih]
end Go.Proofs.Ythglkgicckodaaa.Sp
namespace Go.Proofs.Ythglkgicckodaaa.Sp
set_option linter.unusedVariables false
def lins (p : Nat) (v : List Int) : List (List Int) → List (List Int)
  | [] => [v]
  | r :: T => if (p : Int) < Vec.first r 0 then v :: (r :: T).map (fun s => lless s v) else lless r v :: lins p v T
def ladd1 (T : List (List Int)) (v : List Int) : List (List Int) :=
  if Vec.first (T.foldl lless v) 0 < 0 then T
  else lins (Vec.first (T.foldl lless v) 0).toNat (lmul (T.foldl lless v) (Fld.inv ((T.foldl lless v).getD (Vec.first (T.foldl lless v) 0).toNat 0))) T
def ltidy (m : List (List Int)) : List (List Int) := m.foldl ladd1 []
structure Is (n : Nat) (T : List (List Int)) (L : List (Nat × V)) : Prop where
  tidy : Tidy L
  same : T.map toV = rows L
  row : ∀ r ∈ T, Row n r
theorem Is.nil (n : Nat) : Is n [] [] := ⟨Tidy.nil, rfl, by simp⟩
theorem Is.length {n : Nat} {T : List (List Int)} {L : List (Nat × V)} (h : Is n T L) : T.length = L.length := by
  have := congrArg List.length h.same
  simpa [rows] using this
theorem Is.cons {n : Nat} {r : List Int} {T : List (List Int)} {x : Nat × V} {L : List (Nat × V)} (h : Is n (r :: T) (x :: L)) : toV r = x.2 ∧ Row n r ∧ Is n T L := by
  have hs := h.same
  simp only [rows, List.map_cons, List.cons.injEq] at hs
  exact ⟨hs.1, h.row r (by simp), h.tidy.tail, hs.2, fun s hs => h.row s (by simp [hs])⟩
theorem fold_is {n : Nat} {T : List (List Int)} : ∀ {L : List (Nat × V)} {v : List Int}, Is n T L → Row n v → Row n (T.foldl lless v) ∧ toV (T.foldl lless v) = vred L (toV v) := by
  induction T with
  | nil =>
    intro L v h hv
    have : L = [] := List.eq_nil_of_length_eq_zero (by rw [← h.length]; rfl)
    subst this
    exact ⟨hv, rfl⟩
  | cons r T ih =>
    intro L v h hv
    match L, h.length with
    | x :: L, _ =>
      obtain ⟨e, hr, h'⟩ := h.cons
      have hl : Lead (toV r) x.1 := by rw [e]; exact h.tidy.lead (by simp)
      have h1 : toV r x.1 = 1 := by rw [e]; exact h.tidy.one x (by simp)
      obtain ⟨g1, g2⟩ := ih h' (row_lless hv hr)
      refine ⟨g1, ?_⟩
      show toV (T.foldl lless (lless v r)) = _
      rw [g2, vred_cons]
      congr 1
      funext j
      rw [toV_lless1 hv hr hl h1, e]
theorem lins_is {n p : Nat} {v : List Int} (hv : Row n v) (hl : Lead (toV v) p) (h1 : toV v p = 1) {T : List (List Int)} : ∀ {L : List (Nat × V)}, Is n T L → (lins p v T).map toV = rows (vins p (toV v) L) ∧ ∀ r ∈ lins p v T, Row n r := by
  induction T with
  | nil =>
    intro L h
    have : L = [] := List.eq_nil_of_length_eq_zero (by rw [← h.length]; rfl)
    subst this
    refine ⟨rfl, fun r hr => ?_⟩
    simp [lins] at hr; subst hr; exact hv
  | cons r T ih =>
    intro L h
    match L, h.length with
    | x :: L, _ =>
      obtain ⟨e, hr, h'⟩ := h.cons
      have hlr : Lead (toV r) x.1 := by rw [e]; exact h.tidy.lead (by simp)
      have hf := first_lead hr hlr
      obtain ⟨g1, g2⟩ := ih h'
      unfold lins vins
      by_cases hp : p < x.1
      · rw [if_pos (by rw [hf]; omega), if_pos hp]
        constructor
        · have hs := h.same
          simp only [rows, List.map_cons, List.map_map] at hs ⊢
          congr 1
          have hm : ∀ (A : List (List Int)) (B : List (Nat × V)), A.map toV = B.map Prod.snd → (∀ s ∈ A, Row n s) → A.map (toV ∘ fun s => lless s v) = B.map (Prod.snd ∘ fun y => (y.1, fun j => y.2 j - y.2 p * toV v j)) := by
            intro A
            induction A with
            | nil =>
              intro B hB _
              have e0 : B = [] := by simpa using hB.symm
              subst e0
              rfl
            | cons a A iha =>
              intro B hB hA
              match B, hB with
              | b :: B, hB =>
                simp only [List.map_cons, List.cons.injEq] at hB ⊢
                refine ⟨?_, iha B hB.2 (fun s hs => hA s (by simp [hs]))⟩
                funext j
                show toV (lless a v) j = b.2 j - b.2 p * toV v j
                rw [toV_lless1 (hA a (by simp)) hv hl h1, hB.1]
          have := hm (r :: T) (x :: L) h.same h.row
          simpa using this
        · intro s hs
          rcases List.mem_cons.1 hs with rfl | hs
          · exact hv
          · obtain ⟨s', hs', rfl⟩ := List.mem_map.1 hs
            exact row_lless (h.row s' hs') hv
      · rw [if_neg (by rw [hf]; omega), if_neg hp]
        constructor
        · simp only [rows, List.map_cons]
          rw [List.cons.injEq]
          refine ⟨?_, g1⟩
          funext j
          rw [toV_lless1 hr hv hl h1, e]
        · intro s hs
          rcases List.mem_cons.1 hs with rfl | hs
          · exact row_lless hr hv
          · exact g2 s hs
theorem ladd1_is {n : Nat} {T : List (List Int)} {L : List (Nat × V)} {v : List Int} (h : Is n T L) (hv : Row n v) :
    (In (rows L) (toV v) ∧ ladd1 T v = T) ∨ (¬ In (rows L) (toV v) ∧ ∃ L', Is n (ladd1 T v) L' ∧ L'.length = L.length + 1 ∧ Same (rows L') (toV v :: rows L)) := by
  obtain ⟨hr, he⟩ := fold_is h hv
  rcases lead_or hr with hz | ⟨p, hp, hl⟩
  · left
    refine ⟨(in_iff_red h.tidy _).2 fun j => by rw [← he]; exact hz j, ?_⟩
    unfold ladd1
    rw [if_pos (by rw [first_none hr hz]; decide)]
  · right
    have hf := first_lead hr hl
    have hnot : ¬ In (rows L) (toV v) := fun k => by
      have := (in_iff_red h.tidy _).1 k p
      rw [← he] at this
      exact hl.1 this
    refine ⟨hnot, ?_⟩
    have ha : (T.foldl lless v).getD p 0 ≠ 0 := fun e => hl.1 (by unfold toV; rw [e]; rfl)
    have hinv := toF_inv (hr.get p) ha
    have hm : ∀ j, toV (lmul (T.foldl lless v) (Fld.inv ((T.foldl lless v).getD p 0))) j = toV (T.foldl lless v) j * toF (Fld.inv ((T.foldl lless v).getD p 0)) := toV_lmul hr _
    have hrow := row_lmul hr (Fld.inv ((T.foldl lless v).getD p 0))
    have h1 : toV (lmul (T.foldl lless v) (Fld.inv ((T.foldl lless v).getD p 0))) p = 1 := by rw [hm]; exact hinv
    have hlead : Lead (toV (lmul (T.foldl lless v) (Fld.inv ((T.foldl lless v).getD p 0)))) p := by
      refine ⟨by rw [h1]; decide, fun j hj => ?_⟩
      rw [hm, hl.2 j hj]; grind
    have hzero : ∀ x ∈ L, toV (lmul (T.foldl lless v) (Fld.inv ((T.foldl lless v).getD p 0))) x.1 = 0 := by
      intro x hx
      rw [hm, he, vred_zero h.tidy _ x hx]; grind
    obtain ⟨g1, g2⟩ := lins_is hrow hlead h1 h
    have e1 : ladd1 T v = lins p (lmul (T.foldl lless v) (Fld.inv ((T.foldl lless v).getD p 0))) T := by
      unfold ladd1
      rw [hf, if_neg (by omega), Int.toNat_natCast]
    rw [e1]
    refine ⟨_, ⟨vins_tidy h.tidy hlead h1 hzero, g1, g2⟩, vins_length, vins_same.trans ?_⟩
    -- the new row and the old ones make what v and the old ones make
    have hu : In (toV v :: rows L) (toV (T.foldl lless v)) := by
      have k1 : In (toV v :: rows L) (fun j => toV v j - vred L (toV v) j) := (vred_in (L := L) (toV v)).mono fun a ha => by simp [ha]
      have k2 : In (toV v :: rows L) (toV v) := In.mem (by simp)
      exact (k2.sub k1 1).eq fun j => by rw [he]; grind
    constructor
    · intro a ha
      rcases List.mem_cons.1 ha with rfl | ha
      · exact (hu.mul (toF (Fld.inv ((T.foldl lless v).getD p 0)))).eq fun j => by rw [hm]; grind
      · exact In.mem (by simp [ha])
    · intro b hb
      rcases List.mem_cons.1 hb with rfl | hb
      · have k1 := (vred_in (L := L) (toV v)).mono (B := toV (lmul (T.foldl lless v) (Fld.inv ((T.foldl lless v).getD p 0))) :: rows L) fun a ha => by simp [ha]
        have k2 : In (toV (lmul (T.foldl lless v) (Fld.inv ((T.foldl lless v).getD p 0))) :: rows L) (toV (lmul (T.foldl lless v) (Fld.inv ((T.foldl lless v).getD p 0)))) := In.mem (by simp)
        refine (k1.add (k2.mul (toF ((T.foldl lless v).getD p 0)))).eq fun j => ?_
        rw [hm, ← he]
        grind
      · exact In.mem (by simp [hb])
theorem fold_tidy {n : Nat} {m : List (List Int)} : ∀ {T : List (List Int)} {L : List (Nat × V)}, Is n T L → (∀ r ∈ m, Row n r) → ∃ L', Is n (m.foldl ladd1 T) L' ∧ Same (rows L') (rows L ++ m.map toV) := by
  induction m with
  | nil => intro T L h _; exact ⟨L, h, by simp; exact Same.refl _⟩
  | cons v m ih =>
    intro T L h hm
    have hv := hm v (by simp)
    have hm' : ∀ r ∈ m, Row n r := fun r hr => hm r (by simp [hr])
    rcases ladd1_is h hv with ⟨hin, he⟩ | ⟨_, L1, h1, _, hs⟩
    · obtain ⟨L', h', s'⟩ := ih h hm'
      refine ⟨L', by rw [List.foldl_cons, he]; exact h', s'.trans ⟨fun a ha => In.mem (by simp at ha ⊢; rcases ha with h | h <;> simp [h]), fun b hb => ?_⟩⟩
      simp only [List.map_cons, List.mem_append, List.mem_cons] at hb
      rcases hb with hb | rfl | hb
      · exact In.mem (by simp [hb])
      · exact hin.mono fun a ha => by simp [ha]
      · exact In.mem (List.mem_append.2 (.inr hb))
    · obtain ⟨L', h', s'⟩ := ih h1 hm'
      refine ⟨L', by rw [List.foldl_cons]; exact h', s'.trans ⟨fun a ha => ?_, fun b hb => ?_⟩⟩
      · rcases List.mem_append.1 ha with ha | ha
        · exact (hs.1 a ha).mono fun c hc => by
            rcases List.mem_cons.1 hc with rfl | hc
            · simp
            · simp [hc]
        · exact In.mem (List.mem_append.2 (.inr (by simp only [List.map_cons]; exact List.mem_cons_of_mem _ ha)))
      · simp only [List.map_cons, List.mem_append, List.mem_cons] at hb
        rcases hb with hb | rfl | hb
        · exact (hs.2 b (by simp [hb])).mono fun c hc => by simp [hc]
        · exact (hs.2 (toV v) (by simp)).mono fun c hc => by simp [hc]
        · exact In.mem (List.mem_append.2 (.inr hb))
theorem ltidy_is {n : Nat} {m : List (List Int)} (hm : ∀ r ∈ m, Row n r) : ∃ L, Is n (ltidy m) L ∧ Same (rows L) (m.map toV) := by
  obtain ⟨L, h, s⟩ := fold_tidy (Is.nil n) hm
  exact ⟨L, h, by simpa [rows] using s⟩
theorem map_inj {n : Nat} : ∀ {T U : List (List Int)}, (∀ r ∈ T, Row n r) → (∀ r ∈ U, Row n r) → T.map toV = U.map toV → T = U := by
  intro T
  induction T with
  | nil =>
    intro U _ _ h
    have e0 : U = [] := by simpa using h.symm
    exact e0.symm
  | cons r T ih =>
    intro U hT hU h
    match U, h with
    | s :: U, h =>
      simp only [List.map_cons, List.cons.injEq] at h
      rw [toV_inj (hT r (by simp)) (hU s (by simp)) h.1, ih (fun x hx => hT x (by simp [hx])) (fun x hx => hU x (by simp [hx])) h.2]
theorem is_one {n : Nat} {T U : List (List Int)} {L M : List (Nat × V)} (h : Is n T L) (k : Is n U M) (s : Same (rows L) (rows M)) : T = U := by
  have e := tidy_one h.tidy k.tidy s
  subst e
  exact map_inj h.row k.row (h.same.trans k.same.symm)
def Made (m : List (List Int)) (v : List Int) : Prop := In (m.map toV) (toV v)
theorem made_iff {n : Nat} {m : List (List Int)} {v : List Int} (hm : ∀ r ∈ m, Row n r) (hv : Row n v) : Made m v ↔ (ladd1 (ltidy m) v).length = (ltidy m).length := by
  obtain ⟨L, h, s⟩ := ltidy_is hm
  have hs : Made m v ↔ In (rows L) (toV v) := (s.iff (toV v)).symm
  rw [hs]
  rcases ladd1_is h hv with ⟨hin, he⟩ | ⟨hno, L', h', hlen, _⟩
  · simp [hin, he]
  · have h1 := h.length
    have h2 := h'.length
    constructor
    · intro k; exact absurd k hno
    · intro k; omega
theorem ltidy_same {n : Nat} {a b : List (List Int)} (ha : ∀ r ∈ a, Row n r) (hb : ∀ r ∈ b, Row n r) : ltidy a = ltidy b ↔ Same (a.map toV) (b.map toV) := by
  obtain ⟨L, h, s⟩ := ltidy_is ha
  obtain ⟨M, k, t⟩ := ltidy_is hb
  constructor
  · intro e
    have hs : rows L = rows M := by rw [← h.same, ← k.same, e]
    rw [hs] at s
    exact s.symm.trans t
  · intro e
    exact is_one h k (s.trans (e.trans t.symm))
end Go.Proofs.Ythglkgicckodaaa.Sp
namespace Go.Proofs.Ythglkgicckodaaa.Sp
set_option linter.unusedVariables false
theorem comb_one_way {A : List V} {b : Nat → Bool} (h : ∀ i (hi : i < A.length), b i = true → ¬ In (A.take i) A[i]) {e : Nat → F}
    (hz : ∀ i, i < A.length → b i = false → e i = 0) (h0 : ∀ j, comb e A j = 0) : ∀ i, i < A.length → e i = 0 := by
  have key : ∀ t, ∀ i, A.length ≤ i + t → i < A.length → e i = 0 := by
    intro t
    induction t with
    | zero => intro i h1 h2; omega
    | succ t ih =>
      intro i h1 h2
      cases hb : b i with
      | false => exact hz i h2 hb
      | true =>
        refine Classical.byContradiction fun hne => h i h2 hb ?_
        have hs : ∀ j, comb e A j = comb e (A.take i) j + e i * A[i] j := by
          intro j
          conv => lhs; rw [← List.take_append_drop i A]
          rw [comb_append, List.drop_eq_getElem_cons h2, comb_cons]
          have hl : (A.take i).length = i := by rw [List.length_take]; omega
          rw [hl, comb_congr _ j (fun k => (fun k => e (k + i)) (k + 1)) (fun _ => 0), comb_zero]
          · simp only [Nat.zero_add]; grind
          · intro k hk
            have hk' : k < A.length - (i + 1) := by simpa using hk
            exact ih (k + 1 + i) (by omega) (by omega)
        have hinv : ∃ c : F, e i * c = 1 := by
          have : ∀ a : F, a ≠ 0 → ∃ c : F, a * c = 1 := by decide
          exact this _ hne
        obtain ⟨c, hc⟩ := hinv
        refine ⟨fun k => (-c) * e k, fun j => ?_⟩
        rw [comb_mul]
        have h1 := hs j
        rw [h0 j] at h1
        grind
  intro i hi
  exact key A.length i (by omega) hi
theorem comb_way {A : List V} {b : Nat → Bool} (h : ∀ i (hi : i < A.length), b i = true → ¬ In (A.take i) A[i]) {c d : Nat → F}
    (hc : ∀ i, i < A.length → b i = false → c i = 0) (hd : ∀ i, i < A.length → b i = false → d i = 0) (he : ∀ j, comb c A j = comb d A j) : ∀ i, i < A.length → c i = d i := by
  intro i hi
  have h0 := comb_one_way h (e := fun k => c k + (-1) * d k) (fun k hk hb => by rw [hc k hk hb, hd k hk hb]; grind) (fun j => by
    rw [comb_add, comb_mul, he]; grind) i hi
  grind
theorem up_len : ∀ {l : List Nat} {n : Nat}, l.Pairwise (· < ·) → (∀ x ∈ l, x < n) → l.length ≤ n := by
  intro l
  have key : ∀ (l : List Nat) (lo n : Nat), l.Pairwise (· < ·) → (∀ x ∈ l, lo ≤ x ∧ x < n) → l.length ≤ n - lo := by
    intro l
    induction l with
    | nil => intro lo n _ _; simp
    | cons x l ih =>
      intro lo n h hx
      have h' := List.pairwise_cons.1 h
      have := ih (x + 1) n h'.2 (fun y hy => ⟨h'.1 y hy, (hx y (by simp [hy])).2⟩)
      have := hx x (by simp)
      simp only [List.length_cons]; omega
  intro n h hx
  have := key l 0 n h (fun x hxl => ⟨Nat.zero_le _, hx x hxl⟩)
  omega
theorem Is.len_le {n : Nat} {T : List (List Int)} {L : List (Nat × V)} (h : Is n T L) : T.length ≤ n := by
  have hl : ∀ p ∈ L.map Prod.fst, p < n := by
    intro p hp
    obtain ⟨x, hx, rfl⟩ := List.mem_map.1 hp
    have hm : x.2 ∈ T.map toV := by rw [h.same]; exact List.mem_map.2 ⟨x, hx, rfl⟩
    obtain ⟨r, hr, e⟩ := List.mem_map.1 hm
    rcases Nat.lt_or_ge x.1 n with h1 | h1
    · exact h1
    · have h2 := toV_out (h.row r hr) h1
      rw [e, h.tidy.one x hx] at h2
      exact absurd h2 (by decide)
  have := up_len (List.pairwise_map.2 h.tidy.up) hl
  rw [h.length]; simpa using this
theorem ltidy_snoc (m : List (List Int)) (v : List Int) : ltidy (m ++ [v]) = ladd1 (ltidy m) v := by simp [ltidy]
theorem ltidy_more {n : Nat} {m : List (List Int)} {v : List Int} (hm : ∀ r ∈ m, Row n r) (hv : Row n v) :
    (Made m v ∧ (ltidy (m ++ [v])).length = (ltidy m).length) ∨ (¬ Made m v ∧ (ltidy (m ++ [v])).length = (ltidy m).length + 1) := by
  rw [ltidy_snoc]
  obtain ⟨L, h, s⟩ := ltidy_is hm
  have hs : Made m v ↔ In (rows L) (toV v) := (s.iff (toV v)).symm
  rcases ladd1_is h hv with ⟨hin, he⟩ | ⟨hno, L', h', hlen, _⟩
  · exact .inl ⟨hs.2 hin, by rw [he]⟩
  · exact .inr ⟨fun k => hno (hs.1 k), by rw [h'.length, h.length, hlen]⟩
def firsts (has : List (List Int) → List Int → Bool) (m : List (List Int)) : List Nat := (List.range m.length).filter fun i => !has (m.take i) (m.getD i [])
theorem firsts_snoc (has : List (List Int) → List Int → Bool) (m : List (List Int)) (v : List Int) : firsts has (m ++ [v]) = firsts has m ++ (if has m v then [] else [m.length]) := by
  unfold firsts
  rw [List.length_append, List.length_singleton, List.range_succ, List.filter_append]
  congr 1
  · refine List.filter_congr fun i hi => ?_
    have hi' : i < m.length := by simpa using hi
    rw [List.take_append_of_le_length (by omega), List.getD_eq_getElem?_getD, List.getElem?_append_left hi', ← List.getD_eq_getElem?_getD]
  · simp only [List.filter_cons, List.filter_nil, List.take_left', List.getD_eq_getElem?_getD]
    simp
    cases has m v <;> simp
theorem ltidy_firsts {n : Nat} {has : List (List Int) → List Int → Bool} (hh : ∀ m v, (∀ r ∈ m, Row n r) → Row n v → (has m v = true ↔ Made m v)) :
    ∀ (k : Nat) {m : List (List Int)}, m.length = k → (∀ r ∈ m, Row n r) → (ltidy m).length = (firsts has m).length := by
  intro k
  induction k with
  | zero => intro m h _; have : m = [] := List.eq_nil_of_length_eq_zero h; subst this; rfl
  | succ k ih =>
    intro m h hm
    have hne : m ≠ [] := by intro e; rw [e] at h; simp at h
    have e := List.dropLast_concat_getLast hne
    generalize hv : m.getLast hne = v at e
    generalize hq : m.dropLast = q at e
    subst e
    have hq1 : ∀ r ∈ q, Row n r := fun r hr => hm r (by simp [hr])
    have hv1 : Row n v := hm v (by simp)
    have ih' := ih (m := q) (by simp at h; exact h) hq1
    rw [firsts_snoc, List.length_append]
    rcases ltidy_more hq1 hv1 with ⟨h1, h2⟩ | ⟨h1, h2⟩
    · rw [h2, ih', (hh q v hq1 hv1).2 h1]; simp
    · have : has q v = false := by
        rw [← Bool.not_eq_true]; intro k; exact h1 ((hh q v hq1 hv1).1 k)
      rw [h2, ih', this]; simp
end Go.Proofs.Ythglkgicckodaaa.Sp
namespace Go.Proofs.Ythglkgicckodaaa.Sp
set_option linter.unusedVariables false
def left (v : V) : V := fun j => if j < 4 then v j else 0
theorem left_lt (v : V) {j : Nat} (h : j < 4) : left v j = v j := by simp [left, h]
theorem left_ge (v : V) {j : Nat} (h : 4 ≤ j) : left v j = 0 := by simp [left, show ¬ j < 4 by omega]
theorem comb_left (A : List V) (c : Nat → F) (j : Nat) : comb c (A.map left) j = left (comb c A) j := by
  induction A generalizing c with
  | nil => simp [comb, left]
  | cons a A ih =>
    rw [List.map_cons, comb_cons, ih]
    by_cases hj : j < 4
    · rw [left_lt _ hj, left_lt _ hj, left_lt _ hj, comb_cons]
    · rw [left_ge _ (by omega), left_ge _ (by omega), left_ge _ (by omega)]; grind
theorem comb_only (A : List V) (q : Nat) : ∀ (f : Nat → F) (j : Nat) (h : j < A.length), (∀ i (hi : i < A.length), i ≠ j → A[i] q = 0) → comb f A q = f j * A[j] q := by
  induction A with
  | nil => intro f j h; simp at h
  | cons a A ih =>
    intro f j h hz
    rw [comb_cons]
    cases j with
    | zero =>
      rw [comb_at_zero A q _ (fun b hb => by
        obtain ⟨i, hi, rfl⟩ := List.getElem_of_mem hb
        exact hz (i + 1) (by simpa using hi) (by omega))]
      simp only [List.getElem_cons_zero]; grind
    | succ j =>
      rw [ih (fun i => f (i + 1)) j (by simpa using h) (fun i hi hne => hz (i + 1) (by simpa using hi) (by omega))]
      have h0 : a q = 0 := hz 0 (by simp) (by omega)
      simp only [List.getElem_cons_succ]
      rw [h0]; grind
theorem comb_each (A : List V) (c : Nat) : ∀ (f : Nat → F), (∀ i (hi : i < A.length), f i * A[i] c = 0) → comb f A c = 0 := by
  induction A with
  | nil => intro f _; rfl
  | cons a A ih =>
    intro f h
    rw [comb_cons, ih (fun i => f (i + 1)) (fun i hi => h (i + 1) (by simpa using hi))]
    have h0 : f 0 * a c = 0 := h 0 (by simp)
    rw [h0]; grind
def rl (k : Nat) (R : Nat → V) : List V := (List.range k).map R
structure Elim (k : Nat) (M : List V) (v : V) (at_ : Nat) (R : Nat → V) (s : V) : Prop where
  rel : ∀ j, j < k → ∀ c, c < 4 → R j c = comb (fun i => R j (4 + i)) M c
  srel : ∀ c, c < 4 → s c = v c + comb (fun i => s (4 + i)) M c
  piv : ∀ q, q < at_ → ∀ j, j < k → Lead (R j) q → (∀ i, i < k → i ≠ j → R i q = 0) ∧ s q = 0
  back : ∀ a ∈ M, In ((rl k R).map left) (left a)
theorem Elim.skip {k : Nat} {M : List V} {v : V} {p : Nat} {R : Nat → V} {s : V} (h : Elim k M v p R s) (hn : ∀ j, j < k → ¬ Lead (R j) p) : Elim k M v (p + 1) R s := by
  refine ⟨h.rel, h.srel, fun q hq j hj hl => ?_, h.back⟩
  by_cases e : q = p
  · subst e; exact absurd hl (hn j hj)
  · exact h.piv q (by omega) j hj hl
theorem Elim.step {k : Nat} {M : List V} {v : V} {p : Nat} {R R' : Nat → V} {s s' : V} (h : Elim k M v p R s) {i : Nat} (hi : i < k) (hl : Lead (R i) p) {c : F} (hc : R i p * c = 1)
    (hi' : ∀ j, R' i j = R i j) (hR : ∀ n, n < k → n ≠ i → ∀ j, R' n j = R n j - R n p * c * R i j) (hs : ∀ j, s' j = s j - s p * c * R i j) : Elim k M v (p + 1) R' s' := by
  have hlin : ∀ (x y : Nat → F) (a : F) (j : Nat), comb (fun n => x n - a * y n) M j = comb x M j - a * comb y M j := by
    intro x y a j
    have e : (fun n => x n - a * y n) = fun n => x n + (-a) * y n := by funext n; grind
    rw [e, comb_add, comb_mul]; grind
  refine ⟨?_, ?_, ?_, ?_⟩
  · intro n hn j hj
    by_cases e : n = i
    · subst e
      rw [hi', h.rel n hn j hj]
      exact comb_congr _ _ _ _ fun m _ => (hi' _).symm
    · rw [hR n hn e, h.rel n hn j hj, h.rel i hi j hj, ← hlin]
      exact comb_congr _ _ _ _ fun m _ => (hR n hn e _).symm
  · intro j hj
    rw [hs, h.srel j hj, h.rel i hi j hj]
    have : comb (fun m => s' (4 + m)) M j = comb (fun m => s (4 + m)) M j - s p * c * comb (fun m => R i (4 + m)) M j := by
      rw [← hlin]
      exact comb_congr _ _ _ _ fun m _ => hs _
    rw [this]; grind
  · intro q hq j hj hlq
    by_cases e : q = p
    · subst e
      have hji : j = i := by
        refine Classical.byContradiction fun hne => hlq.1 ?_
        rw [hR j hj hne]; grind
      subst hji
      refine ⟨fun n hn hne => ?_, ?_⟩
      · rw [hR n hn hne]; grind
      · rw [hs]; grind
    · have hqp : q < p := by omega
      have hz : ∀ m, m ≤ q → R i m = 0 := fun m hm => hl.2 m (by omega)
      have hsame : ∀ n, n < k → ∀ m, m ≤ q → R' n m = R n m := by
        intro n hn m hm
        by_cases e' : n = i
        · subst e'; exact hi' m
        · rw [hR n hn e', hz m hm]; grind
      have hlq' : Lead (R j) q := ⟨by rw [← hsame j hj q (Nat.le_refl _)]; exact hlq.1, fun m hm => by rw [← hsame j hj m (by omega)]; exact hlq.2 m hm⟩
      obtain ⟨g1, g2⟩ := h.piv q hqp j hj hlq'
      refine ⟨fun n hn hne => by rw [hsame n hn q (Nat.le_refl _)]; exact g1 n hn hne, ?_⟩
      rw [hs, hz q (Nat.le_refl _), g2]; grind
  · intro a ha
    refine (h.back a ha).trans fun b hb => ?_
    obtain ⟨b', hb', rfl⟩ := List.mem_map.1 hb
    obtain ⟨n, hn, rfl⟩ := List.mem_map.1 hb'
    have hn' : n < k := by simpa using hn
    have hmem : ∀ m, m < k → In ((rl k R').map left) (left (R' m)) := fun m hm => In.mem (List.mem_map.2 ⟨R' m, List.mem_map.2 ⟨m, by simpa using hm, rfl⟩, rfl⟩)
    by_cases e : n = i
    · subst e
      exact (hmem n hn').eq fun j => by
        by_cases hj : j < 4
        · rw [left_lt _ hj, left_lt _ hj, hi']
        · rw [left_ge _ (by omega), left_ge _ (by omega)]
    · refine ((hmem n hn').add ((hmem i hi).mul (R n p * c))).eq fun j => ?_
      by_cases hj : j < 4
      · rw [left_lt _ hj, left_lt _ hj, left_lt _ hj, hi', hR n hn' e]; grind
      · rw [left_ge _ (by omega), left_ge _ (by omega), left_ge _ (by omega)]; grind
theorem Elim.yes {k : Nat} {M : List V} {v : V} {p : Nat} {R : Nat → V} {s : V} (h : Elim k M v p R s) (hz : ∀ c, c < 4 → s c = 0) : ∀ c, c < 4 → v c = comb (fun i => -(s (4 + i))) M c := by
  intro c hc
  have h1 := h.srel c hc
  rw [hz c hc] at h1
  have e : (fun i => -(s (4 + i))) = fun i => (-1) * s (4 + i) := by funext i; grind
  rw [e, comb_mul]; grind
theorem Elim.no {k : Nat} {M : List V} {v : V} {R : Nat → V} {s : V} (h : Elim k M v 4 R s) (hv : In (M.map left) (left v)) : ∀ c, c < 4 → s c = 0 := by
  have hs : In (M.map left) (left s) := by
    have h1 : In (M.map left) (comb (fun i => s (4 + i)) (M.map left)) := ⟨_, fun _ => rfl⟩
    refine (hv.add h1).eq fun j => ?_
    rw [comb_left]
    by_cases hj : j < 4
    · rw [left_lt _ hj, left_lt _ hj, left_lt _ hj]; exact h.srel j hj
    · rw [left_ge _ (by omega), left_ge _ (by omega), left_ge _ (by omega)]; grind
  have hs' : In ((rl k R).map left) (left s) := hs.trans fun a ha => by
    obtain ⟨b, hb, rfl⟩ := List.mem_map.1 ha
    exact h.back b hb
  obtain ⟨f, hf⟩ := hs'
  have hlen : ((rl k R).map left).length = k := by simp [rl]
  have hget : ∀ i (hi : i < ((rl k R).map left).length), ((rl k R).map left)[i] = left (R i) := by intro i hi; simp [rl]
  intro c hc
  rw [← left_lt s hc, hf]
  refine comb_each _ _ _ fun i hi => ?_
  have hik : i < k := by omega
  rw [hget]
  by_cases hz : ∀ j, j < 4 → R i j = 0
  · rw [left_lt _ hc, hz c hc]; grind
  · -- the row begins ahead of 4
    have hex : ∃ q, q < 4 ∧ Lead (R i) q := by
      have : ∀ m, m ≤ 4 → (∃ q, q < m ∧ R i q ≠ 0) → ∃ q, q < m ∧ Lead (R i) q := by
        intro m
        induction m with
        | zero => rintro _ ⟨q, hq, _⟩; omega
        | succ m ih =>
          rintro hm ⟨q, hq, hne⟩
          rcases Classical.em (∃ q, q < m ∧ R i q ≠ 0) with hh | hh
          · obtain ⟨r, hr, hl⟩ := ih (by omega) hh; exact ⟨r, by omega, hl⟩
          · have : q = m := by
              rcases Nat.lt_or_ge q m with hlt | hge
              · exact absurd ⟨q, hlt, hne⟩ hh
              · omega
            subst this
            exact ⟨q, by omega, hne, fun j hj => Classical.byContradiction fun hj' => hh ⟨j, hj, hj'⟩⟩
      refine this 4 (Nat.le_refl _) ?_
      rcases Classical.em (∃ q, q < 4 ∧ R i q ≠ 0) with hh | hh
      · exact hh
      · exact absurd (fun j hj => Classical.byContradiction fun hj' => hh ⟨j, hj, hj'⟩) hz
    obtain ⟨q, hq, hl⟩ := hex
    obtain ⟨g1, g2⟩ := h.piv q hq i hik hl
    have h1 := hf q
    rw [left_lt _ hq, g2, comb_only _ q f i hi (fun n hn hne => by rw [hget, left_lt _ hq]; exact g1 n (by omega) hne), hget, left_lt _ hq] at h1
    rcases mul_none _ _ h1.symm with h2 | h2
    · rw [h2]; grind
    · exact absurd h2 hl.1
end Go.Proofs.Ythglkgicckodaaa.Sp
namespace Go.Proofs.Ythglkgicckodaaa.Sp
set_option linter.unusedVariables false
def has (m : List (List Int)) (v : List Int) : Bool := decide ((ladd1 (ltidy m) v).length = (ltidy m).length)
theorem has_iff {n : Nat} {m : List (List Int)} {v : List Int} (hm : ∀ r ∈ m, Row n r) (hv : Row n v) : has m v = true ↔ Made m v := by
  unfold has; rw [decide_eq_true_iff]; exact (made_iff hm hv).symm
theorem first_neg {n : Nat} {l : List Int} (h : Row n l) : Vec.first l 0 < 0 ↔ ∀ j, toV l j = 0 := by
  rcases lead_or h with hz | ⟨p, _, hl⟩
  · rw [first_none h hz]; exact ⟨fun _ => hz, fun _ => by omega⟩
  · rw [first_lead h hl]; exact ⟨fun k => by omega, fun k => absurd (k p) hl.1⟩
structure Off (A : List V) (b : Nat → Bool) (v x : V) : Prop where
  rel : ∀ c, c < 4 → x c = v c + comb (fun i => x (4 + i)) A c
  zero : ∀ i, b i = false → x (4 + i) = 0
theorem Off.sub {A : List V} {b : Nat → Bool} {v x y : V} (h : Off A b v x) (k : Off A b (fun _ => 0) y) (a : F) : Off A b v (fun j => x j - a * y j) := by
  refine ⟨fun c hc => ?_, fun i hi => ?_⟩
  · have e : (fun i => x (4 + i) - a * y (4 + i)) = fun i => x (4 + i) + (-a) * y (4 + i) := by funext i; grind
    show x c - a * y c = v c + comb (fun i => x (4 + i) - a * y (4 + i)) A c
    rw [e, comb_add, comb_mul, h.rel c hc, k.rel c hc]; grind
  · show x (4 + i) - a * y (4 + i) = 0
    rw [h.zero i hi, k.zero i hi]; grind
theorem Off.mul {A : List V} {b : Nat → Bool} {y : V} (k : Off A b (fun _ => 0) y) (a : F) : Off A b (fun _ => 0) (fun j => a * y j) := by
  refine ⟨fun c hc => ?_, fun i hi => ?_⟩
  · show a * y c = 0 + comb (fun i => a * y (4 + i)) A c
    rw [comb_mul, k.rel c hc]; grind
  · show a * y (4 + i) = 0
    rw [k.zero i hi]; grind
theorem Off.mono {A : List V} {b b' : Nat → Bool} {v x : V} (h : Off A b v x) (hb : ∀ i, b' i = false → b i = false) : Off A b' v x := ⟨h.rel, fun i hi => h.zero i (hb i hi)⟩
theorem Off.eq {A : List V} {b : Nat → Bool} {v x y : V} (h : Off A b v x) (e : y = x) : Off A b v y := e ▸ h
theorem Off.vred {A : List V} {b : Nat → Bool} {v : V} {L : List (Nat × V)} : (∀ x ∈ L, Off A b (fun _ => 0) x.2) → ∀ {u : V}, Off A b v u → Off A b v (vred L u) := by
  induction L with
  | nil => intro _ u h; exact h
  | cons x L ih =>
    intro hL u h
    rw [vred_cons]
    exact ih (fun y hy => hL y (by simp [hy])) (h.sub (hL x (by simp)) (u x.1))
def lclear (p : Nat) (a b : List Int) : List Int := ladd a (lmul b (-(a.getD p 0) % 31))
theorem row_lclear {n p : Nat} {a b : List Int} (ha : Row n a) (hb : Row n b) : Row n (lclear p a b) := row_ladd ha (row_lmul hb _)
theorem toF_neg' (x : Int) : toF (-x % 31) = - toF x := by
  have h : toF (-x % 31) + toF x = 0 := by
    rw [← toF_add, ← toF_zero]
    exact toF_eq (by omega)
  grind
theorem toV_lclear {n p : Nat} {a b : List Int} (ha : Row n a) (hb : Row n b) : toV (lclear p a b) = fun j => toV a j - toV a p * toV b j := by
  funext j
  unfold lclear
  rw [toV_ladd ha (row_lmul hb _), toV_lmul hb, toF_neg']
  show toV a j + toV b j * -(toV a p) = _
  grind
abbrev Cols := Nat → Option (List Int)
def colL (S : Cols) : List (Nat × V) := (List.range 4).filterMap fun j => (S j).map fun l => (j, toV l)
def cut (S : Cols) (a : List Int) (j : Nat) : List Int := match S j with
  | none => a
  | some l => lclear j a l
def red (S : Cols) (k : Nat) (a : List Int) : List Int := (List.range k).foldl (cut S) a
theorem red_none {S : Cols} {k : Nat} (h : S k = none) (a : List Int) : red S (k + 1) a = red S k a := by
  unfold red; rw [List.range_succ, List.foldl_append]; simp [cut, h]
theorem red_some {S : Cols} {k : Nat} {l : List Int} (h : S k = some l) (a : List Int) : red S (k + 1) a = lclear k (red S k a) l := by
  unfold red; rw [List.range_succ, List.foldl_append]; simp [cut, h]
theorem fold_cut {S : Cols} (hS : ∀ j l, S j = some l → Row 12 l) : ∀ (js : List Nat) {a : List Int}, Row 12 a →
    Row 12 (js.foldl (cut S) a) ∧ toV (js.foldl (cut S) a) = vred (js.filterMap fun j => (S j).map fun l => (j, toV l)) (toV a) := by
  intro js
  induction js with
  | nil => intro a ha; exact ⟨ha, rfl⟩
  | cons j js ih =>
    intro a ha
    rw [List.foldl_cons]
    cases hj : S j with
    | none =>
      have e : cut S a j = a := by simp [cut, hj]
      rw [e, List.filterMap_cons_none (by simp [hj])]
      exact ih ha
    | some l =>
      have e : cut S a j = lclear j a l := by simp [cut, hj]
      rw [e, List.filterMap_cons_some (b := (j, toV l)) (by simp [hj]), vred_cons]
      obtain ⟨h1, h2⟩ := ih (row_lclear (p := j) ha (hS j l hj))
      exact ⟨h1, by rw [h2, toV_lclear ha (hS j l hj)]⟩
theorem red_is {S : Cols} (hS : ∀ j l, S j = some l → Row 12 l) {a : List Int} (ha : Row 12 a) : Row 12 (red S 4 a) ∧ toV (red S 4 a) = vred (colL S) (toV a) := fold_cut hS _ ha
theorem red_row {S : Cols} (hS : ∀ j l, S j = some l → Row 12 l) {a : List Int} (ha : Row 12 a) (k : Nat) : Row 12 (red S k a) := (fold_cut hS _ ha).1
theorem mem_colL {S : Cols} {x : Nat × V} : x ∈ colL S ↔ ∃ j l, j < 4 ∧ S j = some l ∧ x = (j, toV l) := by
  unfold colL
  rw [List.mem_filterMap]
  constructor
  · rintro ⟨j, hj, h⟩
    cases hs : S j with
    | none => rw [hs] at h; cases h
    | some l =>
      rw [hs] at h
      injection h with h
      exact ⟨j, l, List.mem_range.1 hj, hs, h.symm⟩
  · rintro ⟨j, l, hj, hs, rfl⟩
    exact ⟨j, List.mem_range.2 hj, by rw [hs]; rfl⟩
def insS (S : Cols) (p : Nat) (v : List Int) : Cols := fun j => if j = p then some v else (S j).map fun l => lclear p l v
theorem insS_L {S : Cols} {p : Nat} {v : List Int} (hS : ∀ j l, S j = some l → Row 12 l) (hv : Row 12 v) (hp : p < 4) (h0 : S p = none) : colL (insS S p v) = vins p (toV v) (colL S) := by
  have key : ∀ j l, S j = some l → toV (lclear p l v) = fun i => toV l i - toV l p * toV v i := fun j l h => toV_lclear (hS j l h) hv
  have r4 : List.range 4 = [0, 1, 2, 3] := rfl
  unfold colL insS
  rw [r4]
  have hp' : p = 0 ∨ p = 1 ∨ p = 2 ∨ p = 3 := by omega
  rcases hp' with rfl | rfl | rfl | rfl
  · cases h1 : S 1 <;> cases h2 : S 2 <;> cases h3 : S 3 <;> (try have k1 := key 1 _ h1) <;> (try have k2 := key 2 _ h2) <;> (try have k3 := key 3 _ h3) <;> clear key hS <;> simp_all [vins]
  · cases h1 : S 0 <;> cases h2 : S 2 <;> cases h3 : S 3 <;> (try have k1 := key 0 _ h1) <;> (try have k2 := key 2 _ h2) <;> (try have k3 := key 3 _ h3) <;> clear key hS <;> simp_all [vins]
  · cases h1 : S 0 <;> cases h2 : S 1 <;> cases h3 : S 3 <;> (try have k1 := key 0 _ h1) <;> (try have k2 := key 1 _ h2) <;> (try have k3 := key 3 _ h3) <;> clear key hS <;> simp_all [vins]
  · cases h1 : S 0 <;> cases h2 : S 1 <;> cases h3 : S 2 <;> (try have k1 := key 0 _ h1) <;> (try have k2 := key 1 _ h2) <;> (try have k3 := key 2 _ h3) <;> clear key hS <;> simp_all [vins]
theorem left_sub (u v : V) (a : F) : left (fun j => u j - a * v j) = fun j => left u j - a * left v j := by
  funext j; unfold left; split
  · rfl
  · grind
theorem left_vred {L : List (Nat × V)} : (∀ x ∈ L, x.1 < 4) → ∀ u, left (vred L u) = vred (L.map fun x => (x.1, left x.2)) (left u) := by
  induction L with
  | nil => intro _ u; rfl
  | cons x L ih =>
    intro h u
    rw [vred_cons, ih (fun y hy => h y (by simp [hy])), List.map_cons, vred_cons, left_sub, left_lt u (h x (by simp))]
theorem left_tidy {L : List (Nat × V)} (h : Tidy L) (hc : ∀ x ∈ L, x.1 < 4) : Tidy (L.map fun x => (x.1, left x.2)) := by
  refine ⟨?_, ?_, ?_, ?_⟩
  · rw [List.pairwise_map]; exact h.up
  · intro x hx
    obtain ⟨y, hy, rfl⟩ := List.mem_map.1 hx
    show left y.2 y.1 = 1
    rw [left_lt _ (hc y hy)]; exact h.one y hy
  · intro x hx j hj
    obtain ⟨y, hy, rfl⟩ := List.mem_map.1 hx
    have hj' : j < y.1 := hj
    show left y.2 j = 0
    rw [left_lt _ (by have := hc y hy; omega)]; exact h.ahead y hy j hj'
  · intro x hx z hz hne
    obtain ⟨y, hy, rfl⟩ := List.mem_map.1 hx
    obtain ⟨t, ht, rfl⟩ := List.mem_map.1 hz
    show left t.2 y.1 = 0
    rw [left_lt _ (hc y hy)]; exact h.others y hy t ht hne
theorem left_toV {l : List Int} (h : Row 12 l) : toV (l.take 4) = left (toV l) := by
  funext j
  unfold left toV
  split
  · rename_i hj
    rw [List.getD_eq_getElem?_getD, List.getElem?_take, if_pos hj, ← List.getD_eq_getElem?_getD]
  · rename_i hj
    rw [List.getD_eq_getElem?_getD, List.getElem?_take, if_neg hj]; rfl
theorem left_row {l : List Int} (h : Row 4 l) : left (toV l) = toV l := by
  funext j
  unfold left
  split
  · rfl
  · rename_i hj; exact (toV_out h (by omega)).symm
theorem row_take {l : List Int} (h : Row 12 l) : Row 4 (l.take 4) := ⟨by rw [List.length_take, h.1]; rfl, fun x hx => h.2 x (List.mem_of_mem_take hx)⟩
theorem row_join {a b : List Int} {k n : Nat} (ha : Row k a) (hb : Row n b) : Row (k + n) (a ++ b) := ⟨by rw [List.length_append, ha.1, hb.1], fun x hx => by
  rcases List.mem_append.1 hx with h | h
  · exact ha.2 x h
  · exact hb.2 x h⟩
theorem toV_left {a b : List Int} (ha : Row 4 a) {j : Nat} (hj : j < 4) : toV (a ++ b) j = toV a j := by
  unfold toV
  rw [List.getD_eq_getElem?_getD, List.getElem?_append_left (by rw [ha.1]; exact hj), ← List.getD_eq_getElem?_getD]
theorem toV_right {a b : List Int} (ha : Row 4 a) (i : Nat) : toV (a ++ b) (4 + i) = toV b i := by
  unfold toV
  rw [List.getD_eq_getElem?_getD, List.getElem?_append_right (by rw [ha.1]; omega), ha.1, show 4 + i - 4 = i by omega, ← List.getD_eq_getElem?_getD]
def none8 : List Int := List.replicate 8 0
theorem row_none8 : Row 8 none8 := ⟨by simp [none8], fun x hx => by rw [List.eq_of_mem_replicate hx]; rfl⟩
theorem row_one8 (n : Nat) : Row 8 (none8.set n 1) := ⟨by simp [none8], fun x hx => by
  rcases List.mem_or_eq_of_mem_set hx with h | rfl
  · exact row_none8.2 x h
  · rfl⟩
theorem toV_none8 (i : Nat) : toV none8 i = 0 := by
  unfold toV none8
  rw [List.getD_eq_getElem?_getD, List.getElem?_replicate]
  split <;> rfl
theorem toV_one8 {n : Nat} (hn : n < 8) (i : Nat) : toV (none8.set n 1) i = one n i := by
  unfold one
  by_cases h : i = n
  · subst h
    unfold toV
    rw [List.getD_eq_getElem?_getD, List.getElem?_set_self (by simp [none8]; exact hn), if_pos rfl]; rfl
  · rw [if_neg h, ← toV_none8 i]
    unfold toV
    rw [List.getD_eq_getElem?_getD, List.getElem?_set_ne (fun e => h e.symm), ← List.getD_eq_getElem?_getD]
structure Stand (m : List (List Int)) (n : Nat) (S : Cols) (ps : List Nat) : Prop where
  row : ∀ j l, S j = some l → Row 12 l
  tidy : Tidy (colL S)
  off : ∀ j l, j < 4 → S j = some l → Off (m.map toV) (fun i => decide (i ∈ ps)) (fun _ => 0) (toV l)
  same : Same ((rows (colL S)).map left) ((m.take n).map toV)
  first : ps = firsts has (m.take n)
theorem Stand.col {m : List (List Int)} {n : Nat} {S : Cols} {ps : List Nat} (h : Stand m n S ps) : ∀ x ∈ colL S, x.1 < 4 := by
  intro x hx
  obtain ⟨j, l, hj, _, rfl⟩ := mem_colL.1 hx
  exact hj
theorem Stand.offL {m : List (List Int)} {n : Nat} {S : Cols} {ps : List Nat} (h : Stand m n S ps) : ∀ x ∈ colL S, Off (m.map toV) (fun i => decide (i ∈ ps)) (fun _ => 0) x.2 := by
  intro x hx
  obtain ⟨j, l, hj, hs, rfl⟩ := mem_colL.1 hx
  exact h.off j l hj hs
theorem rows_left (L : List (Nat × V)) : rows (L.map fun x => (x.1, left x.2)) = (rows L).map left := by simp [rows, Function.comp_def]
theorem Stand.made {m : List (List Int)} {n : Nat} {S : Cols} {ps : List Nat} (h : Stand m n S ps) {u v : List Int} (hu : Row 12 u) (hv : Row 4 v) (e : left (toV u) = toV v) : Made (m.take n) v ↔ ∀ j, left (toV (red S 4 u)) j = 0 := by
  have h1 := in_iff_red (left_tidy h.tidy h.col) (toV v)
  rw [rows_left] at h1
  unfold Made
  rw [← h.same.iff, h1, (red_is h.row hu).2, left_vred h.col, e]
theorem Stand.start (m : List (List Int)) : Stand m 0 (fun _ => none) [] := by
  refine ⟨fun j l h => (by cases h), ?_, fun j l _ h => (by cases h), ?_, ?_⟩
  · have e : colL (fun _ => none) = [] := by simp [colL]
    rw [e]; exact Tidy.nil
  · have e : colL (fun _ => none) = [] := by simp [colL]
    rw [e]; exact Same.refl _
  · rfl
theorem take_more (m : List (List Int)) {n : Nat} (hn : n < m.length) : m.take (n + 1) = m.take n ++ [m.getD n []] := by
  rw [List.take_succ_eq_append_getElem hn]; simp [List.getD_eq_getElem?_getD, hn]
theorem take_len (m : List (List Int)) {n : Nat} (hn : n < m.length) : (m.take n).length = n := by rw [List.length_take]; omega
def fresh (m : List (List Int)) (n : Nat) : List Int := m.getD n [] ++ none8.set n 1
theorem fresh_row {m : List (List Int)} (hm : ∀ r ∈ m, Row 4 r) {n : Nat} (hn : n < m.length) : Row 4 (m.getD n []) := by
  rw [List.getD_eq_getElem?_getD, List.getElem?_eq_getElem hn]; exact hm _ (List.getElem_mem hn)
theorem fresh_off {m : List (List Int)} (hm : ∀ r ∈ m, Row 4 r) {n : Nat} (hn : n < m.length) (h8 : m.length ≤ 8) (ps : List Nat) :
    Row 12 (fresh m n) ∧ left (toV (fresh m n)) = toV (m.getD n []) ∧ Off (m.map toV) (fun i => decide (i ∈ ps ++ [n])) (fun _ => 0) (toV (fresh m n)) := by
  have hr := fresh_row hm hn
  refine ⟨row_join hr (row_one8 n), ?_, ?_, ?_⟩
  · funext j
    unfold left
    split
    · rename_i hj; exact toV_left hr hj
    · rename_i hj; exact (toV_out hr (by omega)).symm
  · intro c hc
    have e : (fun i => toV (fresh m n) (4 + i)) = one n := by
      funext i
      exact (toV_right hr i).trans (toV_one8 (by omega) i)
    rw [e, comb_one _ n (by simpa using hn)]
    have : toV (fresh m n) c = toV (m.getD n []) c := toV_left hr hc
    rw [this]
    simp [List.getD_eq_getElem?_getD, hn]
  · intro i hi
    have hne : i ≠ n := by rintro rfl; simp at hi
    have : toV (fresh m n) (4 + i) = toV (none8.set n 1) i := toV_right hr i
    rw [this, toV_one8 (by omega)]
    simp [one, hne]
theorem first4 {l : List Int} (h : Row 12 l) : Vec.first (l.take 4) 0 < 0 ↔ ∀ j, left (toV l) j = 0 := by
  rw [first_neg (row_take h), left_toV h]
theorem Stand.skip {m : List (List Int)} {n : Nat} {S : Cols} {ps : List Nat} (h : Stand m n S ps) (hm : ∀ r ∈ m, Row 4 r) (hn : n < m.length) (h8 : m.length ≤ 8)
    (hz : Vec.first ((red S 4 (fresh m n)).take 4) 0 < 0) : Stand m (n + 1) S ps := by
  obtain ⟨h1, h2, h3⟩ := fresh_off hm hn h8 ps
  have hr := fresh_row hm hn
  have hmade := (h.made h1 hr h2).2 ((first4 (red_is h.row h1).1).1 hz)
  have hmt : ∀ r ∈ m.take n, Row 4 r := fun r k => hm r (List.mem_of_mem_take k)
  refine ⟨h.row, h.tidy, h.off, ?_, ?_⟩
  · rw [take_more m hn, List.map_append]
    refine h.same.trans ⟨fun a ha => In.mem (by simp only [List.mem_append]; exact .inl ha), fun b hb => ?_⟩
    rcases List.mem_append.1 hb with hb | hb
    · exact In.mem hb
    · simp at hb; subst hb; exact hmade
  · rw [take_more m hn, firsts_snoc, (has_iff hmt hr).2 hmade]
    simpa using h.first
theorem Stand.more {m : List (List Int)} {n : Nat} {S : Cols} {ps : List Nat} (h : Stand m n S ps) (hm : ∀ r ∈ m, Row 4 r) (hn : n < m.length) (h8 : m.length ≤ 8) {p : Nat}
    (hp : Vec.first ((red S 4 (fresh m n)).take 4) 0 = p) :
    p < 4 ∧ S p = none ∧ (red S 4 (fresh m n)).getD p 0 ≠ 0 ∧ Stand m (n + 1) (insS S p (lmul (red S 4 (fresh m n)) (Fld.inv ((red S 4 (fresh m n)).getD p 0)))) (ps ++ [n]) := by
  obtain ⟨h1, h2, h3⟩ := fresh_off hm hn h8 ps
  have hr := fresh_row hm hn
  have hmt : ∀ r ∈ m.take n, Row 4 r := fun r k => hm r (List.mem_of_mem_take k)
  have hred := red_is h.row h1
  obtain ⟨a, ha⟩ : ∃ a, red S 4 (fresh m n) = a := ⟨_, rfl⟩
  have hmade := h.made h1 hr h2
  rw [ha] at hp hred hmade ⊢
  have hlead : p < 4 ∧ Lead (toV (a.take 4)) p := by
    rcases lead_or (row_take hred.1) with hz | ⟨q, hq, hl⟩
    · rw [first_none (row_take hred.1) hz] at hp; omega
    · rw [first_lead (row_take hred.1) hl] at hp
      have : q = p := by omega
      subst this; exact ⟨hq, hl⟩
  obtain ⟨hp4, hl⟩ := hlead
  rw [left_toV hred.1] at hl
  have hla : Lead (toV a) p := ⟨by rw [← left_lt (toV a) hp4]; exact hl.1, fun j hj => by rw [← left_lt (toV a) (by omega)]; exact hl.2 j hj⟩
  have hne : a.getD p 0 ≠ 0 := fun e => hla.1 (by unfold toV; rw [e]; rfl)
  have hzero : ∀ x ∈ colL S, toV a x.1 = 0 := by rw [hred.2]; exact vred_zero h.tidy _
  have hsp : S p = none := by
    cases hs : S p with
    | none => rfl
    | some l => exact absurd (hzero (p, toV l) (mem_colL.2 ⟨p, l, hp4, hs, rfl⟩)) hla.1
  have hnot : ¬ Made (m.take n) (m.getD n []) := fun k => hl.1 (hmade.1 k p)
  obtain ⟨v, hv⟩ : ∃ v, lmul a (Fld.inv (a.getD p 0)) = v := ⟨_, rfl⟩
  have hvr : Row 12 v := hv ▸ row_lmul hred.1 _
  have hinv := toF_inv (hred.1.get p) hne
  have hvj : ∀ j, toV v j = toF (Fld.inv (a.getD p 0)) * toV a j := fun j => by rw [← hv, toV_lmul hred.1]; grind
  have hv1 : toV v p = 1 := by rw [hvj]; show _ * toF (a.getD p 0) = 1; grind
  have hvl : Lead (toV v) p := ⟨by rw [hv1]; decide, fun j hj => by rw [hvj, hla.2 j hj]; grind⟩
  have hvz : ∀ x ∈ colL S, toV v x.1 = 0 := fun x hx => by rw [hvj, hzero x hx]; grind
  rw [hv]
  refine ⟨hp4, hsp, hne, ?_, ?_, ?_, ?_, ?_⟩
  · intro j l hj
    unfold insS at hj
    split at hj
    · injection hj with e; subst e; exact hvr
    · cases hs : S j with
      | none => rw [hs] at hj; cases hj
      | some l' => rw [hs] at hj; injection hj with e; subst e; exact row_lclear (h.row j l' hs) hvr
  · rw [insS_L h.row hvr hp4 hsp]; exact vins_tidy h.tidy hvl hv1 hvz
  · have hw : ∀ x ∈ colL S, Off (m.map toV) (fun i => decide (i ∈ ps ++ [n])) (fun _ => 0) x.2 := fun x hx => (h.offL x hx).mono fun i hi => by simp at hi ⊢; exact hi.1
    have hvo : Off (m.map toV) (fun i => decide (i ∈ ps ++ [n])) (fun _ => 0) (toV v) := by
      have := (Off.vred hw h3).mul (toF (Fld.inv (a.getD p 0)))
      rw [← hred.2] at this
      exact this.eq (funext hvj)
    intro j l hj hs
    unfold insS at hs
    split at hs
    · injection hs with e; subst e; exact hvo
    · cases hs' : S j with
      | none => rw [hs'] at hs; cases hs
      | some l' =>
        rw [hs'] at hs; injection hs with e; subst e
        rw [toV_lclear (h.row j l' hs') hvr]
        exact (hw (j, toV l') (mem_colL.2 ⟨j, l', hj, hs', rfl⟩)).sub hvo _
  · rw [insS_L h.row hvr hp4 hsp, take_more m hn, List.map_append]
    have s1 : Same ((rows (vins p (toV v) (colL S))).map left) (left (toV v) :: (rows (colL S)).map left) := by
      have := vins_same (p := p) (v := toV v) (L := colL S)
      have inl : ∀ {A : List V} {u : V}, In A u → In (A.map left) (left u) := by
        rintro A u ⟨c, hc⟩
        refine ⟨c, fun j => ?_⟩
        rw [comb_left]; unfold left; split
        · exact hc j
        · rfl
      refine ⟨fun x hx => ?_, fun x hx => ?_⟩
      · obtain ⟨y, hy, rfl⟩ := List.mem_map.1 hx
        simpa using inl (this.1 y hy)
      · rcases List.mem_cons.1 hx with rfl | hx
        · exact inl (this.2 _ (by simp))
        · obtain ⟨y, hy, rfl⟩ := List.mem_map.1 hx
          exact inl (this.2 y (by simp [hy]))
    have hin : In ((rows (colL S)).map left) (fun j => toV (m.getD n []) j - left (toV a) j) := by
      have := vred_in (L := (colL S).map fun x => (x.1, left x.2)) (toV (m.getD n []))
      rw [rows_left] at this
      refine this.eq fun j => ?_
      rw [hred.2, left_vred h.col, h2]
    have hva : left (toV v) = fun j => toF (Fld.inv (a.getD p 0)) * left (toV a) j := by
      funext j; unfold left; split
      · exact hvj j
      · grind
    refine s1.trans (Same.trans (B := toV (m.getD n []) :: (rows (colL S)).map left) ⟨fun x hx => ?_, fun x hx => ?_⟩ ⟨fun x hx => ?_, fun x hx => ?_⟩)
    · rcases List.mem_cons.1 hx with rfl | hx
      · have i1 : In (toV (m.getD n []) :: (rows (colL S)).map left) (left (toV a)) :=
          ((In.mem (a := toV (m.getD n [])) List.mem_cons_self).sub (hin.mono fun y hy => List.mem_cons_of_mem _ hy) 1).eq fun j => by grind
        exact (i1.mul _).eq fun j => by rw [hva]
      · exact In.mem (by simp [hx])
    · rcases List.mem_cons.1 hx with rfl | hx
      · have i1 : In (left (toV v) :: (rows (colL S)).map left) (left (toV a)) := ((In.mem (a := left (toV v)) (by simp)).mul (toF (a.getD p 0))).eq fun j => by rw [hva]; grind
        exact (i1.add (hin.mono fun y hy => by simp [hy])).eq fun j => by grind
      · exact In.mem (by simp [hx])
    · rcases List.mem_cons.1 hx with rfl | hx
      · exact In.mem (by simp)
      · exact (h.same.1 x hx).mono fun y hy => by simp only [List.mem_append]; exact .inl hy
    · rcases List.mem_append.1 hx with hx | hx
      · exact (h.same.2 x hx).mono fun y hy => by simp [hy]
      · simp at hx; subst hx; exact In.mem (by simp)
  · have hf : has (m.take n) (m.getD n []) = false := by
      cases hb : has (m.take n) (m.getD n []) with
      | false => rfl
      | true => exact absurd ((has_iff hmt hr).1 hb) hnot
    rw [take_more m hn, firsts_snoc, hf, take_len m hn, ← h.first]
    rfl
structure IsBy (m : List (List Int)) (v c : List Int) : Prop where
  row : Row m.length c
  zero : ∀ i, i < m.length → i ∉ firsts has m → c.getD i 0 = 0
  sum : ∀ j, toV v j = comb (toV c) (m.map toV) j
theorem first_not {m : List (List Int)} (hm : ∀ r ∈ m, Row 4 r) {i : Nat} (hi : i ∈ firsts has m) : i < m.length ∧ ¬ Made (m.take i) (m.getD i []) := by
  unfold firsts at hi
  rw [List.mem_filter] at hi
  have hl := List.mem_range.1 hi.1
  refine ⟨hl, fun k => ?_⟩
  have := (has_iff (fun r hr => hm r (List.mem_of_mem_take hr)) (fresh_row hm hl)).2 k
  rw [this] at hi
  simp at hi
theorem IsBy.one {m : List (List Int)} {v c d : List Int} (hm : ∀ r ∈ m, Row 4 r) (h : IsBy m v c) (k : IsBy m v d) : c = d := by
  have key := comb_way (A := m.map toV) (b := fun i => decide (i ∈ firsts has m)) (fun i hi hb => by
    have := first_not hm (of_decide_eq_true hb)
    rw [← List.map_take]
    have e : (m.map toV)[i] = toV (m.getD i []) := by simp [List.getD_eq_getElem?_getD, this.1]
    rw [e]; exact this.2) (c := toV c) (d := toV d)
    (fun i hi hb => by unfold toV; rw [h.zero i (by simpa using hi) (of_decide_eq_false hb)]; rfl)
    (fun i hi hb => by unfold toV; rw [k.zero i (by simpa using hi) (of_decide_eq_false hb)]; rfl)
    (fun j => by rw [← h.sum, ← k.sum])
  refine toV_inj h.row k.row (funext fun j => ?_)
  by_cases hj : j < m.length
  · exact key j (by simpa using hj)
  · rw [toV_out h.row (by omega), toV_out k.row (by omega)]
theorem IsBy.made {m : List (List Int)} {v c : List Int} (h : IsBy m v c) : Made m v := ⟨_, h.sum⟩
theorem Stand.by {m : List (List Int)} {S : Cols} {ps : List Nat} (h : Stand m m.length S ps) (hm : ∀ r ∈ m, Row 4 r) (h8 : m.length ≤ 8) {v : List Int} (hv : Row 4 v) :
    Row 12 (red S 4 (v ++ none8)) ∧ (has m v = true ↔ Vec.first ((red S 4 (v ++ none8)).take 4) 0 < 0) ∧
    (Vec.first ((red S 4 (v ++ none8)).take 4) 0 < 0 → IsBy m v (((lmul (red S 4 (v ++ none8)) 30).drop 4).take m.length)) := by
  have hu : Row 12 (v ++ none8) := row_join hv row_none8
  have he : left (toV (v ++ none8)) = toV v := by
    funext j
    unfold left
    split
    · rename_i hj; exact toV_left hv hj
    · rename_i hj; exact (toV_out hv (by omega)).symm
  have hred := red_is h.row hu
  have hmade := h.made hu hv he
  have hoff : Off (m.map toV) (fun i => decide (i ∈ ps)) (toV v) (toV (v ++ none8)) := by
    refine ⟨fun c hc => ?_, fun i _ => ?_⟩
    · have e : (fun i => toV (v ++ none8) (4 + i)) = fun _ => 0 := by funext i; rw [toV_right hv, toV_none8]
      rw [e, comb_zero, toV_left hv hc]; grind
    · rw [toV_right hv, toV_none8]
  have hoff' := Off.vred h.offL hoff
  rw [← hred.2] at hoff'
  obtain ⟨a, ha⟩ : ∃ a, red S 4 (v ++ none8) = a := ⟨_, rfl⟩
  rw [ha] at hred hmade hoff' ⊢
  rw [List.take_length] at hmade
  refine ⟨hred.1, ?_, fun hz => ?_⟩
  · rw [has_iff hm hv, hmade, first4 hred.1]
  · have hz' := (first4 hred.1).1 hz
    have hmul := row_lmul hred.1 30
    have h30 : toF 30 = -1 := by decide
    have hget : ∀ i, i < m.length → toV (((lmul a 30).drop 4).take m.length) i = - toV a (4 + i) := by
      intro i hi
      have e : toV (((lmul a 30).drop 4).take m.length) i = toV (lmul a 30) (4 + i) := by
        unfold toV
        rw [List.getD_eq_getElem?_getD, List.getElem?_take, if_pos hi, List.getElem?_drop, ← List.getD_eq_getElem?_getD]
      rw [e, toV_lmul hred.1, h30]; grind
    refine ⟨⟨?_, fun x hx => hmul.2 x (List.mem_of_mem_drop (List.mem_of_mem_take hx))⟩, ?_, ?_⟩
    · rw [List.length_take, List.length_drop, hmul.1]; omega
    · intro i hi hn
      have h0 := hoff'.zero i (by rw [decide_eq_false_iff_not, h.first, List.take_length]; exact hn)
      have h1 := hget i hi
      rw [h0] at h1
      have hr : Row m.length (((lmul a 30).drop 4).take m.length) := ⟨by rw [List.length_take, List.length_drop, hmul.1]; omega, fun x hx => hmul.2 x (List.mem_of_mem_drop (List.mem_of_mem_take hx))⟩
      exact toF_none (hr.get i) (by show toV _ i = 0; rw [h1]; grind)
    · intro j
      by_cases hj : j < 4
      · have h1 := hoff'.rel j hj
        have h2 := hz' j
        rw [left_lt _ hj] at h2
        rw [h2] at h1
        have e : comb (toV (((lmul a 30).drop 4).take m.length)) (m.map toV) j = comb (fun i => (-1) * toV a (4 + i)) (m.map toV) j :=
          comb_congr _ _ _ _ fun i hi => by rw [hget i (by simpa using hi)]; grind
        rw [e, comb_mul]; grind
      · rw [toV_out hv (by omega)]
        refine (comb_at_zero _ j _ fun x hx => ?_).symm
        obtain ⟨r, hr, rfl⟩ := List.mem_map.1 hx
        exact toV_out (hm r hr) (by omega)
theorem lmul_get {l : List Int} (c : Int) {i : Nat} (hi : i < l.length) : (lmul l c).getD i 0 = l.getD i 0 * c % 31 := by
  simp [lmul, List.getD_eq_getElem?_getD, hi]
theorem ladd_get {l m : List Int} {i : Nat} (hi : i < l.length) (hi' : i < m.length) : (ladd l m).getD i 0 = (l.getD i 0 + m.getD i 0) % 31 := by
  simp [ladd, List.getD_eq_getElem?_getD, List.getElem?_zipWith, hi, hi']
end Go.Proofs.Ythglkgicckodaaa.Sp
namespace Go.Proofs.Ythglkgicckodaaa.Sp
set_option linter.unusedVariables false
theorem row_zeros (k : Nat) : Row k (List.replicate k (0 : Int)) := ⟨by simp, fun x hx => by rw [List.eq_of_mem_replicate hx]; rfl⟩
theorem row_unit (k i : Nat) : Row k ((List.replicate k (0 : Int)).set i 1) := ⟨by simp, fun x hx => by
  rcases List.mem_or_eq_of_mem_set hx with h | rfl
  · exact (row_zeros k).2 x h
  · rfl⟩
theorem toV_zeros (k i : Nat) : toV (List.replicate k (0 : Int)) i = 0 := by
  unfold toV
  rw [List.getD_eq_getElem?_getD, List.getElem?_replicate]
  split <;> rfl
theorem toV_unit {k n : Nat} (hn : n < k) (i : Nat) : toV ((List.replicate k (0 : Int)).set n 1) i = one n i := by
  unfold one
  by_cases h : i = n
  · subst h
    unfold toV
    rw [List.getD_eq_getElem?_getD, List.getElem?_set_self (by simp; exact hn), if_pos rfl]; rfl
  · rw [if_neg h, ← toV_zeros k i]
    unfold toV
    rw [List.getD_eq_getElem?_getD, List.getElem?_set_ne (fun e => h e.symm), ← List.getD_eq_getElem?_getD]
structure El (m : List (List Int)) (v : List Int) (p : Nat) (R : List (List Int)) (s : List Int) : Prop where
  len : R.length = m.length
  row : ∀ i, i < m.length → Row (4 + m.length) (R.getD i [])
  rest : Row (4 + m.length) s
  is : Elim m.length (m.map toV) (toV v) p (fun i => toV (R.getD i [])) (toV s)
def start (m : List (List Int)) (n : Nat) : List (List Int) := (List.range n).map fun i => m.getD i [] ++ (List.replicate m.length (0 : Int)).set i 1
theorem start_succ (m : List (List Int)) (n : Nat) : start m (n + 1) = start m n ++ [m.getD n [] ++ (List.replicate m.length (0 : Int)).set n 1] := by simp [start, List.range_succ]
theorem start_length (m : List (List Int)) (n : Nat) : (start m n).length = n := by simp [start]
theorem start_get {m : List (List Int)} {n i : Nat} (h : i < n) : (start m n).getD i [] = m.getD i [] ++ (List.replicate m.length (0 : Int)).set i 1 := by
  simp [start, List.getD_eq_getElem?_getD, List.getElem?_range h]
theorem El.start {m : List (List Int)} {v : List Int} (hm : ∀ r ∈ m, Row 4 r) (hv : Row 4 v) : El m v 0 (start m m.length) (v ++ List.replicate m.length 0) := by
  have hr : ∀ i, i < m.length → Row 4 (m.getD i []) := fun i hi => by
    rw [List.getD_eq_getElem?_getD, List.getElem?_eq_getElem hi]; exact hm _ (List.getElem_mem hi)
  refine ⟨start_length _ _, fun i hi => ?_, row_join hv (row_zeros _), ?_, ?_, fun q hq => by omega, ?_⟩
  · rw [start_get hi]; exact row_join (hr i hi) (row_unit _ _)
  · intro j hj c hc
    rw [start_get hj, toV_left (hr j hj) hc]
    have e : (fun i => toV (m.getD j [] ++ (List.replicate m.length (0 : Int)).set j 1) (4 + i)) = one j := by
      funext i; rw [toV_right (hr j hj), toV_unit hj]
    rw [e, comb_one _ j (by simpa using hj)]
    simp [List.getD_eq_getElem?_getD, hj]
  · intro c hc
    have e : (fun i => toV (v ++ List.replicate m.length 0) (4 + i)) = fun _ => 0 := by funext i; rw [toV_right hv, toV_zeros]
    rw [e, comb_zero, toV_left hv hc]; grind
  · intro a ha
    obtain ⟨r, hr', rfl⟩ := List.mem_map.1 ha
    obtain ⟨j, hj, rfl⟩ := List.getElem_of_mem hr'
    refine (In.mem (List.mem_map.2 ⟨_, List.mem_map.2 ⟨j, by simpa using hj, rfl⟩, rfl⟩)).eq fun c => ?_
    have e : m[j] = m.getD j [] := by simp [List.getD_eq_getElem?_getD, hj]
    by_cases hc : c < 4
    · rw [left_lt _ hc, left_lt _ hc]; rw [start_get hj, toV_left (hr j hj) hc, e]
    · rw [left_ge _ (by omega), left_ge _ (by omega)]
theorem El.skip {m : List (List Int)} {v : List Int} {p : Nat} {R : List (List Int)} {s : List Int} (h : El m v p R s) (hn : ∀ i, i < m.length → Vec.first (R.getD i []) 0 ≠ (p : Int)) : El m v (p + 1) R s :=
  ⟨h.len, h.row, h.rest, h.is.skip fun j hj hl => hn j hj (first_lead (h.row j hj) hl)⟩
def clr (p i : Nat) (R : List (List Int)) : Nat → List (List Int)
  | 0 => R
  | n + 1 => if n ≠ i ∧ ((clr p i R n).getD n []).getD p 0 ≠ 0 then (clr p i R n).set n (lless ((clr p i R n).getD n []) ((clr p i R n).getD i [])) else clr p i R n
theorem clr_length (p i : Nat) (R : List (List Int)) : ∀ n, (clr p i R n).length = R.length
  | 0 => rfl
  | n + 1 => by
    rw [clr]
    split
    · rw [List.length_set]; exact clr_length p i R n
    · exact clr_length p i R n
theorem clr_own (p i : Nat) (R : List (List Int)) : ∀ n, (clr p i R n).getD i [] = R.getD i []
  | 0 => rfl
  | n + 1 => by
    rw [clr]
    split
    · rename_i h
      rw [List.getD_eq_getElem?_getD, List.getElem?_set_ne h.1, ← List.getD_eq_getElem?_getD]; exact clr_own p i R n
    · exact clr_own p i R n
theorem clr_far (p i : Nat) (R : List (List Int)) (j : Nat) : ∀ n, n ≤ j → (clr p i R n).getD j [] = R.getD j []
  | 0, _ => rfl
  | n + 1, h => by
    rw [clr]
    split
    · rw [List.getD_eq_getElem?_getD, List.getElem?_set_ne (by omega), ← List.getD_eq_getElem?_getD]; exact clr_far p i R j n (by omega)
    · exact clr_far p i R j n (by omega)
theorem clr_done (p i : Nat) (R : List (List Int)) (j : Nat) (hj : j < R.length) : ∀ n, j < n → (clr p i R n).getD j [] = if j ≠ i ∧ (R.getD j []).getD p 0 ≠ 0 then lless (R.getD j []) (R.getD i []) else R.getD j []
  | 0, h => by omega
  | n + 1, h => by
    by_cases e : j = n
    · subst e
      rw [clr, clr_far p i R j j (Nat.le_refl _), clr_own]
      by_cases hc : j ≠ i ∧ (R.getD j []).getD p 0 ≠ 0
      · rw [if_pos hc, if_pos hc, List.getD_eq_getElem?_getD, List.getElem?_set_self (by rw [clr_length]; exact hj)]; rfl
      · rw [if_neg hc, if_neg hc]; exact clr_far p i R j j (Nat.le_refl _)
    · rw [← clr_done p i R j hj n (by omega), clr]
      split
      · rw [List.getD_eq_getElem?_getD, List.getElem?_set_ne (by omega), ← List.getD_eq_getElem?_getD]
      · rfl
theorem clr_row {p i k : Nat} {R : List (List Int)} (h : ∀ j, j < R.length → Row k (R.getD j [])) (hi : i < R.length) : ∀ n, ∀ j, j < R.length → Row k ((clr p i R n).getD j []) := by
  intro n j hj
  rcases Nat.lt_or_ge j n with hl | hl
  · rw [clr_done p i R j hj n hl]
    split
    · exact row_lless (h j hj) (h i hi)
    · exact h j hj
  · rw [clr_far p i R j n hl]; exact h j hj
theorem El.step {m : List (List Int)} {v : List Int} {p : Nat} {R : List (List Int)} {s : List Int} (h : El m v p R s) {i : Nat} (hi : i < m.length) (hp : Vec.first (R.getD i []) 0 = (p : Int)) (hl : Lead (toV (R.getD i [])) p) :
    El m v (p + 1) (clr p i R m.length) (lless s (R.getD i [])) := by
  have hri := h.row i hi
  have hlen := h.len
  have hne : (R.getD i []).getD p 0 ≠ 0 := fun e => hl.1 (by unfold toV; rw [e]; rfl)
  refine ⟨by rw [clr_length]; exact hlen, fun j hj => clr_row (fun j hj => h.row j (by omega)) (by omega) _ j (by omega), row_lless h.rest hri, ?_⟩
  refine h.is.step hi hl (c := toF (Fld.inv ((R.getD i []).getD p 0))) (toF_inv (hri.get p) hne) (fun j => ?_) (fun n hn hne' j => ?_) (fun j => toV_lless h.rest hri hl j)
  · rw [clr_own]
  · rw [clr_done p i R n (by omega) _ hn]
    split
    · exact toV_lless (h.row n hn) hri hl j
    · rename_i hc
      have h0 : toV (R.getD n []) p = 0 := by
        unfold toV
        rcases Classical.em ((R.getD n []).getD p 0 = 0) with e | e
        · rw [e]; rfl
        · exact absurd ⟨hne', e⟩ hc
      rw [h0]; grind
theorem lead_of {n : Nat} {l : List Int} (h : Row n l) {p : Nat} (hp : Vec.first l 0 = (p : Int)) : p < n ∧ Lead (toV l) p := by
  rcases lead_or h with hz | ⟨q, hq, hl⟩
  · have := first_none h hz
    rw [hp] at this; omega
  · have := first_lead h hl
    have e : q = p := by rw [hp] at this; omega
    subst e
    exact ⟨hq, hl⟩
def Answers (m : List (List Int)) (v : List Int) (b : Bool) (l : List Int) : Prop :=
  (b = true ∧ Made m v ∧ Row m.length l ∧ ∀ j, toV v j = comb (toV l) (m.map toV) j) ∨ (b = false ∧ ¬ Made m v ∧ l = [])
theorem El.no {m : List (List Int)} {v : List Int} {R : List (List Int)} {s : List Int} (h : El m v 4 R s) (hm : ∀ r ∈ m, Row 4 r) (hv : Row 4 v) {p : Nat} (hp : Vec.first s 0 = (p : Int)) (h4 : p < 4) : Answers m v false [] := by
  refine .inr ⟨rfl, fun hmade => ?_, rfl⟩
  obtain ⟨_, hl⟩ := lead_of h.rest hp
  refine hl.1 (h.is.no ?_ p h4)
  have e : (m.map toV).map left = m.map toV := by
    rw [List.map_map]
    exact List.map_congr_left fun r hr => left_row (hm r hr)
  rw [e, left_row hv]; exact hmade
theorem El.yes {m : List (List Int)} {v : List Int} {R : List (List Int)} {s : List Int} (h : El m v 4 R s) (hm : ∀ r ∈ m, Row 4 r) (hv : Row 4 v) (hp : ∀ p : Nat, p < 4 → Vec.first s 0 ≠ (p : Int)) : Answers m v true (lmul (s.drop 4) 30) := by
  have hz : ∀ c, c < 4 → toV s c = 0 := by
    rcases lead_or h.rest with hz | ⟨q, hq, hl⟩
    · exact fun c _ => hz c
    · have hq4 : 4 ≤ q := by
        rcases Nat.lt_or_ge q 4 with hlt | hge
        · exact absurd (first_lead h.rest hl) (hp q hlt)
        · exact hge
      exact fun c hc => hl.2 c (by omega)
  have hd : Row m.length (s.drop 4) := ⟨by rw [List.length_drop, h.rest.1]; omega, fun x hx => h.rest.2 x (List.mem_of_mem_drop hx)⟩
  have h30 : toF 30 = -1 := by decide
  have e : ∀ i, toV (lmul (s.drop 4) 30) i = -(toV s (4 + i)) := by
    intro i
    rw [toV_lmul hd, h30]
    have : toV (s.drop 4) i = toV s (4 + i) := by unfold toV; rw [List.getD_eq_getElem?_getD, List.getElem?_drop, ← List.getD_eq_getElem?_getD]
    rw [this]; grind
  have hsum : ∀ j, toV v j = comb (toV (lmul (s.drop 4) 30)) (m.map toV) j := by
    intro j
    by_cases hj : j < 4
    · rw [h.is.yes hz j hj]
      exact comb_congr _ _ _ _ fun i _ => (e i).symm
    · rw [toV_out hv (by omega)]
      refine (comb_at_zero _ j _ fun x hx => ?_).symm
      obtain ⟨r, hr, rfl⟩ := List.mem_map.1 hx
      exact toV_out (hm r hr) (by omega)
  exact .inl ⟨rfl, ⟨_, hsum⟩, row_lmul hd 30, hsum⟩
end Go.Proofs.Ythglkgicckodaaa.Sp
namespace Go.Proofs.Ythglkgicckodaaa
open Go.RowKit
set_option linter.unusedVariables false
def vals (l : List Int) : List Value := l.map (Value.int .i64)
theorem vals_length (l : List Int) : (vals l).length = l.length := by simp [vals]
theorem vals_get (l : List Int) (i : Nat) (h : i < l.length) : (vals l)[i]? = some (.int .i64 (l.getD i 0)) := by
  simp [vals, List.getD_eq_getElem?_getD, h]
theorem vals_set (l : List Int) (i : Nat) (x : Int) : (vals l).set i (.int .i64 x) = vals (l.set i x) := by
  simp [vals, List.map_set]
theorem vals_append (l : List Int) (x : Int) : vals l ++ [.int .i64 x] = vals (l ++ [x]) := by simp [vals]
theorem vals_one (l : List Int) : ∀ u ∈ vals l, u.oneCell' = true := ints_oneCell .i64 l
def Rds (w : World) (a : Option Addr) (l : List Int) : Prop :=
  l = [] ∨ ∃ b o, a = some ⟨b, o, none⟩ ∧ ∀ i, i < l.length → w.cell? ⟨b, o + i, none⟩ = some (.int .i64 (l.getD i 0))
theorem Rds.at_ {w : World} {a : Option Addr} {l : List Int} (h : Rds w a l) {k : Nat} (hk : k < l.length) :
    ∃ b o, a = some ⟨b, o, none⟩ ∧ w.cell? ⟨b, o + k, none⟩ = some (.int .i64 (l.getD k 0)) := by
  rcases h with rfl | ⟨b, o, rfl, h⟩
  · simp at hk
  · exact ⟨b, o, rfl, h k hk⟩
theorem Rds.grown {w w' : World} {a : Option Addr} {l : List Int} (h : Rds w a l) (hg : w.grownBy w' none) : Rds w' a l := by
  rcases h with rfl | ⟨b, o, rfl, h⟩
  · exact .inl rfl
  · exact .inr ⟨b, o, rfl, fun i hi => hg.cell (h i hi) (by simp)⟩
def Sl (w : World) (v : Value) (l : List Int) : Prop := ∃ a cap, v = .slice a l.length cap ∧ l.length ≤ cap ∧ cap ≤ maxLen ∧ Rds w a l
def Own (w : World) (base : Nat) (v : Value) (l : List Int) : Prop := w.ownsRow base 3 1 v l.length (vals l)
theorem Sl.grown {w w' : World} {v : Value} {l : List Int} (h : Sl w v l) (hg : w.grownBy w' none) : Sl w' v l := by
  obtain ⟨a, cap, rfl, h1, h2, h⟩ := h
  exact ⟨a, cap, rfl, h1, h2, h.grown hg⟩
theorem Own.sl {w : World} {base : Nat} {v : Value} {l : List Int} (h : Own w base v l) : Sl w v l := by
  rcases h.2 with ⟨rfl, h0⟩ | ⟨g, cap, cur, rfl, _, hg, h1, h2, _, ht⟩
  · exact ⟨none, 0, by rw [h0], by omega, by omega, .inl (List.eq_nil_of_length_eq_zero h0)⟩
  · refine ⟨_, cap, rfl, h1, h2, .inr ⟨g, 0, rfl, fun i hi => ?_⟩⟩
    rw [cell_of_row w g (0 + i) cur 3 (0, 0) hg]
    have hv := vals_get l i hi
    rw [← ht, List.getElem?_take, if_pos (by omega)] at hv
    simpa using hv
theorem Own.lower {w : World} {base base' : Nat} {v : Value} {l : List Int} (h : Own w base v l) (hb : base' ≤ base) : Own w base' v l := by
  refine ⟨h.1, ?_⟩
  rcases h.2 with h0 | ⟨g, cap, cur, hv, hg, r⟩
  · exact .inl h0
  · exact .inr ⟨g, cap, cur, hv, by omega, r⟩
theorem Own.kept {w w' : World} {base : Nat} {v : Value} {l : List Int} {row : Option Nat} (h : Own w base v l) (hg : w.grownBy w' row) (hne : v.ownBlock = none ∨ v.ownBlock ≠ row) : Own w' base v l :=
  World.ownsRow.kept h hg hne
theorem Own.still {w w' : World} {base : Nat} {v : Value} {l : List Int} (h : Own w base v l) (hg : w.grownBy w' none) : Own w' base v l :=
  h.kept hg (by cases h : v.ownBlock <;> simp)
theorem Own.none_ (w : World) (base : Nat) : Own w base (.slice none 0 0) [] := World.ownsRow_nil _ _ _ _
theorem Own.made (w : World) (base : Nat) (l : List Int) (hb : base ≤ w.heap.size) (hl : l.length ≤ maxLen) :
    Own (w.alloc (.cells (vals l).toArray 3)) base (.slice (some ⟨w.heap.size, 0, none⟩) l.length l.length) l :=
  ⟨by simp [vals], .inr ⟨w.heap.size, l.length, _, rfl, hb, heap_alloc_new w _, Nat.le_refl _, hl, by simp [vals], by
    show List.take _ (vals l) = vals l
    exact List.take_of_length_le (by simp [vals])⟩⟩
theorem grown_still (w : World) (n : Nat) : w.grownBy (w.drewN n) none := ⟨rfl, rfl, rfl, Nat.le_refl _, fun _ _ _ => rfl⟩
theorem grown_trans {a b c : World} {r : Option Nat} (h : a.grownBy b r) (k : b.grownBy c r) : a.grownBy c r :=
  ⟨k.os.trans h.os, k.tape.trans h.tape, k.output.trans h.output, Nat.le_trans h.size k.size, fun i hi hr => (k.block i (Nat.lt_of_lt_of_le hi h.size) hr).trans (h.block i hi hr)⟩
theorem grown_alloc {a w : World} {r : Option Nat} (h : a.grownBy w r) (o : Obj) : a.grownBy (w.alloc o) r := grown_trans h (World.grownBy_alloc w o r)
theorem grown_draws {a w : World} {r : Option Nat} (h : a.grownBy w r) (n : Nat) : a.grownBy (w.drewN n) r := ⟨h.os, h.tape, h.output, h.size, h.block⟩
theorem grown_drew {a w : World} {r : Option Nat} (h : a.grownBy w r) : a.grownBy w.drew r := ⟨h.os, h.tape, h.output, h.size, h.block⟩
theorem grown_below {a w : World} {B : Nat} (h : Below B a w) (hB : a.heap.size ≤ B) (r : Option Nat) : a.grownBy w r := ⟨h.os, h.tape, h.output, h.size, fun i hi _ => h.block i (by omega)⟩
theorem grown_set {a w : World} {r : Option Nat} (h : a.grownBy w r) {p : Addr} (hp : a.heap.size ≤ p.block) (u : Value) : a.grownBy (w.setCell p u) r :=
  ⟨h.os, h.tape, h.output, by simpa [World.setCell] using h.size, fun i hi hr => (Below.heap_setCell w p u i (by omega)).trans (h.block i hi hr)⟩
theorem grown_own {a w w' : World} {r : Option Nat} (h : a.grownBy w none) (hg : w.grownBy w' r) (hr : ∀ k, r = some k → a.heap.size ≤ k) : a.grownBy w' none :=
  ⟨hg.os.trans h.os, hg.tape.trans h.tape, hg.output.trans h.output, Nat.le_trans h.size hg.size, fun i hi _ =>
    (hg.block i (Nat.lt_of_lt_of_le hi h.size) (fun e => by have := hr i e.symm; omega)).trans (h.block i hi (by simp))⟩
def Arr (w : World) (g : Nat) (t : TypeId) (l : List Int) : Prop := w.heap[g]? = some (.cells (vals l).toArray t (0, 0))
namespace Arr
variable {w w' : World} {g : Nat} {t : TypeId} {l : List Int}
theorem lt (h : Arr w g t l) : g < w.heap.size := by
  rcases Nat.lt_or_ge g w.heap.size with hlt | hge
  · exact hlt
  · unfold Arr at h; rw [Array.getElem?_eq_none hge] at h; cases h
theorem cell (h : Arr w g t l) {i : Nat} (hi : i < l.length) : w.cell? ⟨g, i, none⟩ = some (.int .i64 (l.getD i 0)) := by
  rw [cell_of_row w g i _ t (0, 0) h, ← vals_get l i hi]; simp
theorem frozen (h : Arr w g t l) (i : Nat) : w.frozen? ⟨g, i, none⟩ = false := frozen_of_row w g i _ t h
theorem new (w : World) (t : TypeId) (l : List Int) : Arr (w.alloc (.cells (vals l).toArray t)) w.heap.size t l := heap_alloc_new w _
theorem alloc (h : Arr w g t l) (o : Obj) : Arr (w.alloc o) g t l := (Below.heap_alloc w o g h.lt).trans h
theorem drew (h : Arr w g t l) : Arr w.drew g t l := h
theorem kept {r : Option Nat} (h : Arr w g t l) (hg : w.grownBy w' r) (hr : some g ≠ r) : Arr w' g t l := (hg.block g h.lt hr).trans h
theorem still (h : Arr w g t l) (hg : w.grownBy w' none) : Arr w' g t l := h.kept hg (by simp)
theorem far (h : Arr w g t l) {p : Addr} (hp : g ≠ p.block) (u : Value) : Arr (w.setCell p u) g t l := (Below.heap_setCell w p u g hp).trans h
theorem put (h : Arr w g t l) (i : Nat) (x : Int) : Arr (w.setCell ⟨g, i, none⟩ (.int .i64 x)) g t (l.set i x) := by
  have e := heap_setCell_same w g i _ t (.int .i64 x) h
  unfold Arr
  rw [e, ← vals_set]
  simp
theorem own {n : Nat} (h : Arr w g 3 l) (hn : n = l.length) (base : Nat) (hb : base ≤ g) (hl : l.length ≤ maxLen) : Own w base (.slice (some ⟨g, 0, none⟩) n n) l := by
  subst hn
  exact ⟨by simp [vals], .inr ⟨g, l.length, _, rfl, hb, h, Nat.le_refl _, hl, by simp [vals], by
    show List.take _ (vals l) = vals l
    exact List.take_of_length_le (by simp [vals])⟩⟩
end Arr
def NewInts (l : List Int) (w : World) (e : Ending) (w' : World) : Prop := ∃ v, e = .returned v ∧ w.grownBy w' none ∧ Own w' w.heap.size v l
def NewInts2 (l : List Int) (b : Bool) (w : World) (e : Ending) (w' : World) : Prop := ∃ v, e = .returned (.tuple #[v, .bool b]) ∧ w.grownBy w' none ∧ Own w' w.heap.size v l
theorem new2_after {l : List Int} {b : Bool} {a w w' : World} {v : Value} (h : a.grownBy w none) (hg : w.grownBy w' none) (ho : Own w' w.heap.size v l) : NewInts2 l b a (.returned (.tuple #[v, .bool b])) w' :=
  ⟨v, rfl, grown_trans h hg, ho.lower h.size⟩
structure Live (w0 w : World) (L : List (Value × List Int)) : Prop where
  below : Below w0.heap.size w0 w
  own : ∀ p ∈ L, Own w w0.heap.size p.1 p.2
  apart : L.Pairwise fun p q => p.1.ownBlock = none ∨ p.1.ownBlock ≠ q.1.ownBlock
namespace Live
variable {w0 w w' : World} {L : List (Value × List Int)} {v : Value} {l : List Int}
theorem start (w : World) : Live w w [] := ⟨Below.refl _ _, by simp, List.Pairwise.nil⟩
theorem still (h : Live w0 w L) (hg : w.grownBy w' none) : Live w0 w' L :=
  ⟨h.below.grown hg h.below.size (by simp), fun p hp => (h.own p hp).still hg, h.apart⟩
theorem new (h : Live w0 w L) (hg : w.grownBy w' none) (ho : Own w' w.heap.size v l) : Live w0 w' ((v, l) :: L) := by
  refine ⟨h.below.grown hg h.below.size (by simp), ?_, ?_⟩
  · intro p hp
    rcases List.mem_cons.1 hp with rfl | hp
    · exact ho.lower h.below.size
    · exact (h.own p hp).still hg
  · refine List.Pairwise.cons (fun q hq => ?_) h.apart
    cases hv : v.ownBlock with
    | none => exact .inl rfl
    | some k =>
      refine .inr fun e => ?_
      have h1 := (World.ownsRow.lt ho k hv).1
      have h2 := (World.ownsRow.lt (h.own q hq) k e.symm).2
      omega
theorem sl (h : Live w0 w L) (p : Value × List Int) (hp : p ∈ L) : Sl w p.1 p.2 := (h.own p hp).sl
theorem arg (h : Live w0 w L) (hs : Sl w0 v l) : Sl w v l := hs.grown (grown_below h.below (Nat.le_refl _) none)
theorem put (h : Live w0 w ((v, l) :: L)) {l' : List Int} (hg : w.grownBy w' v.ownBlock) (ho : Own w' w0.heap.size v l') : Live w0 w' ((v, l') :: L) := by
  have hh := h.apart
  rw [List.pairwise_cons] at hh
  refine ⟨?_, ?_, ?_⟩
  · exact h.below.grown hg h.below.size (fun k hk => (World.ownsRow.lt (h.own (v, l) (by simp)) k hk).1)
  · intro p hp
    rcases List.mem_cons.1 hp with rfl | hp
    · exact ho
    · refine (h.own p (by simp [hp])).kept hg ?_
      rcases hh.1 p hp with e | e
      · cases hq : p.1.ownBlock with
        | none => exact .inl rfl
        | some k => right; rw [show v.ownBlock = none from e]; simp
      · exact .inr fun x => e x.symm
  · rw [List.pairwise_cons]; exact hh
theorem drop (h : Live w0 w ((v, l) :: L)) : Live w0 w L :=
  ⟨h.below, fun p hp => h.own p (by simp [hp]), (List.pairwise_cons.1 h.apart).2⟩
end Live
structure Seen (w0 w : World) (L : List (Value × List Int)) : Prop where
  below : Below w0.heap.size w0 w
  sls : ∀ p ∈ L, Sl w p.1 p.2
namespace Seen
variable {w0 w w' : World} {L : List (Value × List Int)} {v : Value} {l : List Int}
theorem start (w : World) : Seen w w [] := ⟨Below.refl _ _, by simp⟩
theorem still (h : Seen w0 w L) (hg : w.grownBy w' none) : Seen w0 w' L :=
  ⟨h.below.grown hg h.below.size (by simp), fun p hp => (h.sls p hp).grown hg⟩
theorem add (h : Seen w0 w L) (hs : Sl w v l) : Seen w0 w ((v, l) :: L) :=
  ⟨h.below, fun p hp => by
    rcases List.mem_cons.1 hp with rfl | hp
    · exact hs
    · exact h.sls p hp⟩
theorem new {b : Nat} (h : Seen w0 w L) (hg : w.grownBy w' none) (ho : Own w' b v l) : Seen w0 w' ((v, l) :: L) := (h.still hg).add ho.sl
theorem sl (h : Seen w0 w L) (p : Value × List Int) (hp : p ∈ L) : Sl w p.1 p.2 := h.sls p hp
theorem arg (h : Seen w0 w L) (hs : Sl w0 v l) : Sl w v l := hs.grown (grown_below h.below (Nat.le_refl _) none)
end Seen
end Go.Proofs.Ythglkgicckodaaa
namespace Go.Proofs.Ythglkgicckodaaa
open Go.RowKit
set_option linter.unusedVariables false
structure Tab (w : World) (v : Value) (us : List Value) (m : List (List Int)) : Prop where
  len : us.length = m.length
  top : ∃ a cap, v = .slice a m.length cap ∧ m.length ≤ cap ∧ cap ≤ maxLen ∧ (m = [] ∨ ∃ b o, a = some ⟨b, o, none⟩ ∧ ∀ (i : Nat) (u : Value), us[i]? = some u → w.cell? ⟨b, o + i, none⟩ = some u)
  rows : ∀ (i : Nat) (u : Value) (l : List Int), us[i]? = some u → m[i]? = some l → Sl w u l
theorem Tab.grown {w w' : World} {v : Value} {us : List Value} {m : List (List Int)} (h : Tab w v us m) (hg : w.grownBy w' none) : Tab w' v us m := by
  refine ⟨h.len, ?_, fun i u l hu hl => (h.rows i u l hu hl).grown hg⟩
  obtain ⟨a, cap, e, h1, h2, h3⟩ := h.top
  refine ⟨a, cap, e, h1, h2, ?_⟩
  rcases h3 with h3 | ⟨b, o, e', h3⟩
  · exact .inl h3
  · exact .inr ⟨b, o, e', fun i u hu => hg.cell (h3 i u hu) (by simp)⟩
theorem Tab.at_ {w : World} {v : Value} {us : List Value} {m : List (List Int)} (h : Tab w v us m) {i : Nat} (hi : i < m.length) :
    ∃ b o cap u, v = .slice (some ⟨b, o, none⟩) m.length cap ∧ us[i]? = some u ∧ w.cell? ⟨b, o + i, none⟩ = some u ∧ Sl w u (m.getD i []) := by
  obtain ⟨a, cap, e, h1, h2, h3⟩ := h.top
  have hlt : i < us.length := by rw [h.len]; exact hi
  have hu : us[i]? = some us[i] := List.getElem?_eq_getElem hlt
  rcases h3 with h3 | ⟨b, o, rfl, h3⟩
  · subst h3; simp at hi
  · refine ⟨b, o, cap, _, e, hu, h3 i _ hu, h.rows i _ _ hu ?_⟩
    rw [List.getElem?_eq_getElem hi]; simp [List.getD_eq_getElem?_getD, hi]
structure Item where
  v : Value
  e : TypeId
  cs : List Value
def Item.Own (w : World) (base : Nat) (x : Item) : Prop := w.ownsRow base x.e 1 x.v x.cs.length x.cs
def Item.Apart (x y : Item) : Prop := x.v.ownBlock = none ∨ x.v.ownBlock ≠ y.v.ownBlock
theorem Item.Apart.symm {x y : Item} (h : x.Apart y) : y.Apart x := by
  rcases h with h | h
  · cases hy : y.v.ownBlock with
    | none => exact .inl hy
    | some k => exact .inr (by rw [h, hy]; simp)
  · exact .inr fun e => h e.symm
theorem Item.Own.still {w w' : World} {base : Nat} {x : Item} (h : x.Own w base) (hg : w.grownBy w' none) : x.Own w' base :=
  World.ownsRow.kept h hg (by cases h : x.v.ownBlock <;> simp)
theorem Item.Own.lower {w : World} {base base' : Nat} {x : Item} (h : x.Own w base) (hb : base' ≤ base) : x.Own w base' := by
  refine ⟨h.1, ?_⟩
  rcases h.2 with h0 | ⟨g, cap, cur, hv, hg, r⟩
  · exact .inl h0
  · exact .inr ⟨g, cap, cur, hv, by omega, r⟩
def OwnAll (w : World) (base : Nat) (L : List Item) : Prop := (∀ x ∈ L, x.Own w base) ∧ L.Pairwise Item.Apart
theorem OwnAll.still {w w' : World} {base : Nat} {L : List Item} (h : OwnAll w base L) (hg : w.grownBy w' none) : OwnAll w' base L := ⟨fun x hx => (h.1 x hx).still hg, h.2⟩
theorem OwnAll.lower {w : World} {base base' : Nat} {L : List Item} (h : OwnAll w base L) (hb : base' ≤ base) : OwnAll w base' L := ⟨fun x hx => (h.1 x hx).lower hb, h.2⟩
theorem OwnAll.join {w w' : World} {base : Nat} {L M : List Item} (h : OwnAll w base L) (hg : w.grownBy w' none) (k : OwnAll w' w.heap.size M) (hb : base ≤ w.heap.size) : OwnAll w' base (M ++ L) := by
  refine ⟨fun x hx => ?_, ?_⟩
  · rcases List.mem_append.1 hx with hx | hx
    · exact (k.1 x hx).lower hb
    · exact (h.1 x hx).still hg
  · rw [List.pairwise_append]
    refine ⟨k.2, h.2, fun x hx y hy => ?_⟩
    cases hv : x.v.ownBlock with
    | none => exact .inl hv
    | some b =>
      refine .inr fun e => ?_
      have h1 := (World.ownsRow.lt (k.1 x hx) b hv).1
      have h2 := (World.ownsRow.lt (h.1 y hy) b (by rw [← e]; exact hv)).2
      omega
theorem OwnAll.left {w : World} {base : Nat} {L M : List Item} (h : OwnAll w base (L ++ M)) : OwnAll w base L := ⟨fun x hx => h.1 x (by simp [hx]), (List.pairwise_append.1 h.2).1⟩
theorem OwnAll.right {w : World} {base : Nat} {L M : List Item} (h : OwnAll w base (L ++ M)) : OwnAll w base M := ⟨fun x hx => h.1 x (by simp [hx]), (List.pairwise_append.1 h.2).2.1⟩
def row1 (v : Value) (l : List Int) : Item := ⟨v, 3, vals l⟩
theorem row1_own {w : World} {base : Nat} {v : Value} {l : List Int} : (row1 v l).Own w base ↔ Own w base v l := by
  unfold Item.Own Go.Proofs.Ythglkgicckodaaa.Own row1
  rw [vals_length]
def tabItems (v : Value) (us : List Value) (m : List (List Int)) : List Item := ⟨v, 23, us⟩ :: List.zipWith row1 us m
theorem tab_each {w : World} {base : Nat} {v : Value} {us : List Value} {m : List (List Int)} (hl : us.length = m.length) (h : ∀ x ∈ tabItems v us m, x.Own w base) : Tab w v us m := by
  have h0 := h ⟨v, 23, us⟩ (by simp [tabItems])
  refine ⟨hl, ?_, ?_⟩
  · rcases h0.2 with ⟨e, hn⟩ | ⟨g, cap, cur, e, _, hg, h1, h2, _, ht⟩
    · have hu : us = [] := List.eq_nil_of_length_eq_zero hn
      subst hu
      have hm : m = [] := List.eq_nil_of_length_eq_zero hl.symm
      subst hm
      exact ⟨none, 0, e, by simp, by omega, .inl rfl⟩
    · have h1' : us.length ≤ cap := h1
      refine ⟨some ⟨g, 0, none⟩, cap, by rw [← hl]; exact e, by omega, h2, .inr ⟨g, 0, rfl, fun i u hu => ?_⟩⟩
      rw [cell_of_row w g (0 + i) cur 23 (0, 0) hg]
      have ht' : cur.toList.take (us.length * 1) = us := ht
      rw [← ht', List.getElem?_take] at hu
      split at hu
      · simpa using hu
      · cases hu
  · intro i u l hu hl'
    have hm : row1 u l ∈ tabItems v us m := by
      refine List.mem_cons_of_mem _ (List.mem_iff_getElem?.2 ⟨i, ?_⟩)
      rw [List.getElem?_zipWith, hu, hl']
    exact (row1_own.1 (h _ hm)).sl
structure Lives (w0 w : World) (L : List Item) : Prop where
  below : Below w0.heap.size w0 w
  own : OwnAll w w0.heap.size L
namespace Lives
variable {w0 w w' : World} {L M : List Item}
theorem start (w : World) : Lives w w [] := ⟨Below.refl _ _, by simp, List.Pairwise.nil⟩
theorem still (h : Lives w0 w L) (hg : w.grownBy w' none) : Lives w0 w' L := ⟨h.below.grown hg h.below.size (by simp), h.own.still hg⟩
theorem new (h : Lives w0 w L) (hg : w.grownBy w' none) (k : OwnAll w' w.heap.size M) : Lives w0 w' (M ++ L) := ⟨h.below.grown hg h.below.size (by simp), h.own.join hg k h.below.size⟩
theorem arg (h : Lives w0 w L) {v : Value} {us : List Value} {m : List (List Int)} (hs : Tab w0 v us m) : Tab w v us m := hs.grown (grown_below h.below (Nat.le_refl _) none)
theorem arg1 (h : Lives w0 w L) {v : Value} {l : List Int} (hs : Sl w0 v l) : Sl w v l := hs.grown (grown_below h.below (Nat.le_refl _) none)
theorem tab (h : Lives w0 w L) {v : Value} {us : List Value} {m : List (List Int)} (hl : us.length = m.length) (hm : ∀ x ∈ tabItems v us m, x ∈ L) : Tab w v us m := tab_each hl fun x hx => h.own.1 x (hm x hx)
theorem sl (h : Lives w0 w L) {v : Value} {l : List Int} (hm : row1 v l ∈ L) : Sl w v l := (row1_own.1 (h.own.1 _ hm)).sl
end Lives
end Go.Proofs.Ythglkgicckodaaa
namespace Go.Proofs.Ythglkgicckodaaa
open Go.RowKit
set_option linter.unusedVariables false
theorem infoInt : (Try.prog.info? 3).map (fun i => (i.zero, i.size, i.bytes)) = some (some (.int .i64 0), 1, 8) := by kernel_rfl
def part (l : List Int) (k : Nat) : List Int := l.take k ++ List.replicate (l.length - k) 0
theorem part_length (l : List Int) (k : Nat) (h : k ≤ l.length) : (part l k).length = l.length := by simp [part]; omega
theorem part_all (l : List Int) : part l l.length = l := by simp [part]
theorem part_set (l : List Int) (k : Nat) (h : k < l.length) : (part l k).set k (l.getD k 0) = part l (k + 1) := by
  unfold part
  rw [List.set_append_right _ _ (by simp; omega)]
  have e : l.take (k + 1) = l.take k ++ [l.getD k 0] := by
    rw [List.take_succ_eq_append_getElem h]; simp [List.getD_eq_getElem?_getD, h]
  rw [e, List.append_assoc]
  congr 1
  have e2 : l.length - k = (l.length - (k + 1)) + 1 := by omega
  rw [e2, List.replicate_succ]
  simp [Nat.min_eq_left (Nat.le_of_lt h)]
theorem part_none (l : List Int) : vals (part l 0) = (madeCells #[Value.int .i64 0] l.length).toList := by
  rw [toList_madeCells_one]; simp [part, vals]
def Copied (w : World) (l : List Int) (g k : Nat) (wr : World) : Prop :=
  k ≤ l.length ∧ w.grownBy wr none ∧ w.heap.size ≤ g ∧ Own wr w.heap.size (.slice (some ⟨g, 0, none⟩) l.length l.length) (part l k)
theorem own_len {w : World} {base : Nat} {v : Value} {l : List Int} {n : Nat} (h : w.ownsRow base 3 1 v n (vals l)) (hl : l.length = n) : Own w base v l := by
  subst hl; exact h
theorem Copied.cell {w wr : World} {l : List Int} {g k : Nat} (h : Copied w l g k wr) (hk : k < l.length) : wr.cell? ⟨g, k, none⟩ = some (.int .i64 ((part l k).getD k 0)) ∧ wr.frozen? ⟨g, k, none⟩ = false := by
  obtain ⟨h0, h1, h2, h3⟩ := h
  unfold Own at h3
  rw [part_length l k h0] at h3
  have hc := World.ownsRow.cells h3 (g := g) rfl k _ (vals_get (part l k) k (by rw [part_length l k h0]; exact hk))
  rw [Addr.add_lit] at hc
  exact ⟨by simpa using hc, World.ownsRow.frozenAt h3 k⟩
theorem Copied.next {w wr : World} {l : List Int} {g k : Nat} (h : Copied w l g k wr) (hk : k < l.length) : Copied w l g (k + 1) (wr.setCell ⟨g, k, none⟩ (.int .i64 (l.getD k 0))) := by
  obtain ⟨h0, h1, h2, h3⟩ := h
  unfold Own at h3
  rw [part_length l k h0] at h3
  have hs := World.ownsRow.stored h3 k (.int .i64 (l.getD k 0))
  refine ⟨hk, grown_set h1 (p := ⟨g, k, none⟩) h2 _, h2, ?_⟩
  refine own_len (n := l.length) ?_ (part_length l (k + 1) hk)
  rw [← part_set l k hk, ← vals_set]
  exact hs.1
set_option maxHeartbeats 1000000 in
set_option maxRecDepth 20000 in
theorem toIntS (v : Value) (l : List Int) (w : World) (h : Sl w v l) (hl : l.length ≤ 1048576) : Calls Try.prog 31 #[v] w (NewInts l w) := by
  obtain ⟨a, cap, rfl, hlc, hcm, hr⟩ := h
  have R := Lib.hid hr
  clear hr
  obtain ⟨i0, hi, hz0, hz1, hz2⟩ := info_parts infoInt
  have I1 := Lib.hid hi
  have I2 := Lib.hid hz0
  have I3 := Lib.hid hz1
  have I4 := Lib.hid hz2
  clear hi hz0 hz1 hz2
  unfold maxLen at hcm
  have hn0 : (0 : Int) ≤ (l.length : Int) := by omega
  go_enter Try.func31, Try.ntmps31
  go_wp2_with (at_make; refine wpList_make_full _ rfl _ _ 23 rfl w.heap.size 3 i0 (.int .i64 0) 1 Try.underlying23 I1.out I2.out I3.out _ _ _ _ l.length rfl rfl rfl rfl ?b1 ?b2 ?b3 ?_)
  case b1 => rw [I4.out]; omega
  case b2 => unfold maxLen; omega
  case b3 => exact Nat.le_refl _
  intro w1 ho hg
  have C0 : Hid (Copied w l w.heap.size 0 w1) := by
    refine ⟨Nat.zero_le _, hg, Nat.le_refl _, own_len (n := l.length) ?_ (part_length l 0 (Nat.zero_le _))⟩
    rw [part_none]
    simpa using ho
  clear ho hg
  go_wp2_with fail
  go_loopw [4] (fun i wr => ∃ k : Nat, i = .int .i64 k ∧ Copied w l w.heap.size k wr) (fun i _ => l.length - (intOf i).toNat)
  case atStart => exact ⟨0, rfl, C0.out⟩
  case round =>
    obtain ⟨k, rfl, hc⟩ := hrel
    have hk := hc.1
    have C := Lib.hid hc
    clear hc
    by_cases hlt : k < l.length
    · obtain ⟨hx, hf⟩ := C.out.cell hlt
      obtain ⟨b, o, rfl, hx2⟩ := (R.out.grown C.out.2.1).at_ hlt
      obtain ⟨x, hxe⟩ : ∃ x, l.getD k 0 = x := ⟨_, rfl⟩
      rw [hxe] at hx2
      have E := Lib.hid hxe
      clear hxe
      go_wp2_with fail
      go_roundw
      case rel => exact ⟨k + 1, by go_num, by rw [← E.out]; exact C.out.next hlt⟩
      case measure => simp [intOf]; omega
    · have : k = l.length := by omega
      subst this
      go_wp2_with fail
      go_ret
      refine ⟨_, rfl, C.out.2.1, ?_⟩
      have := C.out.2.2.2
      rwa [part_all] at this
set_option maxHeartbeats 1000000 in
set_option maxRecDepth 20000 in
theorem eqSame (u v : Value) (l : List Int) (w : World) (h : Sl w u l) (k : Sl w v l) : Calls Try.prog 33 #[u, v] w fun e w' => e = .returned (.bool true) ∧ w.grownBy w' none := by
  obtain ⟨a, cap, rfl, hlc, hcm, hr⟩ := h
  obtain ⟨a', cap', rfl, hlc', hcm', hr'⟩ := k
  have R := Lib.hid hr
  have R' := Lib.hid hr'
  clear hr hr'
  unfold maxLen at hcm hcm'
  have hne : ((l.length : Int) != (l.length : Int)) = false := by simp
  go_enter Try.func33, Try.ntmps33
  go_wp2_with fail
  go_loopw [5] (fun i wr => ∃ k : Nat, i = .int .i64 k ∧ k ≤ l.length ∧ w.grownBy wr none) (fun i _ => l.length - (intOf i).toNat)
  case atStart => exact ⟨0, rfl, Nat.zero_le _, World.grownBy.refl _ _⟩
  case round =>
    obtain ⟨k, rfl, hk, hg⟩ := hrel
    have G := Lib.hid hg
    clear hg
    by_cases hlt : k < l.length
    · have hlt' : (k : Int) < (l.length : Int) := by omega
      obtain ⟨b, o, rfl, hx⟩ := (R.out.grown G.out).at_ hlt
      obtain ⟨b', o', rfl, hx'⟩ := (R'.out.grown G.out).at_ hlt
      generalize l.getD k 0 = x at hx hx'
      go_wp2_with fail
      go_quiet (fail)
      go_wp2_with fail
      go_roundw
      case rel => exact ⟨k + 1, by go_num, by omega, grown_draws G.out _⟩
      case measure => simp [intOf]; omega
    · go_wp2_with fail
      go_ret
      exact ⟨rfl, G.out⟩
def marks (k : Int) (n : Nat) : List Int := (List.range n).map fun (i : Nat) => k + (i : Int)
theorem marks_length (k : Int) (n : Nat) : (marks k n).length = n := by simp [marks]
theorem marks_get (k : Int) (n i : Nat) (h : i < n) : (marks k n).getD i 0 = k + i := by
  simp [marks, List.getD_eq_getElem?_getD, h]
def marked (k : Int) (l : List Int) (i : Nat) : List Int := marks k i ++ l.drop i
theorem marked_length (k : Int) (l : List Int) (i : Nat) (h : i ≤ l.length) : (marked k l i).length = l.length := by simp [marked, marks]; omega
theorem marked_all (k : Int) (l : List Int) : marked k l l.length = marks k l.length := by simp [marked]
theorem marked_none (k : Int) (l : List Int) : marked k l 0 = l := by simp [marked, marks]
theorem marked_set (k : Int) (l : List Int) (i : Nat) (h : i < l.length) : (marked k l i).set i (k + i) = marked k l (i + 1) := by
  unfold marked
  rw [List.set_append_right _ _ (by simp [marks])]
  have e : marks k (i + 1) = marks k i ++ [k + (i : Int)] := by simp [marks, List.range_succ]
  rw [e, List.append_assoc, marks_length, Nat.sub_self, List.drop_eq_getElem_cons h, List.set_cons_zero]
  rfl
def Marking (w : World) (base g cap : Nat) (k : Int) (l : List Int) (i : Nat) (wr : World) : Prop :=
  i ≤ l.length ∧ w.grownBy wr (some g) ∧ Own wr base (.slice (some ⟨g, 0, none⟩) l.length cap) (marked k l i)
theorem Marking.cell {w wr : World} {base g cap i : Nat} {k : Int} {l : List Int} (h : Marking w base g cap k l i wr) (hi : i < l.length) :
    wr.cell? ⟨g, i, none⟩ = some (.int .i64 ((marked k l i).getD i 0)) ∧ wr.frozen? ⟨g, i, none⟩ = false := by
  obtain ⟨h0, h1, h3⟩ := h
  unfold Own at h3
  rw [marked_length k l i h0] at h3
  have hc := World.ownsRow.cells h3 (g := g) rfl i _ (vals_get (marked k l i) i (by rw [marked_length k l i h0]; exact hi))
  rw [Addr.add_lit] at hc
  exact ⟨by simpa using hc, World.ownsRow.frozenAt h3 i⟩
theorem Marking.next {w wr : World} {base g cap i : Nat} {k : Int} {l : List Int} (h : Marking w base g cap k l i wr) (hi : i < l.length) :
    Marking w base g cap k l (i + 1) (wr.setCell ⟨g, i, none⟩ (.int .i64 (k + i))) := by
  obtain ⟨h0, h1, h3⟩ := h
  unfold Own at h3
  rw [marked_length k l i h0] at h3
  have hs := World.ownsRow.stored h3 i (.int .i64 (k + i))
  refine ⟨hi, grown_trans h1 hs.2, own_len (n := l.length) ?_ (marked_length k l (i + 1) hi)⟩
  rw [← marked_set k l i hi, ← vals_set]
  exact hs.1
set_option maxHeartbeats 1000000 in
set_option maxRecDepth 20000 in
theorem markSome (g cap : Nat) (l : List Int) (k : Int) (base : Nat) (w : World) (h : Own w base (.slice (some ⟨g, 0, none⟩) l.length cap) l) (hl : l.length ≤ 1048576) (k0 : 0 ≤ k) (k1 : k ≤ 1099511627776) :
    Calls Try.prog 34 #[.slice (some ⟨g, 0, none⟩) l.length cap, .int .i64 k] w fun e w' => e = .returned (.int .i64 (k + l.length)) ∧ w.grownBy w' (some g) ∧ Own w' base (.slice (some ⟨g, 0, none⟩) l.length cap) (marks k l.length) := by
  have M : Hid (Marking w base g cap k l 0 w) := ⟨Nat.zero_le _, World.grownBy.refl _ _, by rw [marked_none]; exact h⟩
  clear h
  go_enter Try.func34, Try.ntmps34
  go_wp2_with fail
  go_loopw [1, 5] (fun m i wr => ∃ j : Nat, i = .int .i64 j ∧ m = .int .i64 (k + j) ∧ Marking w base g cap k l j wr) (fun _ i _ => l.length - (intOf i).toNat)
  case atStart => exact ⟨0, rfl, by simp, M.out⟩
  case round =>
    obtain ⟨j, rfl, rfl, hm⟩ := hrel
    have hj := hm.1
    have C := Lib.hid hm
    clear hm
    by_cases hlt : j < l.length
    · obtain ⟨hx, hf⟩ := C.out.cell hlt
      go_wp2_with fail
      go_roundw
      case rel => exact ⟨j + 1, by go_num, by go_num, C.out.next hlt⟩
      case measure => simp [intOf]; omega
    · have : j = l.length := by omega
      subst this
      go_wp2_with fail
      go_ret
      refine ⟨rfl, C.out.2.1, ?_⟩
      have := C.out.2.2
      rwa [marked_all] at this
set_option maxHeartbeats 400000 in
set_option maxRecDepth 20000 in
theorem markNone (k : Int) (w : World) (k0 : 0 ≤ k) (k1 : k ≤ 1099511627776) :
    Calls Try.prog 34 #[.slice none 0 0, .int .i64 k] w fun e w' => e = .returned (.int .i64 k) ∧ w = w' := by
  go_enter Try.func34, Try.ntmps34
  go_wp2_with fail
  go_loop [1, 5] (fun m i => m = .int .i64 k ∧ i = .int .i64 0) (fun _ _ => 0)
  case atStart => exact ⟨rfl, rfl⟩
  case round =>
    obtain ⟨rfl, rfl⟩ := hrel
    go_wp2_with fail
    go_ret
    exact ⟨rfl, rfl⟩
def Marked (v : Value) (l : List Int) (k : Int) (base : Nat) (w : World) (e : Ending) (w' : World) : Prop :=
  e = .returned (.int .i64 (k + l.length)) ∧ w.grownBy w' v.ownBlock ∧ Own w' base v (marks k l.length)
theorem markIntS (v : Value) (l : List Int) (k : Int) (base : Nat) (w : World) (h : Own w base v l) (hl : l.length ≤ 1048576) (k0 : 0 ≤ k) (k1 : k ≤ 1099511627776) :
    Calls Try.prog 34 #[v, .int .i64 k] w (Marked v l k base w) := by
  rcases h.2 with ⟨rfl, h0⟩ | ⟨g, cap, cur, rfl, r⟩
  · have : l = [] := List.eq_nil_of_length_eq_zero h0
    subst this
    refine (markNone k w k0 k1).mono ?_
    rintro e w' ⟨rfl, rfl⟩
    exact ⟨by simp, World.grownBy.refl _ _, Own.none_ _ _⟩
  · exact markSome g cap l k base w h hl k0 k1
set_option maxHeartbeats 1000000 in
set_option maxRecDepth 20000 in
theorem heldIntS (v : Value) (n : Nat) (k : Int) (w : World) (h : Sl w v (marks k n)) (hl : n ≤ 1048576) (k0 : 0 ≤ k) (k1 : k ≤ 1099511627776) :
    Calls Try.prog 39 #[v, .int .i64 k] w fun e w' => e = .returned (.int .i64 (k + n)) ∧ w = w' := by
  obtain ⟨a, cap, rfl, hlc, hcm, hr⟩ := h
  rw [marks_length] at hlc ⊢
  have R := Lib.hid hr
  clear hr
  go_enter Try.func39, Try.ntmps39
  go_wp2_with fail
  go_loop [1, 5] (fun m i => ∃ j : Nat, j ≤ n ∧ i = .int .i64 j ∧ m = .int .i64 (k + j)) (fun _ i => n - (intOf i).toNat)
  case atStart => exact ⟨0, Nat.zero_le _, rfl, by simp⟩
  case round =>
    obtain ⟨j, hj, rfl, rfl⟩ := hrel
    by_cases hlt : j < n
    · obtain ⟨b, o, rfl, hx⟩ := R.out.at_ (k := j) (by rw [marks_length]; exact hlt)
      rw [marks_get k n j hlt] at hx
      go_wp2_with fail
      go_round
      case rel => exact ⟨j + 1, by omega, by go_num, by go_num⟩
      case measure => simp [intOf]; omega
    · have : j = n := by omega
      subst this
      go_wp2_with fail
      go_ret
      exact ⟨rfl, rfl⟩
end Go.Proofs.Ythglkgicckodaaa
namespace Go.Proofs.Ythglkgicckodaaa
open Go.RowKit
set_option linter.unusedVariables false
theorem Sl.four {w : World} {v : Value} {x y z t : Int} (h : Sl w v [x, y, z, t]) :
    ∃ b o cap, v = .slice (some ⟨b, o, none⟩) 4 cap ∧ 4 ≤ cap ∧ cap ≤ maxLen ∧ b < w.heap.size ∧ w.cell? ⟨b, o, none⟩ = some (.int .i64 x) ∧ w.cell? ⟨b, o + 1, none⟩ = some (.int .i64 y) ∧ w.cell? ⟨b, o + 2, none⟩ = some (.int .i64 z) ∧ w.cell? ⟨b, o + 3, none⟩ = some (.int .i64 t) := by
  obtain ⟨a, cap, rfl, h1, h2, h⟩ := h
  rcases h with h | ⟨b, o, rfl, h⟩
  · cases h
  · have h0 := h 0 (by simp)
    exact ⟨b, o, cap, rfl, h1, h2, lt_of_cell h0, h0, h 1 (by simp), h 2 (by simp), h 3 (by simp)⟩
theorem stillSum (a b : Int) (w : World) (ha : Fld.ok a = true) (hb : Fld.ok b = true) : Calls Try.prog 70 #[.int .i64 a, .int .i64 b] w fun e w' => e = .returned (.int .i64 ((a + b) % 31)) ∧ w' = w :=
  (elemSum a b w ha hb).mono fun _ _ ⟨h1, h2⟩ => ⟨h1, h2.symm⟩
theorem vals4 (x y z t : Int) : #[Value.int .i64 x, .int .i64 y, .int .i64 z, .int .i64 t] = (vals [x, y, z, t]).toArray := rfl
def Mix (f : Int → Int → Int) (l m : List Int) (k : Nat) : List Int := (List.zipWith f l m).take k ++ l.drop k
structure Summing (w : World) (l m : List Int) (k : Nat) (wr : World) : Prop where
  grown : w.grownBy wr none
  one : Arr wr w.heap.size 68 (Mix (fun x y => (x + y) % 31) l m k)
  two : Arr wr (w.heap.size + 1) 68 m
  out : Arr wr (w.heap.size + 2) 68 [0, 0, 0, 0]
theorem mix_all (f : Int → Int → Int) {l m : List Int} (hl : l.length = 4) (hm : m.length = 4) : Mix f l m 4 = List.zipWith f l m := by
  match l, m, hl, hm with
  | [x, y, z, t], [x', y', z', t'], _, _ => rfl
theorem mix_len (f : Int → Int → Int) {l m : List Int} (hl : l.length = 4) (hm : m.length = 4) {k : Nat} (hk : k ≤ 4) : (Mix f l m k).length = 4 := by
  simp [Mix, hl, hm]; omega
theorem mix_get (f : Int → Int → Int) {l m : List Int} (hl : l.length = 4) (hm : m.length = 4) {k : Nat} (hk : k < 4) : (Mix f l m k).getD k 0 = l.getD k 0 := by
  match l, m, hl, hm with
  | [x, y, z, t], [x', y', z', t'], _, _ =>
    match k, hk with
    | 0, _ => rfl
    | 1, _ => rfl
    | 2, _ => rfl
    | 3, _ => rfl
theorem mix_set (f : Int → Int → Int) {l m : List Int} (hl : l.length = 4) (hm : m.length = 4) {k : Nat} (hk : k < 4) : (Mix f l m k).set k (f (l.getD k 0) (m.getD k 0)) = Mix f l m (k + 1) := by
  match l, m, hl, hm with
  | [x, y, z, t], [x', y', z', t'], _, _ =>
    match k, hk with
    | 0, _ => rfl
    | 1, _ => rfl
    | 2, _ => rfl
    | 3, _ => rfl
theorem Summing.next {w wr : World} {l m : List Int} {k : Nat} (h : Summing w l m k wr) (hl : l.length = 4) (hm : m.length = 4) (hk : k < 4) :
    Summing w l m (k + 1) (wr.setCell ⟨w.heap.size, k, none⟩ (.int .i64 ((l.getD k 0 + m.getD k 0) % 31))) :=
  ⟨grown_set h.grown (Nat.le_refl _) _, by rw [← mix_set _ hl hm hk]; exact h.one.put _ _, h.two.far (by simp) _, h.out.far (by simp) _⟩
set_option maxHeartbeats 2000000 in
set_option maxRecDepth 20000 in
theorem rowSum (l m : List Int) (w : World) (hl : Vec.ok l = true) (hm : Vec.ok m = true) :
    Calls Try.prog 136 #[.agg (vals l).toArray, .agg (vals m).toArray] w fun e w' => e = .returned (.agg (vals (List.zipWith (fun x y => (x + y) % 31) l m)).toArray) ∧ w.grownBy w' none := by
  have L4 := Lib.hid (Vec.ok_len hl)
  have M4 := Lib.hid (Vec.ok_len hm)
  have OL := Lib.hid hl
  have OM := Lib.hid hm
  have H0 : Hid (Summing w l m 0 (((w.alloc (.cells (vals l).toArray 68)).alloc (.cells (vals m).toArray 68)).alloc (.cells (vals [0, 0, 0, 0]).toArray 68))) := by
    refine ⟨grown_alloc (grown_alloc (grown_alloc (World.grownBy.refl _ _) _) _) _, ((Arr.new _ _ _).alloc _).alloc _, ?_, ?_⟩
    · have := ((Arr.new (w.alloc (.cells (vals l).toArray 68)) 68 m).alloc (.cells (vals [0, 0, 0, 0]).toArray 68))
      simpa using this
    · have := Arr.new ((w.alloc (.cells (vals l).toArray 68)).alloc (.cells (vals m).toArray 68)) 68 [0, 0, 0, 0]
      simpa using this
  obtain ⟨x, y, z, t, rfl, _⟩ := Vec.ok_four hl
  obtain ⟨x', y', z', t', rfl, _⟩ := Vec.ok_four hm
  clear hl hm
  rw [← vals4, ← vals4, ← vals4] at H0
  rw [← vals4, ← vals4]
  go_enter Try.func136, Try.ntmps136
  go_wp2_with fail
  go_loopw [6] (fun i wr => ∃ k : Nat, k ≤ 4 ∧ i = .int .i64 k ∧ Summing w [x, y, z, t] [x', y', z', t'] k wr) (fun i _ => 4 - (intOf i).toNat)
  case atStart => exact ⟨0, by omega, rfl, H0.out⟩
  case round =>
    obtain ⟨k, hk, rfl, hs⟩ := hrel
    clear H0
    by_cases hlt : k < 4
    · have S : Hid (Summing w [x, y, z, t] [x', y', z', t'] k wr.drew) := ⟨grown_drew hs.grown, hs.one, hs.two, hs.out⟩
      have c0 : wr.drew.cell? ⟨w.heap.size, k, none⟩ = some (.int .i64 ([x, y, z, t].getD k 0)) := by rw [S.out.one.cell (by rw [mix_len _ L4.out M4.out hk]; exact hlt), mix_get _ L4.out M4.out hlt]
      have c1 : wr.drew.cell? ⟨w.heap.size + 1, k, none⟩ = some (.int .i64 ([x', y', z', t'].getD k 0)) := S.out.two.cell hlt
      have f0 : wr.drew.frozen? ⟨w.heap.size, k, none⟩ = false := S.out.one.frozen k
      have p0 := Vec.ok_get OL.out hlt
      have p1 := Vec.ok_get OM.out hlt
      clear hs
      obtain ⟨p, hp⟩ : ∃ p, [x, y, z, t].getD k 0 = p := ⟨_, rfl⟩
      obtain ⟨q, hq⟩ : ∃ q, [x', y', z', t'].getD k 0 = q := ⟨_, rfl⟩
      rw [hp] at c0 p0
      rw [hq] at c1 p1
      have P := Lib.hid hp
      have Q := Lib.hid hq
      clear hp hq
      have hlt' : (k : Int) < 4 := by omega
      go_wp2_with fail
      refine wp_region_still_tail 10 (by kernel_rfl) (by kernel_rfl) ?_
      simp only [List.take_succ_cons, List.take_zero, List.drop_succ_cons, List.drop_zero]
      change wpStill _ _ wr.drew (fun a' => wpList _ _ _ _ a' wr.drew) _ _
      generalize wr.drew = w2 at *
      repeat still_step
      refine wpStill_step (fun K hK => ?_)
      go_simp
      go_invoke
      go_simp
      refine ⟨_, stillSum _ _ _ p0 p1, hK _ ?_⟩
      clear hK K
      repeat still_step
      refine wpStill_nil ?_
      go_wp2_with fail
      go_roundw
      case rel => exact ⟨k + 1, by omega, by go_num, by have := S.out.next L4.out M4.out hlt; rw [P.out, Q.out] at this; exact this⟩
      case measure => simp [intOf]; omega
    · have : k = 4 := by omega
      subst this
      have A := hs.one
      rw [mix_all _ L4.out M4.out] at A
      have a0 : wr.cell? ⟨w.heap.size, 0, none⟩ = some (.int .i64 ((x + x') % 31)) := A.cell (by simp)
      have a1 : wr.cell? ⟨w.heap.size, 1, none⟩ = some (.int .i64 ((y + y') % 31)) := A.cell (by simp)
      have a2 : wr.cell? ⟨w.heap.size, 2, none⟩ = some (.int .i64 ((z + z') % 31)) := A.cell (by simp)
      have a3 : wr.cell? ⟨w.heap.size, 3, none⟩ = some (.int .i64 ((t + t') % 31)) := A.cell (by simp)
      have b0 : wr.cell? ⟨w.heap.size + 2, 0, none⟩ = some (.int .i64 0) := hs.out.cell (by simp)
      have b1 : wr.cell? ⟨w.heap.size + 2, 1, none⟩ = some (.int .i64 0) := hs.out.cell (by simp)
      have b2 : wr.cell? ⟨w.heap.size + 2, 2, none⟩ = some (.int .i64 0) := hs.out.cell (by simp)
      have b3 : wr.cell? ⟨w.heap.size + 2, 3, none⟩ = some (.int .i64 0) := hs.out.cell (by simp)
      have f0 := hs.out.frozen 0
      have f1 := hs.out.frozen 1
      have f2 := hs.out.frozen 2
      have f3 := hs.out.frozen 3
      have G := Lib.hid hs.grown
      clear hs A
      go_wp2_with fail
      refine bodyPost_ret (v := .agg #[.int .i64 ((x + x') % 31), .int .i64 ((y + y') % 31), .int .i64 ((z + z') % 31), .int .i64 ((t + t') % 31)]) (by simp [results, Try.results136, go_sem, b0, b1, b2, b3]) rfl ⟨rfl, ?_⟩
      repeat' first | exact G.out | refine grown_set ?_ (by simp; try omega) _
set_option maxHeartbeats 2000000 in
set_option maxRecDepth 20000 in
theorem rowScale (l : List Int) (c : Int) (w : World) (hl : Vec.ok l = true) (hc : Fld.ok c = true) :
    Calls Try.prog 134 #[.agg (vals l).toArray, .int .i64 c] w fun e w' => e = .returned (.agg (vals (l.map fun x => x * c % 31)).toArray) ∧ w.grownBy w' none := by
  obtain ⟨x, y, z, t, rfl, hx, hy, hz, ht⟩ := Vec.ok_four hl
  have ⟨x0, x1⟩ := Fld.ok_iff.1 hx
  have ⟨y0, y1⟩ := Fld.ok_iff.1 hy
  have ⟨z0, z1⟩ := Fld.ok_iff.1 hz
  have ⟨t0, t1⟩ := Fld.ok_iff.1 ht
  have ⟨c0, c1⟩ := Fld.ok_iff.1 hc
  have ⟨a0, a1⟩ := Fld.mul_le hx hc
  have ⟨b0, b1⟩ := Fld.mul_le hy hc
  have ⟨d0, d1⟩ := Fld.mul_le hz hc
  have ⟨e0, e1⟩ := Fld.mul_le ht hc
  clear hx hy hz ht hc hl
  rw [← vals4]
  go_enter Try.func134, Try.ntmps134
  go_wp2_with fail
  go_rounds 5
  refine bodyPost_ret (v := .agg #[.int .i64 (x * c % 31), .int .i64 (y * c % 31), .int .i64 (z * c % 31), .int .i64 (t * c % 31)]) (by simp [results, Try.results134, go_sem]) rfl ⟨rfl, ?_⟩
  repeat' first | exact World.grownBy.refl _ _ | refine grown_alloc ?_ _ | refine grown_set ?_ (by simp; try omega) _
theorem idx0 (x y z t : Int) (W : World) : (Instr.index 68 (.agg #[.int .i64 x, .int .i64 y, .int .i64 z, .int .i64 t]) (.int .i64 0)).run Try.prog W = .ok (.int .i64 x) W := by kernel_rfl
theorem idx1 (x y z t : Int) (W : World) : (Instr.index 68 (.agg #[.int .i64 x, .int .i64 y, .int .i64 z, .int .i64 t]) (.int .i64 1)).run Try.prog W = .ok (.int .i64 y) W := by kernel_rfl
theorem idx2 (x y z t : Int) (W : World) : (Instr.index 68 (.agg #[.int .i64 x, .int .i64 y, .int .i64 z, .int .i64 t]) (.int .i64 2)).run Try.prog W = .ok (.int .i64 z) W := by kernel_rfl
theorem idx3 (x y z t : Int) (W : World) : (Instr.index 68 (.agg #[.int .i64 x, .int .i64 y, .int .i64 z, .int .i64 t]) (.int .i64 3)).run Try.prog W = .ok (.int .i64 t) W := by kernel_rfl
theorem makeFour (W : World) : (Instr.makeSlice 23 (.int .i64 4) (.int .i64 4)).run Try.prog W = .ok (.slice (some ⟨W.heap.size, 0, none⟩) 4 4) (W.alloc (.cells #[.int .i64 0, .int .i64 0, .int .i64 0, .int .i64 0] 3)) := by
  obtain ⟨i0, hi, hz0, hz1, hz2⟩ := info_parts (show (Try.prog.info? 3).map (fun i => (i.zero, i.size, i.bytes)) = some (some (.int .i64 0), 1, 8) by kernel_rfl)
  have h := run_make (P := Try.prog) W 23 3 i0 (.int .i64 0) Try.underlying23 hi hz0 .i64 .i64 4 4 (by omega) (by omega) (by rw [hz2]; decide) (by omega)
  have e : madeCells (Value.int .i64 0).cells (4 * 1) = #[.int .i64 0, .int .i64 0, .int .i64 0, .int .i64 0] := Array.ext' (toList_madeCells_one (.int .i64 0) 4)
  rw [h, hz1, ← e]
  rfl
set_option maxHeartbeats 2000000 in
set_option maxRecDepth 20000 in
theorem rowLead (x y z t : Int) (w : World) :
    Calls Try.prog 128 #[.agg #[.int .i64 x, .int .i64 y, .int .i64 z, .int .i64 t]] w fun e w' => e = .returned (.int .i64 (Vec.first [x, y, z, t] 0)) ∧ w.grownBy w' none := by
  have i0 := idx0 x y z t
  have i1 := idx1 x y z t
  have i2 := idx2 x y z t
  have i3 := idx3 x y z t
  go_enter Try.func128, Try.ntmps128
  go_wp2_with fail
  go_rounds 5
  all_goals go_ret
  all_goals clear i0 i1 i2 i3
  all_goals refine ⟨ret_int ?_, grown_alloc (World.grownBy.refl _ _) _⟩
  all_goals repeat rw [Vec.first_no (by assumption)]
  all_goals try rw [Vec.first_yes (by assumption)]
  all_goals rfl
theorem stillMul (a b : Int) (w : World) (ha : Fld.ok a = true) (hb : Fld.ok b = true) : Calls Try.prog 121 #[.int .i64 a, .int .i64 b] w fun e w' => e = .returned (.int .i64 (a * b % 31)) ∧ w' = w :=
  (elemMul a b w ha hb).mono fun _ _ ⟨h1, h2⟩ => ⟨h1, h2.symm⟩
structure Dotting (w : World) (l m : List Int) (wr : World) : Prop where
  grown : w.grownBy wr none
  one : Arr wr w.heap.size 68 l
  two : Arr wr (w.heap.size + 1) 68 m
theorem Dotting.drew {w wr : World} {l m : List Int} (h : Dotting w l m wr) : Dotting w l m wr.drew := ⟨grown_drew h.grown, h.one.drew, h.two.drew⟩
end Go.Proofs.Ythglkgicckodaaa
namespace Go.Proofs.Ythglkgicckodaaa
open Go.RowKit
set_option linter.unusedVariables false
end Go.Proofs.Ythglkgicckodaaa
