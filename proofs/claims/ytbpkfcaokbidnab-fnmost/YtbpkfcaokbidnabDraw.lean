/-
  The contracts of the model's reader of drawn bytes: opening it, and picking a number below a bound.
  Conditions: the reader has been read at most a million times; the bound is from 1 to a million.
-/
import Derived.Test.YtbpkfcaokbidnabRows
import Derived.Test.YtbpkfcaokbidnabMem
import Derived.WalkKit
import Derived.ProofKit
import Derived.Lib.Hide
import Derived.OpenShut
import Derived.Deep.QuietTactic
import Derived.BigQuiet
namespace Go.Proofs.Ytbpkfcaokbidnab
open Go.RowKit
set_option linter.unusedVariables false

theorem xor_in (a b : Int) (a0 : 0 ≤ a) (a1 : a < 4294967296) (b0 : 0 ≤ b) (b1 : b < 4294967296) : 0 ≤ bits .xor .i64 a b ∧ bits .xor .i64 a b < 4294967296 := by
  obtain ⟨x, rfl⟩ := Int.eq_ofNat_of_zero_le a0
  obtain ⟨y, rfl⟩ := Int.eq_ofNat_of_zero_le b0
  have hx : x ^^^ y < 2 ^ 32 := Nat.xor_lt_two_pow (by omega) (by omega)
  have h1 : (BitVec.ofInt 64 (x : Int)).toNat = x := by
    rw [BitVec.ofInt_natCast, BitVec.toNat_ofNat]; exact Nat.mod_eq_of_lt (by omega)
  have h2 : (BitVec.ofInt 64 (y : Int)).toNat = y := by
    rw [BitVec.ofInt_natCast, BitVec.toNat_ofNat]; exact Nat.mod_eq_of_lt (by omega)
  have e : bits .xor .i64 (x : Int) (y : Int) = ((x ^^^ y : Nat) : Int) := by
    show IntKind.i64.wrap ((BitVec.ofInt 64 (x : Int) ^^^ BitVec.ofInt 64 (y : Int)).toNat : Int) = _
    rw [BitVec.toNat_xor, h1, h2]
    simp [IntKind.wrap, IntKind.bits, IntKind.signed]; omega
  rw [e]; omega

/-- bytes lie from an address on. -/
def Bytes (w : World) (c : Nat) (xb xo len : Nat) (z : Nat → Int) : Prop :=
  xb < c ∧ ∀ i, i < len → w.cell? ⟨xb, xo + i, none⟩ = some (.int .u8 (z i)) ∧ 0 ≤ z i ∧ z i ≤ 255

set_option maxHeartbeats 1000000 in
set_option maxRecDepth 20000 in
theorem pickNone (c cap : Nat) (a : Option Addr) (p n : Int) (w : World) (hs : w.cell? ⟨c, 0, none⟩ = some (.slice a 0 cap)) (hp : w.cell? ⟨c, 1, none⟩ = some (.int .i64 p)) (hf : w.frozen? ⟨c, 1, none⟩ = false)
    (p0 : 0 ≤ p) (p1 : p ≤ 1000000) (n0 : 1 ≤ n) (n1 : n ≤ 1000000) :
    Calls Try.prog 77 #[.pointer (some ⟨c, 0, none⟩), .int .i64 n] w fun e w' => e = .returned (.int .i64 0) ∧ w' = w.setCell ⟨c, 1, none⟩ (.int .i64 (p + 1)) := by
  have hn : decide (n < 1) = false := by simp; omega
  have hn' : ¬ n < 1 := by omega
  go_enter Try.func77, Try.ntmps77
  go_wp2
  go_ret
  exact ⟨rfl, rfl⟩

set_option maxHeartbeats 1000000 in
set_option maxRecDepth 20000 in
theorem pickIn (c cap xb xo len : Nat) (z : Nat → Int) (p : Nat) (n : Int) (w : World) (hs : w.cell? ⟨c, 0, none⟩ = some (.slice (some ⟨xb, xo, none⟩) len cap)) (hp : w.cell? ⟨c, 1, none⟩ = some (.int .i64 p)) (hf : w.frozen? ⟨c, 1, none⟩ = false)
    (hb : Bytes w c xb xo len z) (hl : len ≤ 2000) (p1 : p < len) (n0 : 1 ≤ n) (n1 : n ≤ 1000000) :
    Calls Try.prog 77 #[.pointer (some ⟨c, 0, none⟩), .int .i64 n] w fun e w' => e = .returned (.int .i64 (z p % n)) ∧ w' = w.setCell ⟨c, 1, none⟩ (.int .i64 (p + 1)) := by
  have hn : decide (n < 1) = false := by simp; omega
  have hn' : ¬ n < 1 := by omega
  have hl0 : ((len : Int) == 0) = false := by rw [beq_eq_false_iff_ne]; omega
  obtain ⟨hlc, hz⟩ := hb
  have hne : xb ≠ c := Nat.ne_of_lt hlc
  clear hlc
  obtain ⟨hc, z0, z1⟩ := hz p p1
  have hc' : (w.setCell ⟨c, 1, none⟩ (.int .i64 (p + 1))).cell? ⟨xb, xo + p, none⟩ = some (.int .u8 (z p)) := by
    rw [World.cell?_setCell_other _ _ _ _ (by intro e; injection e with e1; exact hne e1.symm)]; exact hc
  go_enter Try.func77, Try.ntmps77
  go_wp2
  go_ret
  exact ⟨rfl, rfl⟩

set_option maxHeartbeats 1000000 in
set_option maxRecDepth 20000 in
theorem pickOut (c cap xb xo len : Nat) (z : Nat → Int) (p : Nat) (n : Int) (w : World) (hs : w.cell? ⟨c, 0, none⟩ = some (.slice (some ⟨xb, xo, none⟩) len cap)) (hp : w.cell? ⟨c, 1, none⟩ = some (.int .i64 p)) (hf : w.frozen? ⟨c, 1, none⟩ = false)
    (hb : Bytes w c xb xo len z) (hl : len ≤ 2000) (l0 : 0 < len) (p0 : len ≤ p) (p1 : p ≤ 1000000) (n0 : 1 ≤ n) (n1 : n ≤ 1000000) :
    Calls Try.prog 77 #[.pointer (some ⟨c, 0, none⟩), .int .i64 n] w fun e w' => ∃ m : Int, 0 ≤ m ∧ m < n ∧ e = .returned (.int .i64 m) ∧ ∃ k, w' = (w.setCell ⟨c, 1, none⟩ (.int .i64 (p + 1))).drewN k := by
  have hn : decide (n < 1) = false := by simp; omega
  have hn' : ¬ n < 1 := by omega
  have hl0 : ((len : Int) == 0) = false := by rw [beq_eq_false_iff_ne]; omega
  obtain ⟨hlc, hz⟩ := hb
  have hne : xb ≠ c := Nat.ne_of_lt hlc
  clear hlc
  have i1 : p % len < len := Nat.mod_lt _ l0
  have i2 : (p * 7 + 3) % len < len := Nat.mod_lt _ l0
  obtain ⟨hc1, z0, z1⟩ := hz (p % len) i1
  obtain ⟨hc2, y0, y1⟩ := hz ((p * 7 + 3) % len) i2
  have hc1' : (w.setCell ⟨c, 1, none⟩ (.int .i64 (p + 1))).cell? ⟨xb, xo + p % len, none⟩ = some (.int .u8 (z (p % len))) := by
    rw [World.cell?_setCell_other _ _ _ _ (by intro e; injection e with e1; exact hne e1.symm)]; exact hc1
  have hc2' : (w.setCell ⟨c, 1, none⟩ (.int .i64 (p + 1))).cell? ⟨xb, xo + (p * 7 + 3) % len, none⟩ = some (.int .u8 (z ((p * 7 + 3) % len))) := by
    rw [World.cell?_setCell_other _ _ _ _ (by intro e; injection e with e1; exact hne e1.symm)]; exact hc2
  clear hc1 hc2 hz
  have hlz : ¬ len = 0 := by omega
  have e1 : (p : Int).tmod (len : Int) = ((p % len : Nat) : Int) := by rw [Int.tmod_eq_emod_of_nonneg (by omega)]; rfl
  have e2 : ((p : Int) * 7 + 3).tmod (len : Int) = (((p * 7 + 3) % len : Nat) : Int) := by rw [Int.tmod_eq_emod_of_nonneg (by omega)]; rfl
  have e3 : (p : Int).tdiv (len : Int) = ((p / len : Nat) : Int) := by rw [Int.tdiv_eq_ediv_of_nonneg (by omega)]; rfl
  have e4 : p / len ≤ 1000000 := by have := Nat.div_le_self p len; omega
  generalize p % len = k1 at *
  generalize (p * 7 + 3) % len = k2 at *
  generalize p / len = k3 at *
  have hlt : decide ((p : Int) < len) = false := by simp; omega
  have hlt' : ¬ (p : Int) < len := by omega
  go_enter Try.func77, Try.ntmps77
  go_wp2
  go_quiet (fail)
  go_wp2
  go_ret
  have hx := xor_in (z k1 * 131 + z k2 * 1117 + (p : Int) * 29 + (k3 : Int) * 53) ((z k1 * 131 + z k2 * 1117 + (p : Int) * 29 + (k3 : Int) * 53) / 64) (by omega) (by omega) (by omega) (by omega)
  refine ⟨(bits .xor .i64 (z k1 * 131 + z k2 * 1117 + (p : Int) * 29 + (k3 : Int) * 53) ((z k1 * 131 + z k2 * 1117 + (p : Int) * 29 + (k3 : Int) * 53) / 64)).tmod n, ?_, ?_, rfl, nq, rfl⟩
  · rw [Int.tmod_eq_emod_of_nonneg hx.1]; exact Int.emod_nonneg _ (by omega)
  · rw [Int.tmod_eq_emod_of_nonneg hx.1]; exact Int.emod_lt_of_pos _ (by omega)

/-- a reader at block c, read at most p times. -/
def Rd (w : World) (c p : Nat) : Prop :=
  ∃ q : Nat, q ≤ p ∧ w.cell? ⟨c, 1, none⟩ = some (.int .i64 q) ∧ w.frozen? ⟨c, 1, none⟩ = false ∧
    ∃ a len cap, w.cell? ⟨c, 0, none⟩ = some (.slice a len cap) ∧ len ≤ 2000 ∧ (len = 0 ∨ ∃ xb xo z, a = some ⟨xb, xo, none⟩ ∧ Bytes w c xb xo len z)

theorem Rd.lt {w : World} {c p : Nat} (h : Rd w c p) : c < w.heap.size := by
  obtain ⟨q, _, h, _⟩ := h; exact lt_of_cell h
theorem Rd.mono {w : World} {c p q : Nat} (h : Rd w c p) (hq : p ≤ q) : Rd w c q := by
  obtain ⟨r, hr, h⟩ := h; exact ⟨r, by omega, h⟩
theorem Bytes.far {w w' : World} {c d xb xo len : Nat} {z : Nat → Int} (h : Bytes w c xb xo len z) (hf : Far d w w') (hd : xb ≠ d) : Bytes w' c xb xo len z :=
  ⟨h.1, fun i hi => by
    obtain ⟨hc, hz⟩ := h.2 i hi
    exact ⟨(hf.cell (p := ⟨xb, xo + i, none⟩) (lt_of_cell hc) hd).trans hc, hz⟩⟩
theorem Rd.next {w : World} {c q k : Nat} (hp : w.cell? ⟨c, 1, none⟩ = some (.int .i64 q)) (hf : w.frozen? ⟨c, 1, none⟩ = false) {a : Option Addr} {len cap : Nat} (hs : w.cell? ⟨c, 0, none⟩ = some (.slice a len cap)) (hl : len ≤ 2000)
    (hb : len = 0 ∨ ∃ xb xo z, a = some ⟨xb, xo, none⟩ ∧ Bytes w c xb xo len z) : Rd ((w.setCell ⟨c, 1, none⟩ (.int .i64 ((q : Int) + 1))).drewN k) c (q + 1) := by
  have hfar := (Far.set w c 1 (.int .i64 ((q : Int) + 1))).draws k
  refine ⟨q + 1, Nat.le_refl _, ?_, ?_, a, len, cap, ?_, hl, ?_⟩
  · exact World.cell?_setCell_same _ _ _ hp
  · show (w.setCell ⟨c, 1, none⟩ (.int .i64 ((q : Int) + 1))).frozen? _ = _
    rw [World.frozen?_setCell]; exact hf
  · show (w.setCell ⟨c, 1, none⟩ (.int .i64 ((q : Int) + 1))).cell? _ = _
    rw [World.cell?_setCell_other _ _ _ _ (by intro e; injection e with _ e; cases e)]; exact hs
  · rcases hb with rfl | ⟨xb, xo, z, rfl, hb⟩
    · exact .inl rfl
    · exact .inr ⟨xb, xo, z, rfl, hb.far hfar (Nat.ne_of_lt hb.1)⟩

/-- a reader stays while blocks behind it are written. -/
theorem Rd.up {w w' : World} {c p : Nat} {r : Option Nat} (h : Rd w c p) (hg : w.grownBy w' r) (hr : ∀ k, r = some k → c < k) : Rd w' c p := by
  obtain ⟨q, hq, hc, hf, a, len, cap, hs, hl, hb⟩ := h
  have hlt := lt_of_cell hc
  have hcr : some c ≠ r := fun e => by have := hr c e.symm; omega
  have hbc : w'.heap[c]? = w.heap[c]? := hg.block c hlt hcr
  refine ⟨q, hq, (World.cell?_of_block (w := w) hbc).trans hc, (World.frozen?_of_block (w := w) hbc).trans hf, a, len, cap, (World.cell?_of_block (w := w) hbc).trans hs, hl, ?_⟩
  rcases hb with h | ⟨xb, xo, z, rfl, hb⟩
  · exact .inl h
  · refine .inr ⟨xb, xo, z, rfl, hb.1, fun i hi => ⟨?_, (hb.2 i hi).2⟩⟩
    have hx := (hb.2 i hi).1
    exact (World.cell?_of_block (w := w) (hg.block xb (lt_of_cell hx) (fun e => by have := hr xb e.symm; have := hb.1; omega))).trans hx

/-- what a pick leaves: a number below n, the reader one further. -/
def Picked (c p : Nat) (n : Int) (w : World) (e : Ending) (w' : World) : Prop :=
  ∃ m : Int, 0 ≤ m ∧ m < n ∧ e = .returned (.int .i64 m) ∧ Far c w w' ∧ Rd w' c (p + 1)

theorem pick (c p : Nat) (n : Int) (w : World) (h : Rd w c p) (hp : p ≤ 1000000) (n0 : 1 ≤ n) (n1 : n ≤ 1000000) :
    Calls Try.prog 77 #[.pointer (some ⟨c, 0, none⟩), .int .i64 n] w (Picked c p n w) := by
  obtain ⟨q, hq, hc, hf, a, len, cap, hs, hl, hb⟩ := h
  by_cases h0 : len = 0
  · subst h0
    refine (pickNone c cap a q n w hs hc hf (by omega) (by omega) n0 n1).mono ?_
    rintro e w' ⟨rfl, rfl⟩
    exact ⟨0, by omega, by omega, rfl, Far.set _ _ _ _, (Rd.next (k := 0) hc hf hs hl (.inl rfl)).mono (by omega)⟩
  · obtain ⟨xb, xo, z, rfl, hb'⟩ := hb.resolve_left h0
    by_cases hlt : q < len
    · refine (pickIn c cap xb xo len z q n w hs hc hf hb' hl hlt n0 n1).mono ?_
      rintro e w' ⟨rfl, rfl⟩
      exact ⟨z q % n, Int.emod_nonneg _ (by omega), Int.emod_lt_of_pos _ (by omega), rfl, Far.set _ _ _ _, (Rd.next (k := 0) hc hf hs hl hb).mono (by omega)⟩
    · refine (pickOut c cap xb xo len z q n w hs hc hf hb' hl (by omega) (by omega) (by omega) n0 n1).mono ?_
      rintro e w' ⟨m, m0, m1, rfl, k, rfl⟩
      exact ⟨m, m0, m1, rfl, (Far.set _ _ _ _).draws k, (Rd.next (k := k) hc hf hs hl hb).mono (by omega)⟩
end Go.Proofs.Ytbpkfcaokbidnab
