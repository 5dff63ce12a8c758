/-
  The contracts of what the laws of chapter 4 draw: which shards are there; a kind and which are there.
  Conditions: the reader has been read at most a million times.
-/
import Derived.Test.YtbpkfcaokbidnabDrawCode
import Derived.Test.YtbpkfcaokbidnabCodeSpec3
namespace Go.Proofs.Ytbpkfcaokbidnab
open Go.RowKit
set_option linter.unusedVariables false

theorem BOwn.far {w w' : World} {base c : Nat} {v : Value} {l : List Bool} (h : BOwn w base v l) (hf : Far c w w') (hc : c < base) : BOwn w' base v l :=
  h.kept (far_grown hf) (.inr fun e => by have := (World.ownsRow.lt h c e).1; omega)
/-- a slice that reads as flags, its cells in blocks from B on. -/
def BlUp (w : World) (B : Nat) (v : Value) (l : List Bool) : Prop := Bl w v l ∧ ∀ x n cap, v = .slice (some x) n cap → B ≤ x.block
theorem BlUp.far {w w' : World} {B c : Nat} {v : Value} {l : List Bool} (h : BlUp w B v l) (hf : Far c w w') (hc : c < B) : BlUp w' B v l := by
  refine ⟨?_, h.2⟩
  obtain ⟨a, cap, rfl, h1, h2, hr⟩ := h.1
  refine ⟨a, cap, rfl, h1, h2, ?_⟩
  rcases hr with h0 | ⟨b, o, rfl, hr⟩
  · exact .inl h0
  · have hb : B ≤ b := h.2 _ _ _ rfl
    refine .inr ⟨b, o, rfl, fun i hi => ?_⟩
    have hx := hr i hi
    exact (hf.cell (p := ⟨b, o + i, none⟩) (lt_of_cell hx) (by show b ≠ c; omega)).trans hx
theorem BOwn.up {w : World} {base : Nat} {v : Value} {l : List Bool} (h : BOwn w base v l) : BlUp w base v l := by
  refine ⟨h.bl, fun x n cap e => ?_⟩
  subst e
  exact (World.ownsRow.lt h x.block rfl).1
theorem BOwn.eight {w : World} {base : Nat} {v : Value} {l : List Bool} (h : BOwn w base v l) (h8 : l.length = 8) :
    ∃ g cap, v = .slice (some ⟨g, 0, none⟩) 8 cap ∧ base ≤ g ∧ g < w.heap.size ∧ 8 ≤ cap ∧ cap ≤ maxLen ∧ (∀ j, j < 8 → w.cell? ⟨g, j, none⟩ = some (.bool (l.getD j false))) ∧ ∀ j, w.frozen? ⟨g, j, none⟩ = false := by
  unfold BOwn at h
  rw [h8] at h
  rcases h.2 with ⟨_, h0⟩ | ⟨g, cap, cur, rfl, hb, hg, h1, h2, h3, ht⟩
  · omega
  · refine ⟨g, cap, rfl, hb, (Array.getElem?_eq_some_iff.1 hg).1, h1, h2, fun j hj => ?_, fun j => World.ownsRow.frozenAt h j⟩
    have hc := World.ownsRow.cells h (g := g) rfl j _ (bvals_get l j (by omega))
    rw [Addr.add_lit] at hc
    simpa using hc
theorem BOwn.put {w : World} {base g cap n : Nat} {l : List Bool} (h : BOwn w base (.slice (some ⟨g, 0, none⟩) n cap) l) (hn : n = l.length) (j : Nat) (x : Bool) :
    BOwn (w.setCell ⟨g, j, none⟩ (.bool x)) base (.slice (some ⟨g, 0, none⟩) n cap) (l.set j x) ∧ w.grownBy (w.setCell ⟨g, j, none⟩ (.bool x)) (some g) := by
  subst hn
  have hs := World.ownsRow.stored h j (.bool x)
  refine ⟨?_, hs.2⟩
  have := hs.1
  rw [bvals_set] at this
  unfold BOwn
  rw [List.length_set]
  exact this
/-- flags without the first. -/
theorem BOwn.tail {w : World} {base g cap : Nat} {l : List Bool} (h : BOwn w base (.slice (some ⟨g, 0, none⟩) 8 cap) l) (h8 : l.length = 8) :
    BlUp w base (.slice (some ⟨g, 1, none⟩) 7 (cap - 1)) l.tail := by
  obtain ⟨g', cap', e, hb, _, h1, h2, hc, _⟩ := h.eight h8
  injection e with e1 e2 e3
  injection e1 with e1
  injection e1 with e1
  subst e1 e3
  have e3 : l.tail.length = 7 := by rw [List.length_tail]; omega
  refine ⟨⟨some ⟨g, 1, none⟩, cap - 1, by rw [e3], by omega, by omega, .inr ⟨g, 1, rfl, fun i hi => ?_⟩⟩, fun x n c e => ?_⟩
  · rw [Nat.add_comm 1 i, hc (i + 1) (by omega)]
    congr 2
    cases l with
    | nil => simp at h8
    | cons y l => rfl
  · injection e with e
    injection e with e
    subst e
    exact hb
theorem below_eight {m : Int} (h0 : 0 ≤ m) (h1 : m < 8) : ∃ j : Nat, j < 8 ∧ m = j := ⟨m.toNat, by omega, by omega⟩

/-- what drawing flags leaves. -/
def DrawnThere (c p : Nat) (w : World) (e : Ending) (w' : World) : Prop :=
  ∃ v f, e = .returned v ∧ (f.length = 8 ∨ f.length = 7) ∧ Far c w w' ∧ BlUp w' w.heap.size v f ∧ Rd w' c (p + 10)

set_option maxHeartbeats 2000000 in
set_option maxRecDepth 20000 in
theorem drawThere (c p : Nat) (w : World) (h : Rd w c p) (hp : p ≤ 900000) : Calls Try.prog 82 #[.pointer (some ⟨c, 0, none⟩)] w (DrawnThere c p w) := by
  have hcw := h.lt
  have H := Lib.hid h
  clear h
  have SS := Lib.hid (fun w => specL4Set 255 (by omega) w)
  have BL := Lib.hid (bits_len 255)
  generalize Sp.bits 255 = f0 at *
  go_enter Try.func82, Try.ntmps82
  go_wp2_with fail
  refine (SS.out _).mono ?_
  rintro e w1 ⟨v, rfl, hg1, ho1⟩
  have R1 := Lib.hid (H.out.up hg1 (by simp))
  have F1 : Hid (Far c w w1) := Lib.hid ((Far.refl c w).own hg1 (by simp))
  have O1 := Lib.hid ho1
  clear hg1 ho1 SS H
  go_wp2_with fail
  refine (pick c p _ _ R1.out (by omega) (by omega) (by omega)).mono ?_
  rintro e w2 ⟨m, m0, m1, rfl, hf, h2⟩
  have F2 := Lib.hid (F1.out.trans hf)
  have R2 := Lib.hid h2
  have O2 := Lib.hid (O1.out.far hf hcw)
  clear hf h2 F1 R1 O1
  obtain ⟨m, hm6, rfl⟩ : ∃ j : Nat, j < 6 ∧ m = j := ⟨m.toNat, by omega, by omega⟩
  obtain ⟨g, cap, rfl, hb, _, hc8, hcm, _, _⟩ := O2.out.eight BL.out
  unfold maxLen at hcm
  clear m0 m1
  go_wp2_with fail
  go_loopw [4] (fun i wr => ∃ (k : Nat) (f : List Bool), k ≤ 5 ∧ i = .int .i64 k ∧ f.length = 8 ∧ Far c w wr ∧ Rd wr c (p + 6 - k) ∧ BOwn wr w.heap.size (.slice (some ⟨g, 0, none⟩) 8 cap) f) (fun i _ => (intOf i).toNat)
  case atStart => exact ⟨m, f0, by omega, rfl, BL.out, F2.out, R2.out.mono (by omega), O2.out⟩
  case round =>
    obtain ⟨k, f, hk, rfl, hf8, hf, hr, ho⟩ := hrel
    have F := Lib.hid hf
    have R := Lib.hid hr
    have O := Lib.hid ho
    have L8 := Lib.hid hf8
    clear hf hr ho hf8 F2 R2 O2
    by_cases hlt : 0 < k
    · have hlt' : (0 : Int) < (k : Int) := by omega
      go_wp2_with fail
      refine (pick c (p + 6 - k) _ _ R.out (by omega) (by omega) (by omega)).mono ?_
      rintro e w3 ⟨j, j0, j1, rfl, hf, h3⟩
      have F3 := Lib.hid (F.out.trans hf)
      have R3 := Lib.hid h3
      have O3 := Lib.hid (O.out.far hf hcw)
      clear hf h3 F R O
      obtain ⟨j, hj8, rfl⟩ := below_eight j0 j1
      have hj8' : (j : Int) < 8 := by omega
      obtain ⟨g', cap', e, _, _, _, _, hcell, hfr⟩ := O3.out.eight L8.out
      injection e with e1 e2 e3
      injection e1 with e1
      injection e1 with e1
      subst e1 e3
      have hx := hcell j hj8
      have hz := hfr j
      have P := Lib.hid (O3.out.put L8.out.symm j false)
      have F4 : Hid (Far c w (w3.setCell ⟨g, j, none⟩ (.bool false))) := Lib.hid (F3.out.own P.out.2 (fun q hq => by injection hq with hq; omega))
      have R4 : Hid (Rd (w3.setCell ⟨g, j, none⟩ (.bool false)) c (p + 6 - k + 1)) := Lib.hid (R3.out.up P.out.2 (fun q hq => by injection hq with hq; omega))
      clear e2 hcell hfr j0 j1
      go_wp2_with fail
      clear hx hz
      go_roundw
      case rel => exact ⟨k - 1, f.set j false, by omega, by go_num, by rw [List.length_set]; exact L8.out, F4.out, R4.out.mono (by omega), P.out.1⟩
      case measure => simp [intOf]; omega
    · obtain rfl : k = 0 := by omega
      go_wp2_with fail
      refine (pick c (p + 6 - 0) _ _ R.out (by omega) (by omega) (by omega)).mono ?_
      rintro e w3 ⟨j, j0, j1, rfl, hf, h3⟩
      have F3 := Lib.hid (F.out.trans hf)
      have R3 := Lib.hid h3
      have O3 := Lib.hid (O.out.far hf hcw)
      clear hf h3 F R O
      by_cases hj : j = 0
      · subst hj
        have h7 : f.tail.length = 7 := by rw [List.length_tail, L8.out]
        have H7 := Lib.hid h7
        clear h7
        go_wp2_with fail
        go_ret
        exact ⟨_, f.tail, rfl, .inr H7.out, F3.out, O3.out.tail L8.out, R3.out.mono (by omega)⟩
      · have hj' : (j == 0) = false := by rw [beq_eq_false_iff_ne]; exact hj
        go_wp2_with fail
        go_ret
        exact ⟨_, f, rfl, .inl L8.out, F3.out, O3.out.up, R3.out.mono (by omega)⟩

/-- a kind, and which are there. -/
def DrawnKT (w : World) (e : Ending) (w' : World) : Prop :=
  ∃ (m : Nat) (v : Value) (f : List Bool), m ≤ 3 ∧ e = .returned (.tuple #[.int .i64 m, v]) ∧ (f.length = 8 ∨ f.length = 7) ∧ Bl w' v f ∧ Below w.heap.size w w'

set_option maxHeartbeats 1000000 in
set_option maxRecDepth 20000 in
theorem drawCodeBears (a : Option Addr) (len cap : Nat) (w : World) (h : Code w a len cap) : Calls Try.prog 39 #[.slice a len cap] w (DrawnKT w) := by
  have H := Lib.hid h
  clear h
  go_enter Try.func39, Try.ntmps39
  go_wp2_with fail
  refine (openR a len cap _ H.out).mono ?_
  rintro e w1 ⟨rfl, hb1, h1⟩
  have B1 := Lib.hid hb1
  have H1 := Lib.hid h1
  clear hb1 h1
  go_wp2_with fail
  refine (drawKind w.heap.size 0 _ H1.out (by omega)).mono ?_
  rintro e w2 ⟨m, hm, rfl, hf2, h2⟩
  have F2 := Lib.hid hf2
  have H2 := Lib.hid h2
  clear hf2 h2 H1
  go_wp2_with fail
  refine (drawThere w.heap.size (0 + 2) _ H2.out (by omega)).mono ?_
  rintro e w3 ⟨v, f, rfl, hf8, hf3, hu, h3⟩
  have F3 := Lib.hid hf3
  have U := Lib.hid hu
  have L8 := Lib.hid hf8
  clear hf3 h3 hu hf8
  go_wp2_with fail
  go_ret2
  exact ⟨m, v, f, hm, rfl, L8.out, U.out.1, B1.out.trans ((F2.out.trans F3.out).below (Nat.le_refl _) B1.out.size)⟩
end Go.Proofs.Ytbpkfcaokbidnab
