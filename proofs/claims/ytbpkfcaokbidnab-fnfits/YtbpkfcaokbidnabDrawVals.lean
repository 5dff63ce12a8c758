/-
  The contracts of what the laws of chapter 4 draw: values of shards, and which are there.
  Conditions: the reader has been read at most a million times.
-/
import Derived.Test.YtbpkfcaokbidnabDrawThere
import Derived.Test.YtbpkfcaokbidnabCodeAllSpec
namespace Go.Proofs.Ytbpkfcaokbidnab
open Go.RowKit
set_option linter.unusedVariables false

theorem BlUp.kept {w w' : World} {B g : Nat} {v : Value} {l : List Bool} (h : BlUp w B v l) (hg : w.grownBy w' (some g)) (hb : g < B) : BlUp w' B v l := by
  refine ⟨?_, h.2⟩
  obtain ⟨a, cap, rfl, h1, h2, hr⟩ := h.1
  refine ⟨a, cap, rfl, h1, h2, ?_⟩
  rcases hr with h0 | ⟨b, o, rfl, hr⟩
  · exact .inl h0
  · have hb' : B ≤ b := h.2 _ _ _ rfl
    exact .inr ⟨b, o, rfl, fun i hi => hg.cell (hr i hi) (fun e => by injection e with e; have : b = g := e; omega)⟩
theorem Own.eight {w : World} {base : Nat} {v : Value} {l : List Int} (h : Own w base v l) (h8 : l.length = 8) :
    ∃ g cap, v = .slice (some ⟨g, 0, none⟩) 8 cap ∧ base ≤ g ∧ g < w.heap.size ∧ 8 ≤ cap ∧ cap ≤ maxLen ∧ (∀ j, j < 8 → w.cell? ⟨g, j, none⟩ = some (.int .i64 (l.getD j 0))) ∧ ∀ j, w.frozen? ⟨g, j, none⟩ = false := by
  unfold Own at h
  rw [h8] at h
  rcases h.2 with ⟨_, h0⟩ | ⟨g, cap, cur, rfl, hb, hg, h1, h2, h3, ht⟩
  · omega
  · refine ⟨g, cap, rfl, hb, (Array.getElem?_eq_some_iff.1 hg).1, h1, h2, fun j hj => ?_, fun j => World.ownsRow.frozenAt h j⟩
    have hc := World.ownsRow.cells h (g := g) rfl j _ (vals_get l j (by omega))
    rw [Addr.add_lit] at hc
    simpa using hc
theorem Own.put8 {w : World} {base g cap : Nat} {l : List Int} (h : Own w base (.slice (some ⟨g, 0, none⟩) 8 cap) l) (h8 : l.length = 8) (j : Nat) (x : Int) :
    Own (w.setCell ⟨g, j, none⟩ (.int .i64 x)) base (.slice (some ⟨g, 0, none⟩) 8 cap) (l.set j x) ∧ w.grownBy (w.setCell ⟨g, j, none⟩ (.int .i64 x)) (some g) := by
  unfold Own at h
  rw [h8] at h
  have hs := World.ownsRow.stored h j (.int .i64 x)
  refine ⟨own_len (n := 8) ?_ (by rw [List.length_set]; exact h8), hs.2⟩
  rw [← vals_set]
  exact hs.1

/-- a kind, values, and which are there. -/
def DrawnVals (c : Nat) (w : World) (e : Ending) (w' : World) : Prop :=
  ∃ (m : Nat) (u v : Value) (l : List Int) (f : List Bool), m ≤ 3 ∧ e = .returned (.tuple #[.int .i64 m, u, v]) ∧ l.length = 8 ∧ (f.length = 8 ∨ f.length = 7) ∧ Sl w' u l ∧ Bl w' v f ∧ Far c w w'

set_option maxHeartbeats 4000000 in
set_option maxRecDepth 20000 in
theorem drawVals (c p : Nat) (w : World) (h : Rd w c p) (hp : p ≤ 800000) : Calls Try.prog 92 #[.pointer (some ⟨c, 0, none⟩)] w (DrawnVals c w) := by
  have hcw := h.lt
  have H := Lib.hid h
  clear h
  go_enter Try.func92, Try.ntmps92
  go_wp2_with fail
  refine (pick c p _ _ H.out (by omega) (by omega) (by omega)).mono ?_
  rintro e w1 ⟨m, m0, m1, rfl, hf, h1⟩
  have F1 := Lib.hid hf
  have R1 := Lib.hid h1
  clear hf h1 H
  obtain ⟨k, hk, hke⟩ : ∃ k : Nat, (k = 1 ∨ k = 2) ∧ 1 + m = k := ⟨(1 + m).toNat, by omega, by omega⟩
  have HK := Lib.hid hk
  go_wp2_with fail
  refine (pick c (p + 1) _ _ R1.out (by omega) (by omega) (by omega)).mono ?_
  rintro e w2 ⟨q1, q10, q11, rfl, hf, h2⟩
  have F2 := Lib.hid (F1.out.trans hf)
  have R2 := Lib.hid h2
  clear hf h2 F1 R1
  go_wp2_with fail
  refine (pick c (p + 1 + 1) _ _ R2.out (by omega) (by omega) (by omega)).mono ?_
  rintro e w3 ⟨q2, q20, q21, rfl, hf, h3⟩
  have F3 := Lib.hid (F2.out.trans hf)
  have R3 := Lib.hid h3
  clear hf h3 F2 R2
  go_wp2_with fail
  refine (pick c (p + 1 + 1 + 1) _ _ R3.out (by omega) (by omega) (by omega)).mono ?_
  rintro e w4 ⟨q3, q30, q31, rfl, hf, h4⟩
  have F4 := Lib.hid (F3.out.trans hf)
  have R4 := Lib.hid h4
  clear hf h4 F3 R3
  go_wp2_with fail
  refine (pick c (p + 1 + 1 + 1 + 1) _ _ R4.out (by omega) (by omega) (by omega)).mono ?_
  rintro e w5 ⟨q4, q40, q41, rfl, hf, h5⟩
  have F5 : Hid (Far c w (w5.alloc (.cells (vals [q1, q2, q3, q4]).toArray 3))) := Lib.hid ((F4.out.trans hf).trans (Far.alloc _ _))
  have R5 : Hid (Rd (w5.alloc (.cells (vals [q1, q2, q3, q4]).toArray 3)) c (p + 1 + 1 + 1 + 1 + 1)) := Lib.hid (h5.alloc _)
  have S5 : Hid (Sl (w5.alloc (.cells (vals [q1, q2, q3, q4]).toArray 3)) (.slice (some ⟨w5.heap.size, 0, none⟩) 4 4) [q1, q2, q3, q4]) := Lib.hid ((Arr.new w5 3 [q1, q2, q3, q4]).own rfl 0 (Nat.zero_le _) (by simp [maxLen])).sl
  have D5 : Hid (Vec.ok [q1, q2, q3, q4] = true) := Lib.hid (Vec.ok_mk (Fld.ok_true q10 (by omega)) (Fld.ok_true q20 (by omega)) (Fld.ok_true q30 (by omega)) (Fld.ok_true q40 (by omega)))
  clear hf h5 F4 R4
  go_wp2_with fail
  change Calls _ _ _ (w5.alloc (.cells (vals [q1, q2, q3, q4]).toArray 3)) _
  generalize w5.alloc (.cells (vals [q1, q2, q3, q4]).toArray 3) = w6 at *
  refine (specL4All HK.out _ [q1, q2, q3, q4] _ S5.out D5.out).mono ?_
  rintro e w7 ⟨u, rfl, hg, ho⟩
  have s6 : w.heap.size ≤ w6.heap.size := F5.out.size
  have F7 : Hid (Far c w w7) := Lib.hid (F5.out.own hg (by simp))
  have R7 := Lib.hid (R5.out.up hg (by simp))
  have O7 := Lib.hid (ho.lower s6)
  have L8 := Lib.hid (allK_len k [q1, q2, q3, q4] 8)
  clear hg ho F5 R5 S5 D5
  generalize allK k [q1, q2, q3, q4] 8 = l at *
  go_wp2_with fail
  refine (drawThere c (p + 1 + 1 + 1 + 1 + 1) _ R7.out (by omega)).mono ?_
  rintro e w8 ⟨v, f, rfl, hf8, hf, hbu, h8⟩
  have F8 := Lib.hid (F7.out.trans hf)
  have R8 := Lib.hid h8
  have B8 := Lib.hid hbu
  have O8 := Lib.hid (O7.out.far hf hcw)
  have HF8 := Lib.hid hf8
  obtain ⟨g, cap, rfl, gb, g7, gc, gm, _, _⟩ := O7.out.eight L8.out
  unfold maxLen at gm
  have hc7 : c < w7.heap.size := R7.out.lt
  clear hf h8 hbu hf8 F7 R7 O7
  go_wp2_with fail
  refine (pick c (p + 1 + 1 + 1 + 1 + 1 + 10) _ _ R8.out (by omega) (by omega) (by omega)).mono ?_
  rintro e w9 ⟨j, j0, j1, rfl, hf, h9⟩
  have F9 := Lib.hid (F8.out.trans hf)
  have R9 := Lib.hid h9
  have B9 := Lib.hid (B8.out.far hf hc7)
  have O9 := Lib.hid (O8.out.far hf hcw)
  clear hf h9 F8 R8 B8 O8
  by_cases hj0 : j = 0
  · subst hj0
    go_wp2_with fail
    refine (pick c (p + 1 + 1 + 1 + 1 + 1 + 10 + 1) _ _ R9.out (by omega) (by omega) (by omega)).mono ?_
    rintro e wa ⟨i, i0, i1, rfl, hf, ha⟩
    have Fa := Lib.hid (F9.out.trans hf)
    have Ra := Lib.hid ha
    have Ba := Lib.hid (B9.out.far hf hc7)
    have Oa := Lib.hid (O9.out.far hf hcw)
    clear hf ha F9 R9 B9 O9
    obtain ⟨i, hi8, rfl⟩ := below_eight i0 i1
    have hi8' : (i : Int) < 8 := by omega
    go_wp2_with fail
    refine (num c (p + 1 + 1 + 1 + 1 + 1 + 10 + 1 + 1) _ Ra.out (by omega)).mono ?_
    rintro e wb ⟨x, x0, x1, rfl, hf, hb⟩
    have Fb := Lib.hid (Fa.out.trans hf)
    have Bb := Lib.hid (Ba.out.far hf hc7)
    have Ob := Lib.hid (Oa.out.far hf hcw)
    clear hf hb Fa Ra Ba Oa
    obtain ⟨g', cap', e, _, _, _, _, hcell, hfr⟩ := Ob.out.eight L8.out
    injection e with e1 e2 e3
    injection e1 with e1
    injection e1 with e1
    subst e1 e3
    have hx := hcell i hi8
    have hz := hfr i
    have P := Lib.hid (Ob.out.put8 L8.out i x)
    have Fc : Hid (Far c w (wb.setCell ⟨g, i, none⟩ (.int .i64 x))) := Lib.hid (Fb.out.own P.out.2 (fun q hq => by injection hq with hq; omega))
    have Bc : Hid (BlUp (wb.setCell ⟨g, i, none⟩ (.int .i64 x)) w7.heap.size v f) := Lib.hid (Bb.out.kept P.out.2 g7)
    have LS : Hid ((l.set i x).length = 8) := Lib.hid (by rw [List.length_set]; exact L8.out)
    clear e2 hcell hfr i0 i1 Bb Ob Fb
    go_wp2_with fail
    refine bodyPost_ret (v := .tuple #[.int .i64 k, .slice (some ⟨g, 0, none⟩) 8 cap, v]) (by simp [results, Try.results92, go_sem]) rfl ?_
    exact ⟨k, _, _, l.set i x, f, by omega, rfl, LS.out, HF8.out, P.out.1.sl, Bc.out.1, Fc.out⟩
  · have e0 : (j == 0) = false := by rw [beq_eq_false_iff_ne]; exact hj0
    by_cases hj1 : j = 1
    · subst hj1
      clear e0 hj0
      go_wp2_with fail
      refine (pick c (p + 1 + 1 + 1 + 1 + 1 + 10 + 1) _ _ R9.out (by omega) (by omega) (by omega)).mono ?_
      rintro e wa ⟨i, i0, i1, rfl, hf, ha⟩
      have Fa := Lib.hid (F9.out.trans hf)
      have Ra := Lib.hid ha
      have Ba := Lib.hid (B9.out.far hf hc7)
      have Oa := Lib.hid (O9.out.far hf hcw)
      clear hf ha F9 R9 B9 O9
      by_cases hi0 : i = 0
      · subst hi0
        go_wp2_with fail
        refine (drawKind c (p + 1 + 1 + 1 + 1 + 1 + 10 + 1 + 1) _ Ra.out (by omega)).mono ?_
        rintro e wb ⟨m', hm', rfl, hf, hb⟩
        have Fb := Lib.hid (Fa.out.trans hf)
        have Bb := Lib.hid (Ba.out.far hf hc7)
        have Ob := Lib.hid (Oa.out.far hf hcw)
        clear hf hb Fa Ra Ba Oa
        go_wp2_with fail
        refine bodyPost_ret (v := .tuple #[.int .i64 m', .slice (some ⟨g, 0, none⟩) 8 cap, v]) (by simp [results, Try.results92, go_sem]) rfl ?_
        exact ⟨m', _, _, l, f, hm', rfl, L8.out, HF8.out, Ob.out.sl, Bb.out.1, Fb.out⟩
      · have e0 : (i == 0) = false := by rw [beq_eq_false_iff_ne]; exact hi0
        go_wp2_with fail
        refine bodyPost_ret (v := .tuple #[.int .i64 k, .slice (some ⟨g, 0, none⟩) 8 cap, v]) (by simp [results, Try.results92, go_sem]) rfl ?_
        exact ⟨k, _, _, l, f, by omega, rfl, L8.out, HF8.out, Oa.out.sl, Ba.out.1, Fa.out⟩
    · have e1 : (j == 1) = false := by rw [beq_eq_false_iff_ne]; exact hj1
      go_wp2_with fail
      refine bodyPost_ret (v := .tuple #[.int .i64 k, .slice (some ⟨g, 0, none⟩) 8 cap, v]) (by simp [results, Try.results92, go_sem]) rfl ?_
      exact ⟨k, _, _, l, f, by omega, rfl, L8.out, HF8.out, O9.out.sl, B9.out.1, F9.out⟩

/-- what drawing for CodeFits leaves. -/
def DrawnFits (w : World) (e : Ending) (w' : World) : Prop :=
  ∃ (m : Nat) (u v : Value) (l : List Int) (f : List Bool), m ≤ 3 ∧ e = .returned (.tuple #[.int .i64 m, u, v]) ∧ l.length = 8 ∧ (f.length = 8 ∨ f.length = 7) ∧ Sl w' u l ∧ Bl w' v f ∧ Below w.heap.size w w'

set_option maxHeartbeats 1000000 in
set_option maxRecDepth 20000 in
theorem drawCodeFits (a : Option Addr) (len cap : Nat) (w : World) (h : Code w a len cap) : Calls Try.prog 49 #[.slice a len cap] w (DrawnFits w) := by
  have H := Lib.hid h
  clear h
  go_enter Try.func49, Try.ntmps49
  go_wp2_with fail
  refine (openR a len cap _ H.out).mono ?_
  rintro e w1 ⟨rfl, hb1, h1⟩
  have B1 := Lib.hid hb1
  have H1 := Lib.hid h1
  clear hb1 h1
  go_wp2_with fail
  refine (drawVals w.heap.size 0 _ H1.out (by omega)).mono ?_
  rintro e w2 ⟨m, u, v, l, f, hm, rfl, hl, hf, hs, hb, hfar⟩
  have F2 := Lib.hid hfar
  have S2 := Lib.hid hs
  have V2 := Lib.hid hb
  have LL := Lib.hid hl
  have LF := Lib.hid hf
  clear hfar hs hb hl hf H1
  go_wp2_with fail
  refine bodyPost_ret (v := .tuple #[.int .i64 m, u, v]) (by simp [results, Try.results49, go_sem]) rfl ?_
  exact ⟨m, u, v, l, f, hm, rfl, LL.out, LF.out, S2.out, V2.out, B1.out.trans (F2.out.below (Nat.le_refl _) B1.out.size)⟩
end Go.Proofs.Ytbpkfcaokbidnab
