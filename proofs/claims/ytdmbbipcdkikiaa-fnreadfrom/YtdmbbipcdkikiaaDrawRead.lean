/-
  The contracts of what the laws of chapter 13 draw.
  Conditions: the reader has been read at most a million times.
-/
import Derived.Test.YtdmbbipcdkikiaaG4
import Derived.Test.YtdmbbipcdkikiaaReadTake
import Derived.Shelf.RegionOpen
import Derived.Shelf.Abstract
namespace Go.Proofs.Ytdmbbipcdkikiaa.Rg
open Go.RowKit
set_option linter.unusedVariables false
theorem any_take {P : Program} {md : Region.Mode} {ops : Array Oper} {Q : Exit → Act → World → Prop} (i : Nat) (d : Option Tmp) (v : Value) {oi : Oper} {fuel : Nat} {listed : Array Bool} {a : Act} {w : World} (hi : ops[i]? = some oi) (hd : oi.dst = d)
    (hs : Region.noSelect ops = true) (hf : Region.free md ops listed i = true) (hr : (Region.ready md ops listed).contains i = true)
    (hQ : ∀ c a w, Q (.panic c) (a.put d v) w → Q (.panic c) a w) (hy : Yields P ops oi v a)
    (h : wpAny P md ops Q fuel (listed.setIfInBounds i true) (a.put d v) w) : wpAny P md ops Q (fuel + 1) listed a w := by
  subst hd
  exact wpAny_take hi hs hf hr hQ hy h
theorem any_one {P : Program} {md : Region.Mode} {ops : Array Oper} {Q : Exit → Act → World → Prop} {fuel i : Nat} {listed : Array Bool} {a : Act} {w : World} {o : Oper} (hr : Region.ready md ops listed = [i]) (ho : ops[i]? = some o) (hw : Region.wanted o (yielded ops a.tmps) = true)
    (h : o.wp P a w (fun a' w' => wpAny P md ops Q fuel (listed.setIfInBounds i true) a' w') Q) : wpAny P md ops Q (fuel + 1) listed a w :=
  wpAny_all hr (by simp) (fun j hj => by
    obtain rfl : j = i := by simpa using hj
    unfold wpOp
    rw [ho]
    simp only [hw, if_true]
    exact .inl h)
theorem any_two {P : Program} {md : Region.Mode} {ops : Array Oper} {Q : Exit → Act → World → Prop} {fuel i k : Nat} {listed : Array Bool} {a : Act} {w : World} {o p : Oper} (hr : Region.ready md ops listed = [i, k]) (ho : ops[i]? = some o) (hp : ops[k]? = some p) (hw : Region.wanted o (yielded ops a.tmps) = true) (hv : Region.wanted p (yielded ops a.tmps) = true)
    (h : o.wp P a w (fun a' w' => wpAny P md ops Q fuel (listed.setIfInBounds i true) a' w') Q) (h' : p.wp P a w (fun a' w' => wpAny P md ops Q fuel (listed.setIfInBounds k true) a' w') Q) : wpAny P md ops Q (fuel + 1) listed a w :=
  wpAny_all hr (by simp) (fun j hj => by
    rcases (by simpa using hj : j = i ∨ j = k) with rfl | rfl
    · unfold wpOp
      rw [ho]
      simp only [hw, if_true]
      exact .inl h
    · unfold wpOp
      rw [hp]
      simp only [hv, if_true]
      exact .inl h')
theorem any_done {P : Program} {md : Region.Mode} {ops : Array Oper} {Q : Exit → Act → World → Prop} {listed : Array Bool} {a : Act} {w : World} (hr : Region.ready md ops listed = []) (h : Q .normal a w) : ∀ fuel, wpAny P md ops Q fuel listed a w :=
  wpAny_done hr h
end Go.Proofs.Ytdmbbipcdkikiaa.Rg

namespace Go.Proofs.Ytdmbbipcdkikiaa
open Go.RowKit Go.Shelf
set_option linter.unusedVariables false
set_option linter.unusedSimpArgs false
attribute [local go_sem] Oper.semAt_some

/-- numbers that are small. -/
def Small (l : List Int) : Prop := ∀ i, -1 ≤ l.getD i 0 ∧ l.getD i 0 ≤ 31
theorem small_set {l : List Int} (h : Small l) (i : Nat) {x : Int} (h0 : -1 ≤ x) (h1 : x ≤ 31) : Small (l.set i x) := fun j => by
  by_cases e : i = j
  · subst e
    by_cases hl : i < l.length
    · have : (l.set i x).getD i 0 = x := by simp [List.getD_eq_getElem?_getD, hl]
      rw [this]; exact ⟨h0, h1⟩
    · rw [List.set_eq_of_length_le (by omega)]; exact h i
  · have : (l.set i x).getD j 0 = l.getD j 0 := by simp only [List.getD_eq_getElem?_getD, List.getElem?_set_ne e]
    rw [this]; exact h j
theorem allK_small {k : Nat} (hk : k = 1 ∨ k = 2) (d : List Int) (hd : Vec.ok d = true) : Small (allK k d 8) := fun j => by
  rcases Nat.lt_or_ge j 8 with hj | hj
  · have e : (allK k d 8).getD j 0 = Vec.dot (Sp.crow k j) d := by simp [allK, List.getD_eq_getElem?_getD, hj]
    rw [e, Vec.dot_ok (Sp.row_ok.2 (Sp.crow_row hk hj)) hd]
    omega
  · have e : (allK k d 8).getD j 0 = 0 := by
      rw [List.getD_eq_getElem?_getD, List.getElem?_eq_none (by rw [allK_len]; omega)]; rfl
    rw [e]; omega

/-- a kind, values of its own, and which are there; the reader reads on. -/
def DrawnValsO (c p : Nat) (w : World) (e : Ending) (w' : World) : Prop :=
  ∃ (m g cap : Nat) (v : Value) (l : List Int) (f : List Bool) (B p' : Nat), m ≤ 3 ∧ e = .returned (.tuple #[.int .i64 m, .slice (some ⟨g, 0, none⟩) 8 cap, v]) ∧ l.length = 8 ∧ (f.length = 8 ∨ f.length = 7) ∧ Own w' w.heap.size (.slice (some ⟨g, 0, none⟩) 8 cap) l ∧ Small l ∧ BlUp w' B v f ∧ g < B ∧ Far c w w' ∧ Rd w' c p' ∧ p' ≤ p + 40

set_option maxHeartbeats 4000000 in
set_option maxRecDepth 20000 in
theorem drawValsO (c p : Nat) (w : World) (h : Rd w c p) (hp : p ≤ 800000) : Calls Try.prog 46 #[.pointer (some ⟨c, 0, none⟩)] w (DrawnValsO c p w) := by
  have hcw := h.lt
  have H := Lib.hid h
  clear h
  go_enter Try.func46, Try.ntmps46
  go_wp2_with fail
  refine (pick c p _ _ H.out (by omega) (by omega) (by omega)).mono ?_
  rintro e w1 ⟨m, m0, m1, rfl, hf, h1⟩
  have F1 := Lib.hid hf
  have R1 := Lib.hid h1
  clear hf h1 H
  obtain ⟨k, hk, hke⟩ : ∃ k : Nat, (k = 1 ∨ k = 2) ∧ 1 + m = k := ⟨(1 + m).toNat, by omega, by omega⟩
  have HK := Lib.hid hk
  go_wp2_with fail
  refine (pick c (p + 1) _ _ R1.out (by omega) (by omega) (by omega)).mono ?_
  rintro e w2 ⟨q1, q10, q11, rfl, hf, h2⟩
  have F2 := Lib.hid (F1.out.trans hf)
  have R2 := Lib.hid h2
  clear hf h2 F1 R1
  go_wp2_with fail
  refine (pick c (p + 1 + 1) _ _ R2.out (by omega) (by omega) (by omega)).mono ?_
  rintro e w3 ⟨q2, q20, q21, rfl, hf, h3⟩
  have F3 := Lib.hid (F2.out.trans hf)
  have R3 := Lib.hid h3
  clear hf h3 F2 R2
  go_wp2_with fail
  refine (pick c (p + 1 + 1 + 1) _ _ R3.out (by omega) (by omega) (by omega)).mono ?_
  rintro e w4 ⟨q3, q30, q31, rfl, hf, h4⟩
  have F4 := Lib.hid (F3.out.trans hf)
  have R4 := Lib.hid h4
  clear hf h4 F3 R3
  go_wp2_with fail
  refine (pick c (p + 1 + 1 + 1 + 1) _ _ R4.out (by omega) (by omega) (by omega)).mono ?_
  rintro e w5 ⟨q4, q40, q41, rfl, hf, h5⟩
  have F5 : Hid (Far c w (w5.alloc (.cells (vals [q1, q2, q3, q4]).toArray 3))) := Lib.hid ((F4.out.trans hf).trans (Far.alloc _ _))
  have R5 : Hid (Rd (w5.alloc (.cells (vals [q1, q2, q3, q4]).toArray 3)) c (p + 1 + 1 + 1 + 1 + 1)) := Lib.hid (h5.alloc _)
  have S5 : Hid (Sl (w5.alloc (.cells (vals [q1, q2, q3, q4]).toArray 3)) (.slice (some ⟨w5.heap.size, 0, none⟩) 4 4) [q1, q2, q3, q4]) := Lib.hid ((Arr.new w5 3 [q1, q2, q3, q4]).own rfl 0 (Nat.zero_le _) (by simp [maxLen])).sl
  have D5 : Hid (Vec.ok [q1, q2, q3, q4] = true) := Lib.hid (Vec.ok_mk (Fld.ok_true q10 (by omega)) (Fld.ok_true q20 (by omega)) (Fld.ok_true q30 (by omega)) (Fld.ok_true q40 (by omega)))
  clear hf h5 F4 R4
  go_wp2_with fail
  change Calls _ _ _ (w5.alloc (.cells (vals [q1, q2, q3, q4]).toArray 3)) _
  generalize w5.alloc (.cells (vals [q1, q2, q3, q4]).toArray 3) = w6 at *
  refine (specL4All HK.out _ [q1, q2, q3, q4] _ S5.out D5.out).mono ?_
  rintro e w7 ⟨u, rfl, hg, ho⟩
  have s6 : w.heap.size ≤ w6.heap.size := F5.out.size
  have F7 : Hid (Far c w w7) := Lib.hid (F5.out.own hg (by simp))
  have R7 := Lib.hid (R5.out.up hg (by simp))
  have O7 := Lib.hid (ho.lower s6)
  have L8 := Lib.hid (allK_len k [q1, q2, q3, q4] 8)
  have SM := Lib.hid (allK_small HK.out [q1, q2, q3, q4] D5.out)
  clear hg ho F5 R5 S5 D5
  generalize allK k [q1, q2, q3, q4] 8 = l at *
  go_wp2_with fail
  refine (drawThere c (p + 1 + 1 + 1 + 1 + 1) _ R7.out (by omega)).mono ?_
  rintro e w8 ⟨v, f, rfl, hf8, hf, hbu, h8⟩
  have F8 := Lib.hid (F7.out.trans hf)
  have R8 := Lib.hid h8
  have B8 := Lib.hid hbu
  have O8 := Lib.hid (O7.out.far hf hcw)
  have HF8 := Lib.hid hf8
  obtain ⟨g, cap, rfl, gb, g7, gc, gm, _, _⟩ := O7.out.eight L8.out
  unfold maxLen at gm
  have hc7 : c < w7.heap.size := R7.out.lt
  clear hf h8 hbu hf8 F7 R7 O7
  go_wp2_with fail
  refine (pick c (p + 1 + 1 + 1 + 1 + 1 + 10) _ _ R8.out (by omega) (by omega) (by omega)).mono ?_
  rintro e w9 ⟨j, j0, j1, rfl, hf, h9⟩
  have F9 := Lib.hid (F8.out.trans hf)
  have R9 := Lib.hid h9
  have B9 := Lib.hid (B8.out.far hf hc7)
  have O9 := Lib.hid (O8.out.far hf hcw)
  clear hf h9 F8 R8 B8 O8
  by_cases hj0 : j = 0
  · subst hj0
    go_wp2_with fail
    refine (pick c (p + 1 + 1 + 1 + 1 + 1 + 10 + 1) _ _ R9.out (by omega) (by omega) (by omega)).mono ?_
    rintro e wa ⟨i, i0, i1, rfl, hf, ha⟩
    have Fa := Lib.hid (F9.out.trans hf)
    have Ra := Lib.hid ha
    have Ba := Lib.hid (B9.out.far hf hc7)
    have Oa := Lib.hid (O9.out.far hf hcw)
    clear hf ha F9 R9 B9 O9
    obtain ⟨i, hi8, rfl⟩ := below_eight i0 i1
    have hi8' : (i : Int) < 8 := by omega
    go_wp2_with fail
    refine (num c (p + 1 + 1 + 1 + 1 + 1 + 10 + 1 + 1) _ Ra.out (by omega)).mono ?_
    rintro e wb ⟨x, x0, x1, rfl, hf, hb⟩
    have Fb := Lib.hid (Fa.out.trans hf)
    have Bb := Lib.hid (Ba.out.far hf hc7)
    have Ob := Lib.hid (Oa.out.far hf hcw)
    have Rb := Lib.hid hb
    clear hf hb Fa Ra Ba Oa
    obtain ⟨g', cap', e, _, _, _, _, hcell, hfr⟩ := Ob.out.eight L8.out
    injection e with e1 e2 e3
    injection e1 with e1
    injection e1 with e1
    subst e1 e3
    have hx := hcell i hi8
    have hz := hfr i
    have P := Lib.hid (Ob.out.put8 L8.out i x)
    have Fc : Hid (Far c w (wb.setCell ⟨g, i, none⟩ (.int .i64 x))) := Lib.hid (Fb.out.own P.out.2 (fun q hq => by injection hq with hq; omega))
    have Bc : Hid (BlUp (wb.setCell ⟨g, i, none⟩ (.int .i64 x)) w7.heap.size v f) := Lib.hid (Bb.out.kept P.out.2 g7)
    have Rc : Hid (Rd (wb.setCell ⟨g, i, none⟩ (.int .i64 x)) c _) := Lib.hid (Rb.out.up P.out.2 (fun q hq => by injection hq with hq; omega))
    have SS := Lib.hid (small_set SM.out i x0 x1)
    have LS : Hid ((l.set i x).length = 8) := Lib.hid (by rw [List.length_set]; exact L8.out)
    clear e2 hcell hfr i0 i1 Bb Ob Fb
    go_wp2_with fail
    refine bodyPost_ret (v := .tuple #[.int .i64 k, .slice (some ⟨g, 0, none⟩) 8 cap, v]) (by simp [results, Try.results46, go_sem]) rfl ?_
    exact ⟨k, g, cap, v, l.set i x, f, w7.heap.size, _, by omega, rfl, LS.out, HF8.out, P.out.1, SS.out, Bc.out, g7, Fc.out, Rc.out, by omega⟩
  · have e0 : (j == 0) = false := by rw [beq_eq_false_iff_ne]; exact hj0
    by_cases hj1 : j = 1
    · subst hj1
      clear e0 hj0
      go_wp2_with fail
      refine (pick c (p + 1 + 1 + 1 + 1 + 1 + 10 + 1) _ _ R9.out (by omega) (by omega) (by omega)).mono ?_
      rintro e wa ⟨i, i0, i1, rfl, hf, ha⟩
      have Fa := Lib.hid (F9.out.trans hf)
      have Ra := Lib.hid ha
      have Ba := Lib.hid (B9.out.far hf hc7)
      have Oa := Lib.hid (O9.out.far hf hcw)
      clear hf ha F9 R9 B9 O9
      by_cases hi0 : i = 0
      · subst hi0
        go_wp2_with fail
        refine (drawKind c (p + 1 + 1 + 1 + 1 + 1 + 10 + 1 + 1) _ Ra.out (by omega)).mono ?_
        rintro e wb ⟨m', hm', rfl, hf, hb⟩
        have Fb := Lib.hid (Fa.out.trans hf)
        have Bb := Lib.hid (Ba.out.far hf hc7)
        have Ob := Lib.hid (Oa.out.far hf hcw)
        have Rb := Lib.hid hb
        clear hf hb Fa Ra Ba Oa
        go_wp2_with fail
        refine bodyPost_ret (v := .tuple #[.int .i64 m', .slice (some ⟨g, 0, none⟩) 8 cap, v]) (by simp [results, Try.results46, go_sem]) rfl ?_
        exact ⟨m', g, cap, v, l, f, w7.heap.size, _, hm', rfl, L8.out, HF8.out, Ob.out, SM.out, Bb.out, g7, Fb.out, Rb.out, by omega⟩
      · have e0 : (i == 0) = false := by rw [beq_eq_false_iff_ne]; exact hi0
        go_wp2_with fail
        refine bodyPost_ret (v := .tuple #[.int .i64 k, .slice (some ⟨g, 0, none⟩) 8 cap, v]) (by simp [results, Try.results46, go_sem]) rfl ?_
        exact ⟨k, g, cap, v, l, f, w7.heap.size, _, by omega, rfl, L8.out, HF8.out, Oa.out, SM.out, Ba.out, g7, Fa.out, Ra.out, by omega⟩
    · have e1 : (j == 1) = false := by rw [beq_eq_false_iff_ne]; exact hj1
      go_wp2_with fail
      refine bodyPost_ret (v := .tuple #[.int .i64 k, .slice (some ⟨g, 0, none⟩) 8 cap, v]) (by simp [results, Try.results46, go_sem]) rfl ?_
      exact ⟨k, g, cap, v, l, f, w7.heap.size, _, by omega, rfl, L8.out, HF8.out, O9.out, SM.out, B9.out, g7, F9.out, R9.out, by omega⟩

set_option maxHeartbeats 1000000 in
set_option maxRecDepth 20000 in
theorem drawReadFrom (a : Option Addr) (len cap : Nat) (w : World) (h : Code w a len cap) : Calls Try.prog 9 #[.slice a len cap] w (DrawnKT w) := by
  have H := Lib.hid h
  clear h
  go_enter Try.func9, Try.ntmps9
  go_wp2_with fail
  refine (openR a len cap _ H.out).mono ?_
  rintro e w1 ⟨rfl, hb1, h1⟩
  have B1 := Lib.hid hb1
  have H1 := Lib.hid h1
  clear hb1 h1
  go_wp2_with fail
  refine (drawKind w.heap.size 0 _ H1.out (by omega)).mono ?_
  rintro e w2 ⟨m, hm, rfl, hf2, h2⟩
  have F2 := Lib.hid hf2
  have H2 := Lib.hid h2
  clear hf2 h2 H1
  go_wp2_with fail
  refine (drawThere w.heap.size (0 + 2) _ H2.out (by omega)).mono ?_
  rintro e w3 ⟨v, f, rfl, hf8, hf3, hu, h3⟩
  have F3 := Lib.hid hf3
  have U := Lib.hid hu
  have L8 := Lib.hid hf8
  clear hf3 h3 hu hf8
  go_wp2_with fail
  go_ret2
  exact ⟨m, v, f, hm, rfl, L8.out, U.out.1, B1.out.trans ((F2.out.trans F3.out).below (Nat.le_refl _) B1.out.size)⟩

set_option maxHeartbeats 1000000 in
set_option maxRecDepth 20000 in
theorem drawReadData (a : Option Addr) (len cap : Nat) (w : World) (h : Code w a len cap) : Calls Try.prog 21 #[.slice a len cap] w (DrawnFits w) := by
  have H := Lib.hid h
  clear h
  go_enter Try.func21, Try.ntmps21
  go_wp2_with fail
  refine (openR a len cap _ H.out).mono ?_
  rintro e w1 ⟨rfl, hb1, h1⟩
  have B1 := Lib.hid hb1
  have H1 := Lib.hid h1
  clear hb1 h1
  go_wp2_with fail
  refine (drawVals w.heap.size 0 _ H1.out (by omega)).mono ?_
  rintro e w2 ⟨m, u, v, l, f, hm, rfl, hl, hf, hs, hb, hfar⟩
  have F2 := Lib.hid hfar
  have S2 := Lib.hid hs
  have V2 := Lib.hid hb
  have LL := Lib.hid hl
  have LF := Lib.hid hf
  clear hfar hs hb hl hf H1
  go_wp2_with fail
  refine bodyPost_ret (v := .tuple #[.int .i64 m, u, v]) (by simp [results, Try.results21, go_sem]) rfl ?_
  exact ⟨m, u, v, l, f, hm, rfl, LL.out, LF.out, S2.out, V2.out, B1.out.trans (F2.out.below (Nat.le_refl _) B1.out.size)⟩

set_option maxHeartbeats 4000000 in
set_option maxRecDepth 20000 in
theorem drawReadFind (a : Option Addr) (len cap : Nat) (w : World) (h : Code w a len cap) : Calls Try.prog 17 #[.slice a len cap] w (DrawnFits w) := by
  have H := Lib.hid h
  clear h
  go_enter Try.func17, Try.ntmps17
  go_wp2_with fail
  refine (openR a len cap _ H.out).mono ?_
  rintro e w1 ⟨rfl, hb1, h1⟩
  have B1 := Lib.hid hb1
  have H1 := Lib.hid h1
  have c1 : w.heap.size < w1.heap.size := h1.lt
  clear hb1 h1
  go_wp2_with fail
  refine (drawValsO w.heap.size 0 _ H1.out (by omega)).mono ?_
  rintro e w2 ⟨m, g, cp, v, l, f, B, p', hm, rfl, hl, hf, ho, hsm, hu, hgB, hfar, hr, hp'⟩
  have F2 := Lib.hid hfar
  have R2 := Lib.hid hr
  have O2 := Lib.hid ho
  have V2 := Lib.hid hu
  have LL := Lib.hid hl
  have LF := Lib.hid hf
  have SM := Lib.hid hsm
  have g1 : w1.heap.size ≤ g := (World.ownsRow.lt ho g rfl).1
  have g2 : g < w2.heap.size := (World.ownsRow.lt ho g rfl).2
  have bc : w.heap.size < B := by omega
  clear hfar hr ho hu hl hf H1 hsm
  go_wp2_with fail
  refine (pick w.heap.size p' _ _ R2.out (by omega) (by omega) (by omega)).mono ?_
  rintro e w3 ⟨q, q0, q1, rfl, hf, h3⟩
  have F3 := Lib.hid (F2.out.trans hf)
  have R3 := Lib.hid h3
  have O3 := Lib.hid (O2.out.far hf c1)
  have V3 := Lib.hid (V2.out.far hf bc)
  clear hf h3 F2 R2 O2 V2
  by_cases hq : q = 0
  · subst hq
    go_wp2_with fail
    refine (pick w.heap.size (p' + 1) _ _ R3.out (by omega) (by omega) (by omega)).mono ?_
    rintro e w4 ⟨k, k0, k1, rfl, hf, h4⟩
    have F4 := Lib.hid (F3.out.trans hf)
    have R4 := Lib.hid (h4.up (grown_drew (World.grownBy.refl w4 none)) (by simp))
    have O4 := Lib.hid (O3.out.far hf c1)
    have V4 := Lib.hid (V3.out.far hf bc)
    clear hf h4 F3 R3 O3 V3
    obtain ⟨k, hk8, rfl⟩ := below_eight k0 k1
    have hk8' : (k : Int) < 8 := by omega
    obtain ⟨g', cap', e, _, _, gc, gm, hcell, hfr⟩ := O4.out.eight LL.out
    injection e with e1 e2 e3
    injection e1 with e1
    injection e1 with e1
    subst e1 e3
    unfold maxLen at gm
    have hx : w4.drew.cell? ⟨g, k, none⟩ = some (.int .i64 (l.getD k 0)) := hcell k hk8
    have hz : w4.drew.frozen? ⟨g, k, none⟩ = false := hfr k
    have sx := SM.out k
    have EC := enters_of (P := Try.prog) Try.func47 (by kernel_rfl) rfl
    have g4 : (⟨g, k, none⟩ : Addr).block < w4.drew.heap.size := (World.ownsRow.lt O4.out g rfl).2
    have gne : (⟨g, k, none⟩ : Addr).block ≠ w.heap.size := by show g ≠ _; omega
    have FD := Lib.hid (F4.out.trans (Far.draws (Far.refl _ w4) 1))
    have OD : Hid (Own w4.drew w1.heap.size (.slice (some ⟨g, 0, none⟩) 8 cp) l) := Lib.hid (O4.out.still (grown_drew (World.grownBy.refl _ none)))
    have VD : Hid (BlUp w4.drew B v f) := Lib.hid ⟨V4.out.1.grown (grown_drew (World.grownBy.refl _ none)), V4.out.2⟩
    clear F4 O4 V4
    generalize l.getD k 0 = x at *
    clear e2 hcell hfr
    obtain ⟨mm, hmm, hm0, hm1⟩ : ∃ mm, (if x < 0 then (0 : Int) else x) = mm ∧ 0 ≤ mm ∧ mm ≤ 31 := ⟨_, rfl, by split <;> omega, by split <;> omega⟩
    have w1' : IntKind.i64.wrap (mm + 1) = mm + 1 := IntWalk.i64_in _ (by omega)
    go_upto_region 5 with fail
    refine wp_region_any (by kernel_rfl) ?_
    refine Rg.any_take 0 (some 25) (.slice (some ⟨g, 0, none⟩) 8 cp) rfl rfl (by kernel_rfl) (by kernel_rfl) (by kernel_rfl) (fun _ _ _ h => h) (.inl ⟨by rfl, fun W => (by go_simp)⟩) ?_
    simp only [Act.put, List.setIfInBounds_toArray, List.set_cons_zero, List.set_cons_succ]
    refine Rg.any_take 1 (some 26) (.int .i64 k) rfl rfl (by kernel_rfl) (by kernel_rfl) (by kernel_rfl) (fun _ _ _ h => h) (.inl ⟨by rfl, fun W => (by go_simp)⟩) ?_
    simp only [Act.put, List.setIfInBounds_toArray, List.set_cons_zero, List.set_cons_succ]
    refine Rg.any_take 2 (some 27) (.slice (some ⟨g, 0, none⟩) 8 cp) rfl rfl (by kernel_rfl) (by kernel_rfl) (by kernel_rfl) (fun _ _ _ h => h) (.inl ⟨by rfl, fun W => (by go_simp)⟩) ?_
    simp only [Act.put, List.setIfInBounds_toArray, List.set_cons_zero, List.set_cons_succ]
    refine Rg.any_take 3 (some 28) (.int .i64 k) rfl rfl (by kernel_rfl) (by kernel_rfl) (by kernel_rfl) (fun _ _ _ h => h) (.inl ⟨by rfl, fun W => (by go_simp)⟩) ?_
    simp only [Act.put, List.setIfInBounds_toArray, List.set_cons_zero, List.set_cons_succ]
    refine Rg.any_take 4 (some 29) (.pointer (some ⟨g, k, none⟩)) rfl rfl (by kernel_rfl) (by kernel_rfl) (by kernel_rfl) (fun _ _ _ h => h) (.inl ⟨by rfl, fun W => (by go_simp)⟩) ?_
    simp only [Act.put, List.setIfInBounds_toArray, List.set_cons_zero, List.set_cons_succ]
    refine Rg.any_take 8 (some 33) (.pointer (some ⟨w.heap.size, 0, none⟩)) rfl rfl (by kernel_rfl) (by kernel_rfl) (by kernel_rfl) (fun _ _ _ h => h) (.inl ⟨by rfl, fun W => (by go_simp)⟩) ?_
    simp only [Act.put, List.setIfInBounds_toArray, List.set_cons_zero, List.set_cons_succ]
    refine Rg.any_two (i := 5) (k := 9) (by kernel_rfl) rfl rfl rfl rfl ?_ ?_
    · refine Rg.value_at (some 30) (.int .i64 x) w4.drew rfl (by go_simp) ?_
      simp only [Act.put, List.setIfInBounds_toArray, List.set_cons_zero, List.set_cons_succ]
      refine Rg.any_take 6 (some 31) (.int .i64 mm) rfl rfl (by kernel_rfl) (by kernel_rfl) (by kernel_rfl) (fun _ _ _ h => h) (.inl ⟨by rfl, fun W => (by go_simp)⟩) ?_
      simp only [Act.put, List.setIfInBounds_toArray, List.set_cons_zero, List.set_cons_succ]
      refine Rg.any_take 7 (some 32) (.int .i64 (mm + 1)) rfl rfl (by kernel_rfl) (by kernel_rfl) (by kernel_rfl) (fun _ _ _ h => h) (.inl ⟨by rfl, fun W => (by go_simp)⟩) ?_
      simp only [Act.put, List.setIfInBounds_toArray, List.set_cons_zero, List.set_cons_succ]
      refine Rg.any_one (i := 9) (by kernel_rfl) rfl rfl ?_
      refine Rg.call_at (some 34) (f := 47) (args := #[.pointer (some ⟨w.heap.size, 0, none⟩), .int .i64 20]) rfl (by go_simp) ((pick w.heap.size (p' + 1 + 1) 20 _ R4.out (by omega) (by omega) (by omega)).mono ?_)
      rintro e w5 ⟨y, y0, y1, rfl, hf5, hr5⟩
      have hx5 : w5.cell? ⟨g, k, none⟩ = some (.int .i64 x) := (hf5.cell (p := ⟨g, k, none⟩) g4 gne).trans hx
      have hz5 : w5.frozen? ⟨g, k, none⟩ = false := (hf5.frozen (p := ⟨g, k, none⟩) g4 gne).trans hz
      have w2' : IntKind.i64.wrap (mm + 1 + y) = mm + 1 + y := IntWalk.i64_in _ (by omega)
      have t3' : (mm + 1 + y).tmod 31 = (mm + 1 + y) % 31 := Int.tmod_eq_emod_of_nonneg (by omega)
      have F5 := Lib.hid (FD.out.trans hf5)
      have O5 := Lib.hid (OD.out.far hf5 c1)
      have V5 := Lib.hid (VD.out.far hf5 bc)
      clear hf5 hr5
      refine ⟨_, rfl, ?_⟩
      simp only [Act.put, List.setIfInBounds_toArray, List.set_cons_zero, List.set_cons_succ]
      refine Rg.any_take 10 (some 35) (.int .i64 (mm + 1 + y)) rfl rfl (by kernel_rfl) (by kernel_rfl) (by kernel_rfl) (fun _ _ _ h => h) (.inl ⟨by rfl, fun W => (by go_simp)⟩) ?_
      simp only [Act.put, List.setIfInBounds_toArray, List.set_cons_zero, List.set_cons_succ]
      refine Rg.any_take 11 (some 36) (.int .i64 ((mm + 1 + y) % 31)) rfl rfl (by kernel_rfl) (by kernel_rfl) (by kernel_rfl) (fun _ _ _ h => h) (.inl ⟨by rfl, fun W => (by go_simp)⟩) ?_
      simp only [Act.put, List.setIfInBounds_toArray, List.set_cons_zero, List.set_cons_succ]
      refine Rg.any_take 12 (some 37) (.pointer (some ⟨g, k, none⟩)) rfl rfl (by kernel_rfl) (by kernel_rfl) (by kernel_rfl) (fun _ _ _ h => h) (.inl ⟨by rfl, fun W => (by go_simp)⟩) ?_
      simp only [Act.put, List.setIfInBounds_toArray, List.set_cons_zero, List.set_cons_succ]
      refine Rg.any_one (i := 13) (by kernel_rfl) rfl rfl ?_
      unfold Oper.wp
      go_simp
      refine Rg.any_done (by kernel_rfl) ?_ _
      have P5 := Lib.hid (O5.out.put8 LL.out k ((mm + 1 + y) % 31))
      have Fc : Hid (Far w.heap.size w1 (w5.setCell ⟨g, k, none⟩ (.int .i64 ((mm + 1 + y) % 31)))) := Lib.hid (F5.out.own P5.out.2 (fun q hq => by injection hq with hq; omega))
      have Bc : Hid (BlUp (w5.setCell ⟨g, k, none⟩ (.int .i64 ((mm + 1 + y) % 31))) B v f) := Lib.hid (V5.out.kept P5.out.2 hgB)
      have LS : Hid ((l.set k ((mm + 1 + y) % 31)).length = 8) := Lib.hid (by rw [List.length_set]; exact LL.out)
      have SL := Lib.hid P5.out.1.sl
      clear hx5 hz5
      go_wp2_with fail
      refine bodyPost_ret (v := .tuple #[.int .i64 m, .slice (some ⟨g, 0, none⟩) 8 cp, v]) (by simp [results, Try.results17, go_sem]) rfl ?_
      exact ⟨m, _, _, _, f, hm, rfl, LS.out, LF.out, SL.out, Bc.out.1, B1.out.trans (Fc.out.below (Nat.le_refl _) B1.out.size)⟩
    · refine Rg.call_at (some 34) (f := 47) (args := #[.pointer (some ⟨w.heap.size, 0, none⟩), .int .i64 20]) rfl (by go_simp) ((pick w.heap.size (p' + 1 + 1) 20 _ R4.out (by omega) (by omega) (by omega)).mono ?_)
      rintro e w5 ⟨y, y0, y1, rfl, hf5, hr5⟩
      have hx5 : w5.cell? ⟨g, k, none⟩ = some (.int .i64 x) := (hf5.cell (p := ⟨g, k, none⟩) g4 gne).trans hx
      have hz5 : w5.frozen? ⟨g, k, none⟩ = false := (hf5.frozen (p := ⟨g, k, none⟩) g4 gne).trans hz
      have w2' : IntKind.i64.wrap (mm + 1 + y) = mm + 1 + y := IntWalk.i64_in _ (by omega)
      have t3' : (mm + 1 + y).tmod 31 = (mm + 1 + y) % 31 := Int.tmod_eq_emod_of_nonneg (by omega)
      have F5 := Lib.hid (FD.out.trans hf5)
      have O5 := Lib.hid (OD.out.far hf5 c1)
      have V5 := Lib.hid (VD.out.far hf5 bc)
      clear hf5 hr5
      refine ⟨_, rfl, ?_⟩
      simp only [Act.put, List.setIfInBounds_toArray, List.set_cons_zero, List.set_cons_succ]
      refine Rg.any_one (i := 5) (by kernel_rfl) rfl rfl ?_
      refine Rg.value_at (some 30) (.int .i64 x) w5 rfl (by go_simp) ?_
      simp only [Act.put, List.setIfInBounds_toArray, List.set_cons_zero, List.set_cons_succ]
      refine Rg.any_take 6 (some 31) (.int .i64 mm) rfl rfl (by kernel_rfl) (by kernel_rfl) (by kernel_rfl) (fun _ _ _ h => h) (.inl ⟨by rfl, fun W => (by go_simp)⟩) ?_
      simp only [Act.put, List.setIfInBounds_toArray, List.set_cons_zero, List.set_cons_succ]
      refine Rg.any_take 7 (some 32) (.int .i64 (mm + 1)) rfl rfl (by kernel_rfl) (by kernel_rfl) (by kernel_rfl) (fun _ _ _ h => h) (.inl ⟨by rfl, fun W => (by go_simp)⟩) ?_
      simp only [Act.put, List.setIfInBounds_toArray, List.set_cons_zero, List.set_cons_succ]
      refine Rg.any_take 10 (some 35) (.int .i64 (mm + 1 + y)) rfl rfl (by kernel_rfl) (by kernel_rfl) (by kernel_rfl) (fun _ _ _ h => h) (.inl ⟨by rfl, fun W => (by go_simp)⟩) ?_
      simp only [Act.put, List.setIfInBounds_toArray, List.set_cons_zero, List.set_cons_succ]
      refine Rg.any_take 11 (some 36) (.int .i64 ((mm + 1 + y) % 31)) rfl rfl (by kernel_rfl) (by kernel_rfl) (by kernel_rfl) (fun _ _ _ h => h) (.inl ⟨by rfl, fun W => (by go_simp)⟩) ?_
      simp only [Act.put, List.setIfInBounds_toArray, List.set_cons_zero, List.set_cons_succ]
      refine Rg.any_take 12 (some 37) (.pointer (some ⟨g, k, none⟩)) rfl rfl (by kernel_rfl) (by kernel_rfl) (by kernel_rfl) (fun _ _ _ h => h) (.inl ⟨by rfl, fun W => (by go_simp)⟩) ?_
      simp only [Act.put, List.setIfInBounds_toArray, List.set_cons_zero, List.set_cons_succ]
      refine Rg.any_one (i := 13) (by kernel_rfl) rfl rfl ?_
      unfold Oper.wp
      go_simp
      refine Rg.any_done (by kernel_rfl) ?_ _
      have P5 := Lib.hid (O5.out.put8 LL.out k ((mm + 1 + y) % 31))
      have Fc : Hid (Far w.heap.size w1 (w5.setCell ⟨g, k, none⟩ (.int .i64 ((mm + 1 + y) % 31)))) := Lib.hid (F5.out.own P5.out.2 (fun q hq => by injection hq with hq; omega))
      have Bc : Hid (BlUp (w5.setCell ⟨g, k, none⟩ (.int .i64 ((mm + 1 + y) % 31))) B v f) := Lib.hid (V5.out.kept P5.out.2 hgB)
      have LS : Hid ((l.set k ((mm + 1 + y) % 31)).length = 8) := Lib.hid (by rw [List.length_set]; exact LL.out)
      have SL := Lib.hid P5.out.1.sl
      clear hx5 hz5
      go_wp2_with fail
      refine bodyPost_ret (v := .tuple #[.int .i64 m, .slice (some ⟨g, 0, none⟩) 8 cp, v]) (by simp [results, Try.results17, go_sem]) rfl ?_
      exact ⟨m, _, _, _, f, hm, rfl, LS.out, LF.out, SL.out, Bc.out.1, B1.out.trans (Fc.out.below (Nat.le_refl _) B1.out.size)⟩
  · have e0 : (q == 0) = false := by rw [beq_eq_false_iff_ne]; exact hq
    go_wp2_with fail
    refine bodyPost_ret (v := .tuple #[.int .i64 m, .slice (some ⟨g, 0, none⟩) 8 cp, v]) (by simp [results, Try.results17, go_sem]) rfl ?_
    exact ⟨m, _, _, l, f, hm, rfl, LL.out, LF.out, O3.out.sl, V3.out.1, B1.out.trans (F3.out.below (Nat.le_refl _) B1.out.size)⟩
end Go.Proofs.Ytdmbbipcdkikiaa
