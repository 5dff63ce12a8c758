/-
  What the laws of chapter 12 draw: a program; one and an operation; a plan.
  Conditions: none.
-/
import Derived.Test.YtlehcpcejkpbmaaDoorDrawProg
namespace Go.Proofs.YtlehcpcejkpbmaaDoor
open Go.RowKit
set_option linter.unusedVariables false

/-- a program. -/
def DrawnS (w : World) (e : Ending) (w' : World) : Prop := ∃ (v : Value) (L : List Stp), e = .returned v ∧ L.length ≤ 12 ∧ SSl w' v L ∧ Below w.heap.size w w'
/-- a program, and an operation. -/
def DrawnSO (w : World) (e : Ending) (w' : World) : Prop := ∃ (v : Value) (L : List Stp) (o : Int), e = .returned (.tuple #[v, .int .i64 o]) ∧ 1 ≤ o ∧ o ≤ 4 ∧ L.length ≤ 12 ∧ SSl w' v L ∧ Below w.heap.size w w'
/-- a plan. -/
def DrawnP (w : World) (e : Ending) (w' : World) : Prop := ∃ (d : Int) (u v : Value) (l m : List Int), e = .returned (.agg #[.int .i64 d, u, v]) ∧ Sl w' u l ∧ Sl w' v m ∧ Below w.heap.size w w'
theorem ssl_tail {w : World} {base g n cap : Nat} {L : List Stp} (h : SOwn w base (.slice (some ⟨g, 0, none⟩) n cap) L) (hn : n = L.length) (h1 : 1 ≤ L.length) (a : Option Addr) (ha : L.length = 1 ∨ a = some ⟨g, 3, none⟩) (hc : n ≤ cap) (hm : cap ≤ maxLen) : SSl w (.slice a (n - 1) (cap - 1)) L.tail := by
  obtain ⟨b, c, e, _, _, hr⟩ := h.sl
  injection e with e1 e2 e3
  subst e1
  refine ⟨a, cap - 1, by rw [List.length_tail, hn], by rw [List.length_tail]; omega, by omega, ?_⟩
  cases L with
  | nil => simp at h1
  | cons s T =>
    rcases ha with ha | ha
    · left
      have : T = [] := List.eq_nil_of_length_eq_zero (by simpa using ha)
      subst this; rfl
    · subst ha
      rcases hr with h0 | ⟨b', o', e', hr⟩
      · rw [sflat_cons] at h0; simp at h0
      · injection e' with e'
        injection e' with e4 e5
        subst e4 e5
        refine .inr ⟨g, 3, rfl, fun i hi => ?_⟩
        have := hr (3 + i) (by rw [sflat_cons, List.length_append]; show 3 + i < 3 + _; simp at hi; omega)
        rw [Nat.zero_add, sflat_cons] at this
        rw [this, List.getD_eq_getElem?_getD, List.getElem?_append_right (by show 3 ≤ _; omega), List.getD_eq_getElem?_getD]
        congr 4
        show 3 + i - 3 = i
        omega

set_option maxHeartbeats 2000000 in
set_option maxRecDepth 20000 in
theorem drawProgOk (a : Option Addr) (len cap : Nat) (w : World) (h : Code w a len cap) : Calls Tryd.prog 34 #[.slice a len cap] w (DrawnS w) := by
  have H0 := Lib.hid h
  clear h
  go_enter Tryd.func34, Tryd.ntmps34
  go_wp2_with fail
  refine (openR a len cap _ H0.out).mono ?_
  rintro e w1 ⟨rfl, hb1, h1⟩
  have B1 := Lib.hid hb1
  have R1 := Lib.hid h1
  obtain ⟨c, hc⟩ : ∃ c, c = w.heap.size := ⟨_, rfl⟩
  have C1 := h1.lt
  rw [← hc] at R1 C1 ⊢
  have hcw := Lib.hid hc
  clear hb1 h1 hc H0
  go_wp2_with fail
  refine (drawProg c 0 _ R1.out (by omega)).mono ?_
  rintro e w2 ⟨v, L, rfl, hL1, hL12, ho, hf, h2⟩
  have O2 := Lib.hid ho
  have F2 := Lib.hid hf
  have R2 := Lib.hid h2
  clear ho hf h2 R1
  go_wp2_with fail
  refine (pick c (0 + 70) _ _ R2.out (by omega) (by omega) (by omega)).mono ?_
  rintro e w3 ⟨q, q0, q1, rfl, hf, h3⟩
  have O3 := Lib.hid (O2.out.kept (far_grown hf) (sfar O2.out C1))
  have B3 : Hid (Below w.heap.size w w3) := Lib.hid (B1.out.trans (((F2.out.trans hf).below (by rw [hcw.out]; exact Nat.le_refl _) B1.out.size)))
  clear hf h3 O2 F2 R2
  by_cases hq : q = 0
  · subst hq
    obtain ⟨g, cp, hv, _, _⟩ := O3.out.form
    subst hv
    obtain ⟨n, hn⟩ : ∃ n, n = L.length := ⟨_, rfl⟩
    rw [← hn] at O3 hL1 ⊢
    rename_i hcp hcm
    rw [← hn] at hcp
    have N := Lib.hid hn
    clear hn
    have n1 : (1 : Int) ≤ (n : Int) := by omega
    unfold maxLen at hcm
    obtain ⟨g', c', e', _⟩ := O3.out.at_ (i := 0) (by rw [← N.out]; omega)
    injection e' with e1 e2 e3
    subst e1
    clear e2 e3
    have n2 : (n : Int) ≤ (cp : Int) := by omega
    by_cases h1c : cp = 1
    · subst h1c
      have n3 : n = 1 := by omega
      have N3 := Lib.hid n3
      clear n3
      have T3 : Hid (SSl w3 (.slice (some ⟨g', 0, none⟩) 0 0) L.tail) := Lib.hid (by
        have := ssl_tail O3.out N.out (by rw [← N.out]; exact hL1) (some ⟨g', 0, none⟩) (.inl (by rw [← N.out]; exact N3.out)) (by omega) (by simp [maxLen])
        rwa [show n - 1 = 0 by have := N3.out; omega] at this)
      go_wp2_with fail
      go_ret
      exact ⟨_, L.tail, rfl, by rw [List.length_tail]; omega, T3.out, B3.out⟩
    · go_wp2_with fail
      go_ret
      exact ⟨_, L.tail, rfl, by rw [List.length_tail]; omega, ssl_tail O3.out N.out (by rw [← N.out]; exact hL1) _ (.inr rfl) hcp (by unfold maxLen; omega), B3.out⟩
  · have hq' : (q == 0) = false := by rw [beq_eq_false_iff_ne]; exact hq
    go_wp2_with fail
    go_ret
    exact ⟨v, L, rfl, hL12, O3.out.sl, B3.out⟩

set_option maxHeartbeats 2000000 in
set_option maxRecDepth 20000 in
theorem drawProgMany (a : Option Addr) (len cap : Nat) (w : World) (h : Code w a len cap) : Calls Tryd.prog 32 #[.slice a len cap] w (DrawnSO w) := by
  have H0 := Lib.hid h
  clear h
  go_enter Tryd.func32, Tryd.ntmps32
  go_wp2_with fail
  refine (openR a len cap _ H0.out).mono ?_
  rintro e w1 ⟨rfl, hb1, h1⟩
  have B1 := Lib.hid hb1
  have R1 := Lib.hid h1
  obtain ⟨c, hc⟩ : ∃ c, c = w.heap.size := ⟨_, rfl⟩
  have C1 := h1.lt
  rw [← hc] at R1 C1 ⊢
  have hcw := Lib.hid hc
  clear hb1 h1 hc H0
  go_wp2_with fail
  refine (drawProg c 0 _ R1.out (by omega)).mono ?_
  rintro e w2 ⟨v, L, rfl, hL1, hL12, ho, hf, h2⟩
  have O2 := Lib.hid ho
  have F2 := Lib.hid hf
  have R2 := Lib.hid h2
  clear ho hf h2 R1
  go_wp2_with fail
  refine (pick c (0 + 70) _ _ R2.out (by omega) (by omega) (by omega)).mono ?_
  rintro e w3 ⟨q, q0, q1, rfl, hf, h3⟩
  have O3 := Lib.hid (O2.out.kept (far_grown hf) (sfar O2.out C1))
  have B3 : Hid (Below w.heap.size w w3) := Lib.hid (B1.out.trans (((F2.out.trans hf).below (by rw [hcw.out]; exact Nat.le_refl _) B1.out.size)))
  clear hf h3 O2 F2 R2
  obtain ⟨g, cp, hv, _, _⟩ := O3.out.form
  subst hv
  go_wp2_with fail
  exact bodyPost_ret (v := .tuple #[.slice g L.length cp, .int .i64 (1 + q)]) (by simp [results, Tryd.results32, go_sem]) rfl ⟨_, L, _, rfl, by omega, by omega, hL12, O3.out.sl, B3.out⟩

set_option maxHeartbeats 4000000 in
set_option maxRecDepth 20000 in
theorem drawProgOf (a : Option Addr) (len cap : Nat) (w : World) (h : Code w a len cap) : Calls Tryd.prog 13 #[.slice a len cap] w (DrawnP w) := by
  have Z0 : Hid (Blk (w.alloc (.cells #[.int .i64 0, .slice none 0 0, .slice none 0 0] 25)) w.heap.size 25 [.int .i64 0, .slice none 0 0, .slice none 0 0]) := Lib.hid (heap_alloc_new _ _)
  have G0 := Lib.hid (grown_alloc (World.grownBy.refl w none) (.cells #[.int .i64 0, .slice none 0 0, .slice none 0 0] 25))
  have S0 : w.heap.size + 1 = (w.alloc (.cells #[.int .i64 0, .slice none 0 0, .slice none 0 0] 25)).heap.size := by simp
  have H0 : Hid (Code (w.alloc (.cells #[.int .i64 0, .slice none 0 0, .slice none 0 0] 25)) a len cap) := Lib.hid (h.below (below_grown G0.out))
  clear h
  go_enter Tryd.func13, Tryd.ntmps13
  go_wp2_with fail
  generalize w.alloc (.cells #[.int .i64 0, .slice none 0 0, .slice none 0 0] 25) = w0 at *
  obtain ⟨r, hr⟩ : ∃ r, r = w.heap.size := ⟨_, rfl⟩
  rw [← hr] at Z0 S0 ⊢
  have hr1 : w.heap.size ≤ r := by omega
  have hr2 : r ≤ w.heap.size := by omega
  clear hr
  refine (openR a len cap _ H0.out).mono ?_
  rintro e w1 ⟨rfl, hb1, h1⟩
  have B1 : Hid (Below w.heap.size w w1) := Lib.hid ((below_grown G0.out).trans (hb1.mono (by omega)))
  have R1 := Lib.hid h1
  have Z1 : Hid (Blk w1 r 25 [.int .i64 0, .slice none 0 0, .slice none 0 0]) := Lib.hid ((hb1.block r (by omega)).trans Z0.out)
  obtain ⟨c, hc⟩ : ∃ c, c = w0.heap.size := ⟨_, rfl⟩
  have C1 := h1.lt
  rw [← hc] at R1 C1 ⊢
  have hc1 : r < c := by omega
  have hs1 : w0.heap.size ≤ w1.heap.size := hb1.size
  clear hb1 h1 Z0 G0 H0 S0 hc
  go_wp2_with fail
  refine (drawPlan c 0 _ R1.out (by omega)).mono ?_
  rintro e w2 ⟨k, d, u, v, l, m, hk, rfl, hl4, hu, hv, hf, h2⟩
  obtain ⟨au, cu, eu, _, _, _⟩ := hu.sl
  obtain ⟨av, cv, ev, _, _, _⟩ := hv.sl
  subst eu ev
  obtain ⟨nl, hnl⟩ : ∃ x, x = l.length := ⟨_, rfl⟩
  obtain ⟨ml, hml⟩ : ∃ x, x = m.length := ⟨_, rfl⟩
  rw [← hnl] at hu ⊢
  rw [← hml] at hv ⊢
  clear hnl hml
  have ga := World.grownBy_alloc w2 (.cells #[.int .i64 d, .slice au nl cu, .slice av ml cv] 25) none
  have F3 : Hid (Far c w1 (w2.alloc (.cells #[.int .i64 d, .slice au nl cu, .slice av ml cv] 25))) := Lib.hid (hf.trans (Far.alloc _ _))
  have U3 := Lib.hid (hu.still ga)
  have V3 := Lib.hid (hv.still ga)
  have K3 : Hid (Blk (w2.alloc (.cells #[.int .i64 d, .slice au nl cu, .slice av ml cv] 25)) w2.heap.size 25 [.int .i64 d, .slice au nl cu, .slice av ml cv]) := Lib.hid (heap_alloc_new _ _)
  have Z3 : Hid (Blk (w2.alloc (.cells #[.int .i64 d, .slice au nl cu, .slice av ml cv] 25)) r 25 [.int .i64 0, .slice none 0 0, .slice none 0 0]) := Lib.hid ((Z1.out.kept (far_grown hf) (fun e => by injection e with e; omega)).kept ga (by simp))
  have B3 : Hid (Below w.heap.size w (w2.alloc (.cells #[.int .i64 d, .slice au nl cu, .slice av ml cv] 25))) := Lib.hid (B1.out.trans (F3.out.below (by omega) B1.out.size))
  clear hu hv hf h2 ga R1 Z1 B1 F3
  go_upto_region 2 with fail
  generalize w2.alloc (.cells #[.int .i64 d, .slice au nl cu, .slice av ml cv] 25) = w3 at *
  generalize w2.heap.size = bp at *
  have k0 := K3.out.cell (i := 0) rfl
  have k1 := K3.out.cell (i := 1) rfl
  have k2 := K3.out.cell (i := 2) rfl
  have z0 := Z3.out.cell (i := 0) rfl
  have z1 := Z3.out.cell (i := 1) rfl
  have z2 := Z3.out.cell (i := 2) rfl
  have f0 := Z3.out.frozen 0
  have f1 := Z3.out.frozen 1
  have f2 := Z3.out.frozen 2
  have GS : Hid (w3.grownBy (((w3.setCell ⟨r, 0, none⟩ (.int .i64 d)).setCell ⟨r, 1, none⟩ (.slice au nl cu)).setCell ⟨r, 2, none⟩ (.slice av ml cv)) (some r)) := Lib.hid (grown_trans (grown_trans (grown_cell _ _ _) (grown_cell _ _ _)) (grown_cell _ _ _))
  have UZ := Lib.hid (U3.out.kept GS.out (own_far U3.out (by omega))).sl
  have VZ := Lib.hid (V3.out.kept GS.out (own_far V3.out (by omega))).sl
  have BZ : Hid (Below w.heap.size w (((w3.setCell ⟨r, 0, none⟩ (.int .i64 d)).setCell ⟨r, 1, none⟩ (.slice au nl cu)).setCell ⟨r, 2, none⟩ (.slice av ml cv))) := Lib.hid (B3.out.trans ⟨GS.out.os, GS.out.tape, GS.out.output, GS.out.size, fun k hk => GS.out.block k (Nat.lt_of_lt_of_le hk B3.out.size) (fun e => by injection e with e; omega)⟩)
  clear GS K3 Z3 U3 V3 B3
  go_wp2_with fail
  refine bodyPost_ret (v := .agg #[.int .i64 d, .slice au nl cu, .slice av ml cv]) (by simp [results, Tryd.results13, go_sem, z0, z1, z2]) rfl ?_
  exact ⟨d, _, _, l, m, rfl, UZ.out, VZ.out, BZ.out⟩
end Go.Proofs.YtlehcpcejkpbmaaDoor
