/-
  A plan as an argument of a law: how it reads, how long it is, a plan of its own.
  Conditions: none.
-/
import Derived.Test.YtlehcpcejkpbmaaPlanTold
import Derived.Lib.SmallJoins
import Derived.OpenShut
namespace Go.Proofs.Ytlehcpcejkpbmaa
open Go.RowKit Go.ChangeShapes Go.WideShapes Go.ChangeAt Go.Deep Go.Lib
set_option linter.unusedVariables false

theorem sl_field {H : Type} {enc : TypeId × Value → H} {P : Program} {w : World} {t e : TypeId} {fuel : Nat} {v : Value} {y : DataW H × List MemPlace} (ht : P.underlying t = some (.slice e)) (he : P.underlying e = some (.int .i64)) (ce : P.cellsOf e = 1)
    (h : DataW.trod enc P w 0 (fun _ => true) true fuel t [v] = some y) : ∃ l, Sl w v l := by
  rcases open_ints ht he ce h with ⟨hcs, _⟩ | ⟨x, len, cap, zs, hcs, _, hl, hm, hz, _, hc, hw⟩
  · injection hcs with hcs
    subst hcs
    exact ⟨[], none, 0, rfl, by simp, by omega, .inl rfl⟩
  · injection hcs with hcs
    subst hcs
    obtain ⟨l, _, _, _, hs⟩ := sl_of (w := w) (a := some x) (len := len) (cap := cap) (zs := zs) (.inr ⟨x, rfl, hl, hm, by simpa using hz, hc, hw⟩)
    exact ⟨l, hs⟩
/-- a plan that a law is handed. -/
theorem plan_of {H : Type} {enc : TypeId × Value → H} {P : Program} {w : World} {r : Reach} {b0 : Nat} {t e : TypeId} {f0 f1 f2 : Field} {v : Value} {d : DataW H} {p : List MemPlace} (hs : P.underlying t = some (.struct #[f0, f1, f2])) (hone : oneCellFields P #[f0, f1, f2] = true) (hC : P.cellsOf t = 3)
    (u0 : P.underlying f0.type = some (.int .i64)) (u1 : P.underlying f1.type = some (.slice e)) (u2 : P.underlying f2.type = some (.slice e)) (ue : P.underlying e = some (.int .i64)) (ce : P.cellsOf e = 1)
    (hv : Value.okWide P w r b0 t v) (h : DataW.Trod enc P w 0 (fun _ => true) true t v d p) : ∃ (n : Int) (x y : Value) (l m : List Int), v = .agg #[.int .i64 n, x, y] ∧ Sl w x l ∧ Sl w y m := by
  obtain ⟨v0, v1, v2, y0, y1, y2, k, rfl, _, _, h0, h1, h2⟩ := Go.Joins.open_agg3 hs hone hC hv h
  obtain ⟨n, e0, _, _⟩ := DataW.trod_int u0 h0
  injection e0 with e0
  subst e0
  obtain ⟨l, hl⟩ := sl_field u1 ue ce h1
  obtain ⟨m, hm⟩ := sl_field u2 ue ce h2
  exact ⟨n, v1, v2, l, m, rfl, hl, hm⟩

theorem grown_cell (w : World) (p : Addr) (v : Value) : w.grownBy (w.setCell p v) (some p.block) :=
  ⟨rfl, rfl, rfl, by simp, fun i hi hne => Below.heap_setCell w p v i (fun e => hne (by rw [e]))⟩
theorem own_far {w : World} {base b : Nat} {v : Value} {l : List Int} (h : Own w base v l) (hb : b < base) : v.ownBlock = none ∨ v.ownBlock ≠ some b := .inr (fun e => far_own h hb e.symm)

set_option maxHeartbeats 4000000 in
set_option maxRecDepth 20000 in
theorem szPlan (n : Int) (u v : Value) (l m : List Int) (w : World) (hu : Sl w u l) (hv : Sl w v m) :
    Calls Try.prog 4 #[.agg #[.int .i64 n, u, v], .int .i64 1048576] w fun e w' => (∃ q : Int, e = .returned (.int .i64 q) ∧ (q < 0 ∨ (0 ≤ q ∧ l.length ≤ 1048576 ∧ m.length ≤ 1048576))) ∧ w.grownBy w' none := by
  have U := Lib.hid hu
  have V := Lib.hid hv
  obtain ⟨a1, c1, e1, q1, q2, hr1⟩ := hu
  obtain ⟨a2, c2, e2, q3, q4, hr2⟩ := hv
  subst e1 e2
  obtain ⟨nl, hnl⟩ : ∃ x, x = l.length := ⟨_, rfl⟩
  obtain ⟨ml, hml⟩ : ∃ x, x = m.length := ⟨_, rfl⟩
  rw [← hnl] at U q1 ⊢
  rw [← hml] at V q3 ⊢
  have NL := Lib.hid hnl
  have ML := Lib.hid hml
  clear hnl hml hr1 hr2
  have K0 : Hid (Blk (w.alloc (.cells #[.int .i64 n, .slice a1 nl c1, .slice a2 ml c2] 24)) w.heap.size 24 [.int .i64 n, .slice a1 nl c1, .slice a2 ml c2]) := Lib.hid (heap_alloc_new _ _)
  have G0 := Lib.hid (grown_alloc (World.grownBy.refl w none) (.cells #[.int .i64 n, .slice a1 nl c1, .slice a2 ml c2] 24))
  unfold maxLen at q2 q4
  go_enter Try.func4, Try.ntmps4
  go_upto_region 1 with fail
  generalize (w.alloc (.cells #[.int .i64 n, .slice a1 nl c1, .slice a2 ml c2] 24)) = w0 at *
  generalize w.heap.size = bp at *
  have k1 := K0.out.cell (i := 1) rfl
  have k2 := K0.out.cell (i := 2) rfl
  go_wp2_with fail
  refine (szIntS _ l 1048576 _ (U.out.grown G0.out) (by omega) (by omega)).mono ?_
  rintro e w' ⟨rfl, rfl⟩
  rw [← NL.out]
  by_cases h1 : (1048576 : Int) - nl < 0
  · rw [if_pos h1]
    go_wp2_with fail
    go_ret
    exact ⟨⟨-1, rfl, .inl (by omega)⟩, G0.out⟩
  · rw [if_neg h1]
    go_wp2_with fail
    refine (szIntS _ m (1048576 - nl) _ (V.out.grown G0.out) (by omega) (by omega)).mono ?_
    rintro e w' ⟨rfl, rfl⟩
    rw [← ML.out]
    by_cases h2 : (1048576 : Int) - nl - ml < 0
    · rw [if_pos h2]
      go_wp2_with fail
      go_ret
      exact ⟨⟨-1, rfl, .inl (by omega)⟩, G0.out⟩
    · rw [if_neg h2]
      go_wp2_with fail
      go_ret
      exact ⟨⟨_, rfl, .inr ⟨by omega, by omega, by omega⟩⟩, G0.out⟩

set_option maxHeartbeats 4000000 in
set_option maxRecDepth 20000 in
theorem toPlan (n : Int) (u v : Value) (l m : List Int) (w : World) (hu : Sl w u l) (hv : Sl w v m) (h1 : l.length ≤ 1048576) (h2 : m.length ≤ 1048576) :
    Calls Try.prog 6 #[.agg #[.int .i64 n, u, v]] w fun e w' => ∃ x y, e = .returned (.agg #[.int .i64 n, x, y]) ∧ w.grownBy w' none ∧ TwoOwn w' w.heap.size x y l m := by
  have U := Lib.hid hu
  have V := Lib.hid hv
  obtain ⟨a1, c1, e1, q1, q2, hr1⟩ := hu
  obtain ⟨a2, c2, e2, q3, q4, hr2⟩ := hv
  subst e1 e2
  obtain ⟨nl, hnl⟩ : ∃ x, x = l.length := ⟨_, rfl⟩
  obtain ⟨ml, hml⟩ : ∃ x, x = m.length := ⟨_, rfl⟩
  rw [← hnl] at U q1 ⊢
  rw [← hml] at V q3 ⊢
  have NL := Lib.hid hnl
  have ML := Lib.hid hml
  clear hnl hml hr1 hr2
  have A0 : Hid (Blk (((w.alloc (.cells #[.int .i64 n, .slice a1 nl c1, .slice a2 ml c2] 24)).alloc (.cells #[.int .i64 0, .slice none 0 0, .slice none 0 0] 29)).alloc (.cells #[.int .i64 0, .slice none 0 0, .slice none 0 0] 29)) w.heap.size 24 [.int .i64 n, .slice a1 nl c1, .slice a2 ml c2]) := Lib.hid (by
    have h : Blk (w.alloc (.cells #[.int .i64 n, .slice a1 nl c1, .slice a2 ml c2] 24)) w.heap.size 24 [.int .i64 n, .slice a1 nl c1, .slice a2 ml c2] := heap_alloc_new _ _
    exact (h.kept (World.grownBy_alloc _ _ none) (by simp)).kept (World.grownBy_alloc _ _ none) (by simp))
  have B0 : Hid (Blk (((w.alloc (.cells #[.int .i64 n, .slice a1 nl c1, .slice a2 ml c2] 24)).alloc (.cells #[.int .i64 0, .slice none 0 0, .slice none 0 0] 29)).alloc (.cells #[.int .i64 0, .slice none 0 0, .slice none 0 0] 29)) (w.heap.size + 1) 29 [.int .i64 0, .slice none 0 0, .slice none 0 0]) := Lib.hid (by
    have h : Blk ((w.alloc (.cells #[.int .i64 n, .slice a1 nl c1, .slice a2 ml c2] 24)).alloc (.cells #[.int .i64 0, .slice none 0 0, .slice none 0 0] 29)) (w.alloc (.cells #[.int .i64 n, .slice a1 nl c1, .slice a2 ml c2] 24)).heap.size 29 [.int .i64 0, .slice none 0 0, .slice none 0 0] := heap_alloc_new _ _
    rw [World.size_alloc] at h
    exact h.kept (World.grownBy_alloc _ _ none) (by simp))
  have C0 : Hid (Blk (((w.alloc (.cells #[.int .i64 n, .slice a1 nl c1, .slice a2 ml c2] 24)).alloc (.cells #[.int .i64 0, .slice none 0 0, .slice none 0 0] 29)).alloc (.cells #[.int .i64 0, .slice none 0 0, .slice none 0 0] 29)) (w.heap.size + 2) 29 [.int .i64 0, .slice none 0 0, .slice none 0 0]) := Lib.hid (by
    have h : Blk (((w.alloc (.cells #[.int .i64 n, .slice a1 nl c1, .slice a2 ml c2] 24)).alloc (.cells #[.int .i64 0, .slice none 0 0, .slice none 0 0] 29)).alloc (.cells #[.int .i64 0, .slice none 0 0, .slice none 0 0] 29)) ((w.alloc (.cells #[.int .i64 n, .slice a1 nl c1, .slice a2 ml c2] 24)).alloc (.cells #[.int .i64 0, .slice none 0 0, .slice none 0 0] 29)).heap.size 29 [.int .i64 0, .slice none 0 0, .slice none 0 0] := heap_alloc_new _ _
    rw [World.size_alloc, World.size_alloc] at h
    exact h)
  have G0 : Hid (w.grownBy (((w.alloc (.cells #[.int .i64 n, .slice a1 nl c1, .slice a2 ml c2] 24)).alloc (.cells #[.int .i64 0, .slice none 0 0, .slice none 0 0] 29)).alloc (.cells #[.int .i64 0, .slice none 0 0, .slice none 0 0] 29)) none) := Lib.hid (grown_alloc (grown_alloc (grown_alloc (World.grownBy.refl _ _) _) _) _)
  have HS : w.heap.size + 3 ≤ (((w.alloc (.cells #[.int .i64 n, .slice a1 nl c1, .slice a2 ml c2] 24)).alloc (.cells #[.int .i64 0, .slice none 0 0, .slice none 0 0] 29)).alloc (.cells #[.int .i64 0, .slice none 0 0, .slice none 0 0] 29)).heap.size := by simp
  go_enter Try.func6, Try.ntmps6
  go_upto_region 2 with fail
  generalize (((w.alloc (.cells #[.int .i64 n, .slice a1 nl c1, .slice a2 ml c2] 24)).alloc (.cells #[.int .i64 0, .slice none 0 0, .slice none 0 0] 29)).alloc (.cells #[.int .i64 0, .slice none 0 0, .slice none 0 0] 29)) = w0 at *
  obtain ⟨s, hs⟩ : ∃ s, s = w.heap.size := ⟨_, rfl⟩
  have HSE := Lib.hid hs
  rw [← hs] at A0 B0 C0 HS ⊢
  clear hs
  have a0 := A0.out.cell (i := 0) rfl
  have a1' := A0.out.cell (i := 1) rfl
  have b0 := C0.out.cell (i := 0) rfl
  have f0 := C0.out.frozen 0
  have C1 : Hid (Blk (w0.setCell ⟨s + 2, 0, none⟩ (.int .i64 n)) (s + 2) 29 [.int .i64 n, .slice none 0 0, .slice none 0 0]) := Lib.hid (C0.out.put 0 (.int .i64 n))
  have A1 : Hid (Blk (w0.setCell ⟨s + 2, 0, none⟩ (.int .i64 n)) s 24 [.int .i64 n, .slice a1 nl c1, .slice a2 ml c2]) := Lib.hid ((Below.heap_setCell _ _ _ _ (by simp)).trans A0.out)
  have B1 : Hid (Blk (w0.setCell ⟨s + 2, 0, none⟩ (.int .i64 n)) (s + 1) 29 [.int .i64 0, .slice none 0 0, .slice none 0 0]) := Lib.hid ((Below.heap_setCell _ _ _ _ (by simp)).trans B0.out)
  have G1 : Hid (w.grownBy (w0.setCell ⟨s + 2, 0, none⟩ (.int .i64 n)) none) := Lib.hid (grown_set G0.out (by rw [← HSE.out]; simp) _)
  have HS1 : s + 3 ≤ (w0.setCell ⟨s + 2, 0, none⟩ (.int .i64 n)).heap.size := by simp; omega
  go_upto_region 3 with fail
  clear a0 a1' b0 f0 A0 B0 C0 G0
  generalize w0.setCell ⟨s + 2, 0, none⟩ (.int .i64 n) = w1 at *
  have a1' := A1.out.cell (i := 1) rfl
  go_wp2_with fail
  refine (toIntS _ l _ (U.out.grown G1.out) h1).mono ?_
  rintro e w2 ⟨x, rfl, hg, ho⟩
  obtain ⟨ax, cx, ex, _, _, _⟩ := ho.sl
  rw [← NL.out] at ex
  subst ex
  have X2 := Lib.hid ho
  have C2 := Lib.hid (C1.out.kept hg (by simp))
  have b1 := C2.out.cell (i := 1) rfl
  have f1 := C2.out.frozen 1
  have C3 : Hid (Blk (w2.setCell ⟨s + 2, 1, none⟩ (.slice ax nl cx)) (s + 2) 29 [.int .i64 n, .slice ax nl cx, .slice none 0 0]) := Lib.hid (C2.out.put 1 _)
  have A3 : Hid (Blk (w2.setCell ⟨s + 2, 1, none⟩ (.slice ax nl cx)) s 24 [.int .i64 n, .slice a1 nl c1, .slice a2 ml c2]) := Lib.hid ((Below.heap_setCell _ _ _ _ (by simp)).trans (A1.out.kept hg (by simp)))
  have B3 : Hid (Blk (w2.setCell ⟨s + 2, 1, none⟩ (.slice ax nl cx)) (s + 1) 29 [.int .i64 0, .slice none 0 0, .slice none 0 0]) := Lib.hid ((Below.heap_setCell _ _ _ _ (by simp)).trans (B1.out.kept hg (by simp)))
  have G3 : Hid (w.grownBy (w2.setCell ⟨s + 2, 1, none⟩ (.slice ax nl cx)) none) := Lib.hid (grown_set (grown_trans G1.out hg) (by rw [← HSE.out]; simp) _)
  have HG3 : Hid (w2.grownBy (w2.setCell ⟨s + 2, 1, none⟩ (.slice ax nl cx)) (some (s + 2))) := Lib.hid (grown_cell w2 _ _)
  have X3 : Hid (Own (w2.setCell ⟨s + 2, 1, none⟩ (.slice ax nl cx)) (s + 3) (.slice ax nl cx) l) := Lib.hid ((X2.out.lower HS1).kept HG3.out (own_far (X2.out.lower HS1) (by omega)))
  have HS3 : s + 3 ≤ (w2.setCell ⟨s + 2, 1, none⟩ (.slice ax nl cx)).heap.size := by have := hg.size; simp; omega
  clear hg ho
  go_upto_region 4 with fail
  clear a1' b1 f1 X2 C2 C1 A1 B1 G1 HG3 HS1 HS
  generalize w2.setCell ⟨s + 2, 1, none⟩ (.slice ax nl cx) = w3 at *
  have a2' := A3.out.cell (i := 2) rfl
  go_wp2_with fail
  refine (toIntS _ m _ (V.out.grown G3.out) h2).mono ?_
  rintro e w4 ⟨y, rfl, hg, ho⟩
  obtain ⟨ay, cy, ey, _, _, _⟩ := ho.sl
  rw [← ML.out] at ey
  subst ey
  have C4 := Lib.hid (C3.out.kept hg (by simp))
  have b0 := C4.out.cell (i := 0) rfl
  have b1 := C4.out.cell (i := 1) rfl
  have b2 := C4.out.cell (i := 2) rfl
  have f2 := C4.out.frozen 2
  have C5 : Hid (Blk (w4.setCell ⟨s + 2, 2, none⟩ (.slice ay ml cy)) (s + 2) 29 [.int .i64 n, .slice ax nl cx, .slice ay ml cy]) := Lib.hid (C4.out.put 2 _)
  have B5 : Hid (Blk (w4.setCell ⟨s + 2, 2, none⟩ (.slice ay ml cy)) (s + 1) 29 [.int .i64 0, .slice none 0 0, .slice none 0 0]) := Lib.hid ((Below.heap_setCell _ _ _ _ (by simp)).trans (B3.out.kept hg (by simp)))
  have G5 : Hid (w.grownBy (w4.setCell ⟨s + 2, 2, none⟩ (.slice ay ml cy)) none) := Lib.hid (grown_set (grown_trans G3.out hg) (by rw [← HSE.out]; simp) _)
  have HG5 : Hid (w4.grownBy (w4.setCell ⟨s + 2, 2, none⟩ (.slice ay ml cy)) (some (s + 2))) := Lib.hid (grown_cell w4 _ _)
  have T4 : Hid (TwoOwn w4 (s + 3) (.slice ax nl cx) (.slice ay ml cy) l m) := Lib.hid ⟨X3.out.still hg, ho.lower HS3, by
    rcases X3.out.2 with ⟨h0, _⟩ | ⟨g, cap, cur, h0, _, hb, _⟩
    · left; rw [h0]; rfl
    · right
      rw [h0]
      intro e
      exact far_own (b := g) ho (by
        rcases Nat.lt_or_ge g w3.heap.size with hl | hl
        · exact hl
        · rw [Array.getElem?_eq_none hl] at hb; cases hb) e⟩
  have T5 : Hid (TwoOwn (w4.setCell ⟨s + 2, 2, none⟩ (.slice ay ml cy)) (s + 3) (.slice ax nl cx) (.slice ay ml cy) l m) := Lib.hid ⟨T4.out.1.kept HG5.out (own_far T4.out.1 (by omega)), T4.out.2.1.kept HG5.out (own_far T4.out.2.1 (by omega)), T4.out.2.2⟩
  clear hg ho
  go_upto_region 5 with fail
  clear a2' b0 b1 b2 f2 X3 C4 C3 A3 B3 G3 HG5 HS3 T4
  generalize w4.setCell ⟨s + 2, 2, none⟩ (.slice ay ml cy) = w5 at *
  have b0 := C5.out.cell (i := 0) rfl
  have b1 := C5.out.cell (i := 1) rfl
  have b2 := C5.out.cell (i := 2) rfl
  have r0 := B5.out.cell (i := 0) rfl
  have r1 := B5.out.cell (i := 1) rfl
  have r2 := B5.out.cell (i := 2) rfl
  have f0 := B5.out.frozen 0
  have f1 := B5.out.frozen 1
  have f2 := B5.out.frozen 2
  have G6 : Hid (w5.grownBy (((w5.setCell ⟨s + 1, 0, none⟩ (.int .i64 n)).setCell ⟨s + 1, 1, none⟩ (.slice ax nl cx)).setCell ⟨s + 1, 2, none⟩ (.slice ay ml cy)) (some (s + 1))) := Lib.hid (grown_trans (grown_trans (grown_cell _ _ _) (grown_cell _ _ _)) (grown_cell _ _ _))
  have T6 : Hid (TwoOwn (((w5.setCell ⟨s + 1, 0, none⟩ (.int .i64 n)).setCell ⟨s + 1, 1, none⟩ (.slice ax nl cx)).setCell ⟨s + 1, 2, none⟩ (.slice ay ml cy)) (s + 3) (.slice ax nl cx) (.slice ay ml cy) l m) := Lib.hid ⟨T5.out.1.kept G6.out (own_far T5.out.1 (by omega)), T5.out.2.1.kept G6.out (own_far T5.out.2.1 (by omega)), T5.out.2.2⟩
  have G7 : Hid (w.grownBy (((w5.setCell ⟨s + 1, 0, none⟩ (.int .i64 n)).setCell ⟨s + 1, 1, none⟩ (.slice ax nl cx)).setCell ⟨s + 1, 2, none⟩ (.slice ay ml cy)) none) := Lib.hid (grown_set (grown_set (grown_set G5.out (by rw [← HSE.out]; simp) _) (by rw [← HSE.out]; simp) _) (by rw [← HSE.out]; simp) _)
  go_wp2_with fail
  exact bodyPost_ret (v := .agg #[.int .i64 n, .slice ax nl cx, .slice ay ml cy]) (by simp [results, Try.results6, go_sem, r0, r1, r2]) rfl ⟨_, _, rfl, G7.out, T6.out.lower (by rw [← HSE.out]; omega)⟩
end Go.Proofs.Ytlehcpcejkpbmaa
