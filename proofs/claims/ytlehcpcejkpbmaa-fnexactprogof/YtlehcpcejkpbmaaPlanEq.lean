/-
  The laws' helpers on plans: the same, marked, held.
  Conditions: none.
-/
import Derived.Test.YtlehcpcejkpbmaaPlanNear
namespace Go.Proofs.Ytlehcpcejkpbmaa
open Go.RowKit
set_option linter.unusedVariables false

theorem PlanT.len {k lost : Int} {f : List Bool} {n : Int} {l m : List Int} {b : Bool} (h : PlanT k lost f n l m b) : l.length ≤ 4 ∧ m.length ≤ 4 := by
  rcases h with ⟨_, k1, l1, S, _, _, _, _, _, hp, hc, rfl, _⟩ | ⟨_, _, rfl, rfl, _⟩
  · have := (Sp.plan_some hp).2.1
    rw [ints_len, hc.1.1]; omega
  · simp
theorem Lives.new2 {w0 w w' : World} {L : List Item} (h : Lives w0 w L) {u v : Value} {l m : List Int} (hg : w.grownBy w' none) (k : TwoOwn w' w.heap.size u v l m) : Lives w0 w' (row1 u l :: row1 v m :: L) :=
  h.new (M := [row1 u l, row1 v m]) hg k.all
/-- a plan's block is no row's. -/
theorem own_blk {w : World} {base g : Nat} {v : Value} {l : List Int} {cs : List Value} (h : Own w base v l) (k : Blk w g 29 cs) : some g ≠ v.ownBlock := by
  intro e
  rcases h.2 with ⟨rfl, _⟩ | ⟨g', cap, cur, rfl, _, hg, _⟩
  · cases e
  · have e' : g = g' := by injection e
    subst e'
    unfold Blk at k
    rw [hg] at k
    simp at k
theorem bown_blk {w : World} {base g : Nat} {v : Value} {l : List Bool} {cs : List Value} (h : BOwn w base v l) (k : Blk w g 29 cs) : some g ≠ v.ownBlock := by
  intro e
  rcases h.2 with ⟨rfl, _⟩ | ⟨g', cap, cur, rfl, _, hg, _⟩
  · cases e
  · have e' : g = g' := by injection e
    subst e'
    unfold Blk at k
    rw [hg] at k
    simp at k

set_option maxHeartbeats 2000000 in
set_option maxRecDepth 20000 in
theorem eqPlanSame (n : Int) (u v u' v' : Value) (l m : List Int) (w : World) (h1 : Sl w u l) (h2 : Sl w v m) (h3 : Sl w u' l) (h4 : Sl w v' m) :
    Calls Try.prog 9 #[.agg #[.int .i64 n, u, v], .agg #[.int .i64 n, u', v']] w fun e w' => e = .returned (.bool true) ∧ w.grownBy w' none := by
  have H1 := Lib.hid h1
  have H2 := Lib.hid h2
  have H3 := Lib.hid h3
  have H4 := Lib.hid h4
  obtain ⟨a1, c1, e1, _, _, _⟩ := h1
  obtain ⟨a2, c2, e2, _, _, _⟩ := h2
  obtain ⟨a3, c3, e3, _, _, _⟩ := h3
  obtain ⟨a4, c4, e4, _, _, _⟩ := h4
  have LI := Lib.hid (fun w => eqSame u u' l w)
  have MI := Lib.hid (fun w => eqSame v v' m w)
  generalize l.length = nl at *
  generalize m.length = ml at *
  subst e1 e2 e3 e4
  have G0 : Hid (w.grownBy ((w.alloc (.cells #[.int .i64 n, .slice a1 nl c1, .slice a2 ml c2] 29)).alloc (.cells #[.int .i64 n, .slice a3 nl c3, .slice a4 ml c4] 29)) none) := Lib.hid (grown_alloc (grown_alloc (World.grownBy.refl w none) _) _)
  have A0 : Hid (Blk ((w.alloc (.cells #[.int .i64 n, .slice a1 nl c1, .slice a2 ml c2] 29)).alloc (.cells #[.int .i64 n, .slice a3 nl c3, .slice a4 ml c4] 29)) w.heap.size 29 [.int .i64 n, .slice a1 nl c1, .slice a2 ml c2]) := Lib.hid ((Below.heap_alloc _ _ _ (by simp)).trans (heap_alloc_new _ _))
  have B0 : Hid (Blk ((w.alloc (.cells #[.int .i64 n, .slice a1 nl c1, .slice a2 ml c2] 29)).alloc (.cells #[.int .i64 n, .slice a3 nl c3, .slice a4 ml c4] 29)) (w.heap.size + 1) 29 [.int .i64 n, .slice a3 nl c3, .slice a4 ml c4]) := Lib.hid (by
    have h := heap_alloc_new (w.alloc (.cells #[.int .i64 n, .slice a1 nl c1, .slice a2 ml c2] 29)) (.cells #[.int .i64 n, .slice a3 nl c3, .slice a4 ml c4] 29)
    rw [World.size_alloc] at h
    exact h)
  go_enter Try.func9, Try.ntmps9
  go_upto_region 1 with fail
  generalize ((w.alloc (.cells #[.int .i64 n, .slice a1 nl c1, .slice a2 ml c2] 29)).alloc (.cells #[.int .i64 n, .slice a3 nl c3, .slice a4 ml c4] 29)) = w0 at *
  generalize w.heap.size + 1 = g2 at *
  generalize w.heap.size = g1 at *
  have k0 := A0.out.cell (i := 0) rfl
  have k1 := A0.out.cell (i := 1) rfl
  have j0 := B0.out.cell (i := 0) rfl
  have j1 := B0.out.cell (i := 1) rfl
  go_wp2_with fail
  refine (LI.out _ (H1.out.grown G0.out) (H3.out.grown G0.out)).mono ?_
  rintro e w1 ⟨rfl, hg⟩
  have G1 := Lib.hid (grown_trans G0.out hg)
  have k2 := (A0.out.kept hg (by simp)).cell (i := 2) rfl
  have j2 := (B0.out.kept hg (by simp)).cell (i := 2) rfl
  clear hg
  go_wp2_with fail
  refine (MI.out _ (H2.out.grown G1.out) (H4.out.grown G1.out)).mono ?_
  rintro e w2 ⟨rfl, hg⟩
  have G2 := Lib.hid (grown_trans G1.out hg)
  clear hg
  go_wp2_with fail
  go_ret
  exact ⟨rfl, G2.out⟩

set_option maxHeartbeats 2000000 in
set_option maxRecDepth 20000 in
theorem markPlan (w0 : World) (A C : List Item) (d : Int) (u v : Value) (l m : List Int) (k : Int) (w : World) (h : Lives w0 w (A ++ row1 u l :: row1 v m :: C)) (hl : l.length ≤ 1000) (hm : m.length ≤ 1000) (k0 : 0 ≤ k) (k1 : k ≤ 1000000) :
    Calls Try.prog 10 #[.agg #[.int .i64 d, u, v], .int .i64 k] w fun e w' => e = .returned (.int .i64 (k + l.length + m.length)) ∧ Lives w0 w' (A ++ row1 u (marks k l.length) :: row1 v (marks (k + l.length) m.length) :: C) ∧ ∀ g cs, Blk w g 29 cs → Blk w' g 29 cs := by
  have hu : Own w w0.heap.size u l := row1_own.1 (h.own.1 _ (by simp))
  have hv : Own w w0.heap.size v m := row1_own.1 (h.own.1 _ (by simp))
  obtain ⟨a1, c1, e1, _, _, _⟩ := hu.sl
  obtain ⟨a2, c2, e2, _, _, _⟩ := hv.sl
  obtain ⟨nl, hnl⟩ : ∃ n, l.length = n := ⟨_, rfl⟩
  obtain ⟨ml, hml⟩ : ∃ n, m.length = n := ⟨_, rfl⟩
  rw [hnl] at e1 hl ⊢
  rw [hml] at e2 hm ⊢
  have NL := Lib.hid hnl
  have ML := Lib.hid hml
  subst e1 e2
  have ga := World.grownBy_alloc w (.cells #[.int .i64 d, .slice a1 nl c1, .slice a2 ml c2] 29) none
  have L0 := Lib.hid (h.still ga)
  have K0 : Hid (Blk (w.alloc (.cells #[.int .i64 d, .slice a1 nl c1, .slice a2 ml c2] 29)) w.heap.size 29 [.int .i64 d, .slice a1 nl c1, .slice a2 ml c2]) := Lib.hid (heap_alloc_new _ _)
  have B0 : Hid (∀ g cs, Blk w g 29 cs → Blk (w.alloc (.cells #[.int .i64 d, .slice a1 nl c1, .slice a2 ml c2] 29)) g 29 cs) := Lib.hid fun g cs hb => hb.kept ga (by simp)
  clear ga h hu hv hnl hml
  go_enter Try.func10, Try.ntmps10
  go_upto_region 1 with fail
  generalize w.alloc (.cells #[.int .i64 d, .slice a1 nl c1, .slice a2 ml c2] 29) = w1 at *
  generalize w.heap.size = r at *
  have k1' := K0.out.cell (i := 1) rfl
  have O1 := Lib.hid (row1_own.1 (L0.out.own.1 (row1 (.slice a1 nl c1) l) (by simp)))
  go_wp2_with fail
  refine (markIntS _ l k w0.heap.size _ O1.out (by rw [NL.out]; omega) k0 (by omega)).mono ?_
  rintro e w2 ⟨rfl, hg, ho⟩
  rw [NL.out] at ho ⊢
  have L2 : Hid (Lives w0 w2 (A ++ row1 (.slice a1 nl c1) (marks k nl) :: row1 (.slice a2 ml c2) m :: C)) := Lib.hid (L0.out.put (x' := row1 (.slice a1 nl c1) (marks k nl)) rfl hg (row1_own.2 ho))
  have B2 : Hid (∀ g cs, Blk w g 29 cs → Blk w2 g 29 cs) := Lib.hid fun g cs hb => (B0.out g cs hb).kept hg (own_blk O1.out (B0.out g cs hb))
  have K2 := Lib.hid (K0.out.kept hg (own_blk O1.out K0.out))
  have k2' := K2.out.cell (i := 2) rfl
  have O2 := Lib.hid (row1_own.1 (L2.out.own.1 (row1 (.slice a2 ml c2) m) (by simp)))
  clear hg ho L0 B0 K0 O1 k1'
  go_wp2_with fail
  refine (markIntS _ m (k + nl) w0.heap.size _ O2.out (by rw [ML.out]; omega) (by omega) (by omega)).mono ?_
  rintro e w3 ⟨rfl, hg, ho⟩
  rw [ML.out] at ho ⊢
  have L3 : Hid (Lives w0 w3 (A ++ row1 (.slice a1 nl c1) (marks k nl) :: row1 (.slice a2 ml c2) (marks (k + nl) ml) :: C)) := Lib.hid (by
    have h2 : Lives w0 w2 ((A ++ [row1 (.slice a1 nl c1) (marks k nl)]) ++ row1 (.slice a2 ml c2) m :: C) := by simpa using L2.out
    have := h2.put (x' := row1 (.slice a2 ml c2) (marks (k + nl) ml)) rfl hg (row1_own.2 ho)
    simpa using this)
  have B3 : Hid (∀ g cs, Blk w g 29 cs → Blk w3 g 29 cs) := Lib.hid fun g cs hb => (B2.out g cs hb).kept hg (own_blk O2.out (B2.out g cs hb))
  clear hg ho L2 B2 K2 O2 k2'
  go_wp2_with fail
  go_ret
  exact ⟨rfl, L3.out, B3.out⟩

end Go.Proofs.Ytlehcpcejkpbmaa
