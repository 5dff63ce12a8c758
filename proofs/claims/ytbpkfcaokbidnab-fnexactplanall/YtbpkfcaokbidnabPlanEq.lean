/-
  The laws' helpers on plans: the same, marked, held.
  Conditions: none.
-/
import Derived.Test.YtbpkfcaokbidnabPlanNear
namespace Go.Proofs.Ytbpkfcaokbidnab
open Go.RowKit
set_option linter.unusedVariables false

theorem PlanT.len {k lost : Int} {f : List Bool} {n : Int} {l m : List Int} {b : Bool} (h : PlanT k lost f n l m b) : l.length ≤ 4 ∧ m.length ≤ 4 := by
  rcases h with ⟨_, k1, l1, S, _, _, _, _, _, hp, hc, rfl, _⟩ | ⟨_, _, rfl, rfl, _⟩
  · have := (Sp.plan_some hp).2.1
    rw [ints_len, hc.1.1]; omega
  · simp
theorem Lives.new2 {w0 w w' : World} {L : List Item} (h : Lives w0 w L) {u v : Value} {l m : List Int} (hg : w.grownBy w' none) (k : TwoOwn w' w.heap.size u v l m) : Lives w0 w' (row1 u l :: row1 v m :: L) :=
  h.new (M := [row1 u l, row1 v m]) hg k.all
/-- a plan's block is no row's. -/
theorem own_blk {w : World} {base g : Nat} {v : Value} {l : List Int} {cs : List Value} (h : Own w base v l) (k : Blk w g 35 cs) : some g ≠ v.ownBlock := by
  intro e
  rcases h.2 with ⟨rfl, _⟩ | ⟨g', cap, cur, rfl, _, hg, _⟩
  · cases e
  · have e' : g = g' := by injection e
    subst e'
    unfold Blk at k
    rw [hg] at k
    simp at k
theorem bown_blk {w : World} {base g : Nat} {v : Value} {l : List Bool} {cs : List Value} (h : BOwn w base v l) (k : Blk w g 35 cs) : some g ≠ v.ownBlock := by
  intro e
  rcases h.2 with ⟨rfl, _⟩ | ⟨g', cap, cur, rfl, _, hg, _⟩
  · cases e
  · have e' : g = g' := by injection e
    subst e'
    unfold Blk at k
    rw [hg] at k
    simp at k

set_option maxHeartbeats 2000000 in
set_option maxRecDepth 20000 in
theorem eqPlanSame (n : Int) (u v u' v' : Value) (l m : List Int) (w : World) (h1 : Sl w u l) (h2 : Sl w v m) (h3 : Sl w u' l) (h4 : Sl w v' m) :
    Calls Try.prog 59 #[.agg #[.int .i64 n, u, v], .agg #[.int .i64 n, u', v']] w fun e w' => e = .returned (.bool true) ∧ w.grownBy w' none := by
  have H1 := Lib.hid h1
  have H2 := Lib.hid h2
  have H3 := Lib.hid h3
  have H4 := Lib.hid h4
  obtain ⟨a1, c1, e1, _, _, _⟩ := h1
  obtain ⟨a2, c2, e2, _, _, _⟩ := h2
  obtain ⟨a3, c3, e3, _, _, _⟩ := h3
  obtain ⟨a4, c4, e4, _, _, _⟩ := h4
  have LI := Lib.hid (fun w => eqSame u u' l w)
  have MI := Lib.hid (fun w => eqSame v v' m w)
  generalize l.length = nl at *
  generalize m.length = ml at *
  subst e1 e2 e3 e4
  have G0 : Hid (w.grownBy ((w.alloc (.cells #[.int .i64 n, .slice a1 nl c1, .slice a2 ml c2] 35)).alloc (.cells #[.int .i64 n, .slice a3 nl c3, .slice a4 ml c4] 35)) none) := Lib.hid (grown_alloc (grown_alloc (World.grownBy.refl w none) _) _)
  have A0 : Hid (Blk ((w.alloc (.cells #[.int .i64 n, .slice a1 nl c1, .slice a2 ml c2] 35)).alloc (.cells #[.int .i64 n, .slice a3 nl c3, .slice a4 ml c4] 35)) w.heap.size 35 [.int .i64 n, .slice a1 nl c1, .slice a2 ml c2]) := Lib.hid ((Below.heap_alloc _ _ _ (by simp)).trans (heap_alloc_new _ _))
  have B0 : Hid (Blk ((w.alloc (.cells #[.int .i64 n, .slice a1 nl c1, .slice a2 ml c2] 35)).alloc (.cells #[.int .i64 n, .slice a3 nl c3, .slice a4 ml c4] 35)) (w.heap.size + 1) 35 [.int .i64 n, .slice a3 nl c3, .slice a4 ml c4]) := Lib.hid (by
    have h := heap_alloc_new (w.alloc (.cells #[.int .i64 n, .slice a1 nl c1, .slice a2 ml c2] 35)) (.cells #[.int .i64 n, .slice a3 nl c3, .slice a4 ml c4] 35)
    rw [World.size_alloc] at h
    exact h)
  go_enter Try.func59, Try.ntmps59
  go_upto_region 1 with fail
  generalize ((w.alloc (.cells #[.int .i64 n, .slice a1 nl c1, .slice a2 ml c2] 35)).alloc (.cells #[.int .i64 n, .slice a3 nl c3, .slice a4 ml c4] 35)) = w0 at *
  generalize w.heap.size + 1 = g2 at *
  generalize w.heap.size = g1 at *
  have k0 := A0.out.cell (i := 0) rfl
  have k1 := A0.out.cell (i := 1) rfl
  have j0 := B0.out.cell (i := 0) rfl
  have j1 := B0.out.cell (i := 1) rfl
  go_wp2_with fail
  refine (LI.out _ (H1.out.grown G0.out) (H3.out.grown G0.out)).mono ?_
  rintro e w1 ⟨rfl, hg⟩
  have G1 := Lib.hid (grown_trans G0.out hg)
  have k2 := (A0.out.kept hg (by simp)).cell (i := 2) rfl
  have j2 := (B0.out.kept hg (by simp)).cell (i := 2) rfl
  clear hg
  go_wp2_with fail
  refine (MI.out _ (H2.out.grown G1.out) (H4.out.grown G1.out)).mono ?_
  rintro e w2 ⟨rfl, hg⟩
  have G2 := Lib.hid (grown_trans G1.out hg)
  clear hg
  go_wp2_with fail
  go_ret
  exact ⟨rfl, G2.out⟩

set_option maxHeartbeats 2000000 in
set_option maxRecDepth 20000 in
theorem markBoolS (v : Value) (f : List Bool) (k : Int) (base : Nat) (w : World) (h : BOwn w base v f) (hl : f.length ≤ 1048576) (k0 : 0 ≤ k) (k1 : k ≤ 1000000) :
    Calls Try.prog 20 #[v, .int .i64 k] w fun e w' => e = .returned (.int .i64 (k + f.length)) ∧ w.grownBy w' v.ownBlock ∧ ∃ f', BOwn w' base v f' := by
  rcases h.2 with ⟨rfl, h0⟩ | ⟨g, cap, cur, rfl, hb⟩
  · have : f = [] := List.eq_nil_of_length_eq_zero h0
    subst this
    have O := Lib.hid h
    clear h h0
    go_enter Try.func20, Try.ntmps20
    go_wp2_with fail
    go_loop [1, 5] (fun m i => m = .int .i64 k ∧ i = .int .i64 0) (fun _ _ => 0)
    case atStart => exact ⟨rfl, rfl⟩
    case round =>
      obtain ⟨rfl, rfl⟩ := hrel
      go_wp2_with fail
      go_ret
      exact ⟨by simp, World.grownBy.refl _ _, [], O.out⟩
  · have O := Lib.hid h
    have hcm : cap ≤ maxLen := hb.2.2.2.1
    have hcl : f.length ≤ cap := hb.2.2.1
    unfold maxLen at hcm
    clear h hb
    go_enter Try.func20, Try.ntmps20
    go_wp2_with fail
    go_loopw [1, 5] (fun m i wr => ∃ (j : Nat) (f' : List Bool), j ≤ f.length ∧ i = .int .i64 j ∧ m = .int .i64 (k + j) ∧ f'.length = f.length ∧ w.grownBy wr (some g) ∧ BOwn wr base (.slice (some ⟨g, 0, none⟩) f.length cap) f') (fun _ i _ => f.length - (intOf i).toNat)
    case atStart => exact ⟨0, f, by omega, rfl, by simp, rfl, World.grownBy.refl _ _, O.out⟩
    case round =>
      obtain ⟨j, f', hj, rfl, rfl, hf', hgr, ho⟩ := hrel
      have G := Lib.hid hgr
      have B := Lib.hid ho
      have F := Lib.hid hf'
      clear hgr ho hf' O
      by_cases hlt : j < f.length
      · have hlt' : (j : Int) < f.length := by omega
        obtain ⟨aa, ca, ea, _, _, hr⟩ := B.out.bl
        injection ea with e1 e2 e3
        subst e1 e3
        obtain ⟨b', o', e', hx⟩ := hr.at_ (k := j) (by rw [F.out]; exact hlt)
        injection e' with e'
        injection e' with e1 e4
        subst e1 e4
        rw [Nat.zero_add] at hx
        have hfz : wr.frozen? ⟨g, j, none⟩ = false := by
          have h := B.out
          unfold BOwn at h
          rw [F.out] at h
          exact World.ownsRow.frozenAt h j
        clear hr e2
        go_wp2_with fail
        go_roundw
        case rel => exact ⟨j + 1, _, by omega, by go_num, by go_num, by rw [List.length_set]; exact F.out, grown_trans G.out (B.out.put F.out.symm j _).2, (B.out.put F.out.symm j _).1⟩
        case measure => simp [intOf]; omega
      · obtain rfl : j = f.length := by omega
        go_wp2_with fail
        go_ret
        exact ⟨rfl, G.out, f', B.out⟩
end Go.Proofs.Ytbpkfcaokbidnab
