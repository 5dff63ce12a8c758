/-
  PlanNear, in the program and in the model; what is drawn for plans; whether two plans are the same.
  Conditions: none.
-/
import Derived.Test.YtbpkfcaokbidnaaPlanSpec2
import Derived.Test.YtbpkfcaokbidnaaG3
import Derived.Test.YtbpkfcaokbidnaaG4
namespace Go.Proofs.Ytbpkfcaokbidnaa
open Go.RowKit
set_option linter.unusedVariables false

/-- how many shards a shard is made of, if all others are there. -/
def NearP (k lost : Int) (f : List Bool) (w : World) (e : Ending) (w' : World) : Prop := ∃ n l m b, PlanT k lost f n l m b ∧ e = .returned (.int .i64 (l.length : Nat)) ∧ w.grownBy w' none

set_option maxHeartbeats 4000000 in
set_option maxRecDepth 20000 in
theorem specPlanNear (k lost : Int) (w : World) : Calls Try.prog 32 #[.int .i64 k, .int .i64 lost] w (NearP k lost (Sp.bits 255) w) := by
  have SS := Lib.hid (fun w => specL4Set 255 (by omega) w)
  have SP := Lib.hid (fun v w h => specPlanOf k lost v (Sp.bits 255) w h)
  generalize Sp.bits 255 = f at *
  go_enter Try.func32, Try.ntmps32
  go_wp2_with fail
  refine (SS.out _).mono ?_
  rintro e w1 ⟨v, rfl, hg, ho⟩
  have G1 := Lib.hid hg
  have B1 := Lib.hid ho.bl
  clear hg ho
  go_wp2_with fail
  refine (SP.out _ _ B1.out).mono ?_
  rintro e w2 ⟨n, l, m, b, p, q, hT, rfl, hg, ht⟩
  obtain ⟨a1, c1, e1, d1, d2, _⟩ := ht.1.sl
  obtain ⟨a2, c2, e2, _, _, _⟩ := ht.2.1.sl
  have G2 := Lib.hid (grown_trans G1.out hg)
  have HT := Lib.hid hT
  have HQ : Hid (∀ e w', e = .returned (.int .i64 (l.length : Nat)) → w.grownBy w' none → NearP k lost f w e w') := Lib.hid (fun e w' h1 h2 => ⟨n, l, m, b, hT, h1, h2⟩)
  unfold maxLen at d2
  obtain ⟨nl, hnl⟩ : ∃ n, l.length = n := ⟨_, rfl⟩
  rw [hnl] at e1 d1 HQ
  generalize m.length = ml at *
  subst e1 e2
  have G3 := Lib.hid (grown_alloc G2.out (.cells #[.int .i64 n, .slice a1 nl c1, .slice a2 ml c2] 28))
  clear hg ht hT hnl
  go_wp2_with fail
  go_ret
  exact HQ.out _ _ rfl G3.out

theorem BArr.bl8 {w : World} {g : Nat} {t : TypeId} {l : List Bool} (h : BArr w g t l) (h8 : l.length = 8) : Bl w (.slice (some ⟨g, 0, none⟩) 8 8) l :=
  ⟨_, 8, by rw [h8], by omega, by simp [maxLen], .inr ⟨g, 0, rfl, fun i hi => by rw [Nat.zero_add]; exact h.cell hi⟩⟩

set_option maxHeartbeats 4000000 in
set_option maxRecDepth 20000 in
theorem implPlanNear (k lost : Int) (w : World) : Calls Try.prog 31 #[.int .i64 k, .int .i64 lost] w (NearP k lost (Sp.bits 255) w) := by
  have SS := Lib.hid (fun w => without 0 (by omega) w)
  have SP := Lib.hid (fun v w h => implPlanOf k lost v (Sp.bits 255) w h)
  have L8 := bits_len 255
  rw [show 255 - 0 = 255 from rfl] at SS
  generalize Sp.bits 255 = f at *
  go_enter Try.func31, Try.ntmps31
  go_wp2_with fail
  refine (SS.out _).mono ?_
  rintro e w1 ⟨rfl, hg⟩
  have hs := storeF w1 L8
  have hvl : (bvals f).length = 8 := by rw [bvals_length]; exact L8
  have G1 := Lib.hid (grown_alloc hg (.cells (bvals f).toArray 83))
  have B1 := Lib.hid ((BArr.new w1 83 f).bl8 L8)
  clear hg L8
  go_upto_region 2 with fail
  clear hs hvl
  generalize w1.alloc (.cells (bvals f).toArray 83) = w3 at *
  generalize w1.heap.size = g at *
  go_wp2_with fail
  refine (SP.out _ _ B1.out).mono ?_
  rintro e w2 ⟨n, l, m, b, p, q, hT, rfl, hg, ht⟩
  obtain ⟨a1, c1, e1, d1, d2, _⟩ := ht.1.sl
  obtain ⟨a2, c2, e2, _, _, _⟩ := ht.2.1.sl
  have G2 := Lib.hid (grown_trans G1.out hg)
  have HQ : Hid (∀ e w', e = .returned (.int .i64 (l.length : Nat)) → w.grownBy w' none → NearP k lost f w e w') := Lib.hid (fun e w' h1 h2 => ⟨n, l, m, b, hT, h1, h2⟩)
  unfold maxLen at d2
  obtain ⟨nl, hnl⟩ : ∃ n, l.length = n := ⟨_, rfl⟩
  rw [hnl] at e1 d1 HQ
  generalize m.length = ml at *
  subst e1 e2
  have G3 := Lib.hid (grown_alloc G2.out (.cells #[.int .i64 n, .slice a1 nl c1, .slice a2 ml c2] 28))
  clear hg ht hT hnl
  go_wp2_with fail
  go_ret
  exact HQ.out _ _ rfl G3.out

set_option maxHeartbeats 2000000 in
set_option maxRecDepth 20000 in
theorem lkPlanSame (n : Int) (u v u' v' : Value) (l m : List Int) (w : World) (h1 : Sl w u l) (h2 : Sl w v m) (h3 : Sl w u' l) (h4 : Sl w v' m) :
    Calls Try.prog 18 #[.agg #[.int .i64 n, u, v], .agg #[.int .i64 n, u', v']] w fun e w' => e = .returned (.bool true) ∧ w.grownBy w' none := by
  have H1 := Lib.hid h1
  have H2 := Lib.hid h2
  have H3 := Lib.hid h3
  have H4 := Lib.hid h4
  obtain ⟨a1, c1, e1, _, _, _⟩ := h1
  obtain ⟨a2, c2, e2, _, _, _⟩ := h2
  obtain ⟨a3, c3, e3, _, _, _⟩ := h3
  obtain ⟨a4, c4, e4, _, _, _⟩ := h4
  have LI := Lib.hid (fun w => lkSame u u' l w)
  have MI := Lib.hid (fun w => lkSame v v' m w)
  generalize l.length = nl at *
  generalize m.length = ml at *
  subst e1 e2 e3 e4
  have G0 : Hid (w.grownBy ((w.alloc (.cells #[.int .i64 n, .slice a1 nl c1, .slice a2 ml c2] 28)).alloc (.cells #[.int .i64 n, .slice a3 nl c3, .slice a4 ml c4] 28)) none) := Lib.hid (grown_alloc (grown_alloc (World.grownBy.refl w none) _) _)
  have A0 : Hid (Blk ((w.alloc (.cells #[.int .i64 n, .slice a1 nl c1, .slice a2 ml c2] 28)).alloc (.cells #[.int .i64 n, .slice a3 nl c3, .slice a4 ml c4] 28)) w.heap.size 28 [.int .i64 n, .slice a1 nl c1, .slice a2 ml c2]) := Lib.hid ((Below.heap_alloc _ _ _ (by simp)).trans (heap_alloc_new _ _))
  have B0 : Hid (Blk ((w.alloc (.cells #[.int .i64 n, .slice a1 nl c1, .slice a2 ml c2] 28)).alloc (.cells #[.int .i64 n, .slice a3 nl c3, .slice a4 ml c4] 28)) (w.heap.size + 1) 28 [.int .i64 n, .slice a3 nl c3, .slice a4 ml c4]) := Lib.hid (by
    have h := heap_alloc_new (w.alloc (.cells #[.int .i64 n, .slice a1 nl c1, .slice a2 ml c2] 28)) (.cells #[.int .i64 n, .slice a3 nl c3, .slice a4 ml c4] 28)
    rw [World.size_alloc] at h
    exact h)
  go_enter Try.func18, Try.ntmps18
  go_upto_region 1 with fail
  generalize ((w.alloc (.cells #[.int .i64 n, .slice a1 nl c1, .slice a2 ml c2] 28)).alloc (.cells #[.int .i64 n, .slice a3 nl c3, .slice a4 ml c4] 28)) = w0 at *
  generalize w.heap.size + 1 = g2 at *
  generalize w.heap.size = g1 at *
  have k0 := A0.out.cell (i := 0) rfl
  have k1 := A0.out.cell (i := 1) rfl
  have k2 := A0.out.cell (i := 2) rfl
  have j0 := B0.out.cell (i := 0) rfl
  have j1 := B0.out.cell (i := 1) rfl
  have j2 := B0.out.cell (i := 2) rfl
  go_wp2_with fail
  refine (LI.out _ (H1.out.grown G0.out) (H3.out.grown G0.out)).mono ?_
  rintro e w1 ⟨rfl, hg⟩
  have G1 := Lib.hid (grown_trans G0.out hg)
  have k2 := (A0.out.kept hg (by simp)).cell (i := 2) rfl
  have j2 := (B0.out.kept hg (by simp)).cell (i := 2) rfl
  clear hg
  go_wp2_with fail
  refine (MI.out _ (H2.out.grown G1.out) (H4.out.grown G1.out)).mono ?_
  rintro e w2 ⟨rfl, hg⟩
  have G2 := Lib.hid (grown_trans G1.out hg)
  clear hg
  go_wp2_with fail
  go_ret
  exact ⟨rfl, G2.out⟩

/-- a kind, a shard, and which are there. -/
def DrawnKLT (w : World) (e : Ending) (w' : World) : Prop :=
  ∃ (k n : Nat) (v : Value) (f : List Bool), k ≤ 3 ∧ n ≤ 15 ∧ e = .returned (.tuple #[.int .i64 k, .int .i64 n, v]) ∧ (f.length = 8 ∨ f.length = 7) ∧ Bl w' v f ∧ Below w.heap.size w w'
def DrawnKL (w : World) (e : Ending) (w' : World) : Prop :=
  ∃ (k n : Nat), k ≤ 3 ∧ n ≤ 15 ∧ e = .returned (.tuple #[.int .i64 k, .int .i64 n]) ∧ Below w.heap.size w w'

theorem eight_more {n q : Int} (n0 : 0 ≤ n) (n1 : n < 8) (q0 : 0 ≤ q) (q1 : q < 24) : ∃ m : Nat, m ≤ 15 ∧ n + q / 23 * 8 = m ∧ q / 23 * 8 ≤ 8 ∧ 0 ≤ q / 23 ∧ q / 23 ≤ 1 := ⟨(n + q / 23 * 8).toNat, by omega, by omega, by omega, by omega, by omega⟩

set_option maxHeartbeats 2000000 in
set_option maxRecDepth 20000 in
theorem drawPlanNear (a : Option Addr) (len cap : Nat) (w : World) (h : Code w a len cap) : Calls Try.prog 30 #[.slice a len cap] w (DrawnKL w) := by
  have H := Lib.hid h
  clear h
  go_enter Try.func30, Try.ntmps30
  go_wp2_with fail
  refine (openR a len cap _ H.out).mono ?_
  rintro e w1 ⟨rfl, hb1, h1⟩
  have B1 := Lib.hid hb1
  have H1 := Lib.hid h1
  clear hb1 h1
  go_wp2_with fail
  refine (drawKind w.heap.size 0 _ H1.out (by omega)).mono ?_
  rintro e w2 ⟨m, hm, rfl, hf2, h2⟩
  have F2 := Lib.hid hf2
  have H2 := Lib.hid h2
  clear hf2 h2 H1
  go_wp2_with fail
  refine (pick w.heap.size (0 + 2) _ _ H2.out (by omega) (by omega) (by omega)).mono ?_
  rintro e w3 ⟨n, n0, n1, rfl, hf3, h3⟩
  have F3 := Lib.hid hf3
  have H3 := Lib.hid h3
  clear hf3 h3 H2
  go_wp2_with fail
  refine (pick w.heap.size (0 + 2 + 1) _ _ H3.out (by omega) (by omega) (by omega)).mono ?_
  rintro e w4 ⟨q, q0, q1, rfl, hf4, h4⟩
  have F4 := Lib.hid hf4
  clear hf4 h4 H3
  have qt : q.tdiv 23 = q / 23 := Int.tdiv_eq_ediv_of_nonneg q0
  obtain ⟨s, hs, es, es1, es2, es3⟩ := eight_more n0 n1 q0 q1
  go_wp2_with fail
  go_ret2
  exact ⟨m, s, hm, hs, by first | rfl | rw [es], B1.out.trans (((F2.out.trans F3.out).trans F4.out).below (Nat.le_refl _) B1.out.size)⟩

set_option maxHeartbeats 2000000 in
set_option maxRecDepth 20000 in
theorem drawPlanOf (a : Option Addr) (len cap : Nat) (w : World) (h : Code w a len cap) : Calls Try.prog 15 #[.slice a len cap] w (DrawnKLT w) := by
  have H := Lib.hid h
  clear h
  go_enter Try.func15, Try.ntmps15
  go_wp2_with fail
  refine (openR a len cap _ H.out).mono ?_
  rintro e w1 ⟨rfl, hb1, h1⟩
  have B1 := Lib.hid hb1
  have H1 := Lib.hid h1
  clear hb1 h1
  go_wp2_with fail
  refine (drawKind w.heap.size 0 _ H1.out (by omega)).mono ?_
  rintro e w2 ⟨m, hm, rfl, hf2, h2⟩
  have F2 := Lib.hid hf2
  have H2 := Lib.hid h2
  clear hf2 h2 H1
  go_wp2_with fail
  refine (pick w.heap.size (0 + 2) _ _ H2.out (by omega) (by omega) (by omega)).mono ?_
  rintro e w3 ⟨n, n0, n1, rfl, hf3, h3⟩
  have F3 := Lib.hid hf3
  have H3 := Lib.hid h3
  clear hf3 h3 H2
  go_wp2_with fail
  refine (pick w.heap.size (0 + 2 + 1) _ _ H3.out (by omega) (by omega) (by omega)).mono ?_
  rintro e w4 ⟨q, q0, q1, rfl, hf4, h4⟩
  have F4 := Lib.hid hf4
  have H4 := Lib.hid h4
  clear hf4 h4 H3
  have qt : q.tdiv 23 = q / 23 := Int.tdiv_eq_ediv_of_nonneg q0
  obtain ⟨s, hs, es, es1, es2, es3⟩ := eight_more n0 n1 q0 q1
  go_wp2_with fail
  refine (drawThere w.heap.size (0 + 2 + 1 + 1) _ H4.out (by omega)).mono ?_
  rintro e w5 ⟨v, f, rfl, hf8, hf5, hu, h5⟩
  have F5 := Lib.hid hf5
  have U := Lib.hid hu
  have L8 := Lib.hid hf8
  clear hf5 h5 hu hf8 H4
  go_wp2_with fail
  go_ret3
  exact ⟨m, s, v, f, hm, hs, by first | rfl | rw [es], L8.out, U.out.1, B1.out.trans ((((F2.out.trans F3.out).trans F4.out).trans F5.out).below (Nat.le_refl _) B1.out.size)⟩
end Go.Proofs.Ytbpkfcaokbidnaa
