/-
  What this claim wants of the texts of earlier chapters.
  Conditions: none.
-/
import Derived.Test.YthglkgicckodaaaZStripeMendS
namespace Go.Proofs.Ythglkgicckodaaa
open Go.RowKit Go.Shelf
set_option linter.unusedVariables false
set_option linter.unusedSimpArgs false
attribute [local go_sem] Oper.semAt_some
theorem SMendAt.lens {k : Int} {a v : List Int} {f : List Bool} {n : Nat} {a' v' : List Int} {f' : List Bool} {b : Bool} (h : SMendAt k a v f n a' v' f' b) (ha : a.length = 8) (hv : v.length = 8) (hf : f.length = 8) : a'.length = 8 ∧ v'.length = 8 ∧ f'.length = 8 := by
  obtain ⟨x, _, ⟨_, d, l, m, _, rfl, rfl, rfl, rfl⟩ | ⟨rfl, rfl, rfl, rfl, _⟩⟩ := h
  · simp only [List.length_set]; exact ⟨ha, hv, hf⟩
  · exact ⟨ha, hv, hf⟩
def SMendT (k : Int) (a v : List Int) (f : List Bool) (at_ k' : Int) (a' v' : List Int) (f' : List Bool) (b : Bool) : Prop :=
  (StOk k a v f ∧ ∃ n : Nat, at_ = n ∧ n < 8 ∧ k' = k ∧ SMendAt k a v f n a' v' f' b) ∨ (¬ (StOk k a v f ∧ 0 ≤ at_ ∧ at_ < 8) ∧ k' = 0 ∧ a' = [] ∧ v' = [] ∧ f' = [] ∧ b = false)
theorem SMendT.one {k : Int} {a v : List Int} {f : List Bool} {at_ k1 k2 : Int} {a1 a2 v1 v2 : List Int} {f1 f2 : List Bool} {b1 b2 : Bool} (h : SMendT k a v f at_ k1 a1 v1 f1 b1) (h' : SMendT k a v f at_ k2 a2 v2 f2 b2) : k1 = k2 ∧ a1 = a2 ∧ v1 = v2 ∧ f1 = f2 ∧ b1 = b2 := by
  rcases h with ⟨h, n, rfl, hn, rfl, hm⟩ | ⟨h, rfl, rfl, rfl, rfl, rfl⟩
  · rcases h' with ⟨_, m, e, _, rfl, hm'⟩ | ⟨h', rfl, rfl, rfl, rfl, rfl⟩
    · obtain rfl : n = m := by omega
      exact ⟨rfl, hm.one hm'⟩
    · exact absurd ⟨h, by omega, by omega⟩ h'
  · rcases h' with ⟨h', m, rfl, _, rfl, _⟩ | ⟨h', rfl, rfl, rfl, rfl, rfl⟩
    · exact absurd ⟨h', by omega, by omega⟩ h
    · exact ⟨rfl, rfl, rfl, rfl, rfl⟩
def MendT (k : Int) (a v : List Int) (f : List Bool) (n : Int) (w : World) (e : Ending) (w' : World) : Prop := ∃ k' a' v' f' b, SMendT k a v f n k' a' v' f' b ∧ NewSt2 k' a' v' f' b w e w'
set_option maxHeartbeats 16000000 in
set_option maxRecDepth 40000 in
theorem specStripeMend (k : Int) (u x y : Value) (a v : List Int) (f : List Bool) (n : Int) (w : World) (hu : Sl w u a) (hx : Sl w x v) (hy : Bl w y f) (hal : a.length ≤ 1048576) : Calls Try.prog 24 #[.agg #[.int .i64 k, u, x, y], .int .i64 n] w (MendT k a v f n w) := by
  have U := Lib.hid hu
  have X := Lib.hid hx
  have Y := Lib.hid hy
  obtain ⟨a1, c1, e1, -, -, -⟩ := hu
  obtain ⟨a2, c2, e2, -, -, -⟩ := hx
  obtain ⟨a3, c3, e3, -, -, -⟩ := hy
  subst e1 e2 e3
  obtain ⟨l1, hl1⟩ : ∃ n, n = a.length := ⟨_, rfl⟩
  obtain ⟨l2, hl2⟩ : ∃ n, n = v.length := ⟨_, rfl⟩
  obtain ⟨l3, hl3⟩ : ∃ n, n = f.length := ⟨_, rfl⟩
  rw [← hl1] at U ⊢
  rw [← hl2] at X ⊢
  rw [← hl3] at Y ⊢
  have NL1 := Lib.hid hl1
  have NL2 := Lib.hid hl2
  have NL3 := Lib.hid hl3
  clear hl1 hl2 hl3
  have K0 : Hid (Blk ((w.alloc (.cells #[.int .i64 k, .slice a1 l1 c1, .slice a2 l2 c2, .slice a3 l3 c3] 45)).alloc (.cells #[.int .i64 0, .slice none 0 0, .slice none 0 0, .slice none 0 0] 45)) w.heap.size 45 [.int .i64 k, .slice a1 l1 c1, .slice a2 l2 c2, .slice a3 l3 c3]) := Lib.hid (by
    have h : Blk (w.alloc (.cells #[.int .i64 k, .slice a1 l1 c1, .slice a2 l2 c2, .slice a3 l3 c3] 45)) w.heap.size 45 [.int .i64 k, .slice a1 l1 c1, .slice a2 l2 c2, .slice a3 l3 c3] := heap_alloc_new _ _
    exact h.kept (World.grownBy_alloc _ _ none) (by simp))
  have Z0 : Hid (OutC ((w.alloc (.cells #[.int .i64 k, .slice a1 l1 c1, .slice a2 l2 c2, .slice a3 l3 c3] 45)).alloc (.cells #[.int .i64 0, .slice none 0 0, .slice none 0 0, .slice none 0 0] 45)) (w.heap.size + 1)) := Lib.hid (by
    have := heap_alloc_new (w.alloc (.cells #[.int .i64 k, .slice a1 l1 c1, .slice a2 l2 c2, .slice a3 l3 c3] 45)) (.cells #[.int .i64 0, .slice none 0 0, .slice none 0 0, .slice none 0 0] 45)
    rw [World.size_alloc] at this
    exact ⟨_, this, rfl⟩)
  have ZB0 : Hid (Blk ((w.alloc (.cells #[.int .i64 k, .slice a1 l1 c1, .slice a2 l2 c2, .slice a3 l3 c3] 45)).alloc (.cells #[.int .i64 0, .slice none 0 0, .slice none 0 0, .slice none 0 0] 45)) (w.heap.size + 1) 45 [.int .i64 0, .slice none 0 0, .slice none 0 0, .slice none 0 0]) := Lib.hid (by
    have := heap_alloc_new (w.alloc (.cells #[.int .i64 k, .slice a1 l1 c1, .slice a2 l2 c2, .slice a3 l3 c3] 45)) (.cells #[.int .i64 0, .slice none 0 0, .slice none 0 0, .slice none 0 0] 45)
    rw [World.size_alloc] at this
    exact this)
  have G0 := Lib.hid (grown_alloc (World.grownBy_alloc w (.cells #[.int .i64 k, .slice a1 l1 c1, .slice a2 l2 c2, .slice a3 l3 c3] 45) none) (.cells #[.int .i64 0, .slice none 0 0, .slice none 0 0, .slice none 0 0] 45))
  have LL : w.heap.size + 1 < ((w.alloc (.cells #[.int .i64 k, .slice a1 l1 c1, .slice a2 l2 c2, .slice a3 l3 c3] 45)).alloc (.cells #[.int .i64 0, .slice none 0 0, .slice none 0 0, .slice none 0 0] 45)).heap.size := by simp
  go_enter Try.func24, Try.ntmps24
  go_upto_region 1 with fail
  generalize (w.alloc (.cells #[.int .i64 k, .slice a1 l1 c1, .slice a2 l2 c2, .slice a3 l3 c3] 45)).alloc (.cells #[.int .i64 0, .slice none 0 0, .slice none 0 0, .slice none 0 0] 45) = W0 at *
  obtain ⟨g, hg⟩ : ∃ g, g = w.heap.size := ⟨_, rfl⟩
  obtain ⟨gz, hgz⟩ : ∃ g, g = w.heap.size + 1 := ⟨_, rfl⟩
  have LZ : w.heap.size ≤ gz := by omega
  have LW : gz < W0.heap.size := by omega
  rw [← hg] at K0
  rw [← hgz] at Z0 ZB0
  rw [← hgz, ← hg]
  clear hg hgz LL
  have k0 := K0.out.cell (i := 0) rfl
  have k1 := K0.out.cell (i := 1) rfl
  have k2 := K0.out.cell (i := 2) rfl
  have k3 := K0.out.cell (i := 3) rfl
  go_wp2_with fail
  refine (specStripeOk k _ _ _ a v f _ (U.out.grown G0.out) (X.out.grown G0.out) (Y.out.grown G0.out) hal).mono ?_
  rintro e w1 ⟨q, rfl, hq, hg⟩
  have Q := Lib.hid hq
  have G1 := Lib.hid (grown_trans G0.out hg)
  have K1 := Lib.hid (K0.out.kept hg (by simp))
  have ZB1 := Lib.hid (ZB0.out.kept hg (by simp))
  have Z1 : Hid (OutC w1 gz) := Lib.hid (by
    obtain ⟨old, h1, h2⟩ := Z0.out
    exact ⟨old, (hg.block gz LW (by simp)).trans h1, h2⟩)
  have LW1 : gz < w1.heap.size := Nat.lt_of_lt_of_le LW hg.size
  clear hq hg k0 k1 k2 k3 G0 K0 Z0 LW
  cases q with
  | false =>
    have NO : Hid (¬ (StOk k a v f ∧ 0 ≤ n ∧ n < 8)) := Lib.hid (fun h => by have := Q.out.2 h.1; cases this)
    go_upto_region 2 with fail
    apply wp_region_lit
    refine wpBuild0 rfl _ rfl _ builtNone' ?_
    simp only [Act.put, List.setIfInBounds_toArray, List.set_cons_succ, List.set_cons_zero]
    obtain ⟨old, ho, hz⟩ := Z1.out
    refine wpList_store_row rfl _ _ _ rfl gz #[.int .i64 0, .slice none 0 0, .slice none 0 0, .slice none 0 0] rfl rfl _ _ ho infoPub (by rw [hz]; rfl) (by kernel_rfl) ?_
    have B9 : Hid ((w1.setRow gz #[.int .i64 0, .slice none 0 0, .slice none 0 0, .slice none 0 0]).heap[gz]? = some (.cells #[.int .i64 0, .slice none 0 0, .slice none 0 0, .slice none 0 0] 45 (0, 0))) := Lib.hid (setRow_heap w1 gz old _ _ (0, 0) ho)
    have FIN : Hid (MendT k a v f n w (.returned (.tuple #[.agg #[.int .i64 0, .slice none 0 0, .slice none 0 0, .slice none 0 0], .bool false])) (w1.setRow gz #[.int .i64 0, .slice none 0 0, .slice none 0 0, .slice none 0 0])) := Lib.hid ⟨_, _, _, _, _, .inr ⟨NO.out, rfl, rfl, rfl, rfl, rfl⟩, _, _, _, rfl, grown_own G1.out (grownRow ho _) (fun i hi => by injection hi with hi; omega), StOwn.none' _ _⟩
    clear ho hz
    generalize w1.setRow gz #[.int .i64 0, .slice none 0 0, .slice none 0 0, .slice none 0 0] = w9 at *
    go_wp2_with fail
    refine bodyPost_ret (v := .tuple #[.agg #[.int .i64 0, .slice none 0 0, .slice none 0 0, .slice none 0 0], .bool false]) ?_ rfl FIN.out
    exact results_row_slot Try.results24 _ _ gz _ _ _ _ _ rfl rfl B9.out Try.underlying45 rfl infoPub
  | true =>
    have OK := Lib.hid (Q.out.1 rfl)
    clear Q
    by_cases hn : 0 ≤ n ∧ n < 8
    · obtain ⟨m, rfl, hm⟩ : ∃ m : Nat, n = m ∧ m < 8 := ⟨n.toNat, by omega, by omega⟩
      have HM := Lib.hid hm
      have SI := Lib.hid (fun W => inIsS (x := (m : Int)) (a := 0) (b := 7) (v := true) (by rw [decide_eq_true hn.1, decide_eq_true (by omega)]; rfl) W)
      clear hn hm
      go_wp2_with fail
      refine (SI.out _).mono ?_
      rintro e w' ⟨rfl, rfl⟩
      have k0 := K1.out.cell (i := 0) rfl
      have k1 := K1.out.cell (i := 1) rfl
      have k2 := K1.out.cell (i := 2) rfl
      have k3 := K1.out.cell (i := 3) rfl
      go_wp2_with fail
      refine (specL21Mend k _ _ _ a v f m HM.out _ (U.out.grown G1.out) (X.out.grown G1.out) (Y.out.grown G1.out) OK.out).mono ?_
      rintro e w2 ⟨a', v', f', b, hM, u', x', y', rfl, hg, ho⟩
      have HM2 := Lib.hid hM
      obtain ⟨L1, L2, L3⟩ := hM.lens (shOk_row.1 OK.out.sh).1 OK.out.v8 OK.out.f8
      have G2 := Lib.hid (grown_trans G1.out hg)
      have O2 := Lib.hid (ho.lower G1.out.size)
      have ZB2 := Lib.hid (ZB1.out.kept hg (by simp))
      obtain ⟨b1, d1, e1, -, -, -⟩ := ho.a
      obtain ⟨b2, d2, e2, -, -, -⟩ := ho.v
      obtain ⟨b3, d3, e3, -, -, -⟩ := ho.f
      rw [L1] at e1
      rw [L2] at e2
      rw [L3] at e3
      subst e1 e2 e3
      clear hg ho k0 k1 k2 k3 hM L1 L2 L3
      have GS : Hid (w2.grownBy ((((w2.setCell ⟨gz, 0, none⟩ (.int .i64 k)).setCell ⟨gz, 1, none⟩ (.slice b1 8 d1)).setCell ⟨gz, 2, none⟩ (.slice b2 8 d2)).setCell ⟨gz, 3, none⟩ (.slice b3 8 d3)) (some gz)) := Lib.hid (grown_trans (grown_trans (grown_trans (grownCell _ _ _) (grownCell _ _ _)) (grownCell _ _ _)) (grownCell _ _ _))
      have OZ := Lib.hid (outRow O2.out GS.out ZB2.out)
      have G9 := Lib.hid (grown_own G2.out GS.out (fun i hi => by injection hi with hi; omega))
      have z0 := ZB2.out.cell (i := 0) rfl
      have z1 := ZB2.out.cell (i := 1) rfl
      have z2 := ZB2.out.cell (i := 2) rfl
      have z3 := ZB2.out.cell (i := 3) rfl
      have f0 := ZB2.out.frozen 0
      have f1 := ZB2.out.frozen 1
      have f2 := ZB2.out.frozen 2
      have f3 := ZB2.out.frozen 3
      clear GS
      go_wp2_with fail
      refine bodyPost_ret (v := .tuple #[.agg #[.int .i64 k, .slice b1 8 d1, .slice b2 8 d2, .slice b3 8 d3], .bool b]) (by simp [results, Try.results24, go_sem, z0, z1, z2, z3]) rfl ?_
      exact ⟨_, _, _, _, _, .inl ⟨OK.out, m, rfl, HM.out, rfl, HM2.out⟩, _, _, _, rfl, G9.out, OZ.out⟩
    · have NO : Hid (¬ (StOk k a v f ∧ 0 ≤ n ∧ n < 8)) := Lib.hid (fun h => hn h.2)
      have SI := Lib.hid (fun W => inIsS (x := n) (a := 0) (b := 7) (v := false) (by rw [Bool.and_eq_false_iff]; simp only [decide_eq_false_iff_not]; omega) W)
      clear hn
      go_wp2_with fail
      refine (SI.out _).mono ?_
      rintro e w' ⟨rfl, rfl⟩
      go_upto_region 2 with fail
      apply wp_region_lit
      refine wpBuild0 rfl _ rfl _ builtNone' ?_
      simp only [Act.put, List.setIfInBounds_toArray, List.set_cons_succ, List.set_cons_zero]
      obtain ⟨old, ho, hz⟩ := Z1.out
      refine wpList_store_row rfl _ _ _ rfl gz #[.int .i64 0, .slice none 0 0, .slice none 0 0, .slice none 0 0] rfl rfl _ _ ho infoPub (by rw [hz]; rfl) (by kernel_rfl) ?_
      have B9 : Hid ((w'.setRow gz #[.int .i64 0, .slice none 0 0, .slice none 0 0, .slice none 0 0]).heap[gz]? = some (.cells #[.int .i64 0, .slice none 0 0, .slice none 0 0, .slice none 0 0] 45 (0, 0))) := Lib.hid (setRow_heap w' gz old _ _ (0, 0) ho)
      have FIN : Hid (MendT k a v f n w (.returned (.tuple #[.agg #[.int .i64 0, .slice none 0 0, .slice none 0 0, .slice none 0 0], .bool false])) (w'.setRow gz #[.int .i64 0, .slice none 0 0, .slice none 0 0, .slice none 0 0])) := Lib.hid ⟨_, _, _, _, _, .inr ⟨NO.out, rfl, rfl, rfl, rfl, rfl⟩, _, _, _, rfl, grown_own G1.out (grownRow ho _) (fun i hi => by injection hi with hi; omega), StOwn.none' _ _⟩
      clear ho hz
      generalize w'.setRow gz #[.int .i64 0, .slice none 0 0, .slice none 0 0, .slice none 0 0] = w9 at *
      go_wp2_with fail
      refine bodyPost_ret (v := .tuple #[.agg #[.int .i64 0, .slice none 0 0, .slice none 0 0, .slice none 0 0], .bool false]) ?_ rfl FIN.out
      exact results_row_slot Try.results24 _ _ gz _ _ _ _ _ rfl rfl B9.out Try.underlying45 rfl infoPub
end Go.Proofs.Ythglkgicckodaaa
