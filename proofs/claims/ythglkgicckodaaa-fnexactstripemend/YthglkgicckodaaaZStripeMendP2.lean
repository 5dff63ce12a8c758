/-
  What this claim wants of the texts of earlier chapters.
  Conditions: none.
-/
import Derived.Test.YthglkgicckodaaaZStripeMendP
import Derived.Test.YthglkgicckodaaaZStripeMendS2
namespace Go.Proofs.Ythglkgicckodaaa
open Go.RowKit Go.Shelf
set_option linter.unusedVariables false
set_option linter.unusedSimpArgs false
attribute [local go_sem] Oper.semAt_some
set_option maxHeartbeats 16000000 in
set_option maxRecDepth 40000 in
theorem implStripeMend (k : Int) (u x y : Value) (a v : List Int) (f : List Bool) (n : Int) (w : World) (hu : Sl w u a) (hx : Sl w x v) (hy : Bl w y f) : Calls Try.prog 26 #[.agg #[.int .i64 k, u, x, y], .int .i64 n] w (MendT k a v f n w) := by
  have U := Lib.hid hu
  have X := Lib.hid hx
  have Y := Lib.hid hy
  obtain ⟨a1, c1, e1, _, _, _⟩ := hu
  obtain ⟨a2, c2, e2, _, _, _⟩ := hx
  obtain ⟨a3, c3, e3, _, _, _⟩ := hy
  subst e1 e2 e3
  obtain ⟨l1, hl1⟩ : ∃ n, n = a.length := ⟨_, rfl⟩
  obtain ⟨l2, hl2⟩ : ∃ n, n = v.length := ⟨_, rfl⟩
  obtain ⟨l3, hl3⟩ : ∃ n, n = f.length := ⟨_, rfl⟩
  rw [← hl1] at U ⊢
  rw [← hl2] at X ⊢
  rw [← hl3] at Y ⊢
  clear hl1 hl2 hl3
  have G0 := Lib.hid (grown_alloc (World.grownBy_alloc w (.cells #[.int .i64 k, .slice a1 l1 c1, .slice a2 l2 c2, .slice a3 l3 c3] 45) none) (.cells #[.int .i64 0, .slice none 0 0, .slice none 0 0, .slice none 0 0] 45))
  have Z0 : Hid (SZ4 ((w.alloc (.cells #[.int .i64 k, .slice a1 l1 c1, .slice a2 l2 c2, .slice a3 l3 c3] 45)).alloc (.cells #[.int .i64 0, .slice none 0 0, .slice none 0 0, .slice none 0 0] 45)) (w.heap.size + 1)) := Lib.hid (by
    have := heap_alloc_new (w.alloc (.cells #[.int .i64 k, .slice a1 l1 c1, .slice a2 l2 c2, .slice a3 l3 c3] 45)) (.cells #[.int .i64 0, .slice none 0 0, .slice none 0 0, .slice none 0 0] 45)
    rw [World.size_alloc] at this
    exact ⟨_, this, rfl⟩)
  have ZB0 : Hid (Blk ((w.alloc (.cells #[.int .i64 k, .slice a1 l1 c1, .slice a2 l2 c2, .slice a3 l3 c3] 45)).alloc (.cells #[.int .i64 0, .slice none 0 0, .slice none 0 0, .slice none 0 0] 45)) (w.heap.size + 1) 45 [.int .i64 0, .slice none 0 0, .slice none 0 0, .slice none 0 0]) := Lib.hid (by
    have := heap_alloc_new (w.alloc (.cells #[.int .i64 k, .slice a1 l1 c1, .slice a2 l2 c2, .slice a3 l3 c3] 45)) (.cells #[.int .i64 0, .slice none 0 0, .slice none 0 0, .slice none 0 0] 45)
    rw [World.size_alloc] at this
    exact this)
  have SO := Lib.hid (stripeOf_ k _ _ _ a v f _ (U.out.grown G0.out) (X.out.grown G0.out) (Y.out.grown G0.out))
  go_enter Try.func26, Try.ntmps26
  go_wp2_with fail
  obtain ⟨gz, hgz⟩ : ∃ g, g = w.heap.size + 1 := ⟨_, rfl⟩
  rw [← hgz] at Z0 ZB0 ⊢
  have LZ : w.heap.size ≤ gz := by omega
  clear hgz
  refine SO.out.mono ?_
  rintro e w1 ⟨hg, k', L, A, V, F, b, rfl, hlen, hb, hE⟩
  have B := Lib.hid hb
  have E := Lib.hid hE
  have LN := Lib.hid hlen
  have HS := Lib.hid (infoSt (k := k') hlen)
  have hs := storeSt w1 (k := k') hlen
  have hvl := stv_len (k := k') hlen
  have G1 := Lib.hid (grown_alloc (grown_trans G0.out hg) (.cells (stv k' L A V F).toArray 94))
  have S1 := Lib.hid (SB.new w1 k' L A V F)
  have Z1 := Lib.hid ((Z0.out.still hg).still (World.grownBy_alloc w1 (.cells (stv k' L A V F).toArray 94) none))
  have ZB1 := Lib.hid ((ZB0.out.kept hg (by simp)).kept (World.grownBy_alloc w1 (.cells (stv k' L A V F).toArray 94) none) (by simp))
  clear hg hb hE SO hlen G0 Z0 ZB0
  go_upto_region 2 with fail
  clear hs hvl
  generalize w1.alloc (.cells (stv k' L A V F).toArray 94) = w2 at *
  generalize w1.heap.size = g at *
  cases b with
  | false =>
    have NO : Hid (¬ StOk k a v f) := Lib.hid (fun h => by have := B.out.2 h; cases this)
    go_upto_region 3 with fail
    apply wp_region_lit
    refine wpBuild0 rfl _ rfl _ builtNone ?_
    simp only [Act.put, List.setIfInBounds_toArray, List.set_cons_succ, List.set_cons_zero]
    obtain ⟨old, ho, hz⟩ := Z1.out
    refine wpList_store_row rfl _ _ _ rfl gz #[.int .i64 0, .slice none 0 0, .slice none 0 0, .slice none 0 0] rfl rfl _ _ ho infoPub (by rw [hz]; rfl) (by kernel_rfl) ?_
    have B9 : Hid ((w2.setRow gz #[.int .i64 0, .slice none 0 0, .slice none 0 0, .slice none 0 0]).heap[gz]? = some (.cells #[.int .i64 0, .slice none 0 0, .slice none 0 0, .slice none 0 0] 45 (0, 0))) := Lib.hid (setRow_heap w2 gz old _ _ (0, 0) ho)
    have FIN : Hid (MendT k a v f n w (.returned (.tuple #[.agg #[.int .i64 0, .slice none 0 0, .slice none 0 0, .slice none 0 0], .bool false])) (w2.setRow gz #[.int .i64 0, .slice none 0 0, .slice none 0 0, .slice none 0 0])) := Lib.hid ⟨_, _, _, _, _, .inr ⟨fun h => NO.out h.1, rfl, rfl, rfl, rfl, rfl⟩, _, _, _, rfl, grown_own G1.out (grownRow ho _) (fun i hi => by injection hi with hi; omega), StOwn.none_ _ _⟩
    clear ho hz
    generalize w2.setRow gz #[.int .i64 0, .slice none 0 0, .slice none 0 0, .slice none 0 0] = w9 at *
    go_wp2_with fail
    refine bodyPost_ret (v := .tuple #[.agg #[.int .i64 0, .slice none 0 0, .slice none 0 0, .slice none 0 0], .bool false]) ?_ rfl FIN.out
    exact results_row_slot Try.results26 _ _ gz _ _ _ _ _ rfl rfl B9.out Try.underlying45 rfl infoPub
  | true =>
    have OK := Lib.hid (B.out.1 rfl)
    obtain ⟨rfl, rfl, rfl, rfl, rfl⟩ := E.out rfl
    clear E B
    obtain ⟨j, rfl, hj⟩ : ∃ j : Nat, k' = j ∧ (j = 1 ∨ j = 2) := ⟨k'.toNat, by have := OK.out.kind; omega, by have := OK.out.kind; omega⟩
    simp only [Int.toNat_natCast] at S1 LN HS ⊢
    have HJ := Lib.hid hj
    clear hj
    go_wp2_with fail
    refine (shardIsS n _).mono ?_
    rintro e w' ⟨rfl, rfl⟩
    by_cases hn : 0 ≤ n ∧ n < 8
    · have hd : decide (0 ≤ n ∧ n < 8) = true := by simp [hn]
      obtain ⟨m, rfl, hm⟩ : ∃ m : Nat, n = m ∧ m < 8 := ⟨n.toNat, by omega, by omega⟩
      rw [hd]
      have SL := Lib.hid (fun w => stMend HJ.out LN.out OK.out hm w)
      have HM := Lib.hid hm
      clear hd hn hm
      go_upto_region 4 with fail
      apply wp_region_lit
      refine wpList_load_row rfl _ _ rfl g rfl _ _ _ _ S1.out Try.underlying94 rfl HS.out ?_
      simp only [Act.put, List.setIfInBounds_toArray, List.set_cons_succ, List.set_cons_zero]
      go_wp2_with fail
      refine (SL.out _).mono ?_
      rintro e w3 ⟨a', v', F', b, hM, rfl, hg⟩
      have HM2 := Lib.hid hM
      obtain ⟨L1, L2, L3⟩ := hM.lens LN.out.a LN.out.v LN.out.f
      have LN2 : Hid (SLen (grid j) a' v' F') := Lib.hid ⟨LN.out.l, L1, L2, L3⟩
      have HS2 := Lib.hid (infoSt (k := (j : Int)) LN2.out)
      have hs := storeSt w3 (k := (j : Int)) LN2.out
      have hvl := stv_len (k := (j : Int)) LN2.out
      have ga := grown_alloc hg (.cells (stv j (grid j) a' v' F').toArray 94)
      have G3 := Lib.hid (grown_trans G1.out ga)
      have ZB3 := Lib.hid (ZB1.out.kept ga (by simp))
      have S3 := Lib.hid (SB.new w3 j (grid j) a' v' F')
      clear hg ga hM L1 L2 L3 G1 ZB1 Z1 S1 SL
      go_upto_region 5 with fail
      clear hs hvl
      generalize w3.alloc (.cells (stv j (grid j) a' v' F').toArray 94) = w4 at *
      generalize w3.heap.size = g8 at *
      apply wp_region_lit
      refine wpList_load_row rfl _ _ rfl g8 rfl _ _ _ _ S3.out Try.underlying94 rfl HS2.out ?_
      simp only [Act.put, List.setIfInBounds_toArray, List.set_cons_succ, List.set_cons_zero]
      go_wp2_with fail
      refine (stPublic LN2.out _).mono ?_
      rintro e w5 ⟨u', x', y', rfl, hg, ho⟩
      have G5 := Lib.hid (grown_trans G3.out hg)
      have ZB5 := Lib.hid (ZB3.out.kept hg (by simp))
      have O5 := Lib.hid (ho.lower G3.out.size)
      clear hg ho G3 ZB3
      obtain ⟨b1, d1, e1, -, -, -⟩ := O5.out.a
      obtain ⟨b2, d2, e2, -, -, -⟩ := O5.out.v
      obtain ⟨b3, d3, e3, -, -, -⟩ := O5.out.f
      rw [LN2.out.a] at e1
      rw [LN2.out.v] at e2
      rw [LN2.out.f] at e3
      subst e1 e2 e3
      have GS : Hid (w5.grownBy ((((w5.setCell ⟨gz, 0, none⟩ (.int .i64 j)).setCell ⟨gz, 1, none⟩ (.slice b1 8 d1)).setCell ⟨gz, 2, none⟩ (.slice b2 8 d2)).setCell ⟨gz, 3, none⟩ (.slice b3 8 d3)) (some gz)) := Lib.hid (grown_trans (grown_trans (grown_trans (grownCell _ _ _) (grownCell _ _ _)) (grownCell _ _ _)) (grownCell _ _ _))
      have OZ := Lib.hid (outRow O5.out GS.out ZB5.out)
      have G9 := Lib.hid (grown_own G5.out GS.out (fun i hi => by injection hi with hi; omega))
      have z0 := ZB5.out.cell (i := 0) rfl
      have z1 := ZB5.out.cell (i := 1) rfl
      have z2 := ZB5.out.cell (i := 2) rfl
      have z3 := ZB5.out.cell (i := 3) rfl
      have f0 := ZB5.out.frozen 0
      have f1 := ZB5.out.frozen 1
      have f2 := ZB5.out.frozen 2
      have f3 := ZB5.out.frozen 3
      clear GS
      go_wp2_with fail
      refine bodyPost_ret (v := .tuple #[.agg #[.int .i64 j, .slice b1 8 d1, .slice b2 8 d2, .slice b3 8 d3], .bool b]) (by simp [results, Try.results26, go_sem, z0, z1, z2, z3]) rfl ?_
      exact ⟨_, _, _, _, _, .inl ⟨OK.out, m, rfl, HM.out, rfl, HM2.out⟩, _, _, _, rfl, G9.out, OZ.out⟩
    · have hd : decide (0 ≤ n ∧ n < 8) = false := by simp only [decide_eq_false_iff_not]; exact hn
      rw [hd]
      have NO : Hid (¬ (0 ≤ n ∧ n < 8)) := Lib.hid hn
      clear hd hn
      go_upto_region 3 with fail
      apply wp_region_lit
      refine wpBuild0 rfl _ rfl _ builtNone ?_
      simp only [Act.put, List.setIfInBounds_toArray, List.set_cons_succ, List.set_cons_zero]
      obtain ⟨old, ho, hz⟩ := Z1.out
      refine wpList_store_row rfl _ _ _ rfl gz #[.int .i64 0, .slice none 0 0, .slice none 0 0, .slice none 0 0] rfl rfl _ _ ho infoPub (by rw [hz]; rfl) (by kernel_rfl) ?_
      have B9 : Hid ((w'.setRow gz #[.int .i64 0, .slice none 0 0, .slice none 0 0, .slice none 0 0]).heap[gz]? = some (.cells #[.int .i64 0, .slice none 0 0, .slice none 0 0, .slice none 0 0] 45 (0, 0))) := Lib.hid (setRow_heap w' gz old _ _ (0, 0) ho)
      have FIN : Hid (MendT j A V F n w (.returned (.tuple #[.agg #[.int .i64 0, .slice none 0 0, .slice none 0 0, .slice none 0 0], .bool false])) (w'.setRow gz #[.int .i64 0, .slice none 0 0, .slice none 0 0, .slice none 0 0])) := Lib.hid ⟨_, _, _, _, _, .inr ⟨fun h => NO.out h.2, rfl, rfl, rfl, rfl, rfl⟩, _, _, _, rfl, grown_own G1.out (grownRow ho _) (fun i hi => by injection hi with hi; omega), StOwn.none_ _ _⟩
      clear ho hz
      generalize w'.setRow gz #[.int .i64 0, .slice none 0 0, .slice none 0 0, .slice none 0 0] = w9 at *
      go_wp2_with fail
      refine bodyPost_ret (v := .tuple #[.agg #[.int .i64 0, .slice none 0 0, .slice none 0 0, .slice none 0 0], .bool false]) ?_ rfl FIN.out
      exact results_row_slot Try.results26 _ _ gz _ _ _ _ _ rfl rfl B9.out Try.underlying45 rfl infoPub
end Go.Proofs.Ythglkgicckodaaa
