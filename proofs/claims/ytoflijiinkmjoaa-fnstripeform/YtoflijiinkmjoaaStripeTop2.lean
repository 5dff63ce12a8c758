/-
  The contracts of the program's StripeLose and StripeRead.
  Conditions: none.
-/
import Derived.Test.YtoflijiinkmjoaaStripeTop
namespace Go.Proofs.Ytoflijiinkmjoaa
open Go.RowKit Go.Shelf
set_option linter.unusedVariables false
set_option linter.unusedSimpArgs false
attribute [local go_sem] Oper.semAt_some

theorem shardIsS (n : Int) (w : World) : Calls Try.prog 59 #[.int .i64 n] w fun e w' => e = .returned (.bool (decide (0 ≤ n ∧ n < 8))) ∧ w' = w := by
  by_cases h : 0 ≤ n ∧ n < 8
  · refine (shardIn n h.1 h.2 w).mono fun e w' ⟨h1, h2⟩ => ⟨?_, h2.symm⟩
    rw [h1]; simp [h]
  · refine (shardOut n (by omega) w).mono fun e w' ⟨h1, h2⟩ => ⟨?_, h2.symm⟩
    rw [h1]
    have : decide (0 ≤ n ∧ n < 8) = false := by simp only [decide_eq_false_iff_not]; exact h
    rw [this]

/-- a block that will hold what goes out. -/
def SZ4 (w : World) (g : Nat) : Prop := ∃ old, w.heap[g]? = some (.cells old 26 (0, 0)) ∧ old.size = 4
theorem SZ4.lt {w : World} {g : Nat} (h : SZ4 w g) : g < w.heap.size := by obtain ⟨old, h, _⟩ := h; exact (Array.getElem?_eq_some_iff.1 h).1
theorem SZ4.still {w w' : World} {g : Nat} (h : SZ4 w g) (hg : w.grownBy w' none) : SZ4 w' g := by
  have hlt := h.lt
  obtain ⟨old, h, h2⟩ := h
  exact ⟨old, (hg.block g hlt (by simp)).trans h, h2⟩

theorem builtNone : Try.prog.built 26 [] = some #[.int .i64 0, .slice none 0 0, .slice none 0 0, .slice none 0 0] := by kernel_rfl

theorem StOwn.none_ (w : World) (b : Nat) : StOwn w b (.slice none 0 0) (.slice none 0 0) (.slice none 0 0) [] [] [] :=
  mk3 (row1_own.2 (Own.none_ w b)) (row1_own.2 (Own.none_ w b)) (bool1_own.2 (BOwn.none_ w b)) (.inl rfl) (.inl rfl) (.inl rfl)
/-- what StripeLose answers. -/
def LoseT (k : Int) (a v : List Int) (f : List Bool) (n : Int) (w : World) (e : Ending) (w' : World) : Prop := ∃ k' a' v' f', SLoseT k a v f n k' a' v' f' ∧ NewSt k' a' v' f' w e w'

set_option maxHeartbeats 4000000 in
set_option maxRecDepth 20000 in
theorem implStripeLose (k : Int) (u x y : Value) (a v : List Int) (f : List Bool) (n : Int) (w : World) (hu : Sl w u a) (hx : Sl w x v) (hy : Bl w y f) : Calls Try.prog 22 #[.agg #[.int .i64 k, u, x, y], .int .i64 n] w (LoseT k a v f n w) := by
  have U := Lib.hid hu
  have X := Lib.hid hx
  have Y := Lib.hid hy
  obtain ⟨a1, c1, e1, _, _, _⟩ := hu
  obtain ⟨a2, c2, e2, _, _, _⟩ := hx
  obtain ⟨a3, c3, e3, _, _, _⟩ := hy
  subst e1 e2 e3
  obtain ⟨l1, hl1⟩ : ∃ n, n = a.length := ⟨_, rfl⟩
  obtain ⟨l2, hl2⟩ : ∃ n, n = v.length := ⟨_, rfl⟩
  obtain ⟨l3, hl3⟩ : ∃ n, n = f.length := ⟨_, rfl⟩
  rw [← hl1] at U ⊢
  rw [← hl2] at X ⊢
  rw [← hl3] at Y ⊢
  clear hl1 hl2 hl3
  have G0 := Lib.hid (grown_alloc (World.grownBy_alloc w (.cells #[.int .i64 k, .slice a1 l1 c1, .slice a2 l2 c2, .slice a3 l3 c3] 26) none) (.cells #[.int .i64 0, .slice none 0 0, .slice none 0 0, .slice none 0 0] 26))
  have Z0 : Hid (SZ4 ((w.alloc (.cells #[.int .i64 k, .slice a1 l1 c1, .slice a2 l2 c2, .slice a3 l3 c3] 26)).alloc (.cells #[.int .i64 0, .slice none 0 0, .slice none 0 0, .slice none 0 0] 26)) (w.heap.size + 1)) := Lib.hid (by
    have := heap_alloc_new (w.alloc (.cells #[.int .i64 k, .slice a1 l1 c1, .slice a2 l2 c2, .slice a3 l3 c3] 26)) (.cells #[.int .i64 0, .slice none 0 0, .slice none 0 0, .slice none 0 0] 26)
    rw [World.size_alloc] at this
    exact ⟨_, this, rfl⟩)
  have SO := Lib.hid (stripeOf_ k _ _ _ a v f _ (U.out.grown G0.out) (X.out.grown G0.out) (Y.out.grown G0.out))
  go_enter Try.func22, Try.ntmps22
  go_wp2_with fail
  obtain ⟨gz, hgz⟩ : ∃ g, g = w.heap.size + 1 := ⟨_, rfl⟩
  rw [← hgz] at Z0 ⊢
  have LZ : w.heap.size ≤ gz := by omega
  clear hgz
  refine SO.out.mono ?_
  rintro e w1 ⟨hg, k', L, A, V, F, b, rfl, hlen, hb, hE⟩
  have B := Lib.hid hb
  have E := Lib.hid hE
  have LN := Lib.hid hlen
  have HS := Lib.hid (infoSt (k := k') hlen)
  have hs := storeSt w1 (k := k') hlen
  have hvl := stv_len (k := k') hlen
  have G1 := Lib.hid (grown_alloc (grown_trans G0.out hg) (.cells (stv k' L A V F).toArray 67))
  have S1 := Lib.hid (SB.new w1 k' L A V F)
  have Z1 := Lib.hid ((Z0.out.still hg).still (World.grownBy_alloc w1 (.cells (stv k' L A V F).toArray 67) none))
  clear hg hb hE SO hlen G0 Z0
  go_upto_region 2 with fail
  clear hs hvl
  generalize w1.alloc (.cells (stv k' L A V F).toArray 67) = w2 at *
  generalize w1.heap.size = g at *
  cases b with
  | false =>
    have NO : Hid (¬ StOk k a v f) := Lib.hid (fun h => by have := B.out.2 h; cases this)
    go_upto_region 3 with fail
    apply wp_region_lit
    refine wpBuild0 rfl _ rfl _ builtNone ?_
    simp only [Act.put, List.setIfInBounds_toArray, List.set_cons_succ, List.set_cons_zero]
    obtain ⟨old, ho, hz⟩ := Z1.out
    refine wpList_store_row rfl _ _ _ rfl gz #[.int .i64 0, .slice none 0 0, .slice none 0 0, .slice none 0 0] rfl rfl _ _ ho infoPub (by rw [hz]; rfl) (by kernel_rfl) ?_
    have B9 : Hid ((w2.setRow gz #[.int .i64 0, .slice none 0 0, .slice none 0 0, .slice none 0 0]).heap[gz]? = some (.cells #[.int .i64 0, .slice none 0 0, .slice none 0 0, .slice none 0 0] 26 (0, 0))) := Lib.hid (setRow_heap w2 gz old _ _ (0, 0) ho)
    have FIN : Hid (LoseT k a v f n w (.returned (.agg #[.int .i64 0, .slice none 0 0, .slice none 0 0, .slice none 0 0])) (w2.setRow gz #[.int .i64 0, .slice none 0 0, .slice none 0 0, .slice none 0 0])) := Lib.hid ⟨_, _, _, _, .inr ⟨fun h => NO.out h.1, rfl, rfl, rfl, rfl⟩, _, _, _, rfl, grown_own G1.out (grownRow ho _) (fun i hi => by injection hi with hi; omega), StOwn.none_ _ _⟩
    clear ho hz
    generalize w2.setRow gz #[.int .i64 0, .slice none 0 0, .slice none 0 0, .slice none 0 0] = w9 at *
    go_wp2_with fail
    refine bodyPost_ret (v := .agg #[.int .i64 0, .slice none 0 0, .slice none 0 0, .slice none 0 0]) ?_ rfl FIN.out
    exact results_cell_row Try.results22 _ _ gz _ _ _ _ rfl B9.out Try.underlying26 rfl infoPub
  | true =>
    have OK := Lib.hid (B.out.1 rfl)
    obtain ⟨rfl, rfl, rfl, rfl, rfl⟩ := E.out rfl
    clear E B
    go_wp2_with fail
    refine (shardIsS n _).mono ?_
    rintro e w' ⟨rfl, rfl⟩
    by_cases hn : 0 ≤ n ∧ n < 8
    · have hd : decide (0 ≤ n ∧ n < 8) = true := by simp [hn]
      obtain ⟨m, rfl, hm⟩ : ∃ m : Nat, n = m ∧ m < 8 := ⟨n.toNat, by omega, by omega⟩
      rw [hd]
      have SL := Lib.hid (fun w => stLose (k := k') LN.out hm w)
      have HM := Lib.hid hm
      have LN2 := Lib.hid (((LN.out.setA m 0).setV m 0).setF m false)
      clear hd hn hm
      go_upto_region 4 with fail
      apply wp_region_lit
      refine wpList_load_row rfl _ _ rfl g rfl _ _ _ _ S1.out Try.underlying67 rfl HS.out ?_
      simp only [Act.put, List.setIfInBounds_toArray, List.set_cons_succ, List.set_cons_zero]
      go_wp2_with fail
      refine (SL.out _).mono ?_
      rintro e w3 ⟨rfl, hg⟩
      have G3 := Lib.hid (grown_trans G1.out hg)
      have Z3 := Lib.hid (Z1.out.still hg)
      clear hg G1 Z1 S1 SL
      go_wp2_with fail
      refine (stPublic LN2.out _).mono ?_
      rintro e w4 ⟨u', x', y', rfl, hg, ho⟩
      have G4 := Lib.hid (grown_trans G3.out hg)
      have Z4 := Lib.hid (Z3.out.still hg)
      have O4 := Lib.hid (ho.lower G3.out.size)
      clear hg ho G3 Z3
      obtain ⟨b1, d1, e1, -, -, -⟩ := O4.out.a
      obtain ⟨b2, d2, e2, -, -, -⟩ := O4.out.v
      obtain ⟨b3, d3, e3, -, -, -⟩ := O4.out.f
      rw [LN2.out.a] at e1
      rw [LN2.out.v] at e2
      rw [LN2.out.f] at e3
      subst e1 e2 e3
      rename_i hK
      refine hK _ _ ?_
      clear hK
      obtain ⟨old, ho, hz⟩ := Z4.out
      refine wpList_store_row rfl _ _ _ rfl gz #[.int .i64 k', .slice b1 8 d1, .slice b2 8 d2, .slice b3 8 d3] rfl rfl _ _ ho infoPub (by rw [hz]; rfl) (by kernel_rfl) ?_
      have B9 : Hid ((w4.setRow gz #[.int .i64 k', .slice b1 8 d1, .slice b2 8 d2, .slice b3 8 d3]).heap[gz]? = some (.cells #[.int .i64 k', .slice b1 8 d1, .slice b2 8 d2, .slice b3 8 d3] 26 (0, 0))) := Lib.hid (setRow_heap w4 gz old _ _ (0, 0) ho)
      have gr := grownRow ho #[.int .i64 k', .slice b1 8 d1, .slice b2 8 d2, .slice b3 8 d3]
      have FIN : Hid (LoseT k' A V F m w (.returned (.agg #[.int .i64 k', .slice b1 8 d1, .slice b2 8 d2, .slice b3 8 d3])) (w4.setRow gz #[.int .i64 k', .slice b1 8 d1, .slice b2 8 d2, .slice b3 8 d3])) := Lib.hid ⟨_, _, _, _, .inl ⟨OK.out, m, rfl, HM.out, rfl, rfl, rfl, rfl⟩, _, _, _, rfl, grown_own G4.out gr (fun i hi => by injection hi with hi; omega), outRow O4.out gr ho⟩
      clear ho hz gr
      generalize w4.setRow gz #[.int .i64 k', .slice b1 8 d1, .slice b2 8 d2, .slice b3 8 d3] = w9 at *
      go_wp2_with fail
      refine bodyPost_ret (v := .agg #[.int .i64 k', .slice b1 8 d1, .slice b2 8 d2, .slice b3 8 d3]) ?_ rfl FIN.out
      exact results_cell_row Try.results22 _ _ gz _ _ _ _ rfl B9.out Try.underlying26 rfl infoPub
    · have hd : decide (0 ≤ n ∧ n < 8) = false := by simp only [decide_eq_false_iff_not]; exact hn
      rw [hd]
      have NO : Hid (¬ (0 ≤ n ∧ n < 8)) := Lib.hid hn
      clear hd hn
      go_upto_region 3 with fail
      apply wp_region_lit
      refine wpBuild0 rfl _ rfl _ builtNone ?_
      simp only [Act.put, List.setIfInBounds_toArray, List.set_cons_succ, List.set_cons_zero]
      obtain ⟨old, ho, hz⟩ := Z1.out
      refine wpList_store_row rfl _ _ _ rfl gz #[.int .i64 0, .slice none 0 0, .slice none 0 0, .slice none 0 0] rfl rfl _ _ ho infoPub (by rw [hz]; rfl) (by kernel_rfl) ?_
      have B9 : Hid ((w'.setRow gz #[.int .i64 0, .slice none 0 0, .slice none 0 0, .slice none 0 0]).heap[gz]? = some (.cells #[.int .i64 0, .slice none 0 0, .slice none 0 0, .slice none 0 0] 26 (0, 0))) := Lib.hid (setRow_heap w' gz old _ _ (0, 0) ho)
      have FIN : Hid (LoseT k' A V F n w (.returned (.agg #[.int .i64 0, .slice none 0 0, .slice none 0 0, .slice none 0 0])) (w'.setRow gz #[.int .i64 0, .slice none 0 0, .slice none 0 0, .slice none 0 0])) := Lib.hid ⟨_, _, _, _, .inr ⟨fun h => NO.out h.2, rfl, rfl, rfl, rfl⟩, _, _, _, rfl, grown_own G1.out (grownRow ho _) (fun i hi => by injection hi with hi; omega), StOwn.none_ _ _⟩
      clear ho hz
      generalize w'.setRow gz #[.int .i64 0, .slice none 0 0, .slice none 0 0, .slice none 0 0] = w9 at *
      go_wp2_with fail
      refine bodyPost_ret (v := .agg #[.int .i64 0, .slice none 0 0, .slice none 0 0, .slice none 0 0]) ?_ rfl FIN.out
      exact results_cell_row Try.results22 _ _ gz _ _ _ _ rfl B9.out Try.underlying26 rfl infoPub

/-- what StripeRead answers. -/
def SReadS (k : Int) (a v : List Int) (f : List Bool) (w : World) (e : Ending) (w' : World) : Prop := ∃ l n b u, SReadT k a v f l n b ∧ e = .returned (.tuple #[u, .int .i64 n, .bool b]) ∧ w.grownBy w' none ∧ Own w' w.heap.size u l
/-- what its last region holds. -/
structure HeldR (g gf : Nat) (k : Int) (L a v : List Int) (F G : List Bool) (W : World) : Prop where
  blk : SB W g k L a v F
  fl : BArr W gf 65 G
theorem HeldR.still {g gf : Nat} {k : Int} {L a v : List Int} {F G : List Bool} {W W' : World} (h : HeldR g gf k L a v F G W) (hg : W.grownBy W' none) : HeldR g gf k L a v F G W' := ⟨h.blk.still hg, h.fl.still hg⟩

set_option maxHeartbeats 8000000 in
set_option maxRecDepth 20000 in
theorem implStripeRead (k : Int) (u x y : Value) (a v : List Int) (f : List Bool) (w : World) (hu : Sl w u a) (hx : Sl w x v) (hy : Bl w y f) : Calls Try.prog 14 #[.agg #[.int .i64 k, u, x, y]] w (SReadS k a v f w) := by
  have U := Lib.hid hu
  have X := Lib.hid hx
  have Y := Lib.hid hy
  obtain ⟨a1, c1, e1, _, _, _⟩ := hu
  obtain ⟨a2, c2, e2, _, _, _⟩ := hx
  obtain ⟨a3, c3, e3, _, _, _⟩ := hy
  subst e1 e2 e3
  obtain ⟨l1, hl1⟩ : ∃ n, n = a.length := ⟨_, rfl⟩
  obtain ⟨l2, hl2⟩ : ∃ n, n = v.length := ⟨_, rfl⟩
  obtain ⟨l3, hl3⟩ : ∃ n, n = f.length := ⟨_, rfl⟩
  rw [← hl1] at U ⊢
  rw [← hl2] at X ⊢
  rw [← hl3] at Y ⊢
  clear hl1 hl2 hl3
  have G0 := Lib.hid (World.grownBy_alloc w (.cells #[.int .i64 k, .slice a1 l1 c1, .slice a2 l2 c2, .slice a3 l3 c3] 26) none)
  have SO := Lib.hid (stripeOf_ k _ _ _ a v f _ (U.out.grown G0.out) (X.out.grown G0.out) (Y.out.grown G0.out))
  go_enter Try.func14, Try.ntmps14
  go_wp2_with fail
  refine SO.out.mono ?_
  rintro e w1 ⟨hg, k', L, A, V, F, b, rfl, hlen, hb, hE⟩
  have B := Lib.hid hb
  have E := Lib.hid hE
  have LN := Lib.hid hlen
  have HS := Lib.hid (infoSt (k := k') hlen)
  have hs := storeSt w1 (k := k') hlen
  have hvl := stv_len (k := k') hlen
  have G1 := Lib.hid (grown_alloc (grown_trans G0.out hg) (.cells (stv k' L A V F).toArray 67))
  have S1 := Lib.hid (SB.new w1 k' L A V F)
  clear hg hb hE SO hlen G0
  go_upto_region 2 with fail
  clear hs hvl
  generalize w1.alloc (.cells (stv k' L A V F).toArray 67) = w2 at *
  generalize w1.heap.size = g at *
  cases b with
  | false =>
    have NO : Hid (¬ StOk k a v f) := Lib.hid (fun h => by have := B.out.2 h; cases this)
    go_wp2_with fail
    have FIN : Hid (SReadS k a v f w (.returned (.tuple #[.slice none 0 0, .int .i64 0, .bool false])) w2) := Lib.hid ⟨[], 0, false, _, .inr ⟨rfl, rfl, rfl, fun h => absurd h NO.out⟩, rfl, G1.out, Own.none_ _ _⟩
    exact bodyPost_ret (v := .tuple #[.slice none 0 0, .int .i64 0, .bool false]) (by simp [results, Try.results14, go_sem]) rfl FIN.out
  | true =>
    have OK := Lib.hid (B.out.1 rfl)
    obtain ⟨rfl, rfl, rfl, rfl, rfl⟩ := E.out rfl
    clear E B
    obtain ⟨j, rfl, hj⟩ : ∃ j : Nat, k' = j ∧ (j = 1 ∨ j = 2) := ⟨k'.toNat, by have := OK.out.kind; omega, by have := OK.out.kind; omega⟩
    simp only [Int.toNat_natCast] at S1 LN HS ⊢
    have HJ := Lib.hid hj
    have SB_ := Lib.hid (fun w => stBest hj LN.out OK.out.clean w)
    clear hj
    go_upto_region 4 with fail
    apply wp_region_lit
    refine wpList_load_row rfl _ _ rfl g rfl _ _ _ _ S1.out Try.underlying67 rfl HS.out ?_
    simp only [Act.put, List.setIfInBounds_toArray, List.set_cons_succ, List.set_cons_zero]
    go_wp2_with fail
    refine (SB_.out _).mono ?_
    rintro e w3 ⟨z, G, rfl, hG8, hbest, hGe, hg⟩
    have hs := storeF w3 hG8
    have hvl : (bvals G).length = 8 := by rw [bvals_length]; exact hG8
    have G3 := Lib.hid (grown_alloc (grown_trans G1.out hg) (.cells (bvals G).toArray 65))
    have S3 := Lib.hid ((S1.out.still hg).alloc (.cells (bvals G).toArray 65))
    have F3 := Lib.hid (BArr.new w3 65 G)
    have BS := Lib.hid hbest
    have GE := Lib.hid hGe
    have L8 := Lib.hid hG8
    obtain ⟨q, hq⟩ : ∃ q, decide (0 < z) = q := ⟨_, rfl⟩
    have HQ := Lib.hid hq
    rw [hq]
    clear hg hbest hGe hG8 hq G1 S1 SB_
    go_upto_region 5 with fail
    clear hs hvl
    generalize w3.alloc (.cells (bvals G).toArray 65) = w4 at *
    generalize w3.heap.size = gf at *
    cases q with
    | false =>
      have Z0 : Hid (Best j V F 0) := Lib.hid (by
        have h1 := HQ.out
        simp only [decide_eq_false_iff_not] at h1
        have h2 := BS.out.nonneg
        have h3 : z = 0 := by omega
        rw [← h3]; exact BS.out)
      go_wp2_with fail
      have FIN : Hid (SReadS j A V F w (.returned (.tuple #[.slice none 0 0, .int .i64 0, .bool false])) w4) := Lib.hid ⟨[], 0, false, _, .inr ⟨rfl, rfl, rfl, fun _ => Z0.out⟩, rfl, G3.out, Own.none_ _ _⟩
      exact bodyPost_ret (v := .tuple #[.slice none 0 0, .int .i64 0, .bool false]) (by simp [results, Try.results14, go_sem]) rfl FIN.out
    | true =>
      have ZP : Hid (0 < z) := Lib.hid (of_decide_eq_true HQ.out)
      obtain rfl : G = ofM V F z := GE.out ZP.out
      have BJ : Hid (Sp.bears j (ofM V F z) = true) := Lib.hid (by
        have := BS.out.pos (by have := ZP.out; omega)
        rw [bearsM_sp HJ.out (ofM_len _ _ _)] at this
        exact this)
      have RA := Lib.hid (shOk_row.1 OK.out.sh)
      have GR := Lib.hid (fun w => genReduce HJ.out (ofM V F z) L8.out w)
      have HG := Lib.hid (infoG LN.out.l)
      have HA := Lib.hid (infoSh LN.out.a)
      have HF : Hid ((Try.prog.info? 65).map (·.size) = some (bvals (ofM V F z)).toArray.size) := Lib.hid (infoFl L8.out)
      have EC1 := enters_of (P := Try.prog) Try.func44 (by kernel_rfl) rfl
      have EC2 := enters_of (P := Try.prog) Try.func45 (by kernel_rfl) rfl
      have EC3 := enters_of (P := Try.prog) Try.func46 (by kernel_rfl) rfl
      have H0 : Hid (HeldR g gf j (grid j) A V F (ofM V F z) w4.drew) := Lib.hid ⟨S3.out.drew, F3.out.drew⟩
      have G9 := Lib.hid (grown_drew G3.out)
      clear G3 S3 F3
      go_upto_region 7 with fail
      refine wp_region_held (S := HeldR g gf j (grid j) A V F (ofM V F z)) (by kernel_rfl) ?_
      refine Rg.take_ 0 (some 24) (.pointer (some ⟨g, 1, none⟩)) rfl rfl (by kernel_rfl) (by kernel_rfl) (by kernel_rfl) (fun _ _ _ h => h) (.inl ⟨by rfl, fun W' hS => (by go_simp)⟩) H0.out ?_
      simp only [Act.put, List.setIfInBounds_toArray, List.set_cons_zero, List.set_cons_succ]
      refine Rg.take_ 1 (some 25) (.agg (vals (grid j)).toArray) rfl rfl (by kernel_rfl) (by kernel_rfl) (by kernel_rfl) (fun _ _ _ h => h) (yieldsIf_load_mid rfl _ _ rfl g 1 rfl (vals (grid j)) _ (fun W hS => hS.blk.code_ LN.out) Try.underlying60 rfl HG.out) H0.out ?_
      simp only [Act.put, List.setIfInBounds_toArray, List.set_cons_zero, List.set_cons_succ]
      refine Rg.take_ 2 (some 26) (.agg (bvals (ofM V F z)).toArray) rfl rfl (by kernel_rfl) (by kernel_rfl) (by kernel_rfl) (fun _ _ _ h => h) (Rg.yields_row _ _ rfl rfl gf rfl _ _ _ (fun W hS => hS.fl) Try.underlying65 rfl HF.out) H0.out ?_
      simp only [Act.put, List.setIfInBounds_toArray, List.set_cons_zero, List.set_cons_succ]
      refine Rg.take_ 4 (some 28) (.pointer (some ⟨g, 33, none⟩)) rfl rfl (by kernel_rfl) (by kernel_rfl) (by kernel_rfl) (fun _ _ _ h => h) (.inl ⟨by rfl, fun W' hS => (by go_simp)⟩) H0.out ?_
      simp only [Act.put, List.setIfInBounds_toArray, List.set_cons_zero, List.set_cons_succ]
      refine Rg.take_ 5 (some 29) (.agg (vals A).toArray) rfl rfl (by kernel_rfl) (by kernel_rfl) (by kernel_rfl) (fun _ _ _ h => h) (yieldsIf_load_mid rfl _ _ rfl g 33 rfl (vals A) _ (fun W hS => hS.blk.vals_ LN.out) Try.underlying62 rfl HA.out) H0.out ?_
      simp only [Act.put, List.setIfInBounds_toArray, List.set_cons_zero, List.set_cons_succ]
      refine Rg.take_ 8 (some 32) (.int .i64 z) rfl rfl (by kernel_rfl) (by kernel_rfl) (by kernel_rfl) (fun _ _ _ h => h) (.inl ⟨by rfl, fun W' hS => (by go_simp)⟩) H0.out ?_
      simp only [Act.put, List.setIfInBounds_toArray, List.set_cons_zero, List.set_cons_succ]
      refine Rg.ready_one (i := 3) (by kernel_rfl) rfl rfl ?_
      refine Rg.call_at (some 27) (f := 44) (args := #[.agg (vals (grid j)).toArray, .agg (bvals (ofM V F z)).toArray]) rfl (by go_simp) ((GR.out _).mono ?_)
      rintro e wa ⟨hg, b, g8, q8, S, pv, pn, rfl, hb, he, hst⟩
      have Ha := Lib.hid (H0.out.still hg)
      have Ga := Lib.hid (grown_trans G9.out hg)
      have EA := Lib.hid he
      have ST := Lib.hid hst
      refine ⟨_, rfl, Ha.out, ?_⟩
      simp only [Act.put, List.setIfInBounds_toArray, List.set_cons_zero, List.set_cons_succ]
      clear hg he hst hb
      refine Rg.ready_one (i := 6) (by kernel_rfl) rfl rfl ?_
      refine Rg.call_at (some 30) (f := 45) (args := #[.pointer (some ⟨g8, 0, none⟩), .agg (vals A).toArray]) rfl (by go_simp) ((echData HJ.out (ofM V F z) BJ.out A RA.out b g8 q8 S pv pn _ EA.out ST.out).mono ?_)
      rintro e wb ⟨D, rfl, hD, hg⟩
      have Hb := Lib.hid (Ha.out.still hg)
      have Gb := Lib.hid (grown_trans Ga.out hg)
      have DD := Lib.hid hD
      obtain ⟨x0, x1, x2, x3, rfl⟩ := list_four hD.1.1
      refine ⟨_, rfl, Hb.out, ?_⟩
      simp only [Act.put, List.setIfInBounds_toArray, List.set_cons_zero, List.set_cons_succ]
      clear hg hD
      refine Rg.ready_one (i := 7) (by kernel_rfl) rfl rfl ?_
      refine Rg.call_at (some 31) (f := 46) (args := #[.agg #[.int .i64 x0, .int .i64 x1, .int .i64 x2, .int .i64 x3]]) rfl (by go_simp; rfl) ((rowInts x0 x1 x2 x3 _).mono ?_)
      rintro e wc ⟨vo, rfl, hg, ho⟩
      have Hc := Lib.hid (Hb.out.still hg)
      have Gc := Lib.hid (grown_trans Gb.out hg)
      have OC := Lib.hid (ho.lower Gb.out.size)
      refine ⟨_, rfl, Hc.out, ?_⟩
      simp only [Act.put, List.setIfInBounds_toArray, List.set_cons_zero, List.set_cons_succ]
      obtain ⟨ao, co, eo, _, _, _⟩ := ho.sl
      subst eo
      clear hg ho
      refine Rg.take_ 9 (some 2) (.slice ao 4 co) rfl rfl (by kernel_rfl) (by kernel_rfl) (by kernel_rfl) (fun _ _ _ h => h) (.inl ⟨by rfl, fun W' hS => (by go_simp)⟩) Hc.out ?_
      simp only [Act.put, List.setIfInBounds_toArray, List.set_cons_zero, List.set_cons_succ]
      refine Rg.take_ 10 (some 3) (.int .i64 z) rfl rfl (by kernel_rfl) (by kernel_rfl) (by kernel_rfl) (fun _ _ _ h => h) (.inl ⟨by rfl, fun W' hS => (by go_simp)⟩) Hc.out ?_
      simp only [Act.put, List.setIfInBounds_toArray, List.set_cons_zero, List.set_cons_succ]
      refine Rg.take_ 11 (some 4) (.bool true) rfl rfl (by kernel_rfl) (by kernel_rfl) (by kernel_rfl) (fun _ _ _ h => h) (.inl ⟨by rfl, fun W' hS => (by go_simp)⟩) Hc.out ?_
      simp only [Act.put, List.setIfInBounds_toArray, List.set_cons_zero, List.set_cons_succ]
      refine wpAnyH_done (by kernel_rfl) ?_ _
      have FIN : Hid (SReadS j A V F w (.returned (.tuple #[.slice ao 4 co, .int .i64 z, .bool true])) wc) := Lib.hid ⟨_, z, true, _, .inl ⟨rfl, OK.out, by have := ZP.out; omega, BS.out, DD.out⟩, rfl, Gc.out, OC.out⟩
      go_wp2_with fail
      exact bodyPost_ret (v := .tuple #[.slice ao 4 co, .int .i64 z, .bool true]) (by simp [results, Try.results14, go_sem]) rfl FIN.out
end Go.Proofs.Ytoflijiinkmjoaa
