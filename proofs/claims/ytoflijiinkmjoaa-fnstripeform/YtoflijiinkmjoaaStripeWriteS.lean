/-
  The contract of StripeWrite in the model.
  Conditions: none.
-/
import Derived.Test.YtoflijiinkmjoaaStripePutS
namespace Go.Proofs.Ytoflijiinkmjoaa
open Go.RowKit Go.Shelf
set_option linter.unusedVariables false
set_option linter.unusedSimpArgs false
attribute [local go_sem] Oper.semAt_some

/-- the first n numbers are written anew where a flag says so. -/
def wrI (q : List Bool) (x l : List Int) : Nat → List Int
  | 0 => l
  | n + 1 => bif q.getD n false then (wrI q x l n).set n (x.getD n 0) else wrI q x l n
def wrB (q : List Bool) (l : List Bool) : Nat → List Bool
  | 0 => l
  | n + 1 => bif q.getD n false then (wrB q l n).set n true else wrB q l n
theorem wrI_len (q : List Bool) (x l : List Int) : ∀ n, (wrI q x l n).length = l.length
  | 0 => rfl
  | n + 1 => by
    unfold wrI
    cases q.getD n false with
    | true => simp [wrI_len q x l n]
    | false => simp [wrI_len q x l n]
theorem wrB_len (q : List Bool) (l : List Bool) : ∀ n, (wrB q l n).length = l.length
  | 0 => rfl
  | n + 1 => by
    unfold wrB
    cases q.getD n false with
    | true => simp [wrB_len q l n]
    | false => simp [wrB_len q l n]
/-- what is left when numbers are written to some shards. -/
def SWriteT (k : Int) (a v : List Int) (f : List Bool) (d : List Int) (q : List Bool) (k' : Int) (a' v' : List Int) (f' : List Bool) (b : Bool) : Prop :=
  (b = true ∧ StOk k a v f ∧ Vec.ok d = true ∧ q.length = 8 ∧ topN v 8 < 99 ∧ k' = k ∧ a' = wrI q (allK k.toNat d 8) a 8 ∧ v' = wrI q (List.replicate 8 (topN v 8 + 1)) v 8 ∧ f' = wrB q f 8) ∨
  (b = false ∧ StOk k a v f ∧ Vec.ok d = true ∧ q.length = 8 ∧ 99 ≤ topN v 8 ∧ k' = k ∧ a' = a ∧ v' = v ∧ f' = f) ∨
  (b = false ∧ ¬ (StOk k a v f ∧ Vec.ok d = true ∧ q.length = 8) ∧ k' = 0 ∧ a' = [] ∧ v' = [] ∧ f' = [])
/-- a call that answers with a stripe and whether it is one. -/
def NewSt2 (k : Int) (a v : List Int) (f : List Bool) (b : Bool) (w : World) (e : Ending) (w' : World) : Prop := ∃ u x y, e = .returned (.tuple #[.agg #[.int .i64 k, u, x, y], .bool b]) ∧ w.grownBy w' none ∧ StOwn w' w.heap.size u x y a v f
def WriteS (k : Int) (a v : List Int) (f : List Bool) (d : List Int) (q : List Bool) (w : World) (e : Ending) (w' : World) : Prop := ∃ k' a' v' f' b, SWriteT k a v f d q k' a' v' f' b ∧ NewSt2 k' a' v' f' b w e w'
/-- what the writing holds. -/
structure HeldW (g s gz : Nat) (cs : List Value) (k : Int) (W : World) : Prop where
  arg : Blk W g 26 cs
  out : OutC W gz
theorem HeldW.kept {g s gz : Nat} {cs : List Value} {k : Int} {W W' : World} {r : Option Nat} (h : HeldW g s gz cs k W) (hg : W.grownBy W' r) (h1 : some g ≠ r) (h2 : some gz ≠ r) : HeldW g s gz cs k W' := ⟨h.arg.kept hg h1, outC_kept h.out hg h2⟩
/-- what a round of the writing holds. -/
structure InW (w : World) (g s gz : Nat) (cs : List Value) (j : Nat) (a v D : List Int) (f : List Bool) (z : Int) (q : List Bool) (n : Nat) (W : World) : Prop where
  gr : w.grownBy W none
  arg : Blk W g 26 cs
  out : OutC W gz
  cur : ∃ b1 d1 b2 d2 b3 d3, Blk W s 26 [.int .i64 j, .slice b1 8 d1, .slice b2 8 d2, .slice b3 8 d3] ∧ StOwn W w.heap.size (.slice b1 8 d1) (.slice b2 8 d2) (.slice b3 8 d3) (wrI q D a n) (wrI q (List.replicate 8 (z + 1)) v n) (wrB q f n)
theorem rep_at {n : Nat} (hn : n < 8) (z : Int) : (List.replicate 8 z).getD n 0 = z := by rw [List.getD_eq_getElem?_getD, List.getElem?_replicate_of_lt hn]; rfl
theorem blk_lt {w : World} {g t : Nat} {cs : List Value} (h : Blk w g t cs) : g < w.heap.size := (Array.getElem?_eq_some_iff.1 h).1
theorem setRow_other' {w : World} {g i : Nat} {cs : Array Value} (h : i ≠ g) : (w.setRow g cs).heap[i]? = w.heap[i]? := setRow_other w g i cs h

set_option maxHeartbeats 16000000 in
set_option maxRecDepth 40000 in
theorem specStripeWrite (k : Int) (u x y du qv : Value) (a v d : List Int) (f q : List Bool) (w : World) (hu : Sl w u a) (hx : Sl w x v) (hy : Bl w y f) (hdu : Sl w du d) (hqv : Bl w qv q) (hal : a.length ≤ 1048576) :
    Calls Try.prog 76 #[.agg #[.int .i64 k, u, x, y], du, qv] w (WriteS k a v f d q w) := by
  have U := Lib.hid hu
  have X := Lib.hid hx
  have Y := Lib.hid hy
  obtain ⟨a1, c1, e1, -, -, -⟩ := hu
  obtain ⟨a2, c2, e2, -, -, -⟩ := hx
  obtain ⟨a3, c3, e3, -, -, -⟩ := hy
  subst e1 e2 e3
  obtain ⟨l1, hl1⟩ : ∃ n, n = a.length := ⟨_, rfl⟩
  obtain ⟨l2, hl2⟩ : ∃ n, n = v.length := ⟨_, rfl⟩
  obtain ⟨l3, hl3⟩ : ∃ n, n = f.length := ⟨_, rfl⟩
  rw [← hl1] at U ⊢
  rw [← hl2] at X ⊢
  rw [← hl3] at Y ⊢
  have NL1 := Lib.hid hl1
  have NL2 := Lib.hid hl2
  have NL3 := Lib.hid hl3
  clear hl1 hl2 hl3
  have DU := Lib.hid hdu
  have QV := Lib.hid hqv
  obtain ⟨ad, cd, ed, -, -, -⟩ := hdu
  obtain ⟨aq, cq, eq, -, hcq, hrq⟩ := hqv
  have RQ := Lib.hid hrq
  clear hrq
  subst ed eq
  obtain ⟨ld, hld⟩ : ∃ l, l = d.length := ⟨_, rfl⟩
  obtain ⟨lq, hlq⟩ : ∃ l, l = q.length := ⟨_, rfl⟩
  rw [← hld] at DU ⊢
  rw [← hlq] at QV ⊢
  have NLQ := Lib.hid hlq
  unfold maxLen at hcq
  have K0 : Hid (Blk ((w.alloc (.cells #[.int .i64 k, .slice a1 l1 c1, .slice a2 l2 c2, .slice a3 l3 c3] 26)).alloc (.cells #[.int .i64 0, .slice none 0 0, .slice none 0 0, .slice none 0 0] 26)) w.heap.size 26 [.int .i64 k, .slice a1 l1 c1, .slice a2 l2 c2, .slice a3 l3 c3]) := Lib.hid (by
    have h : Blk (w.alloc (.cells #[.int .i64 k, .slice a1 l1 c1, .slice a2 l2 c2, .slice a3 l3 c3] 26)) w.heap.size 26 [.int .i64 k, .slice a1 l1 c1, .slice a2 l2 c2, .slice a3 l3 c3] := heap_alloc_new _ _
    exact h.kept (World.grownBy_alloc _ _ none) (by simp))
  have Z0 : Hid (OutC ((w.alloc (.cells #[.int .i64 k, .slice a1 l1 c1, .slice a2 l2 c2, .slice a3 l3 c3] 26)).alloc (.cells #[.int .i64 0, .slice none 0 0, .slice none 0 0, .slice none 0 0] 26)) (w.heap.size + 1)) := Lib.hid (by
    have := heap_alloc_new (w.alloc (.cells #[.int .i64 k, .slice a1 l1 c1, .slice a2 l2 c2, .slice a3 l3 c3] 26)) (.cells #[.int .i64 0, .slice none 0 0, .slice none 0 0, .slice none 0 0] 26)
    rw [World.size_alloc] at this
    exact ⟨_, this, rfl⟩)
  have G0 := Lib.hid (grown_alloc (World.grownBy_alloc w (.cells #[.int .i64 k, .slice a1 l1 c1, .slice a2 l2 c2, .slice a3 l3 c3] 26) none) (.cells #[.int .i64 0, .slice none 0 0, .slice none 0 0, .slice none 0 0] 26))
  have LL : w.heap.size + 1 < ((w.alloc (.cells #[.int .i64 k, .slice a1 l1 c1, .slice a2 l2 c2, .slice a3 l3 c3] 26)).alloc (.cells #[.int .i64 0, .slice none 0 0, .slice none 0 0, .slice none 0 0] 26)).heap.size := by simp
  have EC := enters_of (P := Try.prog) Try.func108 (by kernel_rfl) rfl
  have EC2 := enters_of (P := Try.prog) Try.func69 (by kernel_rfl) rfl
  clear hld hlq
  go_enter Try.func76, Try.ntmps76
  go_upto_region 1 with fail
  generalize (w.alloc (.cells #[.int .i64 k, .slice a1 l1 c1, .slice a2 l2 c2, .slice a3 l3 c3] 26)).alloc (.cells #[.int .i64 0, .slice none 0 0, .slice none 0 0, .slice none 0 0] 26) = W0 at *
  obtain ⟨g, hg⟩ : ∃ g, g = w.heap.size := ⟨_, rfl⟩
  obtain ⟨gz, hgz⟩ : ∃ g, g = w.heap.size + 1 := ⟨_, rfl⟩
  have LZ : w.heap.size ≤ gz := by omega
  have LW : gz < W0.heap.size := by omega
  have NE : g ≠ gz := by omega
  have LE : w.heap.size ≤ W0.heap.size := by omega
  rw [← hg] at K0
  rw [← hgz] at Z0
  rw [← hgz, ← hg]
  clear hg hgz LL
  have k0 := K0.out.cell (i := 0) rfl
  have k1 := K0.out.cell (i := 1) rfl
  have k2 := K0.out.cell (i := 2) rfl
  have k3 := K0.out.cell (i := 3) rfl
  go_wp2_with fail
  refine (specStripeOk k _ _ _ a v f _ (U.out.grown G0.out) (X.out.grown G0.out) (Y.out.grown G0.out) hal).mono ?_
  rintro e w1 ⟨qs, rfl, hq, hg⟩
  have Q := Lib.hid hq
  have G1 := Lib.hid (grown_trans G0.out hg)
  have K1 := Lib.hid (K0.out.kept hg (by simp))
  have Z1 := Lib.hid (outC_kept Z0.out hg (by simp))
  have LW1 : gz < w1.heap.size := Nat.lt_of_lt_of_le LW hg.size
  clear hq hg k0 k1 k2 k3 G0 K0 Z0
  cases qs with
  | false =>
    have NO : Hid (¬ (StOk k a v f ∧ Vec.ok d = true ∧ q.length = 8)) := Lib.hid (fun h => by have := Q.out.2 h.1; cases this)
    go_upto_region 2 with fail
    apply wp_region_lit
    refine wpBuild0 rfl _ rfl _ builtNone' ?_
    simp only [Act.put, List.setIfInBounds_toArray, List.set_cons_succ, List.set_cons_zero]
    obtain ⟨old, ho, hz⟩ := Z1.out
    refine wpList_store_row rfl _ _ _ rfl gz #[.int .i64 0, .slice none 0 0, .slice none 0 0, .slice none 0 0] rfl rfl _ _ ho infoPub (by rw [hz]; rfl) (by kernel_rfl) ?_
    have B9 : Hid ((w1.setRow gz #[.int .i64 0, .slice none 0 0, .slice none 0 0, .slice none 0 0]).heap[gz]? = some (.cells #[.int .i64 0, .slice none 0 0, .slice none 0 0, .slice none 0 0] 26 (0, 0))) := Lib.hid (setRow_heap w1 gz old _ _ (0, 0) ho)
    have FIN : Hid (WriteS k a v f d q w (.returned (.tuple #[.agg #[.int .i64 0, .slice none 0 0, .slice none 0 0, .slice none 0 0], .bool false])) (w1.setRow gz #[.int .i64 0, .slice none 0 0, .slice none 0 0, .slice none 0 0])) := Lib.hid ⟨_, _, _, _, _, .inr (.inr ⟨rfl, NO.out, rfl, rfl, rfl, rfl⟩), _, _, _, rfl, grown_own G1.out (grownRow ho _) (fun i hi => by injection hi with hi; omega), StOwn.none' _ _⟩
    clear ho hz
    generalize w1.setRow gz #[.int .i64 0, .slice none 0 0, .slice none 0 0, .slice none 0 0] = w9 at *
    go_wp2_with fail
    refine bodyPost_ret (v := .tuple #[.agg #[.int .i64 0, .slice none 0 0, .slice none 0 0, .slice none 0 0], .bool false]) ?_ rfl FIN.out
    exact results_row_slot Try.results76 _ _ gz _ _ _ _ _ rfl rfl B9.out Try.underlying26 rfl infoPub
  | true =>
    have OK := Lib.hid (Q.out.1 rfl)
    clear Q
    have SVK := Lib.hid (specVecOk _ d _ (DU.out.grown G1.out))
    obtain ⟨dk, hdk⟩ : ∃ b, Vec.ok d = b := ⟨_, rfl⟩
    have DK := Lib.hid hdk
    rw [hdk] at SVK
    clear hdk
    go_wp2_with fail
    refine SVK.out.mono ?_
    rintro e w' ⟨rfl, rfl⟩
    clear SVK
    cases dk with
    | false =>
      have NO : Hid (¬ (StOk k a v f ∧ Vec.ok d = true ∧ q.length = 8)) := Lib.hid (fun h => by have := DK.out; rw [h.2.1] at this; cases this)
      go_upto_region 2 with fail
      apply wp_region_lit
      refine wpBuild0 rfl _ rfl _ builtNone' ?_
      simp only [Act.put, List.setIfInBounds_toArray, List.set_cons_succ, List.set_cons_zero]
      obtain ⟨old, ho, hz⟩ := Z1.out
      refine wpList_store_row rfl _ _ _ rfl gz #[.int .i64 0, .slice none 0 0, .slice none 0 0, .slice none 0 0] rfl rfl _ _ ho infoPub (by rw [hz]; rfl) (by kernel_rfl) ?_
      have B9 : Hid ((w1.setRow gz #[.int .i64 0, .slice none 0 0, .slice none 0 0, .slice none 0 0]).heap[gz]? = some (.cells #[.int .i64 0, .slice none 0 0, .slice none 0 0, .slice none 0 0] 26 (0, 0))) := Lib.hid (setRow_heap w1 gz old _ _ (0, 0) ho)
      have FIN : Hid (WriteS k a v f d q w (.returned (.tuple #[.agg #[.int .i64 0, .slice none 0 0, .slice none 0 0, .slice none 0 0], .bool false])) (w1.setRow gz #[.int .i64 0, .slice none 0 0, .slice none 0 0, .slice none 0 0])) := Lib.hid ⟨_, _, _, _, _, .inr (.inr ⟨rfl, NO.out, rfl, rfl, rfl, rfl⟩), _, _, _, rfl, grown_own G1.out (grownRow ho _) (fun i hi => by injection hi with hi; omega), StOwn.none' _ _⟩
      clear ho hz
      generalize w1.setRow gz #[.int .i64 0, .slice none 0 0, .slice none 0 0, .slice none 0 0] = w9 at *
      go_wp2_with fail
      refine bodyPost_ret (v := .tuple #[.agg #[.int .i64 0, .slice none 0 0, .slice none 0 0, .slice none 0 0], .bool false]) ?_ rfl FIN.out
      exact results_row_slot Try.results76 _ _ gz _ _ _ _ _ rfl rfl B9.out Try.underlying26 rfl infoPub
    | true =>
      by_cases h8 : lq = 8
      · subst h8
        have Q8 : Hid (q.length = 8) := Lib.hid NLQ.out.symm
        obtain rfl : l1 = 8 := NL1.out.trans (shOk_row.1 OK.out.sh).1
        obtain rfl : l2 = 8 := NL2.out.trans OK.out.v8
        obtain rfl : l3 = 8 := NL3.out.trans OK.out.f8
        obtain ⟨j, rfl, hj⟩ : ∃ j : Nat, k = j ∧ (j = 1 ∨ j = 2) := ⟨k.toNat, by have := OK.out.kind; omega, by have := OK.out.kind; omega⟩
        have HJ := Lib.hid hj
        have EA := Lib.hid (shOk_row.1 OK.out.sh).1
        have EV := Lib.hid OK.out.v8
        have EF := Lib.hid OK.out.f8
        have TP := Lib.hid OK.out.clean.top
        clear hj
        go_upto_region 3 with fail
        have k0 := K1.out.cell (i := 0) rfl
        have k1 := K1.out.cell (i := 1) rfl
        have k2 := K1.out.cell (i := 2) rfl
        have k3 := K1.out.cell (i := 3) rfl
        go_wp2_with fail
        refine (specCopy j _ _ _ a v f _ (U.out.grown G1.out) (X.out.grown G1.out) (Y.out.grown G1.out) EA.out EV.out EF.out).mono ?_
        rintro e w2 ⟨u', x', y', rfl, hg, ho⟩
        obtain ⟨b1, d1, e1, -, -, -⟩ := ho.a
        obtain ⟨b2, d2, e2, -, -, -⟩ := ho.v
        obtain ⟨b3, d3, e3, -, -, -⟩ := ho.f
        rw [EA.out] at e1
        rw [EV.out] at e2
        rw [EF.out] at e3
        subst e1 e2 e3
        have ga := World.grownBy_alloc w2 (.cells #[.int .i64 j, .slice b1 8 d1, .slice b2 8 d2, .slice b3 8 d3] 26) none
        have gg := grown_trans hg ga
        have SW := hg.size
        have G3 := Lib.hid (grown_trans G1.out gg)
        have K3 := Lib.hid (K1.out.kept gg (by simp))
        have Z3 := Lib.hid (outC_kept Z1.out gg (by simp))
        have O3 : Hid (StOwn (w2.alloc (.cells #[.int .i64 j, .slice b1 8 d1, .slice b2 8 d2, .slice b3 8 d3] 26)) w.heap.size (.slice b1 8 d1) (.slice b2 8 d2) (.slice b3 8 d3) a v f) := Lib.hid ((ho.still ga).lower G1.out.size)
        have C3 : Hid (Blk (w2.alloc (.cells #[.int .i64 j, .slice b1 8 d1, .slice b2 8 d2, .slice b3 8 d3] 26)) w2.heap.size 26 [.int .i64 j, .slice b1 8 d1, .slice b2 8 d2, .slice b3 8 d3]) := Lib.hid (heap_alloc_new _ _)
        have LS : w.heap.size ≤ w2.heap.size := by have := G1.out.size; omega
        have NS : g ≠ w2.heap.size ∧ gz ≠ w2.heap.size := by have := blk_lt K1.out; omega
        clear ga gg hg ho SW k0 k1 k2 k3 K1 Z1 G1 LW LW1 LE
        go_upto_region 4 with fail
        generalize w2.alloc (.cells #[.int .i64 j, .slice b1 8 d1, .slice b2 8 d2, .slice b3 8 d3] 26) = w3 at *
        generalize w2.heap.size = s at *
        have k0 := K3.out.cell (i := 0) rfl
        have k1 := K3.out.cell (i := 1) rfl
        have k2 := K3.out.cell (i := 2) rfl
        have k3 := K3.out.cell (i := 3) rfl
        go_wp2_with fail
        refine (specL21Top j _ _ _ a v f _ (U.out.grown G3.out) (X.out.grown G3.out) (Y.out.grown G3.out) EV.out).mono ?_
        rintro e w4 ⟨rfl, hg⟩
        have G4 := Lib.hid (grown_trans G3.out hg)
        have K4 := Lib.hid (K3.out.kept hg (by simp))
        have Z4 := Lib.hid (outC_kept Z3.out hg (by simp))
        have O4 := Lib.hid (O3.out.still hg)
        have C4 := Lib.hid (C3.out.kept hg (by simp))
        clear hg G3 K3 Z3 O3 C3 k0 k1 k2 k3
        by_cases h99 : 99 ≤ topN v 8
        · have T9 := Lib.hid h99
          have TT : Hid (∃ z, topN v 8 = z) := Lib.hid ⟨_, rfl⟩
          go_upto_region 5 with fail
          apply wp_region_lit
          refine wpList_load_row rfl _ _ rfl s rfl _ _ _ _ C4.out Try.underlying26 rfl infoPub ?_
          simp only [Act.put, List.setIfInBounds_toArray, List.set_cons_succ, List.set_cons_zero]
          obtain ⟨old, ho, hz⟩ := Z4.out
          refine wpList_store_row rfl _ _ _ rfl gz #[.int .i64 j, .slice b1 8 d1, .slice b2 8 d2, .slice b3 8 d3] rfl rfl _ _ ho infoPub (by rw [hz]; rfl) (by kernel_rfl) ?_
          have B9 : Hid ((w4.setRow gz #[.int .i64 j, .slice b1 8 d1, .slice b2 8 d2, .slice b3 8 d3]).heap[gz]? = some (.cells #[.int .i64 j, .slice b1 8 d1, .slice b2 8 d2, .slice b3 8 d3] 26 (0, 0))) := Lib.hid (setRow_heap w4 gz old _ _ (0, 0) ho)
          have gr := grownRow ho #[.int .i64 j, .slice b1 8 d1, .slice b2 8 d2, .slice b3 8 d3]
          have FIN : Hid (WriteS j a v f d q w (.returned (.tuple #[.agg #[.int .i64 j, .slice b1 8 d1, .slice b2 8 d2, .slice b3 8 d3], .bool false])) (w4.setRow gz #[.int .i64 j, .slice b1 8 d1, .slice b2 8 d2, .slice b3 8 d3])) := Lib.hid ⟨_, _, _, _, _, .inr (.inl ⟨rfl, OK.out, DK.out, Q8.out, T9.out, rfl, rfl, rfl, rfl⟩), _, _, _, rfl, grown_own G4.out gr (fun i hi => by injection hi with hi; omega), outRow O4.out gr ho⟩
          clear ho hz gr
          generalize w4.setRow gz #[.int .i64 j, .slice b1 8 d1, .slice b2 8 d2, .slice b3 8 d3] = w9 at *
          go_wp2_with fail
          refine bodyPost_ret (v := .tuple #[.agg #[.int .i64 j, .slice b1 8 d1, .slice b2 8 d2, .slice b3 8 d3], .bool false]) ?_ rfl FIN.out
          exact results_row_slot Try.results76 _ _ gz _ _ _ _ _ rfl rfl B9.out Try.underlying26 rfl infoPub
        · have T9 := Lib.hid h99
          obtain ⟨z, hz⟩ : ∃ z, topN v 8 = z := ⟨_, rfl⟩
          have HZ := Lib.hid hz
          have T9' : z < 99 := by omega
          rw [hz] at h99 TP ⊢
          clear hz
          have I0 : Hid (InW w g s gz [.int .i64 j, .slice a1 8 c1, .slice a2 8 c2, .slice a3 8 c3] j a v (allK j d 8) f z q 0 w4) := Lib.hid ⟨G4.out, K4.out, Z4.out, _, _, _, _, _, _, C4.out, O4.out⟩
          clear G4 K4 Z4 O4 C4
          go_wp2_with fail
          go_loopw [9] (fun i wr => ∃ n : Nat, n ≤ 8 ∧ i = .int .i64 n ∧ InW w g s gz [.int .i64 j, .slice a1 8 c1, .slice a2 8 c2, .slice a3 8 c3] j a v (allK j d 8) f z q n wr) (fun i _ => 8 - (intOf i).toNat)
          case atStart => exact ⟨0, by omega, rfl, I0.out⟩
          case round =>
            obtain ⟨n, hn, rfl, hI⟩ := hrel
            have I := Lib.hid hI
            clear hI I0
            by_cases hlt : n < 8
            · have hlt' : (n : Int) < 8 := by omega
              obtain ⟨bq, oq, rfl, hxq⟩ := (RQ.out.grown I.out.gr).at_ (k := n) (by rw [Q8.out]; exact hlt)
              obtain ⟨qn, hqn⟩ : ∃ b, q.getD n false = b := ⟨_, rfl⟩
              have HQ := Lib.hid hqn
              rw [hqn] at hxq
              clear hqn
              cases qn with
              | false =>
                go_wp2_with fail
                go_roundw
                case rel => exact ⟨n + 1, by omega, by go_num, by obtain ⟨h1, h2, h3, h4⟩ := I.out; refine ⟨h1, h2, h3, ?_⟩; simp only [wrI, wrB, HQ.out, cond_false]; exact h4⟩
                case measure => simp [intOf]; omega
              | true =>
                go_upto_region 10 with fail
                obtain ⟨b1', d1', b2', d2', b3', d3', hc, ho⟩ := I.out.cur
                have C5 := Lib.hid hc
                have O5 := Lib.hid ho
                have G5 := Lib.hid I.out.gr
                have A5 := Lib.hid I.out.arg
                have Z5 := Lib.hid I.out.out
                clear hc ho I
                have wz : IntKind.i64.wrap (z + 1) = z + 1 := IntWalk.i64_in _ (by have := TP.out; omega)
                refine wp_region_held (S := fun W => Blk W g 26 [.int .i64 j, .slice a1 8 c1, .slice a2 8 c2, .slice a3 8 c3]) (by kernel_rfl) ?_
                change wpAnyH _ _ _ _ _ _ _ _ wr.drew
                have gd := grown_drew (World.grownBy.refl wr none)
                replace C5 := Lib.hid (C5.out.kept gd (by simp))
                replace O5 := Lib.hid (O5.out.still gd)
                replace G5 := Lib.hid (grown_trans G5.out gd)
                replace A5 := Lib.hid (A5.out.kept gd (by simp))
                replace Z5 := Lib.hid (outC_kept Z5.out gd (by simp))
                clear gd hxq
                generalize wr.drew = wr at *
                refine Rg.take_ 1 (some 39) (.slice ad ld cd) rfl rfl (by kernel_rfl) (by kernel_rfl) (by kernel_rfl) (fun _ _ _ h => h) (.inl ⟨by rfl, fun W' hS => (by go_simp)⟩) A5.out ?_
                simp only [Act.put, List.setIfInBounds_toArray, List.set_cons_zero, List.set_cons_succ]
                refine Rg.take_ 2 (some 40) (.int .i64 n) rfl rfl (by kernel_rfl) (by kernel_rfl) (by kernel_rfl) (fun _ _ _ h => h) (.inl ⟨by rfl, fun W' hS => (by go_simp)⟩) A5.out ?_
                simp only [Act.put, List.setIfInBounds_toArray, List.set_cons_zero, List.set_cons_succ]
                refine Rg.take_ 3 (some 41) (.agg #[.int .i64 j, .slice a1 8 c1, .slice a2 8 c2, .slice a3 8 c3]) rfl rfl (by kernel_rfl) (by kernel_rfl) (by kernel_rfl) (fun _ _ _ h => h) (.inl ⟨by rfl, fun W' hS => (by have c0 := hS.cell (i := 0) rfl; have c1 := hS.cell (i := 1) rfl; have c2 := hS.cell (i := 2) rfl; have c3 := hS.cell (i := 3) rfl; go_simp)⟩) A5.out ?_
                simp only [Act.put, List.setIfInBounds_toArray, List.set_cons_zero, List.set_cons_succ]
                refine Rg.ready_two (i := 0) (k := 4) (by kernel_rfl) rfl rfl rfl rfl ?_ ?_
                · refine Rg.value_at (some 38) (.agg #[.int .i64 j, .slice b1' 8 d1', .slice b2' 8 d2', .slice b3' 8 d3']) wr rfl (by have c0 := C5.out.cell (i := 0) rfl; have c1 := C5.out.cell (i := 1) rfl; have c2 := C5.out.cell (i := 2) rfl; have c3 := C5.out.cell (i := 3) rfl; go_simp) ?_
                  refine ⟨A5.out, ?_⟩
                  simp only [Act.put, List.setIfInBounds_toArray, List.set_cons_zero, List.set_cons_succ]
                  refine Rg.ready_one (i := 4) (by kernel_rfl) rfl rfl ?_
                  refine Rg.call_at (some 42) (f := 69) (args := #[.agg #[.int .i64 j, .slice a1 8 c1, .slice a2 8 c2, .slice a3 8 c3]]) rfl (by go_simp) ((specL21Top j _ _ _ a v f _ (U.out.grown G5.out) (X.out.grown G5.out) (Y.out.grown G5.out) EV.out).mono ?_)
                  rintro e w5 ⟨rfl, hg⟩
                  rw [HZ.out]
                  have G8 := Lib.hid (grown_trans G5.out hg)
                  have A8 := Lib.hid (A5.out.kept hg (by simp))
                  have Z8 := Lib.hid (outC_kept Z5.out hg (by simp))
                  have O8 := Lib.hid (O5.out.still hg)
                  have C8 := Lib.hid (C5.out.kept hg (by simp))
                  clear hg G5 A5 Z5 O5 C5
                  refine ⟨_, rfl, A8.out, ?_⟩
                  simp only [Act.put, List.setIfInBounds_toArray, List.set_cons_zero, List.set_cons_succ]
                  refine Rg.take_ 5 (some 43) (.int .i64 (z + 1)) rfl rfl (by kernel_rfl) (by kernel_rfl) (by kernel_rfl) (fun _ _ _ h => h) (.inl ⟨by rfl, fun W' hS => (by go_simp)⟩) A8.out ?_
                  simp only [Act.put, List.setIfInBounds_toArray, List.set_cons_zero, List.set_cons_succ]
                  refine Rg.ready_one (i := 6) (by kernel_rfl) rfl rfl ?_
                  refine Rg.call_at (some 44) (f := 108) (args := #[.agg #[.int .i64 j, .slice b1' 8 d1', .slice b2' 8 d2', .slice b3' 8 d3'], .slice ad ld cd, .int .i64 n, .int .i64 (z + 1)]) rfl (by go_simp) ((specL21Put HJ.out _ _ _ _ _ _ d _ n hlt (z + 1) _ O8.out.a O8.out.v O8.out.f (DU.out.grown G8.out) DK.out (by rw [wrI_len]; exact EA.out) (by rw [wrI_len]; exact EV.out) (by rw [wrB_len]; exact EF.out)).mono ?_)
                  rintro e w6 ⟨u6, x6, y6, rfl, hg, ho⟩
                  have G6 := Lib.hid (grown_trans G8.out hg)
                  have A6 := Lib.hid (A8.out.kept hg (by simp))
                  have Z6 := Lib.hid (outC_kept Z8.out hg (by simp))
                  have C6 := Lib.hid (C8.out.kept hg (by simp))
                  have O6 := Lib.hid (ho.lower G8.out.size)
                  clear hg ho G8 A8 Z8 C8 O8
                  obtain ⟨b4, d4, e4, -, -, -⟩ := O6.out.a
                  obtain ⟨b5, d5, e5, -, -, -⟩ := O6.out.v
                  obtain ⟨b6, d6, e6, -, -, -⟩ := O6.out.f
                  rw [List.length_set, wrI_len, EA.out] at e4
                  rw [List.length_set, wrI_len, EV.out] at e5
                  rw [List.length_set, wrB_len, EF.out] at e6
                  subst e4 e5 e6
                  refine ⟨_, rfl, A6.out, ?_⟩
                  simp only [Act.put, List.setIfInBounds_toArray, List.set_cons_zero, List.set_cons_succ]
                  refine Rg.ready_one (i := 7) (by kernel_rfl) rfl rfl ?_
                  refine storeAt none 26 _ _ rfl rfl s #[.int .i64 j, .slice b4 8 d4, .slice b5 8 d5, .slice b6 8 d6] rfl rfl _ _ C6.out infoPub rfl (by kernel_rfl) ?_
                  have gr := grownRow C6.out #[.int .i64 j, .slice b4 8 d4, .slice b5 8 d5, .slice b6 8 d6]
                  have G7 := Lib.hid (grown_own G6.out gr (fun i hi => by injection hi with hi; omega))
                  have A7 := Lib.hid (A6.out.kept gr (by simpa using NS.1))
                  have Z7 := Lib.hid (outC_kept Z6.out gr (by simpa using NS.2))
                  have O7 := Lib.hid (outRow O6.out gr C6.out)
                  have C7 : Hid (Blk (w6.setRow s #[.int .i64 j, .slice b4 8 d4, .slice b5 8 d5, .slice b6 8 d6]) s 26 [.int .i64 j, .slice b4 8 d4, .slice b5 8 d5, .slice b6 8 d6]) := Lib.hid (setRow_heap w6 s _ _ _ (0, 0) C6.out)
                  clear gr G6 A6 Z6 C6 O6
                  refine ⟨A7.out, ?_⟩
                  simp only [Act.put, List.setIfInBounds_toArray]
                  generalize w6.setRow s #[.int .i64 j, .slice b4 8 d4, .slice b5 8 d5, .slice b6 8 d6] = w7 at *
                  refine wpAnyH_done (by kernel_rfl) ?_ _
                  go_wp2_with fail
                  go_roundw
                  case rel => exact ⟨n + 1, by omega, by go_num, G7.out, A7.out, Z7.out, _, _, _, _, _, _, C7.out, by simp only [wrI, wrB, HQ.out, cond_true]; rw [rep_at hlt (z + 1)]; exact O7.out⟩
                  case measure => simp [intOf]; omega
                · refine Rg.call_at (some 42) (f := 69) (args := #[.agg #[.int .i64 j, .slice a1 8 c1, .slice a2 8 c2, .slice a3 8 c3]]) rfl (by go_simp) ((specL21Top j _ _ _ a v f _ (U.out.grown G5.out) (X.out.grown G5.out) (Y.out.grown G5.out) EV.out).mono ?_)
                  rintro e w5 ⟨rfl, hg⟩
                  rw [HZ.out]
                  have G8 := Lib.hid (grown_trans G5.out hg)
                  have A8 := Lib.hid (A5.out.kept hg (by simp))
                  have Z8 := Lib.hid (outC_kept Z5.out hg (by simp))
                  have O8 := Lib.hid (O5.out.still hg)
                  have C8 := Lib.hid (C5.out.kept hg (by simp))
                  clear hg G5 A5 Z5 O5 C5
                  refine ⟨_, rfl, A8.out, ?_⟩
                  simp only [Act.put, List.setIfInBounds_toArray, List.set_cons_zero, List.set_cons_succ]
                  refine Rg.take_ 5 (some 43) (.int .i64 (z + 1)) rfl rfl (by kernel_rfl) (by kernel_rfl) (by kernel_rfl) (fun _ _ _ h => h) (.inl ⟨by rfl, fun W' hS => (by go_simp)⟩) A8.out ?_
                  simp only [Act.put, List.setIfInBounds_toArray, List.set_cons_zero, List.set_cons_succ]
                  refine Rg.ready_one (i := 0) (by kernel_rfl) rfl rfl ?_
                  refine Rg.value_at (some 38) (.agg #[.int .i64 j, .slice b1' 8 d1', .slice b2' 8 d2', .slice b3' 8 d3']) w5 rfl (by have c0 := C8.out.cell (i := 0) rfl; have c1 := C8.out.cell (i := 1) rfl; have c2 := C8.out.cell (i := 2) rfl; have c3 := C8.out.cell (i := 3) rfl; go_simp) ?_
                  refine ⟨A8.out, ?_⟩
                  simp only [Act.put, List.setIfInBounds_toArray, List.set_cons_zero, List.set_cons_succ]
                  refine Rg.ready_one (i := 6) (by kernel_rfl) rfl rfl ?_
                  refine Rg.call_at (some 44) (f := 108) (args := #[.agg #[.int .i64 j, .slice b1' 8 d1', .slice b2' 8 d2', .slice b3' 8 d3'], .slice ad ld cd, .int .i64 n, .int .i64 (z + 1)]) rfl (by go_simp) ((specL21Put HJ.out _ _ _ _ _ _ d _ n hlt (z + 1) _ O8.out.a O8.out.v O8.out.f (DU.out.grown G8.out) DK.out (by rw [wrI_len]; exact EA.out) (by rw [wrI_len]; exact EV.out) (by rw [wrB_len]; exact EF.out)).mono ?_)
                  rintro e w6 ⟨u6, x6, y6, rfl, hg, ho⟩
                  have G6 := Lib.hid (grown_trans G8.out hg)
                  have A6 := Lib.hid (A8.out.kept hg (by simp))
                  have Z6 := Lib.hid (outC_kept Z8.out hg (by simp))
                  have C6 := Lib.hid (C8.out.kept hg (by simp))
                  have O6 := Lib.hid (ho.lower G8.out.size)
                  clear hg ho G8 A8 Z8 C8 O8
                  obtain ⟨b4, d4, e4, -, -, -⟩ := O6.out.a
                  obtain ⟨b5, d5, e5, -, -, -⟩ := O6.out.v
                  obtain ⟨b6, d6, e6, -, -, -⟩ := O6.out.f
                  rw [List.length_set, wrI_len, EA.out] at e4
                  rw [List.length_set, wrI_len, EV.out] at e5
                  rw [List.length_set, wrB_len, EF.out] at e6
                  subst e4 e5 e6
                  refine ⟨_, rfl, A6.out, ?_⟩
                  simp only [Act.put, List.setIfInBounds_toArray, List.set_cons_zero, List.set_cons_succ]
                  refine Rg.ready_one (i := 7) (by kernel_rfl) rfl rfl ?_
                  refine storeAt none 26 _ _ rfl rfl s #[.int .i64 j, .slice b4 8 d4, .slice b5 8 d5, .slice b6 8 d6] rfl rfl _ _ C6.out infoPub rfl (by kernel_rfl) ?_
                  have gr := grownRow C6.out #[.int .i64 j, .slice b4 8 d4, .slice b5 8 d5, .slice b6 8 d6]
                  have G7 := Lib.hid (grown_own G6.out gr (fun i hi => by injection hi with hi; omega))
                  have A7 := Lib.hid (A6.out.kept gr (by simpa using NS.1))
                  have Z7 := Lib.hid (outC_kept Z6.out gr (by simpa using NS.2))
                  have O7 := Lib.hid (outRow O6.out gr C6.out)
                  have C7 : Hid (Blk (w6.setRow s #[.int .i64 j, .slice b4 8 d4, .slice b5 8 d5, .slice b6 8 d6]) s 26 [.int .i64 j, .slice b4 8 d4, .slice b5 8 d5, .slice b6 8 d6]) := Lib.hid (setRow_heap w6 s _ _ _ (0, 0) C6.out)
                  clear gr G6 A6 Z6 C6 O6
                  refine ⟨A7.out, ?_⟩
                  simp only [Act.put, List.setIfInBounds_toArray]
                  generalize w6.setRow s #[.int .i64 j, .slice b4 8 d4, .slice b5 8 d5, .slice b6 8 d6] = w7 at *
                  refine wpAnyH_done (by kernel_rfl) ?_ _
                  go_wp2_with fail
                  go_roundw
                  case rel => exact ⟨n + 1, by omega, by go_num, G7.out, A7.out, Z7.out, _, _, _, _, _, _, C7.out, by simp only [wrI, wrB, HQ.out, cond_true]; rw [rep_at hlt (z + 1)]; exact O7.out⟩
                  case measure => simp [intOf]; omega
            · obtain rfl : n = 8 := by omega
              obtain ⟨b1', d1', b2', d2', b3', d3', hc, ho⟩ := I.out.cur
              have C8' := Lib.hid hc
              have O8' := Lib.hid ho
              clear hc ho
              go_upto_region 11 with fail
              apply wp_region_lit
              refine wpList_load_row rfl _ _ rfl s rfl _ _ _ _ C8'.out Try.underlying26 rfl infoPub ?_
              simp only [Act.put, List.setIfInBounds_toArray, List.set_cons_succ, List.set_cons_zero]
              obtain ⟨old, ho, hz⟩ := I.out.out
              refine wpList_store_row rfl _ _ _ rfl gz #[.int .i64 j, .slice b1' 8 d1', .slice b2' 8 d2', .slice b3' 8 d3'] rfl rfl _ _ ho infoPub (by rw [hz]; rfl) (by kernel_rfl) ?_
              have B9 : Hid ((wr.setRow gz #[.int .i64 j, .slice b1' 8 d1', .slice b2' 8 d2', .slice b3' 8 d3']).heap[gz]? = some (.cells #[.int .i64 j, .slice b1' 8 d1', .slice b2' 8 d2', .slice b3' 8 d3'] 26 (0, 0))) := Lib.hid (setRow_heap wr gz old _ _ (0, 0) ho)
              have gr := grownRow ho #[.int .i64 j, .slice b1' 8 d1', .slice b2' 8 d2', .slice b3' 8 d3']
              have FIN : Hid (WriteS j a v f d q w (.returned (.tuple #[.agg #[.int .i64 j, .slice b1' 8 d1', .slice b2' 8 d2', .slice b3' 8 d3'], .bool true])) (wr.setRow gz #[.int .i64 j, .slice b1' 8 d1', .slice b2' 8 d2', .slice b3' 8 d3'])) := Lib.hid ⟨_, _, _, _, _, .inl ⟨rfl, OK.out, DK.out, Q8.out, by rw [HZ.out]; exact T9', rfl, by rw [Int.toNat_natCast], by rw [HZ.out], rfl⟩, _, _, _, rfl, grown_own I.out.gr gr (fun i hi => by injection hi with hi; omega), outRow O8'.out gr ho⟩
              clear ho hz gr
              generalize wr.setRow gz #[.int .i64 j, .slice b1' 8 d1', .slice b2' 8 d2', .slice b3' 8 d3'] = w9 at *
              go_wp2_with fail
              refine bodyPost_ret (v := .tuple #[.agg #[.int .i64 j, .slice b1' 8 d1', .slice b2' 8 d2', .slice b3' 8 d3'], .bool true]) ?_ rfl FIN.out
              exact results_row_slot Try.results76 _ _ gz _ _ _ _ _ rfl rfl B9.out Try.underlying26 rfl infoPub
      · have NO : Hid (¬ (StOk k a v f ∧ Vec.ok d = true ∧ q.length = 8)) := Lib.hid (fun h => h8 (by rw [NLQ.out]; exact h.2.2))
        have hb : ((lq : Int) != 8) = true := by rw [bne_iff_ne]; omega
        clear h8
        go_upto_region 2 with fail
        apply wp_region_lit
        refine wpBuild0 rfl _ rfl _ builtNone' ?_
        simp only [Act.put, List.setIfInBounds_toArray, List.set_cons_succ, List.set_cons_zero]
        obtain ⟨old, ho, hz⟩ := Z1.out
        refine wpList_store_row rfl _ _ _ rfl gz #[.int .i64 0, .slice none 0 0, .slice none 0 0, .slice none 0 0] rfl rfl _ _ ho infoPub (by rw [hz]; rfl) (by kernel_rfl) ?_
        have B9 : Hid ((w1.setRow gz #[.int .i64 0, .slice none 0 0, .slice none 0 0, .slice none 0 0]).heap[gz]? = some (.cells #[.int .i64 0, .slice none 0 0, .slice none 0 0, .slice none 0 0] 26 (0, 0))) := Lib.hid (setRow_heap w1 gz old _ _ (0, 0) ho)
        have FIN : Hid (WriteS k a v f d q w (.returned (.tuple #[.agg #[.int .i64 0, .slice none 0 0, .slice none 0 0, .slice none 0 0], .bool false])) (w1.setRow gz #[.int .i64 0, .slice none 0 0, .slice none 0 0, .slice none 0 0])) := Lib.hid ⟨_, _, _, _, _, .inr (.inr ⟨rfl, NO.out, rfl, rfl, rfl, rfl⟩), _, _, _, rfl, grown_own G1.out (grownRow ho _) (fun i hi => by injection hi with hi; omega), StOwn.none' _ _⟩
        clear ho hz
        generalize w1.setRow gz #[.int .i64 0, .slice none 0 0, .slice none 0 0, .slice none 0 0] = w9 at *
        go_wp2_with fail
        refine bodyPost_ret (v := .tuple #[.agg #[.int .i64 0, .slice none 0 0, .slice none 0 0, .slice none 0 0], .bool false]) ?_ rfl FIN.out
        exact results_row_slot Try.results76 _ _ gz _ _ _ _ _ rfl rfl B9.out Try.underlying26 rfl infoPub
end Go.Proofs.Ytoflijiinkmjoaa
