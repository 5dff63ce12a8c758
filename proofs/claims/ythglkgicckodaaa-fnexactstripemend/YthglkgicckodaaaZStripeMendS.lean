/-
  What this claim wants of the texts of earlier chapters.
  Conditions: none.
-/
import Derived.Test.YthglkgicckodaaaZStripeWriteS
import Derived.Test.YthglkgicckodaaaZP4
namespace Go.Proofs.Ythglkgicckodaaa
open Go.RowKit Go.Shelf
set_option linter.unusedVariables false
set_option linter.unusedSimpArgs false
attribute [local go_sem] Oper.semAt_some
def SMendAt (k : Int) (a v : List Int) (f : List Bool) (n : Nat) (a' v' : List Int) (f' : List Bool) (b : Bool) : Prop :=
  ∃ x, Best k v f x ∧ ((1 ≤ x ∧ ∃ d l m, PlanT k n (ofM v f x) d l m true ∧ b = true ∧ a' = a.set n (dsum a l m l.length) ∧ v' = v.set n x ∧ f' = f.set n true) ∨
    (b = false ∧ a' = a ∧ v' = v ∧ f' = f ∧ (1 ≤ x → ∃ d l m, PlanT k n (ofM v f x) d l m false)))
theorem SMendAt.one {k : Int} {a v : List Int} {f : List Bool} {n : Nat} {a1 v1 a2 v2 : List Int} {f1 f2 : List Bool} {b1 b2 : Bool} (h : SMendAt k a v f n a1 v1 f1 b1) (h' : SMendAt k a v f n a2 v2 f2 b2) : a1 = a2 ∧ v1 = v2 ∧ f1 = f2 ∧ b1 = b2 := by
  obtain ⟨x, hx, h⟩ := h
  obtain ⟨y, hy, h'⟩ := h'
  obtain rfl := hx.one hy
  rcases h with ⟨h1, d, l, m, hp, rfl, rfl, rfl, rfl⟩ | ⟨rfl, rfl, rfl, rfl, hp⟩
  · rcases h' with ⟨_, d', l', m', hp', rfl, rfl, rfl, rfl⟩ | ⟨rfl, rfl, rfl, rfl, hp'⟩
    · obtain ⟨rfl, rfl, rfl, _⟩ := hp.one hp'
      exact ⟨rfl, rfl, rfl, rfl⟩
    · obtain ⟨d', l', m', hp'⟩ := hp' h1
      have := (hp.one hp').2.2.2; cases this
  · rcases h' with ⟨h1, d', l', m', hp', rfl, rfl, rfl, rfl⟩ | ⟨rfl, rfl, rfl, rfl, hp'⟩
    · obtain ⟨d, l, m, hp⟩ := hp h1
      have := (hp.one hp').2.2.2; cases this
    · exact ⟨rfl, rfl, rfl, rfl⟩
theorem FoundP.told {k lost : Nat} (hk : k = 1 ∨ k = 2) (hl : lost < 8) {f : List Bool} (hf : f.length = 8) {w : World} {e : Ending} {w' : World} (h : FoundP k lost (Sp.planM k lost f) w e w') : NewP k lost f w e w' := by
  obtain ⟨hg, ⟨S, c, u, v, hp, hc, he, ht⟩ | ⟨hp, he⟩⟩ := h
  · exact ⟨lost, Sp.ints S, c, true, u, v, .inl ⟨rfl, k, lost, S, rfl, hk, rfl, hl, hf, hp, hc, rfl, rfl⟩, he, hg, ht⟩
  · refine ⟨0, [], [], false, _, _, .inr ⟨rfl, rfl, rfl, rfl, fun k' l' e1 _ e2 _ _ => ?_⟩, he, hg, Own.none_ _ _, Own.none_ _ _, .inl rfl⟩
    obtain rfl : k = k' := by omega
    obtain rfl : lost = l' := by omega
    exact hp
theorem infoPl : (Try.prog.info? 110).map (·.size) = some 3 := by kernel_rfl
theorem StAt.plan {w w' : World} {base s g1 g2 g3 d1 d2 d3 tp : Nat} {k : Int} {a v : List Int} {f : List Bool} {cs : List Value} (h : StAt w base s g1 g2 g3 d1 d2 d3 k a v f) (hg : w.grownBy w' (some tp)) (hT : Blk w tp 110 cs) (hs : s ≠ tp) : StAt w' base s g1 g2 g3 d1 d2 d3 k a v f := by
  have ne : ∀ i : Item, i.Own w base → i.e ≠ 110 → i.Own w' base := fun i hi he => World.ownsRow.kept hi hg (by
    rcases hi.2 with ⟨h0, _⟩ | ⟨g, cap, cur, h0, _, hb, _⟩
    · left; rw [h0]; rfl
    · right
      rw [h0]
      intro e
      injection e with e
      subst e
      have := hb.symm.trans hT
      injection this with this
      injection this with _ this
      exact he this)
  obtain ⟨h0, h1, h2, ab, ac, bc⟩ := own3 h.own
  exact ⟨h.blk.kept hg (fun e => hs (by injection e)), mk3 (ne _ h0 (show (3 : Nat) ≠ 110 by decide)) (ne _ h1 (show (3 : Nat) ≠ 110 by decide)) (ne _ h2 (show (4 : Nat) ≠ 110 by decide)) ab ac bc, h.la, h.lv, h.lf, h.ne1, h.ne2, h.ne3⟩
def MendS (k : Int) (a v : List Int) (f : List Bool) (n : Nat) (w : World) (e : Ending) (w' : World) : Prop := ∃ a' v' f' b, SMendAt k a v f n a' v' f' b ∧ NewSt2 k a' v' f' b w e w'
theorem plan_form {k n : Int} {f : List Bool} {d : Int} {l m : List Int} (h : PlanT k n f d l m true) : pForm d l m = true := by
  have := (plan_told h).1
  unfold okP at this
  rw [Bool.and_eq_true, Bool.and_eq_true] at this
  exact this.2.1
set_option maxHeartbeats 32000000 in
set_option maxRecDepth 60000 in
theorem specL21Mend (k : Int) (u x y : Value) (a v : List Int) (f : List Bool) (n : Nat) (hn : n < 8) (w : World) (hu : Sl w u a) (hx : Sl w x v) (hy : Bl w y f) (ok : StOk k a v f) :
    Calls Try.prog 58 #[.agg #[.int .i64 k, u, x, y], .int .i64 n] w (MendS k a v f n w) := by
  obtain ⟨j, rfl, hj⟩ : ∃ j : Nat, k = j ∧ (j = 1 ∨ j = 2) := ⟨k.toNat, by have := ok.kind; omega, by have := ok.kind; omega⟩
  have HJ := Lib.hid hj
  have OK := Lib.hid ok
  have EA := Lib.hid (shOk_row.1 ok.sh).1
  have EV := Lib.hid ok.v8
  have EF := Lib.hid ok.f8
  have HN := Lib.hid hn
  have hni : (n : Int) < 8 := by omega
  have U := Lib.hid hu
  have X := Lib.hid hx
  have Y := Lib.hid hy
  obtain ⟨a1, c1, e1, -, q1, -⟩ := hu
  obtain ⟨a2, c2, e2, -, q2, -⟩ := hx
  obtain ⟨a3, c3, e3, -, q3, -⟩ := hy
  rw [EA.out] at e1
  rw [EV.out] at e2
  rw [EF.out] at e3
  subst e1 e2 e3
  unfold maxLen at q1 q2 q3
  have K : Hid (Blk ((w.alloc (.cells #[.int .i64 j, .slice a1 8 c1, .slice a2 8 c2, .slice a3 8 c3] 45)).alloc (.cells #[.int .i64 0, .slice none 0 0, .slice none 0 0, .slice none 0 0] 45)) w.heap.size 45 [.int .i64 j, .slice a1 8 c1, .slice a2 8 c2, .slice a3 8 c3]) := Lib.hid (by
    have h : Blk (w.alloc (.cells #[.int .i64 j, .slice a1 8 c1, .slice a2 8 c2, .slice a3 8 c3] 45)) w.heap.size 45 [.int .i64 j, .slice a1 8 c1, .slice a2 8 c2, .slice a3 8 c3] := heap_alloc_new _ _
    exact h.kept (World.grownBy_alloc _ _ none) (by simp))
  have Z : Hid (OutC ((w.alloc (.cells #[.int .i64 j, .slice a1 8 c1, .slice a2 8 c2, .slice a3 8 c3] 45)).alloc (.cells #[.int .i64 0, .slice none 0 0, .slice none 0 0, .slice none 0 0] 45)) (w.heap.size + 1)) := Lib.hid (by
    have := heap_alloc_new (w.alloc (.cells #[.int .i64 j, .slice a1 8 c1, .slice a2 8 c2, .slice a3 8 c3] 45)) (.cells #[.int .i64 0, .slice none 0 0, .slice none 0 0, .slice none 0 0] 45)
    rw [World.size_alloc] at this
    exact ⟨_, this, rfl⟩)
  have G := Lib.hid (grown_alloc (World.grownBy_alloc w (.cells #[.int .i64 j, .slice a1 8 c1, .slice a2 8 c2, .slice a3 8 c3] 45) none) (.cells #[.int .i64 0, .slice none 0 0, .slice none 0 0, .slice none 0 0] 45))
  have EO := enters_of (P := Try.prog) Try.func74 (by kernel_rfl) rfl
  have EP := enters_of (P := Try.prog) Try.func77 (by kernel_rfl) rfl
  have ED := enters_of (P := Try.prog) Try.func78 (by kernel_rfl) rfl
  clear hj ok hn
  go_enter Try.func58, Try.ntmps58
  go_upto_region 1 with fail
  generalize (w.alloc (.cells #[.int .i64 j, .slice a1 8 c1, .slice a2 8 c2, .slice a3 8 c3] 45)).alloc (.cells #[.int .i64 0, .slice none 0 0, .slice none 0 0, .slice none 0 0] 45) = wr at *
  obtain ⟨g, hg⟩ : ∃ g, g = w.heap.size := ⟨_, rfl⟩
  obtain ⟨gz, hgz⟩ : ∃ g, g = w.heap.size + 1 := ⟨_, rfl⟩
  have LG : w.heap.size ≤ g := by omega
  have LZ : w.heap.size ≤ gz := by omega
  have NE : g ≠ gz := by omega
  rw [← hg] at K
  rw [← hgz] at Z
  rw [← hgz, ← hg]
  clear hg hgz
  have c0' := K.out.cell (i := 0) rfl
  have c1' := K.out.cell (i := 1) rfl
  have c2' := K.out.cell (i := 2) rfl
  have c3' := K.out.cell (i := 3) rfl
  go_wp2_with fail
  refine (specCopy j _ _ _ a v f _ (U.out.grown G.out) (X.out.grown G.out) (Y.out.grown G.out) EA.out EV.out EF.out).mono ?_
  rintro e wr ⟨u', x', y', rfl, hg, ho⟩
  obtain ⟨g1, g2, g3, d1, d2, d3, e1, e2, e3, hS⟩ := StAt.new (w := wr) (w' := wr) (k := (j : Int)) (ho.lower G.out.size) EA.out EV.out EF.out
  subst e1 e2 e3
  have CP := hS.cap
  unfold maxLen at CP
  have A := Lib.hid hS
  have NS : g ≠ wr.heap.size ∧ gz ≠ wr.heap.size ∧ w.heap.size ≤ wr.heap.size := by
    have h1 := hg.size
    have h2 := outC_lt Z.out
    have h3 := blk_lt K.out
    have h5 := G.out.size
    omega
  replace hg := grown_trans hg (World.grownBy_alloc wr (.cells #[.int .i64 j, .slice (some ⟨g1, 0, none⟩) 8 d1, .slice (some ⟨g2, 0, none⟩) 8 d2, .slice (some ⟨g3, 0, none⟩) 8 d3] 45) none)
  replace G := Lib.hid (grown_trans G.out hg)
  replace K := Lib.hid (K.out.kept hg (by simp))
  replace Z := Lib.hid (outC_kept Z.out hg (by simp))
  clear hg ho hS c0' c1' c2' c3'
  go_upto_region 2 with fail
  generalize hwx : wr.alloc (.cells #[.int .i64 j, .slice (some ⟨g1, 0, none⟩) 8 d1, .slice (some ⟨g2, 0, none⟩) 8 d2, .slice (some ⟨g3, 0, none⟩) 8 d3] 45) = wx at *
  generalize wr.heap.size = s at *
  clear hwx wr
  have LS : w.heap.size ≤ s := NS.2.2
  have c0' := K.out.cell (i := 0) rfl
  have c1' := K.out.cell (i := 1) rfl
  have c2' := K.out.cell (i := 2) rfl
  have c3' := K.out.cell (i := 3) rfl
  go_wp2_with fail
  refine (specL21Read j _ _ _ a v f _ (U.out.grown G.out) (X.out.grown G.out) (Y.out.grown G.out) OK.out).mono ?_
  rintro e wr ⟨l, x, b, ul, hT, rfl, hg, ho⟩
  have RT := Lib.hid hT
  replace G := Lib.hid (grown_trans G.out hg)
  replace K := Lib.hid (K.out.kept hg (by simp))
  replace Z := Lib.hid (outC_kept Z.out hg (by simp))
  replace A := Lib.hid (A.out.still hg)
  clear hg ho hT c0' c1' c2' c3'
  cases b with
  | false =>
    have BZ : Hid (SMendAt j a v f n a v f false) := Lib.hid (by
      rcases RT.out with ⟨h, _⟩ | ⟨_, _, _, h⟩
      · cases h
      · exact ⟨0, h OK.out, .inr ⟨rfl, rfl, rfl, rfl, fun h => by omega⟩⟩)
    clear RT
    go_upto_region 4 with fail
    apply wp_region_lit
    refine wpList_load_row rfl _ _ rfl s rfl _ _ _ _ A.out.blk Try.underlying45 rfl infoPub ?_
    simp only [Act.put, List.setIfInBounds_toArray, List.set_cons_succ, List.set_cons_zero]
    obtain ⟨old, ho, hz⟩ := Z.out
    refine wpList_store_row rfl _ _ _ rfl gz #[.int .i64 j, .slice (some ⟨g1, 0, none⟩) 8 d1, .slice (some ⟨g2, 0, none⟩) 8 d2, .slice (some ⟨g3, 0, none⟩) 8 d3] rfl rfl _ _ ho infoPub (by rw [hz]; rfl) (by kernel_rfl) ?_
    have B9 : Hid ((wr.setRow gz #[.int .i64 j, .slice (some ⟨g1, 0, none⟩) 8 d1, .slice (some ⟨g2, 0, none⟩) 8 d2, .slice (some ⟨g3, 0, none⟩) 8 d3]).heap[gz]? = some (.cells #[.int .i64 j, .slice (some ⟨g1, 0, none⟩) 8 d1, .slice (some ⟨g2, 0, none⟩) 8 d2, .slice (some ⟨g3, 0, none⟩) 8 d3] 45 (0, 0))) := Lib.hid (setRow_heap wr gz old _ _ (0, 0) ho)
    have gr := grownRow ho #[.int .i64 j, .slice (some ⟨g1, 0, none⟩) 8 d1, .slice (some ⟨g2, 0, none⟩) 8 d2, .slice (some ⟨g3, 0, none⟩) 8 d3]
    have FIN : Hid (MendS j a v f n w (.returned (.tuple #[.agg #[.int .i64 j, .slice (some ⟨g1, 0, none⟩) 8 d1, .slice (some ⟨g2, 0, none⟩) 8 d2, .slice (some ⟨g3, 0, none⟩) 8 d3], .bool false])) (wr.setRow gz #[.int .i64 j, .slice (some ⟨g1, 0, none⟩) 8 d1, .slice (some ⟨g2, 0, none⟩) 8 d2, .slice (some ⟨g3, 0, none⟩) 8 d3])) := Lib.hid ⟨_, _, _, _, BZ.out, _, _, _, rfl, grown_own G.out gr (fun i hi => by injection hi with hi; omega), outRow A.out.own gr ho⟩
    clear ho hz gr
    generalize wr.setRow gz #[.int .i64 j, .slice (some ⟨g1, 0, none⟩) 8 d1, .slice (some ⟨g2, 0, none⟩) 8 d2, .slice (some ⟨g3, 0, none⟩) 8 d3] = w9 at *
    go_wp2_with fail
    refine bodyPost_ret (v := .tuple #[.agg #[.int .i64 j, .slice (some ⟨g1, 0, none⟩) 8 d1, .slice (some ⟨g2, 0, none⟩) 8 d2, .slice (some ⟨g3, 0, none⟩) 8 d3], .bool false]) ?_ rfl FIN.out
    exact results_row_slot Try.results58 _ _ gz _ _ _ _ _ rfl rfl B9.out Try.underlying45 rfl infoPub
  | true =>
    obtain ⟨h1, h2⟩ : 1 ≤ x ∧ Best j v f x := by
      rcases RT.out with ⟨_, _, h1, h2, _⟩ | ⟨h, _⟩
      · exact ⟨h1, h2⟩
      · cases h
    have X1 := Lib.hid h1
    have XB := Lib.hid h2
    clear RT h1 h2
    go_upto_region 5 with fail
    refine wp_region_held (S := fun W => Blk W g 45 [.int .i64 j, .slice a1 8 c1, .slice a2 8 c2, .slice a3 8 c3]) (by kernel_rfl) ?_
    change wpAnyH _ _ _ _ _ _ _ _ wr.drew
    have hg := grown_drew (World.grownBy.refl wr none)
    replace G := Lib.hid (grown_trans G.out hg)
    replace K := Lib.hid (K.out.kept hg (by simp))
    replace Z := Lib.hid (outC_kept Z.out hg (by simp))
    replace A := Lib.hid (A.out.still hg)
    clear hg
    generalize wr.drew = wr at *
    refine Rg.take_ 0 (some 24) (.pointer (some ⟨g, 0, none⟩)) rfl rfl (by kernel_rfl) (by kernel_rfl) (by kernel_rfl) (fun _ _ _ h => h) (.inl ⟨by rfl, fun W' hS => (by go_simp)⟩) K.out ?_
    simp only [Act.put, List.setIfInBounds_toArray, List.set_cons_zero, List.set_cons_succ]
    refine Rg.take_ 1 (some 25) (.int .i64 j) rfl rfl (by kernel_rfl) (by kernel_rfl) (by kernel_rfl) (fun _ _ _ h => h) (.inl ⟨by rfl, fun W' hS => (by have c0 := hS.cell (i := 0) rfl; go_simp)⟩) K.out ?_
    simp only [Act.put, List.setIfInBounds_toArray, List.set_cons_zero, List.set_cons_succ]
    refine Rg.take_ 2 (some 26) (.int .i64 n) rfl rfl (by kernel_rfl) (by kernel_rfl) (by kernel_rfl) (fun _ _ _ h => h) (.inl ⟨by rfl, fun W' hS => (by go_simp)⟩) K.out ?_
    simp only [Act.put, List.setIfInBounds_toArray, List.set_cons_zero, List.set_cons_succ]
    refine Rg.take_ 3 (some 27) (.agg #[.int .i64 j, .slice a1 8 c1, .slice a2 8 c2, .slice a3 8 c3]) rfl rfl (by kernel_rfl) (by kernel_rfl) (by kernel_rfl) (fun _ _ _ h => h) (.inl ⟨by rfl, fun W' hS => (by have c0 := hS.cell (i := 0) rfl; have c1 := hS.cell (i := 1) rfl; have c2 := hS.cell (i := 2) rfl; have c3 := hS.cell (i := 3) rfl; go_simp)⟩) K.out ?_
    simp only [Act.put, List.setIfInBounds_toArray, List.set_cons_zero, List.set_cons_succ]
    refine Rg.take_ 4 (some 28) (.int .i64 x) rfl rfl (by kernel_rfl) (by kernel_rfl) (by kernel_rfl) (fun _ _ _ h => h) (.inl ⟨by rfl, fun W' hS => (by go_simp)⟩) K.out ?_
    simp only [Act.put, List.setIfInBounds_toArray, List.set_cons_zero, List.set_cons_succ]
    refine Rg.ready_two (i := 5) (k := 10) (by kernel_rfl) rfl rfl rfl rfl ?_ ?_
    · refine Rg.call_at (some 29) (f := 74) (args := #[.agg #[.int .i64 j, .slice a1 8 c1, .slice a2 8 c2, .slice a3 8 c3], .int .i64 x]) rfl (by go_simp) ((specOf j x _ _ _ a v f _ (U.out.grown G.out) (X.out.grown G.out) (Y.out.grown G.out) EV.out EF.out).mono ?_)
      rintro e wr ⟨fv, rfl, hg, ho⟩
      have FV := Lib.hid ho.bl
      replace G := Lib.hid (grown_trans G.out hg)
      replace K := Lib.hid (K.out.kept hg (by simp))
      replace Z := Lib.hid (outC_kept Z.out hg (by simp))
      replace A := Lib.hid (A.out.still hg)
      clear hg ho
      refine ⟨_, rfl, K.out, ?_⟩
      simp only [Act.put, List.setIfInBounds_toArray, List.set_cons_zero, List.set_cons_succ]
      refine Rg.ready_two (i := 6) (k := 10) (by kernel_rfl) rfl rfl rfl rfl ?_ ?_
      · refine Rg.call_at (some 30) (f := 77) (args := #[.int .i64 j, .int .i64 n, fv]) rfl (by go_simp) ((specL11Of HJ.out HN.out (ofM v f x) (ofM_len _ _ _) fv _ FV.out).mono ?_)
        rintro e wr hF
        obtain ⟨d, l, m, b, pu, pv, hP, rfl, hg, ho⟩ := FoundP.told HJ.out HN.out (ofM_len _ _ _) hF
        have HP := Lib.hid hP
        have PO := Lib.hid (ho.lower G.out.size)
        replace G := Lib.hid (grown_trans G.out hg)
        replace K := Lib.hid (K.out.kept hg (by simp))
        replace Z := Lib.hid (outC_kept Z.out hg (by simp))
        replace A := Lib.hid (A.out.still hg)
        clear hg ho hF hP FV
        obtain ⟨p1, r1, q1', p2, r2, q2', e1, e2⟩ := PO.out.form
        subst e1 e2
        refine ⟨_, rfl, K.out, ?_⟩
        simp only [Act.put, List.setIfInBounds_toArray, List.set_cons_zero, List.set_cons_succ]
        refine Rg.take_ 7 (some 23) (.tuple #[.agg #[.int .i64 d, .slice p1 r1 q1', .slice p2 r2 q2'], .bool b]) rfl rfl (by kernel_rfl) (by kernel_rfl) (by kernel_rfl) (fun _ _ _ h => h) (.inl ⟨by rfl, fun W' hS => (by go_simp)⟩) K.out ?_
        simp only [Act.put, List.setIfInBounds_toArray, List.set_cons_zero, List.set_cons_succ]
        refine Rg.take_ 8 (some 31) (.agg #[.int .i64 d, .slice p1 r1 q1', .slice p2 r2 q2']) rfl rfl (by kernel_rfl) (by kernel_rfl) (by kernel_rfl) (fun _ _ _ h => h) (.inl ⟨by rfl, fun W' hS => (by go_simp)⟩) K.out ?_
        simp only [Act.put, List.setIfInBounds_toArray, List.set_cons_zero, List.set_cons_succ]
        refine Rg.take_ 9 (some 32) (.bool b) rfl rfl (by kernel_rfl) (by kernel_rfl) (by kernel_rfl) (fun _ _ _ h => h) (.inl ⟨by rfl, fun W' hS => (by go_simp)⟩) K.out ?_
        simp only [Act.put, List.setIfInBounds_toArray, List.set_cons_zero, List.set_cons_succ]
        refine Rg.ready_one (i := 10) (by kernel_rfl) rfl rfl ?_
        refine Rg.value_at (some 10) (.pointer (some ⟨wr.heap.size, 0, none⟩)) (wr.alloc (.cells #[.int .i64 0, .slice none 0 0, .slice none 0 0] 110)) rfl (by go_simp) ?_
        have hg := World.grownBy_alloc wr (.cells #[.int .i64 0, .slice none 0 0, .slice none 0 0] 110) none
        have T : Hid (Blk (wr.alloc (.cells #[.int .i64 0, .slice none 0 0, .slice none 0 0] 110)) wr.heap.size 110 [.int .i64 0, .slice none 0 0, .slice none 0 0]) := Lib.hid (heap_alloc_new _ _)
        have TZ : gz < wr.heap.size ∧ s < wr.heap.size ∧ g < wr.heap.size ∧ w.heap.size ≤ wr.heap.size := ⟨outC_lt Z.out, blk_lt A.out.blk, blk_lt K.out, G.out.size⟩
        replace G := Lib.hid (grown_trans G.out hg)
        replace K := Lib.hid (K.out.kept hg (by simp))
        replace Z := Lib.hid (outC_kept Z.out hg (by simp))
        replace A := Lib.hid (A.out.still hg)
        replace PO := Lib.hid (PO.out.still hg)
        clear hg
        refine ⟨K.out, ?_⟩
        simp only [Act.put, List.setIfInBounds_toArray, List.set_cons_zero, List.set_cons_succ]
        generalize wr.heap.size = tp at *
        generalize wr.alloc (.cells #[.int .i64 0, .slice none 0 0, .slice none 0 0] 110) = wr at *
        refine Rg.ready_one (i := 11) (by kernel_rfl) rfl rfl ?_
        refine storeAt none 110 _ _ rfl rfl tp #[.int .i64 d, .slice p1 r1 q1', .slice p2 r2 q2'] rfl rfl _ _ T.out infoPl rfl (by kernel_rfl) ?_
        have hg := grownRow T.out #[.int .i64 d, .slice p1 r1 q1', .slice p2 r2 q2']
        have T6 : Hid (Blk (wr.setRow tp #[.int .i64 d, .slice p1 r1 q1', .slice p2 r2 q2']) tp 110 [.int .i64 d, .slice p1 r1 q1', .slice p2 r2 q2']) := Lib.hid (setRow_heap wr tp _ _ _ (0, 0) T.out)
        have PO6 : Hid (Sl (wr.setRow tp #[.int .i64 d, .slice p1 r1 q1', .slice p2 r2 q2']) (.slice p1 r1 q1') l ∧ Sl (wr.setRow tp #[.int .i64 d, .slice p1 r1 q1', .slice p2 r2 q2']) (.slice p2 r2 q2') m) := Lib.hid ⟨(PO.out.1.kept hg (.inr fun e => own_blk PO.out.1 T.out e.symm)).sl, (PO.out.2.1.kept hg (.inr fun e => own_blk PO.out.2.1 T.out e.symm)).sl⟩
        replace A := Lib.hid (A.out.plan hg T.out (by omega))
        replace G := Lib.hid (grown_own G.out hg (fun i hi => by injection hi with hi; omega))
        replace K := Lib.hid (K.out.kept hg (fun e => by injection e with e; omega))
        replace Z := Lib.hid (outC_kept Z.out hg (fun e => by injection e with e; omega))
        clear hg T PO
        have T := T6
        clear T6
        refine ⟨K.out, ?_⟩
        simp only [Act.put, List.setIfInBounds_toArray]
        generalize wr.setRow tp #[.int .i64 d, .slice p1 r1 q1', .slice p2 r2 q2'] = wr at *
        refine Rg.take_ 12 (some 11) (.bool b) rfl rfl (by kernel_rfl) (by kernel_rfl) (by kernel_rfl) (fun _ _ _ h => h) (.inl ⟨by rfl, fun W' hS => (by go_simp)⟩) K.out ?_
        simp only [Act.put, List.setIfInBounds_toArray, List.set_cons_zero, List.set_cons_succ]
        refine wpAnyH_done (by kernel_rfl) ?_ _
        cases b with
        | false =>
          have BZ : Hid (SMendAt j a v f n a v f false) := Lib.hid ⟨x, XB.out, .inr ⟨rfl, rfl, rfl, rfl, fun _ => ⟨d, l, m, HP.out⟩⟩⟩
          go_upto_region 7 with fail
          apply wp_region_lit
          refine wpList_load_row rfl _ _ rfl s rfl _ _ _ _ A.out.blk Try.underlying45 rfl infoPub ?_
          simp only [Act.put, List.setIfInBounds_toArray, List.set_cons_succ, List.set_cons_zero]
          obtain ⟨old, ho, hz⟩ := Z.out
          refine wpList_store_row rfl _ _ _ rfl gz #[.int .i64 j, .slice (some ⟨g1, 0, none⟩) 8 d1, .slice (some ⟨g2, 0, none⟩) 8 d2, .slice (some ⟨g3, 0, none⟩) 8 d3] rfl rfl _ _ ho infoPub (by rw [hz]; rfl) (by kernel_rfl) ?_
          have B9 : Hid ((wr.setRow gz #[.int .i64 j, .slice (some ⟨g1, 0, none⟩) 8 d1, .slice (some ⟨g2, 0, none⟩) 8 d2, .slice (some ⟨g3, 0, none⟩) 8 d3]).heap[gz]? = some (.cells #[.int .i64 j, .slice (some ⟨g1, 0, none⟩) 8 d1, .slice (some ⟨g2, 0, none⟩) 8 d2, .slice (some ⟨g3, 0, none⟩) 8 d3] 45 (0, 0))) := Lib.hid (setRow_heap wr gz old _ _ (0, 0) ho)
          have gr := grownRow ho #[.int .i64 j, .slice (some ⟨g1, 0, none⟩) 8 d1, .slice (some ⟨g2, 0, none⟩) 8 d2, .slice (some ⟨g3, 0, none⟩) 8 d3]
          have FIN : Hid (MendS j a v f n w (.returned (.tuple #[.agg #[.int .i64 j, .slice (some ⟨g1, 0, none⟩) 8 d1, .slice (some ⟨g2, 0, none⟩) 8 d2, .slice (some ⟨g3, 0, none⟩) 8 d3], .bool false])) (wr.setRow gz #[.int .i64 j, .slice (some ⟨g1, 0, none⟩) 8 d1, .slice (some ⟨g2, 0, none⟩) 8 d2, .slice (some ⟨g3, 0, none⟩) 8 d3])) := Lib.hid ⟨_, _, _, _, BZ.out, _, _, _, rfl, grown_own G.out gr (fun i hi => by injection hi with hi; omega), outRow A.out.own gr ho⟩
          clear ho hz gr
          generalize wr.setRow gz #[.int .i64 j, .slice (some ⟨g1, 0, none⟩) 8 d1, .slice (some ⟨g2, 0, none⟩) 8 d2, .slice (some ⟨g3, 0, none⟩) 8 d3] = w9 at *
          go_wp2_with fail
          refine bodyPost_ret (v := .tuple #[.agg #[.int .i64 j, .slice (some ⟨g1, 0, none⟩) 8 d1, .slice (some ⟨g2, 0, none⟩) 8 d2, .slice (some ⟨g3, 0, none⟩) 8 d3], .bool false]) ?_ rfl FIN.out
          exact results_row_slot Try.results58 _ _ gz _ _ _ _ _ rfl rfl B9.out Try.underlying45 rfl infoPub
        | true =>
          have BZ : Hid (SMendAt j a v f n (a.set n (dsum a l m l.length)) (v.set n x) (f.set n true) true) := Lib.hid ⟨x, XB.out, .inl ⟨X1.out, d, l, m, HP.out, rfl, rfl, rfl, rfl⟩⟩
          have PF := Lib.hid (plan_form HP.out)
          go_upto_region 8 with fail
          refine wp_region_held (S := fun W => Blk W g 45 [.int .i64 j, .slice a1 8 c1, .slice a2 8 c2, .slice a3 8 c3] ∧ Blk W s 45 [.int .i64 j, .slice (some ⟨g1, 0, none⟩) 8 d1, .slice (some ⟨g2, 0, none⟩) 8 d2, .slice (some ⟨g3, 0, none⟩) 8 d3] ∧ Blk W tp 110 [.int .i64 d, .slice p1 r1 q1', .slice p2 r2 q2']) (by kernel_rfl) ?_
          change wpAnyH _ _ _ _ _ _ _ _ wr.drew
          have hg := grown_drew (World.grownBy.refl wr none)
          replace G := Lib.hid (grown_trans G.out hg)
          replace K := Lib.hid (K.out.kept hg (by simp))
          replace Z := Lib.hid (outC_kept Z.out hg (by simp))
          replace A := Lib.hid (A.out.still hg)
          replace T := Lib.hid (T.out.kept hg (by simp))
          replace PO6 := Lib.hid (And.intro (PO6.out.1.grown hg) (PO6.out.2.grown hg))
          clear hg
          generalize wr.drew = wr at *
          refine Rg.take_ 0 (some 36) (.pointer (some ⟨s, 1, none⟩)) rfl rfl (by kernel_rfl) (by kernel_rfl) (by kernel_rfl) (fun _ _ _ h => h) (.inl ⟨by rfl, fun W' hS => (by go_simp)⟩) ⟨K.out, A.out.blk, T.out⟩ ?_
          simp only [Act.put, List.setIfInBounds_toArray, List.set_cons_zero, List.set_cons_succ]
          refine Rg.take_ 1 (some 37) (.slice (some ⟨g1, 0, none⟩) 8 d1) rfl rfl (by kernel_rfl) (by kernel_rfl) (by kernel_rfl) (fun _ _ _ h => h) (.inl ⟨by rfl, fun W' hS => (by have c0 := hS.2.1.cell (i := 1) rfl; go_simp)⟩) ⟨K.out, A.out.blk, T.out⟩ ?_
          simp only [Act.put, List.setIfInBounds_toArray, List.set_cons_zero, List.set_cons_succ]
          refine Rg.take_ 2 (some 38) (.int .i64 n) rfl rfl (by kernel_rfl) (by kernel_rfl) (by kernel_rfl) (fun _ _ _ h => h) (.inl ⟨by rfl, fun W' hS => (by go_simp)⟩) ⟨K.out, A.out.blk, T.out⟩ ?_
          simp only [Act.put, List.setIfInBounds_toArray, List.set_cons_zero, List.set_cons_succ]
          refine Rg.take_ 3 (some 39) (.agg #[.int .i64 d, .slice p1 r1 q1', .slice p2 r2 q2']) rfl rfl (by kernel_rfl) (by kernel_rfl) (by kernel_rfl) (fun _ _ _ h => h) (.inl ⟨by rfl, fun W' hS => (by have c0 := hS.2.2.cell (i := 0) rfl; have c1 := hS.2.2.cell (i := 1) rfl; have c2 := hS.2.2.cell (i := 2) rfl; go_simp)⟩) ⟨K.out, A.out.blk, T.out⟩ ?_
          simp only [Act.put, List.setIfInBounds_toArray, List.set_cons_zero, List.set_cons_succ]
          refine Rg.take_ 4 (some 40) (.pointer (some ⟨g, 1, none⟩)) rfl rfl (by kernel_rfl) (by kernel_rfl) (by kernel_rfl) (fun _ _ _ h => h) (.inl ⟨by rfl, fun W' hS => (by go_simp)⟩) ⟨K.out, A.out.blk, T.out⟩ ?_
          simp only [Act.put, List.setIfInBounds_toArray, List.set_cons_zero, List.set_cons_succ]
          refine Rg.take_ 5 (some 41) (.slice a1 8 c1) rfl rfl (by kernel_rfl) (by kernel_rfl) (by kernel_rfl) (fun _ _ _ h => h) (.inl ⟨by rfl, fun W' hS => (by have c0 := hS.1.cell (i := 1) rfl; go_simp)⟩) ⟨K.out, A.out.blk, T.out⟩ ?_
          simp only [Act.put, List.setIfInBounds_toArray, List.set_cons_zero, List.set_cons_succ]
          refine Rg.ready_one (i := 6) (by kernel_rfl) rfl rfl ?_
          refine Rg.call_at (some 42) (f := 78) (args := #[.agg #[.int .i64 d, .slice p1 r1 q1', .slice p2 r2 q2'], .slice a1 8 c1]) rfl (by go_simp) ((specL11Do d _ _ _ l m a _ PO6.out.1 PO6.out.2 (U.out.grown G.out) PF.out OK.out.sh).mono ?_)
          rintro e wr ⟨rfl, hg⟩
          replace G := Lib.hid (grown_trans G.out hg)
          replace K := Lib.hid (K.out.kept hg (by simp))
          replace Z := Lib.hid (outC_kept Z.out hg (by simp))
          replace A := Lib.hid (A.out.still hg)
          replace T := Lib.hid (T.out.kept hg (by simp))
          clear hg PO6 PF
          generalize dsum a l m l.length = y at *
          refine ⟨_, rfl, ⟨K.out, A.out.blk, T.out⟩, ?_⟩
          simp only [Act.put, List.setIfInBounds_toArray, List.set_cons_zero, List.set_cons_succ]
          refine Rg.take_ 7 (some 43) (.pointer (some ⟨g1, n, none⟩)) rfl rfl (by kernel_rfl) (by kernel_rfl) (by kernel_rfl) (fun _ _ _ h => h) (.inl ⟨by rfl, fun W' hS => (by go_simp)⟩) ⟨K.out, A.out.blk, T.out⟩ ?_
          simp only [Act.put, List.setIfInBounds_toArray, List.set_cons_zero, List.set_cons_succ]
          refine Rg.ready_one (i := 8) (by kernel_rfl) rfl rfl ?_
          obtain ⟨x1, f1, b1⟩ := A.out.cellA HN.out
          refine storeOne 3 _ _ rfl rfl g1 n (.int .i64 y) (wr.setCell ⟨g1, n, none⟩ (.int .i64 y)) rfl rfl (by go_simp) ?_
          have NG : g ≠ g1 := fun e => item_ne (own3 A.out.own).1 K.out (show (3 : Nat) ≠ 45 by decide) (by rw [e]; rfl)
          have NZ : gz ≠ g1 := fun e => item_neC (own3 A.out.own).1 Z.out (show (3 : Nat) ≠ 45 by decide) (by rw [e]; rfl)
          have NT : tp ≠ g1 := fun e => own_blk (row1_own.1 (own3 A.out.own).1) T.out (by rw [e]; rfl)
          have hg := grownCell wr ⟨g1, n, none⟩ (.int .i64 y)
          replace G := Lib.hid (grown_own G.out hg (fun i hi => by injection hi with hi; subst hi; exact b1))
          replace K := Lib.hid (K.out.kept hg (by simpa using NG))
          replace Z := Lib.hid (outC_kept Z.out hg (by simpa using NZ))
          replace T := Lib.hid (T.out.kept hg (by simpa using NT))
          replace A := Lib.hid (A.out.putA n y)
          clear hg x1 f1 b1 NG NZ NT
          refine ⟨⟨K.out, A.out.blk, T.out⟩, ?_⟩
          simp only [Act.put, List.setIfInBounds_toArray]
          generalize wr.setCell ⟨g1, n, none⟩ (.int .i64 y) = wr at *
          refine wpAnyH_done (by kernel_rfl) ?_ _
          have HNV := HN.out
          have k2 := A.out.blk.cell (i := 2) rfl
          obtain ⟨x1, f1, b1⟩ := A.out.cellV HN.out
          have NG : g ≠ g2 := fun e => item_ne (own3 A.out.own).2.1 K.out (show (3 : Nat) ≠ 45 by decide) (by rw [e]; rfl)
          have NZ : gz ≠ g2 := fun e => item_neC (own3 A.out.own).2.1 Z.out (show (3 : Nat) ≠ 45 by decide) (by rw [e]; rfl)
          go_upto_region 10 with fail
          clear k2 x1 f1
          have hg := grownCell wr ⟨g2, n, none⟩ (.int .i64 x)
          replace G := Lib.hid (grown_own G.out hg (fun i hi => by injection hi with hi; subst hi; exact b1))
          replace K := Lib.hid (K.out.kept hg (by simpa using NG))
          replace Z := Lib.hid (outC_kept Z.out hg (by simpa using NZ))
          replace A := Lib.hid (A.out.putV n x)
          clear hg b1 NG NZ
          generalize wr.setCell ⟨g2, n, none⟩ (.int .i64 x) = wr at *
          have k3 := A.out.blk.cell (i := 3) rfl
          obtain ⟨x1, f1, b1⟩ := A.out.cellF HN.out
          have NG : g ≠ g3 := fun e => item_ne (own3 A.out.own).2.2.1 K.out (show (4 : Nat) ≠ 45 by decide) (by rw [e]; rfl)
          have NZ : gz ≠ g3 := fun e => item_neC (own3 A.out.own).2.2.1 Z.out (show (4 : Nat) ≠ 45 by decide) (by rw [e]; rfl)
          go_upto_region 11 with fail
          clear k3 x1 f1
          have hg := grownCell wr ⟨g3, n, none⟩ (.bool true)
          replace G := Lib.hid (grown_own G.out hg (fun i hi => by injection hi with hi; subst hi; exact b1))
          replace K := Lib.hid (K.out.kept hg (by simpa using NG))
          replace Z := Lib.hid (outC_kept Z.out hg (by simpa using NZ))
          replace A := Lib.hid (A.out.putF n true)
          clear hg b1 NG NZ
          generalize wr.setCell ⟨g3, n, none⟩ (.bool true) = wr at *
          apply wp_region_lit
          refine wpList_load_row rfl _ _ rfl s rfl _ _ _ _ A.out.blk Try.underlying45 rfl infoPub ?_
          simp only [Act.put, List.setIfInBounds_toArray, List.set_cons_succ, List.set_cons_zero]
          obtain ⟨old, ho, hz⟩ := Z.out
          refine wpList_store_row rfl _ _ _ rfl gz #[.int .i64 j, .slice (some ⟨g1, 0, none⟩) 8 d1, .slice (some ⟨g2, 0, none⟩) 8 d2, .slice (some ⟨g3, 0, none⟩) 8 d3] rfl rfl _ _ ho infoPub (by rw [hz]; rfl) (by kernel_rfl) ?_
          have B9 : Hid ((wr.setRow gz #[.int .i64 j, .slice (some ⟨g1, 0, none⟩) 8 d1, .slice (some ⟨g2, 0, none⟩) 8 d2, .slice (some ⟨g3, 0, none⟩) 8 d3]).heap[gz]? = some (.cells #[.int .i64 j, .slice (some ⟨g1, 0, none⟩) 8 d1, .slice (some ⟨g2, 0, none⟩) 8 d2, .slice (some ⟨g3, 0, none⟩) 8 d3] 45 (0, 0))) := Lib.hid (setRow_heap wr gz old _ _ (0, 0) ho)
          have gr := grownRow ho #[.int .i64 j, .slice (some ⟨g1, 0, none⟩) 8 d1, .slice (some ⟨g2, 0, none⟩) 8 d2, .slice (some ⟨g3, 0, none⟩) 8 d3]
          have FIN : Hid (MendS j a v f n w (.returned (.tuple #[.agg #[.int .i64 j, .slice (some ⟨g1, 0, none⟩) 8 d1, .slice (some ⟨g2, 0, none⟩) 8 d2, .slice (some ⟨g3, 0, none⟩) 8 d3], .bool true])) (wr.setRow gz #[.int .i64 j, .slice (some ⟨g1, 0, none⟩) 8 d1, .slice (some ⟨g2, 0, none⟩) 8 d2, .slice (some ⟨g3, 0, none⟩) 8 d3])) := Lib.hid ⟨_, _, _, _, BZ.out, _, _, _, rfl, grown_own G.out gr (fun i hi => by injection hi with hi; omega), outRow A.out.own gr ho⟩
          clear ho hz gr
          generalize wr.setRow gz #[.int .i64 j, .slice (some ⟨g1, 0, none⟩) 8 d1, .slice (some ⟨g2, 0, none⟩) 8 d2, .slice (some ⟨g3, 0, none⟩) 8 d3] = w9 at *
          go_wp2_with fail
          refine bodyPost_ret (v := .tuple #[.agg #[.int .i64 j, .slice (some ⟨g1, 0, none⟩) 8 d1, .slice (some ⟨g2, 0, none⟩) 8 d2, .slice (some ⟨g3, 0, none⟩) 8 d3], .bool true]) ?_ rfl FIN.out
          exact results_row_slot Try.results58 _ _ gz _ _ _ _ _ rfl rfl B9.out Try.underlying45 rfl infoPub
      · refine Rg.value_at (some 10) (.pointer (some ⟨wr.heap.size, 0, none⟩)) (wr.alloc (.cells #[.int .i64 0, .slice none 0 0, .slice none 0 0] 110)) rfl (by go_simp) ?_
        have hg := World.grownBy_alloc wr (.cells #[.int .i64 0, .slice none 0 0, .slice none 0 0] 110) none
        have T : Hid (Blk (wr.alloc (.cells #[.int .i64 0, .slice none 0 0, .slice none 0 0] 110)) wr.heap.size 110 [.int .i64 0, .slice none 0 0, .slice none 0 0]) := Lib.hid (heap_alloc_new _ _)
        have TZ : gz < wr.heap.size ∧ s < wr.heap.size ∧ g < wr.heap.size ∧ w.heap.size ≤ wr.heap.size := ⟨outC_lt Z.out, blk_lt A.out.blk, blk_lt K.out, G.out.size⟩
        replace G := Lib.hid (grown_trans G.out hg)
        replace K := Lib.hid (K.out.kept hg (by simp))
        replace Z := Lib.hid (outC_kept Z.out hg (by simp))
        replace A := Lib.hid (A.out.still hg)
        replace FV := Lib.hid (FV.out.grown hg)
        clear hg
        refine ⟨K.out, ?_⟩
        simp only [Act.put, List.setIfInBounds_toArray, List.set_cons_zero, List.set_cons_succ]
        generalize wr.heap.size = tp at *
        generalize wr.alloc (.cells #[.int .i64 0, .slice none 0 0, .slice none 0 0] 110) = wr at *
        refine Rg.ready_one (i := 6) (by kernel_rfl) rfl rfl ?_
        refine Rg.call_at (some 30) (f := 77) (args := #[.int .i64 j, .int .i64 n, fv]) rfl (by go_simp) ((specL11Of HJ.out HN.out (ofM v f x) (ofM_len _ _ _) fv _ FV.out).mono ?_)
        rintro e wr hF
        obtain ⟨d, l, m, b, pu, pv, hP, rfl, hg, ho⟩ := FoundP.told HJ.out HN.out (ofM_len _ _ _) hF
        have HP := Lib.hid hP
        have PO := Lib.hid (ho.lower G.out.size)
        replace G := Lib.hid (grown_trans G.out hg)
        replace K := Lib.hid (K.out.kept hg (by simp))
        replace Z := Lib.hid (outC_kept Z.out hg (by simp))
        replace A := Lib.hid (A.out.still hg)
        replace T := Lib.hid (T.out.kept hg (by simp))
        clear hg ho hF hP FV
        obtain ⟨p1, r1, q1', p2, r2, q2', e1, e2⟩ := PO.out.form
        subst e1 e2
        refine ⟨_, rfl, K.out, ?_⟩
        simp only [Act.put, List.setIfInBounds_toArray, List.set_cons_zero, List.set_cons_succ]
        refine Rg.take_ 7 (some 23) (.tuple #[.agg #[.int .i64 d, .slice p1 r1 q1', .slice p2 r2 q2'], .bool b]) rfl rfl (by kernel_rfl) (by kernel_rfl) (by kernel_rfl) (fun _ _ _ h => h) (.inl ⟨by rfl, fun W' hS => (by go_simp)⟩) K.out ?_
        simp only [Act.put, List.setIfInBounds_toArray, List.set_cons_zero, List.set_cons_succ]
        refine Rg.take_ 8 (some 31) (.agg #[.int .i64 d, .slice p1 r1 q1', .slice p2 r2 q2']) rfl rfl (by kernel_rfl) (by kernel_rfl) (by kernel_rfl) (fun _ _ _ h => h) (.inl ⟨by rfl, fun W' hS => (by go_simp)⟩) K.out ?_
        simp only [Act.put, List.setIfInBounds_toArray, List.set_cons_zero, List.set_cons_succ]
        refine Rg.take_ 9 (some 32) (.bool b) rfl rfl (by kernel_rfl) (by kernel_rfl) (by kernel_rfl) (fun _ _ _ h => h) (.inl ⟨by rfl, fun W' hS => (by go_simp)⟩) K.out ?_
        simp only [Act.put, List.setIfInBounds_toArray, List.set_cons_zero, List.set_cons_succ]
        refine Rg.ready_one (i := 11) (by kernel_rfl) rfl rfl ?_
        refine storeAt none 110 _ _ rfl rfl tp #[.int .i64 d, .slice p1 r1 q1', .slice p2 r2 q2'] rfl rfl _ _ T.out infoPl rfl (by kernel_rfl) ?_
        have hg := grownRow T.out #[.int .i64 d, .slice p1 r1 q1', .slice p2 r2 q2']
        have T6 : Hid (Blk (wr.setRow tp #[.int .i64 d, .slice p1 r1 q1', .slice p2 r2 q2']) tp 110 [.int .i64 d, .slice p1 r1 q1', .slice p2 r2 q2']) := Lib.hid (setRow_heap wr tp _ _ _ (0, 0) T.out)
        have PO6 : Hid (Sl (wr.setRow tp #[.int .i64 d, .slice p1 r1 q1', .slice p2 r2 q2']) (.slice p1 r1 q1') l ∧ Sl (wr.setRow tp #[.int .i64 d, .slice p1 r1 q1', .slice p2 r2 q2']) (.slice p2 r2 q2') m) := Lib.hid ⟨(PO.out.1.kept hg (.inr fun e => own_blk PO.out.1 T.out e.symm)).sl, (PO.out.2.1.kept hg (.inr fun e => own_blk PO.out.2.1 T.out e.symm)).sl⟩
        replace A := Lib.hid (A.out.plan hg T.out (by omega))
        replace G := Lib.hid (grown_own G.out hg (fun i hi => by injection hi with hi; omega))
        replace K := Lib.hid (K.out.kept hg (fun e => by injection e with e; omega))
        replace Z := Lib.hid (outC_kept Z.out hg (fun e => by injection e with e; omega))
        clear hg T PO
        have T := T6
        clear T6
        refine ⟨K.out, ?_⟩
        simp only [Act.put, List.setIfInBounds_toArray]
        generalize wr.setRow tp #[.int .i64 d, .slice p1 r1 q1', .slice p2 r2 q2'] = wr at *
        refine Rg.take_ 12 (some 11) (.bool b) rfl rfl (by kernel_rfl) (by kernel_rfl) (by kernel_rfl) (fun _ _ _ h => h) (.inl ⟨by rfl, fun W' hS => (by go_simp)⟩) K.out ?_
        simp only [Act.put, List.setIfInBounds_toArray, List.set_cons_zero, List.set_cons_succ]
        refine wpAnyH_done (by kernel_rfl) ?_ _
        cases b with
        | false =>
          have BZ : Hid (SMendAt j a v f n a v f false) := Lib.hid ⟨x, XB.out, .inr ⟨rfl, rfl, rfl, rfl, fun _ => ⟨d, l, m, HP.out⟩⟩⟩
          go_upto_region 7 with fail
          apply wp_region_lit
          refine wpList_load_row rfl _ _ rfl s rfl _ _ _ _ A.out.blk Try.underlying45 rfl infoPub ?_
          simp only [Act.put, List.setIfInBounds_toArray, List.set_cons_succ, List.set_cons_zero]
          obtain ⟨old, ho, hz⟩ := Z.out
          refine wpList_store_row rfl _ _ _ rfl gz #[.int .i64 j, .slice (some ⟨g1, 0, none⟩) 8 d1, .slice (some ⟨g2, 0, none⟩) 8 d2, .slice (some ⟨g3, 0, none⟩) 8 d3] rfl rfl _ _ ho infoPub (by rw [hz]; rfl) (by kernel_rfl) ?_
          have B9 : Hid ((wr.setRow gz #[.int .i64 j, .slice (some ⟨g1, 0, none⟩) 8 d1, .slice (some ⟨g2, 0, none⟩) 8 d2, .slice (some ⟨g3, 0, none⟩) 8 d3]).heap[gz]? = some (.cells #[.int .i64 j, .slice (some ⟨g1, 0, none⟩) 8 d1, .slice (some ⟨g2, 0, none⟩) 8 d2, .slice (some ⟨g3, 0, none⟩) 8 d3] 45 (0, 0))) := Lib.hid (setRow_heap wr gz old _ _ (0, 0) ho)
          have gr := grownRow ho #[.int .i64 j, .slice (some ⟨g1, 0, none⟩) 8 d1, .slice (some ⟨g2, 0, none⟩) 8 d2, .slice (some ⟨g3, 0, none⟩) 8 d3]
          have FIN : Hid (MendS j a v f n w (.returned (.tuple #[.agg #[.int .i64 j, .slice (some ⟨g1, 0, none⟩) 8 d1, .slice (some ⟨g2, 0, none⟩) 8 d2, .slice (some ⟨g3, 0, none⟩) 8 d3], .bool false])) (wr.setRow gz #[.int .i64 j, .slice (some ⟨g1, 0, none⟩) 8 d1, .slice (some ⟨g2, 0, none⟩) 8 d2, .slice (some ⟨g3, 0, none⟩) 8 d3])) := Lib.hid ⟨_, _, _, _, BZ.out, _, _, _, rfl, grown_own G.out gr (fun i hi => by injection hi with hi; omega), outRow A.out.own gr ho⟩
          clear ho hz gr
          generalize wr.setRow gz #[.int .i64 j, .slice (some ⟨g1, 0, none⟩) 8 d1, .slice (some ⟨g2, 0, none⟩) 8 d2, .slice (some ⟨g3, 0, none⟩) 8 d3] = w9 at *
          go_wp2_with fail
          refine bodyPost_ret (v := .tuple #[.agg #[.int .i64 j, .slice (some ⟨g1, 0, none⟩) 8 d1, .slice (some ⟨g2, 0, none⟩) 8 d2, .slice (some ⟨g3, 0, none⟩) 8 d3], .bool false]) ?_ rfl FIN.out
          exact results_row_slot Try.results58 _ _ gz _ _ _ _ _ rfl rfl B9.out Try.underlying45 rfl infoPub
        | true =>
          have BZ : Hid (SMendAt j a v f n (a.set n (dsum a l m l.length)) (v.set n x) (f.set n true) true) := Lib.hid ⟨x, XB.out, .inl ⟨X1.out, d, l, m, HP.out, rfl, rfl, rfl, rfl⟩⟩
          have PF := Lib.hid (plan_form HP.out)
          go_upto_region 8 with fail
          refine wp_region_held (S := fun W => Blk W g 45 [.int .i64 j, .slice a1 8 c1, .slice a2 8 c2, .slice a3 8 c3] ∧ Blk W s 45 [.int .i64 j, .slice (some ⟨g1, 0, none⟩) 8 d1, .slice (some ⟨g2, 0, none⟩) 8 d2, .slice (some ⟨g3, 0, none⟩) 8 d3] ∧ Blk W tp 110 [.int .i64 d, .slice p1 r1 q1', .slice p2 r2 q2']) (by kernel_rfl) ?_
          change wpAnyH _ _ _ _ _ _ _ _ wr.drew
          have hg := grown_drew (World.grownBy.refl wr none)
          replace G := Lib.hid (grown_trans G.out hg)
          replace K := Lib.hid (K.out.kept hg (by simp))
          replace Z := Lib.hid (outC_kept Z.out hg (by simp))
          replace A := Lib.hid (A.out.still hg)
          replace T := Lib.hid (T.out.kept hg (by simp))
          replace PO6 := Lib.hid (And.intro (PO6.out.1.grown hg) (PO6.out.2.grown hg))
          clear hg
          generalize wr.drew = wr at *
          refine Rg.take_ 0 (some 36) (.pointer (some ⟨s, 1, none⟩)) rfl rfl (by kernel_rfl) (by kernel_rfl) (by kernel_rfl) (fun _ _ _ h => h) (.inl ⟨by rfl, fun W' hS => (by go_simp)⟩) ⟨K.out, A.out.blk, T.out⟩ ?_
          simp only [Act.put, List.setIfInBounds_toArray, List.set_cons_zero, List.set_cons_succ]
          refine Rg.take_ 1 (some 37) (.slice (some ⟨g1, 0, none⟩) 8 d1) rfl rfl (by kernel_rfl) (by kernel_rfl) (by kernel_rfl) (fun _ _ _ h => h) (.inl ⟨by rfl, fun W' hS => (by have c0 := hS.2.1.cell (i := 1) rfl; go_simp)⟩) ⟨K.out, A.out.blk, T.out⟩ ?_
          simp only [Act.put, List.setIfInBounds_toArray, List.set_cons_zero, List.set_cons_succ]
          refine Rg.take_ 2 (some 38) (.int .i64 n) rfl rfl (by kernel_rfl) (by kernel_rfl) (by kernel_rfl) (fun _ _ _ h => h) (.inl ⟨by rfl, fun W' hS => (by go_simp)⟩) ⟨K.out, A.out.blk, T.out⟩ ?_
          simp only [Act.put, List.setIfInBounds_toArray, List.set_cons_zero, List.set_cons_succ]
          refine Rg.take_ 3 (some 39) (.agg #[.int .i64 d, .slice p1 r1 q1', .slice p2 r2 q2']) rfl rfl (by kernel_rfl) (by kernel_rfl) (by kernel_rfl) (fun _ _ _ h => h) (.inl ⟨by rfl, fun W' hS => (by have c0 := hS.2.2.cell (i := 0) rfl; have c1 := hS.2.2.cell (i := 1) rfl; have c2 := hS.2.2.cell (i := 2) rfl; go_simp)⟩) ⟨K.out, A.out.blk, T.out⟩ ?_
          simp only [Act.put, List.setIfInBounds_toArray, List.set_cons_zero, List.set_cons_succ]
          refine Rg.take_ 4 (some 40) (.pointer (some ⟨g, 1, none⟩)) rfl rfl (by kernel_rfl) (by kernel_rfl) (by kernel_rfl) (fun _ _ _ h => h) (.inl ⟨by rfl, fun W' hS => (by go_simp)⟩) ⟨K.out, A.out.blk, T.out⟩ ?_
          simp only [Act.put, List.setIfInBounds_toArray, List.set_cons_zero, List.set_cons_succ]
          refine Rg.take_ 5 (some 41) (.slice a1 8 c1) rfl rfl (by kernel_rfl) (by kernel_rfl) (by kernel_rfl) (fun _ _ _ h => h) (.inl ⟨by rfl, fun W' hS => (by have c0 := hS.1.cell (i := 1) rfl; go_simp)⟩) ⟨K.out, A.out.blk, T.out⟩ ?_
          simp only [Act.put, List.setIfInBounds_toArray, List.set_cons_zero, List.set_cons_succ]
          refine Rg.ready_one (i := 6) (by kernel_rfl) rfl rfl ?_
          refine Rg.call_at (some 42) (f := 78) (args := #[.agg #[.int .i64 d, .slice p1 r1 q1', .slice p2 r2 q2'], .slice a1 8 c1]) rfl (by go_simp) ((specL11Do d _ _ _ l m a _ PO6.out.1 PO6.out.2 (U.out.grown G.out) PF.out OK.out.sh).mono ?_)
          rintro e wr ⟨rfl, hg⟩
          replace G := Lib.hid (grown_trans G.out hg)
          replace K := Lib.hid (K.out.kept hg (by simp))
          replace Z := Lib.hid (outC_kept Z.out hg (by simp))
          replace A := Lib.hid (A.out.still hg)
          replace T := Lib.hid (T.out.kept hg (by simp))
          clear hg PO6 PF
          generalize dsum a l m l.length = y at *
          refine ⟨_, rfl, ⟨K.out, A.out.blk, T.out⟩, ?_⟩
          simp only [Act.put, List.setIfInBounds_toArray, List.set_cons_zero, List.set_cons_succ]
          refine Rg.take_ 7 (some 43) (.pointer (some ⟨g1, n, none⟩)) rfl rfl (by kernel_rfl) (by kernel_rfl) (by kernel_rfl) (fun _ _ _ h => h) (.inl ⟨by rfl, fun W' hS => (by go_simp)⟩) ⟨K.out, A.out.blk, T.out⟩ ?_
          simp only [Act.put, List.setIfInBounds_toArray, List.set_cons_zero, List.set_cons_succ]
          refine Rg.ready_one (i := 8) (by kernel_rfl) rfl rfl ?_
          obtain ⟨x1, f1, b1⟩ := A.out.cellA HN.out
          refine storeOne 3 _ _ rfl rfl g1 n (.int .i64 y) (wr.setCell ⟨g1, n, none⟩ (.int .i64 y)) rfl rfl (by go_simp) ?_
          have NG : g ≠ g1 := fun e => item_ne (own3 A.out.own).1 K.out (show (3 : Nat) ≠ 45 by decide) (by rw [e]; rfl)
          have NZ : gz ≠ g1 := fun e => item_neC (own3 A.out.own).1 Z.out (show (3 : Nat) ≠ 45 by decide) (by rw [e]; rfl)
          have NT : tp ≠ g1 := fun e => own_blk (row1_own.1 (own3 A.out.own).1) T.out (by rw [e]; rfl)
          have hg := grownCell wr ⟨g1, n, none⟩ (.int .i64 y)
          replace G := Lib.hid (grown_own G.out hg (fun i hi => by injection hi with hi; subst hi; exact b1))
          replace K := Lib.hid (K.out.kept hg (by simpa using NG))
          replace Z := Lib.hid (outC_kept Z.out hg (by simpa using NZ))
          replace T := Lib.hid (T.out.kept hg (by simpa using NT))
          replace A := Lib.hid (A.out.putA n y)
          clear hg x1 f1 b1 NG NZ NT
          refine ⟨⟨K.out, A.out.blk, T.out⟩, ?_⟩
          simp only [Act.put, List.setIfInBounds_toArray]
          generalize wr.setCell ⟨g1, n, none⟩ (.int .i64 y) = wr at *
          refine wpAnyH_done (by kernel_rfl) ?_ _
          have HNV := HN.out
          have k2 := A.out.blk.cell (i := 2) rfl
          obtain ⟨x1, f1, b1⟩ := A.out.cellV HN.out
          have NG : g ≠ g2 := fun e => item_ne (own3 A.out.own).2.1 K.out (show (3 : Nat) ≠ 45 by decide) (by rw [e]; rfl)
          have NZ : gz ≠ g2 := fun e => item_neC (own3 A.out.own).2.1 Z.out (show (3 : Nat) ≠ 45 by decide) (by rw [e]; rfl)
          go_upto_region 10 with fail
          clear k2 x1 f1
          have hg := grownCell wr ⟨g2, n, none⟩ (.int .i64 x)
          replace G := Lib.hid (grown_own G.out hg (fun i hi => by injection hi with hi; subst hi; exact b1))
          replace K := Lib.hid (K.out.kept hg (by simpa using NG))
          replace Z := Lib.hid (outC_kept Z.out hg (by simpa using NZ))
          replace A := Lib.hid (A.out.putV n x)
          clear hg b1 NG NZ
          generalize wr.setCell ⟨g2, n, none⟩ (.int .i64 x) = wr at *
          have k3 := A.out.blk.cell (i := 3) rfl
          obtain ⟨x1, f1, b1⟩ := A.out.cellF HN.out
          have NG : g ≠ g3 := fun e => item_ne (own3 A.out.own).2.2.1 K.out (show (4 : Nat) ≠ 45 by decide) (by rw [e]; rfl)
          have NZ : gz ≠ g3 := fun e => item_neC (own3 A.out.own).2.2.1 Z.out (show (4 : Nat) ≠ 45 by decide) (by rw [e]; rfl)
          go_upto_region 11 with fail
          clear k3 x1 f1
          have hg := grownCell wr ⟨g3, n, none⟩ (.bool true)
          replace G := Lib.hid (grown_own G.out hg (fun i hi => by injection hi with hi; subst hi; exact b1))
          replace K := Lib.hid (K.out.kept hg (by simpa using NG))
          replace Z := Lib.hid (outC_kept Z.out hg (by simpa using NZ))
          replace A := Lib.hid (A.out.putF n true)
          clear hg b1 NG NZ
          generalize wr.setCell ⟨g3, n, none⟩ (.bool true) = wr at *
          apply wp_region_lit
          refine wpList_load_row rfl _ _ rfl s rfl _ _ _ _ A.out.blk Try.underlying45 rfl infoPub ?_
          simp only [Act.put, List.setIfInBounds_toArray, List.set_cons_succ, List.set_cons_zero]
          obtain ⟨old, ho, hz⟩ := Z.out
          refine wpList_store_row rfl _ _ _ rfl gz #[.int .i64 j, .slice (some ⟨g1, 0, none⟩) 8 d1, .slice (some ⟨g2, 0, none⟩) 8 d2, .slice (some ⟨g3, 0, none⟩) 8 d3] rfl rfl _ _ ho infoPub (by rw [hz]; rfl) (by kernel_rfl) ?_
          have B9 : Hid ((wr.setRow gz #[.int .i64 j, .slice (some ⟨g1, 0, none⟩) 8 d1, .slice (some ⟨g2, 0, none⟩) 8 d2, .slice (some ⟨g3, 0, none⟩) 8 d3]).heap[gz]? = some (.cells #[.int .i64 j, .slice (some ⟨g1, 0, none⟩) 8 d1, .slice (some ⟨g2, 0, none⟩) 8 d2, .slice (some ⟨g3, 0, none⟩) 8 d3] 45 (0, 0))) := Lib.hid (setRow_heap wr gz old _ _ (0, 0) ho)
          have gr := grownRow ho #[.int .i64 j, .slice (some ⟨g1, 0, none⟩) 8 d1, .slice (some ⟨g2, 0, none⟩) 8 d2, .slice (some ⟨g3, 0, none⟩) 8 d3]
          have FIN : Hid (MendS j a v f n w (.returned (.tuple #[.agg #[.int .i64 j, .slice (some ⟨g1, 0, none⟩) 8 d1, .slice (some ⟨g2, 0, none⟩) 8 d2, .slice (some ⟨g3, 0, none⟩) 8 d3], .bool true])) (wr.setRow gz #[.int .i64 j, .slice (some ⟨g1, 0, none⟩) 8 d1, .slice (some ⟨g2, 0, none⟩) 8 d2, .slice (some ⟨g3, 0, none⟩) 8 d3])) := Lib.hid ⟨_, _, _, _, BZ.out, _, _, _, rfl, grown_own G.out gr (fun i hi => by injection hi with hi; omega), outRow A.out.own gr ho⟩
          clear ho hz gr
          generalize wr.setRow gz #[.int .i64 j, .slice (some ⟨g1, 0, none⟩) 8 d1, .slice (some ⟨g2, 0, none⟩) 8 d2, .slice (some ⟨g3, 0, none⟩) 8 d3] = w9 at *
          go_wp2_with fail
          refine bodyPost_ret (v := .tuple #[.agg #[.int .i64 j, .slice (some ⟨g1, 0, none⟩) 8 d1, .slice (some ⟨g2, 0, none⟩) 8 d2, .slice (some ⟨g3, 0, none⟩) 8 d3], .bool true]) ?_ rfl FIN.out
          exact results_row_slot Try.results58 _ _ gz _ _ _ _ _ rfl rfl B9.out Try.underlying45 rfl infoPub
    · refine Rg.value_at (some 10) (.pointer (some ⟨wr.heap.size, 0, none⟩)) (wr.alloc (.cells #[.int .i64 0, .slice none 0 0, .slice none 0 0] 110)) rfl (by go_simp) ?_
      have hg := World.grownBy_alloc wr (.cells #[.int .i64 0, .slice none 0 0, .slice none 0 0] 110) none
      have T : Hid (Blk (wr.alloc (.cells #[.int .i64 0, .slice none 0 0, .slice none 0 0] 110)) wr.heap.size 110 [.int .i64 0, .slice none 0 0, .slice none 0 0]) := Lib.hid (heap_alloc_new _ _)
      have TZ : gz < wr.heap.size ∧ s < wr.heap.size ∧ g < wr.heap.size ∧ w.heap.size ≤ wr.heap.size := ⟨outC_lt Z.out, blk_lt A.out.blk, blk_lt K.out, G.out.size⟩
      replace G := Lib.hid (grown_trans G.out hg)
      replace K := Lib.hid (K.out.kept hg (by simp))
      replace Z := Lib.hid (outC_kept Z.out hg (by simp))
      replace A := Lib.hid (A.out.still hg)
      clear hg
      refine ⟨K.out, ?_⟩
      simp only [Act.put, List.setIfInBounds_toArray, List.set_cons_zero, List.set_cons_succ]
      generalize wr.heap.size = tp at *
      generalize wr.alloc (.cells #[.int .i64 0, .slice none 0 0, .slice none 0 0] 110) = wr at *
      refine Rg.ready_one (i := 5) (by kernel_rfl) rfl rfl ?_
      refine Rg.call_at (some 29) (f := 74) (args := #[.agg #[.int .i64 j, .slice a1 8 c1, .slice a2 8 c2, .slice a3 8 c3], .int .i64 x]) rfl (by go_simp) ((specOf j x _ _ _ a v f _ (U.out.grown G.out) (X.out.grown G.out) (Y.out.grown G.out) EV.out EF.out).mono ?_)
      rintro e wr ⟨fv, rfl, hg, ho⟩
      have FV := Lib.hid ho.bl
      replace G := Lib.hid (grown_trans G.out hg)
      replace K := Lib.hid (K.out.kept hg (by simp))
      replace Z := Lib.hid (outC_kept Z.out hg (by simp))
      replace A := Lib.hid (A.out.still hg)
      replace T := Lib.hid (T.out.kept hg (by simp))
      clear hg ho
      refine ⟨_, rfl, K.out, ?_⟩
      simp only [Act.put, List.setIfInBounds_toArray, List.set_cons_zero, List.set_cons_succ]
      refine Rg.ready_one (i := 6) (by kernel_rfl) rfl rfl ?_
      refine Rg.call_at (some 30) (f := 77) (args := #[.int .i64 j, .int .i64 n, fv]) rfl (by go_simp) ((specL11Of HJ.out HN.out (ofM v f x) (ofM_len _ _ _) fv _ FV.out).mono ?_)
      rintro e wr hF
      obtain ⟨d, l, m, b, pu, pv, hP, rfl, hg, ho⟩ := FoundP.told HJ.out HN.out (ofM_len _ _ _) hF
      have HP := Lib.hid hP
      have PO := Lib.hid (ho.lower G.out.size)
      replace G := Lib.hid (grown_trans G.out hg)
      replace K := Lib.hid (K.out.kept hg (by simp))
      replace Z := Lib.hid (outC_kept Z.out hg (by simp))
      replace A := Lib.hid (A.out.still hg)
      replace T := Lib.hid (T.out.kept hg (by simp))
      clear hg ho hF hP FV
      obtain ⟨p1, r1, q1', p2, r2, q2', e1, e2⟩ := PO.out.form
      subst e1 e2
      refine ⟨_, rfl, K.out, ?_⟩
      simp only [Act.put, List.setIfInBounds_toArray, List.set_cons_zero, List.set_cons_succ]
      refine Rg.take_ 7 (some 23) (.tuple #[.agg #[.int .i64 d, .slice p1 r1 q1', .slice p2 r2 q2'], .bool b]) rfl rfl (by kernel_rfl) (by kernel_rfl) (by kernel_rfl) (fun _ _ _ h => h) (.inl ⟨by rfl, fun W' hS => (by go_simp)⟩) K.out ?_
      simp only [Act.put, List.setIfInBounds_toArray, List.set_cons_zero, List.set_cons_succ]
      refine Rg.take_ 8 (some 31) (.agg #[.int .i64 d, .slice p1 r1 q1', .slice p2 r2 q2']) rfl rfl (by kernel_rfl) (by kernel_rfl) (by kernel_rfl) (fun _ _ _ h => h) (.inl ⟨by rfl, fun W' hS => (by go_simp)⟩) K.out ?_
      simp only [Act.put, List.setIfInBounds_toArray, List.set_cons_zero, List.set_cons_succ]
      refine Rg.take_ 9 (some 32) (.bool b) rfl rfl (by kernel_rfl) (by kernel_rfl) (by kernel_rfl) (fun _ _ _ h => h) (.inl ⟨by rfl, fun W' hS => (by go_simp)⟩) K.out ?_
      simp only [Act.put, List.setIfInBounds_toArray, List.set_cons_zero, List.set_cons_succ]
      refine Rg.ready_one (i := 11) (by kernel_rfl) rfl rfl ?_
      refine storeAt none 110 _ _ rfl rfl tp #[.int .i64 d, .slice p1 r1 q1', .slice p2 r2 q2'] rfl rfl _ _ T.out infoPl rfl (by kernel_rfl) ?_
      have hg := grownRow T.out #[.int .i64 d, .slice p1 r1 q1', .slice p2 r2 q2']
      have T6 : Hid (Blk (wr.setRow tp #[.int .i64 d, .slice p1 r1 q1', .slice p2 r2 q2']) tp 110 [.int .i64 d, .slice p1 r1 q1', .slice p2 r2 q2']) := Lib.hid (setRow_heap wr tp _ _ _ (0, 0) T.out)
      have PO6 : Hid (Sl (wr.setRow tp #[.int .i64 d, .slice p1 r1 q1', .slice p2 r2 q2']) (.slice p1 r1 q1') l ∧ Sl (wr.setRow tp #[.int .i64 d, .slice p1 r1 q1', .slice p2 r2 q2']) (.slice p2 r2 q2') m) := Lib.hid ⟨(PO.out.1.kept hg (.inr fun e => own_blk PO.out.1 T.out e.symm)).sl, (PO.out.2.1.kept hg (.inr fun e => own_blk PO.out.2.1 T.out e.symm)).sl⟩
      replace A := Lib.hid (A.out.plan hg T.out (by omega))
      replace G := Lib.hid (grown_own G.out hg (fun i hi => by injection hi with hi; omega))
      replace K := Lib.hid (K.out.kept hg (fun e => by injection e with e; omega))
      replace Z := Lib.hid (outC_kept Z.out hg (fun e => by injection e with e; omega))
      clear hg T PO
      have T := T6
      clear T6
      refine ⟨K.out, ?_⟩
      simp only [Act.put, List.setIfInBounds_toArray]
      generalize wr.setRow tp #[.int .i64 d, .slice p1 r1 q1', .slice p2 r2 q2'] = wr at *
      refine Rg.take_ 12 (some 11) (.bool b) rfl rfl (by kernel_rfl) (by kernel_rfl) (by kernel_rfl) (fun _ _ _ h => h) (.inl ⟨by rfl, fun W' hS => (by go_simp)⟩) K.out ?_
      simp only [Act.put, List.setIfInBounds_toArray, List.set_cons_zero, List.set_cons_succ]
      refine wpAnyH_done (by kernel_rfl) ?_ _
      cases b with
      | false =>
        have BZ : Hid (SMendAt j a v f n a v f false) := Lib.hid ⟨x, XB.out, .inr ⟨rfl, rfl, rfl, rfl, fun _ => ⟨d, l, m, HP.out⟩⟩⟩
        go_upto_region 7 with fail
        apply wp_region_lit
        refine wpList_load_row rfl _ _ rfl s rfl _ _ _ _ A.out.blk Try.underlying45 rfl infoPub ?_
        simp only [Act.put, List.setIfInBounds_toArray, List.set_cons_succ, List.set_cons_zero]
        obtain ⟨old, ho, hz⟩ := Z.out
        refine wpList_store_row rfl _ _ _ rfl gz #[.int .i64 j, .slice (some ⟨g1, 0, none⟩) 8 d1, .slice (some ⟨g2, 0, none⟩) 8 d2, .slice (some ⟨g3, 0, none⟩) 8 d3] rfl rfl _ _ ho infoPub (by rw [hz]; rfl) (by kernel_rfl) ?_
        have B9 : Hid ((wr.setRow gz #[.int .i64 j, .slice (some ⟨g1, 0, none⟩) 8 d1, .slice (some ⟨g2, 0, none⟩) 8 d2, .slice (some ⟨g3, 0, none⟩) 8 d3]).heap[gz]? = some (.cells #[.int .i64 j, .slice (some ⟨g1, 0, none⟩) 8 d1, .slice (some ⟨g2, 0, none⟩) 8 d2, .slice (some ⟨g3, 0, none⟩) 8 d3] 45 (0, 0))) := Lib.hid (setRow_heap wr gz old _ _ (0, 0) ho)
        have gr := grownRow ho #[.int .i64 j, .slice (some ⟨g1, 0, none⟩) 8 d1, .slice (some ⟨g2, 0, none⟩) 8 d2, .slice (some ⟨g3, 0, none⟩) 8 d3]
        have FIN : Hid (MendS j a v f n w (.returned (.tuple #[.agg #[.int .i64 j, .slice (some ⟨g1, 0, none⟩) 8 d1, .slice (some ⟨g2, 0, none⟩) 8 d2, .slice (some ⟨g3, 0, none⟩) 8 d3], .bool false])) (wr.setRow gz #[.int .i64 j, .slice (some ⟨g1, 0, none⟩) 8 d1, .slice (some ⟨g2, 0, none⟩) 8 d2, .slice (some ⟨g3, 0, none⟩) 8 d3])) := Lib.hid ⟨_, _, _, _, BZ.out, _, _, _, rfl, grown_own G.out gr (fun i hi => by injection hi with hi; omega), outRow A.out.own gr ho⟩
        clear ho hz gr
        generalize wr.setRow gz #[.int .i64 j, .slice (some ⟨g1, 0, none⟩) 8 d1, .slice (some ⟨g2, 0, none⟩) 8 d2, .slice (some ⟨g3, 0, none⟩) 8 d3] = w9 at *
        go_wp2_with fail
        refine bodyPost_ret (v := .tuple #[.agg #[.int .i64 j, .slice (some ⟨g1, 0, none⟩) 8 d1, .slice (some ⟨g2, 0, none⟩) 8 d2, .slice (some ⟨g3, 0, none⟩) 8 d3], .bool false]) ?_ rfl FIN.out
        exact results_row_slot Try.results58 _ _ gz _ _ _ _ _ rfl rfl B9.out Try.underlying45 rfl infoPub
      | true =>
        have BZ : Hid (SMendAt j a v f n (a.set n (dsum a l m l.length)) (v.set n x) (f.set n true) true) := Lib.hid ⟨x, XB.out, .inl ⟨X1.out, d, l, m, HP.out, rfl, rfl, rfl, rfl⟩⟩
        have PF := Lib.hid (plan_form HP.out)
        go_upto_region 8 with fail
        refine wp_region_held (S := fun W => Blk W g 45 [.int .i64 j, .slice a1 8 c1, .slice a2 8 c2, .slice a3 8 c3] ∧ Blk W s 45 [.int .i64 j, .slice (some ⟨g1, 0, none⟩) 8 d1, .slice (some ⟨g2, 0, none⟩) 8 d2, .slice (some ⟨g3, 0, none⟩) 8 d3] ∧ Blk W tp 110 [.int .i64 d, .slice p1 r1 q1', .slice p2 r2 q2']) (by kernel_rfl) ?_
        change wpAnyH _ _ _ _ _ _ _ _ wr.drew
        have hg := grown_drew (World.grownBy.refl wr none)
        replace G := Lib.hid (grown_trans G.out hg)
        replace K := Lib.hid (K.out.kept hg (by simp))
        replace Z := Lib.hid (outC_kept Z.out hg (by simp))
        replace A := Lib.hid (A.out.still hg)
        replace T := Lib.hid (T.out.kept hg (by simp))
        replace PO6 := Lib.hid (And.intro (PO6.out.1.grown hg) (PO6.out.2.grown hg))
        clear hg
        generalize wr.drew = wr at *
        refine Rg.take_ 0 (some 36) (.pointer (some ⟨s, 1, none⟩)) rfl rfl (by kernel_rfl) (by kernel_rfl) (by kernel_rfl) (fun _ _ _ h => h) (.inl ⟨by rfl, fun W' hS => (by go_simp)⟩) ⟨K.out, A.out.blk, T.out⟩ ?_
        simp only [Act.put, List.setIfInBounds_toArray, List.set_cons_zero, List.set_cons_succ]
        refine Rg.take_ 1 (some 37) (.slice (some ⟨g1, 0, none⟩) 8 d1) rfl rfl (by kernel_rfl) (by kernel_rfl) (by kernel_rfl) (fun _ _ _ h => h) (.inl ⟨by rfl, fun W' hS => (by have c0 := hS.2.1.cell (i := 1) rfl; go_simp)⟩) ⟨K.out, A.out.blk, T.out⟩ ?_
        simp only [Act.put, List.setIfInBounds_toArray, List.set_cons_zero, List.set_cons_succ]
        refine Rg.take_ 2 (some 38) (.int .i64 n) rfl rfl (by kernel_rfl) (by kernel_rfl) (by kernel_rfl) (fun _ _ _ h => h) (.inl ⟨by rfl, fun W' hS => (by go_simp)⟩) ⟨K.out, A.out.blk, T.out⟩ ?_
        simp only [Act.put, List.setIfInBounds_toArray, List.set_cons_zero, List.set_cons_succ]
        refine Rg.take_ 3 (some 39) (.agg #[.int .i64 d, .slice p1 r1 q1', .slice p2 r2 q2']) rfl rfl (by kernel_rfl) (by kernel_rfl) (by kernel_rfl) (fun _ _ _ h => h) (.inl ⟨by rfl, fun W' hS => (by have c0 := hS.2.2.cell (i := 0) rfl; have c1 := hS.2.2.cell (i := 1) rfl; have c2 := hS.2.2.cell (i := 2) rfl; go_simp)⟩) ⟨K.out, A.out.blk, T.out⟩ ?_
        simp only [Act.put, List.setIfInBounds_toArray, List.set_cons_zero, List.set_cons_succ]
        refine Rg.take_ 4 (some 40) (.pointer (some ⟨g, 1, none⟩)) rfl rfl (by kernel_rfl) (by kernel_rfl) (by kernel_rfl) (fun _ _ _ h => h) (.inl ⟨by rfl, fun W' hS => (by go_simp)⟩) ⟨K.out, A.out.blk, T.out⟩ ?_
        simp only [Act.put, List.setIfInBounds_toArray, List.set_cons_zero, List.set_cons_succ]
        refine Rg.take_ 5 (some 41) (.slice a1 8 c1) rfl rfl (by kernel_rfl) (by kernel_rfl) (by kernel_rfl) (fun _ _ _ h => h) (.inl ⟨by rfl, fun W' hS => (by have c0 := hS.1.cell (i := 1) rfl; go_simp)⟩) ⟨K.out, A.out.blk, T.out⟩ ?_
        simp only [Act.put, List.setIfInBounds_toArray, List.set_cons_zero, List.set_cons_succ]
        refine Rg.ready_one (i := 6) (by kernel_rfl) rfl rfl ?_
        refine Rg.call_at (some 42) (f := 78) (args := #[.agg #[.int .i64 d, .slice p1 r1 q1', .slice p2 r2 q2'], .slice a1 8 c1]) rfl (by go_simp) ((specL11Do d _ _ _ l m a _ PO6.out.1 PO6.out.2 (U.out.grown G.out) PF.out OK.out.sh).mono ?_)
        rintro e wr ⟨rfl, hg⟩
        replace G := Lib.hid (grown_trans G.out hg)
        replace K := Lib.hid (K.out.kept hg (by simp))
        replace Z := Lib.hid (outC_kept Z.out hg (by simp))
        replace A := Lib.hid (A.out.still hg)
        replace T := Lib.hid (T.out.kept hg (by simp))
        clear hg PO6 PF
        generalize dsum a l m l.length = y at *
        refine ⟨_, rfl, ⟨K.out, A.out.blk, T.out⟩, ?_⟩
        simp only [Act.put, List.setIfInBounds_toArray, List.set_cons_zero, List.set_cons_succ]
        refine Rg.take_ 7 (some 43) (.pointer (some ⟨g1, n, none⟩)) rfl rfl (by kernel_rfl) (by kernel_rfl) (by kernel_rfl) (fun _ _ _ h => h) (.inl ⟨by rfl, fun W' hS => (by go_simp)⟩) ⟨K.out, A.out.blk, T.out⟩ ?_
        simp only [Act.put, List.setIfInBounds_toArray, List.set_cons_zero, List.set_cons_succ]
        refine Rg.ready_one (i := 8) (by kernel_rfl) rfl rfl ?_
        obtain ⟨x1, f1, b1⟩ := A.out.cellA HN.out
        refine storeOne 3 _ _ rfl rfl g1 n (.int .i64 y) (wr.setCell ⟨g1, n, none⟩ (.int .i64 y)) rfl rfl (by go_simp) ?_
        have NG : g ≠ g1 := fun e => item_ne (own3 A.out.own).1 K.out (show (3 : Nat) ≠ 45 by decide) (by rw [e]; rfl)
        have NZ : gz ≠ g1 := fun e => item_neC (own3 A.out.own).1 Z.out (show (3 : Nat) ≠ 45 by decide) (by rw [e]; rfl)
        have NT : tp ≠ g1 := fun e => own_blk (row1_own.1 (own3 A.out.own).1) T.out (by rw [e]; rfl)
        have hg := grownCell wr ⟨g1, n, none⟩ (.int .i64 y)
        replace G := Lib.hid (grown_own G.out hg (fun i hi => by injection hi with hi; subst hi; exact b1))
        replace K := Lib.hid (K.out.kept hg (by simpa using NG))
        replace Z := Lib.hid (outC_kept Z.out hg (by simpa using NZ))
        replace T := Lib.hid (T.out.kept hg (by simpa using NT))
        replace A := Lib.hid (A.out.putA n y)
        clear hg x1 f1 b1 NG NZ NT
        refine ⟨⟨K.out, A.out.blk, T.out⟩, ?_⟩
        simp only [Act.put, List.setIfInBounds_toArray]
        generalize wr.setCell ⟨g1, n, none⟩ (.int .i64 y) = wr at *
        refine wpAnyH_done (by kernel_rfl) ?_ _
        have HNV := HN.out
        have k2 := A.out.blk.cell (i := 2) rfl
        obtain ⟨x1, f1, b1⟩ := A.out.cellV HN.out
        have NG : g ≠ g2 := fun e => item_ne (own3 A.out.own).2.1 K.out (show (3 : Nat) ≠ 45 by decide) (by rw [e]; rfl)
        have NZ : gz ≠ g2 := fun e => item_neC (own3 A.out.own).2.1 Z.out (show (3 : Nat) ≠ 45 by decide) (by rw [e]; rfl)
        go_upto_region 10 with fail
        clear k2 x1 f1
        have hg := grownCell wr ⟨g2, n, none⟩ (.int .i64 x)
        replace G := Lib.hid (grown_own G.out hg (fun i hi => by injection hi with hi; subst hi; exact b1))
        replace K := Lib.hid (K.out.kept hg (by simpa using NG))
        replace Z := Lib.hid (outC_kept Z.out hg (by simpa using NZ))
        replace A := Lib.hid (A.out.putV n x)
        clear hg b1 NG NZ
        generalize wr.setCell ⟨g2, n, none⟩ (.int .i64 x) = wr at *
        have k3 := A.out.blk.cell (i := 3) rfl
        obtain ⟨x1, f1, b1⟩ := A.out.cellF HN.out
        have NG : g ≠ g3 := fun e => item_ne (own3 A.out.own).2.2.1 K.out (show (4 : Nat) ≠ 45 by decide) (by rw [e]; rfl)
        have NZ : gz ≠ g3 := fun e => item_neC (own3 A.out.own).2.2.1 Z.out (show (4 : Nat) ≠ 45 by decide) (by rw [e]; rfl)
        go_upto_region 11 with fail
        clear k3 x1 f1
        have hg := grownCell wr ⟨g3, n, none⟩ (.bool true)
        replace G := Lib.hid (grown_own G.out hg (fun i hi => by injection hi with hi; subst hi; exact b1))
        replace K := Lib.hid (K.out.kept hg (by simpa using NG))
        replace Z := Lib.hid (outC_kept Z.out hg (by simpa using NZ))
        replace A := Lib.hid (A.out.putF n true)
        clear hg b1 NG NZ
        generalize wr.setCell ⟨g3, n, none⟩ (.bool true) = wr at *
        apply wp_region_lit
        refine wpList_load_row rfl _ _ rfl s rfl _ _ _ _ A.out.blk Try.underlying45 rfl infoPub ?_
        simp only [Act.put, List.setIfInBounds_toArray, List.set_cons_succ, List.set_cons_zero]
        obtain ⟨old, ho, hz⟩ := Z.out
        refine wpList_store_row rfl _ _ _ rfl gz #[.int .i64 j, .slice (some ⟨g1, 0, none⟩) 8 d1, .slice (some ⟨g2, 0, none⟩) 8 d2, .slice (some ⟨g3, 0, none⟩) 8 d3] rfl rfl _ _ ho infoPub (by rw [hz]; rfl) (by kernel_rfl) ?_
        have B9 : Hid ((wr.setRow gz #[.int .i64 j, .slice (some ⟨g1, 0, none⟩) 8 d1, .slice (some ⟨g2, 0, none⟩) 8 d2, .slice (some ⟨g3, 0, none⟩) 8 d3]).heap[gz]? = some (.cells #[.int .i64 j, .slice (some ⟨g1, 0, none⟩) 8 d1, .slice (some ⟨g2, 0, none⟩) 8 d2, .slice (some ⟨g3, 0, none⟩) 8 d3] 45 (0, 0))) := Lib.hid (setRow_heap wr gz old _ _ (0, 0) ho)
        have gr := grownRow ho #[.int .i64 j, .slice (some ⟨g1, 0, none⟩) 8 d1, .slice (some ⟨g2, 0, none⟩) 8 d2, .slice (some ⟨g3, 0, none⟩) 8 d3]
        have FIN : Hid (MendS j a v f n w (.returned (.tuple #[.agg #[.int .i64 j, .slice (some ⟨g1, 0, none⟩) 8 d1, .slice (some ⟨g2, 0, none⟩) 8 d2, .slice (some ⟨g3, 0, none⟩) 8 d3], .bool true])) (wr.setRow gz #[.int .i64 j, .slice (some ⟨g1, 0, none⟩) 8 d1, .slice (some ⟨g2, 0, none⟩) 8 d2, .slice (some ⟨g3, 0, none⟩) 8 d3])) := Lib.hid ⟨_, _, _, _, BZ.out, _, _, _, rfl, grown_own G.out gr (fun i hi => by injection hi with hi; omega), outRow A.out.own gr ho⟩
        clear ho hz gr
        generalize wr.setRow gz #[.int .i64 j, .slice (some ⟨g1, 0, none⟩) 8 d1, .slice (some ⟨g2, 0, none⟩) 8 d2, .slice (some ⟨g3, 0, none⟩) 8 d3] = w9 at *
        go_wp2_with fail
        refine bodyPost_ret (v := .tuple #[.agg #[.int .i64 j, .slice (some ⟨g1, 0, none⟩) 8 d1, .slice (some ⟨g2, 0, none⟩) 8 d2, .slice (some ⟨g3, 0, none⟩) 8 d3], .bool true]) ?_ rfl FIN.out
        exact results_row_slot Try.results58 _ _ gz _ _ _ _ _ rfl rfl B9.out Try.underlying45 rfl infoPub
end Go.Proofs.Ythglkgicckodaaa
