/-
  The contract of a shard that is put in a stripe in the model.
  Conditions: none.
-/
import Derived.Test.YtoflijiinkmjoaaStripeNewS
namespace Go.Proofs.Ytoflijiinkmjoaa
open Go.RowKit Go.Shelf
set_option linter.unusedVariables false
set_option linter.unusedSimpArgs false
attribute [local go_sem] Oper.semAt_some

/-- a store of one cell, at the operation. -/
theorem storeOne {P : Program} {o : Oper} {a : Act} {w : World} {K : Act → World → Prop} {Q : Exit → Act → World → Prop} (ty : TypeId) (x y : Operand) (ho : o.op = .store ty x y) (hd : o.dst = none)
    (g i : Nat) (u : Value) (w' : World) (hx : a.eval x = .pointer (some ⟨g, i, none⟩)) (hy : a.eval y = u) (hrun : (Instr.storeAt ty (.pointer (some ⟨g, i, none⟩)) u).run P w = .ok () w')
    (h : K (a.put none undef) w') : o.wp P a w K Q := by
  rw [← hd] at h
  unfold Oper.wp execOp
  simp only [ho, hx, hy, Sem.run_bind, Sem.run_pure, Result.andThen_ok, hrun]
  exact h
/-- what the putting holds. -/
structure HeldP2 (g s gz g1 g2 g3 d1 d2 d3 base : Nat) (cs : List Value) (k : Int) (a v : List Int) (f : List Bool) (W : World) : Prop where
  arg : Blk W g 26 cs
  st : ∃ a', StAt W base s g1 g2 g3 d1 d2 d3 k a' v f
  out : OutC W gz

set_option maxHeartbeats 8000000 in
set_option maxRecDepth 40000 in
theorem specL21Put {k : Nat} (hk : k = 1 ∨ k = 2) (u x y du : Value) (a v d : List Int) (f : List Bool) (n : Nat) (hn : n < 8) (z : Int) (w : World) (hu : Sl w u a) (hx : Sl w x v) (hy : Bl w y f) (hdu : Sl w du d) (hd : Vec.ok d = true) (ha : a.length = 8) (hv : v.length = 8) (hf : f.length = 8) :
    Calls Try.prog 108 #[.agg #[.int .i64 k, u, x, y], du, .int .i64 n, .int .i64 z] w (NewSt k (a.set n ((allK k d 8).getD n 0)) (v.set n z) (f.set n true) w) := by
  have U := Lib.hid hu
  have X := Lib.hid hx
  have Y := Lib.hid hy
  obtain ⟨a1, c1, e1, -, -, -⟩ := hu
  obtain ⟨a2, c2, e2, -, -, -⟩ := hx
  obtain ⟨a3, c3, e3, -, -, -⟩ := hy
  subst e1 e2 e3
  obtain ⟨l1, hl1⟩ : ∃ n, n = a.length := ⟨_, rfl⟩
  obtain ⟨l2, hl2⟩ : ∃ n, n = v.length := ⟨_, rfl⟩
  obtain ⟨l3, hl3⟩ : ∃ n, n = f.length := ⟨_, rfl⟩
  rw [← hl1] at U ⊢
  rw [← hl2] at X ⊢
  rw [← hl3] at Y ⊢
  have NL1 := Lib.hid hl1
  have NL2 := Lib.hid hl2
  have NL3 := Lib.hid hl3
  clear hl1 hl2 hl3
  obtain rfl : l1 = 8 := NL1.out.trans ha
  obtain rfl : l2 = 8 := NL2.out.trans hv
  obtain rfl : l3 = 8 := NL3.out.trans hf
  have EA := Lib.hid ha
  have EV := Lib.hid hv
  have EF := Lib.hid hf
  have hn' : (n : Int) < 8 := by omega
  have DU := Lib.hid hdu
  have LA := Lib.hid (allK_len k d 8)
  have SA := Lib.hid (fun (W : World) (h : w.grownBy W none) => specL4All hk du d W (DU.out.grown h) hd)
  obtain ⟨ad, cd, ed, -, -, -⟩ := hdu
  subst ed
  obtain ⟨ld, hld⟩ : ∃ l, l = d.length := ⟨_, rfl⟩
  rw [← hld] at DU SA ⊢
  have K0 : Hid (Blk ((w.alloc (.cells #[.int .i64 k, .slice a1 8 c1, .slice a2 8 c2, .slice a3 8 c3] 26)).alloc (.cells #[.int .i64 0, .slice none 0 0, .slice none 0 0, .slice none 0 0] 26)) w.heap.size 26 [.int .i64 k, .slice a1 8 c1, .slice a2 8 c2, .slice a3 8 c3]) := Lib.hid (by
    have h : Blk (w.alloc (.cells #[.int .i64 k, .slice a1 8 c1, .slice a2 8 c2, .slice a3 8 c3] 26)) w.heap.size 26 [.int .i64 k, .slice a1 8 c1, .slice a2 8 c2, .slice a3 8 c3] := heap_alloc_new _ _
    exact h.kept (World.grownBy_alloc _ _ none) (by simp))
  have Z0 : Hid (OutC ((w.alloc (.cells #[.int .i64 k, .slice a1 8 c1, .slice a2 8 c2, .slice a3 8 c3] 26)).alloc (.cells #[.int .i64 0, .slice none 0 0, .slice none 0 0, .slice none 0 0] 26)) (w.heap.size + 1)) := Lib.hid (by
    have := heap_alloc_new (w.alloc (.cells #[.int .i64 k, .slice a1 8 c1, .slice a2 8 c2, .slice a3 8 c3] 26)) (.cells #[.int .i64 0, .slice none 0 0, .slice none 0 0, .slice none 0 0] 26)
    rw [World.size_alloc] at this
    exact ⟨_, this, rfl⟩)
  have G0 := Lib.hid (grown_alloc (World.grownBy_alloc w (.cells #[.int .i64 k, .slice a1 8 c1, .slice a2 8 c2, .slice a3 8 c3] 26) none) (.cells #[.int .i64 0, .slice none 0 0, .slice none 0 0, .slice none 0 0] 26))
  have LL : w.heap.size + 1 < ((w.alloc (.cells #[.int .i64 k, .slice a1 8 c1, .slice a2 8 c2, .slice a3 8 c3] 26)).alloc (.cells #[.int .i64 0, .slice none 0 0, .slice none 0 0, .slice none 0 0] 26)).heap.size := by simp
  have EC := enters_of (P := Try.prog) Try.func105 (by kernel_rfl) rfl
  clear ha hv hf hk hd hld
  generalize allK k d 8 = D at *
  generalize (k : Int) = k at *
  go_enter Try.func108, Try.ntmps108
  go_upto_region 1 with fail
  generalize (w.alloc (.cells #[.int .i64 k, .slice a1 8 c1, .slice a2 8 c2, .slice a3 8 c3] 26)).alloc (.cells #[.int .i64 0, .slice none 0 0, .slice none 0 0, .slice none 0 0] 26) = W0 at *
  obtain ⟨g, hg⟩ : ∃ g, g = w.heap.size := ⟨_, rfl⟩
  obtain ⟨gz, hgz⟩ : ∃ g, g = w.heap.size + 1 := ⟨_, rfl⟩
  have LZ : w.heap.size ≤ gz := by omega
  have LW : gz < W0.heap.size := by omega
  have LG : g < W0.heap.size := by omega
  rw [← hg] at K0
  rw [← hgz] at Z0
  rw [← hgz, ← hg]
  clear hg hgz LL
  have k0 := K0.out.cell (i := 0) rfl
  have k1 := K0.out.cell (i := 1) rfl
  have k2 := K0.out.cell (i := 2) rfl
  have k3 := K0.out.cell (i := 3) rfl
  go_wp2_with fail
  refine (specCopy k _ _ _ a v f _ (U.out.grown G0.out) (X.out.grown G0.out) (Y.out.grown G0.out) EA.out EV.out EF.out).mono ?_
  rintro e w1 ⟨u', x', y', rfl, hg, ho⟩
  obtain ⟨g1, g2, g3, d1, d2, d3, e1, e2, e3, hS⟩ := StAt.new (w' := w1) (k := k) ho EA.out EV.out EF.out
  subst e1 e2 e3
  have ga := World.grownBy_alloc w1 (.cells #[.int .i64 k, .slice (some ⟨g1, 0, none⟩) 8 d1, .slice (some ⟨g2, 0, none⟩) 8 d2, .slice (some ⟨g3, 0, none⟩) 8 d3] 26) none
  have SW := hg.size
  have gg := grown_trans hg ga
  have H0 : Hid (HeldP2 g w1.heap.size gz g1 g2 g3 d1 d2 d3 W0.heap.size [.int .i64 k, .slice a1 8 c1, .slice a2 8 c2, .slice a3 8 c3] k a v f (w1.alloc (.cells #[.int .i64 k, .slice (some ⟨g1, 0, none⟩) 8 d1, .slice (some ⟨g2, 0, none⟩) 8 d2, .slice (some ⟨g3, 0, none⟩) 8 d3] 26)).drew) := Lib.hid ⟨K0.out.kept (grown_drew gg) (by simp), ⟨a, hS.still (grown_drew (World.grownBy.refl _ none))⟩, outC_kept Z0.out (grown_drew gg) (by simp)⟩
  have S0 : Hid (StAt (w1.alloc (.cells #[.int .i64 k, .slice (some ⟨g1, 0, none⟩) 8 d1, .slice (some ⟨g2, 0, none⟩) 8 d2, .slice (some ⟨g3, 0, none⟩) 8 d3] 26)).drew W0.heap.size w1.heap.size g1 g2 g3 d1 d2 d3 k a v f) := Lib.hid (hS.still (grown_drew (World.grownBy.refl _ none)))
  have G1 := Lib.hid (grown_drew (grown_trans G0.out gg))
  have BW : w.heap.size ≤ W0.heap.size := by omega
  have SG : gz < w1.heap.size := by omega
  clear hg ho ga gg hS G0 K0 Z0 k0 k1 k2 k3
  go_upto_region 2 with fail
  generalize w1.alloc (.cells #[.int .i64 k, .slice (some ⟨g1, 0, none⟩) 8 d1, .slice (some ⟨g2, 0, none⟩) 8 d2, .slice (some ⟨g3, 0, none⟩) 8 d3] 26) = w2 at *
  generalize w1.heap.size = s at *
  refine wp_region_held (S := HeldP2 g s gz g1 g2 g3 d1 d2 d3 W0.heap.size [.int .i64 k, .slice a1 8 c1, .slice a2 8 c2, .slice a3 8 c3] k a v f) (by kernel_rfl) ?_
  change wpAnyH _ _ _ _ _ _ _ _ w2.drew
  generalize w2.drew = w2 at *
  refine Rg.take_ 0 (some 12) (.pointer (some ⟨s, 1, none⟩)) rfl rfl (by kernel_rfl) (by kernel_rfl) (by kernel_rfl) (fun _ _ _ h => h) (.inl ⟨by rfl, fun W' hS => (by go_simp)⟩) H0.out ?_
  simp only [Act.put, List.setIfInBounds_toArray, List.set_cons_zero, List.set_cons_succ]
  refine Rg.take_ 1 (some 13) (.slice (some ⟨g1, 0, none⟩) 8 d1) rfl rfl (by kernel_rfl) (by kernel_rfl) (by kernel_rfl) (fun _ _ _ h => h) (.inl ⟨by rfl, fun W' hS => (by have c0 := hS.st.choose_spec.blk.cell (i := 1) rfl; go_simp)⟩) H0.out ?_
  simp only [Act.put, List.setIfInBounds_toArray, List.set_cons_zero, List.set_cons_succ]
  refine Rg.take_ 2 (some 14) (.int .i64 n) rfl rfl (by kernel_rfl) (by kernel_rfl) (by kernel_rfl) (fun _ _ _ h => h) (.inl ⟨by rfl, fun W' hS => (by go_simp)⟩) H0.out ?_
  simp only [Act.put, List.setIfInBounds_toArray, List.set_cons_zero, List.set_cons_succ]
  refine Rg.take_ 3 (some 15) (.pointer (some ⟨g, 0, none⟩)) rfl rfl (by kernel_rfl) (by kernel_rfl) (by kernel_rfl) (fun _ _ _ h => h) (.inl ⟨by rfl, fun W' hS => (by go_simp)⟩) H0.out ?_
  simp only [Act.put, List.setIfInBounds_toArray, List.set_cons_zero, List.set_cons_succ]
  refine Rg.take_ 4 (some 16) (.int .i64 k) rfl rfl (by kernel_rfl) (by kernel_rfl) (by kernel_rfl) (fun _ _ _ h => h) (.inl ⟨by rfl, fun W' hS => (by have c0 := hS.arg.cell (i := 0) rfl; go_simp)⟩) H0.out ?_
  simp only [Act.put, List.setIfInBounds_toArray, List.set_cons_zero, List.set_cons_succ]
  refine Rg.take_ 5 (some 17) (.slice ad ld cd) rfl rfl (by kernel_rfl) (by kernel_rfl) (by kernel_rfl) (fun _ _ _ h => h) (.inl ⟨by rfl, fun W' hS => (by go_simp)⟩) H0.out ?_
  simp only [Act.put, List.setIfInBounds_toArray, List.set_cons_zero, List.set_cons_succ]
  refine Rg.take_ 7 (some 19) (.int .i64 n) rfl rfl (by kernel_rfl) (by kernel_rfl) (by kernel_rfl) (fun _ _ _ h => h) (.inl ⟨by rfl, fun W' hS => (by go_simp)⟩) H0.out ?_
  simp only [Act.put, List.setIfInBounds_toArray, List.set_cons_zero, List.set_cons_succ]
  refine Rg.ready_one (i := 6) (by kernel_rfl) rfl rfl ?_
  refine Rg.call_at (some 18) (f := 105) (args := #[.int .i64 k, .slice ad ld cd]) rfl (by go_simp) ((SA.out _ G1.out).mono ?_)
  rintro e w3 ⟨p, rfl, hg, ho⟩
  have S3 := Lib.hid (S0.out.still hg)
  have G3 := Lib.hid (grown_trans G1.out hg)
  have H3 : Hid (HeldP2 g s gz g1 g2 g3 d1 d2 d3 W0.heap.size [.int .i64 k, .slice a1 8 c1, .slice a2 8 c2, .slice a3 8 c3] k a v f w3) := Lib.hid ⟨H0.out.arg.kept hg (by simp), ⟨a, S3.out⟩, outC_kept H0.out.out hg (by simp)⟩
  obtain ⟨g4, c4, e4, -, -, hc4, x4, -⟩ := ownEight ho LA.out
  subst e4
  unfold maxLen at hc4
  have X4 := Lib.hid (x4 n hn)
  obtain ⟨dn, hdn⟩ : ∃ q, D.getD n 0 = q := ⟨_, rfl⟩
  have HDN := Lib.hid hdn
  rw [hdn] at X4
  clear hg ho H0 S0 G1 x4
  refine ⟨_, rfl, H3.out, ?_⟩
  simp only [Act.put, List.setIfInBounds_toArray, List.set_cons_zero, List.set_cons_succ]
  refine Rg.ready_one (i := 8) (by kernel_rfl) rfl rfl ?_
  refine Rg.value_at (some 20) (.pointer (some ⟨g4, n, none⟩)) w3 rfl (by go_simp) ?_
  refine ⟨H3.out, ?_⟩
  simp only [Act.put, List.setIfInBounds_toArray, List.set_cons_zero, List.set_cons_succ]
  refine Rg.ready_one (i := 9) (by kernel_rfl) rfl rfl ?_
  refine Rg.value_at (some 21) (.int .i64 dn) w3 rfl (by have c := X4.out; go_simp) ?_
  refine ⟨H3.out, ?_⟩
  simp only [Act.put, List.setIfInBounds_toArray, List.set_cons_zero, List.set_cons_succ]
  refine Rg.ready_one (i := 10) (by kernel_rfl) rfl rfl ?_
  refine Rg.value_at (some 22) (.pointer (some ⟨g1, n, none⟩)) w3 rfl (by go_simp) ?_
  refine ⟨H3.out, ?_⟩
  simp only [Act.put, List.setIfInBounds_toArray, List.set_cons_zero, List.set_cons_succ]
  refine Rg.ready_one (i := 11) (by kernel_rfl) rfl rfl ?_
  obtain ⟨x1, f1, b1⟩ := S3.out.cellA hn
  refine storeOne 3 _ _ rfl rfl g1 n (.int .i64 dn) (w3.setCell ⟨g1, n, none⟩ (.int .i64 dn)) rfl rfl (by go_simp) ?_
  have S4 := Lib.hid (S3.out.putA n dn)
  have G4 := Lib.hid (grown_set G3.out (p := ⟨g1, n, none⟩) (Nat.le_trans BW b1) (.int .i64 dn))
  have Z4 : Hid (OutC (w3.setCell ⟨g1, n, none⟩ (.int .i64 dn)) gz) := Lib.hid (outC_put H3.out.out (by show gz ≠ g1; omega) _)
  have H4 : Hid (HeldP2 g s gz g1 g2 g3 d1 d2 d3 W0.heap.size [.int .i64 k, .slice a1 8 c1, .slice a2 8 c2, .slice a3 8 c3] k a v f (w3.setCell ⟨g1, n, none⟩ (.int .i64 dn))) := Lib.hid ⟨(Below.heap_setCell _ _ _ _ (by show g ≠ g1; omega)).trans H3.out.arg, ⟨_, S4.out⟩, Z4.out⟩
  clear x1 f1 b1 S3 G3 H3 X4
  refine ⟨H4.out, ?_⟩
  simp only [Act.put, List.setIfInBounds_toArray]
  clear H4
  generalize w3.setCell ⟨g1, n, none⟩ (.int .i64 dn) = w4 at *
  refine wpAnyH_done (by kernel_rfl) ?_ _
  have CP := S4.out.cap
  unfold maxLen at CP
  have k2 := S4.out.blk.cell (i := 2) rfl
  obtain ⟨x2, f2, b2⟩ := S4.out.cellV hn
  have S5 := Lib.hid (S4.out.putV n z)
  have G5 := Lib.hid (grown_set G4.out (p := ⟨g2, n, none⟩) (Nat.le_trans BW b2) (.int .i64 z))
  have Z5 : Hid (OutC (w4.setCell ⟨g2, n, none⟩ (.int .i64 z)) gz) := Lib.hid (outC_put Z4.out (by show gz ≠ g2; omega) _)
  go_upto_region 4 with fail
  clear k2 x2 f2 b2 S4 G4 Z4
  generalize w4.setCell ⟨g2, n, none⟩ (.int .i64 z) = w5 at *
  have k3 := S5.out.blk.cell (i := 3) rfl
  obtain ⟨x3, f3, b3⟩ := S5.out.cellF hn
  have S6 := Lib.hid (S5.out.putF n true)
  have G6 := Lib.hid (grown_set G5.out (p := ⟨g3, n, none⟩) (Nat.le_trans BW b3) (.bool true))
  have Z6 : Hid (OutC (w5.setCell ⟨g3, n, none⟩ (.bool true)) gz) := Lib.hid (outC_put Z5.out (by show gz ≠ g3; omega) _)
  go_upto_region 5 with fail
  clear k3 x3 f3 b3 S5 G5 Z5
  generalize w5.setCell ⟨g3, n, none⟩ (.bool true) = w6 at *
  apply wp_region_lit
  refine wpList_load_row rfl _ _ rfl s rfl _ _ _ _ S6.out.blk Try.underlying26 rfl infoPub ?_
  simp only [Act.put, List.setIfInBounds_toArray, List.set_cons_succ, List.set_cons_zero]
  obtain ⟨old, ho, hz⟩ := Z6.out
  refine wpList_store_row rfl _ _ _ rfl gz #[.int .i64 k, .slice (some ⟨g1, 0, none⟩) 8 d1, .slice (some ⟨g2, 0, none⟩) 8 d2, .slice (some ⟨g3, 0, none⟩) 8 d3] rfl rfl _ _ ho infoPub (by rw [hz]; rfl) (by kernel_rfl) ?_
  have B9 : Hid ((w6.setRow gz #[.int .i64 k, .slice (some ⟨g1, 0, none⟩) 8 d1, .slice (some ⟨g2, 0, none⟩) 8 d2, .slice (some ⟨g3, 0, none⟩) 8 d3]).heap[gz]? = some (.cells #[.int .i64 k, .slice (some ⟨g1, 0, none⟩) 8 d1, .slice (some ⟨g2, 0, none⟩) 8 d2, .slice (some ⟨g3, 0, none⟩) 8 d3] 26 (0, 0))) := Lib.hid (setRow_heap w6 gz old _ _ (0, 0) ho)
  have gr := grownRow ho #[.int .i64 k, .slice (some ⟨g1, 0, none⟩) 8 d1, .slice (some ⟨g2, 0, none⟩) 8 d2, .slice (some ⟨g3, 0, none⟩) 8 d3]
  have FIN : Hid (NewSt k (a.set n (D.getD n 0)) (v.set n z) (f.set n true) w (.returned (.agg #[.int .i64 k, .slice (some ⟨g1, 0, none⟩) 8 d1, .slice (some ⟨g2, 0, none⟩) 8 d2, .slice (some ⟨g3, 0, none⟩) 8 d3])) (w6.setRow gz #[.int .i64 k, .slice (some ⟨g1, 0, none⟩) 8 d1, .slice (some ⟨g2, 0, none⟩) 8 d2, .slice (some ⟨g3, 0, none⟩) 8 d3])) := Lib.hid (by rw [HDN.out]; exact ⟨_, _, _, rfl, grown_own G6.out gr (fun i hi => by injection hi with hi; omega), (outRow S6.out.own gr ho).lower BW⟩)
  clear ho hz gr
  generalize w6.setRow gz #[.int .i64 k, .slice (some ⟨g1, 0, none⟩) 8 d1, .slice (some ⟨g2, 0, none⟩) 8 d2, .slice (some ⟨g3, 0, none⟩) 8 d3] = w9 at *
  go_wp2_with fail
  refine bodyPost_ret (v := .agg #[.int .i64 k, .slice (some ⟨g1, 0, none⟩) 8 d1, .slice (some ⟨g2, 0, none⟩) 8 d2, .slice (some ⟨g3, 0, none⟩) 8 d3]) ?_ rfl FIN.out
  exact results_cell_row Try.results108 _ _ gz _ _ _ _ rfl B9.out Try.underlying26 rfl infoPub
end Go.Proofs.Ytoflijiinkmjoaa
