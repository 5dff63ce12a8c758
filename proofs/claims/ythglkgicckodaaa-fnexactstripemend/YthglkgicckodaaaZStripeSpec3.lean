/-
  What this claim wants of the texts of earlier chapters.
  Conditions: none.
-/
import Derived.Test.YthglkgicckodaaaZStripeSpec2
namespace Go.Proofs.Ythglkgicckodaaa
open Go.RowKit Go.Shelf
set_option linter.unusedVariables false
set_option linter.unusedSimpArgs false
attribute [local go_sem] Oper.semAt_some
def SReadS' (k : Int) (a v : List Int) (f : List Bool) (w : World) (e : Ending) (w' : World) : Prop := ∃ l n b u, SReadT k a v f l n b ∧ e = .returned (.tuple #[u, .int .i64 n, .bool b]) ∧ w.grownBy w' none ∧ Own w' w.heap.size u l
set_option maxHeartbeats 16000000 in
set_option maxRecDepth 40000 in
theorem specL21Read (k : Int) (u x y : Value) (a v : List Int) (f : List Bool) (w : World) (hu : Sl w u a) (hx : Sl w x v) (hy : Bl w y f) (ok : StOk k a v f) : Calls Try.prog 76 #[.agg #[.int .i64 k, u, x, y]] w (SReadS' k a v f w) := by
  obtain ⟨j, rfl, hj⟩ : ∃ j : Nat, k = j ∧ (j = 1 ∨ j = 2) := ⟨k.toNat, by have := ok.kind; omega, by have := ok.kind; omega⟩
  have HJ := Lib.hid hj
  have OK := Lib.hid ok
  have U := Lib.hid hu
  have X := Lib.hid hx
  have Y := Lib.hid hy
  obtain ⟨a1, c1, e1, -, -, -⟩ := hu
  obtain ⟨a2, c2, e2, -, -, -⟩ := hx
  obtain ⟨a3, c3, e3, -, -, -⟩ := hy
  subst e1 e2 e3
  obtain ⟨l1, hl1⟩ : ∃ n, n = a.length := ⟨_, rfl⟩
  obtain ⟨l2, hl2⟩ : ∃ n, n = v.length := ⟨_, rfl⟩
  obtain ⟨l3, hl3⟩ : ∃ n, n = f.length := ⟨_, rfl⟩
  rw [← hl1] at U ⊢
  rw [← hl2] at X ⊢
  rw [← hl3] at Y ⊢
  have NL1 := Lib.hid hl1
  have NL2 := Lib.hid hl2
  have NL3 := Lib.hid hl3
  clear hl1 hl2 hl3
  obtain rfl : l1 = 8 := NL1.out.trans (shOk_row.1 OK.out.sh).1
  obtain rfl : l2 = 8 := NL2.out.trans OK.out.v8
  obtain rfl : l3 = 8 := NL3.out.trans OK.out.f8
  clear hj ok
  have K0 : Hid (Blk (w.alloc (.cells #[.int .i64 j, .slice a1 8 c1, .slice a2 8 c2, .slice a3 8 c3] 45)) w.heap.size 45 [.int .i64 j, .slice a1 8 c1, .slice a2 8 c2, .slice a3 8 c3]) := Lib.hid (heap_alloc_new _ _)
  have G0 := Lib.hid (World.grownBy_alloc w (.cells #[.int .i64 j, .slice a1 8 c1, .slice a2 8 c2, .slice a3 8 c3] 45) none)
  have SO := Lib.hid (fun (n : Int) (W : World) (h : w.grownBy W none) => specOf j n _ _ _ a v f W (U.out.grown h) (X.out.grown h) (Y.out.grown h) OK.out.v8 OK.out.f8)
  have EC1 := enters_of (P := Try.prog) Try.func74 (by kernel_rfl) rfl
  have EC2 := enters_of (P := Try.prog) Try.func95 (by kernel_rfl) rfl
  have EC3 := enters_of (P := Try.prog) Try.func96 (by kernel_rfl) rfl
  go_enter Try.func76, Try.ntmps76
  go_upto_region 1 with fail
  generalize w.alloc (.cells #[.int .i64 j, .slice a1 8 c1, .slice a2 8 c2, .slice a3 8 c3] 45) = W0 at *
  generalize w.heap.size = g at *
  have k0 := K0.out.cell (i := 0) rfl
  have k1 := K0.out.cell (i := 1) rfl
  have k2 := K0.out.cell (i := 2) rfl
  have k3 := K0.out.cell (i := 3) rfl
  go_wp2_with fail
  refine (specL21Top j _ _ _ a v f _ (U.out.grown G0.out) (X.out.grown G0.out) (Y.out.grown G0.out) OK.out.v8).mono ?_
  rintro e w1 ⟨rfl, hg⟩
  have G1 := Lib.hid (grown_trans G0.out hg)
  have K1 := Lib.hid (K0.out.kept hg (by simp))
  have TP := Lib.hid OK.out.clean.top
  have TN : Hid (∀ y, topN v 8 < y → bearsM j (ofM v f y) = false) := Lib.hid (fun y hy => by
    cases e : bearsM j (ofM v f y) with
    | false => rfl
    | true =>
      obtain ⟨i, hi, _, h2⟩ := bears_some e
      have := topN_ge v 8 i hi
      omega)
  clear hg G0 K0 k0 k1 k2 k3
  generalize topN v 8 = z0 at *
  go_wp2_with fail
  go_loopw [5] (fun o wr => ∃ z : Int, 0 ≤ z ∧ z ≤ 99 ∧ o = .int .i64 z ∧ (∀ y, z < y → bearsM j (ofM v f y) = false) ∧ w.grownBy wr none ∧ Blk wr g 45 [.int .i64 j, .slice a1 8 c1, .slice a2 8 c2, .slice a3 8 c3]) (fun o _ => (intOf o).toNat)
  case atStart => exact ⟨z0, TP.out.1, TP.out.2, rfl, TN.out, G1.out, K1.out⟩
  case round =>
    obtain ⟨z, z1, z2, rfl, hno, hg, hk⟩ := hrel
    have NO := Lib.hid hno
    have G := Lib.hid hg
    have K' := Lib.hid hk
    clear hno hg hk G1 K1
    by_cases hz : 0 < z
    · have K : Hid (Blk wr.drew g 45 [.int .i64 j, .slice a1 8 c1, .slice a2 8 c2, .slice a3 8 c3]) := Lib.hid K'.out
      have GD := Lib.hid (grown_drew G.out)
      clear K' G
      go_upto_region 4 with fail
      refine wp_region_held (S := fun W => Blk W g 45 [.int .i64 j, .slice a1 8 c1, .slice a2 8 c2, .slice a3 8 c3]) (by kernel_rfl) ?_
      refine Rg.take_ 0 (some 14) (.pointer (some ⟨g, 0, none⟩)) rfl rfl (by kernel_rfl) (by kernel_rfl) (by kernel_rfl) (fun _ _ _ h => h) (.inl ⟨by rfl, fun W' hS => (by go_simp)⟩) K.out ?_
      simp only [Act.put, List.setIfInBounds_toArray, List.set_cons_zero, List.set_cons_succ]
      refine Rg.take_ 1 (some 15) (.int .i64 j) rfl rfl (by kernel_rfl) (by kernel_rfl) (by kernel_rfl) (fun _ _ _ h => h) (.inl ⟨by rfl, fun W' hS => (by have c0 := hS.cell (i := 0) rfl; go_simp)⟩) K.out ?_
      simp only [Act.put, List.setIfInBounds_toArray, List.set_cons_zero, List.set_cons_succ]
      refine Rg.take_ 2 (some 16) (.agg #[.int .i64 j, .slice a1 8 c1, .slice a2 8 c2, .slice a3 8 c3]) rfl rfl (by kernel_rfl) (by kernel_rfl) (by kernel_rfl) (fun _ _ _ h => h) (.inl ⟨by rfl, fun W' hS => (by have c0 := hS.cell (i := 0) rfl; have c1 := hS.cell (i := 1) rfl; have c2 := hS.cell (i := 2) rfl; have c3 := hS.cell (i := 3) rfl; go_simp)⟩) K.out ?_
      simp only [Act.put, List.setIfInBounds_toArray, List.set_cons_zero, List.set_cons_succ]
      refine Rg.take_ 3 (some 17) (.int .i64 z) rfl rfl (by kernel_rfl) (by kernel_rfl) (by kernel_rfl) (fun _ _ _ h => h) (.inl ⟨by rfl, fun W' hS => (by go_simp)⟩) K.out ?_
      simp only [Act.put, List.setIfInBounds_toArray, List.set_cons_zero, List.set_cons_succ]
      refine Rg.ready_one (i := 4) (by kernel_rfl) rfl rfl ?_
      refine Rg.call_at (some 18) (f := 74) (args := #[.agg #[.int .i64 j, .slice a1 8 c1, .slice a2 8 c2, .slice a3 8 c3], .int .i64 z]) rfl (by go_simp) ((SO.out z _ GD.out).mono ?_)
      rintro e w7 ⟨p, rfl, hg, ho⟩
      have K7 := Lib.hid (K.out.kept hg (by simp))
      have G7 := Lib.hid (grown_trans GD.out hg)
      have P7 := Lib.hid ho.bl
      obtain ⟨az, cz, ez, -, -, -⟩ := ho.bl
      subst ez
      clear hg ho
      refine ⟨_, rfl, K7.out, ?_⟩
      simp only [Act.put, List.setIfInBounds_toArray, List.set_cons_zero, List.set_cons_succ]
      refine Rg.ready_one (i := 5) (by kernel_rfl) rfl rfl ?_
      refine Rg.call_at (some 19) (f := 95) (args := #[.int .i64 j, .slice az (ofM v f z).length cz]) rfl (by go_simp) ((specBears j _ _ _ P7.out).mono ?_)
      rintro e w8 ⟨rfl, hg⟩
      have K8 := Lib.hid (K7.out.kept hg (by simp))
      have G8 := Lib.hid (grown_trans G7.out hg)
      clear hg P7 G7 K7 GD
      refine ⟨_, rfl, K8.out, ?_⟩
      simp only [Act.put, List.setIfInBounds_toArray, List.set_cons_zero, List.set_cons_succ]
      refine wpAnyH_done (by kernel_rfl) ?_ _
      obtain ⟨q, hq⟩ : ∃ q, bearsM j (ofM v f z) = q := ⟨_, rfl⟩
      rw [hq]
      have QB := Lib.hid hq
      clear hq K
      cases q with
      | false =>
        have NX : Hid (∀ y, z - 1 < y → bearsM j (ofM v f y) = false) := Lib.hid (fun y hy => by
          by_cases e : y = z
          · subst e; exact QB.out
          · exact NO.out y (by omega))
        go_wp2_with fail
        go_roundw
        case rel => exact ⟨z - 1, by omega, by omega, by first | rfl | go_num, NX.out, G8.out, K8.out⟩
        case measure => simp [intOf]; omega
      | true =>
        have BS : Hid (Best j v f z) := Lib.hid (.inl ⟨by omega, QB.out, NO.out⟩)
        have K9 : Hid (Blk w8.drew g 45 [.int .i64 j, .slice a1 8 c1, .slice a2 8 c2, .slice a3 8 c3]) := Lib.hid K8.out
        have G9 := Lib.hid (grown_drew G8.out)
        clear K8 G8
        go_upto_region 5 with fail
        refine wp_region_held (S := fun W => Blk W g 45 [.int .i64 j, .slice a1 8 c1, .slice a2 8 c2, .slice a3 8 c3]) (by kernel_rfl) ?_
        refine Rg.take_ 0 (some 21) (.pointer (some ⟨g, 0, none⟩)) rfl rfl (by kernel_rfl) (by kernel_rfl) (by kernel_rfl) (fun _ _ _ h => h) (.inl ⟨by rfl, fun W' hS => (by go_simp)⟩) K9.out ?_
        simp only [Act.put, List.setIfInBounds_toArray, List.set_cons_zero, List.set_cons_succ]
        refine Rg.take_ 1 (some 22) (.int .i64 j) rfl rfl (by kernel_rfl) (by kernel_rfl) (by kernel_rfl) (fun _ _ _ h => h) (.inl ⟨by rfl, fun W' hS => (by have c0 := hS.cell (i := 0) rfl; go_simp)⟩) K9.out ?_
        simp only [Act.put, List.setIfInBounds_toArray, List.set_cons_zero, List.set_cons_succ]
        refine Rg.take_ 2 (some 23) (.pointer (some ⟨g, 1, none⟩)) rfl rfl (by kernel_rfl) (by kernel_rfl) (by kernel_rfl) (fun _ _ _ h => h) (.inl ⟨by rfl, fun W' hS => (by go_simp)⟩) K9.out ?_
        simp only [Act.put, List.setIfInBounds_toArray, List.set_cons_zero, List.set_cons_succ]
        refine Rg.take_ 3 (some 24) (.slice a1 8 c1) rfl rfl (by kernel_rfl) (by kernel_rfl) (by kernel_rfl) (fun _ _ _ h => h) (.inl ⟨by rfl, fun W' hS => (by have c0 := hS.cell (i := 1) rfl; go_simp)⟩) K9.out ?_
        simp only [Act.put, List.setIfInBounds_toArray, List.set_cons_zero, List.set_cons_succ]
        refine Rg.take_ 4 (some 25) (.agg #[.int .i64 j, .slice a1 8 c1, .slice a2 8 c2, .slice a3 8 c3]) rfl rfl (by kernel_rfl) (by kernel_rfl) (by kernel_rfl) (fun _ _ _ h => h) (.inl ⟨by rfl, fun W' hS => (by have c0 := hS.cell (i := 0) rfl; have c1 := hS.cell (i := 1) rfl; have c2 := hS.cell (i := 2) rfl; have c3 := hS.cell (i := 3) rfl; go_simp)⟩) K9.out ?_
        simp only [Act.put, List.setIfInBounds_toArray, List.set_cons_zero, List.set_cons_succ]
        refine Rg.take_ 5 (some 26) (.int .i64 z) rfl rfl (by kernel_rfl) (by kernel_rfl) (by kernel_rfl) (fun _ _ _ h => h) (.inl ⟨by rfl, fun W' hS => (by go_simp)⟩) K9.out ?_
        simp only [Act.put, List.setIfInBounds_toArray, List.set_cons_zero, List.set_cons_succ]
        refine Rg.ready_one (i := 6) (by kernel_rfl) rfl rfl ?_
        refine Rg.call_at (some 27) (f := 74) (args := #[.agg #[.int .i64 j, .slice a1 8 c1, .slice a2 8 c2, .slice a3 8 c3], .int .i64 z]) rfl (by go_simp) ((SO.out z _ G9.out).mono ?_)
        rintro e wa ⟨p, rfl, hg, ho⟩
        have Ka := Lib.hid (K9.out.kept hg (by simp))
        have Ga := Lib.hid (grown_trans G9.out hg)
        have Pa := Lib.hid ho.bl
        obtain ⟨ay, cy, ey, -, -, -⟩ := ho.bl
        subst ey
        clear hg ho
        refine ⟨_, rfl, Ka.out, ?_⟩
        simp only [Act.put, List.setIfInBounds_toArray, List.set_cons_zero, List.set_cons_succ]
        refine Rg.ready_one (i := 7) (by kernel_rfl) rfl rfl ?_
        refine Rg.call_at (some 28) (f := 96) (args := #[.int .i64 j, .slice a1 8 c1, .slice ay (ofM v f z).length cy]) rfl (by go_simp) ((specRead HJ.out _ _ a (ofM v f z) _ (U.out.grown Ga.out) Pa.out OK.out.sh (ofM_len _ _ _)).mono ?_)
        rintro e wb ⟨l, b, p, rfl, hg, ho, hrt⟩
        have Kb := Lib.hid (Ka.out.kept hg (by simp))
        have Gb := Lib.hid (grown_trans Ga.out hg)
        have Ob := Lib.hid (ho.lower Ga.out.size)
        have RT := Lib.hid hrt
        obtain ⟨ap, cp, ep, -, -, -⟩ := ho.sl
        subst ep
        clear hg ho hrt Pa Ga Ka
        refine ⟨_, rfl, Kb.out, ?_⟩
        simp only [Act.put, List.setIfInBounds_toArray, List.set_cons_zero, List.set_cons_succ]
        refine Rg.take_ 8 (some 20) (.tuple #[.slice ap l.length cp, .bool b]) rfl rfl (by kernel_rfl) (by kernel_rfl) (by kernel_rfl) (fun _ _ _ h => h) (.inl ⟨by rfl, fun W' hS => (by go_simp)⟩) Kb.out ?_
        simp only [Act.put, List.setIfInBounds_toArray, List.set_cons_zero, List.set_cons_succ]
        refine Rg.take_ 9 (some 29) (.slice ap l.length cp) rfl rfl (by kernel_rfl) (by kernel_rfl) (by kernel_rfl) (fun _ _ _ h => h) (.inl ⟨by rfl, fun W' hS => (by go_simp)⟩) Kb.out ?_
        simp only [Act.put, List.setIfInBounds_toArray, List.set_cons_zero, List.set_cons_succ]
        refine Rg.take_ 10 (some 30) (.bool b) rfl rfl (by kernel_rfl) (by kernel_rfl) (by kernel_rfl) (fun _ _ _ h => h) (.inl ⟨by rfl, fun W' hS => (by go_simp)⟩) Kb.out ?_
        simp only [Act.put, List.setIfInBounds_toArray, List.set_cons_zero, List.set_cons_succ]
        refine Rg.take_ 11 (some 6) (.slice ap l.length cp) rfl rfl (by kernel_rfl) (by kernel_rfl) (by kernel_rfl) (fun _ _ _ h => h) (.inl ⟨by rfl, fun W' hS => (by go_simp)⟩) Kb.out ?_
        simp only [Act.put, List.setIfInBounds_toArray, List.set_cons_zero, List.set_cons_succ]
        refine Rg.take_ 12 (some 7) (.bool b) rfl rfl (by kernel_rfl) (by kernel_rfl) (by kernel_rfl) (fun _ _ _ h => h) (.inl ⟨by rfl, fun W' hS => (by go_simp)⟩) Kb.out ?_
        simp only [Act.put, List.setIfInBounds_toArray, List.set_cons_zero, List.set_cons_succ]
        refine wpAnyH_done (by kernel_rfl) ?_ _
        have FIN : Hid (SReadS' j a v f w (.returned (.tuple #[.slice ap l.length cp, .int .i64 z, .bool b])) wb) := Lib.hid (by
          rcases RT.out with ⟨h1, h2, h3, h4⟩ | ⟨h1, h2, h3⟩
          · exact ⟨l, z, b, _, .inl ⟨h1, OK.out, by omega, BS.out, h4⟩, rfl, Gb.out, Ob.out⟩
          · exact absurd ⟨OK.out.good QB.out, QB.out⟩ h3)
        go_wp2_with fail
        exact bodyPost_ret (v := .tuple #[.slice ap l.length cp, .int .i64 z, .bool b]) (by simp [results, Try.results76, go_sem]) rfl FIN.out
    · obtain rfl : z = 0 := by omega
      have BS : Hid (Best j v f 0) := Lib.hid (.inr ⟨rfl, fun y hy => NO.out y (by omega)⟩)
      have FIN : Hid (SReadS' j a v f w (.returned (.tuple #[.slice (some ⟨wr.heap.size, 0, none⟩) 0 0, .int .i64 0, .bool false])) (wr.alloc (.cells #[] 3))) := Lib.hid ⟨[], 0, false, _, .inr ⟨rfl, rfl, rfl, fun _ => BS.out⟩, rfl, grown_alloc G.out _, (Own.made wr wr.heap.size [] (Nat.le_refl _) (by simp)).lower G.out.size⟩
      go_wp2_with fail
      exact bodyPost_ret (v := .tuple #[.slice (some ⟨wr.heap.size, 0, none⟩) 0 0, .int .i64 0, .bool false]) (by simp [results, Try.results76, go_sem]) rfl FIN.out
end Go.Proofs.Ythglkgicckodaaa
