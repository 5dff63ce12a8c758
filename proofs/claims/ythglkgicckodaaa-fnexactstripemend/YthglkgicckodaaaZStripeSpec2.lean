/-
  What this claim wants of the texts of earlier chapters.
  Conditions: none.
-/
import Derived.Test.YthglkgicckodaaaZStripeSpec
namespace Go.Proofs.Ythglkgicckodaaa
open Go.RowKit Go.Shelf
set_option linter.unusedVariables false
set_option linter.unusedSimpArgs false
def OkAt (k : Nat) (a v : List Int) (f : List Bool) (i : Nat) : Prop := CleanAt a v f i ∧ (f.getD i false = true → Sp.Fit k (ofM v f (v.getD i 0)) a)
theorem inIsS {x a b : Int} {v : Bool} (h : (decide (a ≤ x) && decide (x ≤ b)) = v) (W : World) : Calls Try.prog 53 #[.int .i64 x, .int .i64 a, .int .i64 b] W fun e w' => e = .returned (.bool v) ∧ w' = W :=
  (specIn x a b W).mono fun e w' ⟨h1, h2⟩ => ⟨by rw [h1, h], h2.symm⟩
theorem Blk.draws {w : World} {g : Nat} {t : TypeId} {cs : List Value} (h : Blk w g t cs) (n : Nat) : Blk (w.drewN n) g t cs := h
structure HeldS (g b2 o2 b3 o3 m : Nat) (cs : List Value) (vv : Int) (t : Bool) (W : World) : Prop where
  blk : Blk W g 45 cs
  ver : W.cell? ⟨b2, o2 + m, none⟩ = some (.int .i64 vv)
  here : W.cell? ⟨b3, o3 + m, none⟩ = some (.bool t)
theorem HeldS.still {g b2 o2 b3 o3 m : Nat} {cs : List Value} {vv : Int} {t : Bool} {W W' : World} (h : HeldS g b2 o2 b3 o3 m cs vv t W) (hg : W.grownBy W' none) : HeldS g b2 o2 b3 o3 m cs vv t W' :=
  ⟨h.blk.kept hg (by simp), hg.cell h.ver (by simp), hg.cell h.here (by simp)⟩
theorem rds_cell {w : World} {b o : Nat} {l : List Int} (h : Rds w (some ⟨b, o, none⟩) l) {i : Nat} (hi : i < l.length) : w.cell? ⟨b, o + i, none⟩ = some (.int .i64 (l.getD i 0)) := by
  obtain ⟨b', o', e, hc⟩ := h.at_ hi
  injection e with e
  injection e with e1 e2
  subst e1 e2
  exact hc
theorem brds_cell {w : World} {b o : Nat} {l : List Bool} (h : BRds w (some ⟨b, o, none⟩) l) {i : Nat} (hi : i < l.length) : w.cell? ⟨b, o + i, none⟩ = some (.bool (l.getD i false)) := by
  obtain ⟨b', o', e, hc⟩ := h.at_ hi
  injection e with e
  injection e with e1 e2
  subst e1 e2
  exact hc
set_option maxHeartbeats 16000000 in
set_option maxRecDepth 40000 in
theorem specStripeOk (k : Int) (u x y : Value) (a v : List Int) (f : List Bool) (w : World) (hu : Sl w u a) (hx : Sl w x v) (hy : Bl w y f) (hal : a.length ≤ 1048576) : Calls Try.prog 57 #[.agg #[.int .i64 k, u, x, y]] w fun e w' => ∃ q, e = .returned (.bool q) ∧ (q = true ↔ StOk k a v f) ∧ w.grownBy w' none := by
  have U := Lib.hid hu
  have X := Lib.hid hx
  have Y := Lib.hid hy
  obtain ⟨a1, c1, e1, q1, q2, hr1⟩ := hu
  obtain ⟨a2, c2, e2, q3, q4, hr2⟩ := hx
  obtain ⟨a3, c3, e3, q5, q6, hr3⟩ := hy
  subst e1 e2 e3
  have R1 := Lib.hid hr1
  have R2 := Lib.hid hr2
  have R3 := Lib.hid hr3
  obtain ⟨l1, hl1⟩ : ∃ n, n = a.length := ⟨_, rfl⟩
  obtain ⟨l2, hl2⟩ : ∃ n, n = v.length := ⟨_, rfl⟩
  obtain ⟨l3, hl3⟩ : ∃ n, n = f.length := ⟨_, rfl⟩
  rw [← hl1] at U q1 ⊢
  rw [← hl2] at X q3 ⊢
  rw [← hl3] at Y q5 ⊢
  have NL1 := Lib.hid hl1
  have NL2 := Lib.hid hl2
  have NL3 := Lib.hid hl3
  unfold maxLen at q2 q4 q6
  clear hl1 hl2 hl3 hr1 hr2 hr3
  have K0 : Hid (Blk (w.alloc (.cells #[.int .i64 k, .slice a1 l1 c1, .slice a2 l2 c2, .slice a3 l3 c3] 45)) w.heap.size 45 [.int .i64 k, .slice a1 l1 c1, .slice a2 l2 c2, .slice a3 l3 c3]) := Lib.hid (heap_alloc_new _ _)
  have G0 := Lib.hid (World.grownBy_alloc w (.cells #[.int .i64 k, .slice a1 l1 c1, .slice a2 l2 c2, .slice a3 l3 c3] 45) none)
  have SV := Lib.hid (specVals _ _ a f _ (U.out.grown G0.out) (Y.out.grown G0.out) hal)
  go_enter Try.func57, Try.ntmps57
  go_upto_region 1 with fail
  generalize w.alloc (.cells #[.int .i64 k, .slice a1 l1 c1, .slice a2 l2 c2, .slice a3 l3 c3] 45) = W0 at *
  generalize w.heap.size = g at *
  have k0 := K0.out.cell (i := 0) rfl
  have k1 := K0.out.cell (i := 1) rfl
  have k2 := K0.out.cell (i := 2) rfl
  have k3 := K0.out.cell (i := 3) rfl
  rcases kind_cases k with ⟨j, rfl, hj⟩ | ⟨n1, n2⟩
  · have HJ := Lib.hid hj
    go_wp2_with fail
    refine (specKind j _).mono ?_
    rintro e w' ⟨rfl, rfl⟩
    rw [kindM_yes HJ.out]
    obtain ⟨q, hq⟩ : ∃ q, (shOk a && decide (f.length = 8)) = q := ⟨_, rfl⟩
    rw [hq] at SV
    have Q := Lib.hid hq
    clear hq hj
    go_wp2_with fail
    refine SV.out.mono ?_
    rintro e w' ⟨rfl, rfl⟩
    clear SV
    cases q with
    | false =>
      have NO : Hid (¬ StOk j a v f) := Lib.hid (fun h => by have := Q.out; rw [h.sh, decide_eq_true h.f8] at this; cases this)
      go_wp2_with fail
      go_ret
      exact ⟨false, rfl, ⟨fun h => (by cases h), fun h => absurd h NO.out⟩, G0.out⟩
    | true =>
      have QQ : Hid (shOk a = true ∧ f.length = 8) := Lib.hid (by have := Q.out; rw [Bool.and_eq_true, decide_eq_true_eq] at this; exact this)
      by_cases h8 : l2 = 8
      · subst h8
        have A8 := (shOk_row.1 QQ.out.1).1
        obtain rfl : l1 = 8 := NL1.out.trans A8
        obtain rfl : l3 = 8 := NL3.out.trans QQ.out.2
        have RA := Lib.hid (shOk_row.1 QQ.out.1)
        have V8 : Hid (v.length = 8) := Lib.hid NL2.out.symm
        have SO := Lib.hid (fun (n : Int) (W : World) (h : w.grownBy W none) => specOf j n _ _ _ a v f W (U.out.grown h) (X.out.grown h) (Y.out.grown h) V8.out QQ.out.2)
        obtain ⟨b1, o1, rfl, -⟩ := R1.out.at_ (k := 0) (by rw [A8]; omega)
        obtain ⟨b2, o2, rfl, -⟩ := R2.out.at_ (k := 0) (by rw [V8.out]; omega)
        obtain ⟨b3, o3, rfl, -⟩ := R3.out.at_ (k := 0) (by rw [QQ.out.2]; omega)
        clear A8 k0 k1 k3
        go_wp2_with fail
        clear k2
        go_loopw [3] (fun i wr => ∃ m : Nat, m ≤ 8 ∧ i = .int .i64 m ∧ (∀ i, i < m → OkAt j a v f i) ∧ w.grownBy wr none ∧ Blk wr g 45 [.int .i64 j, .slice (some ⟨b1, o1, none⟩) 8 c1, .slice (some ⟨b2, o2, none⟩) 8 c2, .slice (some ⟨b3, o3, none⟩) 8 c3]) (fun i _ => 8 - (intOf i).toNat)
        case atStart => exact ⟨0, by omega, rfl, fun i hi => by omega, G0.out, K0.out⟩
        case round =>
          obtain ⟨m, hm, rfl, hok, hg, hk⟩ := hrel
          have OKM := Lib.hid hok
          have G := Lib.hid hg
          have K := Lib.hid hk
          clear hok hg hk G0 K0
          have k0 := K.out.cell (i := 0) rfl
          have k1 := K.out.cell (i := 1) rfl
          have k2 := K.out.cell (i := 2) rfl
          have k3 := K.out.cell (i := 3) rfl
          by_cases hlt : m < 8
          · have hlt' : (m : Int) < 8 := by omega
            have x1 := rds_cell (R1.out.grown G.out) (i := m) (by rw [RA.out.1]; exact hlt)
            have x2 := rds_cell (R2.out.grown G.out) (i := m) (by rw [V8.out]; exact hlt)
            have x3 := brds_cell (R3.out.grown G.out) (i := m) (by rw [QQ.out.2]; exact hlt)
            have NX : Hid (OkAt j a v f m → ∀ i, i < m + 1 → OkAt j a v f i) := Lib.hid (fun h i hi => by
              by_cases e : i = m
              · subst e; exact h
              · exact OKM.out i (by omega))
            have NO : Hid (¬ OkAt j a v f m → ¬ StOk j a v f) := Lib.hid (fun h hs => h ⟨hs.clean m hlt, by simpa using hs.fit m hlt⟩)
            obtain ⟨av, hav⟩ : ∃ x, a.getD m 0 = x := ⟨_, rfl⟩
            obtain ⟨vv, hvv⟩ : ∃ x, v.getD m 0 = x := ⟨_, rfl⟩
            obtain ⟨t, ht⟩ : ∃ x, f.getD m false = x := ⟨_, rfl⟩
            have AV := Lib.hid hav
            have VV := Lib.hid hvv
            have HT := Lib.hid ht
            rw [hav] at x1
            rw [hvv] at x2
            rw [ht] at x3
            clear hav hvv ht
            cases t with
            | false =>
              by_cases ha : av = 0
              · subst ha
                by_cases hv : vv = 0
                · subst hv
                  have OA := Lib.hid (NX.out ⟨⟨fun h => (by rw [HT.out] at h; cases h), fun _ => ⟨AV.out, VV.out⟩⟩, fun h => (by rw [HT.out] at h; cases h)⟩)
                  go_wp2_with fail
                  go_quiet (fail)
                  go_wp2_with fail
                  go_roundw
                  case rel => exact ⟨m + 1, by omega, by go_num, OA.out, grown_draws G.out _, K.out.draws _⟩
                  case measure => simp [intOf]; omega
                · have hb : (vv != 0) = true := by rw [bne_iff_ne]; exact hv
                  have CA : Hid (¬ OkAt j a v f m) := Lib.hid (fun h => hv (by have := (h.1.2 HT.out).2; rwa [VV.out] at this))
                  clear hv
                  go_wp2_with fail
                  go_quiet (fail)
                  go_wp2_with fail
                  go_ret
                  exact ⟨false, rfl, ⟨fun h => (by cases h), fun h => absurd h (NO.out CA.out)⟩, grown_draws G.out _⟩
              · have hb : (av != 0) = true := by rw [bne_iff_ne]; exact ha
                have CA : Hid (¬ OkAt j a v f m) := Lib.hid (fun h => ha (by have := (h.1.2 HT.out).1; rwa [AV.out] at this))
                clear ha
                go_wp2_with fail
                go_quiet (fail)
                go_wp2_with fail
                go_ret
                exact ⟨false, rfl, ⟨fun h => (by cases h), fun h => absurd h (NO.out CA.out)⟩, grown_draws G.out _⟩
            | true =>
              by_cases hin : 1 ≤ vv ∧ vv ≤ 99
              · have SI : Hid (∀ W : World, Calls Try.prog 53 #[.int .i64 vv, .int .i64 1, .int .i64 99] W fun e w' => e = .returned (.bool true) ∧ w' = W) := Lib.hid (inIsS (by rw [decide_eq_true hin.1, decide_eq_true hin.2]; rfl))
                have CM : Hid (CleanAt a v f m) := Lib.hid ⟨fun _ => by rw [VV.out]; exact hin, fun h => by rw [HT.out] at h; cases h⟩
                clear hin
                by_cases hf : Sp.Fit j (ofM v f vv) a
                · have OA := Lib.hid (NX.out ⟨CM.out, fun _ => by rw [VV.out]; exact hf⟩)
                  have SF : Hid (∀ (z : Value) (W : World), w.grownBy W none → Bl W z (ofM v f vv) → Calls Try.prog 73 #[.int .i64 j, .slice (some ⟨b1, o1, none⟩) 8 c1, z] W fun e w' => e = .returned (.bool true) ∧ W.grownBy w' none) := Lib.hid (fun z W h hz => (specL4Fits HJ.out _ z a _ W (U.out.grown h) hz RA.out (ofM_len _ _ _)).mono fun e w' ⟨q, h1, h2, h3⟩ => ⟨by rw [h1, h2.2 hf], h3⟩)
                  clear hf x1
                  go_upto_region 6 with fail
                  have H0 : Hid (HeldS g b2 o2 b3 o3 m [.int .i64 j, .slice (some ⟨b1, o1, none⟩) 8 c1, .slice (some ⟨b2, o2, none⟩) 8 c2, .slice (some ⟨b3, o3, none⟩) 8 c3] vv true wr.drew) := Lib.hid ⟨K.out, x2, x3⟩
                  have GD := Lib.hid (grown_drew G.out)
                  clear k0 k1 k2 k3 x2 x3
                  refine wp_region_held (S := HeldS g b2 o2 b3 o3 m [.int .i64 j, .slice (some ⟨b1, o1, none⟩) 8 c1, .slice (some ⟨b2, o2, none⟩) 8 c2, .slice (some ⟨b3, o3, none⟩) 8 c3] vv true) (by kernel_rfl) ?_
                  refine Rg.take_ 0 (some 26) (.pointer (some ⟨g, 3, none⟩)) rfl rfl (by kernel_rfl) (by kernel_rfl) (by kernel_rfl) (fun _ _ _ h => h) (.inl ⟨by rfl, fun W' hS => (by go_simp)⟩) H0.out ?_
                  simp only [Act.put, List.setIfInBounds_toArray, List.set_cons_zero, List.set_cons_succ]
                  refine Rg.take_ 1 (some 27) (.slice (some ⟨b3, o3, none⟩) 8 c3) rfl rfl (by kernel_rfl) (by kernel_rfl) (by kernel_rfl) (fun _ _ _ h => h) (.inl ⟨by rfl, fun W' hS => (by have c := hS.blk.cell (i := 3) rfl; go_simp)⟩) H0.out ?_
                  simp only [Act.put, List.setIfInBounds_toArray, List.set_cons_zero, List.set_cons_succ]
                  refine Rg.take_ 2 (some 28) (.int .i64 m) rfl rfl (by kernel_rfl) (by kernel_rfl) (by kernel_rfl) (fun _ _ _ h => h) (.inl ⟨by rfl, fun W' hS => (by go_simp)⟩) H0.out ?_
                  simp only [Act.put, List.setIfInBounds_toArray, List.set_cons_zero, List.set_cons_succ]
                  refine Rg.take_ 3 (some 29) (.pointer (some ⟨b3, o3 + m, none⟩)) rfl rfl (by kernel_rfl) (by kernel_rfl) (by kernel_rfl) (fun _ _ _ h => h) (.inl ⟨by rfl, fun W' hS => (by go_simp)⟩) H0.out ?_
                  simp only [Act.put, List.setIfInBounds_toArray, List.set_cons_zero, List.set_cons_succ]
                  refine Rg.take_ 4 (some 30) (.bool true) rfl rfl (by kernel_rfl) (by kernel_rfl) (by kernel_rfl) (fun _ _ _ h => h) (.inl ⟨by rfl, fun W' hS => (by have c := hS.here; go_simp)⟩) H0.out ?_
                  simp only [Act.put, List.setIfInBounds_toArray, List.set_cons_zero, List.set_cons_succ]
                  refine Rg.take_ 5 (some 31) (.bool false) rfl rfl (by kernel_rfl) (by kernel_rfl) (by kernel_rfl) (fun _ _ _ h => h) (.inl ⟨by rfl, fun W' hS => (by go_simp)⟩) H0.out ?_
                  simp only [Act.put, List.setIfInBounds_toArray, List.set_cons_zero, List.set_cons_succ]
                  refine Rg.take_ 6 (some 32) (.bool false) rfl rfl (by kernel_rfl) (by kernel_rfl) (by kernel_rfl) (fun _ _ _ h => h) (.inl ⟨by rfl, fun W' hS => (by go_simp)⟩) H0.out ?_
                  simp only [Act.put, List.setIfInBounds_toArray, List.set_cons_zero, List.set_cons_succ]
                  refine Rg.take_ 7 (some 33) undef rfl rfl (by kernel_rfl) (by kernel_rfl) (by kernel_rfl) (fun _ _ _ h => h) (.inr ⟨by rfl, rfl⟩) H0.out ?_
                  simp only [Act.put, List.setIfInBounds_toArray, List.set_cons_zero, List.set_cons_succ]
                  refine Rg.take_ 8 (some 34) undef rfl rfl (by kernel_rfl) (by kernel_rfl) (by kernel_rfl) (fun _ _ _ h => h) (.inr ⟨by rfl, rfl⟩) H0.out ?_
                  simp only [Act.put, List.setIfInBounds_toArray, List.set_cons_zero, List.set_cons_succ]
                  refine Rg.take_ 9 (some 35) undef rfl rfl (by kernel_rfl) (by kernel_rfl) (by kernel_rfl) (fun _ _ _ h => h) (.inr ⟨by rfl, rfl⟩) H0.out ?_
                  simp only [Act.put, List.setIfInBounds_toArray, List.set_cons_zero, List.set_cons_succ]
                  refine Rg.take_ 10 (some 36) undef rfl rfl (by kernel_rfl) (by kernel_rfl) (by kernel_rfl) (fun _ _ _ h => h) (.inr ⟨by rfl, rfl⟩) H0.out ?_
                  simp only [Act.put, List.setIfInBounds_toArray, List.set_cons_zero, List.set_cons_succ]
                  refine Rg.take_ 11 (some 37) undef rfl rfl (by kernel_rfl) (by kernel_rfl) (by kernel_rfl) (fun _ _ _ h => h) (.inr ⟨by rfl, rfl⟩) H0.out ?_
                  simp only [Act.put, List.setIfInBounds_toArray, List.set_cons_zero, List.set_cons_succ]
                  refine Rg.take_ 12 (some 38) undef rfl rfl (by kernel_rfl) (by kernel_rfl) (by kernel_rfl) (fun _ _ _ h => h) (.inr ⟨by rfl, rfl⟩) H0.out ?_
                  simp only [Act.put, List.setIfInBounds_toArray, List.set_cons_zero, List.set_cons_succ]
                  refine Rg.take_ 13 (some 39) undef rfl rfl (by kernel_rfl) (by kernel_rfl) (by kernel_rfl) (fun _ _ _ h => h) (.inr ⟨by rfl, rfl⟩) H0.out ?_
                  simp only [Act.put, List.setIfInBounds_toArray, List.set_cons_zero, List.set_cons_succ]
                  refine Rg.take_ 14 (some 40) undef rfl rfl (by kernel_rfl) (by kernel_rfl) (by kernel_rfl) (fun _ _ _ h => h) (.inr ⟨by rfl, rfl⟩) H0.out ?_
                  simp only [Act.put, List.setIfInBounds_toArray, List.set_cons_zero, List.set_cons_succ]
                  refine Rg.take_ 15 (some 41) undef rfl rfl (by kernel_rfl) (by kernel_rfl) (by kernel_rfl) (fun _ _ _ h => h) (.inr ⟨by rfl, rfl⟩) H0.out ?_
                  simp only [Act.put, List.setIfInBounds_toArray, List.set_cons_zero, List.set_cons_succ]
                  refine Rg.take_ 16 (some 42) undef rfl rfl (by kernel_rfl) (by kernel_rfl) (by kernel_rfl) (fun _ _ _ h => h) (.inr ⟨by rfl, rfl⟩) H0.out ?_
                  simp only [Act.put, List.setIfInBounds_toArray, List.set_cons_zero, List.set_cons_succ]
                  refine Rg.take_ 17 (some 43) undef rfl rfl (by kernel_rfl) (by kernel_rfl) (by kernel_rfl) (fun _ _ _ h => h) (.inr ⟨by rfl, rfl⟩) H0.out ?_
                  simp only [Act.put, List.setIfInBounds_toArray, List.set_cons_zero, List.set_cons_succ]
                  refine Rg.take_ 18 (some 44) undef rfl rfl (by kernel_rfl) (by kernel_rfl) (by kernel_rfl) (fun _ _ _ h => h) (.inr ⟨by rfl, rfl⟩) H0.out ?_
                  simp only [Act.put, List.setIfInBounds_toArray, List.set_cons_zero, List.set_cons_succ]
                  refine Rg.take_ 19 (some 45) undef rfl rfl (by kernel_rfl) (by kernel_rfl) (by kernel_rfl) (fun _ _ _ h => h) (.inr ⟨by rfl, rfl⟩) H0.out ?_
                  simp only [Act.put, List.setIfInBounds_toArray, List.set_cons_zero, List.set_cons_succ]
                  refine Rg.take_ 20 (some 46) undef rfl rfl (by kernel_rfl) (by kernel_rfl) (by kernel_rfl) (fun _ _ _ h => h) (.inr ⟨by rfl, rfl⟩) H0.out ?_
                  simp only [Act.put, List.setIfInBounds_toArray, List.set_cons_zero, List.set_cons_succ]
                  refine Rg.take_ 21 (some 47) (.bool false) rfl rfl (by kernel_rfl) (by kernel_rfl) (by kernel_rfl) (fun _ _ _ h => h) (.inl ⟨by rfl, fun W' hS => (by go_simp)⟩) H0.out ?_
                  simp only [Act.put, List.setIfInBounds_toArray, List.set_cons_zero, List.set_cons_succ]
                  refine Rg.take_ 22 (some 48) (.bool false) rfl rfl (by kernel_rfl) (by kernel_rfl) (by kernel_rfl) (fun _ _ _ h => h) (.inl ⟨by rfl, fun W' hS => (by go_simp)⟩) H0.out ?_
                  simp only [Act.put, List.setIfInBounds_toArray, List.set_cons_zero, List.set_cons_succ]
                  refine Rg.take_ 23 (some 49) (.pointer (some ⟨g, 3, none⟩)) rfl rfl (by kernel_rfl) (by kernel_rfl) (by kernel_rfl) (fun _ _ _ h => h) (.inl ⟨by rfl, fun W' hS => (by go_simp)⟩) H0.out ?_
                  simp only [Act.put, List.setIfInBounds_toArray, List.set_cons_zero, List.set_cons_succ]
                  refine Rg.take_ 24 (some 50) (.slice (some ⟨b3, o3, none⟩) 8 c3) rfl rfl (by kernel_rfl) (by kernel_rfl) (by kernel_rfl) (fun _ _ _ h => h) (.inl ⟨by rfl, fun W' hS => (by have c := hS.blk.cell (i := 3) rfl; go_simp)⟩) H0.out ?_
                  simp only [Act.put, List.setIfInBounds_toArray, List.set_cons_zero, List.set_cons_succ]
                  refine Rg.take_ 25 (some 51) (.int .i64 m) rfl rfl (by kernel_rfl) (by kernel_rfl) (by kernel_rfl) (fun _ _ _ h => h) (.inl ⟨by rfl, fun W' hS => (by go_simp)⟩) H0.out ?_
                  simp only [Act.put, List.setIfInBounds_toArray, List.set_cons_zero, List.set_cons_succ]
                  refine Rg.take_ 26 (some 52) (.pointer (some ⟨b3, o3 + m, none⟩)) rfl rfl (by kernel_rfl) (by kernel_rfl) (by kernel_rfl) (fun _ _ _ h => h) (.inl ⟨by rfl, fun W' hS => (by go_simp)⟩) H0.out ?_
                  simp only [Act.put, List.setIfInBounds_toArray, List.set_cons_zero, List.set_cons_succ]
                  refine Rg.take_ 27 (some 53) (.bool true) rfl rfl (by kernel_rfl) (by kernel_rfl) (by kernel_rfl) (fun _ _ _ h => h) (.inl ⟨by rfl, fun W' hS => (by have c := hS.here; go_simp)⟩) H0.out ?_
                  simp only [Act.put, List.setIfInBounds_toArray, List.set_cons_zero, List.set_cons_succ]
                  refine Rg.take_ 28 (some 54) (.bool true) rfl rfl (by kernel_rfl) (by kernel_rfl) (by kernel_rfl) (fun _ _ _ h => h) (.inl ⟨by rfl, fun W' hS => (by go_simp)⟩) H0.out ?_
                  simp only [Act.put, List.setIfInBounds_toArray, List.set_cons_zero, List.set_cons_succ]
                  refine Rg.take_ 29 (some 55) (.pointer (some ⟨g, 2, none⟩)) rfl rfl (by kernel_rfl) (by kernel_rfl) (by kernel_rfl) (fun _ _ _ h => h) (.inl ⟨by rfl, fun W' hS => (by go_simp)⟩) H0.out ?_
                  simp only [Act.put, List.setIfInBounds_toArray, List.set_cons_zero, List.set_cons_succ]
                  refine Rg.take_ 30 (some 56) (.slice (some ⟨b2, o2, none⟩) 8 c2) rfl rfl (by kernel_rfl) (by kernel_rfl) (by kernel_rfl) (fun _ _ _ h => h) (.inl ⟨by rfl, fun W' hS => (by have c := hS.blk.cell (i := 2) rfl; go_simp)⟩) H0.out ?_
                  simp only [Act.put, List.setIfInBounds_toArray, List.set_cons_zero, List.set_cons_succ]
                  refine Rg.take_ 31 (some 57) (.int .i64 m) rfl rfl (by kernel_rfl) (by kernel_rfl) (by kernel_rfl) (fun _ _ _ h => h) (.inl ⟨by rfl, fun W' hS => (by go_simp)⟩) H0.out ?_
                  simp only [Act.put, List.setIfInBounds_toArray, List.set_cons_zero, List.set_cons_succ]
                  refine Rg.take_ 32 (some 58) (.pointer (some ⟨b2, o2 + m, none⟩)) rfl rfl (by kernel_rfl) (by kernel_rfl) (by kernel_rfl) (fun _ _ _ h => h) (.inl ⟨by rfl, fun W' hS => (by go_simp)⟩) H0.out ?_
                  simp only [Act.put, List.setIfInBounds_toArray, List.set_cons_zero, List.set_cons_succ]
                  refine Rg.take_ 33 (some 59) (.int .i64 vv) rfl rfl (by kernel_rfl) (by kernel_rfl) (by kernel_rfl) (fun _ _ _ h => h) (.inl ⟨by rfl, fun W' hS => (by have c := hS.ver; go_simp)⟩) H0.out ?_
                  simp only [Act.put, List.setIfInBounds_toArray, List.set_cons_zero, List.set_cons_succ]
                  refine Rg.ready_one (i := 34) (by kernel_rfl) rfl rfl ?_
                  refine Rg.call_at (some 60) (f := 53) (args := #[.int .i64 vv, .int .i64 1, .int .i64 99]) rfl (by go_simp) ((SI.out _).mono ?_)
                  rintro e w7 ⟨rfl, rfl⟩
                  refine ⟨_, rfl, H0.out, ?_⟩
                  simp only [Act.put, List.setIfInBounds_toArray, List.set_cons_zero, List.set_cons_succ]
                  refine Rg.take_ 35 (some 61) (.bool false) rfl rfl (by kernel_rfl) (by kernel_rfl) (by kernel_rfl) (fun _ _ _ h => h) (.inl ⟨by rfl, fun W' hS => (by go_simp)⟩) H0.out ?_
                  simp only [Act.put, List.setIfInBounds_toArray, List.set_cons_zero, List.set_cons_succ]
                  refine Rg.take_ 36 (some 62) (.bool false) rfl rfl (by kernel_rfl) (by kernel_rfl) (by kernel_rfl) (fun _ _ _ h => h) (.inl ⟨by rfl, fun W' hS => (by go_simp)⟩) H0.out ?_
                  simp only [Act.put, List.setIfInBounds_toArray, List.set_cons_zero, List.set_cons_succ]
                  refine Rg.take_ 37 (some 63) (.pointer (some ⟨g, 0, none⟩)) rfl rfl (by kernel_rfl) (by kernel_rfl) (by kernel_rfl) (fun _ _ _ h => h) (.inl ⟨by rfl, fun W' hS => (by go_simp)⟩) H0.out ?_
                  simp only [Act.put, List.setIfInBounds_toArray, List.set_cons_zero, List.set_cons_succ]
                  refine Rg.take_ 38 (some 64) (.int .i64 j) rfl rfl (by kernel_rfl) (by kernel_rfl) (by kernel_rfl) (fun _ _ _ h => h) (.inl ⟨by rfl, fun W' hS => (by have c := hS.blk.cell (i := 0) rfl; go_simp)⟩) H0.out ?_
                  simp only [Act.put, List.setIfInBounds_toArray, List.set_cons_zero, List.set_cons_succ]
                  refine Rg.take_ 39 (some 65) (.pointer (some ⟨g, 1, none⟩)) rfl rfl (by kernel_rfl) (by kernel_rfl) (by kernel_rfl) (fun _ _ _ h => h) (.inl ⟨by rfl, fun W' hS => (by go_simp)⟩) H0.out ?_
                  simp only [Act.put, List.setIfInBounds_toArray, List.set_cons_zero, List.set_cons_succ]
                  refine Rg.take_ 40 (some 66) (.slice (some ⟨b1, o1, none⟩) 8 c1) rfl rfl (by kernel_rfl) (by kernel_rfl) (by kernel_rfl) (fun _ _ _ h => h) (.inl ⟨by rfl, fun W' hS => (by have c := hS.blk.cell (i := 1) rfl; go_simp)⟩) H0.out ?_
                  simp only [Act.put, List.setIfInBounds_toArray, List.set_cons_zero, List.set_cons_succ]
                  refine Rg.take_ 41 (some 67) (.agg #[.int .i64 j, .slice (some ⟨b1, o1, none⟩) 8 c1, .slice (some ⟨b2, o2, none⟩) 8 c2, .slice (some ⟨b3, o3, none⟩) 8 c3]) rfl rfl (by kernel_rfl) (by kernel_rfl) (by kernel_rfl) (fun _ _ _ h => h) (.inl ⟨by rfl, fun W' hS => (by have c0 := hS.blk.cell (i := 0) rfl; have c1 := hS.blk.cell (i := 1) rfl; have c2 := hS.blk.cell (i := 2) rfl; have c3 := hS.blk.cell (i := 3) rfl; go_simp)⟩) H0.out ?_
                  simp only [Act.put, List.setIfInBounds_toArray, List.set_cons_zero, List.set_cons_succ]
                  refine Rg.take_ 42 (some 68) (.pointer (some ⟨g, 2, none⟩)) rfl rfl (by kernel_rfl) (by kernel_rfl) (by kernel_rfl) (fun _ _ _ h => h) (.inl ⟨by rfl, fun W' hS => (by go_simp)⟩) H0.out ?_
                  simp only [Act.put, List.setIfInBounds_toArray, List.set_cons_zero, List.set_cons_succ]
                  refine Rg.take_ 43 (some 69) (.slice (some ⟨b2, o2, none⟩) 8 c2) rfl rfl (by kernel_rfl) (by kernel_rfl) (by kernel_rfl) (fun _ _ _ h => h) (.inl ⟨by rfl, fun W' hS => (by have c := hS.blk.cell (i := 2) rfl; go_simp)⟩) H0.out ?_
                  simp only [Act.put, List.setIfInBounds_toArray, List.set_cons_zero, List.set_cons_succ]
                  refine Rg.take_ 44 (some 70) (.int .i64 m) rfl rfl (by kernel_rfl) (by kernel_rfl) (by kernel_rfl) (fun _ _ _ h => h) (.inl ⟨by rfl, fun W' hS => (by go_simp)⟩) H0.out ?_
                  simp only [Act.put, List.setIfInBounds_toArray, List.set_cons_zero, List.set_cons_succ]
                  refine Rg.take_ 45 (some 71) (.pointer (some ⟨b2, o2 + m, none⟩)) rfl rfl (by kernel_rfl) (by kernel_rfl) (by kernel_rfl) (fun _ _ _ h => h) (.inl ⟨by rfl, fun W' hS => (by go_simp)⟩) H0.out ?_
                  simp only [Act.put, List.setIfInBounds_toArray, List.set_cons_zero, List.set_cons_succ]
                  refine Rg.take_ 46 (some 72) (.int .i64 vv) rfl rfl (by kernel_rfl) (by kernel_rfl) (by kernel_rfl) (fun _ _ _ h => h) (.inl ⟨by rfl, fun W' hS => (by have c := hS.ver; go_simp)⟩) H0.out ?_
                  simp only [Act.put, List.setIfInBounds_toArray, List.set_cons_zero, List.set_cons_succ]
                  refine Rg.ready_one (i := 47) (by kernel_rfl) rfl rfl ?_
                  refine Rg.call_at (some 73) (f := 74) (args := #[.agg #[.int .i64 j, .slice (some ⟨b1, o1, none⟩) 8 c1, .slice (some ⟨b2, o2, none⟩) 8 c2, .slice (some ⟨b3, o3, none⟩) 8 c3], .int .i64 vv]) rfl (by go_simp) ((SO.out vv _ GD.out).mono ?_)
                  rintro e w8 ⟨z, rfl, hg1, ho⟩
                  have H1 := Lib.hid (H0.out.still hg1)
                  have D1 := Lib.hid hg1
                  have Z1 := Lib.hid ho.bl
                  obtain ⟨az, cz, ez, -, -, -⟩ := ho.bl
                  subst ez
                  clear hg1 ho
                  refine ⟨_, rfl, H1.out, ?_⟩
                  simp only [Act.put, List.setIfInBounds_toArray, List.set_cons_zero, List.set_cons_succ]
                  refine Rg.ready_one (i := 48) (by kernel_rfl) rfl rfl ?_
                  refine Rg.call_at (some 74) (f := 73) (args := #[.int .i64 j, .slice (some ⟨b1, o1, none⟩) 8 c1, .slice az (ofM v f vv).length cz]) rfl (by go_simp) ((SF.out _ _ (grown_trans GD.out D1.out) Z1.out).mono ?_)
                  rintro e w9 ⟨rfl, hg2⟩
                  have H2 := Lib.hid (H1.out.still hg2)
                  have D2 := Lib.hid hg2
                  clear hg2
                  refine ⟨_, rfl, H2.out, ?_⟩
                  simp only [Act.put, List.setIfInBounds_toArray, List.set_cons_zero, List.set_cons_succ]
                  refine Rg.take_ 49 (some 75) (.bool false) rfl rfl (by kernel_rfl) (by kernel_rfl) (by kernel_rfl) (fun _ _ _ h => h) (.inl ⟨by rfl, fun W' hS => (by go_simp)⟩) H2.out ?_
                  simp only [Act.put, List.setIfInBounds_toArray, List.set_cons_zero, List.set_cons_succ]
                  refine Rg.take_ 50 (some 76) (.bool false) rfl rfl (by kernel_rfl) (by kernel_rfl) (by kernel_rfl) (fun _ _ _ h => h) (.inl ⟨by rfl, fun W' hS => (by go_simp)⟩) H2.out ?_
                  simp only [Act.put, List.setIfInBounds_toArray, List.set_cons_zero, List.set_cons_succ]
                  refine Rg.take_ 51 (some 77) (.bool false) rfl rfl (by kernel_rfl) (by kernel_rfl) (by kernel_rfl) (fun _ _ _ h => h) (.inl ⟨by rfl, fun W' hS => (by go_simp)⟩) H2.out ?_
                  simp only [Act.put, List.setIfInBounds_toArray, List.set_cons_zero, List.set_cons_succ]
                  refine Rg.take_ 52 (some 78) (.bool false) rfl rfl (by kernel_rfl) (by kernel_rfl) (by kernel_rfl) (fun _ _ _ h => h) (.inl ⟨by rfl, fun W' hS => (by go_simp)⟩) H2.out ?_
                  simp only [Act.put, List.setIfInBounds_toArray, List.set_cons_zero, List.set_cons_succ]
                  refine wpAnyH_done (by kernel_rfl) ?_ _
                  have GA : Hid (w.grownBy w9 none) := Lib.hid (grown_trans (grown_trans GD.out D1.out) D2.out)
                  have KA : Hid (Blk w9 g 45 [.int .i64 j, .slice (some ⟨b1, o1, none⟩) 8 c1, .slice (some ⟨b2, o2, none⟩) 8 c2, .slice (some ⟨b3, o3, none⟩) 8 c3]) := Lib.hid H2.out.blk
                  clear H0 H1 H2 D1 D2 GD Z1 SF
                  go_wp2_with fail
                  go_roundw
                  case rel => exact ⟨m + 1, by omega, by go_num, OA.out, GA.out, KA.out⟩
                  case measure => simp [intOf]; omega
                · have CA : Hid (¬ OkAt j a v f m) := Lib.hid (fun h => hf (by have := h.2 HT.out; rwa [VV.out] at this))
                  have SF : Hid (∀ (z : Value) (W : World), w.grownBy W none → Bl W z (ofM v f vv) → Calls Try.prog 73 #[.int .i64 j, .slice (some ⟨b1, o1, none⟩) 8 c1, z] W fun e w' => e = .returned (.bool false) ∧ W.grownBy w' none) := Lib.hid (fun z W h hz => (specL4Fits HJ.out _ z a _ W (U.out.grown h) hz RA.out (ofM_len _ _ _)).mono fun e w' ⟨q, h1, h2, h3⟩ => ⟨by rw [h1]; cases q with
                    | false => rfl
                    | true => exact absurd (h2.1 rfl) hf, h3⟩)
                  clear hf x1
                  go_upto_region 6 with fail
                  have H0 : Hid (HeldS g b2 o2 b3 o3 m [.int .i64 j, .slice (some ⟨b1, o1, none⟩) 8 c1, .slice (some ⟨b2, o2, none⟩) 8 c2, .slice (some ⟨b3, o3, none⟩) 8 c3] vv true wr.drew) := Lib.hid ⟨K.out, x2, x3⟩
                  have GD := Lib.hid (grown_drew G.out)
                  clear k0 k1 k2 k3 x2 x3
                  refine wp_region_held (S := HeldS g b2 o2 b3 o3 m [.int .i64 j, .slice (some ⟨b1, o1, none⟩) 8 c1, .slice (some ⟨b2, o2, none⟩) 8 c2, .slice (some ⟨b3, o3, none⟩) 8 c3] vv true) (by kernel_rfl) ?_
                  refine Rg.take_ 0 (some 26) (.pointer (some ⟨g, 3, none⟩)) rfl rfl (by kernel_rfl) (by kernel_rfl) (by kernel_rfl) (fun _ _ _ h => h) (.inl ⟨by rfl, fun W' hS => (by go_simp)⟩) H0.out ?_
                  simp only [Act.put, List.setIfInBounds_toArray, List.set_cons_zero, List.set_cons_succ]
                  refine Rg.take_ 1 (some 27) (.slice (some ⟨b3, o3, none⟩) 8 c3) rfl rfl (by kernel_rfl) (by kernel_rfl) (by kernel_rfl) (fun _ _ _ h => h) (.inl ⟨by rfl, fun W' hS => (by have c := hS.blk.cell (i := 3) rfl; go_simp)⟩) H0.out ?_
                  simp only [Act.put, List.setIfInBounds_toArray, List.set_cons_zero, List.set_cons_succ]
                  refine Rg.take_ 2 (some 28) (.int .i64 m) rfl rfl (by kernel_rfl) (by kernel_rfl) (by kernel_rfl) (fun _ _ _ h => h) (.inl ⟨by rfl, fun W' hS => (by go_simp)⟩) H0.out ?_
                  simp only [Act.put, List.setIfInBounds_toArray, List.set_cons_zero, List.set_cons_succ]
                  refine Rg.take_ 3 (some 29) (.pointer (some ⟨b3, o3 + m, none⟩)) rfl rfl (by kernel_rfl) (by kernel_rfl) (by kernel_rfl) (fun _ _ _ h => h) (.inl ⟨by rfl, fun W' hS => (by go_simp)⟩) H0.out ?_
                  simp only [Act.put, List.setIfInBounds_toArray, List.set_cons_zero, List.set_cons_succ]
                  refine Rg.take_ 4 (some 30) (.bool true) rfl rfl (by kernel_rfl) (by kernel_rfl) (by kernel_rfl) (fun _ _ _ h => h) (.inl ⟨by rfl, fun W' hS => (by have c := hS.here; go_simp)⟩) H0.out ?_
                  simp only [Act.put, List.setIfInBounds_toArray, List.set_cons_zero, List.set_cons_succ]
                  refine Rg.take_ 5 (some 31) (.bool false) rfl rfl (by kernel_rfl) (by kernel_rfl) (by kernel_rfl) (fun _ _ _ h => h) (.inl ⟨by rfl, fun W' hS => (by go_simp)⟩) H0.out ?_
                  simp only [Act.put, List.setIfInBounds_toArray, List.set_cons_zero, List.set_cons_succ]
                  refine Rg.take_ 6 (some 32) (.bool false) rfl rfl (by kernel_rfl) (by kernel_rfl) (by kernel_rfl) (fun _ _ _ h => h) (.inl ⟨by rfl, fun W' hS => (by go_simp)⟩) H0.out ?_
                  simp only [Act.put, List.setIfInBounds_toArray, List.set_cons_zero, List.set_cons_succ]
                  refine Rg.take_ 7 (some 33) undef rfl rfl (by kernel_rfl) (by kernel_rfl) (by kernel_rfl) (fun _ _ _ h => h) (.inr ⟨by rfl, rfl⟩) H0.out ?_
                  simp only [Act.put, List.setIfInBounds_toArray, List.set_cons_zero, List.set_cons_succ]
                  refine Rg.take_ 8 (some 34) undef rfl rfl (by kernel_rfl) (by kernel_rfl) (by kernel_rfl) (fun _ _ _ h => h) (.inr ⟨by rfl, rfl⟩) H0.out ?_
                  simp only [Act.put, List.setIfInBounds_toArray, List.set_cons_zero, List.set_cons_succ]
                  refine Rg.take_ 9 (some 35) undef rfl rfl (by kernel_rfl) (by kernel_rfl) (by kernel_rfl) (fun _ _ _ h => h) (.inr ⟨by rfl, rfl⟩) H0.out ?_
                  simp only [Act.put, List.setIfInBounds_toArray, List.set_cons_zero, List.set_cons_succ]
                  refine Rg.take_ 10 (some 36) undef rfl rfl (by kernel_rfl) (by kernel_rfl) (by kernel_rfl) (fun _ _ _ h => h) (.inr ⟨by rfl, rfl⟩) H0.out ?_
                  simp only [Act.put, List.setIfInBounds_toArray, List.set_cons_zero, List.set_cons_succ]
                  refine Rg.take_ 11 (some 37) undef rfl rfl (by kernel_rfl) (by kernel_rfl) (by kernel_rfl) (fun _ _ _ h => h) (.inr ⟨by rfl, rfl⟩) H0.out ?_
                  simp only [Act.put, List.setIfInBounds_toArray, List.set_cons_zero, List.set_cons_succ]
                  refine Rg.take_ 12 (some 38) undef rfl rfl (by kernel_rfl) (by kernel_rfl) (by kernel_rfl) (fun _ _ _ h => h) (.inr ⟨by rfl, rfl⟩) H0.out ?_
                  simp only [Act.put, List.setIfInBounds_toArray, List.set_cons_zero, List.set_cons_succ]
                  refine Rg.take_ 13 (some 39) undef rfl rfl (by kernel_rfl) (by kernel_rfl) (by kernel_rfl) (fun _ _ _ h => h) (.inr ⟨by rfl, rfl⟩) H0.out ?_
                  simp only [Act.put, List.setIfInBounds_toArray, List.set_cons_zero, List.set_cons_succ]
                  refine Rg.take_ 14 (some 40) undef rfl rfl (by kernel_rfl) (by kernel_rfl) (by kernel_rfl) (fun _ _ _ h => h) (.inr ⟨by rfl, rfl⟩) H0.out ?_
                  simp only [Act.put, List.setIfInBounds_toArray, List.set_cons_zero, List.set_cons_succ]
                  refine Rg.take_ 15 (some 41) undef rfl rfl (by kernel_rfl) (by kernel_rfl) (by kernel_rfl) (fun _ _ _ h => h) (.inr ⟨by rfl, rfl⟩) H0.out ?_
                  simp only [Act.put, List.setIfInBounds_toArray, List.set_cons_zero, List.set_cons_succ]
                  refine Rg.take_ 16 (some 42) undef rfl rfl (by kernel_rfl) (by kernel_rfl) (by kernel_rfl) (fun _ _ _ h => h) (.inr ⟨by rfl, rfl⟩) H0.out ?_
                  simp only [Act.put, List.setIfInBounds_toArray, List.set_cons_zero, List.set_cons_succ]
                  refine Rg.take_ 17 (some 43) undef rfl rfl (by kernel_rfl) (by kernel_rfl) (by kernel_rfl) (fun _ _ _ h => h) (.inr ⟨by rfl, rfl⟩) H0.out ?_
                  simp only [Act.put, List.setIfInBounds_toArray, List.set_cons_zero, List.set_cons_succ]
                  refine Rg.take_ 18 (some 44) undef rfl rfl (by kernel_rfl) (by kernel_rfl) (by kernel_rfl) (fun _ _ _ h => h) (.inr ⟨by rfl, rfl⟩) H0.out ?_
                  simp only [Act.put, List.setIfInBounds_toArray, List.set_cons_zero, List.set_cons_succ]
                  refine Rg.take_ 19 (some 45) undef rfl rfl (by kernel_rfl) (by kernel_rfl) (by kernel_rfl) (fun _ _ _ h => h) (.inr ⟨by rfl, rfl⟩) H0.out ?_
                  simp only [Act.put, List.setIfInBounds_toArray, List.set_cons_zero, List.set_cons_succ]
                  refine Rg.take_ 20 (some 46) undef rfl rfl (by kernel_rfl) (by kernel_rfl) (by kernel_rfl) (fun _ _ _ h => h) (.inr ⟨by rfl, rfl⟩) H0.out ?_
                  simp only [Act.put, List.setIfInBounds_toArray, List.set_cons_zero, List.set_cons_succ]
                  refine Rg.take_ 21 (some 47) (.bool false) rfl rfl (by kernel_rfl) (by kernel_rfl) (by kernel_rfl) (fun _ _ _ h => h) (.inl ⟨by rfl, fun W' hS => (by go_simp)⟩) H0.out ?_
                  simp only [Act.put, List.setIfInBounds_toArray, List.set_cons_zero, List.set_cons_succ]
                  refine Rg.take_ 22 (some 48) (.bool false) rfl rfl (by kernel_rfl) (by kernel_rfl) (by kernel_rfl) (fun _ _ _ h => h) (.inl ⟨by rfl, fun W' hS => (by go_simp)⟩) H0.out ?_
                  simp only [Act.put, List.setIfInBounds_toArray, List.set_cons_zero, List.set_cons_succ]
                  refine Rg.take_ 23 (some 49) (.pointer (some ⟨g, 3, none⟩)) rfl rfl (by kernel_rfl) (by kernel_rfl) (by kernel_rfl) (fun _ _ _ h => h) (.inl ⟨by rfl, fun W' hS => (by go_simp)⟩) H0.out ?_
                  simp only [Act.put, List.setIfInBounds_toArray, List.set_cons_zero, List.set_cons_succ]
                  refine Rg.take_ 24 (some 50) (.slice (some ⟨b3, o3, none⟩) 8 c3) rfl rfl (by kernel_rfl) (by kernel_rfl) (by kernel_rfl) (fun _ _ _ h => h) (.inl ⟨by rfl, fun W' hS => (by have c := hS.blk.cell (i := 3) rfl; go_simp)⟩) H0.out ?_
                  simp only [Act.put, List.setIfInBounds_toArray, List.set_cons_zero, List.set_cons_succ]
                  refine Rg.take_ 25 (some 51) (.int .i64 m) rfl rfl (by kernel_rfl) (by kernel_rfl) (by kernel_rfl) (fun _ _ _ h => h) (.inl ⟨by rfl, fun W' hS => (by go_simp)⟩) H0.out ?_
                  simp only [Act.put, List.setIfInBounds_toArray, List.set_cons_zero, List.set_cons_succ]
                  refine Rg.take_ 26 (some 52) (.pointer (some ⟨b3, o3 + m, none⟩)) rfl rfl (by kernel_rfl) (by kernel_rfl) (by kernel_rfl) (fun _ _ _ h => h) (.inl ⟨by rfl, fun W' hS => (by go_simp)⟩) H0.out ?_
                  simp only [Act.put, List.setIfInBounds_toArray, List.set_cons_zero, List.set_cons_succ]
                  refine Rg.take_ 27 (some 53) (.bool true) rfl rfl (by kernel_rfl) (by kernel_rfl) (by kernel_rfl) (fun _ _ _ h => h) (.inl ⟨by rfl, fun W' hS => (by have c := hS.here; go_simp)⟩) H0.out ?_
                  simp only [Act.put, List.setIfInBounds_toArray, List.set_cons_zero, List.set_cons_succ]
                  refine Rg.take_ 28 (some 54) (.bool true) rfl rfl (by kernel_rfl) (by kernel_rfl) (by kernel_rfl) (fun _ _ _ h => h) (.inl ⟨by rfl, fun W' hS => (by go_simp)⟩) H0.out ?_
                  simp only [Act.put, List.setIfInBounds_toArray, List.set_cons_zero, List.set_cons_succ]
                  refine Rg.take_ 29 (some 55) (.pointer (some ⟨g, 2, none⟩)) rfl rfl (by kernel_rfl) (by kernel_rfl) (by kernel_rfl) (fun _ _ _ h => h) (.inl ⟨by rfl, fun W' hS => (by go_simp)⟩) H0.out ?_
                  simp only [Act.put, List.setIfInBounds_toArray, List.set_cons_zero, List.set_cons_succ]
                  refine Rg.take_ 30 (some 56) (.slice (some ⟨b2, o2, none⟩) 8 c2) rfl rfl (by kernel_rfl) (by kernel_rfl) (by kernel_rfl) (fun _ _ _ h => h) (.inl ⟨by rfl, fun W' hS => (by have c := hS.blk.cell (i := 2) rfl; go_simp)⟩) H0.out ?_
                  simp only [Act.put, List.setIfInBounds_toArray, List.set_cons_zero, List.set_cons_succ]
                  refine Rg.take_ 31 (some 57) (.int .i64 m) rfl rfl (by kernel_rfl) (by kernel_rfl) (by kernel_rfl) (fun _ _ _ h => h) (.inl ⟨by rfl, fun W' hS => (by go_simp)⟩) H0.out ?_
                  simp only [Act.put, List.setIfInBounds_toArray, List.set_cons_zero, List.set_cons_succ]
                  refine Rg.take_ 32 (some 58) (.pointer (some ⟨b2, o2 + m, none⟩)) rfl rfl (by kernel_rfl) (by kernel_rfl) (by kernel_rfl) (fun _ _ _ h => h) (.inl ⟨by rfl, fun W' hS => (by go_simp)⟩) H0.out ?_
                  simp only [Act.put, List.setIfInBounds_toArray, List.set_cons_zero, List.set_cons_succ]
                  refine Rg.take_ 33 (some 59) (.int .i64 vv) rfl rfl (by kernel_rfl) (by kernel_rfl) (by kernel_rfl) (fun _ _ _ h => h) (.inl ⟨by rfl, fun W' hS => (by have c := hS.ver; go_simp)⟩) H0.out ?_
                  simp only [Act.put, List.setIfInBounds_toArray, List.set_cons_zero, List.set_cons_succ]
                  refine Rg.ready_one (i := 34) (by kernel_rfl) rfl rfl ?_
                  refine Rg.call_at (some 60) (f := 53) (args := #[.int .i64 vv, .int .i64 1, .int .i64 99]) rfl (by go_simp) ((SI.out _).mono ?_)
                  rintro e w7 ⟨rfl, rfl⟩
                  refine ⟨_, rfl, H0.out, ?_⟩
                  simp only [Act.put, List.setIfInBounds_toArray, List.set_cons_zero, List.set_cons_succ]
                  refine Rg.take_ 35 (some 61) (.bool false) rfl rfl (by kernel_rfl) (by kernel_rfl) (by kernel_rfl) (fun _ _ _ h => h) (.inl ⟨by rfl, fun W' hS => (by go_simp)⟩) H0.out ?_
                  simp only [Act.put, List.setIfInBounds_toArray, List.set_cons_zero, List.set_cons_succ]
                  refine Rg.take_ 36 (some 62) (.bool false) rfl rfl (by kernel_rfl) (by kernel_rfl) (by kernel_rfl) (fun _ _ _ h => h) (.inl ⟨by rfl, fun W' hS => (by go_simp)⟩) H0.out ?_
                  simp only [Act.put, List.setIfInBounds_toArray, List.set_cons_zero, List.set_cons_succ]
                  refine Rg.take_ 37 (some 63) (.pointer (some ⟨g, 0, none⟩)) rfl rfl (by kernel_rfl) (by kernel_rfl) (by kernel_rfl) (fun _ _ _ h => h) (.inl ⟨by rfl, fun W' hS => (by go_simp)⟩) H0.out ?_
                  simp only [Act.put, List.setIfInBounds_toArray, List.set_cons_zero, List.set_cons_succ]
                  refine Rg.take_ 38 (some 64) (.int .i64 j) rfl rfl (by kernel_rfl) (by kernel_rfl) (by kernel_rfl) (fun _ _ _ h => h) (.inl ⟨by rfl, fun W' hS => (by have c := hS.blk.cell (i := 0) rfl; go_simp)⟩) H0.out ?_
                  simp only [Act.put, List.setIfInBounds_toArray, List.set_cons_zero, List.set_cons_succ]
                  refine Rg.take_ 39 (some 65) (.pointer (some ⟨g, 1, none⟩)) rfl rfl (by kernel_rfl) (by kernel_rfl) (by kernel_rfl) (fun _ _ _ h => h) (.inl ⟨by rfl, fun W' hS => (by go_simp)⟩) H0.out ?_
                  simp only [Act.put, List.setIfInBounds_toArray, List.set_cons_zero, List.set_cons_succ]
                  refine Rg.take_ 40 (some 66) (.slice (some ⟨b1, o1, none⟩) 8 c1) rfl rfl (by kernel_rfl) (by kernel_rfl) (by kernel_rfl) (fun _ _ _ h => h) (.inl ⟨by rfl, fun W' hS => (by have c := hS.blk.cell (i := 1) rfl; go_simp)⟩) H0.out ?_
                  simp only [Act.put, List.setIfInBounds_toArray, List.set_cons_zero, List.set_cons_succ]
                  refine Rg.take_ 41 (some 67) (.agg #[.int .i64 j, .slice (some ⟨b1, o1, none⟩) 8 c1, .slice (some ⟨b2, o2, none⟩) 8 c2, .slice (some ⟨b3, o3, none⟩) 8 c3]) rfl rfl (by kernel_rfl) (by kernel_rfl) (by kernel_rfl) (fun _ _ _ h => h) (.inl ⟨by rfl, fun W' hS => (by have c0 := hS.blk.cell (i := 0) rfl; have c1 := hS.blk.cell (i := 1) rfl; have c2 := hS.blk.cell (i := 2) rfl; have c3 := hS.blk.cell (i := 3) rfl; go_simp)⟩) H0.out ?_
                  simp only [Act.put, List.setIfInBounds_toArray, List.set_cons_zero, List.set_cons_succ]
                  refine Rg.take_ 42 (some 68) (.pointer (some ⟨g, 2, none⟩)) rfl rfl (by kernel_rfl) (by kernel_rfl) (by kernel_rfl) (fun _ _ _ h => h) (.inl ⟨by rfl, fun W' hS => (by go_simp)⟩) H0.out ?_
                  simp only [Act.put, List.setIfInBounds_toArray, List.set_cons_zero, List.set_cons_succ]
                  refine Rg.take_ 43 (some 69) (.slice (some ⟨b2, o2, none⟩) 8 c2) rfl rfl (by kernel_rfl) (by kernel_rfl) (by kernel_rfl) (fun _ _ _ h => h) (.inl ⟨by rfl, fun W' hS => (by have c := hS.blk.cell (i := 2) rfl; go_simp)⟩) H0.out ?_
                  simp only [Act.put, List.setIfInBounds_toArray, List.set_cons_zero, List.set_cons_succ]
                  refine Rg.take_ 44 (some 70) (.int .i64 m) rfl rfl (by kernel_rfl) (by kernel_rfl) (by kernel_rfl) (fun _ _ _ h => h) (.inl ⟨by rfl, fun W' hS => (by go_simp)⟩) H0.out ?_
                  simp only [Act.put, List.setIfInBounds_toArray, List.set_cons_zero, List.set_cons_succ]
                  refine Rg.take_ 45 (some 71) (.pointer (some ⟨b2, o2 + m, none⟩)) rfl rfl (by kernel_rfl) (by kernel_rfl) (by kernel_rfl) (fun _ _ _ h => h) (.inl ⟨by rfl, fun W' hS => (by go_simp)⟩) H0.out ?_
                  simp only [Act.put, List.setIfInBounds_toArray, List.set_cons_zero, List.set_cons_succ]
                  refine Rg.take_ 46 (some 72) (.int .i64 vv) rfl rfl (by kernel_rfl) (by kernel_rfl) (by kernel_rfl) (fun _ _ _ h => h) (.inl ⟨by rfl, fun W' hS => (by have c := hS.ver; go_simp)⟩) H0.out ?_
                  simp only [Act.put, List.setIfInBounds_toArray, List.set_cons_zero, List.set_cons_succ]
                  refine Rg.ready_one (i := 47) (by kernel_rfl) rfl rfl ?_
                  refine Rg.call_at (some 73) (f := 74) (args := #[.agg #[.int .i64 j, .slice (some ⟨b1, o1, none⟩) 8 c1, .slice (some ⟨b2, o2, none⟩) 8 c2, .slice (some ⟨b3, o3, none⟩) 8 c3], .int .i64 vv]) rfl (by go_simp) ((SO.out vv _ GD.out).mono ?_)
                  rintro e w8 ⟨z, rfl, hg1, ho⟩
                  have H1 := Lib.hid (H0.out.still hg1)
                  have D1 := Lib.hid hg1
                  have Z1 := Lib.hid ho.bl
                  obtain ⟨az, cz, ez, -, -, -⟩ := ho.bl
                  subst ez
                  clear hg1 ho
                  refine ⟨_, rfl, H1.out, ?_⟩
                  simp only [Act.put, List.setIfInBounds_toArray, List.set_cons_zero, List.set_cons_succ]
                  refine Rg.ready_one (i := 48) (by kernel_rfl) rfl rfl ?_
                  refine Rg.call_at (some 74) (f := 73) (args := #[.int .i64 j, .slice (some ⟨b1, o1, none⟩) 8 c1, .slice az (ofM v f vv).length cz]) rfl (by go_simp) ((SF.out _ _ (grown_trans GD.out D1.out) Z1.out).mono ?_)
                  rintro e w9 ⟨rfl, hg2⟩
                  have H2 := Lib.hid (H1.out.still hg2)
                  have D2 := Lib.hid hg2
                  clear hg2
                  refine ⟨_, rfl, H2.out, ?_⟩
                  simp only [Act.put, List.setIfInBounds_toArray, List.set_cons_zero, List.set_cons_succ]
                  refine Rg.take_ 49 (some 75) (.bool true) rfl rfl (by kernel_rfl) (by kernel_rfl) (by kernel_rfl) (fun _ _ _ h => h) (.inl ⟨by rfl, fun W' hS => (by go_simp)⟩) H2.out ?_
                  simp only [Act.put, List.setIfInBounds_toArray, List.set_cons_zero, List.set_cons_succ]
                  refine Rg.take_ 50 (some 76) (.bool true) rfl rfl (by kernel_rfl) (by kernel_rfl) (by kernel_rfl) (fun _ _ _ h => h) (.inl ⟨by rfl, fun W' hS => (by go_simp)⟩) H2.out ?_
                  simp only [Act.put, List.setIfInBounds_toArray, List.set_cons_zero, List.set_cons_succ]
                  refine Rg.take_ 51 (some 77) (.bool true) rfl rfl (by kernel_rfl) (by kernel_rfl) (by kernel_rfl) (fun _ _ _ h => h) (.inl ⟨by rfl, fun W' hS => (by go_simp)⟩) H2.out ?_
                  simp only [Act.put, List.setIfInBounds_toArray, List.set_cons_zero, List.set_cons_succ]
                  refine Rg.take_ 52 (some 78) (.bool true) rfl rfl (by kernel_rfl) (by kernel_rfl) (by kernel_rfl) (fun _ _ _ h => h) (.inl ⟨by rfl, fun W' hS => (by go_simp)⟩) H2.out ?_
                  simp only [Act.put, List.setIfInBounds_toArray, List.set_cons_zero, List.set_cons_succ]
                  refine wpAnyH_done (by kernel_rfl) ?_ _
                  have GA : Hid (w.grownBy w9 none) := Lib.hid (grown_trans (grown_trans GD.out D1.out) D2.out)
                  have KA : Hid (Blk w9 g 45 [.int .i64 j, .slice (some ⟨b1, o1, none⟩) 8 c1, .slice (some ⟨b2, o2, none⟩) 8 c2, .slice (some ⟨b3, o3, none⟩) 8 c3]) := Lib.hid H2.out.blk
                  clear H0 H1 H2 D1 D2 GD Z1 SF
                  go_wp2_with fail
                  go_ret
                  exact ⟨false, rfl, ⟨fun h => (by cases h), fun h => absurd h (NO.out CA.out)⟩, GA.out⟩
              · have SI : Hid (∀ W : World, Calls Try.prog 53 #[.int .i64 vv, .int .i64 1, .int .i64 99] W fun e w' => e = .returned (.bool false) ∧ w' = W) := Lib.hid (inIsS (by rw [Bool.and_eq_false_iff]; simp only [decide_eq_false_iff_not]; omega))
                have CA : Hid (¬ OkAt j a v f m) := Lib.hid (fun h => hin (by have := h.1.1 HT.out; rwa [VV.out] at this))
                clear hin
                go_wp2_with fail
                go_quiet (first | (go_at_call 53; exact Calls.quiet_of_same (SI.out _)))
                go_wp2_with fail
                go_ret
                exact ⟨false, rfl, ⟨fun h => (by cases h), fun h => absurd h (NO.out CA.out)⟩, grown_draws G.out _⟩
          · obtain rfl : m = 8 := by omega
            have OK : Hid (StOk j a v f) := Lib.hid ⟨by have := HJ.out; omega, QQ.out.1, V8.out, QQ.out.2, fun i hi => (OKM.out i hi).1, fun i hi ht => by simpa using (OKM.out i hi).2 ht⟩
            go_wp2_with fail
            go_ret
            exact ⟨true, rfl, ⟨fun _ => OK.out, fun _ => rfl⟩, G.out⟩
      · have NO : Hid (¬ StOk j a v f) := Lib.hid (fun h => h8 (by rw [NL2.out]; exact h.v8))
        have hb : ((l2 : Int) != 8) = true := by rw [bne_iff_ne]; omega
        clear h8
        go_wp2_with fail
        go_ret
        exact ⟨false, rfl, ⟨fun h => (by cases h), fun h => absurd h NO.out⟩, G0.out⟩
  · have NO : Hid (¬ StOk k a v f) := Lib.hid (fun h => by have := h.kind; omega)
    go_wp2_with fail
    refine (specKind k _).mono ?_
    rintro e w' ⟨rfl, rfl⟩
    rw [kindM_no n1 n2]
    go_wp2_with fail
    go_ret
    exact ⟨false, rfl, ⟨fun h => (by cases h), fun h => absurd h NO.out⟩, G0.out⟩
end Go.Proofs.Ythglkgicckodaaa
