/-
  What this claim wants of the texts of earlier chapters.
  Conditions: none.
-/
import Derived.Test.YthglkgicckodaaaZStripeVers
namespace Go.Proofs.Ythglkgicckodaaa
open Go.RowKit
set_option linter.unusedVariables false
structure Rng (b r : Nat) (D : DataW Unit) (v : List Int) (F : List Bool) (left : Lit → Bool) (cnt : Nat) (w : World) : Prop where
  rng : w.ranges Try.prog 3 flagElem b r 8 D left cnt
  sub : ∀ kl, left kl = true → Maps.has D kl = true
  is : MapIs D v F 8
theorem Rng.kept {b r : Nat} {D : DataW Unit} {v : List Int} {F : List Bool} {left : Lit → Bool} {cnt : Nat} {w w' : World} {row : Option Nat} (h : Rng b r D v F left cnt w) (hg : w.grownBy w' row) (hb : some b ≠ row) (hr : some r ≠ row) : Rng b r D v F left cnt w' :=
  ⟨h.rng.kept hg hb hr, h.sub, h.is⟩
set_option maxRecDepth 20000 in
/-- the step of the range. -/
theorem nextVers {b r : Nat} {D : DataW Unit} {v : List Int} {F : List Bool} {left : Lit → Bool} {cnt : Nat} {w : World} {ops : Array Oper} {rest : List Oper} {o : Oper} {a : Act} {Q : Exit → Act → World → Prop}
    (hg : o.guard = none) (it : Operand) (hop : o.op = Op.next it false) (hit : a.eval it = .pointer (some ⟨r, 0, none⟩)) (h : Rng b r D v F left cnt w)
    (hDone : (∀ kl, left kl = false) → wpList Try.prog ops Q rest (a.put o.dst (.tuple #[.bool false])) w)
    (hMore : ∀ (x : Int) (w' : World) (cnt' : Nat), left (.int .i64 x) = true → Maps.has D (.int .i64 x) = true → Rng b r D v F (fun z => left z && !z.sameKey (.int .i64 x)) cnt' w' → cnt' < cnt → w.grownBy w' (some r) →
      (Instr.entry (.pointer (some ⟨r, 0, none⟩))).run Try.prog w' = .ok (.tuple #[.int .i64 x, .agg (bvals (ofM v F x)).toArray]) w' → wpList Try.prog ops Q rest (a.put o.dst (.tuple #[.bool true, .int .i64 x, .agg (bvals (ofM v F x)).toArray])) w') :
    wpList Try.prog ops Q (o :: rest) a w := by
  refine wpList_next_ranges (α := Int) (β := List Bool) w hg it hop 3 keyedInt flagElem (Value.int .i64) (fun G => .agg (bvals G).toArray)
    (fun key kl hkey => by obtain ⟨x, rfl, _⟩ := Maps.keyOf_int_inv Try.underlying3 hkey; exact ⟨x, rfl⟩) (fun u y hu => by obtain ⟨G, _, rfl, _⟩ := flagElem_inv hu; exact ⟨G, rfl⟩) b r 8 D left cnt hit h.rng (fun _ hl => hDone hl) ?_
  intro x G kl y w' cnt' hkey hlk hR hat hrg hlt hgr hsz hen
  obtain ⟨x', ex, rfl, hwx⟩ := Maps.keyOf_int_inv Try.underlying3 hkey
  injection ex with _ ex
  subst ex
  obtain ⟨G', hG', e, rfl⟩ := flagElem_inv hR
  have e1 : G = G' := by
    injection e with e
    exact bvals_inj (by simpa using congrArg Array.toList e)
  subst e1
  have eG : G = ofM v F x := by
    have h1 := hat (.lit (.int .i64 (Sp.num (List.replicate 8 false))))
    rw [h.is.at_ x] at h1
    have := num_inj (ofP_len v F x 8) hG' h1
    rw [← this, ofP_all]
  subst eG
  refine hMore x w' cnt' hlk (h.sub _ hlk) ⟨hrg, fun kl hkl => h.sub kl (by rw [Bool.and_eq_true] at hkl; exact hkl.1), h.is⟩ hlt hgr hen
theorem left_key {left : Lit → Bool} {x y : Int} (h : left (.int .i64 y) = true) (hne : y ≠ x) : (left (.int .i64 y) && !(Lit.int .i64 y).sameKey (.int .i64 x)) = true := by
  rw [h, Maps.sameKey_ne (fun e => hne (by injection e))]; rfl
set_option maxHeartbeats 8000000 in
set_option maxRecDepth 20000 in
theorem stFits {k : Nat} (hk : k = 1 ∨ k = 2) {a v : List Int} {F : List Bool} (ra : Sp.Row 8 a) (hv : v.length = 8) (hF : F.length = 8) (hc : Clean a v F) (w : World) : Calls Try.prog 83 #[.agg (stv k (grid k) a v F).toArray] w fun e w' => ∃ q, e = .returned (.bool q) ∧ (q = true ↔ FitAll k a v F) ∧ w.grownBy w' none := by
  have HL : Hid (SLen (grid k) a v F) := Lib.hid ⟨grid_len k hk, ra.1, hv, hF⟩
  have HS := Lib.hid (infoSt (k := k) HL.out)
  have HG := Lib.hid (infoG HL.out.l)
  have HA := Lib.hid (infoSh HL.out.a)
  have SV := Lib.hid (fun w => stVersions (k := k) HL.out hc w)
  have GF := Lib.hid (fun x (hx : x.length = 8) w => genFits hk x hx a ra w)
  have S0 := Lib.hid (SB.new w k (grid k) a v F)
  have G0 := Lib.hid (World.grownBy_alloc w (.cells (stv k (grid k) a v F).toArray 94) none)
  have Z0 := World.size_alloc w (.cells (stv k (grid k) a v F).toArray 94)
  clear hv hF hc hk ra
  generalize hgr : grid k = L at *
  clear hgr
  go_enter Try.func83, Try.ntmps83
  go_upto_region 1 with fail
  generalize w.alloc (.cells (stv k L a v F).toArray 94) = W0 at *
  have BS : w.heap.size < W0.heap.size := by omega
  obtain ⟨g, hg⟩ : ∃ g, g = w.heap.size := ⟨_, rfl⟩
  rw [← hg] at S0 ⊢
  have HGE := Lib.hid hg
  clear hg Z0
  apply wp_region_lit
  refine wpList_load_row rfl _ _ rfl g rfl _ _ _ _ S0.out Try.underlying94 rfl HS.out ?_
  simp only [Act.put, List.setIfInBounds_toArray, List.set_cons_succ, List.set_cons_zero]
  go_wp2_with fail
  refine (SV.out _).mono ?_
  rintro e w1 ⟨b, D, rfl, hb, hO, hM, hg⟩
  have G1 := Lib.hid (grown_trans G0.out hg)
  have S1 := Lib.hid (S0.out.still hg)
  have GB : g < b := by rw [HGE.out]; omega
  have LB : b < w1.heap.size := hO.lt
  have OW := Lib.hid hO
  have M := Lib.hid hM
  have Z1 := hg.size
  clear hO hM hg hb G0 S0
  rename_i hK
  refine hK _ _ ?_
  clear hK
  refine wpList_range_own _ rfl _ 136 rfl 3 92 keyedInt Try.underlying136 flagElem b 8 D rfl OW.out ?_
  intro W2 hr hg2 hs2
  have G2 := Lib.hid (grown_trans G1.out hg2)
  have S2 := Lib.hid (S1.out.still hg2)
  have R2 : Hid (Rng b w1.heap.size D v F (Maps.has D) (Maps.size D) W2) := Lib.hid ⟨hr, fun kl h => h, M.out⟩
  clear hr hg2 hs2 G1 S1 OW
  generalize w1.heap.size = r at *
  go_frame
  go_wp2_with fail
  go_loopw [8] (fun _ wr => ∃ left cnt, w.grownBy wr none ∧ SB wr g k L a v F ∧ Rng b r D v F left cnt wr ∧ ∀ x : Int, Maps.has D (.int .i64 x) = true → left (.int .i64 x) = true ∨ Sp.Fit k (ofM v F x) a) (fun _ wr => wr.rangeLeft b r)
  case atStart => exact ⟨_, _, G2.out, S2.out, R2.out, fun x hx => .inl hx⟩
  case round =>
    obtain ⟨left, cnt, hg, hs, hr, hd⟩ := hrel
    have G := Lib.hid hg
    have S := Lib.hid hs
    have R := Lib.hid hr
    have DN := Lib.hid hd
    have GZ : w.heap.size ≤ wr.heap.size := G.out.size
    have LB1 : b < wr.heap.size := R.out.rng.owns.lt
    have LR1 : r < wr.heap.size := R.out.rng.lt
    clear hg hs hr hd R2 S2 G2
    go_upto_region 2 with fail
    apply wp_region_lit
    refine nextVers rfl _ rfl rfl R.out ?_ ?_
    · intro hl0
      have FA : Hid (FitAll k a v F) := Lib.hid (fun i hi ht => by
        have h1 := (M.out.has (v.getD i 0)).2 ⟨i, hi, ht, rfl⟩
        rcases DN.out _ h1 with h2 | h2
        · rw [hl0] at h2; cases h2
        · exact h2)
      clear hl0
      simp only [Act.put, List.setIfInBounds_toArray, List.set_cons_succ, List.set_cons_zero]
      go_wp2_with fail
      go_ret
      exact ⟨true, rfl, ⟨fun _ => FA.out, fun _ => rfl⟩, G.out⟩
    · intro x w3 cnt' hlx hhx hR hlt hgr hen
      have HT : Hid (left (.int .i64 x) = true) := Lib.hid hlx
      have f8 := ofM_len v F x
      have E8 := Lib.hid f8
      have G3 := Lib.hid (grown_own G.out hgr (fun j hj => by injection hj with hj; omega))
      have S3 := Lib.hid (S.out.kept hgr (by simp; omega))
      have R3 := Lib.hid hR
      have LT := Lib.hid hlt
      have LM : Hid (wr.rangeLeft b r = cnt) := Lib.hid R.out.rng.left_eq
      have HX := Lib.hid hhx
      have LZ := hgr.size
      have hs := storeF w3 f8
      have hvl : (bvals (ofM v F x)).length = 8 := by rw [bvals_length]; exact f8
      have LB2 : b < w3.heap.size := by omega
      have LR2 : r < w3.heap.size := by omega
      have LG2 : g < w3.heap.size := S3.out.lt
      have GZ3 : w.heap.size ≤ w3.heap.size := by omega
      clear hlx hhx hR hlt hgr f8 G S R
      obtain ⟨H, hH⟩ : ∃ H, H = ofM v F x := ⟨_, rfl⟩
      have HH := Lib.hid hH
      rw [← hH] at hs hvl hen E8 ⊢
      clear hH
      simp only [Act.put, List.setIfInBounds_toArray, List.set_cons_succ, List.set_cons_zero]
      go_upto_region 4 with fail
      have GN := Lib.hid (World.grownBy_alloc w3 (.cells (bvals H).toArray 92) none)
      have X4 := Lib.hid (BArr.new w3 92 H)
      have G4 := Lib.hid (grown_trans G3.out GN.out)
      have S4 := Lib.hid (S3.out.still GN.out)
      have R4 := Lib.hid (R3.out.kept GN.out (by simp) (by simp))
      clear hs hvl hen G3 S3 R3 GN
      generalize w3.alloc (.cells (bvals H).toArray 92) = w4 at *
      generalize w3.heap.size = gx at *
      have zf : (bvals H).toArray.size = 8 := by simp [bvals_length, E8.out]
      have H8 : Hid ((Try.prog.info? 92).map (·.size) = some (bvals H).toArray.size) := Lib.hid (by rw [zf]; kernel_rfl)
      clear zf
      apply wp_region_lit
      refine wpList_plain rfl (fun K hK => ?_)
      go_simp
      refine hK _ _ ?_
      clear hK
      refine wpList_load_mid rfl _ _ rfl g 1 rfl (vals L) _ (S4.out.code_ HL.out) Try.underlying87 rfl HG.out ?_
      simp only [Act.put, List.setIfInBounds_toArray, List.set_cons_succ, List.set_cons_zero]
      refine wpList_plain rfl (fun K hK => ?_)
      go_simp
      refine hK _ _ ?_
      clear hK
      refine wpList_load_mid rfl _ _ rfl g 33 rfl (vals a) _ (S4.out.vals_ HL.out) Try.underlying89 rfl HA.out ?_
      simp only [Act.put, List.setIfInBounds_toArray, List.set_cons_succ, List.set_cons_zero]
      refine wpList_load_row rfl _ _ rfl gx rfl _ _ _ _ X4.out Try.underlying92 rfl H8.out ?_
      simp only [Act.put, List.setIfInBounds_toArray, List.set_cons_succ, List.set_cons_zero]
      go_wp2_with fail
      refine (GF.out H E8.out _).mono ?_
      rintro e w5 ⟨q, rfl, hq, hg⟩
      have Q5 := Lib.hid hq
      have G5 := Lib.hid (grown_trans G4.out hg)
      have S5 := Lib.hid (S4.out.still hg)
      have R5 := Lib.hid (R4.out.kept hg (by simp) (by simp))
      clear hq hg G4 S4 R4 X4
      cases q with
      | false =>
        have NF : Hid (¬ FitAll k a v F) := Lib.hid (fun h => by
          obtain ⟨i, hi, ht, e⟩ := (M.out.has x).1 HX.out
          have := h i hi ht
          rw [e, ← HH.out] at this
          have := Q5.out.2 this
          cases this)
        go_wp2_with fail
        go_ret
        exact ⟨false, rfl, ⟨fun h => (by cases h), fun h => absurd h NF.out⟩, G5.out⟩
      | true =>
        have FX : Hid (Sp.Fit k (ofM v F x) a) := Lib.hid (by rw [← HH.out]; exact Q5.out.1 rfl)
        have DN5 : Hid (∀ y : Int, Maps.has D (.int .i64 y) = true → (left (.int .i64 y) && !(Lit.int .i64 y).sameKey (.int .i64 x)) = true ∨ Sp.Fit k (ofM v F y) a) := Lib.hid (fun y hy => by
          by_cases e : y = x
          · subst e; exact .inr FX.out
          · rcases DN.out y hy with h | h
            · exact .inl (left_key h e)
            · exact .inr h)
        go_wp2_with fail
        go_roundw
        case rel => exact ⟨_, _, G5.out, S5.out, R5.out, DN5.out⟩
        case measure => rw [R5.out.rng.left_eq, LM.out]; exact LT.out
end Go.Proofs.Ythglkgicckodaaa
