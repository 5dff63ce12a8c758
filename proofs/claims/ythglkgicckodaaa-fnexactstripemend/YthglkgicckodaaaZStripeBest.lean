/-
  What this claim wants of the texts of earlier chapters.
  Conditions: none.
-/
import Derived.Test.YthglkgicckodaaaZStripeOps
namespace Go.Proofs.Ythglkgicckodaaa
open Go.RowKit Go.Shelf
set_option linter.unusedVariables false
set_option linter.unusedSimpArgs false
attribute [local go_sem] Oper.semAt_some
theorem results_tmp_row_tmp {P : Program} {fn : Func} {o p q : Tmp} {ty : TypeId} (h : fn.results = #[.tmp o, .cell p ty, .tmp q]) (tmps : Array Value) (w : World) (g : Nat) (t : TypeId) (cs : Array Value) (fr : Nat × Nat) (d : TypeDesc) (u v : Value)
    (ho : tmps.getD o undef = u) (hp : tmps.getD p undef = .pointer (some ⟨g, 0, none⟩)) (hq : tmps.getD q undef = v) (hg : w.heap[g]? = some (.cells cs t fr))
    (hu : P.underlying ty = some d) (hd : (match d with | .struct _ | .array _ _ => true | _ => false) = true) (hi : (P.info? ty).map (·.size) = some cs.size) :
    (results fn tmps).run P w = .ok (.tuple #[u, .agg cs, v]) w := by
  have ho' : tmps[o]?.getD undef = u := by simpa using ho
  have hp' : tmps[p]?.getD undef = .pointer (some ⟨g, 0, none⟩) := by simpa using hp
  have hq' : tmps[q]?.getD undef = v := by simpa using hq
  simp [results, h, ho', hp', hq', asAddr, run_loadVar_row w g t ty cs fr d hg hu hd hi]
def Look (k : Nat) (D : DataW Unit) (v : List Int) (F : List Bool) (left : Lit → Bool) (best : Int) : Prop :=
  (best = 0 ∨ (1 ≤ best ∧ Maps.has D (.int .i64 best) = true ∧ Sp.bears k (ofM v F best) = true)) ∧ ∀ x : Int, Maps.has D (.int .i64 x) = true → left (.int .i64 x) = true ∨ (Sp.bears k (ofM v F x) = true → x ≤ best)
theorem Look.nonneg {k : Nat} {D : DataW Unit} {v : List Int} {F : List Bool} {left : Lit → Bool} {best : Int} (h : Look k D v F left best) : 0 ≤ best := by
  rcases h.1 with h | h <;> omega
theorem Look.stay {k : Nat} {D : DataW Unit} {v : List Int} {F : List Bool} {left : Lit → Bool} {best x : Int} (h : Look k D v F left best) (hx : Sp.bears k (ofM v F x) = true → x ≤ best) : Look k D v F (fun z => left z && !z.sameKey (.int .i64 x)) best := by
  refine ⟨h.1, fun y hy => ?_⟩
  by_cases e : y = x
  · subst e; exact .inr hx
  · rcases h.2 y hy with h1 | h1
    · exact .inl (left_key h1 e)
    · exact .inr h1
theorem Look.new {k : Nat} {D : DataW Unit} {v : List Int} {F : List Bool} {left : Lit → Bool} {best x : Int} (h : Look k D v F left best) (hb : best < x) (hh : Maps.has D (.int .i64 x) = true) (hx : Sp.bears k (ofM v F x) = true) : Look k D v F (fun z => left z && !z.sameKey (.int .i64 x)) x := by
  refine ⟨.inr ⟨by have := h.nonneg; omega, hh, hx⟩, fun y hy => ?_⟩
  by_cases e : y = x
  · subst e; exact .inr fun _ => Int.le_refl _
  · rcases h.2 y hy with h1 | h1
    · exact .inl (left_key h1 e)
    · exact .inr fun h2 => by have := h1 h2; omega
theorem bearsM_sp {k : Nat} (hk : k = 1 ∨ k = 2) {f : List Bool} (hf : f.length = 8) : bearsM k f = Sp.bears k f := by
  rw [Bool.eq_iff_iff, bearsM_iff]
  exact ⟨fun h => h.2.2, fun h => ⟨by omega, hf, h⟩⟩
theorem Look.best {k : Nat} (hk : k = 1 ∨ k = 2) {D : DataW Unit} {v : List Int} {F : List Bool} {left : Lit → Bool} {best : Int} (h : Look k D v F left best) (hl : ∀ kl, left kl = false) (hM : MapIs D v F 8) : Best k v F best := by
  have hb : ∀ y, bearsM k (ofM v F y) = true → y ≤ best := fun y hy => by
    obtain ⟨i, hi, h1, h2⟩ := bears_some hy
    have hh := (hM.has y).2 ⟨i, hi, h1, h2⟩
    rcases h.2 y hh with h3 | h3
    · rw [hl] at h3; cases h3
    · exact h3 (by rw [← bearsM_sp hk (ofM_len _ _ _)]; exact hy)
  have no : ∀ y, best < y → bearsM k (ofM v F y) = false := fun y hy => by
    cases e : bearsM k (ofM v F y) with
    | false => rfl
    | true => have := hb y e; omega
  rcases h.1 with rfl | ⟨h1, _, h3⟩
  · exact .inr ⟨rfl, fun y hy => no y (by omega)⟩
  · exact .inl ⟨h1, by rw [bearsM_sp hk (ofM_len _ _ _)]; exact h3, no⟩
def BestT (k : Nat) (v : List Int) (F : List Bool) (w : World) (e : Ending) (w' : World) : Prop :=
  ∃ (x : Int) (G : List Bool), e = .returned (.tuple #[.int .i64 x, .agg (bvals G).toArray, .bool (decide (0 < x))]) ∧ G.length = 8 ∧ Best k v F x ∧ (0 < x → G = ofM v F x) ∧ w.grownBy w' none
def EndB (b gz : Nat) (D : DataW Unit) (W : World) : Prop := W.ownsMap Try.prog 3 flagElem b 8 D ∧ ∃ old, W.heap[gz]? = some (.cells old 92 (0, 0)) ∧ old.size = 8
set_option maxRecDepth 20000 in
theorem lookOne {b : Nat} {D : DataW Unit} {v : List Int} {F : List Bool} (hM : MapIs D v F 8) {x : Int} (hx : (Lit.int .i64 x).wf = true) {W : World} (hO : W.ownsMap Try.prog 3 flagElem b 8 D) :
    (Instr.lookup 136 (.map (some b)) (.int .i64 x) false).run Try.prog W = .ok (.agg (bvals (ofM v F x)).toArray) W := by
  obtain ⟨u, ps, hrun, hu⟩ := hO.lookup keyedInt Try.underlying136 (zeroFlags W) zeroElem (keyInt hx)
  obtain ⟨G, hG, rfl, hy⟩ := flagElem_inv hu
  injection hy with hy _
  have := num_inj (ofP_len v F x 8) hG ((hM.at_ x).symm.trans hy)
  rw [ofP_all] at this
  rw [this]
  exact hrun
set_option maxHeartbeats 8000000 in
set_option maxRecDepth 20000 in
theorem stBest {k : Nat} (hk : k = 1 ∨ k = 2) {a v : List Int} {F : List Bool} (hl : SLen (grid k) a v F) (hc : Clean a v F) (w : World) : Calls Try.prog 84 #[.agg (stv k (grid k) a v F).toArray] w (BestT k v F w) := by
  have HL := Lib.hid hl
  have HS := Lib.hid (infoSt (k := k) hl)
  have HG := Lib.hid (infoG hl.l)
  have SV := Lib.hid (fun w => stVersions (k := k) hl hc w)
  have GB := Lib.hid (fun f (hf : f.length = 8) w => genBears hk f hf w)
  have BE := Lib.hid (fun D left best (h : Look k D v F left best) hl hM => h.best hk hl hM)
  have WFX : Hid (∀ best, Best k v F best → (Lit.int .i64 best).wf = true) := Lib.hid (fun best h => WalkArith.wf_i64 (by have := h.nonneg; have := h.le hc; omega))
  have S0 := Lib.hid ((SB.new w k (grid k) a v F).alloc (.cells #[.bool false, .bool false, .bool false, .bool false, .bool false, .bool false, .bool false, .bool false] 92))
  have Z0 : Hid (BArr ((w.alloc (.cells (stv k (grid k) a v F).toArray 94)).alloc (.cells #[.bool false, .bool false, .bool false, .bool false, .bool false, .bool false, .bool false, .bool false] 92)) (w.heap.size + 1) 92 (List.replicate 8 false)) := Lib.hid (by
    have := BArr.new (w.alloc (.cells (stv k (grid k) a v F).toArray 94)) 92 (List.replicate 8 false)
    rw [World.size_alloc] at this
    exact this)
  have G0 := Lib.hid (grown_alloc (World.grownBy_alloc w (.cells (stv k (grid k) a v F).toArray 94) none) (.cells #[.bool false, .bool false, .bool false, .bool false, .bool false, .bool false, .bool false, .bool false] 92))
  clear hl hc hk
  generalize hgr : grid k = L at *
  clear hgr
  go_enter Try.func84, Try.ntmps84
  go_upto_region 1 with fail
  generalize (w.alloc (.cells (stv k L a v F).toArray 94)).alloc (.cells #[.bool false, .bool false, .bool false, .bool false, .bool false, .bool false, .bool false, .bool false] 92) = W0 at *
  obtain ⟨g, hg⟩ : ∃ g, g = w.heap.size := ⟨_, rfl⟩
  obtain ⟨gz, hgz⟩ : ∃ g, g = w.heap.size + 1 := ⟨_, rfl⟩
  rw [← hg] at S0
  rw [← hgz] at Z0
  rw [← hgz, ← hg]
  have LG : w.heap.size ≤ g := by omega
  have LZ : w.heap.size ≤ gz := by omega
  have NE : g ≠ gz := by omega
  clear hg hgz
  apply wp_region_lit
  refine wpList_load_row rfl _ _ rfl g rfl _ _ _ _ S0.out Try.underlying94 rfl HS.out ?_
  simp only [Act.put, List.setIfInBounds_toArray, List.set_cons_succ, List.set_cons_zero]
  go_wp2_with fail
  refine (SV.out _).mono ?_
  rintro e w1 ⟨b, D, rfl, hb, hO, hM, hg⟩
  have G1 := Lib.hid (grown_trans G0.out hg)
  have S1 := Lib.hid (S0.out.still hg)
  have Z1 := Lib.hid (Z0.out.still hg)
  have LZ0 := Z0.out.lt
  have LG0 := S0.out.lt
  have NB : gz < b := by omega
  have NG : g < b := by omega
  have OW := Lib.hid hO
  have M := Lib.hid hM
  clear hO hM hg hb G0 S0 Z0 LZ0 LG0
  go_upto_region 3 with fail
  apply wp_region_lit
  refine wpList_plain rfl (fun K hK => ?_)
  go_simp
  refine hK _ _ ?_
  clear hK
  refine wpList_range_own _ rfl _ 136 rfl 3 92 keyedInt Try.underlying136 flagElem b 8 D rfl OW.out ?_
  intro W2 hr hg2 hs2
  have G2 := Lib.hid (grown_trans G1.out hg2)
  have S2 := Lib.hid (S1.out.still hg2)
  have Z2 := Lib.hid (Z1.out.still hg2)
  have R2 : Hid (Rng b w1.heap.size D v F (Maps.has D) (Maps.size D) W2) := Lib.hid ⟨hr, fun kl h => h, M.out⟩
  have LB : b < w1.heap.size := OW.out.lt
  clear hr hg2 hs2 G1 S1 OW Z1
  generalize w1.heap.size = r at *
  go_frame
  go_wp2_with fail
  go_loopw [6, 13] (fun o _ wr => ∃ (best : Int) (left : Lit → Bool) (cnt : Nat), o = .int .i64 best ∧ Look k D v F left best ∧ w.grownBy wr none ∧ SB wr g k L a v F ∧ BArr wr gz 92 (List.replicate 8 false) ∧ Rng b r D v F left cnt wr) (fun _ _ wr => wr.rangeLeft b r)
  case atStart => exact ⟨0, _, _, rfl, ⟨.inl rfl, fun x hx => .inl hx⟩, G2.out, S2.out, Z2.out, R2.out⟩
  case round =>
    obtain ⟨best, left, cnt, rfl, hd, hg, hs, hz, hr⟩ := hrel
    have G := Lib.hid hg
    have S := Lib.hid hs
    have Z := Lib.hid hz
    have R := Lib.hid hr
    have DN := Lib.hid hd
    have GZ : w.heap.size ≤ wr.heap.size := G.out.size
    have LB1 : b < wr.heap.size := R.out.rng.owns.lt
    have LR1 : r < wr.heap.size := R.out.rng.lt
    clear hg hs hr hd hz R2 S2 G2 Z2
    go_upto_region 4 with fail
    apply wp_region_lit
    refine nextVers rfl _ rfl rfl R.out ?_ ?_
    · intro hl0
      have BB := Lib.hid (BE.out D left best DN.out hl0 M.out)
      have WB := Lib.hid (WFX.out best BB.out)
      clear hl0 DN
      simp only [Act.put, List.setIfInBounds_toArray, List.set_cons_succ, List.set_cons_zero]
      have EB : Hid (EndB b gz D wr.drew) := Lib.hid ⟨R.out.rng.owns.drew, _, Z.out.drew, rfl⟩
      have GD := Lib.hid (grown_drew G.out)
      clear G S Z R
      go_upto_region 8 with fail
      refine wp_region_held (S := EndB b gz D) (by kernel_rfl) ?_
      refine Rg.take_ 0 (some 28) (.int .i64 best) rfl rfl (by kernel_rfl) (by kernel_rfl) (by kernel_rfl) (fun _ _ _ h => h) (.inl ⟨by rfl, fun W' hS => (by go_simp)⟩) EB.out ?_
      simp only [Act.put, List.setIfInBounds_toArray, List.set_cons_zero, List.set_cons_succ]
      refine Rg.take_ 1 (some 29) (.map (some b)) rfl rfl (by kernel_rfl) (by kernel_rfl) (by kernel_rfl) (fun _ _ _ h => h) (.inl ⟨by rfl, fun W' hS => (by go_simp)⟩) EB.out ?_
      simp only [Act.put, List.setIfInBounds_toArray, List.set_cons_zero, List.set_cons_succ]
      refine Rg.take_ 2 (some 30) (.int .i64 best) rfl rfl (by kernel_rfl) (by kernel_rfl) (by kernel_rfl) (fun _ _ _ h => h) (.inl ⟨by rfl, fun W' hS => (by go_simp)⟩) EB.out ?_
      simp only [Act.put, List.setIfInBounds_toArray, List.set_cons_zero, List.set_cons_succ]
      refine Rg.take_ 3 (some 31) (.agg (bvals (ofM v F best)).toArray) rfl rfl (by kernel_rfl) (by kernel_rfl) (by kernel_rfl) (fun _ _ _ h => h) (.inl ⟨by rfl, fun W' hS => (by have c := lookOne M.out WB.out hS.1; go_simp)⟩) EB.out ?_
      simp only [Act.put, List.setIfInBounds_toArray, List.set_cons_zero, List.set_cons_succ]
      refine Rg.take_ 4 (some 32) (.int .i64 best) rfl rfl (by kernel_rfl) (by kernel_rfl) (by kernel_rfl) (fun _ _ _ h => h) (.inl ⟨by rfl, fun W' hS => (by go_simp)⟩) EB.out ?_
      simp only [Act.put, List.setIfInBounds_toArray, List.set_cons_zero, List.set_cons_succ]
      refine Rg.take_ 5 (some 33) (.bool (decide (0 < best))) rfl rfl (by kernel_rfl) (by kernel_rfl) (by kernel_rfl) (fun _ _ _ h => h) (.inl ⟨by rfl, fun W' hS => (by go_simp)⟩) EB.out ?_
      simp only [Act.put, List.setIfInBounds_toArray, List.set_cons_zero, List.set_cons_succ]
      refine Rg.take_ 6 (some 2) (.int .i64 best) rfl rfl (by kernel_rfl) (by kernel_rfl) (by kernel_rfl) (fun _ _ _ h => h) (.inl ⟨by rfl, fun W' hS => (by go_simp)⟩) EB.out ?_
      simp only [Act.put, List.setIfInBounds_toArray, List.set_cons_zero, List.set_cons_succ]
      refine Rg.ready_one (i := 7) (by kernel_rfl) rfl rfl ?_
      have E8 := ofM_len v F best
      have zf : (bvals (ofM v F best)).toArray.size = 8 := by simp [bvals_length, E8]
      have H8 : Hid ((Try.prog.info? 92).map (·.size) = some (bvals (ofM v F best)).toArray.size) := Lib.hid (infoFl E8)
      obtain ⟨old, ho, hz⟩ := EB.out.2
      refine storeAt none 92 _ _ rfl rfl gz (bvals (ofM v F best)).toArray rfl rfl _ _ ho H8.out (by rw [hz, zf]) (all_oneCell_toArray (bvals_one _)) ?_
      have B9 := Lib.hid (barrRow (F := ofM v F best) ho)
      have gr := grownRow ho (bvals (ofM v F best)).toArray
      have G9 := Lib.hid (grown_own GD.out gr (fun i hi => by injection hi with hi; omega))
      have EB9 : Hid (EndB b gz D (wr.drew.setRow gz (bvals (ofM v F best)).toArray)) := Lib.hid ⟨EB.out.1.kept gr (by simp; omega), _, B9.out, zf⟩
      have LEN8 := Lib.hid E8
      clear gr ho hz zf E8 GD EB
      refine ⟨EB9.out, ?_⟩
      simp only [Act.put, List.setIfInBounds_toArray]
      generalize hcs : (bvals (ofM v F best)).toArray = cs at *
      have HC := Lib.hid hcs
      change wpAnyH _ _ _ _ _ _ _ _ (wr.drew.setRow gz cs)
      generalize wr.drew.setRow gz cs = w9 at *
      refine Rg.take_ 8 (some 4) (.bool (decide (0 < best))) rfl rfl (by kernel_rfl) (by kernel_rfl) (by kernel_rfl) (fun _ _ _ h => h) (.inl ⟨by rfl, fun W' hS => (by go_simp)⟩) EB9.out ?_
      simp only [Act.put, List.setIfInBounds_toArray, List.set_cons_zero, List.set_cons_succ]
      refine wpAnyH_done (by kernel_rfl) ?_ _
      have BT : Hid (BestT k v F w (.returned (.tuple #[.int .i64 best, .agg cs, .bool (decide (0 < best))])) w9) := Lib.hid ⟨best, ofM v F best, by rw [HC.out], LEN8.out, BB.out, fun _ => rfl, G9.out⟩
      have RS : Hid ((Try.prog.info? 92).map (·.size) = some cs.size) := H8
      have BC : Hid (w9.heap[gz]? = some (.cells cs 92 (0, 0))) := Lib.hid (by rw [← HC.out]; exact B9.out)
      clear hcs H8 B9 G9 EB9 BB LEN8
      generalize decide (0 < best) = db at *
      go_wp2_with fail
      refine bodyPost_ret (v := .tuple #[.int .i64 best, .agg cs, .bool db]) ?_ rfl BT.out
      exact results_tmp_row_tmp Try.results84 _ _ gz _ _ _ _ _ _ rfl rfl rfl BC.out Try.underlying92 rfl RS.out
    · intro x w3 cnt' hlx hhx hR hlt hgr hen
      have E8 := Lib.hid (ofM_len v F x)
      have G3 := Lib.hid (grown_own G.out hgr (fun j hj => by injection hj with hj; omega))
      have S3 := Lib.hid (S.out.kept hgr (by simp; omega))
      have Z3 := Lib.hid (Z.out.kept hgr (by simp; omega))
      have R3 := Lib.hid hR
      have LT := Lib.hid hlt
      have LM : Hid (wr.rangeLeft b r = cnt) := Lib.hid R.out.rng.left_eq
      have HX := Lib.hid hhx
      have LZ3 := hgr.size
      have hs := storeF w3 E8.out
      have hvl : (bvals (ofM v F x)).length = 8 := by rw [bvals_length]; exact E8.out
      have LB2 : b < w3.heap.size := by omega
      have LR2 : r < w3.heap.size := by omega
      have LG2 : g < w3.heap.size := S3.out.lt
      have GZ3 : w.heap.size ≤ w3.heap.size := by omega
      clear hlx hhx hR hlt hgr G S R Z
      obtain ⟨H, hH⟩ : ∃ H, H = ofM v F x := ⟨_, rfl⟩
      have HH := Lib.hid hH
      rw [← hH] at hs hvl hen E8 ⊢
      clear hH
      simp only [Act.put, List.setIfInBounds_toArray, List.set_cons_succ, List.set_cons_zero]
      go_upto_region 6 with fail
      have GN := Lib.hid (World.grownBy_alloc w3 (.cells (bvals H).toArray 92) none)
      have X4 := Lib.hid (BArr.new w3 92 H)
      have G4 := Lib.hid (grown_trans G3.out GN.out)
      have S4 := Lib.hid (S3.out.still GN.out)
      have Z4 := Lib.hid (Z3.out.still GN.out)
      have R4 := Lib.hid (R3.out.kept GN.out (by simp) (by simp))
      clear hs hvl hen G3 S3 R3 GN Z3
      generalize w3.alloc (.cells (bvals H).toArray 92) = w4 at *
      generalize w3.heap.size = gx at *
      have zf : (bvals H).toArray.size = 8 := by simp [bvals_length, E8.out]
      have H8 : Hid ((Try.prog.info? 92).map (·.size) = some (bvals H).toArray.size) := Lib.hid (infoFl E8.out)
      clear zf
      by_cases hgt : best < x
      · have hd : decide (best < x) = true := by simp [hgt]
        have GT := Lib.hid hgt
        apply wp_region_lit
        refine wpList_plain rfl (fun K hK => ?_)
        go_simp
        refine hK _ _ ?_
        clear hK
        refine wpList_plain rfl (fun K hK => ?_)
        go_simp
        refine hK _ _ ?_
        clear hK
        refine wpList_plain rfl (fun K hK => ?_)
        go_simp
        refine hK _ _ ?_
        clear hK
        refine wpList_plain rfl (fun K hK => ?_)
        go_simp
        refine hK _ _ ?_
        clear hK
        clear hd hgt
        go_guarded
        go_simp
        rename_i hK
        refine hK _ _ ?_
        clear hK
        go_guarded
        rename_i hK
        refine wp_load_mid _ _ rfl g 1 rfl (vals L) _ (S4.out.code_ HL.out) Try.underlying87 rfl HG.out (hK _ _ ?_)
        clear hK
        simp only [Act.put, List.setIfInBounds_toArray, List.set_cons_succ, List.set_cons_zero]
        go_guarded
        rename_i hK
        refine wp_load_row _ _ rfl gx rfl _ _ _ _ X4.out Try.underlying92 rfl H8.out (hK _ _ ?_)
        clear hK
        simp only [Act.put, List.setIfInBounds_toArray, List.set_cons_succ, List.set_cons_zero]
        go_wp2_with fail
        refine (GB.out H E8.out _).mono ?_
        rintro e w5 ⟨rfl, hg⟩
        have G5 := Lib.hid (grown_trans G4.out hg)
        have S5 := Lib.hid (S4.out.still hg)
        have Z5 := Lib.hid (Z4.out.still hg)
        have R5 := Lib.hid (R4.out.kept hg (by simp) (by simp))
        clear hg G4 S4 R4 X4 Z4
        obtain ⟨q, hq⟩ : ∃ q, Sp.bears k H = q := ⟨_, rfl⟩
        rw [hq]
        rw [HH.out] at hq
        have QQ := Lib.hid hq
        clear hq
        cases q with
        | true =>
          have LK := Lib.hid (DN.out.new GT.out HX.out QQ.out)
          go_wp2_with fail
          go_roundw
          case rel => exact ⟨x, _, _, rfl, LK.out, G5.out, S5.out, Z5.out, R5.out⟩
          case measure => rw [R5.out.rng.left_eq, LM.out]; exact LT.out
        | false =>
          have LK := Lib.hid (DN.out.stay (x := x) (fun h => by rw [QQ.out] at h; cases h))
          go_wp2_with fail
          go_roundw
          case rel => exact ⟨best, _, _, rfl, LK.out, G5.out, S5.out, Z5.out, R5.out⟩
          case measure => rw [R5.out.rng.left_eq, LM.out]; exact LT.out
      · have LK := Lib.hid (DN.out.stay (x := x) (fun _ => by omega))
        have hd : decide (best < x) = false := by simp only [decide_eq_false_iff_not]; exact hgt
        clear hgt
        go_wp2_with fail
        go_roundw
        case rel => exact ⟨best, _, _, rfl, LK.out, G4.out, S4.out, Z4.out, R4.out⟩
        case measure => rw [R4.out.rng.left_eq, LM.out]; exact LT.out
end Go.Proofs.Ythglkgicckodaaa
