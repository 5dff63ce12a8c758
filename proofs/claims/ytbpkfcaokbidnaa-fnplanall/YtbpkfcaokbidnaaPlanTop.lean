/-
  The contract of the program's PlanOf.
  Conditions: none.
-/
import Derived.Test.YtbpkfcaokbidnaaPlanFind
namespace Go.Proofs.Ytbpkfcaokbidnaa
open Go.RowKit
set_option linter.unusedVariables false

/-- a plan, as it is told: its number, its shards, how often each, and whether there is one. -/
def PlanT (k lost : Int) (f : List Bool) (n : Int) (l m : List Int) (b : Bool) : Prop :=
  (b = true ∧ ∃ (k' lost' : Nat) (S : List Nat), k = k' ∧ (k' = 1 ∨ k' = 2) ∧ lost = lost' ∧ lost' < 8 ∧ f.length = 8 ∧ Sp.planM k' lost' f = some S ∧ Sp.PlanBy k' lost' S m ∧ l = Sp.ints S ∧ n = lost') ∨
  (b = false ∧ n = 0 ∧ l = [] ∧ m = [] ∧ ∀ (k' lost' : Nat), k = k' → (k' = 1 ∨ k' = 2) → lost = lost' → lost' < 8 → f.length = 8 → Sp.planM k' lost' f = none)
theorem PlanT.one {k lost : Int} {f : List Bool} {n n' : Int} {l l' m m' : List Int} {b b' : Bool} (h : PlanT k lost f n l m b) (h' : PlanT k lost f n' l' m' b') : n = n' ∧ l = l' ∧ m = m' ∧ b = b' := by
  rcases h with ⟨rfl, k1, l1, S, rfl, hk, rfl, hl, hf, hp, hc, rfl, rfl⟩ | ⟨rfl, rfl, rfl, rfl, h⟩
  · rcases h' with ⟨rfl, k2, l2, S', e1, hk', e2, hl', hf', hp', hc', rfl, rfl⟩ | ⟨rfl, rfl, rfl, rfl, h'⟩
    · obtain rfl : k1 = k2 := by omega
      obtain rfl : l1 = l2 := by omega
      rw [hp] at hp'
      injection hp' with hp'
      subst hp'
      obtain ⟨_, _, hu, hcan, _⟩ := Sp.plan_some hp
      unfold Sp.can at hcan
      rw [Bool.and_eq_true] at hcan
      exact ⟨rfl, rfl, hc.one hk hu.lt hc' hcan.1, rfl⟩
    · have := h' k1 l1 rfl hk rfl hl hf
      rw [hp] at this; cases this
  · rcases h' with ⟨rfl, k2, l2, S', rfl, hk', rfl, hl', hf', hp', hc', rfl, rfl⟩ | ⟨rfl, rfl, rfl, rfl, h'⟩
    · have := h k2 l2 rfl hk' rfl hl' hf'
      rw [hp'] at this; cases this
    · exact ⟨rfl, rfl, rfl, rfl⟩
/-- a call that answers with a plan, and whether there is one. -/
def NewP (k lost : Int) (f : List Bool) (w : World) (e : Ending) (w' : World) : Prop :=
  ∃ (n : Int) (l m : List Int) (b : Bool) (u v : Value), PlanT k lost f n l m b ∧ e = .returned (.tuple #[.agg #[.int .i64 n, u, v], .bool b]) ∧ w.grownBy w' none ∧ TwoOwn w' w.heap.size u v l m
theorem PlanOut.told {k lost : Nat} (hk : k = 1 ∨ k = 2) (hl : lost < 8) {f : List Bool} (hf : f.length = 8) {w : World} {e : Ending} {w' : World} (h : PlanOut k lost f w e w') : NewP k lost f w e w' := by
  obtain ⟨hg, ⟨S, c, u, v, hp, hc, he, ht⟩ | ⟨hp, he⟩⟩ := h
  · exact ⟨lost, Sp.ints S, c, true, u, v, .inl ⟨rfl, k, lost, S, rfl, hk, rfl, hl, hf, hp, hc, rfl, rfl⟩, he, hg, ht⟩
  · refine ⟨0, [], [], false, _, _, .inr ⟨rfl, rfl, rfl, rfl, fun k' l' e1 _ e2 _ _ => ?_⟩, he, hg, Own.none_ _ _, Own.none_ _ _, .inl rfl⟩
    obtain rfl : k = k' := by omega
    obtain rfl : lost = l' := by omega
    exact hp
theorem PlanT.nope {k lost : Int} {f : List Bool} (h : ¬ ((k = 1 ∨ k = 2) ∧ (0 ≤ lost ∧ lost < 8) ∧ f.length = 8)) : PlanT k lost f 0 [] [] false :=
  .inr ⟨rfl, rfl, rfl, rfl, fun k' l' e1 h1 e2 h2 h3 => absurd ⟨by omega, by omega, h3⟩ h⟩

set_option maxHeartbeats 4000000 in
set_option maxRecDepth 20000 in
theorem implPlanOf (k lost : Int) (v : Value) (f : List Bool) (w : World) (hv : Bl w v f) : Calls Try.prog 17 #[.int .i64 k, .int .i64 lost, v] w (NewP k lost f w) := by
  have R0 : Hid (Blk (w.alloc (.cells #[.int .i64 0, .slice none 0 0, .slice none 0 0] 28)) w.heap.size 28 [.int .i64 0, .slice none 0 0, .slice none 0 0]) := Lib.hid (heap_alloc_new _ _)
  have G0 := Lib.hid (grown_alloc (World.grownBy.refl w none) (.cells #[.int .i64 0, .slice none 0 0, .slice none 0 0] 28))
  have V := Lib.hid hv
  clear hv
  go_enter Try.func17, Try.ntmps17
  go_wp2_with fail
  generalize w.alloc (.cells #[.int .i64 0, .slice none 0 0, .slice none 0 0] 28) = w0 at *
  obtain ⟨r, hr⟩ : ∃ r, r = w.heap.size := ⟨_, rfl⟩
  rw [← hr] at R0 ⊢
  have RL : w.heap.size ≤ r := by omega
  clear hr
  refine (implGen k _).mono ?_
  rintro e w1 ⟨L, bk, hL, hbk, hbL, rfl, hg⟩
  have hs := storeNew w1 hL
  have hvl : (vals L).length = 32 := by rw [vals_length]; exact hL
  have G2 := Lib.hid (grown_alloc (grown_trans G0.out hg) (.cells (vals L).toArray 79))
  have A2 := Lib.hid (Arr.new w1 79 L)
  have R2 := Lib.hid ((R0.out.kept hg (by simp)).kept (World.grownBy_alloc w1 (.cells (vals L).toArray 79) none) (by simp))
  have HL := Lib.hid hL
  have BK := Lib.hid hbk
  have BL := Lib.hid hbL
  clear hg hL hbk hbL R0 G0
  go_wp2_with fail
  clear hs hvl
  generalize w1.alloc (.cells (vals L).toArray 79) = w2 at *
  generalize w1.heap.size = g at *
  refine (implFlags v f _ (V.out.grown G2.out)).mono ?_
  rintro e w5 ⟨F, bf, hF, hbf, hbF, rfl, hg⟩
  have hs := storeF w5 hF
  have hvl : (bvals F).length = 8 := by rw [bvals_length]; exact hF
  have G6 := Lib.hid (grown_alloc (grown_trans G2.out hg) (.cells (bvals F).toArray 83))
  have A6 := Lib.hid ((A2.out.still hg).alloc (.cells (bvals F).toArray 83))
  have R6 := Lib.hid ((R2.out.kept hg (by simp)).kept (World.grownBy_alloc w5 (.cells (bvals F).toArray 83) none) (by simp))
  have F6 := Lib.hid (BArr.new w5 83 F)
  have HF := Lib.hid hF
  have BF := Lib.hid hbf
  have BFF := Lib.hid hbF
  clear hg A2 R2 G2 hF hbf hbF V
  go_upto_region 3 with fail
  clear hs hvl
  generalize w5.alloc (.cells (bvals F).toArray 83) = w6 at *
  generalize w5.heap.size = gf at *
  have k0 := R6.out.cell (i := 0) rfl
  have k1 := R6.out.cell (i := 1) rfl
  have k2 := R6.out.cell (i := 2) rfl
  have f0 := R6.out.frozen 0
  have f1 := R6.out.frozen 1
  have f2 := R6.out.frozen 2
  have R7 : Hid (Blk (((w6.setCell ⟨r, 0, none⟩ (.int .i64 0)).setCell ⟨r, 1, none⟩ (.slice none 0 0)).setCell ⟨r, 2, none⟩ (.slice none 0 0)) r 28 [.int .i64 0, .slice none 0 0, .slice none 0 0]) := Lib.hid (((R6.out.put 0 (.int .i64 0)).put 1 (.slice none 0 0)).put 2 (.slice none 0 0))
  have G7 : Hid (w.grownBy (((w6.setCell ⟨r, 0, none⟩ (.int .i64 0)).setCell ⟨r, 1, none⟩ (.slice none 0 0)).setCell ⟨r, 2, none⟩ (.slice none 0 0)) none) := Lib.hid (grown_set (grown_set (grown_set G6.out RL _) RL _) RL _)
  cases bk with
  | false =>
    have NO : Hid (PlanT k lost f 0 [] [] false) := Lib.hid (PlanT.nope fun h => by have := BK.out.2 h.1; cases this)
    clear A6 F6
    go_wp2_with fail
    exact bodyPost_ret (v := .tuple #[.agg #[.int .i64 0, .slice none 0 0, .slice none 0 0], .bool false]) (results_row_slot Try.results17 _ _ r _ _ _ _ _ rfl rfl R7.out Try.underlying28 rfl (by kernel_rfl)) rfl ⟨0, [], [], false, _, _, NO.out, rfl, G7.out, Own.none_ _ _, Own.none_ _ _, .inl rfl⟩
  | true =>
    have kk := BK.out.1 rfl
    obtain ⟨j, rfl, hj⟩ : ∃ j : Nat, k = j ∧ (j = 1 ∨ j = 2) := ⟨k.toNat, by omega, by omega⟩
    obtain rfl : L = grid j := by have := BL.out rfl; simpa using this
    clear kk BK BL
    cases bf with
    | false =>
      have NO : Hid (PlanT j lost f 0 [] [] false) := Lib.hid (PlanT.nope fun h => by have := BF.out.2 h.2.2; cases this)
      clear A6 F6
      go_wp2_with fail
      exact bodyPost_ret (v := .tuple #[.agg #[.int .i64 0, .slice none 0 0, .slice none 0 0], .bool false]) (results_row_slot Try.results17 _ _ r _ _ _ _ _ rfl rfl R7.out Try.underlying28 rfl (by kernel_rfl)) rfl ⟨0, [], [], false, _, _, NO.out, rfl, G7.out, Own.none_ _ _, Own.none_ _ _, .inl rfl⟩
    | true =>
      obtain rfl : F = f := BFF.out rfl
      clear BF BFF
      by_cases hlo : 0 ≤ lost ∧ lost < 8
      · obtain ⟨n, rfl⟩ : ∃ n : Nat, lost = n := ⟨lost.toNat, by omega⟩
        have hn : n < 8 := by omega
        have GP := Lib.hid (fun w => (genPlan hj hn F HF.out w).mono fun e w' h => PlanOut.told hj hn HF.out h)
        have zl : (vals (grid j)).toArray.size = 32 := by simp [vals_length, HL.out]
        have hi : (Try.prog.info? 79).map (·.size) = some (vals (grid j)).toArray.size := by rw [zl]; kernel_rfl
        have zf : (bvals F).toArray.size = 8 := by simp [bvals_length, HF.out]
        have hj3 : (Try.prog.info? 83).map (·.size) = some (bvals F).toArray.size := by rw [zf]; kernel_rfl
        have H1 := Lib.hid hi
        have H3 := Lib.hid hj3
        have SI := Lib.hid (fun w => shardIn (n : Int) hlo.1 hlo.2 w)
        clear hi hj3 zl zf HL HF R7 G7 hlo
        generalize grid j = L at *
        go_wp2_with fail
        refine (SI.out _).mono ?_
        rintro e w' ⟨rfl, rfl⟩
        go_upto_region 5 with fail
        apply wp_region_lit
        refine wpList_load_row rfl _ _ rfl g rfl _ _ _ _ A6.out Try.underlying79 rfl H1.out ?_
        refine wpList_plain rfl (fun K hK => ?_)
        go_simp
        refine hK _ _ ?_
        clear hK
        refine wpList_load_row rfl _ _ rfl gf rfl _ _ _ _ F6.out Try.underlying83 rfl H3.out ?_
        clear A6 F6 H1 H3 SI
        generalize vals L = lv at *
        generalize bvals F = fv at *
        go_wp2_with fail
        refine (GP.out _).mono ?_
        rintro e w8 ⟨m, l, c, b, p, q, hT, rfl, hg, h2⟩
        have R8 := Lib.hid (R6.out.kept hg (by simp))
        have G8 := Lib.hid (grown_trans G6.out hg)
        have T8 := Lib.hid (h2.lower (show r + 1 ≤ w6.heap.size from R6.out.lt))
        have HT := Lib.hid hT
        clear hg h2 hT G6 R6 k0 k1 k2 f0 f1 f2 GP
        have k0 := R8.out.cell (i := 0) rfl
        have k1 := R8.out.cell (i := 1) rfl
        have k2 := R8.out.cell (i := 2) rfl
        have f0 := R8.out.frozen 0
        have f1 := R8.out.frozen 1
        have f2 := R8.out.frozen 2
        have T' := T8
        obtain ⟨au, cu, eu, _, _, _⟩ := T8.out.1.sl
        obtain ⟨av, cv, ev, _, _, _⟩ := T8.out.2.1.sl
        generalize l.length = nl at *
        generalize c.length = ml at *
        subst eu ev
        clear T8
        have gs : w8.grownBy (((w8.setCell ⟨r, 0, none⟩ (.int .i64 m)).setCell ⟨r, 1, none⟩ (.slice au nl cu)).setCell ⟨r, 2, none⟩ (.slice av ml cv)) (some r) := grown_at (grown_at (grown_at (World.grownBy.refl w8 (some r)) 0 _) 1 _) 2 _
        have R9 : Hid (Blk (((w8.setCell ⟨r, 0, none⟩ (.int .i64 m)).setCell ⟨r, 1, none⟩ (.slice au nl cu)).setCell ⟨r, 2, none⟩ (.slice av ml cv)) r 28 [.int .i64 m, .slice au nl cu, .slice av ml cv]) := Lib.hid (((R8.out.put 0 (.int .i64 m)).put 1 (.slice au nl cu)).put 2 (.slice av ml cv))
        have T9 : Hid (TwoOwn (((w8.setCell ⟨r, 0, none⟩ (.int .i64 m)).setCell ⟨r, 1, none⟩ (.slice au nl cu)).setCell ⟨r, 2, none⟩ (.slice av ml cv)) w.heap.size (.slice au nl cu) (.slice av ml cv) l c) := Lib.hid (TwoOwn.lower ⟨T'.out.1.kept gs (.inr fun e => far_own T'.out.1 (by omega) e.symm), T'.out.2.1.kept gs (.inr fun e => far_own T'.out.2.1 (by omega) e.symm), T'.out.2.2⟩ (by omega))
        have G9 : Hid (w.grownBy (((w8.setCell ⟨r, 0, none⟩ (.int .i64 m)).setCell ⟨r, 1, none⟩ (.slice au nl cu)).setCell ⟨r, 2, none⟩ (.slice av ml cv)) none) := Lib.hid (grown_set (grown_set (grown_set G8.out RL _) RL _) RL _)
        clear gs T' R8 G8
        go_wp2_with fail
        exact bodyPost_ret (v := .tuple #[.agg #[.int .i64 m, .slice au nl cu, .slice av ml cv], .bool b]) (results_row_slot Try.results17 _ _ r _ _ _ _ _ rfl rfl R9.out Try.underlying28 rfl (by kernel_rfl)) rfl ⟨m, l, c, b, _, _, HT.out, rfl, G9.out, T9.out⟩
      · have NO : Hid (PlanT j lost F 0 [] [] false) := Lib.hid (PlanT.nope fun h => hlo h.2.1)
        have SO := Lib.hid (fun w => shardOut lost (by omega) w)
        clear A6 F6 hlo
        go_wp2_with fail
        refine (SO.out _).mono ?_
        rintro e w' ⟨rfl, rfl⟩
        go_wp2_with fail
        exact bodyPost_ret (v := .tuple #[.agg #[.int .i64 0, .slice none 0 0, .slice none 0 0], .bool false]) (results_row_slot Try.results17 _ _ r _ _ _ _ _ rfl rfl R7.out Try.underlying28 rfl (by kernel_rfl)) rfl ⟨0, [], [], false, _, _, NO.out, rfl, G7.out, Own.none_ _ _, Own.none_ _ _, .inl rfl⟩
end Go.Proofs.Ytbpkfcaokbidnaa
