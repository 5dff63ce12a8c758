/-
  The contracts of PlanAll, of the program and of the model.
  Conditions: none.
-/
import Derived.Test.YtbpkfcaokbidnabPlanTab
namespace Go.Proofs.Ytbpkfcaokbidnab
open Go.RowKit
set_option linter.unusedVariables false

theorem infoPlan : (Try.prog.info? 35).map (fun i => (i.zero, i.size, i.bytes)) = some (some (.agg #[.int .i64 0, .slice none 0 0, .slice none 0 0]), 3, 56) := by kernel_rfl
theorem three_cells {w : World} {x y z : Value} {t : TypeId} : ∀ j v, [x, y, z][j]? = some v → (w.alloc (.cells #[x, y, z] t)).cell? ((⟨w.heap.size, 0, none⟩ : Addr).add j) = some v := by
  intro j v hj
  rw [Addr.add_lit]
  have hb : Blk (w.alloc (.cells #[x, y, z] t)) w.heap.size t [x, y, z] := heap_alloc_new _ _
  exact hb.cell (by simpa using hj)
theorem idxF (a0 a1 a2 a3 a4 a5 a6 a7 : Bool) {n : Nat} (hn : n < 8) (W : World) : (Instr.index 80 (.agg (bvals [a0, a1, a2, a3, a4, a5, a6, a7]).toArray) (.int .i64 n)).run Try.prog W = .ok (.bool ([a0, a1, a2, a3, a4, a5, a6, a7].getD n false)) W := by
  rcases (by omega : n = 0 ∨ n = 1 ∨ n = 2 ∨ n = 3 ∨ n = 4 ∨ n = 5 ∨ n = 6 ∨ n = 7) with rfl | rfl | rfl | rfl | rfl | rfl | rfl | rfl <;> kernel_rfl
theorem AllT.nope {k : Int} {f : List Bool} (h : ¬ ((k = 1 ∨ k = 2) ∧ f.length = 8)) : AllT k f false [] := .inr ⟨rfl, rfl, fun h1 h2 => absurd ⟨h1, h2⟩ h⟩
theorem PAll.len {k : Int} {f : List Bool} {n : Nat} {L : List PIt} (h : PAll k f n L) (hn : n ≤ 8) : L.length ≤ 8 := by
  rw [h.1]
  refine Nat.le_trans (List.length_filter_le _ _) ?_
  simpa using hn

theorem lt_of_heap {w : World} {g : Nat} {o : Obj} (h : w.heap[g]? = some o) : g < w.heap.size := by
  rcases Nat.lt_or_ge g w.heap.size with hl | hl
  · exact hl
  · rw [Array.getElem?_eq_none hl] at h; cases h
theorem plan_not {w : World} {base g : Nat} {vv : Value} {n : Nat} {xs : List Value} {cs : Array Value} {t : TypeId} {fr : Nat × Nat} (h : w.ownsRow base 35 3 vv n xs) (k : w.heap[g]? = some (.cells cs t fr)) (ht : t ≠ 35) : some g ≠ vv.ownBlock := by
  rcases h.2 with ⟨e, _⟩ | ⟨g', cap, cur, e, _, hg, _⟩
  · rw [e]; simp [Value.ownBlock]
  · rw [e]
    intro eq
    injection eq with eq
    have eq' : g = g' := eq
    subst eq'
    rw [k] at hg
    injection hg with hg
    injection hg with _ hg
    exact ht hg

set_option maxHeartbeats 8000000 in
set_option maxRecDepth 20000 in
theorem implPlanAll (k : Int) (v : Value) (f : List Bool) (w : World) (hv : Bl w v f) : Calls Try.prog 17 #[.int .i64 k, v] w (NewAll k f w) := by
  have V := Lib.hid hv
  clear hv
  obtain ⟨i0, hi, hz0, hz1, hz2⟩ := info_parts infoPlan
  have I1 := Lib.hid hi
  have I2 := Lib.hid hz0
  have I3 := Lib.hid hz1
  have I4 := Lib.hid hz2
  clear hi hz0 hz1 hz2
  go_enter Try.func17, Try.ntmps17
  go_wp2_with fail
  refine (implGen k _).mono ?_
  rintro e w1 ⟨L, bk, hL, hbk, hbL, rfl, hg⟩
  have hs := storeNew w1 hL
  have hvl : (vals L).length = 32 := by rw [vals_length]; exact hL
  have G2 := Lib.hid (grown_alloc hg (.cells (vals L).toArray 76))
  have A2 := Lib.hid (Arr.new w1 76 L)
  have HL := Lib.hid hL
  have BK := Lib.hid hbk
  have BL := Lib.hid hbL
  clear hg hL hbk hbL
  go_wp2_with fail
  clear hs hvl
  generalize w1.alloc (.cells (vals L).toArray 76) = w2 at *
  generalize w1.heap.size = g at *
  refine (implFlags v f _ (V.out.grown G2.out)).mono ?_
  rintro e w5 ⟨F, bf, hF, hbf, hbF, rfl, hg⟩
  have hs := storeF w5 hF
  have hvl : (bvals F).length = 8 := by rw [bvals_length]; exact hF
  have G6 := Lib.hid (grown_alloc (grown_trans G2.out hg) (.cells (bvals F).toArray 80))
  have A6 := Lib.hid ((A2.out.still hg).alloc (.cells (bvals F).toArray 80))
  have F6 := Lib.hid (BArr.new w5 80 F)
  have HF := Lib.hid hF
  have BF := Lib.hid hbf
  have BFF := Lib.hid hbF
  clear hg A2 G2 hF hbf hbF V
  go_upto_region 3 with fail
  clear hs hvl
  generalize w5.alloc (.cells (bvals F).toArray 80) = w6 at *
  generalize w5.heap.size = gf at *
  cases bk with
  | false =>
    have NO : Hid (AllT k f false []) := Lib.hid (AllT.nope fun h => by have := BK.out.2 h.1; cases this)
    clear A6 F6
    go_wp2_with fail
    exact bodyPost_ret (v := .tuple #[.slice none 0 0, .bool false]) (by simp [results, Try.results17, go_sem]) rfl ⟨false, [], _, NO.out, rfl, G6.out, PTab.none_ _ _⟩
  | true =>
    have kk := BK.out.1 rfl
    obtain ⟨j, rfl, hj⟩ : ∃ j : Nat, k = j ∧ (j = 1 ∨ j = 2) := ⟨k.toNat, by omega, by omega⟩
    obtain rfl : L = grid j := by have := BL.out rfl; simpa using this
    clear BK BL
    cases bf with
    | false =>
      have NO : Hid (AllT j f false []) := Lib.hid (AllT.nope fun h => by have := BF.out.2 h.2; cases this)
      clear A6 F6
      go_wp2_with fail
      exact bodyPost_ret (v := .tuple #[.slice none 0 0, .bool false]) (by simp [results, Try.results17, go_sem]) rfl ⟨false, [], _, NO.out, rfl, G6.out, PTab.none_ _ _⟩
    | true =>
      obtain rfl : F = f := BFF.out rfl
      clear BF BFF
      have IX : Hid (∀ (n : Nat) (h : n < 8) (W : World), (Instr.index 80 (.agg (bvals F).toArray) (.int .i64 n)).run Try.prog W = .ok (.bool (F.getD n false)) W) := Lib.hid (by
        have hF := HF.out
        obtain ⟨a0, a1, a2, a3, a4, a5, a6, a7, rfl⟩ := list_eight hF
        exact fun n h W => idxF a0 a1 a2 a3 a4 a5 a6 a7 h W)
      have GP := Lib.hid (fun (n : Nat) (hn : n < 8) w => (genPlan hj hn F HF.out w).mono fun e w' h => PlanOut.told hj hn HF.out h)
      have zl : (vals (grid j)).toArray.size = 32 := by simp [vals_length, HL.out]
      have hi : (Try.prog.info? 76).map (·.size) = some (vals (grid j)).toArray.size := by rw [zl]; kernel_rfl
      have zf : (bvals F).toArray.size = 8 := by simp [bvals_length, HF.out]
      have hj3 : (Try.prog.info? 80).map (·.size) = some (bvals F).toArray.size := by rw [zf]; kernel_rfl
      have H1 := Lib.hid hi
      have H3 := Lib.hid hj3
      have P0 : Hid (PTab w6 w.heap.size (.slice none 0 0) []) := Lib.hid (PTab.none_ _ _)
      have KK := Lib.hid kk
      have HJ := Lib.hid hj
      clear hi hj3 zl zf HL kk hj
      have A6' : Hid (Arr w6 g 76 (grid j)) := A6
      have A6V : Hid (w6.heap[g]? = some (.cells (vals (grid j)).toArray 76 (0, 0))) := Lib.hid A6.out
      have F6V : Hid (w6.heap[gf]? = some (.cells (bvals F).toArray 80 (0, 0))) := Lib.hid F6.out
      clear A6 A6' F6
      generalize vals (grid j) = gv at *
      generalize bvals F = fv at *
      go_upto_region 6 with fail
      apply wp_region_lit
      refine wpList_load_row rfl _ _ rfl gf rfl _ _ _ _ F6V.out Try.underlying80 rfl H3.out ?_
      go_wp2_with fail
      go_loopw [10, 32] (fun o i wr => ∃ (n : Nat) (L : List PIt), n ≤ 8 ∧ i = .int .i64 n ∧ PTab wr w.heap.size o L ∧ PAll j F n L ∧ w.grownBy wr none ∧ wr.heap[g]? = some (.cells gv.toArray 76 (0, 0)) ∧ wr.heap[gf]? = some (.cells fv.toArray 80 (0, 0))) (fun _ i _ => 8 - (intOf i).toNat)
      case atStart => exact ⟨0, [], by omega, rfl, P0.out, PAll.start _ _, G6.out, A6V.out, F6V.out⟩
      case round =>
        obtain ⟨n, L, hn, rfl, hp, hall, hg, hga, hgf⟩ := hrel
        have P := Lib.hid hp
        have AL := Lib.hid hall
        have G := Lib.hid hg
        have A := Lib.hid hga
        have FF := Lib.hid hgf
        clear hp hall hg hga hgf P0 G6 A6V F6V
        have l8 := AL.out.len hn
        by_cases hlt : n < 8
        · have hlt' : (n : Int) < 8 := by omega
          have ix := IX.out n hlt wr
          cases hfn : F.getD n false with
          | true =>
            rw [hfn] at ix
            have AL1 := Lib.hid (AL.out.yes hfn)
            clear hfn AL
            go_wp2_with fail
            go_roundw
            case rel => exact ⟨n + 1, L, by omega, by go_num, P.out, AL1.out, G.out, A.out, FF.out⟩
            case measure => simp [intOf]; omega
          | false =>
            rw [hfn] at ix
            have HN := Lib.hid hfn
            clear hfn
            go_upto_region 10 with fail
            clear ix
            apply wp_region_lit
            refine wpList_load_row rfl _ _ rfl g rfl _ _ _ _ A.out Try.underlying76 rfl H1.out ?_
            refine wpList_plain rfl (fun K hK => ?_)
            go_simp
            refine hK _ _ ?_
            clear hK
            refine wpList_load_row rfl _ _ rfl gf rfl _ _ _ _ FF.out Try.underlying80 rfl H3.out ?_
            go_wp2_with fail
            refine (GP.out n hlt _).mono ?_
            rintro e w7 ⟨d, l, m, b, p, q, hT, rfl, hg, ht⟩
            obtain ⟨au, nu, cu, av, nv, cv, rfl, rfl⟩ := ht.form
            have ga := World.grownBy_alloc w7 (.cells #[.int .i64 d, .slice au nu cu, .slice av nv cv] 35) none
            have G7 : Hid (wr.grownBy (w7.alloc (.cells #[.int .i64 d, .slice au nu cu, .slice av nv cv] 35)) none) := Lib.hid (grown_alloc hg _)
            have T7 : Hid (TwoOwn (w7.alloc (.cells #[.int .i64 d, .slice au nu cu, .slice av nv cv] 35)) wr.heap.size (.slice au nu cu) (.slice av nv cv) l m) := Lib.hid (ht.still ga)
            have K7 : Hid (Blk (w7.alloc (.cells #[.int .i64 d, .slice au nu cu, .slice av nv cv] 35)) w7.heap.size 35 [.int .i64 d, .slice au nu cu, .slice av nv cv]) := Lib.hid (heap_alloc_new _ _)
            have HT := Lib.hid hT
            have s7 : w.heap.size ≤ (w7.alloc (.cells #[.int .i64 d, .slice au nu cu, .slice av nv cv] 35)).heap.size := Nat.le_trans G.out.size G7.out.size
            have sr : w.heap.size ≤ wr.heap.size := G.out.size
            clear hg ht hT ga
            go_upto_region 11 with fail
            generalize w7.alloc (.cells #[.int .i64 d, .slice au nu cu, .slice av nv cv] 35) = w8 at *
            generalize w7.heap.size = pb at *
            cases b with
            | false =>
              have NO : Hid (AllT j F false []) := Lib.hid (.inr ⟨rfl, rfl, fun _ _ => ⟨n, hlt, HN.out, by rw [Int.toNat_natCast]; exact planT_none HJ.out hlt HF.out HT.out⟩⟩)
              clear K7
              go_wp2_with fail
              exact bodyPost_ret (v := .tuple #[.slice none 0 0, .bool false]) (by simp [results, Try.results17, go_sem]) rfl ⟨false, [], _, NO.out, rfl, grown_trans G.out G7.out, PTab.none_ _ _⟩
            | true =>
              have AL1 := Lib.hid (fun u v => AL.out.no (u := u) (v := v) HN.out HT.out)
              have TOP := Lib.hid (P.out.still G7.out).top
              have k0 := K7.out.cell (i := 0) rfl
              have k1 := K7.out.cell (i := 1) rfl
              have k2 := K7.out.cell (i := 2) rfl
              have A7 := Lib.hid ((G7.out.block g (lt_of_heap A.out) (by simp)).trans A.out)
              have F7 := Lib.hid ((G7.out.block gf (lt_of_heap FF.out) (by simp)).trans FF.out)
              go_wp2_with (first
                | (at_builtin; refine wpList_append_own _ rfl _ _ 23 rfl w.heap.size 35 i0 (.agg #[.int .i64 0, .slice none 0 0, .slice none 0 0]) 3 56 Try.underlying23 I1.out I2.out I3.out I4.out rfl (by decide) _ _ _ rfl (World.ownsRow.alloc TOP.out _) ⟨w8.heap.size, 0, none⟩ 1 1 [.int .i64 d, .slice au nu cu, .slice av nv cv] rfl rfl three_cells (by simp [Value.oneCell']) ?c3 ?c4 ?c5 ?_))
              case c3 => unfold maxLen; omega
              case c4 => omega
              case c5 => simp; omega
              intro o' w9 ho2 hg2 _
              have g9 : w8.grownBy w9 u10.ownBlock := grown_trans (World.grownBy_alloc _ _ _) hg2
              have P9 : Hid (PTab w9 w.heap.size o' (L ++ [⟨d, .slice au nu cu, .slice av nv cv, l, m⟩])) := Lib.hid (P.out.snoc sr G7.out T7.out g9 ho2 rfl)
              have G9 : Hid (w.grownBy w9 none) := Lib.hid (grown_own (grown_trans G.out G7.out) g9 (fun j hj => (World.ownsRow.lt TOP.out j hj).1))
              have A9 : Hid (w9.heap[g]? = some (.cells gv.toArray 76 (0, 0))) := Lib.hid ((g9.block g (lt_of_heap A7.out) (plan_not TOP.out A7.out (by decide))).trans A7.out)
              have F9 : Hid (w9.heap[gf]? = some (.cells fv.toArray 80 (0, 0))) := Lib.hid ((g9.block gf (lt_of_heap F7.out) (plan_not TOP.out F7.out (by decide))).trans F7.out)
              have AL9 := Lib.hid (AL1.out (.slice au nu cu) (.slice av nv cv))
              clear ho2 hg2 g9 TOP P T7 K7 AL AL1 k0 k1 k2 A FF A7 F7
              go_wp2_with fail
              go_roundw
              case rel => exact ⟨n + 1, _, by omega, by go_num, P9.out, AL9.out, G9.out, A9.out, F9.out⟩
              case measure => simp [intOf]; omega
        · obtain rfl : n = 8 := by omega
          have YES : Hid (AllT j F true L) := Lib.hid (.inl ⟨rfl, KK.out, HF.out, AL.out⟩)
          obtain ⟨pa, pc, pe, _, _⟩ := P.out.form
          subst pe
          go_wp2_with fail
          exact bodyPost_ret (v := .tuple #[.slice pa L.length pc, .bool true]) (by simp [results, Try.results17, go_sem]) rfl ⟨true, L, _, YES.out, rfl, G.out, P.out⟩

set_option maxHeartbeats 8000000 in
set_option maxRecDepth 20000 in
theorem specPlanAll (k : Int) (v : Value) (f : List Bool) (w : World) (hv : Bl w v f) : Calls Try.prog 15 #[.int .i64 k, v] w (NewAll k f w) := by
  have V := Lib.hid hv
  obtain ⟨av0, cv0, ev0, d1, d2, _⟩ := hv
  subst ev0
  unfold maxLen at d2
  obtain ⟨i0, hi, hz0, hz1, hz2⟩ := info_parts infoPlan
  have I1 := Lib.hid hi
  have I2 := Lib.hid hz0
  have I3 := Lib.hid hz1
  have I4 := Lib.hid hz2
  clear hi hz0 hz1 hz2
  have KI := Lib.hid (fun w => specKind k w)
  obtain ⟨qk, hqk⟩ : ∃ q, kindM k = q := ⟨_, rfl⟩
  rw [hqk] at KI
  have QK : Hid (qk = true ↔ k = 1 ∨ k = 2) := Lib.hid (by
    rcases kind_cases k with ⟨n, rfl, hn⟩ | ⟨h1, h2⟩
    · rw [← hqk, kindM_yes hn]; exact ⟨fun _ => by omega, fun _ => rfl⟩
    · rw [← hqk, kindM_no h1 h2]; exact ⟨fun h => (by cases h), fun h => by omega⟩)
  have P0 : Hid (PTab (w.alloc (.cells #[] 35)) w.heap.size (.slice (some ⟨w.heap.size, 0, none⟩) 0 0) []) := Lib.hid (PTab.made w _ (Nat.le_refl _))
  have G0 := Lib.hid (grown_alloc (World.grownBy.refl w none) (.cells #[] 35))
  clear hqk
  go_enter Try.func15, Try.ntmps15
  go_wp2_with fail
  generalize w.alloc (.cells #[] 35) = w0 at *
  obtain ⟨r, hr⟩ : ∃ r, r = w.heap.size := ⟨_, rfl⟩
  have HR := Lib.hid hr
  rw [← hr]
  have P0' : Hid (PTab w0 w.heap.size (.slice (some ⟨r, 0, none⟩) 0 0) []) := Lib.hid (by rw [hr]; exact P0.out)
  clear hr P0
  refine (KI.out _).mono ?_
  rintro e w' ⟨rfl, rfl⟩
  cases qk with
  | false =>
    have NO : Hid (AllT k f false []) := Lib.hid (AllT.nope fun h => by have := QK.out.2 h.1; cases this)
    go_wp2_with fail
    exact bodyPost_ret (v := .tuple #[.slice (some ⟨r, 0, none⟩) 0 0, .bool false]) (by simp [results, Try.results15, go_sem]) rfl ⟨false, [], _, NO.out, rfl, G0.out, P0'.out⟩
  | true =>
    have kk := QK.out.1 (by first | rfl | trivial)
    obtain ⟨j, rfl, hj⟩ : ∃ j : Nat, k = j ∧ (j = 1 ∨ j = 2) := ⟨k.toNat, by omega, by omega⟩
    clear QK KI
    by_cases h8 : f.length = 8
    · have HF := Lib.hid h8
      have GP := Lib.hid (fun (n : Nat) (hn : n < 8) v w (hb : Bl w v f) => (specL11Of hj hn f h8 v w hb).mono fun e w' h => PlanOut.told hj hn h8 h)
      have KK := Lib.hid kk
      have HJ := Lib.hid hj
      rw [h8] at V d1 ⊢
      clear h8 kk hj
      go_wp2_with fail
      go_loopw [6, 7] (fun o i wr => ∃ (n : Nat) (L : List PIt), n ≤ 8 ∧ i = .int .i64 n ∧ PTab wr w.heap.size o L ∧ PAll j f n L ∧ w.grownBy wr none) (fun _ i _ => 8 - (intOf i).toNat)
      case atStart => exact ⟨0, [], by omega, rfl, P0'.out, PAll.start _ _, G0.out⟩
      case round =>
        obtain ⟨n, L, hn, rfl, hp, hall, hg⟩ := hrel
        have P := Lib.hid hp
        have AL := Lib.hid hall
        have G := Lib.hid hg
        clear hp hall hg P0' G0
        have l8 := AL.out.len hn
        by_cases hlt : n < 8
        · have hlt' : (n : Int) < 8 := by omega
          obtain ⟨a', c', e', _, _, hr⟩ := V.out.grown G.out
          injection e' with e1 e2 e3
          subst e1 e3
          obtain ⟨b, o, rfl, hx⟩ := hr.at_ (k := n) (by rw [HF.out]; exact hlt)
          clear e2 hr
          cases hfn : f.getD n false with
          | true =>
            rw [hfn] at hx
            have AL1 := Lib.hid (AL.out.yes hfn)
            clear hfn AL
            go_wp2_with fail
            go_roundw
            case rel => exact ⟨n + 1, L, by omega, by go_num, P.out, AL1.out, G.out⟩
            case measure => simp [intOf]; omega
          | false =>
            rw [hfn] at hx
            have HN := Lib.hid hfn
            clear hfn
            go_wp2_with fail
            clear hx
            refine (GP.out n hlt _ _ (V.out.grown G.out)).mono ?_
            rintro e w7 ⟨d, l, m, q, p, q', hT, rfl, hg, ht⟩
            obtain ⟨au, nu, cu, av, nv, cv, rfl, rfl⟩ := ht.form
            have ga := World.grownBy_alloc w7 (.cells #[.int .i64 d, .slice au nu cu, .slice av nv cv] 35) none
            have G7 : Hid (wr.grownBy (w7.alloc (.cells #[.int .i64 d, .slice au nu cu, .slice av nv cv] 35)) none) := Lib.hid (grown_alloc hg _)
            have T7 : Hid (TwoOwn (w7.alloc (.cells #[.int .i64 d, .slice au nu cu, .slice av nv cv] 35)) wr.heap.size (.slice au nu cu) (.slice av nv cv) l m) := Lib.hid (ht.still ga)
            have K7 : Hid (Blk (w7.alloc (.cells #[.int .i64 d, .slice au nu cu, .slice av nv cv] 35)) w7.heap.size 35 [.int .i64 d, .slice au nu cu, .slice av nv cv]) := Lib.hid (heap_alloc_new _ _)
            have HT := Lib.hid hT
            have s7 : w.heap.size ≤ (w7.alloc (.cells #[.int .i64 d, .slice au nu cu, .slice av nv cv] 35)).heap.size := Nat.le_trans G.out.size G7.out.size
            have sr : w.heap.size ≤ wr.heap.size := G.out.size
            clear hg ht hT ga
            go_upto_region 9 with fail
            generalize w7.alloc (.cells #[.int .i64 d, .slice au nu cu, .slice av nv cv] 35) = w8 at *
            generalize w7.heap.size = pb at *
            cases q with
            | false =>
              have NO : Hid (AllT j f false []) := Lib.hid (.inr ⟨rfl, rfl, fun _ _ => ⟨n, hlt, HN.out, by rw [Int.toNat_natCast]; exact planT_none HJ.out hlt HF.out HT.out⟩⟩)
              have PE : Hid (PTab (w8.alloc (.cells #[] 35)) w.heap.size (.slice (some ⟨w8.heap.size, 0, none⟩) 0 0) []) := Lib.hid (PTab.made w8 _ s7)
              have GE : Hid (w.grownBy (w8.alloc (.cells #[] 35)) none) := Lib.hid (grown_alloc (grown_trans G.out G7.out) _)
              clear K7
              go_wp2_with fail
              exact bodyPost_ret (v := .tuple #[.slice (some ⟨w8.heap.size, 0, none⟩) 0 0, .bool false]) (by simp [results, Try.results15, go_sem]) rfl ⟨false, [], _, NO.out, rfl, GE.out, PE.out⟩
            | true =>
              have AL1 := Lib.hid (fun u v => AL.out.no (u := u) (v := v) HN.out HT.out)
              have TOP := Lib.hid (P.out.still G7.out).top
              have k0 := K7.out.cell (i := 0) rfl
              have k1 := K7.out.cell (i := 1) rfl
              have k2 := K7.out.cell (i := 2) rfl
              go_wp2_with (first
                | (at_builtin; refine wpList_append_own _ rfl _ _ 23 rfl w.heap.size 35 i0 (.agg #[.int .i64 0, .slice none 0 0, .slice none 0 0]) 3 56 Try.underlying23 I1.out I2.out I3.out I4.out rfl (by decide) _ _ _ rfl (World.ownsRow.alloc TOP.out _) ⟨w8.heap.size, 0, none⟩ 1 1 [.int .i64 d, .slice au nu cu, .slice av nv cv] rfl rfl three_cells (by simp [Value.oneCell']) ?c3 ?c4 ?c5 ?_))
              case c3 => unfold maxLen; omega
              case c4 => omega
              case c5 => simp; omega
              intro o' w9 ho2 hg2 _
              have g9 : w8.grownBy w9 u6.ownBlock := grown_trans (World.grownBy_alloc _ _ _) hg2
              have P9 : Hid (PTab w9 w.heap.size o' (L ++ [⟨d, .slice au nu cu, .slice av nv cv, l, m⟩])) := Lib.hid (P.out.snoc sr G7.out T7.out g9 ho2 rfl)
              have G9 : Hid (w.grownBy w9 none) := Lib.hid (grown_own (grown_trans G.out G7.out) g9 (fun j hj => (World.ownsRow.lt TOP.out j hj).1))
              have AL9 := Lib.hid (AL1.out (.slice au nu cu) (.slice av nv cv))
              clear ho2 hg2 g9 TOP P T7 K7 AL AL1 k0 k1 k2
              go_wp2_with fail
              go_roundw
              case rel => exact ⟨n + 1, _, by omega, by go_num, P9.out, AL9.out, G9.out⟩
              case measure => simp [intOf]; omega
        · obtain rfl : n = 8 := by omega
          have YES : Hid (AllT j f true L) := Lib.hid (.inl ⟨rfl, KK.out, HF.out, AL.out⟩)
          obtain ⟨pa, pc, pe, _, _⟩ := P.out.form
          subst pe
          go_wp2_with fail
          exact bodyPost_ret (v := .tuple #[.slice pa L.length pc, .bool true]) (by simp [results, Try.results15, go_sem]) rfl ⟨true, L, _, YES.out, rfl, G.out, P.out⟩
    · have NO : Hid (AllT j f false []) := Lib.hid (AllT.nope fun h => h8 h.2)
      have e8 : ((f.length : Int) != 8) = true := by rw [bne_iff_ne]; omega
      clear h8
      go_wp2_with fail
      exact bodyPost_ret (v := .tuple #[.slice (some ⟨r, 0, none⟩) 0 0, .bool false]) (by simp [results, Try.results15, go_sem]) rfl ⟨false, [], _, NO.out, rfl, G0.out, P0'.out⟩
end Go.Proofs.Ytbpkfcaokbidnab
