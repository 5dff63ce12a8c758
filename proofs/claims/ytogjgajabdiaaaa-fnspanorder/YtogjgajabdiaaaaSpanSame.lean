/-
  The contracts of SpanSame, of the program and of its model.
  Conditions: none.
-/
import Derived.Test.YtogjgajabdiaaaaSpanSpec4
import Derived.Deep.QuietTactic
import Derived.Laws.StructEq
import Derived.ChangeKeysEq
namespace Go.Proofs.Ytogjgajabdiaaaa
open Go.RowKit
set_option linter.unusedVariables false

set_option maxHeartbeats 2000000 in
theorem specL3Same (u v : Value) (us us' : List Value) (T U : List (List Int)) (w : World) (h : Tab w u us T) (h' : Tab w v us' U) (hT : ∀ r ∈ T, Sp.Row 4 r) (hU : ∀ r ∈ U, Sp.Row 4 r) :
    Calls Try.prog 58 #[u, v] w fun e w' => e = .returned (.bool (decide (T = U))) ∧ w.grownBy w' none := by
  have A := Lib.hid h
  have B := Lib.hid h'
  have RT := Lib.hid hT
  have RU := Lib.hid hU
  obtain ⟨a, cap, rfl, h1, h2, h3⟩ := h.top
  obtain ⟨a', cap', rfl, h1', h2', h3'⟩ := h'.top
  clear h h' h3 h3' hT hU
  unfold maxLen at h2 h2'
  by_cases hb : T.length = U.length
  · have hne : ((T.length : Int) != (U.length : Int)) = false := by simp [hb]
    have HB := Lib.hid hb
    clear hb
    go_enter Try.func58, Try.ntmps58
    go_wp2_with fail
    go_loopw [5] (fun i wr => ∃ k : Nat, i = .int .i64 k ∧ k ≤ T.length ∧ w.grownBy wr none ∧ ∀ j, j < k → T.getD j [] = U.getD j []) (fun i _ => T.length - (intOf i).toNat)
    case atStart => exact ⟨0, rfl, Nat.zero_le _, World.grownBy.refl _ _, fun j hj => by omega⟩
    case round =>
      obtain ⟨k, rfl, hk, hg, hall⟩ := hrel
      have G := Lib.hid hg
      have HA := Lib.hid hall
      clear hg hall
      by_cases hlt : k < T.length
      · have hlt' : (k : Int) < (T.length : Int) := by omega
        have hltU : k < U.length := by have := HB.out; omega
        have hlt2 : (k : Int) < (U.length : Int) := by omega
        have r4 := Sp.fresh_row RT.out hlt
        have s4 := Sp.fresh_row RU.out hltU
        obtain ⟨x, hx⟩ : ∃ x, T.getD k [] = x := ⟨_, rfl⟩
        obtain ⟨y, hy⟩ : ∃ y, U.getD k [] = y := ⟨_, rfl⟩
        have HX := Lib.hid hx
        have HY := Lib.hid hy
        rw [hx] at r4
        rw [hy] at s4
        have X4 := Lib.hid r4.1
        have Y4 := Lib.hid s4.1
        clear hx hy r4 s4
        go_wp2_with fail
        go_loopw [6] (fun i wr => ∃ j : Nat, i = .int .i64 j ∧ j ≤ 4 ∧ w.grownBy wr none ∧ ∀ c, c < j → x.getD c 0 = y.getD c 0) (fun i _ => 4 - (intOf i).toNat)
        case atStart => exact ⟨0, rfl, Nat.zero_le _, G.out, fun j hj => by omega⟩
        case round =>
          obtain ⟨j, rfl, hj, hg, hall⟩ := hrel
          have G2 := Lib.hid hg
          have HC := Lib.hid hall
          clear hg hall
          by_cases hj4 : j < 4
          · have hj4' : (j : Int) < 4 := by omega
            obtain ⟨b, o, cp, r, e, hu, hx, hs⟩ := (A.out.grown G2.out).at_ hlt
            injection e with e1 e2 e3
            subst e1 e3
            obtain ⟨b', o', cp', r', e, hu', hx', hs'⟩ := (B.out.grown G2.out).at_ hltU
            injection e with e1 e2 e3
            subst e1 e3
            rw [HX.out] at hs
            rw [HY.out] at hs'
            obtain ⟨ar, cr, er, hr1, hr2, hrr⟩ := hs
            obtain ⟨ar', cr', er', hr1', hr2', hrr'⟩ := hs'
            obtain ⟨br, orr, ear, hxr⟩ := hrr.at_ (k := j) (by rw [X4.out]; exact hj4)
            obtain ⟨br', orr', ear', hxr'⟩ := hrr'.at_ (k := j) (by rw [Y4.out]; exact hj4)
            rw [X4.out] at er hr1
            rw [Y4.out] at er' hr1'
            subst er er' ear ear'
            obtain ⟨p, hp⟩ : ∃ p, x.getD j 0 = p := ⟨_, rfl⟩
            obtain ⟨q, hq⟩ : ∃ q, y.getD j 0 = q := ⟨_, rfl⟩
            rw [hp] at hxr
            rw [hq] at hxr'
            have HP := Lib.hid hp
            have HQ := Lib.hid hq
            unfold maxLen at hr2 hr2'
            clear hrr hrr' hp hq hu hu'
            by_cases hpq : p = q
            · have hbx : (p != q) = false := by simp [hpq]
              have EQ := Lib.hid hpq
              clear hpq
              go_wp2_with fail
              go_quiet (fail)
              go_wp2_with fail
              go_roundw
              case rel => exact ⟨j + 1, by go_num, by omega, grown_draws G2.out _, fun c hc => by
                by_cases e : c = j
                · rw [e, HP.out, HQ.out, EQ.out]
                · exact HC.out c (by omega)⟩
              case measure => simp [intOf]; omega
            · have hbx : (p != q) = true := by simp [hpq]
              have D : Hid (decide (T = U) = false) := Lib.hid (tab_ne_at (k := k) (fun e => hpq (by rw [← HP.out, ← HQ.out, ← HX.out, ← HY.out, e])))
              go_wp2_with fail
              go_quiet (fail)
              go_wp2_with fail
              go_ret
              exact ⟨ret_bool D.out, grown_draws G2.out _⟩
          · have EQ : Hid (x = y) := Lib.hid (by
              refine of_decide_eq_true (list_all (by rw [X4.out, Y4.out]) (fun c hc => HC.out c ?_))
              rw [X4.out] at hc; omega)
            go_wp2_with fail
            go_roundw
            case rel => exact ⟨k + 1, by go_num, by omega, G2.out, fun c hc => by
              by_cases e : c = k
              · rw [e, HX.out, HY.out, EQ.out]
              · exact HA.out c (by omega)⟩
            case measure => simp [intOf]; omega
      · have D : Hid (decide (T = U) = true) := Lib.hid (tab_all HB.out (fun j hj => HA.out j (by omega)))
        go_wp2_with fail
        go_ret
        exact ⟨ret_bool D.out, G.out⟩
  · have hne : ((T.length : Int) != (U.length : Int)) = true := by simp; omega
    have D : Hid (decide (T = U) = false) := Lib.hid (tab_ne_len hb)
    go_enter Try.func58, Try.ntmps58
    go_wp2_with fail
    go_ret
    exact ⟨ret_bool D.out, World.grownBy.refl _ _⟩

set_option maxHeartbeats 2000000 in
theorem specSpanSame (u v : Value) (us us' : List Value) (m n : List (List Int)) (w : World) (h : Tab w u us m) (h' : Tab w v us' n) :
    Calls Try.prog 24 #[u, v] w fun e w' => e = .returned (.bool (sameM m n)) ∧ w.grownBy w' none := by
  have A := Lib.hid h
  have B := Lib.hid h'
  have C := Lib.hid (specSpanOk u us m w h)
  have D := Lib.hid (specSpanOk v us' n w h')
  clear h h'
  cases hq : okM m with
  | false =>
    have R : Hid (sameM m n = false) := Lib.hid (by simp [sameM, hq])
    rw [hq] at C
    clear hq
    go_enter Try.func24, Try.ntmps24
    go_wp2_with fail
    refine C.out.mono ?_
    rintro e w' ⟨rfl, rfl⟩
    go_wp2_with fail
    go_ret
    exact ⟨ret_bool R.out, World.grownBy.refl _ _⟩
  | true =>
    cases hv : okM n with
    | false =>
      have R : Hid (sameM m n = false) := Lib.hid (by simp [sameM, hv])
      rw [hq] at C
      rw [hv] at D
      clear hq hv
      go_enter Try.func24, Try.ntmps24
      go_wp2_with fail
      refine C.out.mono ?_
      rintro e w' ⟨rfl, rfl⟩
      go_wp2_with fail
      refine D.out.mono ?_
      rintro e w' ⟨rfl, rfl⟩
      go_wp2_with fail
      go_ret
      exact ⟨ret_bool R.out, World.grownBy.refl _ _⟩
    | true =>
      have R : Hid (sameM m n = decide (Sp.ltidy m = Sp.ltidy n)) := Lib.hid (by simp [sameM, hq, hv])
      have HM := Lib.hid (okM_all hq)
      have HN := Lib.hid (okM_all hv)
      have RM := Lib.hid (tidy_rows hq)
      have RN := Lib.hid (tidy_rows hv)
      rw [hq] at C
      rw [hv] at D
      clear hq hv
      go_enter Try.func24, Try.ntmps24
      go_wp2_with fail
      refine C.out.mono ?_
      rintro e w' ⟨rfl, rfl⟩
      go_wp2_with fail
      refine D.out.mono ?_
      rintro e w' ⟨rfl, rfl⟩
      go_wp2_with fail
      refine (specL3Tidy u us m _ A.out HM.out).mono ?_
      rintro e w2 ⟨o2, vs2, rfl, hg, hst⟩
      have G2 := Lib.hid hg
      have O2 := Lib.hid hst.tab
      clear hg hst
      go_wp2_with fail
      refine (specL3Tidy v us' n _ (B.out.grown G2.out) HN.out).mono ?_
      rintro e w3 ⟨o3, vs3, rfl, hg, hst⟩
      have G3 := Lib.hid (grown_trans G2.out hg)
      have O3 := Lib.hid hst.tab
      have O2' := Lib.hid (O2.out.grown hg)
      clear hg hst
      have Z := Lib.hid (specL3Same o2 o3 vs2 vs3 (Sp.ltidy m) (Sp.ltidy n) w3 O2'.out O3.out RM.out RN.out)
      rw [← R.out] at Z
      go_wp2_with fail
      refine Z.out.mono ?_
      rintro e w4 ⟨rfl, hg⟩
      have G4 := Lib.hid (grown_trans G3.out hg)
      clear hg
      go_wp2_with fail
      go_ret
      exact ⟨rfl, G4.out⟩

theorem four_row {T : List (List Int)} (h : ∀ r ∈ T, r.length = 4) {k : Nat} (hk : k < T.length) : ∃ x y z t, T.getD k [] = [x, y, z, t] := by
  have h4 : (T.getD k []).length = 4 := by rw [List.getD_eq_getElem?_getD, List.getElem?_eq_getElem hk]; exact h _ (List.getElem_mem hk)
  match T.getD k [], h4 with
  | [x, y, z, t], _ => exact ⟨x, y, z, t, rfl⟩

theorem rowsEq (x y z t x' y' z' t' : Int) (W : World) : (Op.equalIn 10000 57 (.agg #[.int .i64 x, .int .i64 y, .int .i64 z, .int .i64 t]) (.agg #[.int .i64 x', .int .i64 y', .int .i64 z', .int .i64 t'])).run Try.prog W = .ok (decide ([x, y, z, t] = [x', y', z', t'])) W := by
  obtain ⟨i0, hi, _⟩ := info_parts (show (Try.prog.info? 55).map (fun i => (i.zero, i.size, i.bytes)) = some (some (.int .i64 0), 1, 8) by kernel_rfl)
  have hc : Try.prog.cellsOf 55 = 1 := by kernel_rfl
  have ue := Try.underlying55
  rw [show (10000 : Nat) = 9999 + 1 from rfl, run_equalIn_array W 9999 _ _ Try.underlying57 hi, hc, show List.range 4 = [0, 1, 2, 3] from rfl]
  by_cases h0 : x = x' <;> by_cases h1 : y = y' <;> by_cases h2 : z = z' <;> by_cases h3 : t = t' <;>
    simp [Op.eqItems, Sem.run_bind, Go.part, isAgg, run_underlying ue, run_equalIn_int, ue, h0, h1, h2, h3, show (9999 : Nat) = 9998 + 1 from rfl]

set_option maxHeartbeats 2000000 in
/-- whether two slices of rows are alike. -/
theorem slicesEqual (u v : Value) (base base' : Nat) (T U : List (List Int)) (w : World) (h : Vs w base u T) (h' : Vs w base' v U) (hT : ∀ r ∈ T, r.length = 4) (hU : ∀ r ∈ U, r.length = 4) :
    Calls Try.prog 56 #[u, v] w fun e w' => e = .returned (.bool (decide (T = U))) ∧ w.grownBy w' none := by
  have A := Lib.hid h
  have B := Lib.hid h'
  have RT := Lib.hid hT
  have RU := Lib.hid hU
  obtain ⟨a, cap, rfl, h1, h2⟩ := h.form
  obtain ⟨a', cap', rfl, h1', h2'⟩ := h'.form
  clear h h' hT hU
  unfold maxLen at h2 h2'
  by_cases hb : T.length = U.length
  · have hne : ((T.length : Int) != (U.length : Int)) = false := by simp [hb]
    have HB := Lib.hid hb
    clear hb
    go_enter Try.func56, Try.ntmps56
    go_wp2_with fail
    go_loopw [13] (fun i wr => ∃ k : Nat, i = .int .i64 k ∧ k ≤ T.length ∧ w.grownBy wr none ∧ ∀ j, j < k → T.getD j [] = U.getD j []) (fun i _ => T.length - (intOf i).toNat)
    case atStart => exact ⟨0, rfl, Nat.zero_le _, World.grownBy.refl _ _, fun j hj => by omega⟩
    case round =>
      obtain ⟨k, rfl, hk, hg, hall⟩ := hrel
      have G := Lib.hid hg
      have HA := Lib.hid hall
      clear hg hall
      by_cases hlt : k < T.length
      · have hlt' : (k : Int) < (T.length : Int) := by omega
        have hltU : k < U.length := by have := HB.out; omega
        have hlt2 : (k : Int) < (U.length : Int) := by omega
        obtain ⟨g, c1, e, _, hc⟩ := (A.out.still G.out).at_ RT.out hlt
        injection e with e1 e2 e3
        subst e1 e3
        obtain ⟨g', c1', e, _, hc'⟩ := (B.out.still G.out).at_ RU.out hltU
        injection e with e1 e2 e3
        subst e1 e3
        obtain ⟨x, y, z, t, hr⟩ := four_row RT.out hlt
        obtain ⟨x', y', z', t', hr'⟩ := four_row RU.out hltU
        rw [hr] at hc
        rw [hr'] at hc'
        have a0 : wr.cell? ⟨g, k * 4, none⟩ = some (.int .i64 x) := hc 0 (by omega)
        have a1 : wr.cell? ⟨g, k * 4 + 1, none⟩ = some (.int .i64 y) := hc 1 (by omega)
        have a2 : wr.cell? ⟨g, k * 4 + 2, none⟩ = some (.int .i64 z) := hc 2 (by omega)
        have a3 : wr.cell? ⟨g, k * 4 + 3, none⟩ = some (.int .i64 t) := hc 3 (by omega)
        have b0 : wr.cell? ⟨g', k * 4, none⟩ = some (.int .i64 x') := hc' 0 (by omega)
        have b1 : wr.cell? ⟨g', k * 4 + 1, none⟩ = some (.int .i64 y') := hc' 1 (by omega)
        have b2 : wr.cell? ⟨g', k * 4 + 2, none⟩ = some (.int .i64 z') := hc' 2 (by omega)
        have b3 : wr.cell? ⟨g', k * 4 + 3, none⟩ = some (.int .i64 t') := hc' 3 (by omega)
        have HR := Lib.hid hr
        have HR' := Lib.hid hr'
        clear hc hc' hr hr'
        by_cases hpq : [x, y, z, t] = [x', y', z', t']
        · injection hpq with q0 q
          injection q with q1 q
          injection q with q2 q
          injection q with q3 q
          subst q0 q1 q2 q3
          have hgd : Try.prog.eqGuardType Try.prog.depth 57 = false := by kernel_rfl
          have heq : ∀ W : World, (Op.equalIn 10000 57 (.agg #[.int .i64 x, .int .i64 y, .int .i64 z, .int .i64 t]) (.agg #[.int .i64 x, .int .i64 y, .int .i64 z, .int .i64 t])).run Try.prog W = .ok true W := fun W => by rw [rowsEq, decide_eq_true rfl]
          go_wp2_with fail
          go_quiet (fail)
          clear heq hgd
          go_wp2_with fail
          go_roundw
          case rel => exact ⟨k + 1, by go_num, by omega, grown_draws G.out _, fun c hc => by
            by_cases e : c = k
            · rw [e, HR.out, HR'.out]
            · exact HA.out c (by omega)⟩
          case measure => simp [intOf]; omega
        · have D : Hid (decide (T = U) = false) := Lib.hid (tab_ne_at (k := k) (by rw [HR.out, HR'.out]; exact hpq))
          have hgd : Try.prog.eqGuardType Try.prog.depth 57 = false := by kernel_rfl
          have heq : ∀ W : World, (Op.equalIn 10000 57 (.agg #[.int .i64 x, .int .i64 y, .int .i64 z, .int .i64 t]) (.agg #[.int .i64 x', .int .i64 y', .int .i64 z', .int .i64 t'])).run Try.prog W = .ok false W := fun W => by rw [rowsEq, decide_eq_false hpq]
          clear hpq
          go_wp2_with fail
          go_quiet (fail)
          clear heq hgd
          go_wp2_with fail
          go_ret
          exact ⟨ret_bool D.out, grown_draws G.out _⟩
      · have D : Hid (decide (T = U) = true) := Lib.hid (tab_all HB.out (fun j hj => HA.out j (by omega)))
        go_wp2_with fail
        go_ret
        exact ⟨ret_bool D.out, G.out⟩
  · have hne : ((T.length : Int) != (U.length : Int)) = true := by simp; omega
    have D : Hid (decide (T = U) = false) := Lib.hid (tab_ne_len hb)
    go_enter Try.func56, Try.ntmps56
    go_wp2_with fail
    go_ret
    exact ⟨ret_bool D.out, World.grownBy.refl _ _⟩

theorem tidy_len {m : List (List Int)} (hm : okM m = true) : ∀ r ∈ Sp.ltidy m, r.length = 4 := fun r hr => (tidy_rows hm r hr).1

set_option maxHeartbeats 2000000 in
theorem implSpanSame (u v : Value) (us us' : List Value) (m n : List (List Int)) (w : World) (h : Tab w u us m) (h' : Tab w v us' n) :
    Calls Try.prog 22 #[u, v] w fun e w' => e = .returned (.bool (sameM m n)) ∧ w.grownBy w' none := by
  have C := Lib.hid (echelonOf u us m w h)
  have B := Lib.hid h'
  clear h h'
  go_enter Try.func22, Try.ntmps22
  go_wp2_with fail
  refine C.out.mono ?_
  rintro e w1 ⟨hg, hq⟩
  have G1 := Lib.hid hg
  have D := Lib.hid (echelonOf v us' n w1 (B.out.grown hg))
  clear hg C
  rcases hq with ⟨hok, rfl⟩ | ⟨hok, g, q, S, pv, pn, rfl, he, hst⟩
  · have R : Hid (sameM m n = false) := Lib.hid (by simp [sameM, hok])
    clear hok
    go_wp2_with fail
    refine D.out.mono ?_
    rintro e w2 ⟨hg, hq⟩
    have G2 := Lib.hid (grown_trans G1.out hg)
    clear hg
    rcases hq with ⟨_, rfl⟩ | ⟨_, g, q, S, pv, pn, rfl, _, _⟩
    · go_wp2_with fail
      go_ret
      exact ⟨ret_bool R.out, G2.out⟩
    · go_wp2_with fail
      go_ret
      exact ⟨ret_bool R.out, G2.out⟩
  · have OK := Lib.hid hok
    have E1 := Lib.hid he
    have ST := Lib.hid hst
    clear hok he hst
    go_wp2_with fail
    refine D.out.mono ?_
    rintro e w2 ⟨hg, hq⟩
    have G2 := Lib.hid (grown_trans G1.out hg)
    have E2 := Lib.hid (E1.out.grown hg)
    clear hg E1
    rcases hq with ⟨hok, rfl⟩ | ⟨hok, g', q', S', pv', pn', rfl, he, hst⟩
    · have R : Hid (sameM m n = false) := Lib.hid (by simp [sameM, hok])
      clear hok
      go_wp2_with fail
      go_ret
      exact ⟨ret_bool R.out, G2.out⟩
    · have R : Hid (sameM m n = decide (Sp.ltidy m = Sp.ltidy n)) := Lib.hid (by simp [sameM, hok, OK.out])
      have F := Lib.hid he
      have RS := Lib.hid ST.out.row
      have RS' := Lib.hid hst.row
      have T1 := Lib.hid (stand_rows ST.out OK.out)
      have T2 := Lib.hid (stand_rows hst hok)
      have L1 := Lib.hid (tidy_len OK.out)
      have L2 := Lib.hid (tidy_len hok)
      clear hok he hst ST
      go_wp2_with fail
      refine (echRows w.heap.size g q S pv _ _ E2.out RS.out).mono ?_
      rintro e w3 ⟨x3, rfl, hg, hv⟩
      rw [T1.out] at hv
      have G3 := Lib.hid (grown_trans G2.out hg)
      have F3 := Lib.hid (F.out.grown hg)
      have V3 := Lib.hid hv
      clear hg hv
      go_wp2_with fail
      refine (echRows w1.heap.size g' q' S' pv' _ _ F3.out RS'.out).mono ?_
      rintro e w4 ⟨x4, rfl, hg, hv⟩
      rw [T2.out] at hv
      have G4 := Lib.hid (grown_trans G3.out hg)
      have V4 := Lib.hid hv
      have V3' := Lib.hid (V3.out.still hg)
      clear hg hv
      have Z := Lib.hid (slicesEqual x3 x4 _ _ (Sp.ltidy m) (Sp.ltidy n) w4 V3'.out V4.out L1.out L2.out)
      rw [← R.out] at Z
      go_wp2_with fail
      refine Z.out.mono ?_
      rintro e w5 ⟨rfl, hg⟩
      have G5 := Lib.hid (grown_trans G4.out hg)
      clear hg
      go_wp2_with fail
      go_ret
      exact ⟨rfl, G5.out⟩
end Go.Proofs.Ytogjgajabdiaaaa
