/-
  The contracts of SpanSame, of the program and of its model.
  Conditions: none.
-/
import Derived.Test.YtlehcpcejkpbmaaDoorG2
import Derived.Deep.QuietTactic
import Derived.Laws.StructEq
import Derived.ChangeKeysEq
namespace Go.Proofs.YtlehcpcejkpbmaaDoor
open Go.RowKit
set_option linter.unusedVariables false

set_option maxHeartbeats 2000000 in
set_option maxRecDepth 20000 in
theorem specL3Same (u v : Value) (us us' : List Value) (T U : List (List Int)) (w : World) (h : Tab w u us T) (h' : Tab w v us' U) (hT : ∀ r ∈ T, Sp.Row 4 r) (hU : ∀ r ∈ U, Sp.Row 4 r) :
    Calls Tryd.prog 60 #[u, v] w fun e w' => e = .returned (.bool (decide (T = U))) ∧ w.grownBy w' none := by
  have A := Lib.hid h
  have B := Lib.hid h'
  have RT := Lib.hid hT
  have RU := Lib.hid hU
  obtain ⟨a, cap, rfl, h1, h2, h3⟩ := h.top
  obtain ⟨a', cap', rfl, h1', h2', h3'⟩ := h'.top
  clear h h' h3 h3' hT hU
  unfold maxLen at h2 h2'
  by_cases hb : T.length = U.length
  · have hne : ((T.length : Int) != (U.length : Int)) = false := by simp [hb]
    have HB := Lib.hid hb
    clear hb
    go_enter Tryd.func60, Tryd.ntmps60
    go_wp2_with fail
    go_loopw [5] (fun i wr => ∃ k : Nat, i = .int .i64 k ∧ k ≤ T.length ∧ w.grownBy wr none ∧ ∀ j, j < k → T.getD j [] = U.getD j []) (fun i _ => T.length - (intOf i).toNat)
    case atStart => exact ⟨0, rfl, Nat.zero_le _, World.grownBy.refl _ _, fun j hj => by omega⟩
    case round =>
      obtain ⟨k, rfl, hk, hg, hall⟩ := hrel
      have G := Lib.hid hg
      have HA := Lib.hid hall
      clear hg hall
      by_cases hlt : k < T.length
      · have hlt' : (k : Int) < (T.length : Int) := by omega
        have hltU : k < U.length := by have := HB.out; omega
        have hlt2 : (k : Int) < (U.length : Int) := by omega
        have r4 := Sp.fresh_row RT.out hlt
        have s4 := Sp.fresh_row RU.out hltU
        obtain ⟨x, hx⟩ : ∃ x, T.getD k [] = x := ⟨_, rfl⟩
        obtain ⟨y, hy⟩ : ∃ y, U.getD k [] = y := ⟨_, rfl⟩
        have HX := Lib.hid hx
        have HY := Lib.hid hy
        rw [hx] at r4
        rw [hy] at s4
        have X4 := Lib.hid r4.1
        have Y4 := Lib.hid s4.1
        clear hx hy r4 s4
        go_wp2_with fail
        go_loopw [6] (fun i wr => ∃ j : Nat, i = .int .i64 j ∧ j ≤ 4 ∧ w.grownBy wr none ∧ ∀ c, c < j → x.getD c 0 = y.getD c 0) (fun i _ => 4 - (intOf i).toNat)
        case atStart => exact ⟨0, rfl, Nat.zero_le _, G.out, fun j hj => by omega⟩
        case round =>
          obtain ⟨j, rfl, hj, hg, hall⟩ := hrel
          have G2 := Lib.hid hg
          have HC := Lib.hid hall
          clear hg hall
          by_cases hj4 : j < 4
          · have hj4' : (j : Int) < 4 := by omega
            obtain ⟨b, o, cp, r, e, hu, hx, hs⟩ := (A.out.grown G2.out).at_ hlt
            injection e with e1 e2 e3
            subst e1 e3
            obtain ⟨b', o', cp', r', e, hu', hx', hs'⟩ := (B.out.grown G2.out).at_ hltU
            injection e with e1 e2 e3
            subst e1 e3
            rw [HX.out] at hs
            rw [HY.out] at hs'
            obtain ⟨ar, cr, er, hr1, hr2, hrr⟩ := hs
            obtain ⟨ar', cr', er', hr1', hr2', hrr'⟩ := hs'
            obtain ⟨br, orr, ear, hxr⟩ := hrr.at_ (k := j) (by rw [X4.out]; exact hj4)
            obtain ⟨br', orr', ear', hxr'⟩ := hrr'.at_ (k := j) (by rw [Y4.out]; exact hj4)
            rw [X4.out] at er hr1
            rw [Y4.out] at er' hr1'
            subst er er' ear ear'
            obtain ⟨p, hp⟩ : ∃ p, x.getD j 0 = p := ⟨_, rfl⟩
            obtain ⟨q, hq⟩ : ∃ q, y.getD j 0 = q := ⟨_, rfl⟩
            rw [hp] at hxr
            rw [hq] at hxr'
            have HP := Lib.hid hp
            have HQ := Lib.hid hq
            unfold maxLen at hr2 hr2'
            clear hrr hrr' hp hq hu hu'
            by_cases hpq : p = q
            · have hbx : (p != q) = false := by simp [hpq]
              have EQ := Lib.hid hpq
              clear hpq
              go_wp2_with fail
              go_quiet (fail)
              go_wp2_with fail
              go_roundw
              case rel => exact ⟨j + 1, by go_num, by omega, grown_draws G2.out _, fun c hc => by
                by_cases e : c = j
                · rw [e, HP.out, HQ.out, EQ.out]
                · exact HC.out c (by omega)⟩
              case measure => simp [intOf]; omega
            · have hbx : (p != q) = true := by simp [hpq]
              have D : Hid (decide (T = U) = false) := Lib.hid (tab_ne_at (k := k) (fun e => hpq (by rw [← HP.out, ← HQ.out, ← HX.out, ← HY.out, e])))
              go_wp2_with fail
              go_quiet (fail)
              go_wp2_with fail
              go_ret
              exact ⟨ret_bool D.out, grown_draws G2.out _⟩
          · have EQ : Hid (x = y) := Lib.hid (by
              refine of_decide_eq_true (list_all (by rw [X4.out, Y4.out]) (fun c hc => HC.out c ?_))
              rw [X4.out] at hc; omega)
            go_wp2_with fail
            go_roundw
            case rel => exact ⟨k + 1, by go_num, by omega, G2.out, fun c hc => by
              by_cases e : c = k
              · rw [e, HX.out, HY.out, EQ.out]
              · exact HA.out c (by omega)⟩
            case measure => simp [intOf]; omega
      · have D : Hid (decide (T = U) = true) := Lib.hid (tab_all HB.out (fun j hj => HA.out j (by omega)))
        go_wp2_with fail
        go_ret
        exact ⟨ret_bool D.out, G.out⟩
  · have hne : ((T.length : Int) != (U.length : Int)) = true := by simp; omega
    have D : Hid (decide (T = U) = false) := Lib.hid (tab_ne_len hb)
    go_enter Tryd.func60, Tryd.ntmps60
    go_wp2_with fail
    go_ret
    exact ⟨ret_bool D.out, World.grownBy.refl _ _⟩

theorem four_row {T : List (List Int)} (h : ∀ r ∈ T, r.length = 4) {k : Nat} (hk : k < T.length) : ∃ x y z t, T.getD k [] = [x, y, z, t] := by
  have h4 : (T.getD k []).length = 4 := by rw [List.getD_eq_getElem?_getD, List.getElem?_eq_getElem hk]; exact h _ (List.getElem_mem hk)
  match T.getD k [], h4 with
  | [x, y, z, t], _ => exact ⟨x, y, z, t, rfl⟩

theorem rowsEq (x y z t x' y' z' t' : Int) (W : World) : (Op.equalIn 10000 83 (.agg #[.int .i64 x, .int .i64 y, .int .i64 z, .int .i64 t]) (.agg #[.int .i64 x', .int .i64 y', .int .i64 z', .int .i64 t'])).run Tryd.prog W = .ok (decide ([x, y, z, t] = [x', y', z', t'])) W := by
  obtain ⟨i0, hi, _⟩ := info_parts (show (Tryd.prog.info? 67).map (fun i => (i.zero, i.size, i.bytes)) = some (some (.int .i64 0), 1, 8) by kernel_rfl)
  have hc : Tryd.prog.cellsOf 67 = 1 := by kernel_rfl
  have ue := Tryd.underlying67
  rw [show (10000 : Nat) = 9999 + 1 from rfl, run_equalIn_array W 9999 _ _ Tryd.underlying83 hi, hc, show List.range 4 = [0, 1, 2, 3] from rfl]
  by_cases h0 : x = x' <;> by_cases h1 : y = y' <;> by_cases h2 : z = z' <;> by_cases h3 : t = t' <;>
    simp [Op.eqItems, Sem.run_bind, Go.part, isAgg, run_underlying ue, run_equalIn_int, ue, h0, h1, h2, h3, show (9999 : Nat) = 9998 + 1 from rfl]

theorem tidy_len {m : List (List Int)} (hm : okM m = true) : ∀ r ∈ Sp.ltidy m, r.length = 4 := fun r hr => (tidy_rows hm r hr).1

end Go.Proofs.YtlehcpcejkpbmaaDoor
