/-
  The contracts of the model's l3Tidy, SpanTidy, SpanRank, l3Has, SpanHas, l3First, SpanFirst.
  Conditions: none.
-/
import Derived.Test.YtbpkfcaokbidnabSpanSpec3
import Derived.Test.YtbpkfcaokbidnabSpanTops
namespace Go.Proofs.Ytbpkfcaokbidnab
open Go.RowKit
set_option linter.unusedVariables false

theorem take_rows {m : List (List Int)} (hm : ∀ r ∈ m, Sp.Row 4 r) (k : Nat) : ∀ r ∈ m.take k, Sp.Row 4 r := fun r hr => hm r (List.mem_of_mem_take hr)

set_option maxHeartbeats 1000000 in
set_option maxRecDepth 20000 in
theorem specL3Tidy (v : Value) (us : List Value) (m : List (List Int)) (w : World) (h : Tab w v us m) (hm : ∀ r ∈ m, Sp.Row 4 r) : Calls Try.prog 84 #[v] w (NewSTab w.heap.size (Sp.ltidy m) w) := by
  have T := Lib.hid h
  have HM := Lib.hid hm
  obtain ⟨a, cap, rfl, h1, h2, h3⟩ := h.top
  clear h h3 hm
  unfold maxLen at h2
  have M0 := Lib.hid (STab.made w w.heap.size (Nat.le_refl _))
  go_enter Try.func84, Try.ntmps84
  go_wp2_with fail
  go_loopw [3, 4] (fun o i wr => ∃ k : Nat, k ≤ m.length ∧ i = .int .i64 k ∧ w.grownBy wr none ∧ ∃ vs, STab wr w.heap.size o vs (Sp.ltidy (m.take k))) (fun _ i _ => m.length - (intOf i).toNat)
  case atStart => exact ⟨0, Nat.zero_le _, rfl, grown_alloc (World.grownBy.refl _ _) _, [], M0.out⟩
  case round =>
    obtain ⟨k, hk, rfl, hg, vs, hst⟩ := hrel
    have G := Lib.hid hg
    have O := Lib.hid hst
    clear hg hst M0
    by_cases hlt : k < m.length
    · have hlt' : (k : Int) < (m.length : Int) := by omega
      obtain ⟨b, o, cap', u, e, hu, hx, hs⟩ := (T.out.grown G.out).at_ hlt
      injection e with e1 e2 e3
      subst e1 e3
      have S := Lib.hid hs
      have RW := Lib.hid (Sp.fresh_row HM.out hlt)
      have TM : Hid (Sp.ltidy (m.take (k + 1)) = Sp.ladd1 (Sp.ltidy (m.take k)) (m.getD k [])) := Lib.hid (by rw [take_more m hlt, Sp.ltidy_snoc])
      obtain ⟨L, hL, _⟩ := Sp.ltidy_is (take_rows HM.out k)
      have LL := Lib.hid hL
      clear hs hu hL
      go_wp2_with fail
      refine (specL3Add w.heap.size _ u vs _ L (m.getD k []) _ O.out G.out.size S.out RW.out LL.out).mono ?_
      rintro e w2 ⟨o2, vs2, rfl, hg, hst⟩
      have G2 := Lib.hid (grown_trans G.out hg)
      have O2 : Hid (STab w2 w.heap.size o2 vs2 (Sp.ltidy (m.take (k + 1)))) := Lib.hid (by rw [TM.out]; exact hst)
      clear hg hst hx
      go_wp2_with fail
      go_roundw
      case rel => exact ⟨k + 1, by omega, by go_num, G2.out, vs2, O2.out⟩
      case measure => simp [intOf]; omega
    · have : k = m.length := by omega
      subst this
      go_wp2_with fail
      go_ret
      refine ⟨_, vs, rfl, G.out, ?_⟩
      have := O.out
      rwa [List.take_length] at this

theorem stab_form {w : World} {base : Nat} {v : Value} {us : List Value} {m : List (List Int)} (h : STab w base v us m) : ∃ a cap, v = .slice a m.length cap ∧ m.length ≤ cap ∧ cap ≤ maxLen := by
  obtain ⟨a, cap, e, h1, h2, _⟩ := h.tab.top
  exact ⟨a, cap, e, h1, h2⟩

set_option maxHeartbeats 1000000 in
set_option maxRecDepth 20000 in
theorem specL3Has (v x : Value) (us : List Value) (m : List (List Int)) (l : List Int) (w : World) (h : Tab w v us m) (hm : ∀ r ∈ m, Sp.Row 4 r) (hx : Sl w x l) (hl : Sp.Row 4 l) : Calls Try.prog 121 #[v, x] w fun e w' => e = .returned (.bool (Sp.has m l)) ∧ w.grownBy w' none := by
  have T := Lib.hid h
  have HM := Lib.hid hm
  have X := Lib.hid hx
  have RL := Lib.hid hl
  clear h hm hx hl
  go_enter Try.func121, Try.ntmps121
  go_wp2_with fail
  refine (specL3Tidy v us m _ T.out HM.out).mono ?_
  rintro e w2 ⟨o2, vs2, rfl, hg, hst⟩
  have G := Lib.hid hg
  have O := Lib.hid hst
  have X2 := Lib.hid (X.out.grown hg)
  obtain ⟨L, hL, _⟩ := Sp.ltidy_is HM.out
  have LL := Lib.hid hL
  clear hg hst hL
  go_wp2_with fail
  refine (specL3Add w.heap.size o2 x vs2 _ L l _ O.out G.out.size X2.out RL.out LL.out).mono ?_
  rintro e w3 ⟨o3, vs3, rfl, hg, hst⟩
  have G3 := Lib.hid (grown_trans G.out hg)
  obtain ⟨a, cap, rfl, _, hc⟩ := stab_form O.out
  obtain ⟨a3, cap3, rfl, _, hc3⟩ := stab_form hst
  have H : Hid (Sp.has m l = decide ((Sp.ladd1 (Sp.ltidy m) l).length = (Sp.ltidy m).length)) := Lib.hid rfl
  generalize (Sp.ltidy m).length = n at *
  generalize (Sp.ladd1 (Sp.ltidy m) l).length = k at *
  clear hg hst O LL
  by_cases hkn : k = n
  · have hb : ((k : Int) == (n : Int)) = true := by simp [hkn]
    have HB : Hid (Sp.has m l = true) := Lib.hid (by rw [H.out]; exact decide_eq_true hkn)
    clear hkn
    go_wp2_with fail
    go_ret
    exact ⟨ret_bool HB.out, G3.out⟩
  · have hb : ((k : Int) == (n : Int)) = false := by simp; omega
    have HB : Hid (Sp.has m l = false) := Lib.hid (by rw [H.out]; exact decide_eq_false hkn)
    go_wp2_with fail
    go_ret
    exact ⟨ret_bool HB.out, G3.out⟩

def hasM (m : List (List Int)) (v : List Int) : Bool := okM m && Vec.ok v && Sp.has m v

/-- the first k rows, as a slice of a table. -/
theorem Tab.take {w : World} {a : Option Addr} {cap : Nat} {us : List Value} {m : List (List Int)} (h : Tab w (.slice a m.length cap) us m) {k : Nat} (hk : k ≤ m.length) : Tab w (.slice a k cap) (us.take k) (m.take k) := by
  have hl : (m.take k).length = k := by rw [List.length_take]; omega
  refine ⟨by rw [List.length_take, List.length_take, h.len], ?_, fun i u l hu hl => ?_⟩
  · obtain ⟨a', cap', e, h1, h2, h3⟩ := h.top
    injection e with e1 e2 e3
    subst e1 e3
    refine ⟨a, cap, by rw [hl], by omega, h2, ?_⟩
    rcases h3 with rfl | ⟨b, o, rfl, h3⟩
    · exact .inl (by simp)
    · refine .inr ⟨b, o, rfl, fun i u hu => h3 i u ?_⟩
      rw [List.getElem?_take] at hu
      split at hu
      · exact hu
      · cases hu
  · rw [List.getElem?_take] at hu hl
    split at hu
    · rename_i hi
      rw [if_pos hi] at hl
      exact h.rows i u l hu hl
    · cases hu

theorem firsts_take {m : List (List Int)} {k : Nat} (hk : k < m.length) : Sp.firsts Sp.has (m.take (k + 1)) = Sp.firsts Sp.has (m.take k) ++ (if Sp.has (m.take k) (m.getD k []) then [] else [k]) := by
  rw [take_more m hk, Sp.firsts_snoc, Sp.take_len m hk]

set_option maxHeartbeats 2000000 in
set_option maxRecDepth 20000 in
theorem specL3First (v : Value) (us : List Value) (m : List (List Int)) (w : World) (h : Tab w v us m) (hm : ∀ r ∈ m, Sp.Row 4 r) (h8 : m.length ≤ 8) : Calls Try.prog 154 #[v] w (NewInts ((Sp.firsts Sp.has m).map fun (i : Nat) => (i : Int)) w) := by
  have T := Lib.hid h
  have HM := Lib.hid hm
  obtain ⟨a, cap, rfl, h1, h2, h3⟩ := h.top
  clear h h3 hm
  unfold maxLen at h2
  obtain ⟨i0, hi, hz0, hz1, hz2⟩ := info_parts infoInt
  have I1 := Lib.hid hi
  have I2 := Lib.hid hz0
  have I3 := Lib.hid hz1
  have I4 := Lib.hid hz2
  clear hi hz0 hz1 hz2
  go_enter Try.func154, Try.ntmps154
  go_wp2_with fail
  go_loopw [3, 4] (fun o i wr => ∃ k : Nat, k ≤ m.length ∧ i = .int .i64 k ∧ w.grownBy wr none ∧ Own wr w.heap.size o ((Sp.firsts Sp.has (m.take k)).map fun (i : Nat) => (i : Int))) (fun _ i _ => m.length - (intOf i).toNat)
  case atStart => exact ⟨0, Nat.zero_le _, rfl, grown_alloc (World.grownBy.refl _ _) _, Own.made w w.heap.size [] (Nat.le_refl _) (by simp)⟩
  case round =>
    obtain ⟨k, hk, rfl, hg, ho⟩ := hrel
    have G := Lib.hid (grown_drew hg)
    have O := Lib.hid (ho.still (grown_drew (World.grownBy.refl _ none)))
    have O0 := Lib.hid ho
    have G0 := Lib.hid hg
    clear hg ho
    by_cases hlt : k < m.length
    · have hlt' : (k : Int) < (m.length : Int) := by omega
      obtain ⟨b, o, cap', u, e, hu, hx, hs⟩ := (T.out.grown G.out).at_ hlt
      injection e with e1 e2 e3
      subst e1 e3
      have S := Lib.hid hs
      have RW := Lib.hid (Sp.fresh_row HM.out hlt)
      have FT := Lib.hid (firsts_take hlt)
      have LT : Hid ((Sp.firsts Sp.has (m.take k)).length ≤ 8) := Lib.hid (by have := Sp.first_len (m.take k); rw [List.length_take] at this; omega)
      have TK := Lib.hid ((T.out.grown G.out).take (k := k) (by omega))
      have kc : (k : Int) ≤ (cap : Int) := by omega
      clear hs hu G0 O0
      go_wp2_with fail
      refine wp_region_still_tail 7 (by kernel_rfl) (by kernel_rfl) ?_
      simp only [List.take_succ_cons, List.take_zero, List.drop_succ_cons, List.drop_zero]
      change wpStill _ _ wr.drew (fun a' => wpList _ _ _ _ a' wr.drew) _ _
      generalize wr.drew = w2 at *
      repeat still_step
      refine wpStill_nil ?_
      have C := Lib.hid (specL3Has _ u (us.take k) (m.take k) (m.getD k []) w2 TK.out (take_rows HM.out k) S.out RW.out)
      obtain ⟨q, hq⟩ : ∃ q, Sp.has (m.take k) (m.getD k []) = q := ⟨_, rfl⟩
      rw [hq] at C FT
      clear hq
      go_wp2_with fail
      refine C.out.mono ?_
      rintro e w3 ⟨rfl, hg⟩
      have G3 := Lib.hid (grown_trans G.out hg)
      have O3 := Lib.hid (O.out.still hg)
      obtain ⟨lf, hlf⟩ : ∃ lf, ((Sp.firsts Sp.has (m.take k)).map fun (i : Nat) => (i : Int)) = lf := ⟨_, rfl⟩
      have ll : lf.length ≤ 8 := by rw [← hlf, List.length_map]; exact LT.out
      have LF := Lib.hid hlf
      rw [hlf] at O3
      have s3 : w.heap.size ≤ w3.heap.size := G3.out.size
      clear hg hx hlf O C
      cases q with
      | true =>
        go_wp2_with fail
        go_roundw
        case rel => exact ⟨k + 1, by omega, by go_num, G3.out, by rw [FT.out, if_pos trivial, List.append_nil, LF.out]; exact O3.out⟩
        case measure => simp [intOf]; omega
      | false =>
        go_wp2_with (first
          | (at_builtin; refine wpList_append_own _ rfl _ _ 33 rfl w.heap.size 3 i0 (.int .i64 0) 1 8 Try.underlying33 I1.out I2.out I3.out I4.out rfl (by decide) _ _ _ rfl (World.ownsRow.alloc O3.out _) ⟨w3.heap.size, 0, none⟩ 1 1 [.int .i64 k] rfl rfl (one_cell (g := 0)) (vals_one [(k : Int)]) ?c3 ?c4 ?c5 ?_))
        case c3 => unfold maxLen; omega
        case c4 => omega
        case c5 => simp; omega
        intro o' w5 ho hg _
        have O5 := Lib.hid (own_snoc (l := lf) (x := (k : Int)) ho rfl rfl)
        have G5 : Hid (w.grownBy w5 none) := Lib.hid (grown_own (grown_alloc G3.out _) hg (fun j hj => (World.ownsRow.lt O3.out j hj).1))
        clear ho hg
        go_wp2_with fail
        go_roundw
        case rel => exact ⟨k + 1, by omega, by go_num, G5.out, by rw [FT.out, if_neg (by simp), List.map_append, LF.out]; exact O5.out⟩
        case measure => simp [intOf]; omega
    · have : k = m.length := by omega
      subst this
      go_wp2_with fail
      go_ret
      refine ⟨_, rfl, G0.out, ?_⟩
      have := O0.out
      rwa [List.take_length] at this