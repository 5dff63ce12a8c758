/-
  The contracts of the model's l3Tidy, SpanTidy, SpanRank, l3Has, SpanHas, l3First, SpanFirst.
  Conditions: none.
-/
import Derived.Test.YtdbajokjhllekabSpanSpec3
import Derived.Test.YtdbajokjhllekabSpanTops
namespace Go.Proofs.Ytdbajokjhllekab
open Go.RowKit
set_option linter.unusedVariables false

theorem take_rows {m : List (List Int)} (hm : ∀ r ∈ m, Sp.Row 4 r) (k : Nat) : ∀ r ∈ m.take k, Sp.Row 4 r := fun r hr => hm r (List.mem_of_mem_take hr)

set_option maxHeartbeats 1000000 in
set_option maxRecDepth 20000 in
theorem specL3Tidy (v : Value) (us : List Value) (m : List (List Int)) (w : World) (h : Tab w v us m) (hm : ∀ r ∈ m, Sp.Row 4 r) : Calls Try.prog 37 #[v] w (NewSTab w.heap.size (Sp.ltidy m) w) := by
  have T := Lib.hid h
  have HM := Lib.hid hm
  obtain ⟨a, cap, rfl, h1, h2, h3⟩ := h.top
  clear h h3 hm
  unfold maxLen at h2
  have M0 := Lib.hid (STab.made w w.heap.size (Nat.le_refl _))
  go_enter Try.func37, Try.ntmps37
  go_wp2_with fail
  go_loopw [3, 4] (fun o i wr => ∃ k : Nat, k ≤ m.length ∧ i = .int .i64 k ∧ w.grownBy wr none ∧ ∃ vs, STab wr w.heap.size o vs (Sp.ltidy (m.take k))) (fun _ i _ => m.length - (intOf i).toNat)
  case atStart => exact ⟨0, Nat.zero_le _, rfl, grown_alloc (World.grownBy.refl _ _) _, [], M0.out⟩
  case round =>
    obtain ⟨k, hk, rfl, hg, vs, hst⟩ := hrel
    have G := Lib.hid hg
    have O := Lib.hid hst
    clear hg hst M0
    by_cases hlt : k < m.length
    · have hlt' : (k : Int) < (m.length : Int) := by omega
      obtain ⟨b, o, cap', u, e, hu, hx, hs⟩ := (T.out.grown G.out).at_ hlt
      injection e with e1 e2 e3
      subst e1 e3
      have S := Lib.hid hs
      have RW := Lib.hid (Sp.fresh_row HM.out hlt)
      have TM : Hid (Sp.ltidy (m.take (k + 1)) = Sp.ladd1 (Sp.ltidy (m.take k)) (m.getD k [])) := Lib.hid (by rw [take_more m hlt, Sp.ltidy_snoc])
      obtain ⟨L, hL, _⟩ := Sp.ltidy_is (take_rows HM.out k)
      have LL := Lib.hid hL
      clear hs hu hL
      go_wp2_with fail
      refine (specL3Add w.heap.size _ u vs _ L (m.getD k []) _ O.out G.out.size S.out RW.out LL.out).mono ?_
      rintro e w2 ⟨o2, vs2, rfl, hg, hst⟩
      have G2 := Lib.hid (grown_trans G.out hg)
      have O2 : Hid (STab w2 w.heap.size o2 vs2 (Sp.ltidy (m.take (k + 1)))) := Lib.hid (by rw [TM.out]; exact hst)
      clear hg hst hx
      go_wp2_with fail
      go_roundw
      case rel => exact ⟨k + 1, by omega, by go_num, G2.out, vs2, O2.out⟩
      case measure => simp [intOf]; omega
    · have : k = m.length := by omega
      subst this
      go_wp2_with fail
      go_ret
      refine ⟨_, vs, rfl, G.out, ?_⟩
      have := O.out
      rwa [List.take_length] at this

theorem stab_form {w : World} {base : Nat} {v : Value} {us : List Value} {m : List (List Int)} (h : STab w base v us m) : ∃ a cap, v = .slice a m.length cap ∧ m.length ≤ cap ∧ cap ≤ maxLen := by
  obtain ⟨a, cap, e, h1, h2, _⟩ := h.tab.top
  exact ⟨a, cap, e, h1, h2⟩

set_option maxHeartbeats 1000000 in
set_option maxRecDepth 20000 in
theorem specL3Has (v x : Value) (us : List Value) (m : List (List Int)) (l : List Int) (w : World) (h : Tab w v us m) (hm : ∀ r ∈ m, Sp.Row 4 r) (hx : Sl w x l) (hl : Sp.Row 4 l) : Calls Try.prog 64 #[v, x] w fun e w' => e = .returned (.bool (Sp.has m l)) ∧ w.grownBy w' none := by
  have T := Lib.hid h
  have HM := Lib.hid hm
  have X := Lib.hid hx
  have RL := Lib.hid hl
  clear h hm hx hl
  go_enter Try.func64, Try.ntmps64
  go_wp2_with fail
  refine (specL3Tidy v us m _ T.out HM.out).mono ?_
  rintro e w2 ⟨o2, vs2, rfl, hg, hst⟩
  have G := Lib.hid hg
  have O := Lib.hid hst
  have X2 := Lib.hid (X.out.grown hg)
  obtain ⟨L, hL, _⟩ := Sp.ltidy_is HM.out
  have LL := Lib.hid hL
  clear hg hst hL
  go_wp2_with fail
  refine (specL3Add w.heap.size o2 x vs2 _ L l _ O.out G.out.size X2.out RL.out LL.out).mono ?_
  rintro e w3 ⟨o3, vs3, rfl, hg, hst⟩
  have G3 := Lib.hid (grown_trans G.out hg)
  obtain ⟨a, cap, rfl, _, hc⟩ := stab_form O.out
  obtain ⟨a3, cap3, rfl, _, hc3⟩ := stab_form hst
  have H : Hid (Sp.has m l = decide ((Sp.ladd1 (Sp.ltidy m) l).length = (Sp.ltidy m).length)) := Lib.hid rfl
  generalize (Sp.ltidy m).length = n at *
  generalize (Sp.ladd1 (Sp.ltidy m) l).length = k at *
  clear hg hst O LL
  by_cases hkn : k = n
  · have hb : ((k : Int) == (n : Int)) = true := by simp [hkn]
    have HB : Hid (Sp.has m l = true) := Lib.hid (by rw [H.out]; exact decide_eq_true hkn)
    clear hkn
    go_wp2_with fail
    go_ret
    exact ⟨ret_bool HB.out, G3.out⟩
  · have hb : ((k : Int) == (n : Int)) = false := by simp; omega
    have HB : Hid (Sp.has m l = false) := Lib.hid (by rw [H.out]; exact decide_eq_false hkn)
    go_wp2_with fail
    go_ret
    exact ⟨ret_bool HB.out, G3.out⟩

def hasM (m : List (List Int)) (v : List Int) : Bool := okM m && Vec.ok v && Sp.has m v

/-- the first k rows, as a slice of a table. -/
theorem Tab.take {w : World} {a : Option Addr} {cap : Nat} {us : List Value} {m : List (List Int)} (h : Tab w (.slice a m.length cap) us m) {k : Nat} (hk : k ≤ m.length) : Tab w (.slice a k cap) (us.take k) (m.take k) := by
  have hl : (m.take k).length = k := by rw [List.length_take]; omega
  refine ⟨by rw [List.length_take, List.length_take, h.len], ?_, fun i u l hu hl => ?_⟩
  · obtain ⟨a', cap', e, h1, h2, h3⟩ := h.top
    injection e with e1 e2 e3
    subst e1 e3
    refine ⟨a, cap, by rw [hl], by omega, h2, ?_⟩
    rcases h3 with rfl | ⟨b, o, rfl, h3⟩
    · exact .inl (by simp)
    · refine .inr ⟨b, o, rfl, fun i u hu => h3 i u ?_⟩
      rw [List.getElem?_take] at hu
      split at hu
      · exact hu
      · cases hu
  · rw [List.getElem?_take] at hu hl
    split at hu
    · rename_i hi
      rw [if_pos hi] at hl
      exact h.rows i u l hu hl
    · cases hu

theorem firsts_take {m : List (List Int)} {k : Nat} (hk : k < m.length) : Sp.firsts Sp.has (m.take (k + 1)) = Sp.firsts Sp.has (m.take k) ++ (if Sp.has (m.take k) (m.getD k []) then [] else [k]) := by
  rw [take_more m hk, Sp.firsts_snoc, Sp.take_len m hk]