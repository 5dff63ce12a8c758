/-
  The contracts of the model's drawing of two tables, and of a table and a row.
  Conditions: none.
-/
import Derived.Test.YtogjgajabdiaaaaDrawSpan2
import Derived.Test.YtogjgajabdiaaaaSpanLaws
namespace Go.Proofs.Ytogjgajabdiaaaa
open Go.RowKit
set_option linter.unusedVariables false

/-- two tables of a law's own. -/
def DrawnTT (w : World) (e : Ending) (w' : World) : Prop := ∃ u v us vs m n, e = .returned (.tuple #[u, v]) ∧ w.grownBy w' none ∧ Tab w' u us m ∧ Tab w' v vs n
theorem rev_take (m : List (List Int)) {k : Nat} (hk : k < m.length) : (m.reverse.take (m.length - k - 1)) ++ [m.getD k []] = m.reverse.take (m.length - k) := by
  have h1 : m.length - k - 1 < m.reverse.length := by rw [List.length_reverse]; omega
  rw [show m.length - k = (m.length - k - 1) + 1 by omega, List.take_succ_eq_append_getElem h1, List.getElem_reverse]
  congr 2
  have e : m.length - 1 - (m.length - k - 1) = k := by omega
  simp only [e]
  simp [List.getD_eq_getElem?_getD, hk]

set_option maxHeartbeats 2000000 in
theorem drawSpanSame (a : Option Addr) (len cap : Nat) (w : World) (h : Code w a len cap) : Calls Try.prog 23 #[.slice a len cap] w (DrawnTT w) := by
  have H := Lib.hid h
  clear h
  obtain ⟨i0, hi, hz0, hz1, hz2⟩ := info_parts infoInts
  have I1 := Lib.hid hi
  have I2 := Lib.hid hz0
  have I3 := Lib.hid hz1
  have I4 := Lib.hid hz2
  clear hi hz0 hz1 hz2
  go_enter Try.func23, Try.ntmps23
  go_wp2_with fail
  refine (openR a len cap _ H.out).mono ?_
  rintro e w1 ⟨rfl, hb1, h1⟩
  have B1 := Lib.hid hb1
  have H1 := Lib.hid h1
  clear hb1 h1
  go_wp2_with fail
  refine (drawRows w.heap.size 0 _ H1.out (by omega)).mono ?_
  rintro e w2 ⟨v, us, m, rfl, hf, hr, hm, hd⟩
  obtain ⟨b, o, mc, rfl, hc1, hc2⟩ := drawn_form hd.st hd.nn
  unfold maxLen at hc2
  have F2 := Lib.hid hf
  have D2 := Lib.hid hd
  have R2 := Lib.hid hr
  clear hf hr hd
  go_wp2_with fail
  refine (pick w.heap.size (0 + 200) 3 _ R2.out (by omega) (by omega) (by omega)).mono ?_
  rintro e w3 ⟨j, j0, j1, rfl, hf, hr⟩
  have F3 := Lib.hid (F2.out.trans hf)
  have D3 := Lib.hid (D2.out.far hf H1.out.lt)
  have R3 := Lib.hid hr
  clear hf hr D2 F2 R2
  by_cases hj : j = 0
  · subst hj
    go_wp2_with fail
    refine (specSpanTidy _ us m _ D3.out.st.tab).mono ?_
    rintro e w4 ⟨o2, vs2, rfl, hg, hst⟩
    have F4 := Lib.hid (F3.out.own hg (by simp))
    have D4 := Lib.hid (D3.out.st.tab.grown hg)
    have S4 := Lib.hid hst.tab
    clear hg hst
    go_wp2_with fail
    go_ret2
    exact ⟨_, _, us, vs2, m, _, rfl, grown_of B1.out F4.out, D4.out, S4.out⟩
  have hj' : (j == 0) = false := by simp [hj]
  by_cases hk : j = 1
  · subst hk
    clear hj hj'
    have M0 := Lib.hid (STab.made w3 w3.heap.size (Nat.le_refl _))
    go_wp2_with fail
    go_loopw [6, 7] (fun x i wr => ∃ k : Nat, k ≤ m.length ∧ i = .int .i64 ((k : Int) - 1) ∧ w3.grownBy wr none ∧ ∃ vs, STab wr w3.heap.size x vs (m.reverse.take (m.length - k))) (fun _ i _ => (intOf i + 1).toNat)
    case atStart => exact ⟨m.length, Nat.le_refl _, rfl, grown_alloc (World.grownBy.refl _ _) _, [], by rw [Nat.sub_self]; exact M0.out⟩
    case round =>
      obtain ⟨k, hk, rfl, hg, vs, hst⟩ := hrel
      have G := Lib.hid hg
      have SO := Lib.hid hst
      clear hg hst M0
      by_cases hk0 : (k : Int) - 1 ≥ 0
      · obtain ⟨k', rfl⟩ : ∃ k', k = k' + 1 := ⟨k - 1, by omega⟩
        have hkk : ((k' + 1 : Nat) : Int) - 1 = (k' : Int) := by omega
        rw [hkk]
        have hlt : k' < m.length := by omega
        have hlt' : (k' : Int) < (m.length : Int) := by omega
        obtain ⟨b1, o1, cap1, u, e, hu, hx, hs⟩ := (D3.out.st.tab.grown G.out).at_ hlt
        injection e with e1 e2 e3
        injection e1 with e1
        injection e1 with e1 e5
        subst e1 e5 e3
        have RW := Lib.hid ((D3.out.st.still G.out).rows k' u (m.getD k' []) hu (okRow hlt))
        obtain ⟨au, cu, eu, _, _, _⟩ := hs
        obtain ⟨nu, hnu⟩ : ∃ n, (m.getD k' []).length = n := ⟨_, rfl⟩
        rw [hnu] at eu
        subst eu
        have RT := Lib.hid (rev_take m hlt)
        have TOP := Lib.hid SO.out.top
        have sz : w3.heap.size ≤ wr.heap.size := G.out.size
        have vl : vs.length ≤ 9 := by have := SO.out.len; rw [List.length_take, List.length_reverse] at this; omega
        clear hu hnu hkk hk0
        have hk0 : (k' : Int) ≥ 0 := by omega
        go_wp2_with (first
          | (at_builtin; refine wpList_append_own _ rfl _ _ 23 rfl w3.heap.size 29 i0 (.slice none 0 0) 1 24 Try.underlying23 I1.out I2.out I3.out I4.out rfl (by decide) _ _ _ rfl (World.ownsRow.alloc TOP.out _) ⟨wr.heap.size, 0, none⟩ 1 1 [.slice au nu cu] rfl rfl (one_cell (g := 0)) (by simp [Value.oneCell']) ?d3 ?d4 ?d5 ?_))
        case d3 => unfold maxLen; omega
        case d4 => omega
        case d5 => (try simp only [World.size_alloc]); omega
        intro o5 w5 ho hg _
        have SB : Hid (STab w5 w3.heap.size o5 (vs ++ [.slice au nu cu]) (m.reverse.take (m.length - k'))) := Lib.hid (SO.out.snoc (World.grownBy.refl _ _) RW.out (grown_trans (World.grownBy_alloc _ _ _) hg) ho rfl (by rw [show m.length - (k' + 1) = m.length - k' - 1 by omega]; exact RT.out))
        have G5 : Hid (w3.grownBy w5 none) := Lib.hid (grown_own (grown_alloc G.out _) hg (fun j hj => (World.ownsRow.lt TOP.out j hj).1))
        clear ho hg TOP hx
        go_wp2_with fail
        go_roundw
        case rel => exact ⟨k', by omega, rfl, G5.out, _, SB.out⟩
        case measure => simp [intOf]
      · have : k = 0 := by omega
        subst this
        go_wp2_with fail
        go_ret2
        exact ⟨_, _, us, vs, m, _, rfl, grown_of B1.out (F3.out.own G.out (by simp)), D3.out.st.tab.grown G.out, SO.out.tab⟩
  · have hk' : (j == 1) = false := by simp [hk]
    go_wp2_with fail
    refine (drawRows w.heap.size (0 + 200 + 1) _ R3.out (by omega)).mono ?_
    rintro e w4 ⟨v4, us4, m4, rfl, hf, hr, hm4, hd⟩
    have F4 := Lib.hid (F3.out.trans hf)
    have D4 := Lib.hid (D3.out.far hf H1.out.lt)
    have S4 := Lib.hid hd.st.tab
    clear hf hr hd
    go_wp2_with fail
    go_ret2
    exact ⟨_, _, us, us4, m, m4, rfl, grown_of B1.out F4.out, D4.out.st.tab, S4.out⟩
end Go.Proofs.Ytogjgajabdiaaaa
