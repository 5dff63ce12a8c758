/-
  From whatever bytes a matrix is drawn, SpanTidy does not depend on the order or the repetition of rows: the law FnSpanOrder returns true.
  Conditions: none.
-/
import Derived.Test.YtogjgajabdiaaaaRows
import Derived.WalkKit
import Derived.ProofKit
import Derived.OpenShut
import Derived.ShutString
import Derived.ChangeOld
import Derived.Below
import Derived.Test.YtogjgajabdiaaaaFldMath
import Derived.Test.YtogjgajabdiaaaaMem
import Derived.Test.YtogjgajabdiaaaaField
import Derived.Test.YtogjgajabdiaaaaVecMath
import Derived.Test.YtogjgajabdiaaaaSpanMath
import Derived.Test.YtogjgajabdiaaaaSpanList
import Derived.Test.YtogjgajabdiaaaaSpanTidy
import Derived.Test.YtogjgajabdiaaaaSpanMore
import Derived.Test.YtogjgajabdiaaaaSpanBy
import Derived.Test.YtogjgajabdiaaaaSpanWork
import Derived.Test.YtogjgajabdiaaaaInts
import Derived.Test.YtogjgajabdiaaaaTabs
import Derived.Test.YtogjgajabdiaaaaHelp
import Derived.Test.YtogjgajabdiaaaaVec
import Derived.Test.YtogjgajabdiaaaaVec2
import Derived.Test.YtogjgajabdiaaaaSpanHelp
import Derived.Test.YtogjgajabdiaaaaSpanHelp2
import Derived.Test.YtogjgajabdiaaaaSpanOk
import Derived.Test.YtogjgajabdiaaaaSpanLine
import Derived.Test.YtogjgajabdiaaaaSpanEch
import Derived.Test.YtogjgajabdiaaaaVecSpec
import Derived.Test.YtogjgajabdiaaaaSpanTake
import Derived.Test.YtogjgajabdiaaaaSpanProg
import Derived.Test.YtogjgajabdiaaaaSpanTops
import Derived.Test.YtogjgajabdiaaaaSpanSpec
import Derived.Test.YtogjgajabdiaaaaSpanSpec2
import Derived.Test.YtogjgajabdiaaaaSpanSpec3
import Derived.Test.YtogjgajabdiaaaaSpanSpec4
import Derived.Test.YtogjgajabdiaaaaSpanTopsBy
import Derived.Test.YtogjgajabdiaaaaSpanTops2
import Derived.Test.YtogjgajabdiaaaaSpanSame
import Derived.Test.YtogjgajabdiaaaaSpanLaws
import Derived.Test.YtogjgajabdiaaaaDraw
import Derived.Test.YtogjgajabdiaaaaDrawField
import Derived.Test.YtogjgajabdiaaaaDrawVec
import Derived.Test.YtogjgajabdiaaaaDrawSpan
import Derived.Test.YtogjgajabdiaaaaDrawSpan2
import Derived.Test.YtogjgajabdiaaaaDrawSpan3
namespace Go.Proofs.Ytogjgajabdiaaaa.fnSpanOrder
open Go.ChangeShapes Go.WideShapes Go.ChangeAt Go.RowKit
open Go.ChangeMaps (open_string shut_string)
set_option linter.unusedVariables false

theorem own : ownKnob Try.prog.godebug = none := by kernel_rfl
theorem laidOut : laidOutB Try.prog = true := by kernel_rfl

/-- WHAT THE WALK IS TOLD OF A SLICE OF INTEGERS THAT CAME IN: it is nil; or it leads to a row of 'cap' cells, the numbers 'zs' (the first 'len' are its elements, the rest its spare room), each fitting its kind. -/
def IsRow (k : IntKind) (w : World) (a : Option Addr) (len cap : Nat) (zs : List Int) : Prop :=
  (a = none ∧ len = 0 ∧ cap = 0 ∧ zs = []) ∨
  ∃ x, a = some x ∧ len ≤ cap ∧ cap ≤ maxLen ∧ zs.length = cap ∧ (∀ i, i < zs.length → w.cell? (x.add i) = some (.int k (zs.getD i 0))) ∧ ∀ n ∈ zs, (Lit.int k n).wf = true

theorem one_news {w : World} {k : Nat} {u : Value} (h : w.cell? ⟨k, 0, none⟩ = some u) : ∀ (j : Nat) (v : Value), [u][j]? = some v → w.cell? ((⟨k, 0, none⟩ : Addr).add j) = some v := by
  intro j v hv
  cases j with
  | zero =>
    simp at hv; subst hv
    rw [Addr.add_lit]; exact h
  | succ j => simp at hv
theorem okM_rev {m : List (List Int)} (h : okM m = true) : okM m.reverse = true := by
  simp only [okM, Bool.and_eq_true, decide_eq_true_eq, List.all_eq_true, List.length_reverse, List.mem_reverse] at h ⊢; exact h
theorem tidy_rev {m : List (List Int)} (h : okM m = true) : tidyM m.reverse = tidyM m := by
  rw [tidyM_yes h, tidyM_yes (okM_rev h)]
  refine (Sp.ltidy_same (okM_all (okM_rev h)) (okM_all h)).2 ⟨fun a ha => Sp.In.mem ?_, fun a ha => Sp.In.mem ?_⟩
  · rw [List.map_reverse] at ha; exact List.mem_reverse.1 ha
  · rw [List.map_reverse]; exact List.mem_reverse.2 ha
theorem okM_twice {m : List (List Int)} (h : okM m = true) {j : Nat} (hj : j < m.length) (h8 : m.length < 8) : okM (m ++ [m.getD j []]) = true := by
  refine okM_yes (by simp; omega) (fun i hi => ?_)
  by_cases e : i < m.length
  · rw [List.getD_eq_getElem?_getD, List.getElem?_append_left e, ← List.getD_eq_getElem?_getD]; exact okM_get h e
  · have : i = m.length := by simp at hi; omega
    subst this
    simpa using okM_get h hj
theorem tidy_more {m : List (List Int)} (h : okM m = true) {j : Nat} (hj : j < m.length) (h8 : m.length < 8) : tidyM (m ++ [m.getD j []]) = tidyM m := by
  rw [tidyM_yes h, tidyM_yes (okM_twice h hj h8)]
  refine (Sp.ltidy_same (okM_all (okM_twice h hj h8)) (okM_all h)).2 ⟨fun a ha => Sp.In.mem ?_, fun a ha => Sp.In.mem ?_⟩
  · rw [List.map_append] at ha
    rcases List.mem_append.1 ha with ha | ha
    · exact ha
    · simp only [List.map_cons, List.map_nil, List.mem_singleton] at ha
      subst ha
      refine List.mem_map.2 ⟨_, ?_, rfl⟩
      rw [List.getD_eq_getElem?_getD, List.getElem?_eq_getElem hj]; exact List.getElem_mem hj
  · rw [List.map_append]; exact List.mem_append.2 (.inl ha)

set_option maxHeartbeats 4000000 in
theorem walk (a0 : Option Addr) (len0 cap0 : Nat) (z0 : List Int) (a1 : Option Addr) (len1 cap1 : Nat) (z1 : List Int) (w : World) (w0 : IsRow .u8 w a0 len0 cap0 z0) (w1 : IsRow .u8 w a1 len1 cap1 z1) :
    Calls Try.prog 12 #[.slice a0 len0 cap0, .slice a1 len1 cap1] w fun e w' => e = .returned (.bool true) ∧ Below w.heap.size w w' := by
  have hc : Code w a0 len0 cap0 := code_of w0
  have hm : cap0 ≤ maxLen := hc.2.1
  have hl : len0 ≤ cap0 := hc.1
  unfold maxLen at hm
  have C := Lib.hid hc
  clear hc w0
  have hc1 : Code w a1 len1 cap1 := code_of w1
  have hm1 : cap1 ≤ maxLen := hc1.2.1
  have hl1 : len1 ≤ cap1 := hc1.1
  unfold maxLen at hm1
  clear hc1 w1
  by_cases hbig0 : (len0 : Int) > 1048576
  · go_enter Try.func12, Try.ntmps12
    go_wp2_with fail
    go_ret
    exact ⟨rfl, Below.refl _ _⟩
  by_cases hbig1 : (len1 : Int) > 1048576
  · go_enter Try.func12, Try.ntmps12
    go_wp2_with fail
    go_ret
    exact ⟨rfl, Below.refl _ _⟩
  obtain ⟨i0, hi, hz0, hz1, hz2⟩ := info_parts infoInts
  have I1 := Lib.hid hi
  have I2 := Lib.hid hz0
  have I3 := Lib.hid hz1
  have I4 := Lib.hid hz2
  clear hi hz0 hz1 hz2
  go_enter Try.func12, Try.ntmps12
  go_wp2_with fail
  refine (drawSpanTidy a0 len0 cap0 _ C.out).mono ?_
  rintro e W1 ⟨mv, mus, m, rfl, hg, hm10, hst, hnn⟩
  obtain ⟨b, o, cap, rfl, h1, h2⟩ := drawn_form hst hnn
  unfold maxLen at h2
  have G1 := Lib.hid hg
  have ST1 := Lib.hid hst
  clear hg hst hnn
  go_wp2_with fail
  refine (implSpanTidy _ mus m _ ST1.out.tab).mono ?_
  rintro e W2 ⟨tv, tus, rfl, hg, htl, ho⟩
  have G2 := Lib.hid (grown_trans G1.out hg)
  have ST2 := Lib.hid (ST1.out.still hg)
  have TT := Lib.hid (tab_own htl ho)
  clear hg ho G1 ST1
  go_wp2_with fail
  refine (specSpanTidy _ mus m _ ST2.out.tab).mono ?_
  rintro e W3 ⟨rv, rus, rfl, hg, hst⟩
  have G3 := Lib.hid (grown_trans G2.out hg)
  have ST3 := Lib.hid (ST2.out.still hg)
  have TT3 := Lib.hid (TT.out.grown hg)
  have TR := Lib.hid hst.tab
  clear hg hst G2 ST2 TT
  go_wp2_with fail
  refine (lkTab tv rv tus rus (tidyM m) (tidyM m) _ TT3.out TR.out).mono ?_
  rintro e W4 ⟨rfl, hg⟩
  rw [decide_eq_true rfl]
  have G4 := Lib.hid (grown_trans G3.out hg)
  have ST4 := Lib.hid (ST3.out.still hg)
  have TT4 := Lib.hid (TT3.out.grown hg)
  clear hg G3 ST3 TT3 TR
  have K2 := Lib.hid (specSpanOk _ mus m W4 ST4.out.tab)
  obtain ⟨nm, hnm⟩ : ∃ n, m.length = n := ⟨_, rfl⟩
  have HNM := Lib.hid hnm
  cases hok : okM m with
  | false =>
    rw [hok] at K2
    clear hok hnm
    go_wp2_with fail
    refine K2.out.mono ?_
    rintro e w' ⟨rfl, rfl⟩
    go_wp2_with fail
    refine (specSpanTidy _ mus m _ ST4.out.tab).mono ?_
    rintro e W5 ⟨rv, rus, rfl, hg, hst⟩
    have G5 := Lib.hid (grown_trans G4.out hg)
    have TT5 := Lib.hid (TT4.out.grown hg)
    have TR := Lib.hid hst.tab
    clear hg hst
    go_wp2_with fail
    refine (lkTab tv rv tus rus (tidyM m) (tidyM m) _ TT5.out TR.out).mono ?_
    rintro e W6 ⟨rfl, hg⟩
    rw [decide_eq_true rfl]
    have G6 := Lib.hid (grown_trans G5.out hg)
    clear hg
    go_wp2_with fail
    go_ret
    exact ⟨rfl, below_grown G6.out⟩
  | true =>
    have m8 := okM_len hok
    have HOK := Lib.hid hok
    rw [hok] at K2
    clear hok
    by_cases hz : m.length = 0
    · have hzb : ((m.length : Int) == 0) = true := by simp [hz]
      clear hnm hz
      go_wp2_with fail
      refine K2.out.mono ?_
      rintro e w' ⟨rfl, rfl⟩
      go_wp2_with fail
      refine (specSpanTidy _ mus m _ ST4.out.tab).mono ?_
      rintro e W5 ⟨rv, rus, rfl, hg, hst⟩
      have G5 := Lib.hid (grown_trans G4.out hg)
      have TT5 := Lib.hid (TT4.out.grown hg)
      have TR := Lib.hid hst.tab
      clear hg hst
      go_wp2_with fail
      refine (lkTab tv rv tus rus (tidyM m) (tidyM m) _ TT5.out TR.out).mono ?_
      rintro e W6 ⟨rfl, hg⟩
      rw [decide_eq_true rfl]
      have G6 := Lib.hid (grown_trans G5.out hg)
      clear hg
      go_wp2_with fail
      go_ret
      exact ⟨rfl, below_grown G6.out⟩
    have hzb : ((m.length : Int) == 0) = false := by simp; intro e; exact hz (by rw [e]; rfl)
    by_cases h8 : m.length = 8
    · have h8b : ((m.length : Int) == 8) = true := by simp [h8]
      clear hnm hz h8
      go_wp2_with fail
      refine K2.out.mono ?_
      rintro e w' ⟨rfl, rfl⟩
      go_wp2_with fail
      refine (specSpanTidy _ mus m _ ST4.out.tab).mono ?_
      rintro e W5 ⟨rv, rus, rfl, hg, hst⟩
      have G5 := Lib.hid (grown_trans G4.out hg)
      have TT5 := Lib.hid (TT4.out.grown hg)
      have TR := Lib.hid hst.tab
      clear hg hst
      go_wp2_with fail
      refine (lkTab tv rv tus rus (tidyM m) (tidyM m) _ TT5.out TR.out).mono ?_
      rintro e W6 ⟨rfl, hg⟩
      rw [decide_eq_true rfl]
      have G6 := Lib.hid (grown_trans G5.out hg)
      clear hg
      go_wp2_with fail
      go_ret
      exact ⟨rfl, below_grown G6.out⟩
    have h8b : ((m.length : Int) == 8) = false := by simp; omega
    clear hnm
    have M0 := Lib.hid (STab.made W4 W4.heap.size (Nat.le_refl _))
    have m0 : 0 < m.length := by omega
    have hmne : ¬ m = [] := by rintro rfl; simp at m0
    go_wp2_with fail
    refine K2.out.mono ?_
    rintro e w' ⟨rfl, rfl⟩
    go_wp2_with fail
    go_loopw [7, 8] (fun x i wr => ∃ k : Nat, k ≤ m.length ∧ i = .int .i64 ((k : Int) - 1) ∧ W4.grownBy wr none ∧ ∃ vs, STab wr W4.heap.size x vs (m.reverse.take (m.length - k))) (fun _ i _ => (intOf i + 1).toNat)
    case atStart => exact ⟨m.length, Nat.le_refl _, rfl, grown_alloc (World.grownBy.refl _ _) _, [], by rw [Nat.sub_self]; exact M0.out⟩
    case round =>
      obtain ⟨k, hk, rfl, hg, vs, hst⟩ := hrel
      have G := Lib.hid hg
      have SO := Lib.hid hst
      clear hg hst M0
      by_cases hk0 : (k : Int) - 1 ≥ 0
      · obtain ⟨k', rfl⟩ : ∃ k', k = k' + 1 := ⟨k - 1, by omega⟩
        have hkk : ((k' + 1 : Nat) : Int) - 1 = (k' : Int) := by omega
        rw [hkk]
        have hlt : k' < m.length := by omega
        have hlt' : (k' : Int) < (m.length : Int) := by omega
        obtain ⟨b1, o1, cap1, u, e, hu, hx, hs⟩ := (ST4.out.tab.grown G.out).at_ hlt
        injection e with e1 e2 e3
        injection e1 with e1
        injection e1 with e1 e5
        subst e1 e5 e3
        have RW := Lib.hid ((ST4.out.still G.out).rows k' u (m.getD k' []) hu (okRow hlt))
        obtain ⟨au, cu, eu, _, _, _⟩ := hs
        obtain ⟨nu, hnu⟩ : ∃ n, (m.getD k' []).length = n := ⟨_, rfl⟩
        rw [hnu] at eu
        subst eu
        have RT := Lib.hid (rev_take m hlt)
        have TOP := Lib.hid SO.out.top
        have sz : W4.heap.size ≤ wr.heap.size := G.out.size
        have vl : vs.length ≤ 9 := by have := SO.out.len; rw [List.length_take, List.length_reverse] at this; omega
        clear hu hnu hkk hk0
        have hk0 : (k' : Int) ≥ 0 := by omega
        go_wp2_with (first
          | (at_builtin; refine wpList_append_own _ rfl _ _ 23 rfl W4.heap.size 29 i0 (.slice none 0 0) 1 24 Try.underlying23 I1.out I2.out I3.out I4.out rfl (by decide) _ _ _ rfl (World.ownsRow.alloc TOP.out _) ⟨wr.heap.size, 0, none⟩ 1 1 [.slice au nu cu] rfl rfl (one_cell (g := 0)) (by simp [Value.oneCell']) ?d3 ?d4 ?d5 ?_))
        case d3 => unfold maxLen; omega
        case d4 => omega
        case d5 => (try simp only [World.size_alloc]); omega
        intro o5 w5 ho hg _
        have SB : Hid (STab w5 W4.heap.size o5 (vs ++ [.slice au nu cu]) (m.reverse.take (m.length - k'))) := Lib.hid (SO.out.snoc (World.grownBy.refl _ _) RW.out (grown_trans (World.grownBy_alloc _ _ _) hg) ho rfl (by rw [show m.length - (k' + 1) = m.length - k' - 1 by omega]; exact RT.out))
        have G5 : Hid (W4.grownBy w5 none) := Lib.hid (grown_own (grown_alloc G.out _) hg (fun j hj => (World.ownsRow.lt TOP.out j hj).1))
        clear ho hg TOP hx
        go_wp2_with fail
        go_roundw
        case rel => exact ⟨k', by omega, rfl, G5.out, _, SB.out⟩
        case measure => simp [intOf]
      · have : k = 0 := by omega
        subst this
        have SR : Hid (STab wr W4.heap.size u7 vs m.reverse) := Lib.hid (by have := SO.out; rw [Nat.sub_zero] at this; rwa [List.take_of_length_le (by rw [List.length_reverse]; exact Nat.le_refl _)] at this)
        obtain ⟨j, hj, hjm⟩ : ∃ j : Nat, (len1 : Int).tmod (m.length : Int) = j ∧ j < m.length := by
          refine ⟨len1 % m.length, ?_, Nat.mod_lt _ m0⟩
          rw [Int.tmod_eq_emod_of_nonneg (by omega)]; simp
        have hjm' : (j : Int) < (m.length : Int) := by omega
        have hmz : ¬ (m.length : Int) = 0 := by omega
        obtain ⟨b1, o1, cap1, u, e, hu, hx, hs⟩ := (ST4.out.tab.grown G.out).at_ hjm
        injection e with e1 e2 e3
        injection e1 with e1
        injection e1 with e1 e5
        subst e1 e5 e3
        have r4 : (m.getD j []).length = 4 := (Sp.fresh_row (okM_all HOK.out) hjm).1
        obtain ⟨au, cu, eu, _, _, _⟩ := hs
        rw [r4] at eu
        subst eu
        have RW4 := Lib.hid (ST4.out.rows j _ (m.getD j []) hu (okRow hjm))
        have LM : Hid (mus.length = m.length) := Lib.hid ST4.out.len
        have OWN1 : Hid (((wr.alloc (.cells #[] 29)).drew).ownsRow wr.heap.size 29 1 (.slice (some ⟨wr.heap.size, 0, none⟩) 0 0) 0 []) := Lib.hid (World.ownsRow.drew (STab.made wr wr.heap.size (Nat.le_refl _)).top)
        have OWN2 : Hid ((((wr.alloc (.cells #[] 29)).alloc (.cells #[.slice au 4 cu] 29)).drew).ownsRow wr.heap.size 29 1 (.slice (some ⟨wr.heap.size, 0, none⟩) 0 0) 0 []) := Lib.hid (World.ownsRow.drew (World.ownsRow.alloc (STab.made wr wr.heap.size (Nat.le_refl _)).top _))
        have OWN3 : Hid ((((wr.alloc (.cells #[.slice au 4 cu] 29)).alloc (.cells #[] 29)).drew).ownsRow wr.heap.size 29 1 (.slice (some ⟨wr.heap.size + 1, 0, none⟩) 0 0) 0 []) := Lib.hid (World.ownsRow.drew (by
          have := (STab.made (wr.alloc (.cells #[.slice au 4 cu] 29)) wr.heap.size (by simp)).top
          rw [World.size_alloc] at this
          exact this))
        have GE := Lib.hid (grown_drew (grown_alloc G.out (.cells #[] 29)))
        have GER := Lib.hid (grown_drew (grown_alloc (grown_alloc G.out (.cells #[] 29)) (.cells #[.slice au 4 cu] 29)))
        have GRE := Lib.hid (grown_drew (grown_alloc (grown_alloc G.out (.cells #[.slice au 4 cu] 29)) (.cells #[] 29)))
        have ST1' := Lib.hid (ST4.out.still GE.out)
        have ST2' := Lib.hid (ST4.out.still GER.out)
        have ST3' := Lib.hid (ST4.out.still GRE.out)
        have hy0 : wr.drew.cell? ⟨b, o + j, none⟩ = some (.slice au 4 cu) := hx
        have bl : b < wr.heap.size := lt_of_cell hx
        have hy1 : ((wr.alloc (.cells #[] 29)).drew).cell? ⟨b, o + j, none⟩ = some (.slice au 4 cu) := (grown_drew (World.grownBy_alloc wr (.cells #[] 29) none)).cell hx (by simp)
        have hy2 : (((wr.alloc (.cells #[] 29)).alloc (.cells #[.slice au 4 cu] 29)).drew).cell? ⟨b, o + j, none⟩ = some (.slice au 4 cu) := (grown_drew (grown_alloc (World.grownBy_alloc wr (.cells #[] 29) none) (.cells #[.slice au 4 cu] 29))).cell hx (by simp)
        have hz1 : ((wr.alloc (.cells #[.slice au 4 cu] 29)).drew).cell? ⟨b, o + j, none⟩ = some (.slice au 4 cu) := (grown_drew (World.grownBy_alloc wr (.cells #[.slice au 4 cu] 29) none)).cell hx (by simp)
        have hy3 : (((wr.alloc (.cells #[.slice au 4 cu] 29)).alloc (.cells #[] 29)).drew).cell? ⟨b, o + j, none⟩ = some (.slice au 4 cu) := (grown_drew (grown_alloc (World.grownBy_alloc wr (.cells #[.slice au 4 cu] 29) none) (.cells #[] 29))).cell hx (by simp)
        have RC2 : Hid ((((wr.alloc (.cells #[] 29)).alloc (.cells #[.slice au 4 cu] 29)).drew).cell? ⟨wr.heap.size + 1, 0, none⟩ = some (.slice au 4 cu)) := Lib.hid (by
          have := one_cell_at (w := wr.alloc (.cells #[] 29)) (k := wr.heap.size + 1) (u := .slice au 4 cu) (t := 29) (by simp) 0 _ rfl
          rw [Addr.add_lit] at this
          exact this)
        have RC3 : Hid ((((wr.alloc (.cells #[.slice au 4 cu] 29)).alloc (.cells #[] 29)).drew).cell? ⟨wr.heap.size, 0, none⟩ = some (.slice au 4 cu)) := Lib.hid (by
          have := one_cell_at (w := wr) (k := wr.heap.size) (u := .slice au 4 cu) (t := 29) rfl 0 _ rfl
          rw [Addr.add_lit] at this
          exact (World.grownBy_alloc (wr.alloc (.cells #[.slice au 4 cu] 29)) (.cells #[] 29) none).cell this (by simp))
        have NR2 : Hid (some (wr.heap.size + 1) ≠ (Value.slice (some ⟨wr.heap.size, 0, none⟩) 0 0).ownBlock) := Lib.hid (by simp [Value.ownBlock])
        have NR3 : Hid (some wr.heap.size ≠ (Value.slice (some ⟨wr.heap.size + 1, 0, none⟩) 0 0).ownBlock) := Lib.hid (by simp [Value.ownBlock])
        have NB0 : Hid (some b ≠ (Value.slice (some ⟨wr.heap.size, 0, none⟩) 0 0).ownBlock) := Lib.hid (by simp [Value.ownBlock]; omega)
        have NB1 : Hid (some b ≠ (Value.slice (some ⟨wr.heap.size + 1, 0, none⟩) 0 0).ownBlock) := Lib.hid (by simp [Value.ownBlock]; omega)
        clear hu r4
        go_wp2_with fail
        go_region_held3 (fun w' => w'.cell? ⟨b, o + j, none⟩ = some (.slice au 4 cu))
            (first
              | with_reducible exact hy0
              | with_reducible exact hy1
              | with_reducible exact hy2
              | with_reducible exact hz1
              | with_reducible exact hy3
              | with_reducible exact ya1
              | with_reducible exact ya2
              | with_reducible exact ya3
              | with_reducible exact yb
              | go_keep)
            (first
              | (refine step_append_lies _ (by rfl) _ _ _ (by rfl) wr.heap.size 29 i0 (.slice none 0 0) 1 24 Try.underlying23 I1.out I2.out I3.out I4.out rfl (by omega) (.slice (some ⟨wr.heap.size, 0, none⟩) 0 0) 0 [] (by rfl) OWN1.out ⟨b, o, none⟩ m.length cap mus (by rfl) (by rw [LM.out]; omega) (tab_cells ST1'.out.tab) (tab_one ST1'.out.tab) m0 (by unfold maxLen; omega) (by omega) (by simp <;> omega) (wr.heap.size + 1) (by simp) ?_
                 intro ga ca wa hoa hga hata hlta
                 simp only [Nat.zero_add] at hoa ⊢
                 have ya1 := hga.cell hy1 NB0.out
                 have SCA : Hid (STab wa wr.heap.size (.slice (some ⟨ga, 0, none⟩) m.length ca) mus m) := Lib.hid (stab_copy OWN1.out LM.out ST1'.out.rows hga hoa LM.out.symm)
                 have GWA : Hid (W4.grownBy wa none) := Lib.hid (grown_own GE.out hga (fun q hq => Nat.le_trans G.out.size (World.ownsRow.lt OWN1.out q hq).1))
                 have WRA : Hid (wr.grownBy wa none) := Lib.hid (grown_own (grown_drew (World.grownBy_alloc wr (.cells #[] 29) none)) hga (fun q hq => (World.ownsRow.lt OWN1.out q hq).1))
                 have GA1 := Lib.hid hga
                 have HOA : Hid (wa.ownsRow wr.heap.size 29 1 (.slice (some ⟨ga, 0, none⟩) m.length ca) m.length mus) := Lib.hid hoa
                 clear hga hoa hata hlta)
              | (refine step_append_lies _ (by rfl) _ _ _ (by rfl) wr.heap.size 29 i0 (.slice none 0 0) 1 24 Try.underlying23 I1.out I2.out I3.out I4.out rfl (by omega) (.slice (some ⟨wr.heap.size, 0, none⟩) 0 0) 0 [] (by rfl) OWN2.out ⟨b, o, none⟩ m.length cap mus (by rfl) (by rw [LM.out]; omega) (tab_cells ST2'.out.tab) (tab_one ST2'.out.tab) m0 (by unfold maxLen; omega) (by omega) (by simp <;> omega) (wr.heap.size + 1 + 1) (by simp) ?_
                 intro ga ca wa hoa hga hata hlta
                 simp only [Nat.zero_add] at hoa ⊢
                 have ya2 := hga.cell hy2 NB0.out
                 have SCA : Hid (STab wa wr.heap.size (.slice (some ⟨ga, 0, none⟩) m.length ca) mus m) := Lib.hid (stab_copy OWN2.out LM.out ST2'.out.rows hga hoa LM.out.symm)
                 have GWA : Hid (W4.grownBy wa none) := Lib.hid (grown_own GER.out hga (fun q hq => Nat.le_trans G.out.size (World.ownsRow.lt OWN2.out q hq).1))
                 have WRA : Hid (wr.grownBy wa none) := Lib.hid (grown_own (grown_drew (grown_alloc (World.grownBy_alloc wr (.cells #[] 29) none) (.cells #[.slice au 4 cu] 29))) hga (fun q hq => (World.ownsRow.lt OWN2.out q hq).1))
                 have GA2 := Lib.hid hga
                 have HOA : Hid (wa.ownsRow wr.heap.size 29 1 (.slice (some ⟨ga, 0, none⟩) m.length ca) m.length mus) := Lib.hid hoa
                 clear hga hoa hata hlta)
              | (refine step_append_lies _ (by rfl) _ _ _ (by rfl) wr.heap.size 29 i0 (.slice none 0 0) 1 24 Try.underlying23 I1.out I2.out I3.out I4.out rfl (by omega) (.slice (some ⟨wr.heap.size + 1, 0, none⟩) 0 0) 0 [] (by rfl) OWN3.out ⟨b, o, none⟩ m.length cap mus (by rfl) (by rw [LM.out]; omega) (tab_cells ST3'.out.tab) (tab_one ST3'.out.tab) m0 (by unfold maxLen; omega) (by omega) (by simp <;> omega) (wr.heap.size + 1 + 1) (by simp) ?_
                 intro ga ca wa hoa hga hata hlta
                 simp only [Nat.zero_add] at hoa ⊢
                 have ya3 := hga.cell hy3 NB1.out
                 have SCA : Hid (STab wa wr.heap.size (.slice (some ⟨ga, 0, none⟩) m.length ca) mus m) := Lib.hid (stab_copy OWN3.out LM.out ST3'.out.rows hga hoa LM.out.symm)
                 have GWA : Hid (W4.grownBy wa none) := Lib.hid (grown_own GRE.out hga (fun q hq => Nat.le_trans G.out.size (World.ownsRow.lt OWN3.out q hq).1))
                 have WRA : Hid (wr.grownBy wa none) := Lib.hid (grown_own (grown_drew (grown_alloc (World.grownBy_alloc wr (.cells #[.slice au 4 cu] 29) none) (.cells #[] 29))) hga (fun q hq => (World.ownsRow.lt OWN3.out q hq).1))
                 have GA3 := Lib.hid hga
                 have HOA : Hid (wa.ownsRow wr.heap.size 29 1 (.slice (some ⟨ga, 0, none⟩) m.length ca) m.length mus) := Lib.hid hoa
                 clear hga hoa hata hlta)
              | (refine step_append_lies _ (by rfl) _ _ _ (by rfl) wr.heap.size 29 i0 (.slice none 0 0) 1 24 Try.underlying23 I1.out I2.out I3.out I4.out rfl (by omega) (.slice (some ⟨ga, 0, none⟩) m.length ca) m.length mus (by rfl) (World.ownsRow.alloc HOA.out _) ⟨wa.heap.size, 0, none⟩ 1 1 [.slice au 4 cu] (by rfl) (by rfl) (one_cell (g := 0)) (by simp [Value.oneCell']) (by omega) (by unfold maxLen; omega) (by omega) (by have := WRA.out.size; simp <;> omega) (wa.heap.size + 1) (by simp) ?_
                 intro gb cb wb hob hgb hatb hltb
                 have SBB : Hid (STab wb wr.heap.size (.slice (some ⟨gb, 0, none⟩) (m.length + 1) cb) (mus ++ [.slice au 4 cu]) (m ++ [m.getD j []])) := Lib.hid (SCA.out.snoc (World.grownBy_alloc wa (.cells #[.slice au 4 cu] 29) none) ⟨RW4.out.1.grown (grown_alloc GWA.out (.cells #[.slice au 4 cu] 29)), RW4.out.2.still (grown_alloc GWA.out (.cells #[.slice au 4 cu] 29))⟩ hgb hob (by rw [LM.out]) rfl)
                 have GBB : Hid (wr.grownBy wb none) := Lib.hid (grown_own (grown_alloc WRA.out (.cells #[.slice au 4 cu] 29)) hgb (fun q hq => (World.ownsRow.lt HOA.out q hq).1))
                 have yb : wb.cell? ⟨b, o + j, none⟩ = some (.slice au 4 cu) := GBB.out.cell hx (by simp)
                 clear GA1 hgb hob hatb hltb)
              | (refine step_append_lies _ (by rfl) _ _ _ (by rfl) wr.heap.size 29 i0 (.slice none 0 0) 1 24 Try.underlying23 I1.out I2.out I3.out I4.out rfl (by omega) (.slice (some ⟨ga, 0, none⟩) m.length ca) m.length mus (by rfl) HOA.out ⟨wr.heap.size + 1, 0, none⟩ 1 1 [.slice au 4 cu] (by rfl) (by rfl) (one_news (GA2.out.cell RC2.out NR2.out)) (by simp [Value.oneCell']) (by omega) (by unfold maxLen; omega) (by omega) (by have := WRA.out.size; simp <;> omega) wa.heap.size rfl ?_
                 intro gb cb wb hob hgb hatb hltb
                 have SBB : Hid (STab wb wr.heap.size (.slice (some ⟨gb, 0, none⟩) (m.length + 1) cb) (mus ++ [.slice au 4 cu]) (m ++ [m.getD j []])) := Lib.hid (SCA.out.snoc (World.grownBy.refl wa none) ⟨RW4.out.1.grown GWA.out, RW4.out.2.still GWA.out⟩ hgb hob (by rw [LM.out]) rfl)
                 have GBB : Hid (wr.grownBy wb none) := Lib.hid (grown_own WRA.out hgb (fun q hq => (World.ownsRow.lt HOA.out q hq).1))
                 have yb : wb.cell? ⟨b, o + j, none⟩ = some (.slice au 4 cu) := GBB.out.cell hx (by simp)
                 clear GA2 hgb hob hatb hltb)
              | (refine step_append_lies _ (by rfl) _ _ _ (by rfl) wr.heap.size 29 i0 (.slice none 0 0) 1 24 Try.underlying23 I1.out I2.out I3.out I4.out rfl (by omega) (.slice (some ⟨ga, 0, none⟩) m.length ca) m.length mus (by rfl) HOA.out ⟨wr.heap.size, 0, none⟩ 1 1 [.slice au 4 cu] (by rfl) (by rfl) (one_news (GA3.out.cell RC3.out NR3.out)) (by simp [Value.oneCell']) (by omega) (by unfold maxLen; omega) (by omega) (by have := WRA.out.size; simp <;> omega) wa.heap.size rfl ?_
                 intro gb cb wb hob hgb hatb hltb
                 have SBB : Hid (STab wb wr.heap.size (.slice (some ⟨gb, 0, none⟩) (m.length + 1) cb) (mus ++ [.slice au 4 cu]) (m ++ [m.getD j []])) := Lib.hid (SCA.out.snoc (World.grownBy.refl wa none) ⟨RW4.out.1.grown GWA.out, RW4.out.2.still GWA.out⟩ hgb hob (by rw [LM.out]) rfl)
                 have GBB : Hid (wr.grownBy wb none) := Lib.hid (grown_own WRA.out hgb (fun q hq => (World.ownsRow.lt HOA.out q hq).1))
                 have yb : wb.cell? ⟨b, o + j, none⟩ = some (.slice au 4 cu) := GBB.out.cell hx (by simp)
                 clear GA3 hgb hob hatb hltb))
        all_goals
          have GW := Lib.hid (grown_trans G.out GBB.out)
          have TT5 := Lib.hid (TT4.out.grown GW.out)
          clear hy0 hy1 hy2 hz1 hy3 bl yb
          go_wp2_with fail
          refine (implSpanTidy u7 vs m.reverse _ (SR.out.tab.grown GBB.out)).mono ?_
          rintro e x1 ⟨xv, xus, rfl, hg, hxl, ho⟩
          rw [tidy_rev HOK.out] at hxl ho
          have H1 := Lib.hid hg
          have X1 := Lib.hid (tab_own hxl ho)
          clear hg ho
          go_wp2_with fail
          refine (lkTab xv tv xus tus (tidyM m) (tidyM m) _ X1.out (TT5.out.grown H1.out)).mono ?_
          rintro e x2 ⟨rfl, hg⟩
          rw [decide_eq_true rfl]
          have H2 := Lib.hid (grown_trans H1.out hg)
          clear hg
          go_wp2_with fail
          refine (implSpanTidy _ _ (m ++ [m.getD j []]) _ (SBB.out.tab.grown H2.out)).mono ?_
          rintro e x3 ⟨zv, zus, rfl, hg, hzl, ho⟩
          rw [tidy_more HOK.out hjm (by omega)] at hzl ho
          have H3 := Lib.hid (grown_trans H2.out hg)
          have X3 := Lib.hid (tab_own hzl ho)
          clear hg ho
          go_wp2_with fail
          refine (lkTab zv tv zus tus (tidyM m) (tidyM m) _ X3.out (TT5.out.grown H3.out)).mono ?_
          rintro e x4 ⟨rfl, hg⟩
          rw [decide_eq_true rfl]
          have H4 := Lib.hid (grown_trans G4.out (grown_trans GW.out (grown_trans H3.out hg)))
          clear hg
          go_wp2_with fail
          go_ret
          exact ⟨rfl, below_grown H4.out⟩

set_option maxRecDepth 100000 in
theorem lifted (os : Os) (started : os.Started) (H : Type) (enc : TypeId × Value → H) :
    ReturnsInHanded {} Try.checked os 12 .any (Rows.fnSpanOrderSpec.pre6 enc Try.prog Try.f12 Rows.fnSpanOrderRow.domain false) (Rows.fnSpanOrderSpec.post enc Try.prog Try.f12 false true false false) := by
  refine returnsInHanded_of_change (C := Try.checked) own started (by kernel_rfl) Try.func12
    (ChangeSpec.witness6 (enc := enc) (C := Try.checked) false ⟨#[], #[.slice none 0 0, .slice none 0 0], []⟩ 8 (by kernel_rfl) (by kernel_rfl) (by kernel_rfl) (by kernel_rfl)) ?_
  intro W base args ds gs before hval0 hW hcnd _
  have hval : ∀ (j : Nat) t v, Try.f12.params[j]? = some t → args[j]? = some v → Value.okWide Try.prog W .any base t v := hval0
  have hW' := hW
  obtain ⟨p, q, hA0, hV, rfl, hfz, hnd⟩ := hW
  have hA : DataW.TrodAll enc Try.prog W 0 (fun _ => true) true Try.f12.params.toList args.toList ds p := hA0
  rw [Try.params12] at hA hval
  obtain ⟨v0, vs0, d0, ds0, p0, q0, hargs, rfl, rfl, h0, r0⟩ := trodAll_cons hA
  obtain ⟨v1, vs1, d1, ds1, p1, q1, rfl, rfl, rfl, h1, r1⟩ := trodAll_cons r0
  obtain ⟨rfl, rfl, rfl⟩ := trodAll_nil r1
  obtain rfl : args = #[v0, v1] := by cases args; simp_all
  obtain ⟨rfl, rfl⟩ := trodVars_none hV
  obtain ⟨a0, len0, cap0, rfl⟩ := okWide_slice Try.underlying22 (hval 0 22 v0 rfl rfl)
  have k0 := h0
  have lt0 : ∀ x ∈ p0, x.block < W.heap.size := by obtain ⟨m, hm⟩ := k0; exact DataW.trod_lt m _ _ _ hm
  obtain ⟨z0, w0⟩ : ∃ zs, IsRow .u8 W a0 len0 cap0 zs := by
    obtain ⟨fuel, hf⟩ := h0
    rcases open_ints Try.underlying22 Try.underlying5 (by kernel_rfl) hf with ⟨hcs, _⟩ | ⟨x, l, c, zs, hcs, _, hl, hm, hz, _, hcell, hwz⟩
    · simp [Value.cells] at hcs
      obtain ⟨rfl, rfl, rfl⟩ := hcs
      exact ⟨[], .inl ⟨rfl, rfl, rfl, rfl⟩⟩
    · simp [Value.cells] at hcs
      obtain ⟨rfl, rfl, rfl⟩ := hcs
      exact ⟨zs, .inr ⟨_, rfl, hl, hm, by simpa using hz, hcell, hwz⟩⟩
  obtain ⟨a1, len1, cap1, rfl⟩ := okWide_slice Try.underlying22 (hval 1 22 v1 rfl rfl)
  have k1 := h1
  have lt1 : ∀ x ∈ p1, x.block < W.heap.size := by obtain ⟨m, hm⟩ := k1; exact DataW.trod_lt m _ _ _ hm
  obtain ⟨z1, w1⟩ : ∃ zs, IsRow .u8 W a1 len1 cap1 zs := by
    obtain ⟨fuel, hf⟩ := h1
    rcases open_ints Try.underlying22 Try.underlying5 (by kernel_rfl) hf with ⟨hcs, _⟩ | ⟨x, l, c, zs, hcs, _, hl, hm, hz, _, hcell, hwz⟩
    · simp [Value.cells] at hcs
      obtain ⟨rfl, rfl, rfl⟩ := hcs
      exact ⟨[], .inl ⟨rfl, rfl, rfl, rfl⟩⟩
    · simp [Value.cells] at hcs
      obtain ⟨rfl, rfl, rfl⟩ := hcs
      exact ⟨zs, .inr ⟨_, rfl, hl, hm, by simpa using hz, hcell, hwz⟩⟩
  clear hA0 hval0
  refine (walk a0 len0 cap0 z0 a1 len1 cap1 z1 W w0 w1).mono fun e W' ⟨he, bel⟩ => ?_
  subst he
  exact ⟨_, rfl, _, _, _, [], _, [], hW', trodAll_mk1 (shut_bool Try.underlying4 _), (trodAll_cons_mk (Below.trod laidOut (by kernel_rfl) (of_decide_eq_true (by kernel_rfl)) k0 bel lt0) (trodAll_cons_mk (Below.trod laidOut (by kernel_rfl) (of_decide_eq_true (by kernel_rfl)) k1 bel lt1) trodAll_mk0)), rfl, bel.frame _, fun h => by cases h⟩

theorem over : Rows.fnSpanOrderRow.holds Try.pinned (OpenSpec.ofChange Rows.fnSpanOrderSpec) :=
  OpenClaim.holds_of_wide 12 Try.f12 rfl rfl rfl rfl rfl rfl rfl ⟨rfl, rfl, rfl, rfl, rfl⟩ rfl rfl rfl rfl rfl (by kernel_rfl) Try.func12 (by kernel_rfl)
    (of_decide_eq_true (by kernel_rfl)) (by unfold Func.isWrapper; first | (rw [if_pos (by decide +kernel)]; kernel_rfl) | (rw [if_neg (by decide +kernel)]; exact ⟨rfl, rfl⟩))
    (fun os started H enc _ => lifted os started H enc)

theorem proved : Rows.FnSpanOrderSaid := over
#print axioms proved
end Go.Proofs.Ytogjgajabdiaaaa.fnSpanOrder
