/-
  From whatever bytes a matrix is drawn, SpanRank is the number of rows of SpanTidy and of SpanFirst, and a row more increases it by one unless it is in the span: the law FnSpanRank returns true.
  Conditions: none.
-/
import Derived.Test.YtogjgajabdiaaaaRows
import Derived.WalkKit
import Derived.ProofKit
import Derived.OpenShut
import Derived.ShutString
import Derived.ChangeOld
import Derived.Below
import Derived.Test.YtogjgajabdiaaaaFldMath
import Derived.Test.YtogjgajabdiaaaaMem
import Derived.Test.YtogjgajabdiaaaaField
import Derived.Test.YtogjgajabdiaaaaVecMath
import Derived.Test.YtogjgajabdiaaaaSpanMath
import Derived.Test.YtogjgajabdiaaaaSpanList
import Derived.Test.YtogjgajabdiaaaaSpanTidy
import Derived.Test.YtogjgajabdiaaaaSpanMore
import Derived.Test.YtogjgajabdiaaaaSpanBy
import Derived.Test.YtogjgajabdiaaaaSpanWork
import Derived.Test.YtogjgajabdiaaaaInts
import Derived.Test.YtogjgajabdiaaaaTabs
import Derived.Test.YtogjgajabdiaaaaHelp
import Derived.Test.YtogjgajabdiaaaaVec
import Derived.Test.YtogjgajabdiaaaaVec2
import Derived.Test.YtogjgajabdiaaaaSpanHelp
import Derived.Test.YtogjgajabdiaaaaSpanHelp2
import Derived.Test.YtogjgajabdiaaaaSpanOk
import Derived.Test.YtogjgajabdiaaaaSpanLine
import Derived.Test.YtogjgajabdiaaaaSpanEch
import Derived.Test.YtogjgajabdiaaaaVecSpec
import Derived.Test.YtogjgajabdiaaaaSpanTake
import Derived.Test.YtogjgajabdiaaaaSpanProg
import Derived.Test.YtogjgajabdiaaaaSpanTops
import Derived.Test.YtogjgajabdiaaaaSpanSpec
import Derived.Test.YtogjgajabdiaaaaSpanSpec2
import Derived.Test.YtogjgajabdiaaaaSpanSpec3
import Derived.Test.YtogjgajabdiaaaaSpanSpec4
import Derived.Test.YtogjgajabdiaaaaSpanTopsBy
import Derived.Test.YtogjgajabdiaaaaSpanTops2
import Derived.Test.YtogjgajabdiaaaaSpanSame
import Derived.Test.YtogjgajabdiaaaaSpanLaws
import Derived.Test.YtogjgajabdiaaaaDraw
import Derived.Test.YtogjgajabdiaaaaDrawField
import Derived.Test.YtogjgajabdiaaaaDrawVec
import Derived.Test.YtogjgajabdiaaaaDrawSpan
import Derived.Test.YtogjgajabdiaaaaDrawSpan2
namespace Go.Proofs.Ytogjgajabdiaaaa.fnSpanRank
open Go.ChangeShapes Go.WideShapes Go.ChangeAt Go.RowKit
open Go.ChangeMaps (open_string shut_string)
set_option linter.unusedVariables false

theorem own : ownKnob Try.prog.godebug = none := by kernel_rfl
theorem laidOut : laidOutB Try.prog = true := by kernel_rfl

/-- WHAT THE WALK IS TOLD OF A SLICE OF INTEGERS THAT CAME IN: it is nil; or it leads to a row of 'cap' cells, the numbers 'zs' (the first 'len' are its elements, the rest its spare room), each fitting its kind. -/
def IsRow (k : IntKind) (w : World) (a : Option Addr) (len cap : Nat) (zs : List Int) : Prop :=
  (a = none ∧ len = 0 ∧ cap = 0 ∧ zs = []) ∨
  ∃ x, a = some x ∧ len ≤ cap ∧ cap ≤ maxLen ∧ zs.length = cap ∧ (∀ i, i < zs.length → w.cell? (x.add i) = some (.int k (zs.getD i 0))) ∧ ∀ n ∈ zs, (Lit.int k n).wf = true

theorem okM_more {m : List (List Int)} {v : List Int} (h : okM m = true) (hv : Vec.ok v = true) (h8 : m.length + 1 ≤ 8) : okM (m ++ [v]) = true := by
  refine okM_yes (by simp; omega) (fun i hi => ?_)
  by_cases e : i < m.length
  · rw [List.getD_eq_getElem?_getD, List.getElem?_append_left e, ← List.getD_eq_getElem?_getD]; exact okM_get h e
  · have : i = m.length := by simp at hi; omega
    subst this
    simpa using hv
theorem rank_more {m : List (List Int)} {v : List Int} (h : okM m = true) (hv : Vec.ok v = true) (h8 : m.length + 1 ≤ 8) : rankM (m ++ [v]) = rankM m + (bif hasM m v then 0 else 1) := by
  rw [rankM_yes h, rankM_yes (okM_more h hv h8)]
  have hr := Sp.row_ok.1 hv
  have e : hasM m v = Sp.has m v := by simp [hasM, h, hv]
  rw [e]
  rcases Sp.ltidy_more (okM_all h) hr with ⟨k, hl⟩ | ⟨k, hl⟩
  · rw [(Sp.has_iff (okM_all h) hr).2 k, hl]; simp
  · have : Sp.has m v = false := by
      cases hb : Sp.has m v with
      | false => rfl
      | true => exact absurd ((Sp.has_iff (okM_all h) hr).1 hb) k
    rw [this, hl]; simp
theorem rank_first {m : List (List Int)} (h : okM m = true) : rankM m = ((firstM m).length : Int) := by
  rw [rankM_yes h, firstM_yes h, List.length_map, Sp.ltidy_firsts (n := 4) (has := Sp.has) (fun m v hm hv => Sp.has_iff hm hv) m.length rfl (okM_all h)]
theorem rank_tidy {m : List (List Int)} (h : okM m = true) : rankM m = ((tidyM m).length : Int) := by rw [rankM_yes h, tidyM_yes h]
theorem rank_four {m : List (List Int)} (h : okM m = true) : 0 ≤ rankM m ∧ rankM m ≤ 4 := by rw [rankM_yes h]; have := tidy_four h; omega

theorem walk (a0 : Option Addr) (len0 cap0 : Nat) (z0 : List Int) (a1 : Option Addr) (len1 cap1 : Nat) (z1 : List Int) (w : World) (w0 : IsRow .u8 w a0 len0 cap0 z0) (w1 : IsRow .u8 w a1 len1 cap1 z1) :
    Calls Try.prog 6 #[.slice a0 len0 cap0, .slice a1 len1 cap1] w fun e w' => e = .returned (.bool true) ∧ Below w.heap.size w w' := by
  have hc : Code w a0 len0 cap0 := code_of w0
  have hm : cap0 ≤ maxLen := hc.2.1
  have hl : len0 ≤ cap0 := hc.1
  unfold maxLen at hm
  have C := Lib.hid hc
  clear hc w0
  have hc1 : Code w a1 len1 cap1 := code_of w1
  have hm1 : cap1 ≤ maxLen := hc1.2.1
  have hl1 : len1 ≤ cap1 := hc1.1
  unfold maxLen at hm1
  clear hc1 w1
  by_cases hbig0 : (len0 : Int) > 1048576
  · go_enter Try.func6, Try.ntmps6
    go_wp2_with fail
    go_ret
    exact ⟨rfl, Below.refl _ _⟩
  by_cases hbig1 : (len1 : Int) > 1048576
  · go_enter Try.func6, Try.ntmps6
    go_wp2_with fail
    go_ret
    exact ⟨rfl, Below.refl _ _⟩
  obtain ⟨i0, hi, hz0, hz1, hz2⟩ := info_parts infoInts
  have I1 := Lib.hid hi
  have I2 := Lib.hid hz0
  have I3 := Lib.hid hz1
  have I4 := Lib.hid hz2
  clear hi hz0 hz1 hz2
  go_enter Try.func6, Try.ntmps6
  go_wp2_with fail
  refine (drawSpanRank a0 len0 cap0 _ C.out).mono ?_
  rintro e W1 ⟨mv, mus, m, rfl, hg, hm10, hst, hnn⟩
  obtain ⟨b, o, cap, rfl, h1, h2⟩ := drawn_form hst hnn
  unfold maxLen at h2
  have G1 := Lib.hid hg
  have ST1 := Lib.hid hst
  clear hg hst hnn
  go_wp2_with fail
  refine (implSpanRank _ mus m _ ST1.out.tab).mono ?_
  rintro e W2 ⟨rfl, hg⟩
  have G2 := Lib.hid (grown_trans G1.out hg)
  have ST2 := Lib.hid (ST1.out.still hg)
  clear hg ST1 G1
  obtain ⟨n, hn⟩ : ∃ n, rankM m = n := ⟨_, rfl⟩
  rw [hn]
  have HN := Lib.hid hn
  clear hn
  have hnn : (n != n) = false := by simp
  have hnn2 : (n == n) = true := by simp
  go_wp2_with fail
  refine (specSpanRank _ mus m _ ST2.out.tab).mono ?_
  rintro e W3 ⟨rfl, hg⟩
  rw [HN.out]
  have G3 := Lib.hid (grown_trans G2.out hg)
  have ST3 := Lib.hid (ST2.out.still hg)
  clear hg ST2 G2
  have K2 := Lib.hid (specSpanOk _ mus m W3 ST3.out.tab)
  cases hok : okM m with
  | false =>
    rw [hok] at K2
    clear hok
    go_wp2_with fail
    refine K2.out.mono ?_
    rintro e w' ⟨rfl, rfl⟩
    go_wp2_with fail
    refine (specSpanRank _ mus m _ ST3.out.tab).mono ?_
    rintro e W4 ⟨rfl, hg⟩
    rw [HN.out]
    have G4 := Lib.hid (grown_trans G3.out hg)
    clear hg
    go_wp2_with fail
    go_ret
    exact ⟨rfl, below_grown G4.out⟩
  | true =>
    have m8 := okM_len hok
    have HOK := Lib.hid hok
    have HT : Hid (((tidyM m).length : Int) = n) := Lib.hid (by rw [← rank_tidy hok]; exact HN.out)
    have HF : Hid (((firstM m).length : Int) = n) := Lib.hid (by rw [← rank_first hok]; exact HN.out)
    have n4 : 0 ≤ n ∧ n ≤ 4 := by have := rank_four hok; rw [HN.out] at this; exact this
    obtain ⟨n40, n44⟩ := n4
    rw [hok] at K2
    clear hok
    go_wp2_with fail
    refine K2.out.mono ?_
    rintro e w' ⟨rfl, rfl⟩
    go_wp2_with fail
    refine (lkVec len1 _ (by omega) (by omega)).mono ?_
    rintro e W4 ⟨vv, rfl, hg, ho⟩
    obtain ⟨lv, hlv⟩ : ∃ lv, Vec.lk (len1 : Int) = lv := ⟨_, rfl⟩
    have OKV : Hid (Vec.ok lv = true) := Lib.hid (hlv ▸ Vec.lk_is _)
    rw [hlv] at ho
    obtain ⟨av, cv, ev, _, _, _⟩ := ho.sl
    have lv4 : lv.length = 4 := Vec.ok_len OKV.out
    rw [lv4] at ev
    subst ev
    have G4 := Lib.hid (grown_trans G3.out hg)
    have ST4 := Lib.hid (ST3.out.still hg)
    have OV := Lib.hid (And.intro ho.sl ho.intRow)
    clear hg ho hlv lv4 ST3 G3
    have O0 := Lib.hid (STab.made W4 W4.heap.size (Nat.le_refl _)).top
    have ST5 := Lib.hid (ST4.out.still (World.grownBy_alloc W4 (.cells #[] 29) none))
    have LM : Hid (mus.length = m.length) := Lib.hid ST4.out.len
    go_wp2_with (first
      | (at_builtin; refine wpList_append_own _ rfl _ _ 23 rfl W4.heap.size 29 i0 (.slice none 0 0) 1 24 Try.underlying23 I1.out I2.out I3.out I4.out rfl (by decide) _ _ _ rfl O0.out ⟨b, o, none⟩ m.length cap mus rfl (by rw [LM.out]; omega) ?c1 ?c2 ?c3 ?c4 ?c5 ?_))
    case c1 => exact tab_cells ST5.out.tab
    case c2 => exact tab_one ST5.out.tab
    case c3 => unfold maxLen; simp; omega
    case c4 => simp; omega
    case c5 => simp
    intro o2 W5 ho hg _
    have SC : Hid (STab W5 W4.heap.size o2 mus m) := Lib.hid (stab_copy O0.out LM.out ST5.out.rows hg ho (by rw [LM.out]; try simp))
    have G5 : Hid (W4.grownBy W5 none) := Lib.hid (grown_own (grown_alloc (World.grownBy.refl _ _) _) hg (fun j hj => (World.ownsRow.lt O0.out j hj).1))
    have OV5 : Hid (Sl W5 (.slice av 4 cv) lv ∧ IntRow W5 (.slice av 4 cv)) := Lib.hid ⟨OV.out.1.grown G5.out, OV.out.2.still G5.out⟩
    clear ho hg O0 ST5
    have TOP := Lib.hid SC.out.top
    have sz : W4.heap.size ≤ W5.heap.size := G5.out.size
    have lk9 : mus.length ≤ 9 := by have := LM.out; omega
    go_wp2_with (first
      | (at_builtin; refine wpList_append_own _ rfl _ _ 23 rfl W4.heap.size 29 i0 (.slice none 0 0) 1 24 Try.underlying23 I1.out I2.out I3.out I4.out rfl (by decide) _ _ _ rfl (World.ownsRow.alloc TOP.out _) ⟨W5.heap.size, 0, none⟩ 1 1 [.slice av 4 cv] rfl rfl (one_cell (g := 0)) (by simp [Value.oneCell']) ?d3 ?d4 ?d5 ?_))
    case d3 => unfold maxLen; omega
    case d4 => omega
    case d5 => (try simp only [World.size_alloc]); omega
    intro o3 W6 ho hg _
    have SB : Hid (STab W6 W4.heap.size o3 (mus ++ [.slice av 4 cv]) (m ++ [lv])) := Lib.hid (SC.out.snoc (World.grownBy.refl _ _) OV5.out (grown_trans (World.grownBy_alloc _ _ _) hg) ho rfl rfl)
    have G6 : Hid (W4.grownBy W6 none) := Lib.hid (grown_own (grown_alloc G5.out _) hg (fun j hj => (World.ownsRow.lt TOP.out j hj).1))
    have ST7 := Lib.hid (ST4.out.tab.grown G6.out)
    have OV7 : Hid (Sl W6 (.slice av 4 cv) lv) := Lib.hid (OV.out.1.grown G6.out)
    have G7 := Lib.hid (grown_trans G4.out G6.out)
    obtain ⟨a3, c3, e3, h31, h32, _⟩ := SB.out.tab.top
    rw [List.length_append, List.length_singleton] at e3 h31
    subst e3
    unfold maxLen at h32
    clear ho hg TOP SC OV5 OV ST4 G5 G6 G4
    by_cases hbig : (m.length : Int) + 1 > 8
    · go_wp2_with fail
      refine (implSpanTidy _ mus m _ ST7.out).mono ?_
      rintro e W7 ⟨tv, tus, rfl, hg, htl, ho⟩
      have G8 := Lib.hid (grown_trans G7.out hg)
      obtain ⟨ta, tc, et, ht1, ht2, _⟩ := (tab_own htl ho).top
      subst et
      unfold maxLen at ht2
      obtain ⟨tl, htl'⟩ : ∃ tl, (tidyM m).length = tl := ⟨_, rfl⟩
      have hbt : (n == (tl : Int)) = true := by have := HT.out; rw [htl'] at this; simp [this]
      rw [htl'] at ht1 ⊢
      clear hg ho htl htl'
      go_wp2_with fail
      go_ret
      exact ⟨rfl, below_grown G8.out⟩
    · have RM := Lib.hid (rank_more HOK.out OKV.out (by omega : m.length + 1 ≤ 8))
      rw [HN.out] at RM
      have Z := Lib.hid (implSpanHas _ _ mus m lv W6 ST7.out OV7.out)
      cases hh : hasM m lv with
      | true =>
        rw [hh] at Z RM
        clear hh
        go_wp2_with fail
        refine Z.out.mono ?_
        rintro e W7 ⟨rfl, hg⟩
        have G8 := Lib.hid (grown_trans G7.out hg)
        have ST8 := Lib.hid (ST7.out.grown hg)
        have SB8 := Lib.hid (SB.out.tab.grown hg)
        clear hg G7 ST7 OV7
        go_wp2_with fail
        refine (implSpanTidy _ mus m _ ST8.out).mono ?_
        rintro e W8 ⟨tv, tus, rfl, hg, htl, ho⟩
        have G9 := Lib.hid (grown_trans G8.out hg)
        have ST8b := Lib.hid (ST8.out.grown hg)
        have SB8b := Lib.hid (SB8.out.grown hg)
        obtain ⟨ta, tc, et, ht1, ht2, _⟩ := (tab_own htl ho).top
        subst et
        unfold maxLen at ht2
        obtain ⟨tl, htl'⟩ : ∃ tl, (tidyM m).length = tl := ⟨_, rfl⟩
        have hbt : (n == (tl : Int)) = true := by have := HT.out; rw [htl'] at this; simp [this]
        rw [htl'] at ht1 ⊢
        clear hg ho htl htl'
        go_wp2_with fail
        refine (implSpanFirst _ mus m _ (ST8b.out)).mono ?_
        rintro e W9 ⟨fv, rfl, hg, ho⟩
        have GA := Lib.hid (grown_trans G9.out hg)
        have SB9 := Lib.hid (SB8b.out.grown hg)
        obtain ⟨fa, fc, ef, hf1, hf2, _⟩ := ho.sl
        subst ef
        unfold maxLen at hf2
        obtain ⟨fl, hfl⟩ : ∃ fl, (firstM m).length = fl := ⟨_, rfl⟩
        have hbf : (n == (fl : Int)) = true := by have := HF.out; rw [hfl] at this; simp [this]
        rw [hfl] at hf1 ⊢
        clear hg ho hfl
        go_wp2_with fail
        refine (implSpanRank _ _ _ _ SB9.out).mono ?_
        rintro e WB ⟨rfl, hg⟩
        rw [RM.out]
        have GB := Lib.hid (grown_trans GA.out hg)
        clear hg
        go_wp2_with fail
        go_ret
        exact ⟨rfl, below_grown GB.out⟩
      | false =>
        rw [hh] at Z RM
        clear hh
        go_wp2_with fail
        refine Z.out.mono ?_
        rintro e W7 ⟨rfl, hg⟩
        have G8 := Lib.hid (grown_trans G7.out hg)
        have ST8 := Lib.hid (ST7.out.grown hg)
        have SB8 := Lib.hid (SB.out.tab.grown hg)
        clear hg G7 ST7 OV7
        go_wp2_with fail
        refine (implSpanTidy _ mus m _ ST8.out).mono ?_
        rintro e W8 ⟨tv, tus, rfl, hg, htl, ho⟩
        have G9 := Lib.hid (grown_trans G8.out hg)
        have ST8b := Lib.hid (ST8.out.grown hg)
        have SB8b := Lib.hid (SB8.out.grown hg)
        obtain ⟨ta, tc, et, ht1, ht2, _⟩ := (tab_own htl ho).top
        subst et
        unfold maxLen at ht2
        obtain ⟨tl, htl'⟩ : ∃ tl, (tidyM m).length = tl := ⟨_, rfl⟩
        have hbt : (n == (tl : Int)) = true := by have := HT.out; rw [htl'] at this; simp [this]
        rw [htl'] at ht1 ⊢
        clear hg ho htl htl'
        go_wp2_with fail
        refine (implSpanFirst _ mus m _ (ST8b.out)).mono ?_
        rintro e W9 ⟨fv, rfl, hg, ho⟩
        have GA := Lib.hid (grown_trans G9.out hg)
        have SB9 := Lib.hid (SB8b.out.grown hg)
        obtain ⟨fa, fc, ef, hf1, hf2, _⟩ := ho.sl
        subst ef
        unfold maxLen at hf2
        obtain ⟨fl, hfl⟩ : ∃ fl, (firstM m).length = fl := ⟨_, rfl⟩
        have hbf : (n == (fl : Int)) = true := by have := HF.out; rw [hfl] at this; simp [this]
        rw [hfl] at hf1 ⊢
        clear hg ho hfl
        go_wp2_with fail
        refine (implSpanRank _ _ _ _ SB9.out).mono ?_
        rintro e WB ⟨rfl, hg⟩
        rw [RM.out]
        have GB := Lib.hid (grown_trans GA.out hg)
        clear hg
        go_wp2_with fail
        go_ret
        exact ⟨rfl, below_grown GB.out⟩

set_option maxRecDepth 100000 in
theorem lifted (os : Os) (started : os.Started) (H : Type) (enc : TypeId × Value → H) :
    ReturnsInHanded {} Try.checked os 6 .any (Rows.fnSpanRankSpec.pre6 enc Try.prog Try.f6 Rows.fnSpanRankRow.domain false) (Rows.fnSpanRankSpec.post enc Try.prog Try.f6 false true false false) := by
  refine returnsInHanded_of_change (C := Try.checked) own started (by kernel_rfl) Try.func6
    (ChangeSpec.witness6 (enc := enc) (C := Try.checked) false ⟨#[], #[.slice none 0 0, .slice none 0 0], []⟩ 8 (by kernel_rfl) (by kernel_rfl) (by kernel_rfl) (by kernel_rfl)) ?_
  intro W base args ds gs before hval0 hW hcnd _
  have hval : ∀ (j : Nat) t v, Try.f6.params[j]? = some t → args[j]? = some v → Value.okWide Try.prog W .any base t v := hval0
  have hW' := hW
  obtain ⟨p, q, hA0, hV, rfl, hfz, hnd⟩ := hW
  have hA : DataW.TrodAll enc Try.prog W 0 (fun _ => true) true Try.f6.params.toList args.toList ds p := hA0
  rw [Try.params6] at hA hval
  obtain ⟨v0, vs0, d0, ds0, p0, q0, hargs, rfl, rfl, h0, r0⟩ := trodAll_cons hA
  obtain ⟨v1, vs1, d1, ds1, p1, q1, rfl, rfl, rfl, h1, r1⟩ := trodAll_cons r0
  obtain ⟨rfl, rfl, rfl⟩ := trodAll_nil r1
  obtain rfl : args = #[v0, v1] := by cases args; simp_all
  obtain ⟨rfl, rfl⟩ := trodVars_none hV
  obtain ⟨a0, len0, cap0, rfl⟩ := okWide_slice Try.underlying22 (hval 0 22 v0 rfl rfl)
  have k0 := h0
  have lt0 : ∀ x ∈ p0, x.block < W.heap.size := by obtain ⟨m, hm⟩ := k0; exact DataW.trod_lt m _ _ _ hm
  obtain ⟨z0, w0⟩ : ∃ zs, IsRow .u8 W a0 len0 cap0 zs := by
    obtain ⟨fuel, hf⟩ := h0
    rcases open_ints Try.underlying22 Try.underlying5 (by kernel_rfl) hf with ⟨hcs, _⟩ | ⟨x, l, c, zs, hcs, _, hl, hm, hz, _, hcell, hwz⟩
    · simp [Value.cells] at hcs
      obtain ⟨rfl, rfl, rfl⟩ := hcs
      exact ⟨[], .inl ⟨rfl, rfl, rfl, rfl⟩⟩
    · simp [Value.cells] at hcs
      obtain ⟨rfl, rfl, rfl⟩ := hcs
      exact ⟨zs, .inr ⟨_, rfl, hl, hm, by simpa using hz, hcell, hwz⟩⟩
  obtain ⟨a1, len1, cap1, rfl⟩ := okWide_slice Try.underlying22 (hval 1 22 v1 rfl rfl)
  have k1 := h1
  have lt1 : ∀ x ∈ p1, x.block < W.heap.size := by obtain ⟨m, hm⟩ := k1; exact DataW.trod_lt m _ _ _ hm
  obtain ⟨z1, w1⟩ : ∃ zs, IsRow .u8 W a1 len1 cap1 zs := by
    obtain ⟨fuel, hf⟩ := h1
    rcases open_ints Try.underlying22 Try.underlying5 (by kernel_rfl) hf with ⟨hcs, _⟩ | ⟨x, l, c, zs, hcs, _, hl, hm, hz, _, hcell, hwz⟩
    · simp [Value.cells] at hcs
      obtain ⟨rfl, rfl, rfl⟩ := hcs
      exact ⟨[], .inl ⟨rfl, rfl, rfl, rfl⟩⟩
    · simp [Value.cells] at hcs
      obtain ⟨rfl, rfl, rfl⟩ := hcs
      exact ⟨zs, .inr ⟨_, rfl, hl, hm, by simpa using hz, hcell, hwz⟩⟩
  clear hA0 hval0
  refine (walk a0 len0 cap0 z0 a1 len1 cap1 z1 W w0 w1).mono fun e W' ⟨he, bel⟩ => ?_
  subst he
  exact ⟨_, rfl, _, _, _, [], _, [], hW', trodAll_mk1 (shut_bool Try.underlying4 _), (trodAll_cons_mk (Below.trod laidOut (by kernel_rfl) (of_decide_eq_true (by kernel_rfl)) k0 bel lt0) (trodAll_cons_mk (Below.trod laidOut (by kernel_rfl) (of_decide_eq_true (by kernel_rfl)) k1 bel lt1) trodAll_mk0)), rfl, bel.frame _, fun h => by cases h⟩

theorem over : Rows.fnSpanRankRow.holds Try.pinned (OpenSpec.ofChange Rows.fnSpanRankSpec) :=
  OpenClaim.holds_of_wide 6 Try.f6 rfl rfl rfl rfl rfl rfl rfl ⟨rfl, rfl, rfl, rfl, rfl⟩ rfl rfl rfl rfl rfl (by kernel_rfl) Try.func6 (by kernel_rfl)
    (of_decide_eq_true (by kernel_rfl)) (by unfold Func.isWrapper; first | (rw [if_pos (by decide +kernel)]; kernel_rfl) | (rw [if_neg (by decide +kernel)]; exact ⟨rfl, rfl⟩))
    (fun os started H enc _ => lifted os started H enc)

theorem proved : Rows.FnSpanRankSaid := over
#print axioms proved
end Go.Proofs.Ytogjgajabdiaaaa.fnSpanRank
