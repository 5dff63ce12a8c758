/-
  From whatever bytes a kind, values and flags are drawn, CodeFits answers as its model does; what fits fits with fewer shards; a value that is changed where the others are enough is found out: the law FnFits returns true.
  Conditions: none.
-/
import Derived.Test.YtbpkfcaokbidnabRows
import Derived.WalkKit
import Derived.ProofKit
import Derived.OpenShut
import Derived.ShutString
import Derived.ChangeOld
import Derived.Below
import Derived.Test.YtbpkfcaokbidnabFldMath
import Derived.Test.YtbpkfcaokbidnabMem
import Derived.Test.YtbpkfcaokbidnabField
import Derived.Test.YtbpkfcaokbidnabVecMath
import Derived.Test.YtbpkfcaokbidnabSpanMath
import Derived.Test.YtbpkfcaokbidnabSpanList
import Derived.Test.YtbpkfcaokbidnabSpanTidy
import Derived.Test.YtbpkfcaokbidnabSpanMore
import Derived.Test.YtbpkfcaokbidnabSpanBy
import Derived.Test.YtbpkfcaokbidnabSpanWork
import Derived.Test.YtbpkfcaokbidnabSpanElim
import Derived.Test.YtbpkfcaokbidnabInts
import Derived.Test.YtbpkfcaokbidnabAppendZeros
import Derived.Test.YtbpkfcaokbidnabTabs
import Derived.Test.YtbpkfcaokbidnabHelp
import Derived.Test.YtbpkfcaokbidnabVec
import Derived.Test.YtbpkfcaokbidnabVec2
import Derived.Test.YtbpkfcaokbidnabVecSpec
import Derived.Test.YtbpkfcaokbidnabSpanSpec
import Derived.Test.YtbpkfcaokbidnabSpanHelp
import Derived.Test.YtbpkfcaokbidnabSpanHelp2
import Derived.Test.YtbpkfcaokbidnabSpanOk
import Derived.Test.YtbpkfcaokbidnabSpanLine
import Derived.Test.YtbpkfcaokbidnabSpanEch
import Derived.Test.YtbpkfcaokbidnabSpanTake
import Derived.Test.YtbpkfcaokbidnabSpanProg
import Derived.Test.YtbpkfcaokbidnabSpanTops
import Derived.Test.YtbpkfcaokbidnabSpanSpec2
import Derived.Test.YtbpkfcaokbidnabSpanSpec3
import Derived.Test.YtbpkfcaokbidnabSpanSpec4
import Derived.Test.YtbpkfcaokbidnabSpanTopsBy
import Derived.Test.YtbpkfcaokbidnabDraw
import Derived.Test.YtbpkfcaokbidnabDrawField
import Derived.Test.YtbpkfcaokbidnabDrawVec
import Derived.Test.YtbpkfcaokbidnabCodeMath
import Derived.Test.YtbpkfcaokbidnabCodeList
import Derived.Test.YtbpkfcaokbidnabCodeWork
import Derived.Test.YtbpkfcaokbidnabFlags
import Derived.Test.YtbpkfcaokbidnabHelpB
import Derived.Test.YtbpkfcaokbidnabAlone
import Derived.Test.YtbpkfcaokbidnabCodeGen
import Derived.Test.YtbpkfcaokbidnabCodeGen2
import Derived.Test.YtbpkfcaokbidnabCodeGen3
import Derived.Test.YtbpkfcaokbidnabCodeSpec
import Derived.Test.YtbpkfcaokbidnabCodeBear
import Derived.Test.YtbpkfcaokbidnabCodeBear2
import Derived.Test.YtbpkfcaokbidnabCodeBear3
import Derived.Test.YtbpkfcaokbidnabCodeSpec2
import Derived.Test.YtbpkfcaokbidnabCodeMost
import Derived.Test.YtbpkfcaokbidnabCodeMost2
import Derived.Test.YtbpkfcaokbidnabCodeSpec3
import Derived.Test.YtbpkfcaokbidnabDrawCode
import Derived.Test.YtbpkfcaokbidnabDrawThere
import Derived.Test.YtbpkfcaokbidnabCodeAllSpec
import Derived.Test.YtbpkfcaokbidnabDrawVals
import Derived.Test.YtbpkfcaokbidnabCodeFit
import Derived.Test.YtbpkfcaokbidnabCodeFit2
import Derived.Test.YtbpkfcaokbidnabCodeFit3
import Derived.Test.YtbpkfcaokbidnabSpanSpec5
import Derived.Test.YtbpkfcaokbidnabCodeSpec4
namespace Go.Proofs.Ytbpkfcaokbidnab.fnFits
open Go.ChangeShapes Go.WideShapes Go.ChangeAt Go.RowKit
open Go.ChangeMaps (open_string shut_string)
set_option linter.unusedVariables false

theorem own : ownKnob Try.prog.godebug = none := by kernel_rfl
theorem laidOut : laidOutB Try.prog = true := by kernel_rfl

/-- WHAT THE WALK IS TOLD OF A SLICE OF INTEGERS THAT CAME IN: it is nil; or it leads to a row of 'cap' cells, the numbers 'zs' (the first 'len' are its elements, the rest its spare room), each fitting its kind. -/
def IsRow (k : IntKind) (w : World) (a : Option Addr) (len cap : Nat) (zs : List Int) : Prop :=
  (a = none ∧ len = 0 ∧ cap = 0 ∧ zs = []) ∨
  ∃ x, a = some x ∧ len ≤ cap ∧ cap ≤ maxLen ∧ zs.length = cap ∧ (∀ i, i < zs.length → w.cell? (x.add i) = some (.int k (zs.getD i 0))) ∧ ∀ n ∈ zs, (Lit.int k n).wf = true

theorem fits_one {k : Int} {l : List Int} {f : List Bool} {p q : Bool} (h : p = true ↔ FitM k l f) (h' : q = true ↔ FitM k l f) : p = q := by
  rw [Bool.eq_iff_iff, h, h']
theorem bnews {w : World} {b o : Nat} {l : List Bool} (h : BRds w (some ⟨b, o, none⟩) l) : ∀ j u, (bvals l)[j]? = some u → w.cell? ((⟨b, o, none⟩ : Addr).add j) = some u := by
  intro j u hj
  have hl : j < l.length := by have := (List.getElem?_eq_some_iff.1 hj).1; rwa [bvals_length] at this
  obtain ⟨b', o', e, hc⟩ := h.at_ hl
  injection e with e
  injection e with e1 e2
  subst e1 e2
  rw [bvals_get l j hl] at hj
  injection hj with hj
  subst hj
  rw [Addr.add_lit]; exact hc
theorem less_get {f : List Bool} {k i : Nat} (h : (f.set k false).getD i false = true) : i ≠ k ∧ f.getD i false = true := by
  rw [List.getD_eq_getElem?_getD] at h
  by_cases e : k = i
  · subst e
    by_cases hl : k < f.length
    · rw [List.getElem?_set_self hl] at h; cases h
    · rw [List.getElem?_eq_none (by rw [List.length_set]; omega)] at h; cases h
  · rw [List.getElem?_set_ne e] at h
    exact ⟨fun e' => e e'.symm, by rw [List.getD_eq_getElem?_getD]; exact h⟩
/-- with fewer there. -/
theorem fit_less {k : Int} {l : List Int} {f : List Bool} (h : FitM k l f) (i : Nat) : FitM k l (f.set i false) :=
  ⟨h.1, h.2.1, by rw [List.length_set]; exact h.2.2.1, h.2.2.2.less fun j _ hj => (less_get hj).2⟩
/-- a value changed is found out. -/
theorem fit_bad {k : Nat} (hk : k = 1 ∨ k = 2) {l : List Int} {f : List Bool} (h : FitM k l f) {i : Nat} (hi : i < 8) (ht : f.getD i false = true) (hb : Sp.bears k (f.set i false) = true) {y : Int} (hy : Fld.ok y = true) (hne : y ≠ l.getD i 0) :
    ¬ FitM k (l.set i y) f ∧ FitM k (l.set i y) (f.set i false) := by
  have hr := shOk_row.1 h.2.1
  have hi' : i < l.length := by rw [hr.1]; exact hi
  have hb' : Sp.Row 8 (l.set i y) := ⟨by rw [List.length_set]; exact hr.1, fun x hx => by
    rcases List.mem_or_eq_of_mem_set hx with hx | rfl
    · exact hr.2 x hx
    · exact hy⟩
  have hF : Sp.Fit k f l := by have := h.2.2.2; simpa using this
  have key := hF.bad hk hr hb' hi ht (fun j _ hj => less_get hj) hb (fun j hj => by
      rw [List.getD_eq_getElem?_getD, List.getElem?_set_ne (fun e => hj e.symm), ← List.getD_eq_getElem?_getD]) (by
      rw [List.getD_eq_getElem?_getD, List.getElem?_set_self hi']; exact hne)
  refine ⟨fun h' => key.1 (by have := h'.2.2.2; simpa using this), h.1, shOk_row.2 hb', by rw [List.length_set]; exact h.2.2.1, ?_⟩
  simpa using key.2
theorem sum_ne {x : Int} {d : Int} (hx : Fld.ok x = true) (h0 : 1 ≤ d) (h1 : d ≤ 30) : Fld.sum x d ≠ x ∧ Fld.ok (Fld.sum x d) = true := by
  have ⟨x0, x1⟩ := Fld.ok_iff.1 hx
  have hd : Fld.ok d = true := Fld.ok_iff.2 ⟨by omega, by omega⟩
  have e : Fld.sum x d = (x + d) % 31 := by simp [Fld.sum, hx, hd]
  rw [e]
  exact ⟨by omega, Vec.mod_is _⟩

set_option maxHeartbeats 4000000 in
set_option maxRecDepth 20000 in
theorem walk (a0 : Option Addr) (len0 cap0 : Nat) (z0 : List Int) (a1 : Option Addr) (len1 cap1 : Nat) (z1 : List Int) (w : World) (w0 : IsRow .u8 w a0 len0 cap0 z0) (w1 : IsRow .u8 w a1 len1 cap1 z1) :
    Calls Try.prog 11 #[.slice a0 len0 cap0, .slice a1 len1 cap1] w fun e w' => e = .returned (.bool true) ∧ Below w.heap.size w w' := by
  have hc : Code w a0 len0 cap0 := code_of w0
  have hm : cap0 ≤ maxLen := hc.2.1
  have hl : len0 ≤ cap0 := hc.1
  unfold maxLen at hm
  have C := Lib.hid hc
  clear hc w0
  have hc1 : Code w a1 len1 cap1 := code_of w1
  have hm1 : cap1 ≤ maxLen := hc1.2.1
  have hl1 : len1 ≤ cap1 := hc1.1
  unfold maxLen at hm1
  clear hc1 w1
  by_cases hbig0 : (len0 : Int) > 1048576
  · go_enter Try.func11, Try.ntmps11
    go_wp2_with fail
    go_ret
    exact ⟨rfl, Below.refl _ _⟩
  by_cases hbig1 : (len1 : Int) > 1048576
  · go_enter Try.func11, Try.ntmps11
    go_wp2_with fail
    go_ret
    exact ⟨rfl, Below.refl _ _⟩
  obtain ⟨i0, hi, hz0, hz1, hz2⟩ := info_parts infoBool
  have I1 := Lib.hid hi
  have I2 := Lib.hid hz0
  have I3 := Lib.hid hz1
  have I4 := Lib.hid hz2
  clear hi hz0 hz1 hz2
  obtain ⟨j0, hi, hz0, hz1, hz2⟩ := info_parts infoInt
  have J1 := Lib.hid hi
  have J2 := Lib.hid hz0
  have J3 := Lib.hid hz1
  have J4 := Lib.hid hz2
  clear hi hz0 hz1 hz2
  go_enter Try.func11, Try.ntmps11
  go_wp2_with fail
  refine (drawCodeFits a0 len0 cap0 _ C.out).mono ?_
  rintro e W1 ⟨m, u, v, l, f, hm3, rfl, hl8, hf8, hsl, hbl, hb⟩
  have L1 := Lib.hid hb
  have B1 := Lib.hid hbl
  have S1 := Lib.hid hsl
  have H8 := Lib.hid hf8
  have HL8 := Lib.hid hl8
  have H20 : Hid (l.length ≤ 1048576) := Lib.hid (by omega)
  clear hb hbl hsl hf8 C
  obtain ⟨av, cv, ev, c1, c2, _⟩ := B1.out
  obtain ⟨au, cu, eu, d1, d2, _⟩ := S1.out
  rw [hl8] at eu d1
  subst ev
  subst eu
  unfold maxLen at c2 d2
  obtain ⟨n8, hn8⟩ : ∃ n, f.length = n := ⟨_, rfl⟩
  have N8 := Lib.hid hn8
  rw [hn8] at B1 c1
  rw [hn8]
  clear hn8 hl8
  go_wp2_with fail
  refine (implFits m _ _ l f _ S1.out B1.out).mono ?_
  rintro e W2 ⟨q, rfl, hq, hg⟩
  have L2 := Lib.hid (L1.out.trans (below_grown hg |>.mono L1.out.size))
  have B2 := Lib.hid (B1.out.grown hg)
  have S2 := Lib.hid (S1.out.grown hg)
  have Q := Lib.hid hq
  have hqq : (q != q) = false := by cases q <;> rfl
  have hqe : (q == q) = true := by cases q <;> rfl
  clear hg L1 B1 S1 hq
  go_wp2_with fail
  refine (specFits m _ _ l f _ S2.out B2.out H20.out).mono ?_
  rintro e W3 ⟨q', rfl, hq, hg⟩
  obtain rfl := fits_one hq Q.out
  have L3 := Lib.hid (L2.out.trans (below_grown hg |>.mono L2.out.size))
  have B3 := Lib.hid (B2.out.grown hg)
  have S3 := Lib.hid (S2.out.grown hg)
  clear hg L2 B2 S2 hq
  cases q' with
  | false =>
    clear hqq hqe
    go_wp2_with fail
    refine (specFits m _ _ l f _ S3.out B3.out H20.out).mono ?_
    rintro e W4 ⟨q2, rfl, hq, hg⟩
    obtain rfl := fits_one hq Q.out
    have L4 := Lib.hid (L3.out.trans (below_grown hg |>.mono L3.out.size))
    clear hg L3 B3 S3 hq
    go_wp2_with fail
    go_ret
    exact ⟨rfl, L4.out⟩
  | true =>
    have FM := Lib.hid (Q.out.1 rfl)
    obtain rfl : n8 = 8 := by rw [← N8.out]; exact FM.out.2.2.1
    have F8 : Hid (f.length = 8) := Lib.hid N8.out
    have hk : m = 1 ∨ m = 2 := by have := FM.out.1; omega
    have HK := Lib.hid hk
    obtain ⟨a', c', e', _, _, hr⟩ := B3.out
    injection e' with e1 e2 e3
    subst e1 e3
    obtain ⟨b, o, rfl, _⟩ := hr.at_ (k := 0) (by rw [F8.out]; omega)
    obtain ⟨k, hk8, hke⟩ : ∃ k : Nat, k < 8 ∧ (len1 : Int) % 8 = k := ⟨len1 % 8, by omega, by omega⟩
    have hk' : (k : Int) < 8 := by omega
    have kt : (len1 : Int).tmod 8 = k := by rw [Int.tmod_eq_emod_of_nonneg (by omega)]; exact hke
    have O0 : Hid (BOwn (W3.alloc (.cells #[] 4)) W3.heap.size (.slice (some ⟨W3.heap.size, 0, none⟩) 0 0) []) := Lib.hid ((BArr.new W3 4 []).own rfl _ (Nat.le_refl _) (by simp [maxLen]))
    have R0 := Lib.hid (bnews (hr.grown (World.grownBy_alloc W3 (.cells #[] 4) none)))
    have fl : (bvals f).length = 8 * 1 := by rw [bvals_length, F8.out]
    clear hk e2 hr Q N8 H8 hqq hqe
    go_wp2_with (first
      | (at_builtin; refine wpList_append_own _ rfl _ _ 22 rfl W3.heap.size 4 i0 (.bool false) 1 1 Try.underlying22 I1.out I2.out I3.out I4.out rfl (by decide) _ _ _ rfl O0.out ⟨b, o, none⟩ 8 cv (bvals f) rfl fl R0.out (bvals_one f) ?c3 ?c4 ?c5 ?_))
    case c3 => simp [maxLen]
    case c4 => simp
    case c5 => simp
    intro x W4 ho hg _
    have G4 : Hid (W3.grownBy W4 none) := Lib.hid (grown_own (grown_alloc (World.grownBy.refl _ _) _) hg (fun j hj => (World.ownsRow.lt O0.out j hj).1))
    have O4 : BOwn W4 W3.heap.size x f := by
      unfold BOwn
      rw [F8.out]
      simpa [bvals] using ho
    clear ho hg O0 R0 fl
    obtain ⟨g, cq, rfl, gb, gl, cq8, cqm, gc, gf⟩ := O4.eight F8.out
    unfold maxLen at cqm
    have hx := gc k hk8
    have hf := gf k
    have P4 := Lib.hid (O4.put F8.out.symm k false)
    have G5 : Hid (W3.grownBy (W4.setCell ⟨g, k, none⟩ (.bool false)) none) := Lib.hid (grown_own G4.out P4.out.2 (fun q hq => by injection hq with hq; omega))
    have X5 := Lib.hid P4.out.1.bl
    have L5 := Lib.hid (L3.out.trans (below_grown G5.out |>.mono L3.out.size))
    have B5 := Lib.hid (B3.out.grown G5.out)
    have S5 := Lib.hid (S3.out.grown G5.out)
    obtain ⟨ab, cb, eb, _, _, hrb⟩ := B5.out
    injection eb with e1 e2 e3
    subst e1 e3
    obtain ⟨b', o', e', hth⟩ := hrb.at_ (k := k) (by rw [F8.out]; exact hk8)
    injection e' with e'
    injection e' with e1 e4
    subst e1 e4
    have FL := Lib.hid (fit_less FM.out k)
    have F8' : Hid ((f.set k false).length = 8) := Lib.hid (by rw [List.length_set]; exact F8.out)
    have FB : Hid (f.getD k false = true → Sp.bears m (f.set k false) = true → ∀ y, Fld.ok y = true → y ≠ l.getD k 0 → ¬ FitM m (l.set k y) f ∧ FitM m (l.set k y) (f.set k false)) := Lib.hid (fun h1 h2 y h3 h4 => fit_bad HK.out FM.out hk8 h1 h2 h3 h4)
    have YB := Lib.hid (bearsM_yes HK.out F8'.out)
    generalize f.getD k false = r at *
    generalize f.set k false = fs at *
    clear O4 gc gf e2 hrb G4 P4 L3 B3 S3
    cases r with
    | false =>
      go_wp2_with fail
      clear hx hf hth G5
      generalize W4.setCell ⟨g, k, none⟩ (.bool false) = W5 at *
      refine (implFits m _ _ l fs _ S5.out X5.out).mono ?_
      rintro e W6 ⟨q6, rfl, hq, hg⟩
      obtain rfl : q6 = true := hq.2 FL.out
      have L6 := Lib.hid (L5.out.trans (below_grown hg |>.mono L5.out.size))
      clear hg hq L5 B5 S5 X5
      go_wp2_with fail
      go_ret
      exact ⟨rfl, L6.out⟩
    | true =>
      go_wp2_with fail
      clear hx hf hth G5
      generalize W4.setCell ⟨g, k, none⟩ (.bool false) = W5 at *
      refine (implBears m _ fs _ X5.out).mono ?_
      rintro e W6 ⟨rfl, hg⟩
      rw [YB.out]
      have L6 := Lib.hid (L5.out.trans (below_grown hg |>.mono L5.out.size))
      have B6 := Lib.hid (B5.out.grown hg)
      have S6 := Lib.hid (S5.out.grown hg)
      have X6 := Lib.hid (X5.out.grown hg)
      clear hg L5 B5 S5 X5 YB
      generalize Sp.bears m fs = qb at *
      cases qb with
      | false =>
        go_wp2_with fail
        refine (implFits m _ _ l fs _ S6.out X6.out).mono ?_
        rintro e W7 ⟨q7, rfl, hq, hg⟩
        obtain rfl : q7 = true := hq.2 FL.out
        have L7 := Lib.hid (L6.out.trans (below_grown hg |>.mono L6.out.size))
        clear hg hq L6 B6 S6 X6
        go_wp2_with fail
        go_ret
        exact ⟨rfl, L7.out⟩
      | true =>
        have FB' := Lib.hid (FB.out (by first | rfl | trivial) (by first | rfl | trivial))
        obtain ⟨asl, csl, es, _, _, hrs⟩ := S6.out
        rw [HL8.out] at es
        injection es with e1 e2 e3
        subst e1 e3
        obtain ⟨bs, os, rfl, _⟩ := hrs.at_ (k := 0) (by rw [HL8.out]; omega)
        have O0 : Hid (Own (W6.alloc (.cells #[] 3)) W6.heap.size (.slice (some ⟨W6.heap.size, 0, none⟩) 0 0) []) := Lib.hid (Own.made W6 W6.heap.size [] (Nat.le_refl _) (by simp))
        have R0 := Lib.hid (Rds.news (hrs.grown (World.grownBy_alloc W6 (.cells #[] 3) none)))
        have vl : (vals l).length = 8 * 1 := by rw [vals_length, HL8.out]
        clear e2 hrs FB
        go_wp2_with (first
          | (at_builtin; refine wpList_append_own _ rfl _ _ 33 rfl W6.heap.size 3 j0 (.int .i64 0) 1 8 Try.underlying33 J1.out J2.out J3.out J4.out rfl (by decide) _ _ _ rfl O0.out ⟨bs, os, none⟩ 8 cu (vals l) rfl vl R0.out (vals_one l) ?d3 ?d4 ?d5 ?_))
        case d3 => simp [maxLen]
        case d4 => simp
        case d5 => simp
        intro xb W7 ho hg _
        have G7 : Hid (W6.grownBy W7 none) := Lib.hid (grown_own (grown_alloc (World.grownBy.refl _ _) _) hg (fun j hj => (World.ownsRow.lt O0.out j hj).1))
        have O7 : Own W7 W6.heap.size xb l := by
          unfold Own
          rw [HL8.out]
          simpa [vals] using ho
        clear ho hg O0 R0 vl
        obtain ⟨g7, c7, rfl, gb7, gl7, cc7, cm7, gc7, gf7⟩ := O7.eight HL8.out
        unfold maxLen at cm7
        have hx := gc7 k hk8
        have hf := gf7 k
        have S7 := Lib.hid (S6.out.grown G7.out)
        obtain ⟨asl, csl, es, _, _, hrs⟩ := S7.out
        rw [HL8.out] at es
        injection es with e1 e2 e3
        subst e1 e3
        obtain ⟨bs', os', e', hrd⟩ := hrs.at_ (k := k) (by rw [HL8.out]; exact hk8)
        injection e' with e'
        injection e' with e1 e4
        subst e1 e4
        obtain ⟨d, hd, hde⟩ : ∃ d : Int, (1 ≤ d ∧ d ≤ 30) ∧ 1 + (len1 : Int) % 30 = d := ⟨_, by omega, rfl⟩
        have dt : (len1 : Int).tmod 30 = (len1 : Int) % 30 := Int.tmod_eq_emod_of_nonneg (by omega)
        have OKX : Fld.ok (l.getD k 0) = true := getD_ok (shOk_row.1 FM.out.2.1).2 k
        have SN := sum_ne OKX hd.1 hd.2
        have FB2 := Lib.hid (FB'.out (Fld.sum (l.getD k 0) d) SN.2 SN.1)
        have P7 := Lib.hid (O7.put8 HL8.out k (Fld.sum (l.getD k 0) d))
        obtain ⟨xv, hxv⟩ : ∃ xv, l.getD k 0 = xv := ⟨_, rfl⟩
        rw [hxv] at hx hrd FB2 P7
        obtain ⟨y, hy⟩ : ∃ y, Fld.sum xv d = y := ⟨_, rfl⟩
        have FS := Lib.hid (fun w => implSum xv d w)
        rw [hy] at FB2 P7 FS
        have G8 : Hid (W6.grownBy (W7.setCell ⟨g7, k, none⟩ (.int .i64 y)) none) := Lib.hid (grown_own G7.out P7.out.2 (fun q hq => by injection hq with hq; omega))
        have Y8 := Lib.hid P7.out.1.sl
        have L8 := Lib.hid (L6.out.trans (below_grown G8.out |>.mono L6.out.size))
        have B8 := Lib.hid (B6.out.grown G8.out)
        have X8 := Lib.hid (X6.out.grown G8.out)
        have hd2 := hd.2
        have hd1 := hd.1
        clear O7 gc7 gf7 e2 hrs G7 P7 L6 B6 S6 X6 S7 OKX SN FB' hxv hy hd
        go_wp2_with fail
        refine (FS.out _).mono ?_
        rintro e w' ⟨rfl, rfl⟩
        go_wp2_with fail
        clear hx hf hrd G8
        generalize W7.setCell ⟨g7, k, none⟩ (.int .i64 y) = W8 at *
        refine (implFits m _ _ (l.set k y) f _ Y8.out B8.out).mono ?_
        rintro e W9 ⟨q9, rfl, hq, hg⟩
        obtain rfl : q9 = false := by
          cases q9 with
          | false => rfl
          | true => exact absurd (hq.1 rfl) FB2.out.1
        have L9 := Lib.hid (L8.out.trans (below_grown hg |>.mono L8.out.size))
        have Y9 := Lib.hid (Y8.out.grown hg)
        have X9 := Lib.hid (X8.out.grown hg)
        clear hg hq L8 Y8 X8 B8
        go_wp2_with fail
        refine (implFits m _ _ (l.set k y) fs _ Y9.out X9.out).mono ?_
        rintro e WA ⟨qa, rfl, hq, hg⟩
        obtain rfl : qa = true := hq.2 FB2.out.2
        have LA := Lib.hid (L9.out.trans (below_grown hg |>.mono L9.out.size))
        clear hg hq L9
        go_wp2_with fail
        go_ret
        exact ⟨rfl, LA.out⟩

set_option maxRecDepth 100000 in
theorem lifted (os : Os) (started : os.Started) (H : Type) (enc : TypeId × Value → H) :
    ReturnsInHanded {} Try.checked os 11 .any (Rows.fnFitsSpec.pre6 enc Try.prog Try.f11 Rows.fnFitsRow.domain false) (Rows.fnFitsSpec.post enc Try.prog Try.f11 false true false false) := by
  refine returnsInHanded_of_change (C := Try.checked) own started (by kernel_rfl) Try.func11
    (ChangeSpec.witness6 (enc := enc) (C := Try.checked) false ⟨#[], #[.slice none 0 0, .slice none 0 0], []⟩ 8 (by kernel_rfl) (by kernel_rfl) (by kernel_rfl) (by kernel_rfl)) ?_
  intro W base args ds gs before hval0 hW hcnd _
  have hval : ∀ (j : Nat) t v, Try.f11.params[j]? = some t → args[j]? = some v → Value.okWide Try.prog W .any base t v := hval0
  have hW' := hW
  obtain ⟨p, q, hA0, hV, rfl, hfz, hnd⟩ := hW
  have hA : DataW.TrodAll enc Try.prog W 0 (fun _ => true) true Try.f11.params.toList args.toList ds p := hA0
  rw [Try.params11] at hA hval
  obtain ⟨v0, vs0, d0, ds0, p0, q0, hargs, rfl, rfl, h0, r0⟩ := trodAll_cons hA
  obtain ⟨v1, vs1, d1, ds1, p1, q1, rfl, rfl, rfl, h1, r1⟩ := trodAll_cons r0
  obtain ⟨rfl, rfl, rfl⟩ := trodAll_nil r1
  obtain rfl : args = #[v0, v1] := by cases args; simp_all
  obtain ⟨rfl, rfl⟩ := trodVars_none hV
  obtain ⟨a0, len0, cap0, rfl⟩ := okWide_slice Try.underlying32 (hval 0 32 v0 rfl rfl)
  have k0 := h0
  have lt0 : ∀ x ∈ p0, x.block < W.heap.size := by obtain ⟨m, hm⟩ := k0; exact DataW.trod_lt m _ _ _ hm
  obtain ⟨z0, w0⟩ : ∃ zs, IsRow .u8 W a0 len0 cap0 zs := by
    obtain ⟨fuel, hf⟩ := h0
    rcases open_ints Try.underlying32 Try.underlying5 (by kernel_rfl) hf with ⟨hcs, _⟩ | ⟨x, l, c, zs, hcs, _, hl, hm, hz, _, hcell, hwz⟩
    · simp [Value.cells] at hcs
      obtain ⟨rfl, rfl, rfl⟩ := hcs
      exact ⟨[], .inl ⟨rfl, rfl, rfl, rfl⟩⟩
    · simp [Value.cells] at hcs
      obtain ⟨rfl, rfl, rfl⟩ := hcs
      exact ⟨zs, .inr ⟨_, rfl, hl, hm, by simpa using hz, hcell, hwz⟩⟩
  obtain ⟨a1, len1, cap1, rfl⟩ := okWide_slice Try.underlying32 (hval 1 32 v1 rfl rfl)
  have k1 := h1
  have lt1 : ∀ x ∈ p1, x.block < W.heap.size := by obtain ⟨m, hm⟩ := k1; exact DataW.trod_lt m _ _ _ hm
  obtain ⟨z1, w1⟩ : ∃ zs, IsRow .u8 W a1 len1 cap1 zs := by
    obtain ⟨fuel, hf⟩ := h1
    rcases open_ints Try.underlying32 Try.underlying5 (by kernel_rfl) hf with ⟨hcs, _⟩ | ⟨x, l, c, zs, hcs, _, hl, hm, hz, _, hcell, hwz⟩
    · simp [Value.cells] at hcs
      obtain ⟨rfl, rfl, rfl⟩ := hcs
      exact ⟨[], .inl ⟨rfl, rfl, rfl, rfl⟩⟩
    · simp [Value.cells] at hcs
      obtain ⟨rfl, rfl, rfl⟩ := hcs
      exact ⟨zs, .inr ⟨_, rfl, hl, hm, by simpa using hz, hcell, hwz⟩⟩
  clear hA0 hval0
  refine (walk a0 len0 cap0 z0 a1 len1 cap1 z1 W w0 w1).mono fun e W' ⟨he, bel⟩ => ?_
  subst he
  exact ⟨_, rfl, _, _, _, [], _, [], hW', trodAll_mk1 (shut_bool Try.underlying4 _), (trodAll_cons_mk (Below.trod laidOut (by kernel_rfl) (of_decide_eq_true (by kernel_rfl)) k0 bel lt0) (trodAll_cons_mk (Below.trod laidOut (by kernel_rfl) (of_decide_eq_true (by kernel_rfl)) k1 bel lt1) trodAll_mk0)), rfl, bel.frame _, fun h => by cases h⟩

theorem over : Rows.fnFitsRow.holds Try.pinned (OpenSpec.ofChange Rows.fnFitsSpec) :=
  OpenClaim.holds_of_wide_leaving 11 Try.f11 rfl rfl rfl rfl rfl rfl rfl ⟨rfl, rfl, rfl, rfl, rfl⟩ rfl rfl rfl rfl rfl (by kernel_rfl) Try.func11 (by kernel_rfl)
    (of_decide_eq_true (by kernel_rfl)) (by unfold Func.isWrapper; first | (rw [if_pos (by decide +kernel)]; kernel_rfl) | (rw [if_neg (by decide +kernel)]; exact ⟨rfl, rfl⟩))
    (fun os started H enc _ => leaves (lifted os started H enc))

theorem proved : Rows.FnFitsSaid := over
#print axioms proved
end Go.Proofs.Ytbpkfcaokbidnab.fnFits
