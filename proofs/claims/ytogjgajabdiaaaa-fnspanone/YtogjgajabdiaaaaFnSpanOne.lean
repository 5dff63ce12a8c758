/-
  From whatever bytes a matrix is drawn, of a linear combination of its pivot rows SpanBy returns exactly the coefficients: the law FnSpanOne returns true.
  Conditions: none.
-/
import Derived.Test.YtogjgajabdiaaaaRows
import Derived.WalkKit
import Derived.ProofKit
import Derived.OpenShut
import Derived.ShutString
import Derived.ChangeOld
import Derived.Below
import Derived.Test.YtogjgajabdiaaaaFldMath
import Derived.Test.YtogjgajabdiaaaaMem
import Derived.Test.YtogjgajabdiaaaaField
import Derived.Test.YtogjgajabdiaaaaVecMath
import Derived.Test.YtogjgajabdiaaaaSpanMath
import Derived.Test.YtogjgajabdiaaaaSpanList
import Derived.Test.YtogjgajabdiaaaaSpanTidy
import Derived.Test.YtogjgajabdiaaaaSpanMore
import Derived.Test.YtogjgajabdiaaaaSpanBy
import Derived.Test.YtogjgajabdiaaaaSpanWork
import Derived.Test.YtogjgajabdiaaaaInts
import Derived.Test.YtogjgajabdiaaaaTabs
import Derived.Test.YtogjgajabdiaaaaHelp
import Derived.Test.YtogjgajabdiaaaaVec
import Derived.Test.YtogjgajabdiaaaaVec2
import Derived.Test.YtogjgajabdiaaaaSpanHelp
import Derived.Test.YtogjgajabdiaaaaSpanHelp2
import Derived.Test.YtogjgajabdiaaaaSpanOk
import Derived.Test.YtogjgajabdiaaaaSpanLine
import Derived.Test.YtogjgajabdiaaaaSpanEch
import Derived.Test.YtogjgajabdiaaaaVecSpec
import Derived.Test.YtogjgajabdiaaaaSpanTake
import Derived.Test.YtogjgajabdiaaaaSpanProg
import Derived.Test.YtogjgajabdiaaaaSpanTops
import Derived.Test.YtogjgajabdiaaaaSpanSpec
import Derived.Test.YtogjgajabdiaaaaSpanSpec2
import Derived.Test.YtogjgajabdiaaaaSpanSpec3
import Derived.Test.YtogjgajabdiaaaaSpanSpec4
import Derived.Test.YtogjgajabdiaaaaSpanTopsBy
import Derived.Test.YtogjgajabdiaaaaSpanTops2
import Derived.Test.YtogjgajabdiaaaaSpanSame
import Derived.Test.YtogjgajabdiaaaaSpanLaws
import Derived.Test.YtogjgajabdiaaaaSpanSel
import Derived.Test.YtogjgajabdiaaaaSpanMade
import Derived.Test.YtogjgajabdiaaaaDraw
import Derived.Test.YtogjgajabdiaaaaDrawField
import Derived.Test.YtogjgajabdiaaaaDrawVec
import Derived.Test.YtogjgajabdiaaaaDrawSpan
import Derived.Test.YtogjgajabdiaaaaDrawSpan2
namespace Go.Proofs.Ytogjgajabdiaaaa.fnSpanOne
open Go.ChangeShapes Go.WideShapes Go.ChangeAt Go.RowKit
open Go.ChangeMaps (open_string shut_string)
set_option linter.unusedVariables false

theorem own : ownKnob Try.prog.godebug = none := by kernel_rfl
theorem laidOut : laidOutB Try.prog = true := by kernel_rfl

/-- WHAT THE WALK IS TOLD OF A SLICE OF INTEGERS THAT CAME IN: it is nil; or it leads to a row of 'cap' cells, the numbers 'zs' (the first 'len' are its elements, the rest its spare room), each fitting its kind. -/
def IsRow (k : IntKind) (w : World) (a : Option Addr) (len cap : Nat) (zs : List Int) : Prop :=
  (a = none ∧ len = 0 ∧ cap = 0 ∧ zs = []) ∨
  ∃ x, a = some x ∧ len ≤ cap ∧ cap ≤ maxLen ∧ zs.length = cap ∧ (∀ i, i < zs.length → w.cell? (x.add i) = some (.int k (zs.getD i 0))) ∧ ∀ n ∈ zs, (Lit.int k n).wf = true

theorem lkNum31 (n : Int) (w : World) (h0 : 0 ≤ n) : Calls Try.prog 34 #[.int .i64 n] w fun e w' => e = .returned (.int .i64 (n % 31)) ∧ w = w' := by
  go_enter Try.func34, Try.ntmps34
  have ht : n.tmod 31 = n % 31 := Int.tmod_eq_emod_of_nonneg h0
  go_wp2_with fail
  go_ret
  exact ⟨by first | rfl | rw [ht], rfl⟩
/-- slices that read as rows. -/
def RowsAt (w : World) (vs : List Value) (M : List (List Int)) : Prop := vs.length = M.length ∧ ∀ (a : Nat) (x : Value) (r : List Int), vs[a]? = some x → M[a]? = some r → Sl w x r ∧ IntRow w x
theorem RowsAt.snoc {w : World} {vs : List Value} {M M' : List (List Int)} {u : Value} {l : List Int} (h : RowsAt w vs M) (hu : Sl w u l ∧ IntRow w u) (e : M ++ [l] = M') : RowsAt w (vs ++ [u]) M' := by
  subst e
  refine ⟨by simp [h.1], fun a x r hx hr => ?_⟩
  by_cases ha : a < vs.length
  · rw [List.getElem?_append_left ha] at hx
    rw [List.getElem?_append_left (by rw [← h.1]; exact ha)] at hr
    exact h.2 a x r hx hr
  · have ha' : a = vs.length := by
      have := (List.getElem?_eq_some_iff.1 hx).1
      simp at this; omega
    subst ha'
    rw [List.getElem?_append_right (Nat.le_refl _), Nat.sub_self] at hx
    rw [List.getElem?_append_right (by rw [h.1]; exact Nat.le_refl _), h.1, Nat.sub_self] at hr
    simp at hx hr
    subst hx hr
    exact hu
theorem RowsAt.stab {w w' : World} {base : Nat} {v : Value} {vs : List Value} {M : List (List Int)} (h : RowsAt w vs M) (hg : w.grownBy w' none) (ht : w'.ownsRow base 29 1 v vs.length vs) : STab w' base v vs M :=
  ⟨ht, h.1, fun a x r hx hr => ⟨(h.2 a x r hx hr).1.grown hg, (h.2 a x r hx hr).2.still hg⟩⟩
theorem by_one {m : List (List Int)} (hm : okM m = true) {c : List Int} (hc : Sp.Row (Sp.sel m (Sp.firsts Sp.has m)).length c) : ByM (Sp.sel m (Sp.firsts Sp.has m)) (madeK (Sp.sel m (Sp.firsts Sp.has m)) c (Sp.sel m (Sp.firsts Sp.has m)).length) true c := by
  have hs := Sp.sel_ok hm
  have hr := madeK_row (okM_all hs) c _ (Nat.le_refl _)
  have hi : Sp.IsBy (Sp.sel m (Sp.firsts Sp.has m)) (madeK (Sp.sel m (Sp.firsts Sp.has m)) c (Sp.sel m (Sp.firsts Sp.has m)).length) c := ⟨hc, fun i hi h => absurd (Sp.sel_first hm hi) h, madeK_all (okM_all hs) c⟩
  refine ⟨?_, .inl ⟨rfl, hs, Sp.row_ok.2 hr, hi⟩⟩
  simp only [hasM, hs, Sp.row_ok.2 hr, Bool.and_self, Bool.true_and]
  exact ((Sp.has_iff (okM_all hs) hr).2 hi.made).symm

theorem walk (a0 : Option Addr) (len0 cap0 : Nat) (z0 : List Int) (a1 : Option Addr) (len1 cap1 : Nat) (z1 : List Int) (w : World) (w0 : IsRow .u8 w a0 len0 cap0 z0) (w1 : IsRow .u8 w a1 len1 cap1 z1) :
    Calls Try.prog 9 #[.slice a0 len0 cap0, .slice a1 len1 cap1] w fun e w' => e = .returned (.bool true) ∧ Below w.heap.size w w' := by
  have hc : Code w a0 len0 cap0 := code_of w0
  have hm : cap0 ≤ maxLen := hc.2.1
  have hl : len0 ≤ cap0 := hc.1
  unfold maxLen at hm
  have C := Lib.hid hc
  clear hc w0
  have hc1 : Code w a1 len1 cap1 := code_of w1
  have hm1 : cap1 ≤ maxLen := hc1.2.1
  have hl1 : len1 ≤ cap1 := hc1.1
  unfold maxLen at hm1
  clear hc1 w1
  by_cases hbig0 : (len0 : Int) > 1048576
  · go_enter Try.func9, Try.ntmps9
    go_wp2_with fail
    go_ret
    exact ⟨rfl, Below.refl _ _⟩
  by_cases hbig1 : (len1 : Int) > 1048576
  · go_enter Try.func9, Try.ntmps9
    go_wp2_with fail
    go_ret
    exact ⟨rfl, Below.refl _ _⟩
  obtain ⟨i0, hi, hz0, hz1, hz2⟩ := info_parts infoInts
  have I1 := Lib.hid hi
  have I2 := Lib.hid hz0
  have I3 := Lib.hid hz1
  have I4 := Lib.hid hz2
  clear hi hz0 hz1 hz2
  obtain ⟨j0, hi, hz0, hz1, hz2⟩ := info_parts infoInt
  have J1 := Lib.hid hi
  have J2 := Lib.hid hz0
  have J3 := Lib.hid hz1
  have J4 := Lib.hid hz2
  clear hi hz0 hz1 hz2
  go_enter Try.func9, Try.ntmps9
  go_wp2_with fail
  refine (drawSpanFirst a0 len0 cap0 _ C.out).mono ?_
  rintro e W1 ⟨mv, mus, m, rfl, hg, hm10, hst, hnn⟩
  obtain ⟨b, o, cap, rfl, h1, h2⟩ := drawn_form hst hnn
  unfold maxLen at h2
  have G1 := Lib.hid hg
  have ST1 := Lib.hid hst
  clear hg hst hnn
  obtain ⟨F, hF⟩ : ∃ F, firstM m = F := ⟨_, rfl⟩
  have HF := Lib.hid hF
  clear hF
  go_wp2_with fail
  refine (implSpanFirst _ mus m _ ST1.out.tab).mono ?_
  rintro e W2 ⟨fv, rfl, hg, ho⟩
  rw [HF.out] at ho
  have G2 := Lib.hid (grown_trans G1.out hg)
  have ST2 := Lib.hid (ST1.out.still hg)
  obtain ⟨fa, fc, ef, hf1, hf2, _⟩ := ho.sl
  subst ef
  unfold maxLen at hf2
  have SF2 := Lib.hid ho.sl
  clear hg ho ST1 G1
  go_wp2_with fail
  refine (specSpanFirst _ mus m _ ST2.out.tab).mono ?_
  rintro e W3 ⟨rv, rfl, hg, ho⟩
  rw [HF.out] at ho
  have G3 := Lib.hid (grown_trans G2.out hg)
  have ST3 := Lib.hid (ST2.out.still hg)
  have SF3 := Lib.hid (SF2.out.grown hg)
  have SR := Lib.hid ho.sl
  clear hg ho ST2 G2 SF2
  go_wp2_with fail
  refine (lkIs _ rv F F _ SF3.out SR.out).mono ?_
  rintro e W4 ⟨rfl, hg⟩
  rw [decide_eq_true rfl]
  have G4 := Lib.hid (grown_trans G3.out hg)
  have ST4 := Lib.hid (ST3.out.still hg)
  have SF4 := Lib.hid (SF3.out.grown hg)
  clear hg ST3 G3 SF3 SR
  have K2 := Lib.hid (specSpanOk _ mus m W4 ST4.out.tab)
  cases hok : okM m with
  | false =>
    rw [hok] at K2
    clear hok
    go_wp2_with fail
    refine K2.out.mono ?_
    rintro e w' ⟨rfl, rfl⟩
    go_wp2_with fail
    refine (specSpanFirst _ mus m _ ST4.out.tab).mono ?_
    rintro e W5 ⟨rv, rfl, hg, ho⟩
    rw [HF.out] at ho
    have G5 := Lib.hid (grown_trans G4.out hg)
    have SF5 := Lib.hid (SF4.out.grown hg)
    have SR := Lib.hid ho.sl
    clear hg ho
    go_wp2_with fail
    refine (lkIs _ rv F F _ SF5.out SR.out).mono ?_
    rintro e W6 ⟨rfl, hg⟩
    rw [decide_eq_true rfl]
    have G6 := Lib.hid (grown_trans G5.out hg)
    clear hg
    go_wp2_with fail
    go_ret
    exact ⟨rfl, below_grown G6.out⟩
  | true =>
    have m8 := okM_len hok
    have HOK := Lib.hid hok
    obtain ⟨P, hP⟩ : ∃ P, Sp.firsts Sp.has m = P := ⟨_, rfl⟩
    have HPP := Lib.hid hP
    have FP : Hid (F = P.map fun (i : Nat) => (i : Int)) := Lib.hid (by rw [← HF.out, firstM_yes hok, hP])
    have FL : F.length = P.length := by rw [FP.out, List.length_map]
    have HFL := Lib.hid FL
    have P8 : P.length ≤ 8 := by rw [← hP]; have := Sp.first_len m; omega
    clear FL hP
    rw [hok] at K2
    clear hok
    have M0 := Lib.hid (STab.made W4 W4.heap.size (Nat.le_refl _))
    have N0 : Hid (Own ((W4.alloc (.cells #[] 29)).alloc (.cells #[] 3)) W4.heap.size (.slice (some ⟨W4.heap.size + 1, 0, none⟩) 0 0) []) := Lib.hid (by
      have := Own.made (W4.alloc (.cells #[] 29)) W4.heap.size [] (by simp) (by simp)
      rw [World.size_alloc] at this
      exact this)
    go_wp2_with fail
    refine K2.out.mono ?_
    rintro e w' ⟨rfl, rfl⟩
    go_wp2_with fail
    go_loopw [7, 8, 9] (fun so y ii wr => ∃ i : Nat, i ≤ P.length ∧ ii = .int .i64 i ∧ W4.grownBy wr none ∧ ∃ vs c, c.length = i ∧ (∀ x ∈ c, Fld.ok x = true) ∧ wr.ownsRow W4.heap.size 29 1 so vs.length vs ∧ RowsAt W4 vs (Sp.sel m (P.take i)) ∧ Own wr W4.heap.size y c) (fun _ _ ii _ => P.length - (intOf ii).toNat)
    case atStart => exact ⟨0, Nat.zero_le _, rfl, grown_alloc (grown_alloc (World.grownBy.refl _ _) _) _, [], [], rfl, by simp, (M0.out.still (World.grownBy_alloc _ _ _)).top, ⟨rfl, by simp⟩, N0.out⟩
    case round =>
      obtain ⟨i, hi, rfl, hg, vs, c, hci, hcf, htop, hrat, hoc⟩ := hrel
      have GR := Lib.hid hg
      have TOP0 := Lib.hid htop
      have RAT := Lib.hid hrat
      have OC := Lib.hid hoc
      have CI := Lib.hid hci
      have CF := Lib.hid hcf
      clear hg htop hrat hoc hci hcf M0 N0
      by_cases hlt : i < P.length
      · have hltF : (i : Int) < (F.length : Int) := by have := HFL.out; omega
        have SFR := Lib.hid (SF4.out.grown GR.out)
        obtain ⟨a, capf, e, _, _, hr⟩ := SFR.out
        injection e with e1 e2 e3
        subst e1 e3
        clear e2
        obtain ⟨bf, of, rfl, hxf⟩ := hr.at_ (k := i) (by have := HFL.out; omega)
        obtain ⟨p, hpe⟩ : ∃ p, P[i] = p := ⟨_, rfl⟩
        have fv : F.getD i 0 = (p : Int) := by
          rw [FP.out, List.getD_eq_getElem?_getD, List.getElem?_map, List.getElem?_eq_getElem hlt, hpe]; rfl
        rw [fv] at hxf
        have hpm : p < m.length := by rw [← hpe]; exact Sp.first_lt _ (by rw [HPP.out]; exact List.getElem_mem hlt)
        have hpm' : (p : Int) < (m.length : Int) := by omega
        have PT : Hid (P.take (i + 1) = P.take i ++ [p]) := Lib.hid (by rw [List.take_succ_eq_append_getElem hlt, hpe])
        obtain ⟨b1, o1, cap1, u, e, hu, hx, hs⟩ := (ST4.out.tab.grown GR.out).at_ hpm
        injection e with e1 e2 e3
        injection e1 with e1
        injection e1 with e1 e5
        subst e1 e5 e3
        have RW := Lib.hid (ST4.out.rows p u (m.getD p []) hu (okRow hpm))
        have r4 : (m.getD p []).length = 4 := (Sp.fresh_row (okM_all HOK.out) hpm).1
        obtain ⟨au, cu, eu, _, _, _⟩ := hs
        rw [r4] at eu
        subst eu
        have TOP := Lib.hid TOP0.out
        have sz : W4.heap.size ≤ wr.heap.size := GR.out.size
        have vl : vs.length ≤ 8 := by
          have := RAT.out.1
          unfold Sp.sel at this
          rw [List.length_map, List.length_take] at this
          omega
        have cl : c.length ≤ 8 := by rw [CI.out]; omega
        clear hr fv hpe r4 hu
        go_wp2_with (first
          | (at_builtin; refine wpList_append_own _ rfl _ _ 23 rfl W4.heap.size 29 i0 (.slice none 0 0) 1 24 Try.underlying23 I1.out I2.out I3.out I4.out rfl (by decide) _ _ _ rfl (World.ownsRow.alloc TOP.out _) ⟨wr.heap.size, 0, none⟩ 1 1 [.slice au 4 cu] rfl rfl (one_cell (g := 0)) (by simp [Value.oneCell']) ?d3 ?d4 ?d5 ?_))
        case d3 => unfold maxLen; omega
        case d4 => omega
        case d5 => (try simp only [World.size_alloc]); omega
        intro o5 w5 ho hg _
        have RB : Hid (RowsAt W4 (vs ++ [.slice au 4 cu]) (Sp.sel m (P.take (i + 1)))) := Lib.hid (RAT.out.snoc RW.out (by rw [PT.out]; simp [Sp.sel]))
        have TB : Hid (w5.ownsRow W4.heap.size 29 1 o5 (vs ++ [Value.slice au 4 cu]).length (vs ++ [.slice au 4 cu])) := Lib.hid (by rw [List.length_append]; exact ho)
        have G5 : Hid (W4.grownBy w5 none) := Lib.hid (grown_own (grown_alloc GR.out _) hg (fun j hj => (World.ownsRow.lt TOP.out j hj).1))
        have O5 : Hid (Own w5 W4.heap.size u8 c) := Lib.hid ((OC.out.still (World.grownBy_alloc wr (.cells #[.slice au 4 cu] 29) none)).kept hg (by
          have hap := apart_types (x := ⟨u8, 3, vals c⟩) (y := ⟨u7, 29, vs⟩) (row1_own.2 OC.out) TOP.out (by show (3 : TypeId) ≠ 29; decide)
          exact hap))
        clear ho hg TOP hx hxf TOP0 RAT OC
        have k8 : (i : Int) ≤ 8 := by omega
        have p0 : 0 ≤ (len1 : Int) * ((i : Int) + 5) ∧ (len1 : Int) * ((i : Int) + 5) ≤ 13631488 := by
          constructor
          · exact Int.mul_nonneg (by omega) (by omega)
          · have h1 : (len1 : Int) * ((i : Int) + 5) ≤ 1048576 * ((i : Int) + 5) := Int.mul_le_mul_of_nonneg_right (by omega) (by omega)
            omega
        obtain ⟨n, hn⟩ : ∃ n, (len1 : Int) * ((i : Int) + 5) = n := ⟨_, rfl⟩
        have hw : IntKind.i64.wrap ((len1 : Int) * ((i : Int) + 5)) = n := by rw [hn] at p0 ⊢; exact IntWalk.i64_in _ (by omega)
        rw [hn] at p0
        obtain ⟨p0, p1⟩ := p0
        clear hn
        go_wp2_with fail
        refine (lkNum31 (n + i) _ (by omega)).mono ?_
        rintro e w' ⟨rfl, rfl⟩
        obtain ⟨y, hy⟩ : ∃ y, (n + (i : Int)) % 31 = y := ⟨_, rfl⟩
        rw [hy]
        have YO : Hid (Fld.ok y = true) := Lib.hid (hy ▸ Vec.mod_is _)
        have s5 : W4.heap.size ≤ w5.heap.size := G5.out.size
        clear hy hw
        go_wp2_with (first
          | (at_builtin; refine wpList_append_own _ rfl _ _ 29 rfl W4.heap.size 3 j0 (.int .i64 0) 1 8 Try.underlying29 J1.out J2.out J3.out J4.out rfl (by decide) _ _ _ rfl (World.ownsRow.alloc O5.out _) ⟨w5.heap.size, 0, none⟩ 1 1 [.int .i64 y] rfl rfl (one_cell (g := 0)) (vals_one [y]) ?c3 ?c4 ?c5 ?_))
        case c3 => unfold maxLen; omega
        case c4 => omega
        case c5 => (try simp only [World.size_alloc]); omega
        intro o6 w6 ho hg _
        have O6 := Lib.hid (own_snoc (l := c) (x := y) ho rfl rfl)
        have G6 : Hid (W4.grownBy w6 none) := Lib.hid (grown_own (grown_alloc G5.out _) hg (fun j hj => (World.ownsRow.lt O5.out j hj).1))
        have S6 : Hid (w6.ownsRow W4.heap.size 29 1 o5 (vs ++ [Value.slice au 4 cu]).length (vs ++ [.slice au 4 cu])) := Lib.hid (by
          have hap := apart_types (x := ⟨o5, 29, vs ++ [Value.slice au 4 cu]⟩) (y := ⟨u8, 3, vals c⟩) TB.out (row1_own.2 O5.out) (by show (29 : TypeId) ≠ 3; decide)
          exact World.ownsRow.kept (World.ownsRow.alloc TB.out _) hg hap)
        clear ho hg
        go_wp2_with fail
        go_roundw
        case rel => exact ⟨i + 1, by omega, by go_num, G6.out, _, c ++ [y], by simp [CI.out], fun x hx => by
          rcases List.mem_append.1 hx with h | h
          · exact CF.out x h
          · simp at h; subst h; exact YO.out, S6.out, RB.out, O6.out⟩
        case measure => simp [intOf]; omega
      · have : i = P.length := by omega
        subst this
        have hiF : ¬ (P.length : Int) < (F.length : Int) := by have := HFL.out; omega
        have SS : Hid (STab wr W4.heap.size u7 vs (Sp.sel m (Sp.firsts Sp.has m))) := Lib.hid (by have := RAT.out; rw [List.take_length] at this; rw [HPP.out]; exact this.stab GR.out TOP0.out)
        obtain ⟨S, hS⟩ : ∃ S, Sp.sel m (Sp.firsts Sp.has m) = S := ⟨_, rfl⟩
        have SL : Hid (S.length = P.length) := Lib.hid (by rw [← hS]; unfold Sp.sel; rw [List.length_map, HPP.out])
        have SK := Sp.sel_ok HOK.out
        have BO : Hid (∀ c, Sp.Row S.length c → ByM S (madeK S c S.length) true c) := Lib.hid (by rw [← hS]; exact fun c hc => by_one HOK.out hc)
        rw [hS] at SS SK
        have HSK := Lib.hid SK
        have s8 : S.length ≤ 8 := okM_len SK
        have HM := Lib.hid (okM_all SK)
        have CR : Hid (Sp.Row S.length c) := Lib.hid ⟨by rw [SL.out]; exact CI.out, CF.out⟩
        clear SK hS
        go_wp2_with fail
        refine (lkMade _ _ vs S c _ SS.out.tab OC.out.sl HM.out CR.out s8).mono ?_
        rintro e w5 ⟨x5, rfl, hg, ho⟩
        have G5 := Lib.hid (grown_trans GR.out hg)
        have S5 := Lib.hid (SS.out.tab.grown hg)
        have C5 := Lib.hid (OC.out.sl.grown hg)
        have X5 := Lib.hid ho.sl
        clear hg ho
        go_wp2_with fail
        refine (implSpanBy _ x5 vs S _ _ S5.out X5.out).mono ?_
        rintro e w6 ⟨bv, bb, bl, rfl, hg, ho, hby⟩
        obtain ⟨hb1, hb2⟩ := hby.one (BO.out c CR.out)
        subst hb1 hb2
        have G6 := Lib.hid (grown_trans G5.out hg)
        have C6 := Lib.hid (C5.out.grown hg)
        have B6 := Lib.hid ho.sl
        clear hg ho hby
        go_wp2_with fail
        refine (lkSame _ _ _ _ B6.out C6.out).mono ?_
        rintro e w7 ⟨rfl, hg⟩
        have G7 := Lib.hid (grown_trans G4.out (grown_trans G6.out hg))
        clear hg
        go_wp2_with fail
        go_ret
        exact ⟨rfl, below_grown G7.out⟩

set_option maxRecDepth 100000 in
theorem lifted (os : Os) (started : os.Started) (H : Type) (enc : TypeId × Value → H) :
    ReturnsInHanded {} Try.checked os 9 .any (Rows.fnSpanOneSpec.pre6 enc Try.prog Try.f9 Rows.fnSpanOneRow.domain false) (Rows.fnSpanOneSpec.post enc Try.prog Try.f9 false true false false) := by
  refine returnsInHanded_of_change (C := Try.checked) own started (by kernel_rfl) Try.func9
    (ChangeSpec.witness6 (enc := enc) (C := Try.checked) false ⟨#[], #[.slice none 0 0, .slice none 0 0], []⟩ 8 (by kernel_rfl) (by kernel_rfl) (by kernel_rfl) (by kernel_rfl)) ?_
  intro W base args ds gs before hval0 hW hcnd _
  have hval : ∀ (j : Nat) t v, Try.f9.params[j]? = some t → args[j]? = some v → Value.okWide Try.prog W .any base t v := hval0
  have hW' := hW
  obtain ⟨p, q, hA0, hV, rfl, hfz, hnd⟩ := hW
  have hA : DataW.TrodAll enc Try.prog W 0 (fun _ => true) true Try.f9.params.toList args.toList ds p := hA0
  rw [Try.params9] at hA hval
  obtain ⟨v0, vs0, d0, ds0, p0, q0, hargs, rfl, rfl, h0, r0⟩ := trodAll_cons hA
  obtain ⟨v1, vs1, d1, ds1, p1, q1, rfl, rfl, rfl, h1, r1⟩ := trodAll_cons r0
  obtain ⟨rfl, rfl, rfl⟩ := trodAll_nil r1
  obtain rfl : args = #[v0, v1] := by cases args; simp_all
  obtain ⟨rfl, rfl⟩ := trodVars_none hV
  obtain ⟨a0, len0, cap0, rfl⟩ := okWide_slice Try.underlying22 (hval 0 22 v0 rfl rfl)
  have k0 := h0
  have lt0 : ∀ x ∈ p0, x.block < W.heap.size := by obtain ⟨m, hm⟩ := k0; exact DataW.trod_lt m _ _ _ hm
  obtain ⟨z0, w0⟩ : ∃ zs, IsRow .u8 W a0 len0 cap0 zs := by
    obtain ⟨fuel, hf⟩ := h0
    rcases open_ints Try.underlying22 Try.underlying5 (by kernel_rfl) hf with ⟨hcs, _⟩ | ⟨x, l, c, zs, hcs, _, hl, hm, hz, _, hcell, hwz⟩
    · simp [Value.cells] at hcs
      obtain ⟨rfl, rfl, rfl⟩ := hcs
      exact ⟨[], .inl ⟨rfl, rfl, rfl, rfl⟩⟩
    · simp [Value.cells] at hcs
      obtain ⟨rfl, rfl, rfl⟩ := hcs
      exact ⟨zs, .inr ⟨_, rfl, hl, hm, by simpa using hz, hcell, hwz⟩⟩
  obtain ⟨a1, len1, cap1, rfl⟩ := okWide_slice Try.underlying22 (hval 1 22 v1 rfl rfl)
  have k1 := h1
  have lt1 : ∀ x ∈ p1, x.block < W.heap.size := by obtain ⟨m, hm⟩ := k1; exact DataW.trod_lt m _ _ _ hm
  obtain ⟨z1, w1⟩ : ∃ zs, IsRow .u8 W a1 len1 cap1 zs := by
    obtain ⟨fuel, hf⟩ := h1
    rcases open_ints Try.underlying22 Try.underlying5 (by kernel_rfl) hf with ⟨hcs, _⟩ | ⟨x, l, c, zs, hcs, _, hl, hm, hz, _, hcell, hwz⟩
    · simp [Value.cells] at hcs
      obtain ⟨rfl, rfl, rfl⟩ := hcs
      exact ⟨[], .inl ⟨rfl, rfl, rfl, rfl⟩⟩
    · simp [Value.cells] at hcs
      obtain ⟨rfl, rfl, rfl⟩ := hcs
      exact ⟨zs, .inr ⟨_, rfl, hl, hm, by simpa using hz, hcell, hwz⟩⟩
  clear hA0 hval0
  refine (walk a0 len0 cap0 z0 a1 len1 cap1 z1 W w0 w1).mono fun e W' ⟨he, bel⟩ => ?_
  subst he
  exact ⟨_, rfl, _, _, _, [], _, [], hW', trodAll_mk1 (shut_bool Try.underlying4 _), (trodAll_cons_mk (Below.trod laidOut (by kernel_rfl) (of_decide_eq_true (by kernel_rfl)) k0 bel lt0) (trodAll_cons_mk (Below.trod laidOut (by kernel_rfl) (of_decide_eq_true (by kernel_rfl)) k1 bel lt1) trodAll_mk0)), rfl, bel.frame _, fun h => by cases h⟩

theorem over : Rows.fnSpanOneRow.holds Try.pinned (OpenSpec.ofChange Rows.fnSpanOneSpec) :=
  OpenClaim.holds_of_wide 9 Try.f9 rfl rfl rfl rfl rfl rfl rfl ⟨rfl, rfl, rfl, rfl, rfl⟩ rfl rfl rfl rfl rfl (by kernel_rfl) Try.func9 (by kernel_rfl)
    (of_decide_eq_true (by kernel_rfl)) (by unfold Func.isWrapper; first | (rw [if_pos (by decide +kernel)]; kernel_rfl) | (rw [if_neg (by decide +kernel)]; exact ⟨rfl, rfl⟩))
    (fun os started H enc _ => lifted os started H enc)

theorem proved : Rows.FnSpanOneSaid := over
#print axioms proved
end Go.Proofs.Ytogjgajabdiaaaa.fnSpanOne
