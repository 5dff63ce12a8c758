/-
  From whatever bytes a matrix is drawn, a row is in SpanFirst if and only if it is not in the span of the rows before it, and these rows have the same span as all: the law FnSpanFirst returns true.
  Conditions: none.
-/
import Derived.Test.YtogjgajabdiaaaaRows
import Derived.WalkKit
import Derived.ProofKit
import Derived.OpenShut
import Derived.ShutString
import Derived.ChangeOld
import Derived.Below
import Derived.Test.YtogjgajabdiaaaaFldMath
import Derived.Test.YtogjgajabdiaaaaMem
import Derived.Test.YtogjgajabdiaaaaField
import Derived.Test.YtogjgajabdiaaaaVecMath
import Derived.Test.YtogjgajabdiaaaaSpanMath
import Derived.Test.YtogjgajabdiaaaaSpanList
import Derived.Test.YtogjgajabdiaaaaSpanTidy
import Derived.Test.YtogjgajabdiaaaaSpanMore
import Derived.Test.YtogjgajabdiaaaaSpanBy
import Derived.Test.YtogjgajabdiaaaaSpanWork
import Derived.Test.YtogjgajabdiaaaaInts
import Derived.Test.YtogjgajabdiaaaaTabs
import Derived.Test.YtogjgajabdiaaaaHelp
import Derived.Test.YtogjgajabdiaaaaVec
import Derived.Test.YtogjgajabdiaaaaVec2
import Derived.Test.YtogjgajabdiaaaaSpanHelp
import Derived.Test.YtogjgajabdiaaaaSpanHelp2
import Derived.Test.YtogjgajabdiaaaaSpanOk
import Derived.Test.YtogjgajabdiaaaaSpanLine
import Derived.Test.YtogjgajabdiaaaaSpanEch
import Derived.Test.YtogjgajabdiaaaaVecSpec
import Derived.Test.YtogjgajabdiaaaaSpanTake
import Derived.Test.YtogjgajabdiaaaaSpanProg
import Derived.Test.YtogjgajabdiaaaaSpanTops
import Derived.Test.YtogjgajabdiaaaaSpanSpec
import Derived.Test.YtogjgajabdiaaaaSpanSpec2
import Derived.Test.YtogjgajabdiaaaaSpanSpec3
import Derived.Test.YtogjgajabdiaaaaSpanSpec4
import Derived.Test.YtogjgajabdiaaaaSpanTopsBy
import Derived.Test.YtogjgajabdiaaaaSpanTops2
import Derived.Test.YtogjgajabdiaaaaSpanSame
import Derived.Test.YtogjgajabdiaaaaSpanLaws
import Derived.Test.YtogjgajabdiaaaaSpanSel
import Derived.Test.YtogjgajabdiaaaaDraw
import Derived.Test.YtogjgajabdiaaaaDrawField
import Derived.Test.YtogjgajabdiaaaaDrawVec
import Derived.Test.YtogjgajabdiaaaaDrawSpan
import Derived.Test.YtogjgajabdiaaaaDrawSpan2
namespace Go.Proofs.Ytogjgajabdiaaaa.fnSpanFirst
open Go.ChangeShapes Go.WideShapes Go.ChangeAt Go.RowKit
open Go.ChangeMaps (open_string shut_string)
set_option linter.unusedVariables false

theorem own : ownKnob Try.prog.godebug = none := by kernel_rfl
theorem laidOut : laidOutB Try.prog = true := by kernel_rfl

/-- WHAT THE WALK IS TOLD OF A SLICE OF INTEGERS THAT CAME IN: it is nil; or it leads to a row of 'cap' cells, the numbers 'zs' (the first 'len' are its elements, the rest its spare room), each fitting its kind. -/
def IsRow (k : IntKind) (w : World) (a : Option Addr) (len cap : Nat) (zs : List Int) : Prop :=
  (a = none ∧ len = 0 ∧ cap = 0 ∧ zs = []) ∨
  ∃ x, a = some x ∧ len ≤ cap ∧ cap ≤ maxLen ∧ zs.length = cap ∧ (∀ i, i < zs.length → w.cell? (x.add i) = some (.int k (zs.getD i 0))) ∧ ∀ n ∈ zs, (Lit.int k n).wf = true

theorem walk (a0 : Option Addr) (len0 cap0 : Nat) (z0 : List Int) (w : World) (w0 : IsRow .u8 w a0 len0 cap0 z0) :
    Calls Try.prog 10 #[.slice a0 len0 cap0] w fun e w' => e = .returned (.bool true) ∧ Below w.heap.size w w' := by
  have hc : Code w a0 len0 cap0 := code_of w0
  have hm : cap0 ≤ maxLen := hc.2.1
  have hl : len0 ≤ cap0 := hc.1
  unfold maxLen at hm
  have C := Lib.hid hc
  clear hc w0
  by_cases hbig : (len0 : Int) > 1048576
  · go_enter Try.func10, Try.ntmps10
    go_wp2_with fail
    go_ret
    exact ⟨rfl, Below.refl _ _⟩
  obtain ⟨i0, hi, hz0, hz1, hz2⟩ := info_parts infoInts
  have I1 := Lib.hid hi
  have I2 := Lib.hid hz0
  have I3 := Lib.hid hz1
  have I4 := Lib.hid hz2
  clear hi hz0 hz1 hz2
  go_enter Try.func10, Try.ntmps10
  go_wp2_with fail
  refine (drawSpanFirst a0 len0 cap0 _ C.out).mono ?_
  rintro e W1 ⟨mv, mus, m, rfl, hg, hm10, hst, hnn⟩
  obtain ⟨b, o, cap, rfl, h1, h2⟩ := drawn_form hst hnn
  unfold maxLen at h2
  have G1 := Lib.hid hg
  have ST1 := Lib.hid hst
  clear hg hst hnn
  obtain ⟨F, hF⟩ : ∃ F, firstM m = F := ⟨_, rfl⟩
  have HF := Lib.hid hF
  clear hF
  go_wp2_with fail
  refine (implSpanFirst _ mus m _ ST1.out.tab).mono ?_
  rintro e W2 ⟨fv, rfl, hg, ho⟩
  rw [HF.out] at ho
  have G2 := Lib.hid (grown_trans G1.out hg)
  have ST2 := Lib.hid (ST1.out.still hg)
  obtain ⟨fa, fc, ef, hf1, hf2, _⟩ := ho.sl
  subst ef
  unfold maxLen at hf2
  have SF2 := Lib.hid ho.sl
  clear hg ho ST1 G1
  go_wp2_with fail
  refine (specSpanFirst _ mus m _ ST2.out.tab).mono ?_
  rintro e W3 ⟨rv, rfl, hg, ho⟩
  rw [HF.out] at ho
  have G3 := Lib.hid (grown_trans G2.out hg)
  have ST3 := Lib.hid (ST2.out.still hg)
  have SF3 := Lib.hid (SF2.out.grown hg)
  have SR := Lib.hid ho.sl
  clear hg ho ST2 G2 SF2
  go_wp2_with fail
  refine (lkIs _ rv F F _ SF3.out SR.out).mono ?_
  rintro e W4 ⟨rfl, hg⟩
  rw [decide_eq_true rfl]
  have G4 := Lib.hid (grown_trans G3.out hg)
  have ST4 := Lib.hid (ST3.out.still hg)
  have SF4 := Lib.hid (SF3.out.grown hg)
  clear hg ST3 G3 SF3 SR
  have K2 := Lib.hid (specSpanOk _ mus m W4 ST4.out.tab)
  cases hok : okM m with
  | false =>
    rw [hok] at K2
    clear hok
    go_wp2_with fail
    refine K2.out.mono ?_
    rintro e w' ⟨rfl, rfl⟩
    go_wp2_with fail
    refine (specSpanFirst _ mus m _ ST4.out.tab).mono ?_
    rintro e W5 ⟨rv, rfl, hg, ho⟩
    rw [HF.out] at ho
    have G5 := Lib.hid (grown_trans G4.out hg)
    have SF5 := Lib.hid (SF4.out.grown hg)
    have SR := Lib.hid ho.sl
    clear hg ho
    go_wp2_with fail
    refine (lkIs _ rv F F _ SF5.out SR.out).mono ?_
    rintro e W6 ⟨rfl, hg⟩
    rw [decide_eq_true rfl]
    have G6 := Lib.hid (grown_trans G5.out hg)
    clear hg
    go_wp2_with fail
    go_ret
    exact ⟨rfl, below_grown G6.out⟩
  | true =>
    have m8 := okM_len hok
    have HOK := Lib.hid hok
    obtain ⟨P, hP⟩ : ∃ P, Sp.firsts Sp.has m = P := ⟨_, rfl⟩
    have HPP := Lib.hid hP
    have FP : Hid (F = P.map fun (i : Nat) => (i : Int)) := Lib.hid (by rw [← HF.out, firstM_yes hok, hP])
    have FL : F.length = P.length := by rw [FP.out, List.length_map]
    have HFL := Lib.hid FL
    have P8 : P.length ≤ 8 := by rw [← hP]; have := Sp.first_len m; omega
    clear FL hP
    rw [hok] at K2
    clear hok
    have M0 := Lib.hid (STab.made W4 W4.heap.size (Nat.le_refl _))
    go_wp2_with fail
    refine K2.out.mono ?_
    rintro e w' ⟨rfl, rfl⟩
    go_wp2_with fail
    go_loopw [5, 6, 7] (fun so kk ii wr => ∃ i k : Nat, i ≤ m.length ∧ ii = .int .i64 i ∧ kk = .int .i64 k ∧ k = (Sp.firsts Sp.has (m.take i)).length ∧ W4.grownBy wr none ∧ ∃ vs, STab wr W4.heap.size so vs (Sp.sel m (Sp.firsts Sp.has (m.take i)))) (fun _ _ ii _ => m.length - (intOf ii).toNat)
    case atStart => exact ⟨0, 0, Nat.zero_le _, rfl, rfl, rfl, grown_alloc (World.grownBy.refl _ _) _, [], M0.out⟩
    case round =>
      obtain ⟨i, k, hi, rfl, rfl, hk, hg, vs, hst⟩ := hrel
      have GR := Lib.hid hg
      have SO := Lib.hid hst
      have HK := Lib.hid hk
      clear hg hst hk M0
      by_cases hlt : i < m.length
      · have hlt' : (i : Int) < (m.length : Int) := by omega
        have FT := Lib.hid (firsts_take hlt)
        have HH := Lib.hid (has_hasM HOK.out hlt)
        obtain ⟨q, hq⟩ : ∃ q, Sp.has (m.take i) (m.getD i []) = q := ⟨_, rfl⟩
        rw [hq] at FT HH
        have HQ := Lib.hid hq
        clear hq
        obtain ⟨b1, o1, cap1, u, e, hu, hx, hs⟩ := (ST4.out.tab.grown GR.out).at_ hlt
        injection e with e1 e2 e3
        injection e1 with e1
        injection e1 with e1 e5
        subst e1 e5 e3
        have HU := Lib.hid hu
        clear hu hs
        have SFR := Lib.hid (SF4.out.grown GR.out)
        cases q with
        | false =>
          obtain ⟨hkl, hkv⟩ := Sp.firsts_yes hlt HQ.out
          rw [HPP.out, ← HK.out] at hkl hkv
          have hkF : (k : Int) < (F.length : Int) := by have := HFL.out; omega
          obtain ⟨a, capf, e, _, _, hr⟩ := SFR.out
          injection e with e1 e2 e3
          subst e1 e3
          obtain ⟨bf, of, rfl, hxf⟩ := hr.at_ (k := k) (by have := HFL.out; omega)
          have fv : F.getD k 0 = (i : Int) := by
            rw [FP.out, List.getD_eq_getElem?_getD, List.getElem?_map, List.getElem?_eq_getElem hkl]
            have : P[k] = i := by rw [List.getD_eq_getElem?_getD, List.getElem?_eq_getElem hkl] at hkv; simpa using hkv
            simp [this]
          rw [fv] at hxf
          clear hr fv hkv
          have TOP := Lib.hid SO.out.top
          obtain ⟨au, cu, eu, _, _, _⟩ := ((ST4.out.still GR.out).rows i u (m.getD i []) HU.out (okRow hlt)).1
          have r4 : (m.getD i []).length = 4 := (Sp.fresh_row (okM_all HOK.out) hlt).1
          rw [r4] at eu
          subst eu
          have sz : W4.heap.size ≤ wr.heap.size := GR.out.size
          have vl : vs.length ≤ 8 := by
            have := SO.out.len
            unfold Sp.sel at this
            rw [List.length_map, ← HK.out] at this
            omega
          clear r4
          go_wp2_with (first
            | (at_builtin; refine wpList_append_own _ rfl _ _ 23 rfl W4.heap.size 29 i0 (.slice none 0 0) 1 24 Try.underlying23 I1.out I2.out I3.out I4.out rfl (by decide) _ _ _ rfl (World.ownsRow.alloc TOP.out _) ⟨wr.heap.size, 0, none⟩ 1 1 [.slice au 4 cu] rfl rfl (one_cell (g := 0)) (by simp [Value.oneCell']) ?d3 ?d4 ?d5 ?_))
          case d3 => unfold maxLen; omega
          case d4 => omega
          case d5 => (try simp only [World.size_alloc]); omega
          intro o5 w5 ho hg _
          have SB : Hid (STab w5 W4.heap.size o5 (vs ++ [.slice au 4 cu]) (Sp.sel m (Sp.firsts Sp.has (m.take (i + 1))))) := Lib.hid (SO.out.snoc (World.grownBy.refl _ _) ((ST4.out.still GR.out).rows i _ (m.getD i []) HU.out (okRow hlt)) (grown_trans (World.grownBy_alloc _ _ _) hg) ho rfl (by rw [FT.out]; simp [Sp.sel]))
          have G5 : Hid (W4.grownBy w5 none) := Lib.hid (grown_own (grown_alloc GR.out _) hg (fun j hj => (World.ownsRow.lt TOP.out j hj).1))
          clear ho hg TOP hx hxf
          have GD := Lib.hid (grown_drew G5.out)
          have SD := Lib.hid (SB.out.still (grown_drew (World.grownBy.refl _ none)))
          obtain ⟨b2, o2, cap2, u2, e, hu2, hx2, hs2⟩ := (ST4.out.tab.grown GD.out).at_ hlt
          injection e with e1 e2 e3
          injection e1 with e1
          injection e1 with e1 e5
          subst e1 e5 e3
          have TK := Lib.hid ((ST4.out.tab.grown GD.out).take (k := i) (by omega))
          have S2 := Lib.hid hs2
          have hic : (i : Int) ≤ (cap : Int) := by omega
          clear hs2 hu2
          have Z := Lib.hid (implSpanHas _ _ _ (m.take i) (m.getD i []) w5.drew TK.out S2.out)
          rw [HH.out] at Z
          go_wp2_with fail
          go_region_held3 (fun w' => w'.cell? ⟨b, o + i, none⟩ = some u2)
            (first
              | with_reducible exact hx2
              | with_reducible exact hx3)
            ((go_at_call 21; refine Z.out.mono ?_; rintro e w7 ⟨rfl, hg7⟩
              have hx3 := hg7.cell hx2 (by simp)
              have GG := Lib.hid hg7
              clear hg7))
          have hg := GG.out
          clear hx3 GG
          have G7 := Lib.hid (grown_trans GD.out hg)
          have S7 := Lib.hid (SD.out.still hg)
          clear hg hx2
          go_wp2_with fail
          go_roundw
          case rel => exact ⟨i + 1, k + 1, by omega, by go_num, by go_num, by rw [FT.out, HK.out]; simp, G7.out, _, S7.out⟩
          case measure => simp [intOf]; omega
        | true =>
          clear hx
          by_cases hkl : k < P.length
          · have hkv := Sp.firsts_no hlt HQ.out (by rw [HPP.out, ← HK.out]; exact hkl)
            rw [HPP.out, ← HK.out] at hkv
            have hkF : (k : Int) < (F.length : Int) := by have := HFL.out; omega
            obtain ⟨a, capf, e, _, _, hr⟩ := SFR.out
            injection e with e1 e2 e3
            subst e1 e3
            obtain ⟨bf, of, rfl, hxf⟩ := hr.at_ (k := k) (by have := HFL.out; omega)
            obtain ⟨y, hy⟩ : ∃ y, F.getD k 0 = y := ⟨_, rfl⟩
            have hyi : (y == (i : Int)) = false := by
              rw [← hy, FP.out, List.getD_eq_getElem?_getD, List.getElem?_map, List.getElem?_eq_getElem hkl]
              have : P[k] ≠ i := by rw [List.getD_eq_getElem?_getD, List.getElem?_eq_getElem hkl] at hkv; simpa using hkv
              simp; omega
            rw [hy] at hxf
            clear hr hy hkv
            have GD := Lib.hid (grown_drew GR.out)
            have SD := Lib.hid (SO.out.still (grown_drew (World.grownBy.refl _ none)))
            obtain ⟨b2, o2, cap2, u2, e, hu2, hx2, hs2⟩ := (ST4.out.tab.grown GD.out).at_ hlt
            injection e with e1 e2 e3
            injection e1 with e1
            injection e1 with e1 e5
            subst e1 e5 e3
            have TK := Lib.hid ((ST4.out.tab.grown GD.out).take (k := i) (by omega))
            have S2 := Lib.hid hs2
            have hic : (i : Int) ≤ (cap : Int) := by omega
            clear hs2 hu2
            have Z := Lib.hid (implSpanHas _ _ _ (m.take i) (m.getD i []) wr.drew TK.out S2.out)
            rw [HH.out] at Z
            go_wp2_with fail
            go_region_held3 (fun w' => w'.cell? ⟨b, o + i, none⟩ = some u2)
              (first
                | with_reducible exact hx2
                | with_reducible exact hx3)
              ((go_at_call 21; refine Z.out.mono ?_; rintro e w7 ⟨rfl, hg7⟩
                have hx3 := hg7.cell hx2 (by simp)
                have GG := Lib.hid hg7
                clear hg7))
            have hg := GG.out
            clear hx3 GG
            have G7 := Lib.hid (grown_trans GD.out hg)
            have S7 := Lib.hid (SD.out.still hg)
            clear hg hx2
            go_wp2_with fail
            go_roundw
            case rel => exact ⟨i + 1, k, by omega, by go_num, rfl, by rw [FT.out, HK.out]; simp, G7.out, vs, by rw [FT.out]; simpa using S7.out⟩
            case measure => simp [intOf]; omega
          · have hkF : ¬ (k : Int) < (F.length : Int) := by have := HFL.out; omega
            have GD := Lib.hid (grown_drew GR.out)
            have SD := Lib.hid (SO.out.still (grown_drew (World.grownBy.refl _ none)))
            obtain ⟨b2, o2, cap2, u2, e, hu2, hx2, hs2⟩ := (ST4.out.tab.grown GD.out).at_ hlt
            injection e with e1 e2 e3
            injection e1 with e1
            injection e1 with e1 e5
            subst e1 e5 e3
            have TK := Lib.hid ((ST4.out.tab.grown GD.out).take (k := i) (by omega))
            have S2 := Lib.hid hs2
            have hic : (i : Int) ≤ (cap : Int) := by omega
            clear hs2 hu2
            have Z := Lib.hid (implSpanHas _ _ _ (m.take i) (m.getD i []) wr.drew TK.out S2.out)
            rw [HH.out] at Z
            go_wp2_with fail
            go_region_held3 (fun w' => w'.cell? ⟨b, o + i, none⟩ = some u2)
              (first
                | with_reducible exact hx2
                | with_reducible exact hx3)
              ((go_at_call 21; refine Z.out.mono ?_; rintro e w7 ⟨rfl, hg7⟩
                have hx3 := hg7.cell hx2 (by simp)
                have GG := Lib.hid hg7
                clear hg7))
            have hg := GG.out
            clear hx3 GG
            have G7 := Lib.hid (grown_trans GD.out hg)
            have S7 := Lib.hid (SD.out.still hg)
            clear hg hx2
            go_wp2_with fail
            go_roundw
            case rel => exact ⟨i + 1, k, by omega, by go_num, rfl, by rw [FT.out, HK.out]; simp, G7.out, vs, by rw [FT.out]; simpa using S7.out⟩
            case measure => simp [intOf]; omega
      · have : i = m.length := by omega
        subst this
        have hkP : Hid (k = P.length) := Lib.hid (by have := HK.out; rw [List.take_length, HPP.out] at this; exact this)
        have hkF : ((k : Int) == (F.length : Int)) = true := by have := HFL.out; have := hkP.out; simp; omega
        have SO2 : Hid (STab wr W4.heap.size u5 vs (Sp.sel m (Sp.firsts Sp.has m))) := Lib.hid (by have := SO.out; rwa [List.take_length] at this)
        have Z := Lib.hid (implSpanSame u5 _ vs mus _ m wr SO2.out.tab (ST4.out.tab.grown GR.out))
        rw [Sp.sel_sameM HOK.out] at Z
        go_wp2_with fail
        refine Z.out.mono ?_
        rintro e w7 ⟨rfl, hg⟩
        have G7 := Lib.hid (grown_trans G4.out (grown_trans GR.out hg))
        clear hg
        go_wp2_with fail
        go_ret
        exact ⟨rfl, below_grown G7.out⟩

set_option maxRecDepth 100000 in
theorem lifted (os : Os) (started : os.Started) (H : Type) (enc : TypeId × Value → H) :
    ReturnsInHanded {} Try.checked os 10 .any (Rows.fnSpanFirstSpec.pre6 enc Try.prog Try.f10 Rows.fnSpanFirstRow.domain false) (Rows.fnSpanFirstSpec.post enc Try.prog Try.f10 false true false false) := by
  refine returnsInHanded_of_change (C := Try.checked) own started (by kernel_rfl) Try.func10
    (ChangeSpec.witness6 (enc := enc) (C := Try.checked) false ⟨#[], #[.slice none 0 0], []⟩ 8 (by kernel_rfl) (by kernel_rfl) (by kernel_rfl) (by kernel_rfl)) ?_
  intro W base args ds gs before hval0 hW hcnd _
  have hval : ∀ (j : Nat) t v, Try.f10.params[j]? = some t → args[j]? = some v → Value.okWide Try.prog W .any base t v := hval0
  have hW' := hW
  obtain ⟨p, q, hA0, hV, rfl, hfz, hnd⟩ := hW
  have hA : DataW.TrodAll enc Try.prog W 0 (fun _ => true) true Try.f10.params.toList args.toList ds p := hA0
  rw [Try.params10] at hA hval
  obtain ⟨v0, vs0, d0, ds0, p0, q0, hargs, rfl, rfl, h0, r0⟩ := trodAll_cons hA
  obtain ⟨rfl, rfl, rfl⟩ := trodAll_nil r0
  obtain rfl : args = #[v0] := by cases args; simp_all
  obtain ⟨rfl, rfl⟩ := trodVars_none hV
  obtain ⟨a0, len0, cap0, rfl⟩ := okWide_slice Try.underlying22 (hval 0 22 v0 rfl rfl)
  have k0 := h0
  have lt0 : ∀ x ∈ p0, x.block < W.heap.size := by obtain ⟨m, hm⟩ := k0; exact DataW.trod_lt m _ _ _ hm
  obtain ⟨z0, w0⟩ : ∃ zs, IsRow .u8 W a0 len0 cap0 zs := by
    obtain ⟨fuel, hf⟩ := h0
    rcases open_ints Try.underlying22 Try.underlying5 (by kernel_rfl) hf with ⟨hcs, _⟩ | ⟨x, l, c, zs, hcs, _, hl, hm, hz, _, hcell, hwz⟩
    · simp [Value.cells] at hcs
      obtain ⟨rfl, rfl, rfl⟩ := hcs
      exact ⟨[], .inl ⟨rfl, rfl, rfl, rfl⟩⟩
    · simp [Value.cells] at hcs
      obtain ⟨rfl, rfl, rfl⟩ := hcs
      exact ⟨zs, .inr ⟨_, rfl, hl, hm, by simpa using hz, hcell, hwz⟩⟩
  clear hA0 hval0
  refine (walk a0 len0 cap0 z0 W w0).mono fun e W' ⟨he, bel⟩ => ?_
  subst he
  exact ⟨_, rfl, _, _, _, [], _, [], hW', trodAll_mk1 (shut_bool Try.underlying4 _), (trodAll_cons_mk (Below.trod laidOut (by kernel_rfl) (of_decide_eq_true (by kernel_rfl)) k0 bel lt0) trodAll_mk0), rfl, bel.frame _, fun h => by cases h⟩

theorem over : Rows.fnSpanFirstRow.holds Try.pinned (OpenSpec.ofChange Rows.fnSpanFirstSpec) :=
  OpenClaim.holds_of_wide 10 Try.f10 rfl rfl rfl rfl rfl rfl rfl ⟨rfl, rfl, rfl, rfl, rfl⟩ rfl rfl rfl rfl rfl (by kernel_rfl) Try.func10 (by kernel_rfl)
    (of_decide_eq_true (by kernel_rfl)) (by unfold Func.isWrapper; first | (rw [if_pos (by decide +kernel)]; kernel_rfl) | (rw [if_neg (by decide +kernel)]; exact ⟨rfl, rfl⟩))
    (fun os started H enc _ => lifted os started H enc)

theorem proved : Rows.FnSpanFirstSaid := over
#print axioms proved
end Go.Proofs.Ytogjgajabdiaaaa.fnSpanFirst
