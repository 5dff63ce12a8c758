/-
  From whatever bytes a matrix is drawn, SpanTidy makes the same rows as the matrix, and done twice is as done once: the law FnTidySame returns true.
  Conditions: none.
-/
import Derived.Test.YtogjgajabdiaaaaRows
import Derived.WalkKit
import Derived.ProofKit
import Derived.OpenShut
import Derived.ShutString
import Derived.ChangeOld
import Derived.Below
import Derived.Test.YtogjgajabdiaaaaFldMath
import Derived.Test.YtogjgajabdiaaaaMem
import Derived.Test.YtogjgajabdiaaaaField
import Derived.Test.YtogjgajabdiaaaaVecMath
import Derived.Test.YtogjgajabdiaaaaSpanMath
import Derived.Test.YtogjgajabdiaaaaSpanList
import Derived.Test.YtogjgajabdiaaaaSpanTidy
import Derived.Test.YtogjgajabdiaaaaSpanMore
import Derived.Test.YtogjgajabdiaaaaSpanBy
import Derived.Test.YtogjgajabdiaaaaSpanWork
import Derived.Test.YtogjgajabdiaaaaInts
import Derived.Test.YtogjgajabdiaaaaTabs
import Derived.Test.YtogjgajabdiaaaaHelp
import Derived.Test.YtogjgajabdiaaaaVec
import Derived.Test.YtogjgajabdiaaaaVec2
import Derived.Test.YtogjgajabdiaaaaSpanHelp
import Derived.Test.YtogjgajabdiaaaaSpanHelp2
import Derived.Test.YtogjgajabdiaaaaSpanOk
import Derived.Test.YtogjgajabdiaaaaSpanLine
import Derived.Test.YtogjgajabdiaaaaSpanEch
import Derived.Test.YtogjgajabdiaaaaVecSpec
import Derived.Test.YtogjgajabdiaaaaSpanTake
import Derived.Test.YtogjgajabdiaaaaSpanProg
import Derived.Test.YtogjgajabdiaaaaSpanTops
import Derived.Test.YtogjgajabdiaaaaSpanSpec
import Derived.Test.YtogjgajabdiaaaaSpanSpec2
import Derived.Test.YtogjgajabdiaaaaSpanSpec3
import Derived.Test.YtogjgajabdiaaaaSpanSpec4
import Derived.Test.YtogjgajabdiaaaaSpanTopsBy
import Derived.Test.YtogjgajabdiaaaaSpanTops2
import Derived.Test.YtogjgajabdiaaaaSpanSame
import Derived.Test.YtogjgajabdiaaaaDraw
import Derived.Test.YtogjgajabdiaaaaDrawField
import Derived.Test.YtogjgajabdiaaaaDrawVec
import Derived.Test.YtogjgajabdiaaaaDrawSpan
import Derived.Test.YtogjgajabdiaaaaDrawSpan2
namespace Go.Proofs.Ytogjgajabdiaaaa.fnTidySame
open Go.ChangeShapes Go.WideShapes Go.ChangeAt Go.RowKit
open Go.ChangeMaps (open_string shut_string)
set_option linter.unusedVariables false

theorem own : ownKnob Try.prog.godebug = none := by kernel_rfl
theorem laidOut : laidOutB Try.prog = true := by kernel_rfl

/-- WHAT THE WALK IS TOLD OF A SLICE OF INTEGERS THAT CAME IN: it is nil; or it leads to a row of 'cap' cells, the numbers 'zs' (the first 'len' are its elements, the rest its spare room), each fitting its kind. -/
def IsRow (k : IntKind) (w : World) (a : Option Addr) (len cap : Nat) (zs : List Int) : Prop :=
  (a = none ∧ len = 0 ∧ cap = 0 ∧ zs = []) ∨
  ∃ x, a = some x ∧ len ≤ cap ∧ cap ≤ maxLen ∧ zs.length = cap ∧ (∀ i, i < zs.length → w.cell? (x.add i) = some (.int k (zs.getD i 0))) ∧ ∀ n ∈ zs, (Lit.int k n).wf = true

theorem tidy_ok {m : List (List Int)} (hm : okM m = true) : okM (Sp.ltidy m) = true :=
  okM_yes (by have := tidy_four hm; omega) (fun i hi => Sp.row_ok.2 (Sp.fresh_row (tidy_rows hm) hi))
theorem tidy_span {m : List (List Int)} (hm : okM m = true) : Sp.Same ((Sp.ltidy m).map Sp.toV) (m.map Sp.toV) := by
  obtain ⟨L, h, s⟩ := Sp.ltidy_is (okM_all hm)
  rw [h.same]; exact s
theorem tidy_twice {m : List (List Int)} (hm : okM m = true) : Sp.ltidy (Sp.ltidy m) = Sp.ltidy m := (Sp.ltidy_same (tidy_rows hm) (okM_all hm)).2 (tidy_span hm)
theorem has_of {m n : List (List Int)} (hm : okM m = true) (hn : okM n = true) (h : Sp.Same (m.map Sp.toV) (n.map Sp.toV)) {i : Nat} (hi : i < n.length) : hasM m (n.getD i []) = true := by
  have hr := Sp.fresh_row (okM_all hn) hi
  unfold hasM
  rw [hm, okM_get hn hi, (Sp.has_iff (okM_all hm) hr).2 ?_]; · rfl
  refine h.2 _ (List.mem_map.2 ⟨n.getD i [], ?_, rfl⟩)
  rw [List.getD_eq_getElem?_getD, List.getElem?_eq_getElem hi]; exact List.getElem_mem hi

theorem walk (a0 : Option Addr) (len0 cap0 : Nat) (z0 : List Int) (w : World) (w0 : IsRow .u8 w a0 len0 cap0 z0) :
    Calls Try.prog 4 #[.slice a0 len0 cap0] w fun e w' => e = .returned (.bool true) ∧ Below w.heap.size w w' := by
  have hc : Code w a0 len0 cap0 := code_of w0
  have hm : cap0 ≤ maxLen := hc.2.1
  have hl : len0 ≤ cap0 := hc.1
  unfold maxLen at hm
  have C := Lib.hid hc
  clear hc w0
  by_cases hbig : (len0 : Int) > 1048576
  · go_enter Try.func4, Try.ntmps4
    go_wp2_with fail
    go_ret
    exact ⟨rfl, Below.refl _ _⟩
  go_enter Try.func4, Try.ntmps4
  go_wp2_with fail
  refine (drawSpanTidy a0 len0 cap0 _ C.out).mono ?_
  rintro e W1 ⟨mv, mus, m, rfl, hg, hm10, hst, _⟩
  have G1 := Lib.hid hg
  have TM := Lib.hid hst.tab
  clear hg hst
  go_wp2_with fail
  refine (implSpanTidy mv mus m _ TM.out).mono ?_
  rintro e W2 ⟨tv, tus, rfl, hg, htl, ho⟩
  have G2 := Lib.hid (grown_trans G1.out hg)
  have TM2 := Lib.hid (TM.out.grown hg)
  have TT := Lib.hid (tab_own htl ho)
  clear hg ho G1 TM
  go_wp2_with fail
  refine (specSpanTidy mv mus m _ TM2.out).mono ?_
  rintro e W3 ⟨rv, rus, rfl, hg, hst⟩
  have G3 := Lib.hid (grown_trans G2.out hg)
  have TM3 := Lib.hid (TM2.out.grown hg)
  have TT3 := Lib.hid (TT.out.grown hg)
  have TR := Lib.hid hst.tab
  clear hg hst G2 TM2 TT
  go_wp2_with fail
  refine (lkTab tv rv tus rus (tidyM m) (tidyM m) _ TT3.out TR.out).mono ?_
  rintro e W4 ⟨rfl, hg⟩
  rw [decide_eq_true rfl]
  have G4 := Lib.hid (grown_trans G3.out hg)
  have TM4 := Lib.hid (TM3.out.grown hg)
  have TT4 := Lib.hid (TT3.out.grown hg)
  clear hg G3 TM3 TT3 TR
  have OK := Lib.hid (specSpanOk mv mus m W4 TM4.out)
  cases hok : okM m with
  | false =>
    rw [hok] at OK
    clear hok
    go_wp2_with fail
    refine OK.out.mono ?_
    rintro e w' ⟨rfl, rfl⟩
    go_wp2_with fail
    refine (specSpanTidy mv mus m _ TM4.out).mono ?_
    rintro e W5 ⟨rv, rus, rfl, hg, hst⟩
    have G5 := Lib.hid (grown_trans G4.out hg)
    have TT5 := Lib.hid (TT4.out.grown hg)
    have TR := Lib.hid hst.tab
    clear hg hst
    go_wp2_with fail
    refine (lkTab tv rv tus rus (tidyM m) (tidyM m) _ TT5.out TR.out).mono ?_
    rintro e W6 ⟨rfl, hg⟩
    rw [decide_eq_true rfl]
    have G6 := Lib.hid (grown_trans G5.out hg)
    clear hg
    go_wp2_with fail
    go_ret
    exact ⟨rfl, below_grown G6.out⟩
  | true =>
    have OT := Lib.hid (tidy_ok hok)
    have H1 := Lib.hid (fun (i : Nat) (hi : i < m.length) => has_of (tidy_ok hok) hok (tidy_span hok) hi)
    have H2 := Lib.hid (fun (i : Nat) (hi : i < (Sp.ltidy m).length) => has_of hok (tidy_ok hok) (tidy_span hok).symm hi)
    have TW : Hid (tidyM (Sp.ltidy m) = Sp.ltidy m) := Lib.hid (by rw [tidyM_yes (tidy_ok hok), tidy_twice hok])
    have SM : Hid (sameM (Sp.ltidy m) m = true) := Lib.hid (by simp [sameM, hok, tidy_ok hok, tidy_twice hok])
    rw [hok] at OK
    rw [tidyM_yes hok] at TT4
    obtain ⟨T, hT⟩ : ∃ T, Sp.ltidy m = T := ⟨_, rfl⟩
    rw [hT] at TT4 OT H1 H2 TW SM
    clear hok hT
    obtain ⟨ta, tcap, et, ht1, ht2, _⟩ := TT4.out.top
    subst et
    obtain ⟨ma, mcap, em, hm1, hm2, _⟩ := TM4.out.top
    subst em
    unfold maxLen at ht2 hm2
    go_wp2_with fail
    refine OK.out.mono ?_
    rintro e w' ⟨rfl, rfl⟩
    go_wp2_with fail
    go_loopw [5] (fun i wr => ∃ k : Nat, k ≤ m.length ∧ i = .int .i64 k ∧ W4.grownBy wr none) (fun i _ => m.length - (intOf i).toNat)
    case atStart => exact ⟨0, Nat.zero_le _, rfl, World.grownBy.refl _ _⟩
    case round =>
      obtain ⟨k, hk, rfl, hg⟩ := hrel
      have GR := Lib.hid hg
      clear hg
      by_cases hlt : k < m.length
      · have hlt' : (k : Int) < (m.length : Int) := by omega
        obtain ⟨b, o, cap', u, e, hu, hx, hs⟩ := (TM4.out.grown GR.out).at_ hlt
        injection e with e1 e2 e3
        subst e1 e3
        have Z := Lib.hid (implSpanHas _ u tus T (m.getD k []) wr (TT4.out.grown GR.out) hs)
        rw [H1.out k hlt] at Z
        clear hs hu
        go_wp2_with fail
        refine Z.out.mono ?_
        rintro e w2 ⟨rfl, hg⟩
        have G2 := Lib.hid (grown_trans GR.out hg)
        clear hg hx
        go_wp2_with fail
        go_roundw
        case rel => exact ⟨k + 1, by omega, by go_num, G2.out⟩
        case measure => simp [intOf]; omega
      · go_wp2_with fail
        clear hlt hk
        go_loopw [6] (fun i wr' => ∃ k : Nat, k ≤ T.length ∧ i = .int .i64 k ∧ W4.grownBy wr' none) (fun i _ => T.length - (intOf i).toNat)
        case atStart => exact ⟨0, Nat.zero_le _, rfl, GR.out⟩
        case round =>
          obtain ⟨j, hj, rfl, hg⟩ := hrel
          have GS := Lib.hid hg
          clear hg
          by_cases hlt : j < T.length
          · have hlt' : (j : Int) < (T.length : Int) := by omega
            obtain ⟨b, o, cap', u, e, hu, hx, hs⟩ := (TT4.out.grown GS.out).at_ hlt
            injection e with e1 e2 e3
            subst e1 e3
            have Z := Lib.hid (implSpanHas _ u mus m (T.getD j []) _ (TM4.out.grown GS.out) hs)
            rw [H2.out j hlt] at Z
            clear hs hu
            go_wp2_with fail
            refine Z.out.mono ?_
            rintro e w2 ⟨rfl, hg⟩
            have G2 := Lib.hid (grown_trans GS.out hg)
            clear hg hx
            go_wp2_with fail
            go_roundw
            case rel => exact ⟨j + 1, by omega, by go_num, G2.out⟩
            case measure => simp [intOf]; omega
          · have T5 := Lib.hid (TT4.out.grown GS.out)
            go_wp2_with fail
            refine (implSpanTidy _ tus T _ T5.out).mono ?_
            rintro e w2 ⟨xv, xus, rfl, hg, hxl, ho⟩
            rw [TW.out] at hxl ho
            have G2 := Lib.hid (grown_trans GS.out hg)
            have T6 := Lib.hid (T5.out.grown hg)
            have X6 := Lib.hid (tab_own hxl ho)
            clear hg ho T5
            go_wp2_with fail
            refine (lkTab xv _ xus tus T T _ X6.out T6.out).mono ?_
            rintro e w3 ⟨rfl, hg⟩
            rw [decide_eq_true rfl]
            have G3 := Lib.hid (grown_trans G2.out hg)
            have Z := Lib.hid (implSpanSame _ _ tus mus T m w3 (TT4.out.grown G3.out) (TM4.out.grown G3.out))
            rw [SM.out] at Z
            clear hg T6 X6
            go_wp2_with fail
            refine Z.out.mono ?_
            rintro e w4 ⟨rfl, hg⟩
            have G5 := Lib.hid (grown_trans G4.out (grown_trans G3.out hg))
            clear hg
            go_wp2_with fail
            go_ret
            exact ⟨rfl, below_grown G5.out⟩

set_option maxRecDepth 100000 in
theorem lifted (os : Os) (started : os.Started) (H : Type) (enc : TypeId × Value → H) :
    ReturnsInHanded {} Try.checked os 4 .any (Rows.fnTidySameSpec.pre6 enc Try.prog Try.f4 Rows.fnTidySameRow.domain false) (Rows.fnTidySameSpec.post enc Try.prog Try.f4 false true false false) := by
  refine returnsInHanded_of_change (C := Try.checked) own started (by kernel_rfl) Try.func4
    (ChangeSpec.witness6 (enc := enc) (C := Try.checked) false ⟨#[], #[.slice none 0 0], []⟩ 8 (by kernel_rfl) (by kernel_rfl) (by kernel_rfl) (by kernel_rfl)) ?_
  intro W base args ds gs before hval0 hW hcnd _
  have hval : ∀ (j : Nat) t v, Try.f4.params[j]? = some t → args[j]? = some v → Value.okWide Try.prog W .any base t v := hval0
  have hW' := hW
  obtain ⟨p, q, hA0, hV, rfl, hfz, hnd⟩ := hW
  have hA : DataW.TrodAll enc Try.prog W 0 (fun _ => true) true Try.f4.params.toList args.toList ds p := hA0
  rw [Try.params4] at hA hval
  obtain ⟨v0, vs0, d0, ds0, p0, q0, hargs, rfl, rfl, h0, r0⟩ := trodAll_cons hA
  obtain ⟨rfl, rfl, rfl⟩ := trodAll_nil r0
  obtain rfl : args = #[v0] := by cases args; simp_all
  obtain ⟨rfl, rfl⟩ := trodVars_none hV
  obtain ⟨a0, len0, cap0, rfl⟩ := okWide_slice Try.underlying22 (hval 0 22 v0 rfl rfl)
  have k0 := h0
  have lt0 : ∀ x ∈ p0, x.block < W.heap.size := by obtain ⟨m, hm⟩ := k0; exact DataW.trod_lt m _ _ _ hm
  obtain ⟨z0, w0⟩ : ∃ zs, IsRow .u8 W a0 len0 cap0 zs := by
    obtain ⟨fuel, hf⟩ := h0
    rcases open_ints Try.underlying22 Try.underlying5 (by kernel_rfl) hf with ⟨hcs, _⟩ | ⟨x, l, c, zs, hcs, _, hl, hm, hz, _, hcell, hwz⟩
    · simp [Value.cells] at hcs
      obtain ⟨rfl, rfl, rfl⟩ := hcs
      exact ⟨[], .inl ⟨rfl, rfl, rfl, rfl⟩⟩
    · simp [Value.cells] at hcs
      obtain ⟨rfl, rfl, rfl⟩ := hcs
      exact ⟨zs, .inr ⟨_, rfl, hl, hm, by simpa using hz, hcell, hwz⟩⟩
  clear hA0 hval0
  refine (walk a0 len0 cap0 z0 W w0).mono fun e W' ⟨he, bel⟩ => ?_
  subst he
  exact ⟨_, rfl, _, _, _, [], _, [], hW', trodAll_mk1 (shut_bool Try.underlying4 _), (trodAll_cons_mk (Below.trod laidOut (by kernel_rfl) (of_decide_eq_true (by kernel_rfl)) k0 bel lt0) trodAll_mk0), rfl, bel.frame _, fun h => by cases h⟩

theorem over : Rows.fnTidySameRow.holds Try.pinned (OpenSpec.ofChange Rows.fnTidySameSpec) :=
  OpenClaim.holds_of_wide 4 Try.f4 rfl rfl rfl rfl rfl rfl rfl ⟨rfl, rfl, rfl, rfl, rfl⟩ rfl rfl rfl rfl rfl (by kernel_rfl) Try.func4 (by kernel_rfl)
    (of_decide_eq_true (by kernel_rfl)) (by unfold Func.isWrapper; first | (rw [if_pos (by decide +kernel)]; kernel_rfl) | (rw [if_neg (by decide +kernel)]; exact ⟨rfl, rfl⟩))
    (fun os started H enc _ => lifted os started H enc)

theorem proved : Rows.FnTidySameSaid := over
#print axioms proved
end Go.Proofs.Ytogjgajabdiaaaa.fnTidySame
