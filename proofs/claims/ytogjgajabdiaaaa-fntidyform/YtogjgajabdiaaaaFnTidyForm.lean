/-
  From whatever bytes a matrix is drawn, each row of SpanTidy begins with 1 behind the previous row, where all other rows have 0: the law FnTidyForm returns true.
  Conditions: none.
-/
import Derived.Test.YtogjgajabdiaaaaRows
import Derived.WalkKit
import Derived.ProofKit
import Derived.OpenShut
import Derived.ShutString
import Derived.ChangeOld
import Derived.Below
import Derived.Test.YtogjgajabdiaaaaFldMath
import Derived.Test.YtogjgajabdiaaaaMem
import Derived.Test.YtogjgajabdiaaaaField
import Derived.Test.YtogjgajabdiaaaaVecMath
import Derived.Test.YtogjgajabdiaaaaSpanMath
import Derived.Test.YtogjgajabdiaaaaSpanList
import Derived.Test.YtogjgajabdiaaaaSpanTidy
import Derived.Test.YtogjgajabdiaaaaSpanMore
import Derived.Test.YtogjgajabdiaaaaSpanBy
import Derived.Test.YtogjgajabdiaaaaSpanWork
import Derived.Test.YtogjgajabdiaaaaInts
import Derived.Test.YtogjgajabdiaaaaTabs
import Derived.Test.YtogjgajabdiaaaaHelp
import Derived.Test.YtogjgajabdiaaaaVec
import Derived.Test.YtogjgajabdiaaaaVec2
import Derived.Test.YtogjgajabdiaaaaSpanHelp
import Derived.Test.YtogjgajabdiaaaaSpanHelp2
import Derived.Test.YtogjgajabdiaaaaSpanOk
import Derived.Test.YtogjgajabdiaaaaSpanLine
import Derived.Test.YtogjgajabdiaaaaSpanEch
import Derived.Test.YtogjgajabdiaaaaVecSpec
import Derived.Test.YtogjgajabdiaaaaSpanTake
import Derived.Test.YtogjgajabdiaaaaSpanProg
import Derived.Test.YtogjgajabdiaaaaSpanTops
import Derived.Test.YtogjgajabdiaaaaSpanSpec
import Derived.Test.YtogjgajabdiaaaaSpanSpec2
import Derived.Test.YtogjgajabdiaaaaSpanSpec3
import Derived.Test.YtogjgajabdiaaaaSpanSpec4
import Derived.Test.YtogjgajabdiaaaaSpanForm
import Derived.Test.YtogjgajabdiaaaaDraw
import Derived.Test.YtogjgajabdiaaaaDrawField
import Derived.Test.YtogjgajabdiaaaaDrawVec
import Derived.Test.YtogjgajabdiaaaaDrawSpan
import Derived.Test.YtogjgajabdiaaaaDrawSpan2
namespace Go.Proofs.Ytogjgajabdiaaaa.fnTidyForm
open Go.ChangeShapes Go.WideShapes Go.ChangeAt Go.RowKit
open Go.ChangeMaps (open_string shut_string)
set_option linter.unusedVariables false

theorem own : ownKnob Try.prog.godebug = none := by kernel_rfl
theorem laidOut : laidOutB Try.prog = true := by kernel_rfl

/-- WHAT THE WALK IS TOLD OF A SLICE OF INTEGERS THAT CAME IN: it is nil; or it leads to a row of 'cap' cells, the numbers 'zs' (the first 'len' are its elements, the rest its spare room), each fitting its kind. -/
def IsRow (k : IntKind) (w : World) (a : Option Addr) (len cap : Nat) (zs : List Int) : Prop :=
  (a = none ∧ len = 0 ∧ cap = 0 ∧ zs = []) ∨
  ∃ x, a = some x ∧ len ≤ cap ∧ cap ≤ maxLen ∧ zs.length = cap ∧ (∀ i, i < zs.length → w.cell? (x.add i) = some (.int k (zs.getD i 0))) ∧ ∀ n ∈ zs, (Lit.int k n).wf = true

theorem walk (a0 : Option Addr) (len0 cap0 : Nat) (z0 : List Int) (w : World) (w0 : IsRow .u8 w a0 len0 cap0 z0) :
    Calls Try.prog 3 #[.slice a0 len0 cap0] w fun e w' => e = .returned (.bool true) ∧ Below w.heap.size w w' := by
  have hc : Code w a0 len0 cap0 := code_of w0
  have hm : cap0 ≤ maxLen := hc.2.1
  have hl : len0 ≤ cap0 := hc.1
  unfold maxLen at hm
  have C := Lib.hid hc
  clear hc w0
  by_cases hbig : (len0 : Int) > 1048576
  · go_enter Try.func3, Try.ntmps3
    go_wp2_with fail
    go_ret
    exact ⟨rfl, Below.refl _ _⟩
  go_enter Try.func3, Try.ntmps3
  go_wp2_with fail
  refine (drawSpanTidy a0 len0 cap0 _ C.out).mono ?_
  rintro e W1 ⟨mv, mus, m, rfl, hg, hm10, hst, _⟩
  have G1 := Lib.hid hg
  have TM := Lib.hid hst.tab
  clear hg hst
  go_wp2_with fail
  refine (implSpanTidy mv mus m _ TM.out).mono ?_
  rintro e W2 ⟨tv, tus, rfl, hg, htl, ho⟩
  have G2 := Lib.hid (grown_trans G1.out hg)
  have TM2 := Lib.hid (TM.out.grown hg)
  have TT := Lib.hid (tab_own htl ho)
  clear hg ho G1 TM
  go_wp2_with fail
  refine (specSpanTidy mv mus m _ TM2.out).mono ?_
  rintro e W3 ⟨rv, rus, rfl, hg, hst⟩
  have G3 := Lib.hid (grown_trans G2.out hg)
  have TM3 := Lib.hid (TM2.out.grown hg)
  have TT3 := Lib.hid (TT.out.grown hg)
  have TR := Lib.hid hst.tab
  clear hg hst G2 TM2 TT
  go_wp2_with fail
  refine (lkTab tv rv tus rus (tidyM m) (tidyM m) _ TT3.out TR.out).mono ?_
  rintro e W4 ⟨rfl, hg⟩
  rw [decide_eq_true rfl]
  have G4 := Lib.hid (grown_trans G3.out hg)
  have TM4 := Lib.hid (TM3.out.grown hg)
  have TT4 := Lib.hid (TT3.out.grown hg)
  clear hg G3 TM3 TT3 TR
  have OK := Lib.hid (specSpanOk mv mus m W4 TM4.out)
  cases hok : okM m with
  | false =>
    rw [hok] at OK
    clear hok
    go_wp2_with fail
    refine OK.out.mono ?_
    rintro e w' ⟨rfl, rfl⟩
    go_wp2_with fail
    refine (specSpanTidy mv mus m _ TM4.out).mono ?_
    rintro e W5 ⟨rv, rus, rfl, hg, hst⟩
    have G5 := Lib.hid (grown_trans G4.out hg)
    have TT5 := Lib.hid (TT4.out.grown hg)
    have TR := Lib.hid hst.tab
    clear hg hst
    go_wp2_with fail
    refine (lkTab tv rv tus rus (tidyM m) (tidyM m) _ TT5.out TR.out).mono ?_
    rintro e W6 ⟨rfl, hg⟩
    rw [decide_eq_true rfl]
    have G6 := Lib.hid (grown_trans G5.out hg)
    clear hg
    go_wp2_with fail
    go_ret
    exact ⟨rfl, below_grown G6.out⟩
  | true =>
    have FM := Lib.hid (fun (i : Nat) (hi : i < (Sp.ltidy m).length) => tidy_form hok hi)
    have ROW := Lib.hid (tidy_rows hok)
    have t4 := tidy_four hok
    rw [hok] at OK
    rw [tidyM_yes hok] at TT4
    obtain ⟨T, hT⟩ : ∃ T, Sp.ltidy m = T := ⟨_, rfl⟩
    rw [hT] at TT4 FM ROW t4
    clear hok hT
    obtain ⟨ta, tcap, et, ht1, ht2, _⟩ := TT4.out.top
    subst et
    unfold maxLen at ht2
    go_wp2_with fail
    refine OK.out.mono ?_
    rintro e w' ⟨rfl, rfl⟩
    go_wp2_with fail
    go_loopw [5] (fun i wr => ∃ k : Nat, k ≤ T.length ∧ i = .int .i64 k ∧ W4.grownBy wr none) (fun i _ => T.length - (intOf i).toNat)
    case atStart => exact ⟨0, Nat.zero_le _, rfl, World.grownBy.refl _ _⟩
    case round =>
      obtain ⟨k, hk, rfl, hg⟩ := hrel
      have GR := Lib.hid hg
      clear hg
      by_cases hlt : k < T.length
      · have hlt' : (k : Int) < (T.length : Int) := by omega
        obtain ⟨p, hp4, hlead, hone, hoth, hprev⟩ := FM.out k hlt
        obtain ⟨b, o, cap', u, e, hu, hx, hs⟩ := (TT4.out.grown GR.out).at_ hlt
        injection e with e1 e2 e3
        subst e1 e3
        have S := Lib.hid hs
        have HL := Lib.hid hlead
        have OTH := Lib.hid hoth
        have PRV := Lib.hid hprev
        have ONE := Lib.hid hone
        have US := Lib.hid hu
        clear hs hlead hoth hprev hone hu
        go_wp2_with fail
        refine (implVecLead u (T.getD k []) _ S.out).mono ?_
        rintro e w2 ⟨rfl, hg⟩
        rw [HL.out]
        have G2 := Lib.hid (grown_trans GR.out hg)
        obtain ⟨b2, o2, cap2, u2, e, hu2, hx2, hs2⟩ := (TT4.out.grown G2.out).at_ hlt
        injection e with e1 e2 e3
        injection e1 with e1
        injection e1 with e1 e5
        subst e1 e5 e3
        have eu : u2 = u := by have := US.out; rw [hu2] at this; injection this
        subst eu
        obtain ⟨au, cu, eu, hu1, hu3, hru⟩ := hs2
        have rk4 : (T.getD k []).length = 4 := (Sp.fresh_row ROW.out hlt).1
        obtain ⟨bu, ou, eau, hxu⟩ := hru.at_ (k := p) (by omega)
        rw [ONE.out] at hxu
        rw [rk4] at eu hu1
        subst eau eu
        have hp' : (p : Int) < 4 := by omega
        unfold maxLen at hu3
        clear hg hx hu2 rk4 hru
        have INNER : Hid (∀ j, j < T.length → j ≠ k → ∀ w', W4.grownBy w' none → ∃ bj oj cj, w'.cell? ⟨b, o + j, none⟩ = some (.slice (some ⟨bj, oj, none⟩) 4 cj) ∧ 4 ≤ cj ∧ w'.cell? ⟨bj, oj + p, none⟩ = some (.int .i64 0)) := Lib.hid (fun j hj hjk w' hg' => by
          obtain ⟨b3, o3, cap3, u3, e, hu3, hx3, hs3⟩ := (TT4.out.grown hg').at_ hj
          injection e with e1 e2 e3
          injection e1 with e1
          injection e1 with e1 e5
          subst e1 e5
          obtain ⟨a3, c3, eu3, hc3, _, hr3⟩ := hs3
          have r4 : (T.getD j []).length = 4 := (Sp.fresh_row ROW.out hj).1
          obtain ⟨bj, oj, ea3, hxj⟩ := hr3.at_ (k := p) (by omega)
          rw [OTH.out j hj hjk] at hxj
          rw [r4] at eu3 hc3
          subst ea3
          exact ⟨bj, oj, c3, by rw [← eu3]; exact hx3, hc3, hxj⟩)
        by_cases hk0 : (k : Int) > 0
        · obtain ⟨j0, hj0⟩ : ∃ j0 : Nat, k - 1 = j0 := ⟨_, rfl⟩
          have hw : IntKind.i64.wrap ((k : Int) - 1) = (j0 : Int) := by rw [IntWalk.i64_in _ (by omega)]; omega
          have hk1 : (j0 : Int) < (T.length : Int) := by omega
          have PL := Lib.hid (PRV.out (by omega))
          obtain ⟨b4, o4, cap4, up, e, hup, hxp, hsp⟩ := (TT4.out.grown G2.out).at_ (i := j0) (by omega)
          rw [hj0] at PL
          injection e with e1 e2 e3
          injection e1 with e1
          injection e1 with e1 e5
          subst e1 e5 e3
          have SP := Lib.hid hsp
          obtain ⟨lp, hlp⟩ : ∃ lp, Vec.lead (T.getD j0 []) = lp := ⟨_, rfl⟩
          have VL := Lib.hid (implVecLead up (T.getD j0 []) w2 SP.out)
          rw [hlp] at PL VL
          have lpp : ¬ (p : Int) ≤ lp := by have := PL.out; omega
          clear hsp hlp hup hj0
          go_wp2_with fail
          refine VL.out.mono ?_
          rintro e w3 ⟨rfl, hg⟩
          have G3 := Lib.hid (grown_trans G2.out hg)
          clear hg hxu hxp hx2 hw hk1
          go_wp2_with fail
          clear lpp hk0
          go_loop [7] (fun i => ∃ j : Nat, j ≤ T.length ∧ i = .int .i64 j) (fun i => T.length - (intOf i).toNat)
          case atStart => exact ⟨0, Nat.zero_le _, rfl⟩
          case round =>
            obtain ⟨j, hj, rfl⟩ := hrel
            by_cases hjt : j < T.length
            · have hjt' : (j : Int) < (T.length : Int) := by omega
              by_cases hjk : j = k
              · have hne : ((j : Int) != (k : Int)) = false := by simp [hjk]
                clear hjk
                go_wp2_with fail
                go_round
                case rel => exact ⟨j + 1, by omega, by go_num⟩
                case measure => simp [intOf]; omega
              · have hne : ((j : Int) != (k : Int)) = true := by simp; omega
                obtain ⟨bj, oj, cj, hy1, hy2, hy3⟩ := INNER.out j hjt hjk _ G3.out
                go_wp2_with fail
                go_round
                case rel => exact ⟨j + 1, by omega, by go_num⟩
                case measure => simp [intOf]; omega
            · go_wp2_with fail
              go_roundw
              case rel => exact ⟨k + 1, by omega, by go_num, G3.out⟩
              case measure => simp [intOf]; omega
        ·
          go_wp2_with fail
          go_loop [7] (fun i => ∃ j : Nat, j ≤ T.length ∧ i = .int .i64 j) (fun i => T.length - (intOf i).toNat)
          case atStart => exact ⟨0, Nat.zero_le _, rfl⟩
          case round =>
            obtain ⟨j, hj, rfl⟩ := hrel
            by_cases hjt : j < T.length
            · have hjt' : (j : Int) < (T.length : Int) := by omega
              by_cases hjk : j = k
              · have hne : ((j : Int) != (k : Int)) = false := by simp [hjk]
                clear hjk
                go_wp2_with fail
                go_round
                case rel => exact ⟨j + 1, by omega, by go_num⟩
                case measure => simp [intOf]; omega
              · have hne : ((j : Int) != (k : Int)) = true := by simp; omega
                obtain ⟨bj, oj, cj, hy1, hy2, hy3⟩ := INNER.out j hjt hjk _ G2.out
                go_wp2_with fail
                go_round
                case rel => exact ⟨j + 1, by omega, by go_num⟩
                case measure => simp [intOf]; omega
            · go_wp2_with fail
              go_roundw
              case rel => exact ⟨k + 1, by omega, by go_num, G2.out⟩
              case measure => simp [intOf]; omega
      · have : k = T.length := by omega
        subst this
        have t4' : (T.length : Int) ≤ 4 := by omega
        go_wp2_with fail
        go_ret
        exact ⟨rfl, below_grown (grown_trans G4.out GR.out)⟩

set_option maxRecDepth 100000 in
theorem lifted (os : Os) (started : os.Started) (H : Type) (enc : TypeId × Value → H) :
    ReturnsInHanded {} Try.checked os 3 .any (Rows.fnTidyFormSpec.pre6 enc Try.prog Try.f3 Rows.fnTidyFormRow.domain false) (Rows.fnTidyFormSpec.post enc Try.prog Try.f3 false true false false) := by
  refine returnsInHanded_of_change (C := Try.checked) own started (by kernel_rfl) Try.func3
    (ChangeSpec.witness6 (enc := enc) (C := Try.checked) false ⟨#[], #[.slice none 0 0], []⟩ 8 (by kernel_rfl) (by kernel_rfl) (by kernel_rfl) (by kernel_rfl)) ?_
  intro W base args ds gs before hval0 hW hcnd _
  have hval : ∀ (j : Nat) t v, Try.f3.params[j]? = some t → args[j]? = some v → Value.okWide Try.prog W .any base t v := hval0
  have hW' := hW
  obtain ⟨p, q, hA0, hV, rfl, hfz, hnd⟩ := hW
  have hA : DataW.TrodAll enc Try.prog W 0 (fun _ => true) true Try.f3.params.toList args.toList ds p := hA0
  rw [Try.params3] at hA hval
  obtain ⟨v0, vs0, d0, ds0, p0, q0, hargs, rfl, rfl, h0, r0⟩ := trodAll_cons hA
  obtain ⟨rfl, rfl, rfl⟩ := trodAll_nil r0
  obtain rfl : args = #[v0] := by cases args; simp_all
  obtain ⟨rfl, rfl⟩ := trodVars_none hV
  obtain ⟨a0, len0, cap0, rfl⟩ := okWide_slice Try.underlying22 (hval 0 22 v0 rfl rfl)
  have k0 := h0
  have lt0 : ∀ x ∈ p0, x.block < W.heap.size := by obtain ⟨m, hm⟩ := k0; exact DataW.trod_lt m _ _ _ hm
  obtain ⟨z0, w0⟩ : ∃ zs, IsRow .u8 W a0 len0 cap0 zs := by
    obtain ⟨fuel, hf⟩ := h0
    rcases open_ints Try.underlying22 Try.underlying5 (by kernel_rfl) hf with ⟨hcs, _⟩ | ⟨x, l, c, zs, hcs, _, hl, hm, hz, _, hcell, hwz⟩
    · simp [Value.cells] at hcs
      obtain ⟨rfl, rfl, rfl⟩ := hcs
      exact ⟨[], .inl ⟨rfl, rfl, rfl, rfl⟩⟩
    · simp [Value.cells] at hcs
      obtain ⟨rfl, rfl, rfl⟩ := hcs
      exact ⟨zs, .inr ⟨_, rfl, hl, hm, by simpa using hz, hcell, hwz⟩⟩
  clear hA0 hval0
  refine (walk a0 len0 cap0 z0 W w0).mono fun e W' ⟨he, bel⟩ => ?_
  subst he
  exact ⟨_, rfl, _, _, _, [], _, [], hW', trodAll_mk1 (shut_bool Try.underlying4 _), (trodAll_cons_mk (Below.trod laidOut (by kernel_rfl) (of_decide_eq_true (by kernel_rfl)) k0 bel lt0) trodAll_mk0), rfl, bel.frame _, fun h => by cases h⟩

theorem over : Rows.fnTidyFormRow.holds Try.pinned (OpenSpec.ofChange Rows.fnTidyFormSpec) :=
  OpenClaim.holds_of_wide 3 Try.f3 rfl rfl rfl rfl rfl rfl rfl ⟨rfl, rfl, rfl, rfl, rfl⟩ rfl rfl rfl rfl rfl (by kernel_rfl) Try.func3 (by kernel_rfl)
    (of_decide_eq_true (by kernel_rfl)) (by unfold Func.isWrapper; first | (rw [if_pos (by decide +kernel)]; kernel_rfl) | (rw [if_neg (by decide +kernel)]; exact ⟨rfl, rfl⟩))
    (fun os started H enc _ => lifted os started H enc)

theorem proved : Rows.FnTidyFormSaid := over
#print axioms proved
end Go.Proofs.Ytogjgajabdiaaaa.fnTidyForm
