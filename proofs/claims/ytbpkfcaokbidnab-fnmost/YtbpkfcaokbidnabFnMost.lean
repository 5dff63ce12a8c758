/-
  From whatever bytes a kind is drawn, CodeMost answers as its model does; with so many lost, whichever, shards are enough, and with one more lost some are not: the law FnMost returns true.
  Conditions: none.
-/
import Derived.Test.YtbpkfcaokbidnabRows
import Derived.WalkKit
import Derived.ProofKit
import Derived.OpenShut
import Derived.ShutString
import Derived.ChangeOld
import Derived.Below
import Derived.Test.YtbpkfcaokbidnabFldMath
import Derived.Test.YtbpkfcaokbidnabMem
import Derived.Test.YtbpkfcaokbidnabField
import Derived.Test.YtbpkfcaokbidnabVecMath
import Derived.Test.YtbpkfcaokbidnabSpanMath
import Derived.Test.YtbpkfcaokbidnabSpanList
import Derived.Test.YtbpkfcaokbidnabSpanTidy
import Derived.Test.YtbpkfcaokbidnabSpanMore
import Derived.Test.YtbpkfcaokbidnabSpanBy
import Derived.Test.YtbpkfcaokbidnabSpanWork
import Derived.Test.YtbpkfcaokbidnabSpanElim
import Derived.Test.YtbpkfcaokbidnabInts
import Derived.Test.YtbpkfcaokbidnabTabs
import Derived.Test.YtbpkfcaokbidnabHelp
import Derived.Test.YtbpkfcaokbidnabVec
import Derived.Test.YtbpkfcaokbidnabVec2
import Derived.Test.YtbpkfcaokbidnabVecSpec
import Derived.Test.YtbpkfcaokbidnabSpanSpec
import Derived.Test.YtbpkfcaokbidnabSpanHelp
import Derived.Test.YtbpkfcaokbidnabSpanHelp2
import Derived.Test.YtbpkfcaokbidnabSpanOk
import Derived.Test.YtbpkfcaokbidnabSpanLine
import Derived.Test.YtbpkfcaokbidnabSpanEch
import Derived.Test.YtbpkfcaokbidnabSpanTake
import Derived.Test.YtbpkfcaokbidnabSpanProg
import Derived.Test.YtbpkfcaokbidnabSpanTops
import Derived.Test.YtbpkfcaokbidnabSpanSpec2
import Derived.Test.YtbpkfcaokbidnabSpanSpec3
import Derived.Test.YtbpkfcaokbidnabSpanSpec4
import Derived.Test.YtbpkfcaokbidnabDraw
import Derived.Test.YtbpkfcaokbidnabDrawField
import Derived.Test.YtbpkfcaokbidnabDrawVec
import Derived.Test.YtbpkfcaokbidnabCodeMath
import Derived.Test.YtbpkfcaokbidnabCodeList
import Derived.Test.YtbpkfcaokbidnabCodeWork
import Derived.Test.YtbpkfcaokbidnabFlags
import Derived.Test.YtbpkfcaokbidnabHelpB
import Derived.Test.YtbpkfcaokbidnabAlone
import Derived.Test.YtbpkfcaokbidnabCodeGen
import Derived.Test.YtbpkfcaokbidnabCodeGen2
import Derived.Test.YtbpkfcaokbidnabCodeGen3
import Derived.Test.YtbpkfcaokbidnabCodeSpec
import Derived.Test.YtbpkfcaokbidnabCodeBear
import Derived.Test.YtbpkfcaokbidnabCodeBear2
import Derived.Test.YtbpkfcaokbidnabCodeBear3
import Derived.Test.YtbpkfcaokbidnabCodeSpec2
import Derived.Test.YtbpkfcaokbidnabCodeMost
import Derived.Test.YtbpkfcaokbidnabCodeMost2
import Derived.Test.YtbpkfcaokbidnabCodeSpec3
import Derived.Test.YtbpkfcaokbidnabCodeRows
import Derived.Test.YtbpkfcaokbidnabCodeLaws
import Derived.Test.YtbpkfcaokbidnabDrawCode
namespace Go.Proofs.Ytbpkfcaokbidnab.fnMost
open Go.ChangeShapes Go.WideShapes Go.ChangeAt Go.RowKit
open Go.ChangeMaps (open_string shut_string)
set_option linter.unusedVariables false

theorem own : ownKnob Try.prog.godebug = none := by kernel_rfl
theorem laidOut : laidOutB Try.prog = true := by kernel_rfl

/-- WHAT THE WALK IS TOLD OF A SLICE OF INTEGERS THAT CAME IN: it is nil; or it leads to a row of 'cap' cells, the numbers 'zs' (the first 'len' are its elements, the rest its spare room), each fitting its kind. -/
def IsRow (k : IntKind) (w : World) (a : Option Addr) (len cap : Nat) (zs : List Int) : Prop :=
  (a = none ∧ len = 0 ∧ cap = 0 ∧ zs = []) ∨
  ∃ x, a = some x ∧ len ≤ cap ∧ cap ≤ maxLen ∧ zs.length = cap ∧ (∀ i, i < zs.length → w.cell? (x.add i) = some (.int k (zs.getD i 0))) ∧ ∀ n ∈ zs, (Lit.int k n).wf = true

/-- whether one more lost was not borne, among the first n sets. -/
def notK (k : Nat) : Nat → Bool
  | 0 => false
  | n + 1 => notK k n || (decide (8 - (Sp.many (Sp.bits n) : Int) = Sp.most k + 1) && !Sp.bears k (Sp.bits n))
theorem not_all {k : Nat} (hk : k = 1 ∨ k = 2) : notK k 256 = true := by
  have h1 : notK 1 256 = true := by decide +kernel
  have h2 : notK 2 256 = true := by decide +kernel
  rcases hk with rfl | rfl
  · exact h1
  · exact h2
theorem most_le (k : Nat) : Sp.most k ≤ 4 := by unfold Sp.most; split <;> omega

set_option maxHeartbeats 2000000 in
set_option maxRecDepth 20000 in
theorem walk (a0 : Option Addr) (len0 cap0 : Nat) (z0 : List Int) (w : World) (w0 : IsRow .u8 w a0 len0 cap0 z0) :
    Calls Try.prog 9 #[.slice a0 len0 cap0] w fun e w' => e = .returned (.bool true) ∧ Below w.heap.size w w' := by
  have hc : Code w a0 len0 cap0 := code_of w0
  have hm : cap0 ≤ maxLen := hc.2.1
  have hl : len0 ≤ cap0 := hc.1
  unfold maxLen at hm
  have C := Lib.hid hc
  clear hc w0
  by_cases hbig : (len0 : Int) > 1048576
  · go_enter Try.func9, Try.ntmps9
    go_wp2_with fail
    go_ret
    exact ⟨rfl, Below.refl _ _⟩
  go_enter Try.func9, Try.ntmps9
  go_wp2_with fail
  refine (drawCodeMost a0 len0 cap0 _ C.out).mono ?_
  rintro e W1 ⟨m, m0, m1, rfl, hb⟩
  have L1 := Lib.hid hb
  clear hb C
  go_wp2_with fail
  refine (implMost m _).mono ?_
  rintro e W2 ⟨rfl, hg⟩
  have L2 := Lib.hid (L1.out.trans (below_grown hg |>.mono L1.out.size))
  clear hg L1
  rcases kind_cases m with ⟨j, rfl, hj⟩ | ⟨k1, k2⟩
  · rw [mostM_yes hj]
    have MY := Lib.hid (mostM_yes hj)
    have NA := Lib.hid (not_all hj)
    have HJ := Lib.hid hj
    have tl := most_le j
    have FW : Hid (∀ n, 8 - Sp.many (Sp.bits n) ≤ Sp.most j → Sp.bears j (Sp.bits n) = true) := Lib.hid (fun n h => Sp.bears_few hj (bits_len n) h)
    have NK0 : Hid (∀ n, notK j (n + 1) = (notK j n || (decide (8 - (Sp.many (Sp.bits n) : Int) = Sp.most j + 1) && !Sp.bears j (Sp.bits n)))) := Lib.hid (fun n => rfl)
    have NK1 : Hid (notK j 0 = false) := Lib.hid rfl
    generalize Sp.most j = t at *
    have ht0 : ¬ ((t : Int) < 0) := by omega
    have ht4 : (t : Int) ≤ 4 := by omega
    clear hj m0 m1
    go_wp2_with fail
    refine (specMost j _).mono ?_
    rintro e W3 ⟨rfl, hg⟩
    rw [MY.out]
    have L3 := Lib.hid (L2.out.trans (below_grown hg |>.mono L2.out.size))
    clear hg L2 MY
    go_wp2_with fail
    go_loopw [5, 6] (fun o i wr => ∃ n : Nat, n ≤ 256 ∧ i = .int .i64 n ∧ o = .bool (notK j n) ∧ Below w.heap.size w wr) (fun _ i _ => 256 - (intOf i).toNat)
    case atStart => exact ⟨0, by omega, rfl, by rw [NK1.out], L3.out⟩
    case round =>
      obtain ⟨n, hn, rfl, rfl, hb⟩ := hrel
      have L := Lib.hid hb
      clear hb L3 NK1
      by_cases hlt : n < 256
      · have hlt' : (n : Int) < 256 := by omega
        have NK := Lib.hid (NK0.out n)
        have FN := Lib.hid (FW.out n)
        have BM := Lib.hid (bearsM_yes HJ.out (bits_len n))
        have ml := many_le (Sp.bits n)
        rw [bits_len] at ml
        have SL := Lib.hid (fun w => lkThere n hlt w)
        have BL : Hid ((Sp.bits n).length ≤ 1000) := Lib.hid (by rw [bits_len]; omega)
        generalize Sp.bits n = f at *
        generalize Sp.bears j f = q at *
        generalize notK j n = nt at *
        go_wp2_with fail
        refine (SL.out _).mono ?_
        rintro e w2 ⟨v, rfl, hg, ho⟩
        have G2 := Lib.hid (L.out.trans (below_grown hg |>.mono L.out.size))
        have O2 := Lib.hid ho.bl
        clear hg ho L
        go_wp2_with fail
        refine (lkMany v f _ O2.out BL.out).mono ?_
        rintro e w3 ⟨rfl, hg⟩
        have G3 := Lib.hid (G2.out.trans (below_grown hg |>.mono G2.out.size))
        have O3 := Lib.hid (O2.out.grown hg)
        clear hg G2 O2 BL SL
        generalize Sp.many f = c at *
        go_wp2_with fail
        refine (implBears j v f _ O3.out).mono ?_
        rintro e w4 ⟨rfl, hg⟩
        rw [BM.out]
        have G4 := Lib.hid (G3.out.trans (below_grown hg |>.mono G3.out.size))
        clear hg G3 O3 BM
        cases q with
        | true =>
          have NK' : Hid (notK j (n + 1) = nt) := Lib.hid (by rw [NK.out]; simp)
          clear NK FN
          rcases (by omega : (8 - (c : Int) ≤ (t : Int) ∧ ¬ 8 - (c : Int) = (t : Int) + 1) ∨ (¬ 8 - (c : Int) ≤ (t : Int) ∧ 8 - (c : Int) = (t : Int) + 1) ∨ (¬ 8 - (c : Int) ≤ (t : Int) ∧ ¬ 8 - (c : Int) = (t : Int) + 1)) with ⟨hle, heq⟩ | ⟨hle, heq⟩ | ⟨hle, heq⟩ <;> cases nt
          all_goals
            go_wp2_with fail
            go_roundw
            case rel => exact ⟨n + 1, by omega, by go_num, by rw [NK'.out], G4.out⟩
            case measure => simp [intOf]; omega
        | false =>
          have hle : ¬ (8 - (c : Int) ≤ (t : Int)) := by
            intro h
            have := FN.out (by omega)
            cases this
          by_cases heq : 8 - (c : Int) = (t : Int) + 1
          · have NK' : Hid (notK j (n + 1) = true) := Lib.hid (by rw [NK.out]; simp [heq])
            clear NK FN
            cases nt
            all_goals
              go_wp2_with fail
              go_roundw
              case rel => exact ⟨n + 1, by omega, by go_num, by rw [NK'.out], G4.out⟩
              case measure => simp [intOf]; omega
          · have NK' : Hid (notK j (n + 1) = nt) := Lib.hid (by rw [NK.out]; simp [heq])
            clear NK FN
            cases nt
            all_goals
              go_wp2_with fail
              go_roundw
              case rel => exact ⟨n + 1, by omega, by go_num, by rw [NK'.out], G4.out⟩
              case measure => simp [intOf]; omega
      · obtain rfl : n = 256 := by omega
        rw [NA.out]
        go_wp2_with fail
        go_ret
        exact ⟨rfl, L.out⟩
  · rw [mostM_no k1 k2]
    have MN := Lib.hid (mostM_no k1 k2)
    clear k1 k2
    go_wp2_with fail
    refine (specMost m _).mono ?_
    rintro e W3 ⟨rfl, hg⟩
    rw [MN.out]
    have L3 := Lib.hid (L2.out.trans (below_grown hg |>.mono L2.out.size))
    clear hg L2
    go_wp2_with fail
    refine (specMost m _).mono ?_
    rintro e W4 ⟨rfl, hg⟩
    rw [MN.out]
    have L4 := Lib.hid (L3.out.trans (below_grown hg |>.mono L3.out.size))
    clear hg L3
    go_wp2_with fail
    go_ret
    exact ⟨rfl, L4.out⟩

set_option maxRecDepth 100000 in
theorem lifted (os : Os) (started : os.Started) (H : Type) (enc : TypeId × Value → H) :
    ReturnsInHanded {} Try.checked os 9 .any (Rows.fnMostSpec.pre6 enc Try.prog Try.f9 Rows.fnMostRow.domain false) (Rows.fnMostSpec.post enc Try.prog Try.f9 false true false false) := by
  refine returnsInHanded_of_change (C := Try.checked) own started (by kernel_rfl) Try.func9
    (ChangeSpec.witness6 (enc := enc) (C := Try.checked) false ⟨#[], #[.slice none 0 0], []⟩ 8 (by kernel_rfl) (by kernel_rfl) (by kernel_rfl) (by kernel_rfl)) ?_
  intro W base args ds gs before hval0 hW hcnd _
  have hval : ∀ (j : Nat) t v, Try.f9.params[j]? = some t → args[j]? = some v → Value.okWide Try.prog W .any base t v := hval0
  have hW' := hW
  obtain ⟨p, q, hA0, hV, rfl, hfz, hnd⟩ := hW
  have hA : DataW.TrodAll enc Try.prog W 0 (fun _ => true) true Try.f9.params.toList args.toList ds p := hA0
  rw [Try.params9] at hA hval
  obtain ⟨v0, vs0, d0, ds0, p0, q0, hargs, rfl, rfl, h0, r0⟩ := trodAll_cons hA
  obtain ⟨rfl, rfl, rfl⟩ := trodAll_nil r0
  obtain rfl : args = #[v0] := by cases args; simp_all
  obtain ⟨rfl, rfl⟩ := trodVars_none hV
  obtain ⟨a0, len0, cap0, rfl⟩ := okWide_slice Try.underlying32 (hval 0 32 v0 rfl rfl)
  have k0 := h0
  have lt0 : ∀ x ∈ p0, x.block < W.heap.size := by obtain ⟨m, hm⟩ := k0; exact DataW.trod_lt m _ _ _ hm
  obtain ⟨z0, w0⟩ : ∃ zs, IsRow .u8 W a0 len0 cap0 zs := by
    obtain ⟨fuel, hf⟩ := h0
    rcases open_ints Try.underlying32 Try.underlying5 (by kernel_rfl) hf with ⟨hcs, _⟩ | ⟨x, l, c, zs, hcs, _, hl, hm, hz, _, hcell, hwz⟩
    · simp [Value.cells] at hcs
      obtain ⟨rfl, rfl, rfl⟩ := hcs
      exact ⟨[], .inl ⟨rfl, rfl, rfl, rfl⟩⟩
    · simp [Value.cells] at hcs
      obtain ⟨rfl, rfl, rfl⟩ := hcs
      exact ⟨zs, .inr ⟨_, rfl, hl, hm, by simpa using hz, hcell, hwz⟩⟩
  clear hA0 hval0
  refine (walk a0 len0 cap0 z0 W w0).mono fun e W' ⟨he, bel⟩ => ?_
  subst he
  exact ⟨_, rfl, _, _, _, [], _, [], hW', trodAll_mk1 (shut_bool Try.underlying4 _), (trodAll_cons_mk (Below.trod laidOut (by kernel_rfl) (of_decide_eq_true (by kernel_rfl)) k0 bel lt0) trodAll_mk0), rfl, bel.frame _, fun h => by cases h⟩

theorem over : Rows.fnMostRow.holds Try.pinned (OpenSpec.ofChange Rows.fnMostSpec) :=
  OpenClaim.holds_of_wide_leaving 9 Try.f9 rfl rfl rfl rfl rfl rfl rfl ⟨rfl, rfl, rfl, rfl, rfl⟩ rfl rfl rfl rfl rfl (by kernel_rfl) Try.func9 (by kernel_rfl)
    (of_decide_eq_true (by kernel_rfl)) (by unfold Func.isWrapper; first | (rw [if_pos (by decide +kernel)]; kernel_rfl) | (rw [if_neg (by decide +kernel)]; exact ⟨rfl, rfl⟩))
    (fun os started H enc _ => leaves (lifted os started H enc))

theorem proved : Rows.FnMostSaid := over
#print axioms proved
end Go.Proofs.Ytbpkfcaokbidnab.fnMost
