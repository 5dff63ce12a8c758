/-
  From whatever bytes a kind and a shard are drawn, CodeRow answers as its model does, succeeds for exactly the shards of a code, its row is a vector that is not all 0, and the first rows of the first kind are the unit vectors: the law FnCodeRow returns true.
  Conditions: none.
-/
import Derived.Test.YtbpkfcaokbidnabRows
import Derived.WalkKit
import Derived.ProofKit
import Derived.OpenShut
import Derived.ShutString
import Derived.ChangeOld
import Derived.Below
import Derived.Test.YtbpkfcaokbidnabFldMath
import Derived.Test.YtbpkfcaokbidnabMem
import Derived.Test.YtbpkfcaokbidnabField
import Derived.Test.YtbpkfcaokbidnabVecMath
import Derived.Test.YtbpkfcaokbidnabSpanMath
import Derived.Test.YtbpkfcaokbidnabSpanList
import Derived.Test.YtbpkfcaokbidnabSpanTidy
import Derived.Test.YtbpkfcaokbidnabSpanMore
import Derived.Test.YtbpkfcaokbidnabSpanBy
import Derived.Test.YtbpkfcaokbidnabSpanWork
import Derived.Test.YtbpkfcaokbidnabSpanElim
import Derived.Test.YtbpkfcaokbidnabInts
import Derived.Test.YtbpkfcaokbidnabHelp
import Derived.Test.YtbpkfcaokbidnabVec
import Derived.Test.YtbpkfcaokbidnabVec2
import Derived.Test.YtbpkfcaokbidnabVecSpec
import Derived.Test.YtbpkfcaokbidnabDraw
import Derived.Test.YtbpkfcaokbidnabDrawField
import Derived.Test.YtbpkfcaokbidnabDrawVec
import Derived.Test.YtbpkfcaokbidnabCodeMath
import Derived.Test.YtbpkfcaokbidnabCodeList
import Derived.Test.YtbpkfcaokbidnabCodeWork
import Derived.Test.YtbpkfcaokbidnabCodeGen
import Derived.Test.YtbpkfcaokbidnabCodeGen2
import Derived.Test.YtbpkfcaokbidnabCodeGen3
import Derived.Test.YtbpkfcaokbidnabCodeSpec
import Derived.Test.YtbpkfcaokbidnabDrawCode
namespace Go.Proofs.Ytbpkfcaokbidnab.fnCodeRow
open Go.ChangeShapes Go.WideShapes Go.ChangeAt Go.RowKit
open Go.ChangeMaps (open_string shut_string)
set_option linter.unusedVariables false

theorem own : ownKnob Try.prog.godebug = none := by kernel_rfl
theorem laidOut : laidOutB Try.prog = true := by kernel_rfl

/-- WHAT THE WALK IS TOLD OF A SLICE OF INTEGERS THAT CAME IN: it is nil; or it leads to a row of 'cap' cells, the numbers 'zs' (the first 'len' are its elements, the rest its spare room), each fitting its kind. -/
def IsRow (k : IntKind) (w : World) (a : Option Addr) (len cap : Nat) (zs : List Int) : Prop :=
  (a = none ∧ len = 0 ∧ cap = 0 ∧ zs = []) ∨
  ∃ x, a = some x ∧ len ≤ cap ∧ cap ≤ maxLen ∧ zs.length = cap ∧ (∀ i, i < zs.length → w.cell? (x.add i) = some (.int k (zs.getD i 0))) ∧ ∀ n ∈ zs, (Lit.int k n).wf = true

theorem lead_row : ∀ k : Nat, k = 1 ∨ k = 2 → ∀ n : Nat, n < 8 → 0 ≤ Vec.lead (Sp.crow k n) := by
  have h1 : ∀ n : Nat, n < 8 → 0 ≤ Vec.lead (Sp.crow 1 n) := by decide +kernel
  have h2 : ∀ n : Nat, n < 8 → 0 ≤ Vec.lead (Sp.crow 2 n) := by decide +kernel
  rintro k (rfl | rfl)
  · exact h1
  · exact h2
theorem unit_row : ∀ n : Nat, n < 4 → Sp.crow 1 n = Vec.unit n := by decide +kernel

set_option maxHeartbeats 1000000 in
set_option maxRecDepth 20000 in
theorem walk (a0 : Option Addr) (len0 cap0 : Nat) (z0 : List Int) (w : World) (w0 : IsRow .u8 w a0 len0 cap0 z0) :
    Calls Try.prog 6 #[.slice a0 len0 cap0] w fun e w' => e = .returned (.bool true) ∧ Below w.heap.size w w' := by
  have hc : Code w a0 len0 cap0 := code_of w0
  have hm : cap0 ≤ maxLen := hc.2.1
  have hl : len0 ≤ cap0 := hc.1
  unfold maxLen at hm
  have C := Lib.hid hc
  clear hc w0
  by_cases hbig : (len0 : Int) > 1048576
  · go_enter Try.func6, Try.ntmps6
    go_wp2_with fail
    go_ret
    exact ⟨rfl, Below.refl _ _⟩
  have L0 := Lib.hid (Seen.start w)
  go_enter Try.func6, Try.ntmps6
  go_wp2_with fail
  refine (drawCodeRow a0 len0 cap0 _ C.out).mono ?_
  rintro e W1 ⟨m, n, hm3, n0, n1, rfl, hb⟩
  have L1 := Lib.hid (L0.out.still (grown_below hb (Nat.le_refl _) none))
  clear hb L0
  by_cases hk : m = 1 ∨ m = 2
  · by_cases hin : 0 ≤ n ∧ n < 8
    · obtain ⟨i, rfl⟩ : ∃ i : Nat, n = (i : Int) := ⟨n.toNat, by omega⟩
      have hi : i < 8 := by omega
      have RK := Lib.hid (Sp.row_ok.2 (Sp.crow_row hk hi))
      have LR := lead_row m hk i hi
      have HK := Lib.hid hk
      by_cases h4 : i < 4
      · have hle : (i : Int) < 4 := by omega
        rcases hk with rfl | rfl
        · have U := Lib.hid (unit_row i h4)
          go_wp2_with fail
          refine (specRowYes (.inl rfl) hi _).mono ?_
          rintro e W2 ⟨t, rfl, hg, ho⟩
          have L2 := Lib.hid (L1.out.new hg ho)
          clear hg ho L1
          go_wp2_with fail
          refine (codeRowYes (.inl rfl) hi _).mono ?_
          rintro e W3 ⟨u, rfl, hg, ho⟩
          have L3 := Lib.hid (L2.out.new hg ho)
          clear hg ho L2
          go_wp2_with fail
          refine (lkSame u t (Sp.crow 1 i) _ (L3.out.sl (u, Sp.crow 1 i) (by simp)) (L3.out.sl (t, Sp.crow 1 i) (by simp))).mono ?_
          rintro e W4 ⟨rfl, hg⟩
          have L4 := Lib.hid (L3.out.still hg)
          clear hg L3
          go_wp2_with fail
          refine (implUnitYes (i : Int) _ (by omega) hle).mono ?_
          rintro e W5 ⟨v, rfl, hg, ho⟩
          have L5 := Lib.hid (L4.out.new hg ho)
          clear hg ho L4
          go_wp2_with fail
          refine (implVecOk u (Sp.crow 1 i) _ (L5.out.sl (u, Sp.crow 1 i) (by simp))).mono ?_
          rintro e w' ⟨rfl, rfl⟩
          rw [RK.out]
          go_wp2_with fail
          refine (implVecLead u (Sp.crow 1 i) _ (L5.out.sl (u, Sp.crow 1 i) (by simp))).mono ?_
          rintro e W6 ⟨rfl, hg⟩
          have L6 := Lib.hid (L5.out.still hg)
          clear hg L5
          go_wp2_with fail
          refine (lkSame v u (Sp.crow 1 i) _ (by rw [U.out]; exact (L6.out.sl (v, Vec.unit (i : Int)) (by simp))) (L6.out.sl (u, Sp.crow 1 i) (by simp))).mono ?_
          rintro e W7 ⟨rfl, hg⟩
          have L7 := Lib.hid (L6.out.still hg)
          clear hg L6
          go_wp2_with fail
          go_ret
          exact ⟨rfl, L7.out.below⟩
        · skip
          go_wp2_with fail
          refine (specRowYes (.inr rfl) hi _).mono ?_
          rintro e W2 ⟨t, rfl, hg, ho⟩
          have L2 := Lib.hid (L1.out.new hg ho)
          clear hg ho L1
          go_wp2_with fail
          refine (codeRowYes (.inr rfl) hi _).mono ?_
          rintro e W3 ⟨u, rfl, hg, ho⟩
          have L3 := Lib.hid (L2.out.new hg ho)
          clear hg ho L2
          go_wp2_with fail
          refine (lkSame u t (Sp.crow 2 i) _ (L3.out.sl (u, Sp.crow 2 i) (by simp)) (L3.out.sl (t, Sp.crow 2 i) (by simp))).mono ?_
          rintro e W4 ⟨rfl, hg⟩
          have L4 := Lib.hid (L3.out.still hg)
          clear hg L3
          go_wp2_with fail
          refine (implUnitYes (i : Int) _ (by omega) hle).mono ?_
          rintro e W5 ⟨v, rfl, hg, ho⟩
          have L5 := Lib.hid (L4.out.new hg ho)
          clear hg ho L4
          go_wp2_with fail
          refine (implVecOk u (Sp.crow 2 i) _ (L5.out.sl (u, Sp.crow 2 i) (by simp))).mono ?_
          rintro e w' ⟨rfl, rfl⟩
          rw [RK.out]
          go_wp2_with fail
          refine (implVecLead u (Sp.crow 2 i) _ (L5.out.sl (u, Sp.crow 2 i) (by simp))).mono ?_
          rintro e W6 ⟨rfl, hg⟩
          have L6 := Lib.hid (L5.out.still hg)
          clear hg L5
          go_wp2_with fail
          go_ret
          exact ⟨rfl, L6.out.below⟩
      · have hno : ¬ (0 ≤ (i : Int) ∧ (i : Int) < 4) := by omega
        have NO := Lib.hid hno
        clear hno
        rcases hk with rfl | rfl
        · skip
          go_wp2_with fail
          refine (specRowYes (.inl rfl) hi _).mono ?_
          rintro e W2 ⟨t, rfl, hg, ho⟩
          have L2 := Lib.hid (L1.out.new hg ho)
          clear hg ho L1
          go_wp2_with fail
          refine (codeRowYes (.inl rfl) hi _).mono ?_
          rintro e W3 ⟨u, rfl, hg, ho⟩
          have L3 := Lib.hid (L2.out.new hg ho)
          clear hg ho L2
          go_wp2_with fail
          refine (lkSame u t (Sp.crow 1 i) _ (L3.out.sl (u, Sp.crow 1 i) (by simp)) (L3.out.sl (t, Sp.crow 1 i) (by simp))).mono ?_
          rintro e W4 ⟨rfl, hg⟩
          have L4 := Lib.hid (L3.out.still hg)
          clear hg L3
          go_wp2_with fail
          refine (implUnitNo (i : Int) _ NO.out).mono ?_
          rintro e W5 ⟨v, rfl, hg, ho⟩
          have L5 := Lib.hid (L4.out.new hg ho)
          clear hg ho L4
          go_wp2_with fail
          refine (implVecOk u (Sp.crow 1 i) _ (L5.out.sl (u, Sp.crow 1 i) (by simp))).mono ?_
          rintro e w' ⟨rfl, rfl⟩
          rw [RK.out]
          go_wp2_with fail
          refine (implVecLead u (Sp.crow 1 i) _ (L5.out.sl (u, Sp.crow 1 i) (by simp))).mono ?_
          rintro e W6 ⟨rfl, hg⟩
          have L6 := Lib.hid (L5.out.still hg)
          clear hg L5
          go_wp2_with fail
          go_ret
          exact ⟨rfl, L6.out.below⟩
        · skip
          go_wp2_with fail
          refine (specRowYes (.inr rfl) hi _).mono ?_
          rintro e W2 ⟨t, rfl, hg, ho⟩
          have L2 := Lib.hid (L1.out.new hg ho)
          clear hg ho L1
          go_wp2_with fail
          refine (codeRowYes (.inr rfl) hi _).mono ?_
          rintro e W3 ⟨u, rfl, hg, ho⟩
          have L3 := Lib.hid (L2.out.new hg ho)
          clear hg ho L2
          go_wp2_with fail
          refine (lkSame u t (Sp.crow 2 i) _ (L3.out.sl (u, Sp.crow 2 i) (by simp)) (L3.out.sl (t, Sp.crow 2 i) (by simp))).mono ?_
          rintro e W4 ⟨rfl, hg⟩
          have L4 := Lib.hid (L3.out.still hg)
          clear hg L3
          go_wp2_with fail
          refine (implUnitNo (i : Int) _ NO.out).mono ?_
          rintro e W5 ⟨v, rfl, hg, ho⟩
          have L5 := Lib.hid (L4.out.new hg ho)
          clear hg ho L4
          go_wp2_with fail
          refine (implVecOk u (Sp.crow 2 i) _ (L5.out.sl (u, Sp.crow 2 i) (by simp))).mono ?_
          rintro e w' ⟨rfl, rfl⟩
          rw [RK.out]
          go_wp2_with fail
          refine (implVecLead u (Sp.crow 2 i) _ (L5.out.sl (u, Sp.crow 2 i) (by simp))).mono ?_
          rintro e W6 ⟨rfl, hg⟩
          have L6 := Lib.hid (L5.out.still hg)
          clear hg L5
          go_wp2_with fail
          go_ret
          exact ⟨rfl, L6.out.below⟩
    · have HK := Lib.hid hk
      have ho : n < 0 ∨ 8 ≤ n := by omega
      have HO := Lib.hid ho
      clear hin
      rcases ho with ho | ho
      · have hge : decide (n ≥ 0) = false := by simp; omega
        rcases hk with rfl | rfl
        · skip
          go_wp2_with fail
          refine (specRowOut (k := 1) (.inl rfl) HO.out _).mono ?_
          rintro e W2 ⟨t, rfl, hg, ho⟩
          have L2 := Lib.hid (L1.out.new hg ho)
          clear hg ho L1
          go_wp2_with fail
          refine (codeRowOut (k := 1) (.inl rfl) HO.out _).mono ?_
          rintro e W3 ⟨u, rfl, hg, ho⟩
          have L3 := Lib.hid (L2.out.new hg ho)
          clear hg ho L2
          go_wp2_with fail
          refine (lkSame u t [] _ (L3.out.sl (u, []) (by simp)) (L3.out.sl (t, []) (by simp))).mono ?_
          rintro e W4 ⟨rfl, hg⟩
          have L4 := Lib.hid (L3.out.still hg)
          clear hg L3
          go_wp2_with fail
          refine (lkSame u t [] _ (L4.out.sl (u, []) (by simp)) (L4.out.sl (t, []) (by simp))).mono ?_
          rintro e W5 ⟨rfl, hg⟩
          have L5 := Lib.hid (L4.out.still hg)
          clear hg L4
          go_wp2_with fail
          go_ret
          exact ⟨rfl, L5.out.below⟩
        · skip
          go_wp2_with fail
          refine (specRowOut (k := 2) (.inr rfl) HO.out _).mono ?_
          rintro e W2 ⟨t, rfl, hg, ho⟩
          have L2 := Lib.hid (L1.out.new hg ho)
          clear hg ho L1
          go_wp2_with fail
          refine (codeRowOut (k := 2) (.inr rfl) HO.out _).mono ?_
          rintro e W3 ⟨u, rfl, hg, ho⟩
          have L3 := Lib.hid (L2.out.new hg ho)
          clear hg ho L2
          go_wp2_with fail
          refine (lkSame u t [] _ (L3.out.sl (u, []) (by simp)) (L3.out.sl (t, []) (by simp))).mono ?_
          rintro e W4 ⟨rfl, hg⟩
          have L4 := Lib.hid (L3.out.still hg)
          clear hg L3
          go_wp2_with fail
          refine (lkSame u t [] _ (L4.out.sl (u, []) (by simp)) (L4.out.sl (t, []) (by simp))).mono ?_
          rintro e W5 ⟨rfl, hg⟩
          have L5 := Lib.hid (L4.out.still hg)
          clear hg L4
          go_wp2_with fail
          go_ret
          exact ⟨rfl, L5.out.below⟩
      · have hge : decide (n < 8) = false := by simp; omega
        have hz : 0 ≤ n := by omega
        rcases hk with rfl | rfl
        · skip
          go_wp2_with fail
          refine (specRowOut (k := 1) (.inl rfl) HO.out _).mono ?_
          rintro e W2 ⟨t, rfl, hg, ho⟩
          have L2 := Lib.hid (L1.out.new hg ho)
          clear hg ho L1
          go_wp2_with fail
          refine (codeRowOut (k := 1) (.inl rfl) HO.out _).mono ?_
          rintro e W3 ⟨u, rfl, hg, ho⟩
          have L3 := Lib.hid (L2.out.new hg ho)
          clear hg ho L2
          go_wp2_with fail
          refine (lkSame u t [] _ (L3.out.sl (u, []) (by simp)) (L3.out.sl (t, []) (by simp))).mono ?_
          rintro e W4 ⟨rfl, hg⟩
          have L4 := Lib.hid (L3.out.still hg)
          clear hg L3
          go_wp2_with fail
          refine (lkSame u t [] _ (L4.out.sl (u, []) (by simp)) (L4.out.sl (t, []) (by simp))).mono ?_
          rintro e W5 ⟨rfl, hg⟩
          have L5 := Lib.hid (L4.out.still hg)
          clear hg L4
          go_wp2_with fail
          go_ret
          exact ⟨rfl, L5.out.below⟩
        · skip
          go_wp2_with fail
          refine (specRowOut (k := 2) (.inr rfl) HO.out _).mono ?_
          rintro e W2 ⟨t, rfl, hg, ho⟩
          have L2 := Lib.hid (L1.out.new hg ho)
          clear hg ho L1
          go_wp2_with fail
          refine (codeRowOut (k := 2) (.inr rfl) HO.out _).mono ?_
          rintro e W3 ⟨u, rfl, hg, ho⟩
          have L3 := Lib.hid (L2.out.new hg ho)
          clear hg ho L2
          go_wp2_with fail
          refine (lkSame u t [] _ (L3.out.sl (u, []) (by simp)) (L3.out.sl (t, []) (by simp))).mono ?_
          rintro e W4 ⟨rfl, hg⟩
          have L4 := Lib.hid (L3.out.still hg)
          clear hg L3
          go_wp2_with fail
          refine (lkSame u t [] _ (L4.out.sl (u, []) (by simp)) (L4.out.sl (t, []) (by simp))).mono ?_
          rintro e W5 ⟨rfl, hg⟩
          have L5 := Lib.hid (L4.out.still hg)
          clear hg L4
          go_wp2_with fail
          go_ret
          exact ⟨rfl, L5.out.below⟩
  · have h1 : (m : Int) ≠ 1 := by omega
    have h2 : (m : Int) ≠ 2 := by omega
    have H1 := Lib.hid h1
    have H2 := Lib.hid h2
    have e1 : ((m : Int) == 1) = false := by rw [beq_eq_false_iff_ne]; exact h1
    have e2 : ((m : Int) == 2) = false := by rw [beq_eq_false_iff_ne]; exact h2
    clear hk h1 h2
    go_wp2_with fail
    refine (specRowNo H1.out H2.out n _).mono ?_
    rintro e W2 ⟨t, rfl, hg, ho⟩
    have L2 := Lib.hid (L1.out.new hg ho)
    clear hg ho L1
    go_wp2_with fail
    refine (codeRowNo H1.out H2.out n _).mono ?_
    rintro e W3 ⟨u, rfl, hg, ho⟩
    have L3 := Lib.hid (L2.out.new hg ho)
    clear hg ho L2
    go_wp2_with fail
    refine (lkSame u t [] _ (L3.out.sl (u, []) (by simp)) (L3.out.sl (t, []) (by simp))).mono ?_
    rintro e W4 ⟨rfl, hg⟩
    have L4 := Lib.hid (L3.out.still hg)
    clear hg L3
    go_wp2_with fail
    refine (lkSame u t [] _ (L4.out.sl (u, []) (by simp)) (L4.out.sl (t, []) (by simp))).mono ?_
    rintro e W5 ⟨rfl, hg⟩
    have L5 := Lib.hid (L4.out.still hg)
    clear hg L4
    go_wp2_with fail
    go_ret
    exact ⟨rfl, L5.out.below⟩

set_option maxRecDepth 100000 in
theorem lifted (os : Os) (started : os.Started) (H : Type) (enc : TypeId × Value → H) :
    ReturnsInHanded {} Try.checked os 6 .any (Rows.fnCodeRowSpec.pre6 enc Try.prog Try.f6 Rows.fnCodeRowRow.domain false) (Rows.fnCodeRowSpec.post enc Try.prog Try.f6 false true false false) := by
  refine returnsInHanded_of_change (C := Try.checked) own started (by kernel_rfl) Try.func6
    (ChangeSpec.witness6 (enc := enc) (C := Try.checked) false ⟨#[], #[.slice none 0 0], []⟩ 8 (by kernel_rfl) (by kernel_rfl) (by kernel_rfl) (by kernel_rfl)) ?_
  intro W base args ds gs before hval0 hW hcnd _
  have hval : ∀ (j : Nat) t v, Try.f6.params[j]? = some t → args[j]? = some v → Value.okWide Try.prog W .any base t v := hval0
  have hW' := hW
  obtain ⟨p, q, hA0, hV, rfl, hfz, hnd⟩ := hW
  have hA : DataW.TrodAll enc Try.prog W 0 (fun _ => true) true Try.f6.params.toList args.toList ds p := hA0
  rw [Try.params6] at hA hval
  obtain ⟨v0, vs0, d0, ds0, p0, q0, hargs, rfl, rfl, h0, r0⟩ := trodAll_cons hA
  obtain ⟨rfl, rfl, rfl⟩ := trodAll_nil r0
  obtain rfl : args = #[v0] := by cases args; simp_all
  obtain ⟨rfl, rfl⟩ := trodVars_none hV
  obtain ⟨a0, len0, cap0, rfl⟩ := okWide_slice Try.underlying32 (hval 0 32 v0 rfl rfl)
  have k0 := h0
  have lt0 : ∀ x ∈ p0, x.block < W.heap.size := by obtain ⟨m, hm⟩ := k0; exact DataW.trod_lt m _ _ _ hm
  obtain ⟨z0, w0⟩ : ∃ zs, IsRow .u8 W a0 len0 cap0 zs := by
    obtain ⟨fuel, hf⟩ := h0
    rcases open_ints Try.underlying32 Try.underlying5 (by kernel_rfl) hf with ⟨hcs, _⟩ | ⟨x, l, c, zs, hcs, _, hl, hm, hz, _, hcell, hwz⟩
    · simp [Value.cells] at hcs
      obtain ⟨rfl, rfl, rfl⟩ := hcs
      exact ⟨[], .inl ⟨rfl, rfl, rfl, rfl⟩⟩
    · simp [Value.cells] at hcs
      obtain ⟨rfl, rfl, rfl⟩ := hcs
      exact ⟨zs, .inr ⟨_, rfl, hl, hm, by simpa using hz, hcell, hwz⟩⟩
  clear hA0 hval0
  refine (walk a0 len0 cap0 z0 W w0).mono fun e W' ⟨he, bel⟩ => ?_
  subst he
  exact ⟨_, rfl, _, _, _, [], _, [], hW', trodAll_mk1 (shut_bool Try.underlying4 _), (trodAll_cons_mk (Below.trod laidOut (by kernel_rfl) (of_decide_eq_true (by kernel_rfl)) k0 bel lt0) trodAll_mk0), rfl, bel.frame _, fun h => by cases h⟩

theorem over : Rows.fnCodeRowRow.holds Try.pinned (OpenSpec.ofChange Rows.fnCodeRowSpec) :=
  OpenClaim.holds_of_wide 6 Try.f6 rfl rfl rfl rfl rfl rfl rfl ⟨rfl, rfl, rfl, rfl, rfl⟩ rfl rfl rfl rfl rfl (by kernel_rfl) Try.func6 (by kernel_rfl)
    (of_decide_eq_true (by kernel_rfl)) (by unfold Func.isWrapper; first | (rw [if_pos (by decide +kernel)]; kernel_rfl) | (rw [if_neg (by decide +kernel)]; exact ⟨rfl, rfl⟩))
    (fun os started H enc _ => lifted os started H enc)

theorem proved : Rows.FnCodeRowSaid := over
#print axioms proved
end Go.Proofs.Ytbpkfcaokbidnab.fnCodeRow
