/-
  From whatever bytes a kind and flags are drawn, CodeBears answers as its model does; by the second kind any four shards are enough, and four may be lost: the law FnWideAny returns true.
  Conditions: none.
-/
import Derived.Test.YtbpkfcaokbidnabRows
import Derived.WalkKit
import Derived.ProofKit
import Derived.OpenShut
import Derived.ShutString
import Derived.ChangeOld
import Derived.Below
import Derived.Test.YtbpkfcaokbidnabFldMath
import Derived.Test.YtbpkfcaokbidnabMem
import Derived.Test.YtbpkfcaokbidnabField
import Derived.Test.YtbpkfcaokbidnabVecMath
import Derived.Test.YtbpkfcaokbidnabSpanMath
import Derived.Test.YtbpkfcaokbidnabSpanList
import Derived.Test.YtbpkfcaokbidnabSpanTidy
import Derived.Test.YtbpkfcaokbidnabSpanMore
import Derived.Test.YtbpkfcaokbidnabSpanBy
import Derived.Test.YtbpkfcaokbidnabSpanWork
import Derived.Test.YtbpkfcaokbidnabSpanElim
import Derived.Test.YtbpkfcaokbidnabInts
import Derived.Test.YtbpkfcaokbidnabTabs
import Derived.Test.YtbpkfcaokbidnabHelp
import Derived.Test.YtbpkfcaokbidnabVec
import Derived.Test.YtbpkfcaokbidnabVec2
import Derived.Test.YtbpkfcaokbidnabVecSpec
import Derived.Test.YtbpkfcaokbidnabSpanSpec
import Derived.Test.YtbpkfcaokbidnabSpanHelp
import Derived.Test.YtbpkfcaokbidnabSpanHelp2
import Derived.Test.YtbpkfcaokbidnabSpanOk
import Derived.Test.YtbpkfcaokbidnabSpanLine
import Derived.Test.YtbpkfcaokbidnabSpanEch
import Derived.Test.YtbpkfcaokbidnabSpanTake
import Derived.Test.YtbpkfcaokbidnabSpanProg
import Derived.Test.YtbpkfcaokbidnabSpanTops
import Derived.Test.YtbpkfcaokbidnabSpanSpec2
import Derived.Test.YtbpkfcaokbidnabSpanSpec3
import Derived.Test.YtbpkfcaokbidnabSpanSpec4
import Derived.Test.YtbpkfcaokbidnabDraw
import Derived.Test.YtbpkfcaokbidnabDrawField
import Derived.Test.YtbpkfcaokbidnabDrawVec
import Derived.Test.YtbpkfcaokbidnabCodeMath
import Derived.Test.YtbpkfcaokbidnabCodeList
import Derived.Test.YtbpkfcaokbidnabCodeWork
import Derived.Test.YtbpkfcaokbidnabFlags
import Derived.Test.YtbpkfcaokbidnabHelpB
import Derived.Test.YtbpkfcaokbidnabAlone
import Derived.Test.YtbpkfcaokbidnabCodeGen
import Derived.Test.YtbpkfcaokbidnabCodeGen2
import Derived.Test.YtbpkfcaokbidnabCodeGen3
import Derived.Test.YtbpkfcaokbidnabCodeSpec
import Derived.Test.YtbpkfcaokbidnabCodeBear
import Derived.Test.YtbpkfcaokbidnabCodeBear2
import Derived.Test.YtbpkfcaokbidnabCodeBear3
import Derived.Test.YtbpkfcaokbidnabCodeSpec2
import Derived.Test.YtbpkfcaokbidnabCodeMost
import Derived.Test.YtbpkfcaokbidnabCodeMost2
import Derived.Test.YtbpkfcaokbidnabCodeSpec3
import Derived.Test.YtbpkfcaokbidnabCodeRows
import Derived.Test.YtbpkfcaokbidnabCodeLaws
import Derived.Test.YtbpkfcaokbidnabDrawCode
import Derived.Test.YtbpkfcaokbidnabDrawThere
namespace Go.Proofs.Ytbpkfcaokbidnab.fnWideAny
open Go.ChangeShapes Go.WideShapes Go.ChangeAt Go.RowKit
open Go.ChangeMaps (open_string shut_string)
set_option linter.unusedVariables false

theorem own : ownKnob Try.prog.godebug = none := by kernel_rfl
theorem laidOut : laidOutB Try.prog = true := by kernel_rfl

/-- WHAT THE WALK IS TOLD OF A SLICE OF INTEGERS THAT CAME IN: it is nil; or it leads to a row of 'cap' cells, the numbers 'zs' (the first 'len' are its elements, the rest its spare room), each fitting its kind. -/
def IsRow (k : IntKind) (w : World) (a : Option Addr) (len cap : Nat) (zs : List Int) : Prop :=
  (a = none ∧ len = 0 ∧ cap = 0 ∧ zs = []) ∨
  ∃ x, a = some x ∧ len ≤ cap ∧ cap ≤ maxLen ∧ zs.length = cap ∧ (∀ i, i < zs.length → w.cell? (x.add i) = some (.int k (zs.getD i 0))) ∧ ∀ n ∈ zs, (Lit.int k n).wf = true

set_option maxHeartbeats 1000000 in
set_option maxRecDepth 20000 in
theorem walk (a0 : Option Addr) (len0 cap0 : Nat) (z0 : List Int) (w : World) (w0 : IsRow .u8 w a0 len0 cap0 z0) :
    Calls Try.prog 8 #[.slice a0 len0 cap0] w fun e w' => e = .returned (.bool true) ∧ Below w.heap.size w w' := by
  have hc : Code w a0 len0 cap0 := code_of w0
  have hm : cap0 ≤ maxLen := hc.2.1
  have hl : len0 ≤ cap0 := hc.1
  unfold maxLen at hm
  have C := Lib.hid hc
  clear hc w0
  by_cases hbig : (len0 : Int) > 1048576
  · go_enter Try.func8, Try.ntmps8
    go_wp2_with fail
    go_ret
    exact ⟨rfl, Below.refl _ _⟩
  go_enter Try.func8, Try.ntmps8
  go_wp2_with fail
  refine (drawCodeBears a0 len0 cap0 _ C.out).mono ?_
  rintro e W1 ⟨m, v, f, hm3, rfl, hf8, hbl, hb⟩
  have L1 := Lib.hid hb
  have B1 := Lib.hid hbl
  have H8 := Lib.hid hf8
  clear hb hbl hf8 C
  obtain ⟨av, cv, ev, c1, c2, _⟩ := B1.out
  subst ev
  obtain ⟨n8, hn8⟩ : ∃ n, f.length = n := ⟨_, rfl⟩
  have N8 := Lib.hid hn8
  rw [hn8] at B1
  rw [hn8]
  clear hn8 c1 c2
  go_wp2_with fail
  refine (implBears m _ f _ B1.out).mono ?_
  rintro e W2 ⟨rfl, hg⟩
  have L2 := Lib.hid (L1.out.trans (below_grown hg |>.mono L1.out.size))
  have B2 := Lib.hid (B1.out.grown hg)
  clear hg L1 B1
  generalize hq : bearsM m f = q at *
  have Q := Lib.hid hq
  clear hq
  go_wp2_with fail
  refine (specBears m _ f _ B2.out).mono ?_
  rintro e W3 ⟨rfl, hg⟩
  rw [Q.out]
  have L3 := Lib.hid (L2.out.trans (below_grown hg |>.mono L2.out.size))
  have B3 := Lib.hid (B2.out.grown hg)
  clear hg L2 B2
  by_cases hyes : f.length = 8 ∧ m = 2
  · obtain ⟨h8, rfl⟩ := hyes
    obtain rfl : n8 = 8 := by rw [← N8.out]; exact h8
    have E : Hid (q = decide (4 ≤ Sp.many f)) := Lib.hid (by rw [← Q.out, bearsM_yes (k := 2) (.inr rfl) h8]; exact Sp.wide_any h8)
    have F1 : Hid (f.length ≤ 1000) := Lib.hid (by omega)
    clear h8 Q H8
    go_wp2_with fail
    refine (lkMany _ f _ B3.out F1.out).mono ?_
    rintro e W4 ⟨rfl, hg⟩
    have L4 := Lib.hid (L3.out.trans (below_grown hg |>.mono L3.out.size))
    clear hg L3 B3 F1
    have E' : (q == decide ((Sp.many f : Int) ≥ 4)) = true := by
      rw [E.out, beq_iff_eq]
      by_cases h : 4 ≤ Sp.many f
      · rw [decide_eq_true h, decide_eq_true (by omega)]
      · rw [decide_eq_false h, decide_eq_false (by omega)]
    clear E
    generalize Sp.many f = n at *
    go_wp2_with fail
    refine (implMost 2 _).mono ?_
    rintro e W5 ⟨rfl, hg⟩
    have L5 := Lib.hid (L4.out.trans (below_grown hg |>.mono L4.out.size))
    clear hg L4
    have M2 : mostM 2 = 4 := rfl
    rw [M2]
    go_wp2_with fail
    go_ret
    exact ⟨rfl, L5.out⟩
  · have HN := Lib.hid hyes
    clear hyes
    by_cases h8 : f.length = 8
    · have h2 : ¬ (m : Int) = 2 := by have := HN.out; omega
      have e2 : ((m : Int) == 2) = false := by rw [beq_eq_false_iff_ne]; exact h2
      obtain rfl : n8 = 8 := by rw [← N8.out]; exact h8
      clear h8 H8 HN
      go_wp2_with fail
      refine (specBears m _ f _ B3.out).mono ?_
      rintro e W4 ⟨rfl, hg⟩
      rw [Q.out]
      have L4 := Lib.hid (L3.out.trans (below_grown hg |>.mono L3.out.size))
      clear hg L3 B3
      go_wp2_with fail
      go_ret
      exact ⟨rfl, L4.out⟩
    · have h7 : f.length = 7 := by have := H8.out; omega
      obtain rfl : n8 = 7 := by rw [← N8.out]; exact h7
      clear h8 H8 HN h7
      go_wp2_with fail
      refine (specBears m _ f _ B3.out).mono ?_
      rintro e W4 ⟨rfl, hg⟩
      rw [Q.out]
      have L4 := Lib.hid (L3.out.trans (below_grown hg |>.mono L3.out.size))
      clear hg L3 B3
      go_wp2_with fail
      go_ret
      exact ⟨rfl, L4.out⟩

set_option maxRecDepth 100000 in
theorem lifted (os : Os) (started : os.Started) (H : Type) (enc : TypeId × Value → H) :
    ReturnsInHanded {} Try.checked os 8 .any (Rows.fnWideAnySpec.pre6 enc Try.prog Try.f8 Rows.fnWideAnyRow.domain false) (Rows.fnWideAnySpec.post enc Try.prog Try.f8 false true false false) := by
  refine returnsInHanded_of_change (C := Try.checked) own started (by kernel_rfl) Try.func8
    (ChangeSpec.witness6 (enc := enc) (C := Try.checked) false ⟨#[], #[.slice none 0 0], []⟩ 8 (by kernel_rfl) (by kernel_rfl) (by kernel_rfl) (by kernel_rfl)) ?_
  intro W base args ds gs before hval0 hW hcnd _
  have hval : ∀ (j : Nat) t v, Try.f8.params[j]? = some t → args[j]? = some v → Value.okWide Try.prog W .any base t v := hval0
  have hW' := hW
  obtain ⟨p, q, hA0, hV, rfl, hfz, hnd⟩ := hW
  have hA : DataW.TrodAll enc Try.prog W 0 (fun _ => true) true Try.f8.params.toList args.toList ds p := hA0
  rw [Try.params8] at hA hval
  obtain ⟨v0, vs0, d0, ds0, p0, q0, hargs, rfl, rfl, h0, r0⟩ := trodAll_cons hA
  obtain ⟨rfl, rfl, rfl⟩ := trodAll_nil r0
  obtain rfl : args = #[v0] := by cases args; simp_all
  obtain ⟨rfl, rfl⟩ := trodVars_none hV
  obtain ⟨a0, len0, cap0, rfl⟩ := okWide_slice Try.underlying32 (hval 0 32 v0 rfl rfl)
  have k0 := h0
  have lt0 : ∀ x ∈ p0, x.block < W.heap.size := by obtain ⟨m, hm⟩ := k0; exact DataW.trod_lt m _ _ _ hm
  obtain ⟨z0, w0⟩ : ∃ zs, IsRow .u8 W a0 len0 cap0 zs := by
    obtain ⟨fuel, hf⟩ := h0
    rcases open_ints Try.underlying32 Try.underlying5 (by kernel_rfl) hf with ⟨hcs, _⟩ | ⟨x, l, c, zs, hcs, _, hl, hm, hz, _, hcell, hwz⟩
    · simp [Value.cells] at hcs
      obtain ⟨rfl, rfl, rfl⟩ := hcs
      exact ⟨[], .inl ⟨rfl, rfl, rfl, rfl⟩⟩
    · simp [Value.cells] at hcs
      obtain ⟨rfl, rfl, rfl⟩ := hcs
      exact ⟨zs, .inr ⟨_, rfl, hl, hm, by simpa using hz, hcell, hwz⟩⟩
  clear hA0 hval0
  refine (walk a0 len0 cap0 z0 W w0).mono fun e W' ⟨he, bel⟩ => ?_
  subst he
  exact ⟨_, rfl, _, _, _, [], _, [], hW', trodAll_mk1 (shut_bool Try.underlying4 _), (trodAll_cons_mk (Below.trod laidOut (by kernel_rfl) (of_decide_eq_true (by kernel_rfl)) k0 bel lt0) trodAll_mk0), rfl, bel.frame _, fun h => by cases h⟩

theorem over : Rows.fnWideAnyRow.holds Try.pinned (OpenSpec.ofChange Rows.fnWideAnySpec) :=
  OpenClaim.holds_of_wide_leaving 8 Try.f8 rfl rfl rfl rfl rfl rfl rfl ⟨rfl, rfl, rfl, rfl, rfl⟩ rfl rfl rfl rfl rfl (by kernel_rfl) Try.func8 (by kernel_rfl)
    (of_decide_eq_true (by kernel_rfl)) (by unfold Func.isWrapper; first | (rw [if_pos (by decide +kernel)]; kernel_rfl) | (rw [if_neg (by decide +kernel)]; exact ⟨rfl, rfl⟩))
    (fun os started H enc _ => leaves (lifted os started H enc))

theorem proved : Rows.FnWideAnySaid := over
#print axioms proved
end Go.Proofs.Ytbpkfcaokbidnab.fnWideAny
