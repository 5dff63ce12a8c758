/-
  From whatever bytes a row is drawn, VecLead answers as its model does, is the first position with a nonzero element and -1 without one, and is the same of the row scaled by a nonzero element: the law FnVecLead returns true.
  Conditions: none.
-/
import Derived.Test.YtdkdkmebiofofaaRows
import Derived.WalkKit
import Derived.ProofKit
import Derived.OpenShut
import Derived.ShutString
import Derived.ChangeOld
import Derived.Below
import Derived.Test.YtdkdkmebiofofaaFldMath
import Derived.Test.YtdkdkmebiofofaaMem
import Derived.Test.YtdkdkmebiofofaaField
import Derived.Test.YtdkdkmebiofofaaVecMath
import Derived.Test.YtdkdkmebiofofaaInts
import Derived.Test.YtdkdkmebiofofaaHelp
import Derived.Test.YtdkdkmebiofofaaVec
import Derived.Test.YtdkdkmebiofofaaVec2
import Derived.Test.YtdkdkmebiofofaaVecSpec
import Derived.Test.YtdkdkmebiofofaaDraw
import Derived.Test.YtdkdkmebiofofaaDrawField
import Derived.Test.YtdkdkmebiofofaaDrawVec
namespace Go.Proofs.Ytdkdkmebiofofaa.fnVecLead
open Go.ChangeShapes Go.WideShapes Go.ChangeAt Go.RowKit
open Go.ChangeMaps (open_string shut_string)
set_option linter.unusedVariables false

theorem own : ownKnob Try.prog.godebug = none := by kernel_rfl
theorem laidOut : laidOutB Try.prog = true := by kernel_rfl

/-- WHAT THE WALK IS TOLD OF A SLICE OF INTEGERS THAT CAME IN: it is nil; or it leads to a row of 'cap' cells, the numbers 'zs' (the first 'len' are its elements, the rest its spare room), each fitting its kind. -/
def IsRow (k : IntKind) (w : World) (a : Option Addr) (len cap : Nat) (zs : List Int) : Prop :=
  (a = none ∧ len = 0 ∧ cap = 0 ∧ zs = []) ∨
  ∃ x, a = some x ∧ len ≤ cap ∧ cap ≤ maxLen ∧ zs.length = cap ∧ (∀ i, i < zs.length → w.cell? (x.add i) = some (.int k (zs.getD i 0))) ∧ ∀ n ∈ zs, (Lit.int k n).wf = true

theorem walk (a0 : Option Addr) (len0 cap0 : Nat) (z0 : List Int) (a1 : Option Addr) (len1 cap1 : Nat) (z1 : List Int) (w : World) (w0 : IsRow .u8 w a0 len0 cap0 z0) (w1 : IsRow .u8 w a1 len1 cap1 z1) :
    Calls Try.prog 7 #[.slice a0 len0 cap0, .slice a1 len1 cap1] w fun e w' => e = .returned (.bool true) ∧ Below w.heap.size w w' := by
  have hc : Code w a0 len0 cap0 := code_of w0
  have hm : cap0 ≤ maxLen := hc.2.1
  have hl : len0 ≤ cap0 := hc.1
  unfold maxLen at hm
  have C := Lib.hid hc
  clear hc w0
  have hc1 : Code w a1 len1 cap1 := code_of w1
  have hm1 : cap1 ≤ maxLen := hc1.2.1
  have hl1 : len1 ≤ cap1 := hc1.1
  unfold maxLen at hm1
  clear hc1 w1
  by_cases hbig0 : (len0 : Int) > 1048576
  · go_enter Try.func7, Try.ntmps7
    go_wp2_with fail
    go_ret
    exact ⟨rfl, Below.refl _ _⟩
  by_cases hbig1 : (len1 : Int) > 1048576
  · go_enter Try.func7, Try.ntmps7
    go_wp2_with fail
    go_ret
    exact ⟨rfl, Below.refl _ _⟩
  have L0 := Lib.hid (Seen.start w)
  go_enter Try.func7, Try.ntmps7
  go_wp2_with fail
  refine (drawVecLead a0 len0 cap0 _ C.out).mono ?_
  rintro e W1 ⟨v, l, rfl, hn, hl5, hg, hs⟩
  have L1 := Lib.hid ((L0.out.still hg).add hs)
  clear hg hs L0 hn
  go_wp2_with fail
  refine (implVecLead v l _ (L1.out.sl (v, l) (by simp))).mono ?_
  rintro e W2 ⟨rfl, hg⟩
  have L2 := Lib.hid (L1.out.still hg)
  clear hg L1
  go_wp2_with fail
  refine (specVecLead v l _ (L2.out.sl (v, l) (by simp))).mono ?_
  rintro e W3 ⟨rfl, hg⟩
  have L3 := Lib.hid (L2.out.still hg)
  clear hg L2
  cases hok : Vec.ok l
  · have HK := Lib.hid hok
    clear hok
    go_wp2_with fail
    refine (specVecOk v l _ (L3.out.sl (v, l) (by simp))).mono ?_
    rintro e w' ⟨rfl, rfl⟩
    rw [HK.out]
    go_wp2_with fail
    refine (specVecLead v l _ (L3.out.sl (v, l) (by simp))).mono ?_
    rintro e W4 ⟨rfl, hg⟩
    have L4 := Lib.hid (L3.out.still hg)
    clear hg L3
    go_wp2_with fail
    go_ret
    exact ⟨rfl, L4.out.below⟩
  have HK := Lib.hid hok
  have H4 := Lib.hid (Vec.ok_len hok)
  have HL := Lib.hid (Vec.lead_ok hok)
  clear hok
  go_wp2_with fail
  refine (specVecOk v l _ (L3.out.sl (v, l) (by simp))).mono ?_
  rintro e w' ⟨rfl, rfl⟩
  rw [HK.out]
  have hs : Sl W3 v l := L3.out.sl (v, l) (by simp)
  obtain ⟨av, cv, hv, hlc, hcm, hr⟩ := hs
  rw [hv, HL.out]
  have HV := Lib.hid hv
  have R := Lib.hid hr
  unfold maxLen at hcm
  clear hv hr
  go_wp2_with fail
  go_loop [7] (fun i => ∃ k : Nat, k ≤ l.length ∧ i = .int .i64 k ∧ ∀ j, j < k → l.getD j 0 = 0) (fun i => l.length - (intOf i).toNat)
  case atStart => exact ⟨0, Nat.zero_le _, rfl, by omega⟩
  case round =>
    obtain ⟨k, hk, rfl, ha⟩ := hrel
    have A := Lib.hid ha
    clear ha
    by_cases hlt : k < l.length
    · obtain ⟨b, o, rfl, hx⟩ := R.out.at_ hlt
      obtain ⟨x, hxe⟩ : ∃ x, l.getD k 0 = x := ⟨_, rfl⟩
      rw [hxe] at hx
      have E := Lib.hid hxe
      clear hxe
      by_cases h0 : x = 0
      · have hb : (x != 0) = false := by rw [bne_eq_false_iff_eq]; exact h0
        have H0 := Lib.hid h0
        clear h0
        go_wp2_with fail
        go_round
        case rel =>
          refine ⟨k + 1, by omega, by go_num, fun j hj => ?_⟩
          by_cases hjk : j = k
          · subst hjk; rw [E.out]; exact H0.out
          · exact A.out j (by omega)
        case measure => simp [intOf]; omega
      · have hb : (x != 0) = true := by rw [bne_iff_ne]; exact h0
        have FE : Vec.first l 0 = (k : Int) := by
          rw [Vec.first_take (k := k) A.out hk, List.drop_eq_getElem_cons hlt, Vec.first_yes (by
            have := E.out; rw [List.getD_eq_getElem?_getD, List.getElem?_eq_getElem hlt, Option.getD_some] at this; rw [this]; exact hb)]
          simp
        have kf : Fld.ok (1 + (len1 : Int) % 30) = true := Fld.ok_true (by omega) (by omega)
        have LS := Lib.hid ((Vec.lead_scale HK.out kf (by omega)).trans (HL.out.trans FE))
        rw [FE]
        clear FE
        go_wp2_with fail
        refine (implVecScale _ l _ _ (HV.out ▸ (L3.out.sl (v, l) (by simp)))).mono ?_
        rintro e W4 ⟨s, rfl, hg, ho⟩
        have L4 := Lib.hid (L3.out.new hg ho)
        clear hg ho L3
        go_wp2_with fail
        refine (implVecLead s _ _ (L4.out.sl (s, Vec.scale l (1 + (len1 : Int) % 30)) (by simp))).mono ?_
        rintro e W5 ⟨rfl, hg⟩
        have L5 := Lib.hid (L4.out.still hg)
        clear hg L4
        rw [LS.out]
        go_wp2_with fail
        go_ret
        exact ⟨rfl, L5.out.below⟩
    · have : k = l.length := by omega
      subst this
      have FE : Vec.first l 0 = -1 := by
        rw [Vec.first_take (k := l.length) A.out (Nat.le_refl _), List.drop_length]; rfl
      rw [FE]
      clear FE
      go_wp2_with fail
      go_ret
      exact ⟨rfl, L3.out.below⟩

set_option maxRecDepth 100000 in
theorem lifted (os : Os) (started : os.Started) (H : Type) (enc : TypeId × Value → H) :
    ReturnsInHanded {} Try.checked os 7 .any (Rows.fnVecLeadSpec.pre6 enc Try.prog Try.f7 Rows.fnVecLeadRow.domain false) (Rows.fnVecLeadSpec.post enc Try.prog Try.f7 false true false false) := by
  refine returnsInHanded_of_change (C := Try.checked) own started (by kernel_rfl) Try.func7
    (ChangeSpec.witness6 (enc := enc) (C := Try.checked) false ⟨#[], #[.slice none 0 0, .slice none 0 0], []⟩ 8 (by kernel_rfl) (by kernel_rfl) (by kernel_rfl) (by kernel_rfl)) ?_
  intro W base args ds gs before hval0 hW hcnd _
  have hval : ∀ (j : Nat) t v, Try.f7.params[j]? = some t → args[j]? = some v → Value.okWide Try.prog W .any base t v := hval0
  have hW' := hW
  obtain ⟨p, q, hA0, hV, rfl, hfz, hnd⟩ := hW
  have hA : DataW.TrodAll enc Try.prog W 0 (fun _ => true) true Try.f7.params.toList args.toList ds p := hA0
  rw [Try.params7] at hA hval
  obtain ⟨v0, vs0, d0, ds0, p0, q0, hargs, rfl, rfl, h0, r0⟩ := trodAll_cons hA
  obtain ⟨v1, vs1, d1, ds1, p1, q1, rfl, rfl, rfl, h1, r1⟩ := trodAll_cons r0
  obtain ⟨rfl, rfl, rfl⟩ := trodAll_nil r1
  obtain rfl : args = #[v0, v1] := by cases args; simp_all
  obtain ⟨rfl, rfl⟩ := trodVars_none hV
  obtain ⟨a0, len0, cap0, rfl⟩ := okWide_slice Try.underlying22 (hval 0 22 v0 rfl rfl)
  have k0 := h0
  have lt0 : ∀ x ∈ p0, x.block < W.heap.size := by obtain ⟨m, hm⟩ := k0; exact DataW.trod_lt m _ _ _ hm
  obtain ⟨z0, w0⟩ : ∃ zs, IsRow .u8 W a0 len0 cap0 zs := by
    obtain ⟨fuel, hf⟩ := h0
    rcases open_ints Try.underlying22 Try.underlying5 (by kernel_rfl) hf with ⟨hcs, _⟩ | ⟨x, l, c, zs, hcs, _, hl, hm, hz, _, hcell, hwz⟩
    · simp [Value.cells] at hcs
      obtain ⟨rfl, rfl, rfl⟩ := hcs
      exact ⟨[], .inl ⟨rfl, rfl, rfl, rfl⟩⟩
    · simp [Value.cells] at hcs
      obtain ⟨rfl, rfl, rfl⟩ := hcs
      exact ⟨zs, .inr ⟨_, rfl, hl, hm, by simpa using hz, hcell, hwz⟩⟩
  obtain ⟨a1, len1, cap1, rfl⟩ := okWide_slice Try.underlying22 (hval 1 22 v1 rfl rfl)
  have k1 := h1
  have lt1 : ∀ x ∈ p1, x.block < W.heap.size := by obtain ⟨m, hm⟩ := k1; exact DataW.trod_lt m _ _ _ hm
  obtain ⟨z1, w1⟩ : ∃ zs, IsRow .u8 W a1 len1 cap1 zs := by
    obtain ⟨fuel, hf⟩ := h1
    rcases open_ints Try.underlying22 Try.underlying5 (by kernel_rfl) hf with ⟨hcs, _⟩ | ⟨x, l, c, zs, hcs, _, hl, hm, hz, _, hcell, hwz⟩
    · simp [Value.cells] at hcs
      obtain ⟨rfl, rfl, rfl⟩ := hcs
      exact ⟨[], .inl ⟨rfl, rfl, rfl, rfl⟩⟩
    · simp [Value.cells] at hcs
      obtain ⟨rfl, rfl, rfl⟩ := hcs
      exact ⟨zs, .inr ⟨_, rfl, hl, hm, by simpa using hz, hcell, hwz⟩⟩
  clear hA0 hval0
  refine (walk a0 len0 cap0 z0 a1 len1 cap1 z1 W w0 w1).mono fun e W' ⟨he, bel⟩ => ?_
  subst he
  exact ⟨_, rfl, _, _, _, [], _, [], hW', trodAll_mk1 (shut_bool Try.underlying4 _), (trodAll_cons_mk (Below.trod laidOut (by kernel_rfl) (of_decide_eq_true (by kernel_rfl)) k0 bel lt0) (trodAll_cons_mk (Below.trod laidOut (by kernel_rfl) (of_decide_eq_true (by kernel_rfl)) k1 bel lt1) trodAll_mk0)), rfl, bel.frame _, fun h => by cases h⟩

theorem over : Rows.fnVecLeadRow.holds Try.pinned (OpenSpec.ofChange Rows.fnVecLeadSpec) :=
  OpenClaim.holds_of_wide 7 Try.f7 rfl rfl rfl rfl rfl rfl rfl ⟨rfl, rfl, rfl, rfl, rfl⟩ rfl rfl rfl rfl rfl (by kernel_rfl) Try.func7 (by kernel_rfl)
    (of_decide_eq_true (by kernel_rfl)) (by unfold Func.isWrapper; first | (rw [if_pos (by decide +kernel)]; kernel_rfl) | (rw [if_neg (by decide +kernel)]; exact ⟨rfl, rfl⟩))
    (fun os started H enc _ => lifted os started H enc)

theorem proved : Rows.FnVecLeadSaid := over
#print axioms proved
end Go.Proofs.Ytdkdkmebiofofaa.fnVecLead
