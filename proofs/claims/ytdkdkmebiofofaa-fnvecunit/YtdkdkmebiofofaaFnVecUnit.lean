/-
  From whatever bytes a position is drawn, VecUnit answers as its model does, succeeds for exactly the valid positions, has 1 there, and VecLead of it is the position: the law FnVecUnit returns true.
  Conditions: none.
-/
import Derived.Test.YtdkdkmebiofofaaRows
import Derived.WalkKit
import Derived.ProofKit
import Derived.OpenShut
import Derived.ShutString
import Derived.ChangeOld
import Derived.Below
import Derived.Test.YtdkdkmebiofofaaFldMath
import Derived.Test.YtdkdkmebiofofaaMem
import Derived.Test.YtdkdkmebiofofaaField
import Derived.Test.YtdkdkmebiofofaaVecMath
import Derived.Test.YtdkdkmebiofofaaInts
import Derived.Test.YtdkdkmebiofofaaHelp
import Derived.Test.YtdkdkmebiofofaaVec
import Derived.Test.YtdkdkmebiofofaaVec2
import Derived.Test.YtdkdkmebiofofaaVecSpec
import Derived.Test.YtdkdkmebiofofaaDraw
import Derived.Test.YtdkdkmebiofofaaDrawField
import Derived.Test.YtdkdkmebiofofaaDrawVec
namespace Go.Proofs.Ytdkdkmebiofofaa.fnVecUnit
open Go.ChangeShapes Go.WideShapes Go.ChangeAt Go.RowKit
open Go.ChangeMaps (open_string shut_string)
set_option linter.unusedVariables false

theorem own : ownKnob Try.prog.godebug = none := by kernel_rfl
theorem laidOut : laidOutB Try.prog = true := by kernel_rfl

/-- WHAT THE WALK IS TOLD OF A SLICE OF INTEGERS THAT CAME IN: it is nil; or it leads to a row of 'cap' cells, the numbers 'zs' (the first 'len' are its elements, the rest its spare room), each fitting its kind. -/
def IsRow (k : IntKind) (w : World) (a : Option Addr) (len cap : Nat) (zs : List Int) : Prop :=
  (a = none ∧ len = 0 ∧ cap = 0 ∧ zs = []) ∨
  ∃ x, a = some x ∧ len ≤ cap ∧ cap ≤ maxLen ∧ zs.length = cap ∧ (∀ i, i < zs.length → w.cell? (x.add i) = some (.int k (zs.getD i 0))) ∧ ∀ n ∈ zs, (Lit.int k n).wf = true

theorem walk (a0 : Option Addr) (len0 cap0 : Nat) (z0 : List Int) (w : World) (w0 : IsRow .u8 w a0 len0 cap0 z0) :
    Calls Try.prog 6 #[.slice a0 len0 cap0] w fun e w' => e = .returned (.bool true) ∧ Below w.heap.size w w' := by
  have hc : Code w a0 len0 cap0 := code_of w0
  have hm : cap0 ≤ maxLen := hc.2.1
  have hl : len0 ≤ cap0 := hc.1
  unfold maxLen at hm
  have C := Lib.hid hc
  clear hc w0
  by_cases hbig : (len0 : Int) > 1048576
  · go_enter Try.func6, Try.ntmps6
    go_wp2_with fail
    go_ret
    exact ⟨rfl, Below.refl _ _⟩
  have L0 := Lib.hid (Seen.start w)
  go_enter Try.func6, Try.ntmps6
  go_wp2_with fail
  refine (drawVecUnit a0 len0 cap0 _ C.out).mono ?_
  rintro e W1 ⟨n, n0, n1, rfl, hb⟩
  have L1 := Lib.hid (L0.out.still (grown_below hb (Nat.le_refl _) none))
  clear hb L0
  by_cases hok : 0 ≤ n ∧ n < 4
  · have HU := Lib.hid (Vec.unitOk_yes hok.1 hok.2)
    obtain ⟨k, hk, rfl⟩ := unit_yes hok.1 hok.2
    have UI := Lib.hid (Vec.unit_is k hk)
    have UL := Lib.hid (Vec.lead_unit k hk)
    have UD := Lib.hid (Vec.dot_self_unit k hk)
    have UG := Lib.hid (Vec.unit_get k hk)
    have U4 := Lib.hid (Vec.ok_len UI.out)
    clear hok n0 n1
    go_wp2_with fail
    refine (specVecUnit k _).mono ?_
    rintro e W2 ⟨t, rfl, hg, ho⟩
    have L2 := Lib.hid (L1.out.new hg ho)
    clear hg ho L1
    rw [HU.out]
    go_wp2_with fail
    refine (implVecUnit k _).mono ?_
    rintro e W3 ⟨u, rfl, hg, ho⟩
    have L3 := Lib.hid (L2.out.new hg ho)
    clear hg ho L2
    rw [HU.out]
    go_wp2_with fail
    refine (lkSame u t (Vec.unit k) _ (L3.out.sl (u, Vec.unit k) (by simp)) (L3.out.sl (t, Vec.unit k) (by simp))).mono ?_
    rintro e W4 ⟨rfl, hg⟩
    have L4 := Lib.hid (L3.out.still hg)
    clear hg L3
    go_wp2_with fail
    refine (implVecLead u (Vec.unit k) _ (L4.out.sl (u, Vec.unit k) (by simp))).mono ?_
    rintro e W5 ⟨rfl, hg⟩
    have L5 := Lib.hid (L4.out.still hg)
    clear hg L4
    rw [UL.out]
    have hs : Sl W5 u (Vec.unit k) := L5.out.sl (u, Vec.unit k) (by simp)
    obtain ⟨au, cu, hu, _, _, hr⟩ := hs
    obtain ⟨b, o, rfl, hx⟩ := hr.at_ (k := k) (by rw [U4.out]; exact hk)
    rw [UG.out] at hx
    have hlt : k < (Vec.unit k).length := by rw [U4.out]; exact hk
    have hlt' : (k : Int) < ((Vec.unit k).length : Int) := by omega
    rw [hu]
    have HE := Lib.hid hu
    clear hr hu
    go_wp2_with fail
    refine (implVecDot _ _ (Vec.unit k) (Vec.unit k) _ (HE.out ▸ (L5.out.sl (u, Vec.unit k) (by simp))) (HE.out ▸ (L5.out.sl (u, Vec.unit k) (by simp)))).mono ?_
    rintro e W6 ⟨rfl, hg⟩
    have L6 := Lib.hid (L5.out.still hg)
    clear hg L5
    rw [UD.out]
    go_wp2_with fail
    refine (implVecOk _ (Vec.unit k) _ (HE.out ▸ (L6.out.sl (u, Vec.unit k) (by simp)))).mono ?_
    rintro e w' ⟨rfl, rfl⟩
    rw [UI.out]
    go_wp2_with fail
    go_ret
    exact ⟨rfl, L6.out.below⟩
  · have HU := Lib.hid (Vec.unitOk_no hok)
    go_wp2_with fail
    refine (specVecUnit n _).mono ?_
    rintro e W2 ⟨t, rfl, hg, ho⟩
    have L2 := Lib.hid (L1.out.new hg ho)
    clear hg ho L1
    rw [HU.out]
    go_wp2_with fail
    refine (implVecUnit n _).mono ?_
    rintro e W3 ⟨u, rfl, hg, ho⟩
    have L3 := Lib.hid (L2.out.new hg ho)
    clear hg ho L2
    rw [HU.out]
    go_wp2_with fail
    refine (lkSame u t (Vec.unit n) _ (L3.out.sl (u, Vec.unit n) (by simp)) (L3.out.sl (t, Vec.unit n) (by simp))).mono ?_
    rintro e W4 ⟨rfl, hg⟩
    have L4 := Lib.hid (L3.out.still hg)
    clear hg L3
    go_wp2_with fail
    refine (lkSame u t (Vec.unit n) _ (L4.out.sl (u, Vec.unit n) (by simp)) (L4.out.sl (t, Vec.unit n) (by simp))).mono ?_
    rintro e W5 ⟨rfl, hg⟩
    have L5 := Lib.hid (L4.out.still hg)
    clear hg L4
    by_cases h0 : 0 ≤ n
    · have h1 : 4 ≤ n := by omega
      have h2 : decide (n < 4) = false := by simp; omega
      clear hok
      go_wp2_with fail
      go_ret
      exact ⟨rfl, L5.out.below⟩
    · clear hok
      go_wp2_with fail
      go_ret
      exact ⟨rfl, L5.out.below⟩

set_option maxRecDepth 100000 in
theorem lifted (os : Os) (started : os.Started) (H : Type) (enc : TypeId × Value → H) :
    ReturnsInHanded {} Try.checked os 6 .any (Rows.fnVecUnitSpec.pre6 enc Try.prog Try.f6 Rows.fnVecUnitRow.domain false) (Rows.fnVecUnitSpec.post enc Try.prog Try.f6 false true false false) := by
  refine returnsInHanded_of_change (C := Try.checked) own started (by kernel_rfl) Try.func6
    (ChangeSpec.witness6 (enc := enc) (C := Try.checked) false ⟨#[], #[.slice none 0 0], []⟩ 8 (by kernel_rfl) (by kernel_rfl) (by kernel_rfl) (by kernel_rfl)) ?_
  intro W base args ds gs before hval0 hW hcnd _
  have hval : ∀ (j : Nat) t v, Try.f6.params[j]? = some t → args[j]? = some v → Value.okWide Try.prog W .any base t v := hval0
  have hW' := hW
  obtain ⟨p, q, hA0, hV, rfl, hfz, hnd⟩ := hW
  have hA : DataW.TrodAll enc Try.prog W 0 (fun _ => true) true Try.f6.params.toList args.toList ds p := hA0
  rw [Try.params6] at hA hval
  obtain ⟨v0, vs0, d0, ds0, p0, q0, hargs, rfl, rfl, h0, r0⟩ := trodAll_cons hA
  obtain ⟨rfl, rfl, rfl⟩ := trodAll_nil r0
  obtain rfl : args = #[v0] := by cases args; simp_all
  obtain ⟨rfl, rfl⟩ := trodVars_none hV
  obtain ⟨a0, len0, cap0, rfl⟩ := okWide_slice Try.underlying22 (hval 0 22 v0 rfl rfl)
  have k0 := h0
  have lt0 : ∀ x ∈ p0, x.block < W.heap.size := by obtain ⟨m, hm⟩ := k0; exact DataW.trod_lt m _ _ _ hm
  obtain ⟨z0, w0⟩ : ∃ zs, IsRow .u8 W a0 len0 cap0 zs := by
    obtain ⟨fuel, hf⟩ := h0
    rcases open_ints Try.underlying22 Try.underlying5 (by kernel_rfl) hf with ⟨hcs, _⟩ | ⟨x, l, c, zs, hcs, _, hl, hm, hz, _, hcell, hwz⟩
    · simp [Value.cells] at hcs
      obtain ⟨rfl, rfl, rfl⟩ := hcs
      exact ⟨[], .inl ⟨rfl, rfl, rfl, rfl⟩⟩
    · simp [Value.cells] at hcs
      obtain ⟨rfl, rfl, rfl⟩ := hcs
      exact ⟨zs, .inr ⟨_, rfl, hl, hm, by simpa using hz, hcell, hwz⟩⟩
  clear hA0 hval0
  refine (walk a0 len0 cap0 z0 W w0).mono fun e W' ⟨he, bel⟩ => ?_
  subst he
  exact ⟨_, rfl, _, _, _, [], _, [], hW', trodAll_mk1 (shut_bool Try.underlying4 _), (trodAll_cons_mk (Below.trod laidOut (by kernel_rfl) (of_decide_eq_true (by kernel_rfl)) k0 bel lt0) trodAll_mk0), rfl, bel.frame _, fun h => by cases h⟩

theorem over : Rows.fnVecUnitRow.holds Try.pinned (OpenSpec.ofChange Rows.fnVecUnitSpec) :=
  OpenClaim.holds_of_wide 6 Try.f6 rfl rfl rfl rfl rfl rfl rfl ⟨rfl, rfl, rfl, rfl, rfl⟩ rfl rfl rfl rfl rfl (by kernel_rfl) Try.func6 (by kernel_rfl)
    (of_decide_eq_true (by kernel_rfl)) (by unfold Func.isWrapper; first | (rw [if_pos (by decide +kernel)]; kernel_rfl) | (rw [if_neg (by decide +kernel)]; exact ⟨rfl, rfl⟩))
    (fun os started H enc _ => lifted os started H enc)

theorem proved : Rows.FnVecUnitSaid := over
#print axioms proved
end Go.Proofs.Ytdkdkmebiofofaa.fnVecUnit
