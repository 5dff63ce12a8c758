/-
  For whatever integer CodeMost answers as its model does: the law FnExactCodeMost returns true.
  Conditions: none.
-/
import Derived.Test.YtdbajokjhllekabRows
import Derived.WalkKit
import Derived.ProofKit
import Derived.OpenShut
import Derived.ShutString
import Derived.ChangeOld
import Derived.Below
import Derived.Test.YtdbajokjhllekabFldMath
import Derived.Test.YtdbajokjhllekabMem
import Derived.Test.YtdbajokjhllekabField
import Derived.Test.YtdbajokjhllekabVecMath
import Derived.Test.YtdbajokjhllekabSpanMath
import Derived.Test.YtdbajokjhllekabSpanList
import Derived.Test.YtdbajokjhllekabSpanTidy
import Derived.Test.YtdbajokjhllekabSpanMore
import Derived.Test.YtdbajokjhllekabSpanBy
import Derived.Test.YtdbajokjhllekabSpanWork
import Derived.Test.YtdbajokjhllekabSpanElim
import Derived.Test.YtdbajokjhllekabInts
import Derived.Test.YtdbajokjhllekabTabs
import Derived.Test.YtdbajokjhllekabHelp
import Derived.Test.YtdbajokjhllekabVec
import Derived.Test.YtdbajokjhllekabVec2
import Derived.Test.YtdbajokjhllekabVecSpec
import Derived.Test.YtdbajokjhllekabSpanSpec
import Derived.Test.YtdbajokjhllekabSpanHelp
import Derived.Test.YtdbajokjhllekabSpanHelp2
import Derived.Test.YtdbajokjhllekabSpanOk
import Derived.Test.YtdbajokjhllekabSpanLine
import Derived.Test.YtdbajokjhllekabSpanEch
import Derived.Test.YtdbajokjhllekabSpanTake
import Derived.Test.YtdbajokjhllekabSpanProg
import Derived.Test.YtdbajokjhllekabSpanTops
import Derived.Test.YtdbajokjhllekabSpanSpec2
import Derived.Test.YtdbajokjhllekabSpanSpec3
import Derived.Test.YtdbajokjhllekabSpanSpec4
import Derived.Test.YtdbajokjhllekabCodeMath
import Derived.Test.YtdbajokjhllekabCodeList
import Derived.Test.YtdbajokjhllekabCodeWork
import Derived.Test.YtdbajokjhllekabFlags
import Derived.Test.YtdbajokjhllekabAlone
import Derived.Test.YtdbajokjhllekabCodeGen
import Derived.Test.YtdbajokjhllekabCodeGen2
import Derived.Test.YtdbajokjhllekabCodeGen3
import Derived.Test.YtdbajokjhllekabCodeSpec
import Derived.Test.YtdbajokjhllekabCodeBear
import Derived.Test.YtdbajokjhllekabCodeBear2
import Derived.Test.YtdbajokjhllekabCodeBear3
import Derived.Test.YtdbajokjhllekabCodeSpec2
import Derived.Test.YtdbajokjhllekabCodeMost
import Derived.Test.YtdbajokjhllekabCodeMost2
import Derived.Test.YtdbajokjhllekabCodeSpec3
namespace Go.Proofs.Ytdbajokjhllekab.fnExactCodeMost
open Go.ChangeShapes Go.WideShapes Go.ChangeAt Go.RowKit
set_option linter.unusedVariables false

theorem own : ownKnob Try.prog.godebug = none := by kernel_rfl
theorem laidOut : laidOutB Try.prog = true := by kernel_rfl

set_option maxHeartbeats 1000000 in
theorem walk (a0 : Int) (w : World) (w0 : (Lit.int .i64 a0).wf = true) :
    Calls Try.prog 6 #[.int .i64 a0] w fun e w' => e = .returned (.bool true) ∧ Below w.heap.size w w' := by
  go_enter Try.func6, Try.ntmps6
  go_wp2_with fail
  refine (specMost a0 _).mono ?_
  rintro e W1 ⟨rfl, hg⟩
  have L1 := Lib.hid (below_grown hg)
  clear hg
  go_wp2_with fail
  refine (implMost a0 _).mono ?_
  rintro e W2 ⟨rfl, hg⟩
  have L2 := Lib.hid (L1.out.grown hg L1.out.size (by simp))
  clear hg L1
  generalize mostM a0 = m at *
  go_wp2_with fail
  go_ret
  exact ⟨rfl, L2.out⟩

set_option maxRecDepth 100000 in
theorem lifted (os : Os) (started : os.Started) (H : Type) (enc : TypeId × Value → H) :
    ReturnsInHanded {} Try.checked os 6 .any (Rows.fnExactCodeMostSpec.pre6 enc Try.prog Try.f6 Rows.fnExactCodeMostRow.domain false) (Rows.fnExactCodeMostSpec.post enc Try.prog Try.f6 false true false false) := by
  refine returnsInHanded_of_change (C := Try.checked) own started (by kernel_rfl) Try.func6
    (ChangeSpec.witness6 (enc := enc) (C := Try.checked) false ⟨#[], #[.int .i64 0], []⟩ 8 (by kernel_rfl) (by kernel_rfl) (by kernel_rfl) (by kernel_rfl)) ?_
  intro W base args ds gs before hval0 hW hcnd _
  have hval : ∀ (j : Nat) t v, Try.f6.params[j]? = some t → args[j]? = some v → Value.okWide Try.prog W .any base t v := hval0
  have hW' := hW
  obtain ⟨p, q, hA0, hV, rfl, hfz, hnd⟩ := hW
  have hA : DataW.TrodAll enc Try.prog W 0 (fun _ => true) true Try.f6.params.toList args.toList ds p := hA0
  rw [Try.params6] at hA hval
  obtain ⟨v0, vs0, d0, ds0, p0, q0, hargs, rfl, rfl, h0, r0⟩ := trodAll_cons hA
  obtain ⟨rfl, rfl, rfl⟩ := trodAll_nil r0
  obtain rfl : args = #[v0] := by cases args; simp_all
  obtain ⟨rfl, rfl⟩ := trodVars_none hV
  obtain ⟨a0, rfl, rfl, rfl, w0⟩ := open_int Try.underlying3 (hval 0 3 v0 rfl rfl) h0
  clear hA0 hval0
  refine (walk a0 W w0).mono fun e W' ⟨he, bel⟩ => ?_
  subst he
  exact ⟨_, rfl, _, _, _, [], _, [], hW', trodAll_mk1 (shut_bool Try.underlying4 _), (trodAll_cons_mk (shut_int Try.underlying3 w0) trodAll_mk0), rfl, bel.frame _, fun h => by cases h⟩

theorem over : Rows.fnExactCodeMostRow.holds Try.pinned (OpenSpec.ofChange Rows.fnExactCodeMostSpec) :=
  OpenClaim.holds_of_wide_leaving 6 Try.f6 rfl rfl rfl rfl rfl rfl rfl ⟨rfl, rfl, rfl, rfl, rfl⟩ rfl rfl rfl rfl rfl (by kernel_rfl) Try.func6 (by kernel_rfl)
    (of_decide_eq_true (by kernel_rfl)) (by unfold Func.isWrapper; first | (rw [if_pos (by decide +kernel)]; kernel_rfl) | (rw [if_neg (by decide +kernel)]; exact ⟨rfl, rfl⟩))
    (fun os started H enc _ => leaves (lifted os started H enc))

theorem proved : Rows.FnExactCodeMostSaid := over
#print axioms proved
end Go.Proofs.Ytdbajokjhllekab.fnExactCodeMost
