/-
  From whatever bytes a kind and a shard are drawn, PlanNear answers as its model does, as long as the plan with all others there; by the first kind a shard of a group is made of two, by the second of four: the law FnPlanNear returns true.
  Conditions: none.
-/
import Derived.Test.YtbpkfcaokbidnaaRows
import Derived.WalkKit
import Derived.ProofKit
import Derived.OpenShut
import Derived.ShutString
import Derived.ChangeOld
import Derived.Below
import Derived.Test.YtbpkfcaokbidnaaG1
import Derived.Test.YtbpkfcaokbidnaaAppendZeros
import Derived.Test.YtbpkfcaokbidnaaG2
import Derived.Test.YtbpkfcaokbidnaaG3
import Derived.Test.YtbpkfcaokbidnaaG4
import Derived.Test.YtbpkfcaokbidnaaPlanMath
import Derived.Test.YtbpkfcaokbidnaaPlanWork
import Derived.Test.YtbpkfcaokbidnaaRound
import Derived.Test.YtbpkfcaokbidnaaChoose
import Derived.Test.YtbpkfcaokbidnaaPlanMake
import Derived.Test.YtbpkfcaokbidnaaChoose2
import Derived.Test.YtbpkfcaokbidnaaPlanFind
import Derived.Test.YtbpkfcaokbidnaaPlanTop
import Derived.Test.YtbpkfcaokbidnaaPlanSpec
import Derived.Test.YtbpkfcaokbidnaaPlanSearch
import Derived.Test.YtbpkfcaokbidnaaPlanSpec2
import Derived.Test.YtbpkfcaokbidnaaPlanNear
namespace Go.Proofs.Ytbpkfcaokbidnaa.fnPlanNear
open Go.ChangeShapes Go.WideShapes Go.ChangeAt Go.RowKit
open Go.ChangeMaps (open_string shut_string)
set_option linter.unusedVariables false

theorem own : ownKnob Try.prog.godebug = none := by kernel_rfl
theorem laidOut : laidOutB Try.prog = true := by kernel_rfl

/-- WHAT THE WALK IS TOLD OF A SLICE OF INTEGERS THAT CAME IN: it is nil; or it leads to a row of 'cap' cells, the numbers 'zs' (the first 'len' are its elements, the rest its spare room), each fitting its kind. -/
def IsRow (k : IntKind) (w : World) (a : Option Addr) (len cap : Nat) (zs : List Int) : Prop :=
  (a = none ∧ len = 0 ∧ cap = 0 ∧ zs = []) ∨
  ∃ x, a = some x ∧ len ≤ cap ∧ cap ≤ maxLen ∧ zs.length = cap ∧ (∀ i, i < zs.length → w.cell? (x.add i) = some (.int k (zs.getD i 0))) ∧ ∀ n ∈ zs, (Lit.int k n).wf = true

theorem near_local : ∀ n : Nat, n < 6 → (Sp.planM 1 n (Sp.bits 255)).map List.length = some 2 := by decide +kernel
theorem near_wide : ∀ n : Nat, n < 8 → (Sp.planM 2 n (Sp.bits 255)).map List.length = some 4 := by decide +kernel
theorem near_is {k n : Nat} {d : Int} {l m : List Int} {b : Bool} (h : PlanT k n (Sp.bits 255) d l m b) (h0 : l.length ≠ 0) : b = true ∧ (k = 1 ∨ k = 2) ∧ (k = 1 → n < 6 → l.length = 2) ∧ (k = 2 → l.length = 4) := by
  rcases h with ⟨rfl, k1, l1, S, e1, hk, e2, hl, _, hp, _, rfl, _⟩ | ⟨_, _, rfl, _⟩
  · obtain rfl : k = k1 := by omega
    obtain rfl : n = l1 := by omega
    refine ⟨rfl, hk, ?_, ?_⟩
    · rintro rfl hn
      have := near_local n hn
      rw [hp] at this
      rw [ints_len]
      simpa using this
    · rintro rfl
      have := near_wide n hl
      rw [hp] at this
      rw [ints_len]
      simpa using this
  · simp at h0
theorem sl_len {w : World} {a : Option Addr} {n c : Nat} {l : List Int} (h : Sl w (.slice a n c) l) : n = l.length := by
  obtain ⟨_, _, e, _⟩ := h
  injection e

set_option maxHeartbeats 4000000 in
set_option maxRecDepth 20000 in
theorem walk (a0 : Option Addr) (len0 cap0 : Nat) (z0 : List Int) (w : World) (w0 : IsRow .u8 w a0 len0 cap0 z0) :
    Calls Try.prog 8 #[.slice a0 len0 cap0] w fun e w' => e = .returned (.bool true) ∧ Below w.heap.size w w' := by
  have hc0 : Code w a0 len0 cap0 := code_of w0
  have hm0 : cap0 ≤ maxLen := hc0.2.1
  have hl0 : len0 ≤ cap0 := hc0.1
  unfold maxLen at hm0
  have C0 := Lib.hid hc0
  clear hc0 w0
  by_cases hbig0 : (len0 : Int) > 1048576
  · go_enter Try.func8, Try.ntmps8
    go_wp2_with fail
    go_ret
    exact ⟨rfl, Below.refl _ _⟩
  go_enter Try.func8, Try.ntmps8
  go_wp2_with fail
  refine (drawPlanNear a0 len0 cap0 _ C0.out).mono ?_
  rintro e W1 ⟨k, n, hk3, hn15, rfl, hb⟩
  have L1 := Lib.hid hb
  clear hb C0
  go_wp2_with fail
  refine (implPlanNear k n _).mono ?_
  rintro e W2 ⟨d, l, m, b, hT, rfl, hg⟩
  have HT := Lib.hid hT
  have L2 := Lib.hid (L1.out.trans (below_grown hg |>.mono L1.out.size))
  have NI := Lib.hid (fun h => near_is hT h)
  obtain ⟨x, hx⟩ : ∃ x, l.length = x := ⟨_, rfl⟩
  have HX := Lib.hid hx
  rw [hx] at NI
  rw [hx]
  clear hT hg L1 hx
  go_wp2_with fail
  refine (specPlanNear k n _).mono ?_
  rintro e W3 ⟨d', l', m', b', hT, rfl, hg⟩
  obtain ⟨rfl, rfl, rfl, rfl⟩ := HT.out.one hT
  rw [HX.out]
  have L3 := Lib.hid (L2.out.trans (below_grown hg |>.mono L2.out.size))
  clear hT hg L2
  by_cases h0 : x = 0
  · subst h0
    go_wp2_with fail
    refine (specPlanNear k n _).mono ?_
    rintro e W4 ⟨d', l', m', b', hT, rfl, hg⟩
    obtain ⟨rfl, rfl, rfl, rfl⟩ := HT.out.one hT
    rw [HX.out]
    have L4 := Lib.hid (L3.out.trans (below_grown hg |>.mono L3.out.size))
    clear hT hg L3
    go_wp2_with fail
    go_ret
    exact ⟨rfl, L4.out⟩
  · obtain ⟨rfl, hk, hl, hw⟩ := NI.out h0
    have x0 : ((x : Int) == 0) = false := by rw [beq_eq_false_iff_ne]; omega
    clear NI
    go_wp2_with fail
    refine (lkThere 255 (by omega) _).mono ?_
    rintro e W4 ⟨v, rfl, hg, ho⟩
    have L4 := Lib.hid (L3.out.trans (below_grown hg |>.mono L3.out.size))
    have B4 := Lib.hid ho.bl
    clear hg ho L3
    go_wp2_with fail
    refine (implPlanOf k n _ _ _ B4.out).mono ?_
    rintro e W5 ⟨d', l', m', b', p, q, hT, rfl, hg, ht⟩
    obtain ⟨rfl, rfl, rfl, rfl⟩ := HT.out.one hT
    obtain ⟨a5', n5, c5', a6', n6, c6', rfl, rfl⟩ := ht.form
    obtain rfl : n5 = x := by rw [sl_len ht.1.sl]; exact HX.out
    have g9 := grown_alloc hg (.cells #[.int .i64 d, .slice a5' n5 c5', .slice a6' n6 c6'] 28)
    have L9 := Lib.hid (L4.out.trans (below_grown g9 |>.mono L4.out.size))
    have KA : Hid (Blk (W5.alloc (.cells #[.int .i64 d, .slice a5' n5 c5', .slice a6' n6 c6'] 28)) W5.heap.size 28 [.int .i64 d, .slice a5' n5 c5', .slice a6' n6 c6']) := Lib.hid (heap_alloc_new _ _)
    clear hT hg ht g9 L4 B4 HT HX
    go_upto_region 8 with fail
    generalize W5.alloc (.cells #[.int .i64 d, .slice a5' n5 c5', .slice a6' n6 c6'] 28) = WA at *
    generalize W5.heap.size = gq at *
    have j1 := KA.out.cell (i := 1) rfl
    rcases hk with rfl | rfl
    · by_cases h6 : n < 6
      · obtain rfl : n5 = 2 := hl rfl h6
        have h6' : ¬ (n : Int) ≥ 6 := by omega
        clear hl hw x0 h0
        go_wp2_with fail
        go_ret
        exact ⟨rfl, L9.out⟩
      · have h6' : (n : Int) ≥ 6 := by omega
        clear hl hw x0 h0
        go_wp2_with fail
        go_ret
        exact ⟨rfl, L9.out⟩
    · obtain rfl : n5 = 4 := hw rfl
      clear hl hw x0 h0
      go_wp2_with fail
      go_ret
      exact ⟨rfl, L9.out⟩

set_option maxRecDepth 100000 in
theorem lifted (os : Os) (started : os.Started) (H : Type) (enc : TypeId × Value → H) :
    ReturnsInHanded {} Try.checked os 8 .any (Rows.fnPlanNearSpec.pre6 enc Try.prog Try.f8 Rows.fnPlanNearRow.domain false) (Rows.fnPlanNearSpec.post enc Try.prog Try.f8 false true false false) := by
  refine returnsInHanded_of_change (C := Try.checked) own started (by kernel_rfl) Try.func8
    (ChangeSpec.witness6 (enc := enc) (C := Try.checked) false ⟨#[], #[.slice none 0 0], []⟩ 8 (by kernel_rfl) (by kernel_rfl) (by kernel_rfl) (by kernel_rfl)) ?_
  intro W base args ds gs before hval0 hW hcnd _
  have hval : ∀ (j : Nat) t v, Try.f8.params[j]? = some t → args[j]? = some v → Value.okWide Try.prog W .any base t v := hval0
  have hW' := hW
  obtain ⟨p, q, hA0, hV, rfl, hfz, hnd⟩ := hW
  have hA : DataW.TrodAll enc Try.prog W 0 (fun _ => true) true Try.f8.params.toList args.toList ds p := hA0
  rw [Try.params8] at hA hval
  obtain ⟨v0, vs0, d0, ds0, p0, q0, hargs, rfl, rfl, h0, r0⟩ := trodAll_cons hA
  obtain ⟨rfl, rfl, rfl⟩ := trodAll_nil r0
  obtain rfl : args = #[v0] := by cases args; simp_all
  obtain ⟨rfl, rfl⟩ := trodVars_none hV
  obtain ⟨a0, len0, cap0, rfl⟩ := okWide_slice Try.underlying22 (hval 0 22 v0 rfl rfl)
  have k0 := h0
  have lt0 : ∀ x ∈ p0, x.block < W.heap.size := by obtain ⟨m, hm⟩ := k0; exact DataW.trod_lt m _ _ _ hm
  obtain ⟨z0, w0⟩ : ∃ zs, IsRow .u8 W a0 len0 cap0 zs := by
    obtain ⟨fuel, hf⟩ := h0
    rcases open_ints Try.underlying22 Try.underlying5 (by kernel_rfl) hf with ⟨hcs, _⟩ | ⟨x, l, c, zs, hcs, _, hl, hm, hz, _, hcell, hwz⟩
    · simp [Value.cells] at hcs
      obtain ⟨rfl, rfl, rfl⟩ := hcs
      exact ⟨[], .inl ⟨rfl, rfl, rfl, rfl⟩⟩
    · simp [Value.cells] at hcs
      obtain ⟨rfl, rfl, rfl⟩ := hcs
      exact ⟨zs, .inr ⟨_, rfl, hl, hm, by simpa using hz, hcell, hwz⟩⟩
  clear hA0 hval0
  refine (walk a0 len0 cap0 z0 W w0).mono fun e W' ⟨he, bel⟩ => ?_
  subst he
  exact ⟨_, rfl, _, _, _, [], _, [], hW', trodAll_mk1 (shut_bool Try.underlying4 _), (trodAll_cons_mk (Below.trod laidOut (by kernel_rfl) (of_decide_eq_true (by kernel_rfl)) k0 bel lt0) trodAll_mk0), rfl, bel.frame _, fun h => by cases h⟩

theorem over : Rows.fnPlanNearRow.holds Try.pinned (OpenSpec.ofChange Rows.fnPlanNearSpec) :=
  OpenClaim.holds_of_wide 8 Try.f8 rfl rfl rfl rfl rfl rfl rfl ⟨rfl, rfl, rfl, rfl, rfl⟩ rfl rfl rfl rfl rfl (by kernel_rfl) Try.func8 (by kernel_rfl)
    (of_decide_eq_true (by kernel_rfl)) (by unfold Func.isWrapper; first | (rw [if_pos (by decide +kernel)]; kernel_rfl) | (rw [if_neg (by decide +kernel)]; exact ⟨rfl, rfl⟩))
    (fun os started H enc _ => lifted os started H enc)

theorem proved : Rows.FnPlanNearSaid := over
#print axioms proved
end Go.Proofs.Ytbpkfcaokbidnaa.fnPlanNear
