/-
  From whatever bytes two matrices are drawn, SpanSame answers as its model does, and is true if and only if each row of either is in the span of the other, and if and only if SpanTidy is equal: the law FnSpanSame returns true.
  Conditions: none.
-/
import Derived.Test.YtogjgajabdiaaaaRows
import Derived.WalkKit
import Derived.ProofKit
import Derived.OpenShut
import Derived.ShutString
import Derived.ChangeOld
import Derived.Below
import Derived.Test.YtogjgajabdiaaaaFldMath
import Derived.Test.YtogjgajabdiaaaaMem
import Derived.Test.YtogjgajabdiaaaaField
import Derived.Test.YtogjgajabdiaaaaVecMath
import Derived.Test.YtogjgajabdiaaaaSpanMath
import Derived.Test.YtogjgajabdiaaaaSpanList
import Derived.Test.YtogjgajabdiaaaaSpanTidy
import Derived.Test.YtogjgajabdiaaaaSpanMore
import Derived.Test.YtogjgajabdiaaaaSpanBy
import Derived.Test.YtogjgajabdiaaaaSpanWork
import Derived.Test.YtogjgajabdiaaaaInts
import Derived.Test.YtogjgajabdiaaaaTabs
import Derived.Test.YtogjgajabdiaaaaHelp
import Derived.Test.YtogjgajabdiaaaaVec
import Derived.Test.YtogjgajabdiaaaaVec2
import Derived.Test.YtogjgajabdiaaaaSpanHelp
import Derived.Test.YtogjgajabdiaaaaSpanHelp2
import Derived.Test.YtogjgajabdiaaaaSpanOk
import Derived.Test.YtogjgajabdiaaaaSpanLine
import Derived.Test.YtogjgajabdiaaaaSpanEch
import Derived.Test.YtogjgajabdiaaaaVecSpec
import Derived.Test.YtogjgajabdiaaaaSpanTake
import Derived.Test.YtogjgajabdiaaaaSpanProg
import Derived.Test.YtogjgajabdiaaaaSpanTops
import Derived.Test.YtogjgajabdiaaaaSpanSpec
import Derived.Test.YtogjgajabdiaaaaSpanSpec2
import Derived.Test.YtogjgajabdiaaaaSpanSpec3
import Derived.Test.YtogjgajabdiaaaaSpanSpec4
import Derived.Test.YtogjgajabdiaaaaSpanTopsBy
import Derived.Test.YtogjgajabdiaaaaSpanTops2
import Derived.Test.YtogjgajabdiaaaaSpanSame
import Derived.Test.YtogjgajabdiaaaaSpanLaws
import Derived.Test.YtogjgajabdiaaaaDraw
import Derived.Test.YtogjgajabdiaaaaDrawField
import Derived.Test.YtogjgajabdiaaaaDrawVec
import Derived.Test.YtogjgajabdiaaaaDrawSpan
import Derived.Test.YtogjgajabdiaaaaDrawSpan2
import Derived.Test.YtogjgajabdiaaaaDrawSpan3
namespace Go.Proofs.Ytogjgajabdiaaaa.fnSpanSame
open Go.ChangeShapes Go.WideShapes Go.ChangeAt Go.RowKit
open Go.ChangeMaps (open_string shut_string)
set_option linter.unusedVariables false

theorem own : ownKnob Try.prog.godebug = none := by kernel_rfl
theorem laidOut : laidOutB Try.prog = true := by kernel_rfl

/-- WHAT THE WALK IS TOLD OF A SLICE OF INTEGERS THAT CAME IN: it is nil; or it leads to a row of 'cap' cells, the numbers 'zs' (the first 'len' are its elements, the rest its spare room), each fitting its kind. -/
def IsRow (k : IntKind) (w : World) (a : Option Addr) (len cap : Nat) (zs : List Int) : Prop :=
  (a = none ∧ len = 0 ∧ cap = 0 ∧ zs = []) ∨
  ∃ x, a = some x ∧ len ≤ cap ∧ cap ≤ maxLen ∧ zs.length = cap ∧ (∀ i, i < zs.length → w.cell? (x.add i) = some (.int k (zs.getD i 0))) ∧ ∀ n ∈ zs, (Lit.int k n).wf = true

/-- the first k rows of a are made of b. -/
def canK (a b : List (List Int)) (k : Nat) : Bool := (List.range k).all fun j => hasM b (a.getD j [])
theorem canK_next (a b : List (List Int)) (k : Nat) : canK a b (k + 1) = (canK a b k && hasM b (a.getD k [])) := by simp [canK, List.range_succ]
theorem canK_all {a b : List (List Int)} (ha : okM a = true) (hb : okM b = true) : canK a b a.length = true ↔ ∀ r ∈ a.map Sp.toV, Sp.In (b.map Sp.toV) r := by
  have key : ∀ j, j < a.length → (hasM b (a.getD j []) = true ↔ Sp.In (b.map Sp.toV) (Sp.toV (a.getD j []))) := by
    intro j hj
    have hr := Sp.fresh_row (okM_all ha) hj
    simp only [hasM, hb, okM_get ha hj, Bool.and_self, Bool.true_and]
    exact Sp.has_iff (okM_all hb) hr
  unfold canK
  rw [List.all_eq_true]
  constructor
  · intro h r hr
    obtain ⟨l, hl, rfl⟩ := List.mem_map.1 hr
    obtain ⟨j, hj, rfl⟩ := List.getElem_of_mem hl
    have := (key j hj).1 (h j (List.mem_range.2 hj))
    rwa [List.getD_eq_getElem?_getD, List.getElem?_eq_getElem hj] at this
  · intro h j hj
    have hj' := List.mem_range.1 hj
    refine (key j hj').2 (h _ (List.mem_map.2 ⟨_, ?_, rfl⟩))
    rw [List.getD_eq_getElem?_getD, List.getElem?_eq_getElem hj']; exact List.getElem_mem hj'
theorem can_same {a b : List (List Int)} (ha : okM a = true) (hb : okM b = true) : (canK a b a.length && canK b a b.length) = sameM a b := by
  rw [Bool.eq_iff_iff, Bool.and_eq_true, canK_all ha hb, canK_all hb ha]
  simp only [sameM, ha, hb, Bool.and_self, Bool.true_and, decide_eq_true_eq]
  exact (Sp.ltidy_same (okM_all ha) (okM_all hb)).symm

theorem walk (a0 : Option Addr) (len0 cap0 : Nat) (z0 : List Int) (w : World) (w0 : IsRow .u8 w a0 len0 cap0 z0) :
    Calls Try.prog 5 #[.slice a0 len0 cap0] w fun e w' => e = .returned (.bool true) ∧ Below w.heap.size w w' := by
  have hc : Code w a0 len0 cap0 := code_of w0
  have hm : cap0 ≤ maxLen := hc.2.1
  have hl : len0 ≤ cap0 := hc.1
  unfold maxLen at hm
  have C := Lib.hid hc
  clear hc w0
  by_cases hbig : (len0 : Int) > 1048576
  · go_enter Try.func5, Try.ntmps5
    go_wp2_with fail
    go_ret
    exact ⟨rfl, Below.refl _ _⟩
  go_enter Try.func5, Try.ntmps5
  go_wp2_with fail
  refine (drawSpanSame a0 len0 cap0 _ C.out).mono ?_
  rintro e W1 ⟨u, v, us, vs, m, n, rfl, hg, ht1, ht2⟩
  obtain ⟨ua, uc, eu, hu1, hu2, _⟩ := ht1.top
  obtain ⟨va, vc, ev, hv1, hv2, _⟩ := ht2.top
  subst eu ev
  unfold maxLen at hu2 hv2
  have G1 := Lib.hid hg
  have A1 := Lib.hid ht1
  have B1 := Lib.hid ht2
  clear hg ht1 ht2
  obtain ⟨q, hq⟩ : ∃ q, sameM m n = q := ⟨_, rfl⟩
  have Q := Lib.hid hq
  clear hq
  have hqq : (q != q) = false := by cases q <;> rfl
  have hqe : (q == q) = true := by cases q <;> rfl
  go_wp2_with fail
  refine (implSpanSame _ _ us vs m n _ A1.out B1.out).mono ?_
  rintro e W2 ⟨rfl, hg⟩
  rw [Q.out]
  have G2 := Lib.hid (grown_trans G1.out hg)
  have A2 := Lib.hid (A1.out.grown hg)
  have B2 := Lib.hid (B1.out.grown hg)
  clear hg G1 A1 B1
  go_wp2_with fail
  refine (specSpanSame _ _ us vs m n _ A2.out B2.out).mono ?_
  rintro e W3 ⟨rfl, hg⟩
  rw [Q.out]
  have G3 := Lib.hid (grown_trans G2.out hg)
  have A3 := Lib.hid (A2.out.grown hg)
  have B3 := Lib.hid (B2.out.grown hg)
  clear hg G2 A2 B2
  have K1 := Lib.hid (specSpanOk _ us m W3 A3.out)
  have K2 := Lib.hid (specSpanOk _ vs n W3 B3.out)
  cases hok : okM m with
  | false =>
    rw [hok] at K1
    clear hok K2
    go_wp2_with fail
    refine K1.out.mono ?_
    rintro e w' ⟨rfl, rfl⟩
    go_wp2_with fail
    refine (specSpanSame _ _ us vs m n _ A3.out B3.out).mono ?_
    rintro e W4 ⟨rfl, hg⟩
    rw [Q.out]
    have G4 := Lib.hid (grown_trans G3.out hg)
    clear hg
    go_wp2_with fail
    go_ret
    exact ⟨rfl, below_grown G4.out⟩
  | true =>
    cases hon : okM n with
    | false =>
      rw [hok] at K1
      rw [hon] at K2
      clear hok hon
      go_wp2_with fail
      refine K1.out.mono ?_
      rintro e w' ⟨rfl, rfl⟩
      go_wp2_with fail
      refine K2.out.mono ?_
      rintro e w' ⟨rfl, rfl⟩
      go_wp2_with fail
      refine (specSpanSame _ _ us vs m n _ A3.out B3.out).mono ?_
      rintro e W4 ⟨rfl, hg⟩
      rw [Q.out]
      have G4 := Lib.hid (grown_trans G3.out hg)
      clear hg
      go_wp2_with fail
      go_ret
      exact ⟨rfl, below_grown G4.out⟩
    | true =>
      have CS := Lib.hid (can_same hok hon)
      rw [Q.out] at CS
      have LK : Hid (decide (tidyM m = tidyM n) = q) := Lib.hid (by rw [tidyM_yes hok, tidyM_yes hon, ← Q.out]; simp [sameM, hok, hon])
      rw [hok] at K1
      rw [hon] at K2
      clear hok hon
      go_wp2_with fail
      refine K1.out.mono ?_
      rintro e w' ⟨rfl, rfl⟩
      go_wp2_with fail
      refine K2.out.mono ?_
      rintro e w' ⟨rfl, rfl⟩
      go_wp2_with fail
      go_loopw [6, 7] (fun c i wr => ∃ k : Nat, k ≤ m.length ∧ i = .int .i64 k ∧ c = .bool (canK m n k) ∧ W3.grownBy wr none) (fun _ i _ => m.length - (intOf i).toNat)
      case atStart => exact ⟨0, Nat.zero_le _, rfl, rfl, World.grownBy.refl _ _⟩
      case round =>
        obtain ⟨k, hk, rfl, rfl, hg⟩ := hrel
        have GR := Lib.hid hg
        clear hg
        by_cases hlt : k < m.length
        · have hlt' : (k : Int) < (m.length : Int) := by omega
          have CN := Lib.hid (canK_next m n k)
          obtain ⟨c, hc⟩ : ∃ c, canK m n k = c := ⟨_, rfl⟩
          rw [hc] at CN ⊢
          clear hc
          cases c with
          | false =>
            go_wp2_with fail
            go_roundw
            case rel => exact ⟨k + 1, by omega, by go_num, by rw [CN.out]; rfl, GR.out⟩
            case measure => simp [intOf]; omega
          | true =>
            obtain ⟨b, o, cap', x, e, hu, hx, hs⟩ := (A3.out.grown GR.out).at_ hlt
            injection e with e1 e2 e3
            subst e1 e3
            have Z := Lib.hid (implSpanHas _ x vs n (m.getD k []) wr (B3.out.grown GR.out) hs)
            obtain ⟨h, hh⟩ : ∃ h, hasM n (m.getD k []) = h := ⟨_, rfl⟩
            rw [hh] at Z CN
            clear hs hu hh
            go_wp2_with fail
            refine Z.out.mono ?_
            rintro e w2 ⟨rfl, hg⟩
            have G2 := Lib.hid (grown_trans GR.out hg)
            clear hg hx
            go_wp2_with fail
            go_roundw
            case rel => exact ⟨k + 1, by omega, by go_num, by rw [CN.out]; rfl, G2.out⟩
            case measure => simp [intOf]; omega
        · have : k = m.length := by omega
          subst this
          obtain ⟨c0, hc0⟩ : ∃ c, canK m n m.length = c := ⟨_, rfl⟩
          rw [hc0] at CS ⊢
          clear hc0
          go_wp2_with fail
          go_loopw [6, 8] (fun c i wr' => ∃ k : Nat, k ≤ n.length ∧ i = .int .i64 k ∧ c = .bool (c0 && canK n m k) ∧ W3.grownBy wr' none) (fun _ i _ => n.length - (intOf i).toNat)
          case atStart => exact ⟨0, Nat.zero_le _, rfl, by simp [canK], GR.out⟩
          case round =>
            obtain ⟨k, hk, rfl, rfl, hg⟩ := hrel
            have GS := Lib.hid hg
            clear hg
            by_cases hlt : k < n.length
            · have hlt' : (k : Int) < (n.length : Int) := by omega
              have CN := Lib.hid (canK_next n m k)
              obtain ⟨c, hc⟩ : ∃ c, (c0 && canK n m k) = c := ⟨_, rfl⟩
              have HC := Lib.hid hc
              rw [hc]
              clear hc
              cases c with
              | false =>
                go_wp2_with fail
                go_roundw
                case rel => exact ⟨k + 1, by omega, by go_num, by rw [CN.out, ← Bool.and_assoc, HC.out]; rfl, GS.out⟩
                case measure => simp [intOf]; omega
              | true =>
                obtain ⟨b, o, cap', x, e, hu, hx, hs⟩ := (B3.out.grown GS.out).at_ hlt
                injection e with e1 e2 e3
                subst e1 e3
                have Z := Lib.hid (implSpanHas _ x us m (n.getD k []) _ (A3.out.grown GS.out) hs)
                obtain ⟨h, hh⟩ : ∃ h, hasM m (n.getD k []) = h := ⟨_, rfl⟩
                rw [hh] at Z CN
                clear hs hu hh
                go_wp2_with fail
                refine Z.out.mono ?_
                rintro e w2 ⟨rfl, hg⟩
                have G2 := Lib.hid (grown_trans GS.out hg)
                clear hg hx
                go_wp2_with fail
                go_roundw
                case rel => exact ⟨k + 1, by omega, by go_num, by rw [CN.out, ← Bool.and_assoc, HC.out]; rfl, G2.out⟩
                case measure => simp [intOf]; omega
            · have : k = n.length := by omega
              subst this
              rw [CS.out]
              go_wp2_with fail
              refine (implSpanTidy _ us m _ (A3.out.grown GS.out)).mono ?_
              rintro e w5 ⟨xv, xus, rfl, hg, hxl, ho⟩
              have G5 := Lib.hid (grown_trans GS.out hg)
              have X5 := Lib.hid (tab_own hxl ho)
              clear hg ho
              go_wp2_with fail
              refine (implSpanTidy _ vs n _ (B3.out.grown G5.out)).mono ?_
              rintro e w6 ⟨yv, yus, rfl, hg, hyl, ho⟩
              have G6 := Lib.hid (grown_trans G5.out hg)
              have X6 := Lib.hid (X5.out.grown hg)
              have Y6 := Lib.hid (tab_own hyl ho)
              clear hg ho X5
              have Z := Lib.hid (lkTab xv yv xus yus (tidyM m) (tidyM n) w6 X6.out Y6.out)
              rw [LK.out] at Z
              go_wp2_with fail
              refine Z.out.mono ?_
              rintro e w7 ⟨rfl, hg⟩
              have G7 := Lib.hid (grown_trans G3.out (grown_trans G6.out hg))
              clear hg
              go_wp2_with fail
              go_ret
              exact ⟨rfl, below_grown G7.out⟩

set_option maxRecDepth 100000 in
theorem lifted (os : Os) (started : os.Started) (H : Type) (enc : TypeId × Value → H) :
    ReturnsInHanded {} Try.checked os 5 .any (Rows.fnSpanSameSpec.pre6 enc Try.prog Try.f5 Rows.fnSpanSameRow.domain false) (Rows.fnSpanSameSpec.post enc Try.prog Try.f5 false true false false) := by
  refine returnsInHanded_of_change (C := Try.checked) own started (by kernel_rfl) Try.func5
    (ChangeSpec.witness6 (enc := enc) (C := Try.checked) false ⟨#[], #[.slice none 0 0], []⟩ 8 (by kernel_rfl) (by kernel_rfl) (by kernel_rfl) (by kernel_rfl)) ?_
  intro W base args ds gs before hval0 hW hcnd _
  have hval : ∀ (j : Nat) t v, Try.f5.params[j]? = some t → args[j]? = some v → Value.okWide Try.prog W .any base t v := hval0
  have hW' := hW
  obtain ⟨p, q, hA0, hV, rfl, hfz, hnd⟩ := hW
  have hA : DataW.TrodAll enc Try.prog W 0 (fun _ => true) true Try.f5.params.toList args.toList ds p := hA0
  rw [Try.params5] at hA hval
  obtain ⟨v0, vs0, d0, ds0, p0, q0, hargs, rfl, rfl, h0, r0⟩ := trodAll_cons hA
  obtain ⟨rfl, rfl, rfl⟩ := trodAll_nil r0
  obtain rfl : args = #[v0] := by cases args; simp_all
  obtain ⟨rfl, rfl⟩ := trodVars_none hV
  obtain ⟨a0, len0, cap0, rfl⟩ := okWide_slice Try.underlying22 (hval 0 22 v0 rfl rfl)
  have k0 := h0
  have lt0 : ∀ x ∈ p0, x.block < W.heap.size := by obtain ⟨m, hm⟩ := k0; exact DataW.trod_lt m _ _ _ hm
  obtain ⟨z0, w0⟩ : ∃ zs, IsRow .u8 W a0 len0 cap0 zs := by
    obtain ⟨fuel, hf⟩ := h0
    rcases open_ints Try.underlying22 Try.underlying5 (by kernel_rfl) hf with ⟨hcs, _⟩ | ⟨x, l, c, zs, hcs, _, hl, hm, hz, _, hcell, hwz⟩
    · simp [Value.cells] at hcs
      obtain ⟨rfl, rfl, rfl⟩ := hcs
      exact ⟨[], .inl ⟨rfl, rfl, rfl, rfl⟩⟩
    · simp [Value.cells] at hcs
      obtain ⟨rfl, rfl, rfl⟩ := hcs
      exact ⟨zs, .inr ⟨_, rfl, hl, hm, by simpa using hz, hcell, hwz⟩⟩
  clear hA0 hval0
  refine (walk a0 len0 cap0 z0 W w0).mono fun e W' ⟨he, bel⟩ => ?_
  subst he
  exact ⟨_, rfl, _, _, _, [], _, [], hW', trodAll_mk1 (shut_bool Try.underlying4 _), (trodAll_cons_mk (Below.trod laidOut (by kernel_rfl) (of_decide_eq_true (by kernel_rfl)) k0 bel lt0) trodAll_mk0), rfl, bel.frame _, fun h => by cases h⟩

theorem over : Rows.fnSpanSameRow.holds Try.pinned (OpenSpec.ofChange Rows.fnSpanSameSpec) :=
  OpenClaim.holds_of_wide 5 Try.f5 rfl rfl rfl rfl rfl rfl rfl ⟨rfl, rfl, rfl, rfl, rfl⟩ rfl rfl rfl rfl rfl (by kernel_rfl) Try.func5 (by kernel_rfl)
    (of_decide_eq_true (by kernel_rfl)) (by unfold Func.isWrapper; first | (rw [if_pos (by decide +kernel)]; kernel_rfl) | (rw [if_neg (by decide +kernel)]; exact ⟨rfl, rfl⟩))
    (fun os started H enc _ => lifted os started H enc)

theorem proved : Rows.FnSpanSameSaid := over
#print axioms proved
end Go.Proofs.Ytogjgajabdiaaaa.fnSpanSame
