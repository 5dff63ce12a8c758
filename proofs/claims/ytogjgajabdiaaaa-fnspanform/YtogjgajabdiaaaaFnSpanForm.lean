/-
  From whatever bytes rows are drawn, SpanOk answers as its model does, and of a matrix each part is one, but not with an invalid row: the law FnSpanForm returns true.
  Conditions: none.
-/
import Derived.Test.YtogjgajabdiaaaaRows
import Derived.WalkKit
import Derived.ProofKit
import Derived.OpenShut
import Derived.ShutString
import Derived.ChangeOld
import Derived.Below
import Derived.Test.YtogjgajabdiaaaaFldMath
import Derived.Test.YtogjgajabdiaaaaMem
import Derived.Test.YtogjgajabdiaaaaField
import Derived.Test.YtogjgajabdiaaaaVecMath
import Derived.Test.YtogjgajabdiaaaaSpanMath
import Derived.Test.YtogjgajabdiaaaaSpanList
import Derived.Test.YtogjgajabdiaaaaSpanTidy
import Derived.Test.YtogjgajabdiaaaaSpanMore
import Derived.Test.YtogjgajabdiaaaaSpanBy
import Derived.Test.YtogjgajabdiaaaaSpanWork
import Derived.Test.YtogjgajabdiaaaaInts
import Derived.Test.YtogjgajabdiaaaaTabs
import Derived.Test.YtogjgajabdiaaaaHelp
import Derived.Test.YtogjgajabdiaaaaVec
import Derived.Test.YtogjgajabdiaaaaVec2
import Derived.Test.YtogjgajabdiaaaaSpanHelp
import Derived.Test.YtogjgajabdiaaaaSpanHelp2
import Derived.Test.YtogjgajabdiaaaaSpanOk
import Derived.Test.YtogjgajabdiaaaaSpanLine
import Derived.Test.YtogjgajabdiaaaaSpanEch
import Derived.Test.YtogjgajabdiaaaaVecSpec
import Derived.Test.YtogjgajabdiaaaaSpanTake
import Derived.Test.YtogjgajabdiaaaaSpanProg
import Derived.Test.YtogjgajabdiaaaaSpanTops
import Derived.Test.YtogjgajabdiaaaaSpanSpec
import Derived.Test.YtogjgajabdiaaaaSpanSpec2
import Derived.Test.YtogjgajabdiaaaaSpanSpec3
import Derived.Test.YtogjgajabdiaaaaSpanSpec4
import Derived.Test.YtogjgajabdiaaaaSpanLaws
import Derived.Test.YtogjgajabdiaaaaDraw
import Derived.Test.YtogjgajabdiaaaaDrawField
import Derived.Test.YtogjgajabdiaaaaDrawVec
import Derived.Test.YtogjgajabdiaaaaDrawSpan
import Derived.Test.YtogjgajabdiaaaaDrawSpan2
namespace Go.Proofs.Ytogjgajabdiaaaa.fnSpanForm
open Go.ChangeShapes Go.WideShapes Go.ChangeAt Go.RowKit
open Go.ChangeMaps (open_string shut_string)
set_option linter.unusedVariables false

theorem own : ownKnob Try.prog.godebug = none := by kernel_rfl
theorem laidOut : laidOutB Try.prog = true := by kernel_rfl

/-- WHAT THE WALK IS TOLD OF A SLICE OF INTEGERS THAT CAME IN: it is nil; or it leads to a row of 'cap' cells, the numbers 'zs' (the first 'len' are its elements, the rest its spare room), each fitting its kind. -/
def IsRow (k : IntKind) (w : World) (a : Option Addr) (len cap : Nat) (zs : List Int) : Prop :=
  (a = none ∧ len = 0 ∧ cap = 0 ∧ zs = []) ∨
  ∃ x, a = some x ∧ len ≤ cap ∧ cap ≤ maxLen ∧ zs.length = cap ∧ (∀ i, i < zs.length → w.cell? (x.add i) = some (.int k (zs.getD i 0))) ∧ ∀ n ∈ zs, (Lit.int k n).wf = true

theorem walk (a0 : Option Addr) (len0 cap0 : Nat) (z0 : List Int) (a1 : Option Addr) (len1 cap1 : Nat) (z1 : List Int) (w : World) (w0 : IsRow .u8 w a0 len0 cap0 z0) (w1 : IsRow .u8 w a1 len1 cap1 z1) :
    Calls Try.prog 11 #[.slice a0 len0 cap0, .slice a1 len1 cap1] w fun e w' => e = .returned (.bool true) ∧ Below w.heap.size w w' := by
  have hc : Code w a0 len0 cap0 := code_of w0
  have hm : cap0 ≤ maxLen := hc.2.1
  have hl : len0 ≤ cap0 := hc.1
  unfold maxLen at hm
  have C := Lib.hid hc
  clear hc w0
  have hc1 : Code w a1 len1 cap1 := code_of w1
  have hm1 : cap1 ≤ maxLen := hc1.2.1
  have hl1 : len1 ≤ cap1 := hc1.1
  unfold maxLen at hm1
  clear hc1 w1
  by_cases hbig0 : (len0 : Int) > 1048576
  · go_enter Try.func11, Try.ntmps11
    go_wp2_with fail
    go_ret
    exact ⟨rfl, Below.refl _ _⟩
  by_cases hbig1 : (len1 : Int) > 1048576
  · go_enter Try.func11, Try.ntmps11
    go_wp2_with fail
    go_ret
    exact ⟨rfl, Below.refl _ _⟩
  obtain ⟨i0, hi, hz0, hz1, hz2⟩ := info_parts infoInts
  have I1 := Lib.hid hi
  have I2 := Lib.hid hz0
  have I3 := Lib.hid hz1
  have I4 := Lib.hid hz2
  clear hi hz0 hz1 hz2
  go_enter Try.func11, Try.ntmps11
  go_wp2_with fail
  refine (drawSpanOk a0 len0 cap0 _ C.out).mono ?_
  rintro e W1 ⟨mv, mus, m, rfl, hg, hm10, hst, hnn⟩
  obtain ⟨b, o, cap, rfl, h1, h2⟩ := drawn_form hst hnn
  unfold maxLen at h2
  have G1 := Lib.hid hg
  have ST := Lib.hid hst
  clear hg hst hnn
  have K1 := Lib.hid (implSpanOk _ mus m W1 ST.out.tab)
  have K2 := Lib.hid (specSpanOk _ mus m W1 ST.out.tab)
  cases hok : okM m with
  | false =>
    rw [hok] at K1 K2
    clear hok
    go_wp2_with fail
    refine K1.out.mono ?_
    rintro e w' ⟨rfl, rfl⟩
    go_wp2_with fail
    refine K2.out.mono ?_
    rintro e w' ⟨rfl, rfl⟩
    go_wp2_with fail
    refine K2.out.mono ?_
    rintro e w' ⟨rfl, rfl⟩
    go_wp2_with fail
    go_ret
    exact ⟨rfl, below_grown G1.out⟩
  | true =>
    have m8 := okM_len hok
    have HOK := Lib.hid hok
    rw [hok] at K1 K2
    clear hok
    go_wp2_with fail
    refine K1.out.mono ?_
    rintro e w' ⟨rfl, rfl⟩
    go_wp2_with fail
    refine K2.out.mono ?_
    rintro e w' ⟨rfl, rfl⟩
    obtain ⟨k, hk, hkm⟩ : ∃ k : Nat, (len1 : Int).tmod ((m.length : Int) + 1) = k ∧ k ≤ m.length := by
      refine ⟨len1 % (m.length + 1), ?_, by have := Nat.mod_lt len1 (show 0 < m.length + 1 by omega); omega⟩
      rw [Int.tmod_eq_emod_of_nonneg (by omega)]; simp
    have hnz : ¬ ((m.length : Int) + 1 = 0) := by omega
    have hk0 : (0 : Int) ≤ (k : Int) := by omega
    have hkc : (k : Int) ≤ (cap : Int) := by omega
    have TT := Lib.hid ST.out.tab
    have TK := Lib.hid (TT.out.take hkm)
    have O0 := Lib.hid (STab.made W1 W1.heap.size (Nat.le_refl _)).top
    have TK0 : Hid (Tab (W1.alloc (.cells #[] 29)) (.slice (some ⟨b, o, none⟩) k cap) (mus.take k) (m.take k)) := Lib.hid (TK.out.grown (World.grownBy_alloc _ _ _))
    have RK : Hid (∀ (i : Nat) (u : Value) (l : List Int), (mus.take k)[i]? = some u → (m.take k)[i]? = some l → Sl (W1.alloc (.cells #[] 29)) u l ∧ IntRow (W1.alloc (.cells #[] 29)) u) := Lib.hid (fun i u l hu hl => by
      have := (stab_take ST.out k).2 i u l hu hl
      exact ⟨this.1.grown (World.grownBy_alloc _ _ _), this.2.still (World.grownBy_alloc _ _ _)⟩)
    have LK : Hid ((mus.take k).length = k) := Lib.hid (by rw [(stab_take ST.out k).1, List.length_take]; omega)
    go_wp2_with (first
      | (at_builtin; refine wpList_append_own _ rfl _ _ 23 rfl W1.heap.size 29 i0 (.slice none 0 0) 1 24 Try.underlying23 I1.out I2.out I3.out I4.out rfl (by decide) _ _ _ rfl O0.out ⟨b, o, none⟩ k cap (mus.take k) rfl (by rw [LK.out]; omega) ?c1 ?c2 ?c3 ?c4 ?c5 ?_))
    case c1 => exact tab_cells TK0.out
    case c2 => exact tab_one TK0.out
    case c3 => unfold maxLen; simp; omega
    case c4 => simp; omega
    case c5 => simp
    intro o2 W2 ho hg _
    have SC : Hid (STab W2 W1.heap.size o2 (mus.take k) (m.take k)) := Lib.hid (stab_copy O0.out (stab_take ST.out k).1 RK.out hg ho (by rw [LK.out]; try simp))
    have G2 : Hid (W1.grownBy W2 none) := Lib.hid (grown_own (grown_alloc (World.grownBy.refl _ _) _) hg (fun j hj => (World.ownsRow.lt O0.out j hj).1))
    clear ho hg O0 TK0 RK
    have OW : Hid (Own (W2.alloc (.cells #[.int .i64 1, .int .i64 2, .int .i64 3] 3)) W2.heap.size (.slice (some ⟨W2.heap.size, 0, none⟩) 3 3) [1, 2, 3]) := Lib.hid ((Arr.new W2 3 [1, 2, 3]).own rfl _ (Nat.le_refl _) (by simp [maxLen]))
    have SC2 := Lib.hid (SC.out.still (World.grownBy_alloc W2 (.cells #[.int .i64 1, .int .i64 2, .int .i64 3] 3) none))
    have TOP := Lib.hid SC2.out.top
    have sz : W1.heap.size ≤ W2.heap.size := G2.out.size
    have lk := LK.out
    have lk9 : (mus.take k).length ≤ 9 := by omega
    clear lk
    go_wp2_with (first
      | (at_builtin; refine wpList_append_own _ rfl _ _ 23 rfl W1.heap.size 29 i0 (.slice none 0 0) 1 24 Try.underlying23 I1.out I2.out I3.out I4.out rfl (by decide) _ _ _ rfl (World.ownsRow.alloc TOP.out _) ⟨W2.heap.size + 1, 0, none⟩ 1 1 [.slice (some ⟨W2.heap.size, 0, none⟩) 3 3] rfl rfl (one_cell_at (by simp)) (by simp [Value.oneCell']) ?d3 ?d4 ?d5 ?_))
    case d3 => unfold maxLen; omega
    case d4 => omega
    case d5 => simp only [World.size_alloc]; omega
    intro o3 W3 ho hg _
    have SB : Hid (STab W3 W1.heap.size o3 (mus.take k ++ [.slice (some ⟨W2.heap.size, 0, none⟩) 3 3]) (m.take k ++ [[1, 2, 3]])) := Lib.hid (SC2.out.snoc (World.grownBy.refl _ _) ⟨OW.out.sl, OW.out.intRow⟩ (grown_trans (World.grownBy_alloc _ _ _) hg) ho (by simp) rfl)
    have G3 : Hid (W1.grownBy W3 none) := Lib.hid (grown_own (grown_alloc (grown_alloc G2.out _) _) hg (fun j hj => (World.ownsRow.lt TOP.out j hj).1))
    clear ho hg TOP SC SC2 OW
    have Z1 := Lib.hid (implSpanOk _ (mus.take k) (m.take k) W3 (TK.out.grown G3.out))
    rw [okM_take HOK.out k] at Z1
    have Z3 := Lib.hid (implSpanOk _ _ _ W3 SB.out.tab)
    rw [okM_bad] at Z3
    have m8' : (m.length : Int) ≤ 8 := by omega
    have hkm' : (k : Int) ≤ (m.length : Int) := by omega
    go_wp2_with fail
    refine Z1.out.mono ?_
    rintro e w' ⟨rfl, rfl⟩
    by_cases hck : cap = k
    · have ZE : Hid (∀ a, Calls Try.prog 42 #[.slice a 0 0] W3 fun e w' => e = .returned (.bool true) ∧ W3 = w') := Lib.hid (fun a => implSpanOk (.slice a 0 0) [] [] W3 ⟨rfl, ⟨a, 0, rfl, by simp, by simp [maxLen], .inl rfl⟩, by simp⟩)
      have hmk : m.length = k := by omega
      have hk8 : (k : Int) ≤ 8 := by omega
      go_wp2_with fail
      refine (ZE.out _).mono ?_
      rintro e w' ⟨rfl, rfl⟩
      go_wp2_with fail
      refine Z3.out.mono ?_
      rintro e w' ⟨rfl, rfl⟩
      go_wp2_with fail
      go_ret
      exact ⟨rfl, below_grown (grown_trans G1.out G3.out)⟩
    · have Z2 := Lib.hid (implSpanOk _ (mus.drop k) (m.drop k) W3 ((TT.out.grown G3.out).drop (a := some ⟨b, o + k, none⟩) hkm (fun _ => rfl)))
      rw [okM_drop HOK.out k] at Z2
      go_wp2_with fail
      refine Z2.out.mono ?_
      rintro e w' ⟨rfl, rfl⟩
      go_wp2_with fail
      refine Z3.out.mono ?_
      rintro e w' ⟨rfl, rfl⟩
      go_wp2_with fail
      go_ret
      exact ⟨rfl, below_grown (grown_trans G1.out G3.out)⟩

set_option maxRecDepth 100000 in
theorem lifted (os : Os) (started : os.Started) (H : Type) (enc : TypeId × Value → H) :
    ReturnsInHanded {} Try.checked os 11 .any (Rows.fnSpanFormSpec.pre6 enc Try.prog Try.f11 Rows.fnSpanFormRow.domain false) (Rows.fnSpanFormSpec.post enc Try.prog Try.f11 false true false false) := by
  refine returnsInHanded_of_change (C := Try.checked) own started (by kernel_rfl) Try.func11
    (ChangeSpec.witness6 (enc := enc) (C := Try.checked) false ⟨#[], #[.slice none 0 0, .slice none 0 0], []⟩ 8 (by kernel_rfl) (by kernel_rfl) (by kernel_rfl) (by kernel_rfl)) ?_
  intro W base args ds gs before hval0 hW hcnd _
  have hval : ∀ (j : Nat) t v, Try.f11.params[j]? = some t → args[j]? = some v → Value.okWide Try.prog W .any base t v := hval0
  have hW' := hW
  obtain ⟨p, q, hA0, hV, rfl, hfz, hnd⟩ := hW
  have hA : DataW.TrodAll enc Try.prog W 0 (fun _ => true) true Try.f11.params.toList args.toList ds p := hA0
  rw [Try.params11] at hA hval
  obtain ⟨v0, vs0, d0, ds0, p0, q0, hargs, rfl, rfl, h0, r0⟩ := trodAll_cons hA
  obtain ⟨v1, vs1, d1, ds1, p1, q1, rfl, rfl, rfl, h1, r1⟩ := trodAll_cons r0
  obtain ⟨rfl, rfl, rfl⟩ := trodAll_nil r1
  obtain rfl : args = #[v0, v1] := by cases args; simp_all
  obtain ⟨rfl, rfl⟩ := trodVars_none hV
  obtain ⟨a0, len0, cap0, rfl⟩ := okWide_slice Try.underlying22 (hval 0 22 v0 rfl rfl)
  have k0 := h0
  have lt0 : ∀ x ∈ p0, x.block < W.heap.size := by obtain ⟨m, hm⟩ := k0; exact DataW.trod_lt m _ _ _ hm
  obtain ⟨z0, w0⟩ : ∃ zs, IsRow .u8 W a0 len0 cap0 zs := by
    obtain ⟨fuel, hf⟩ := h0
    rcases open_ints Try.underlying22 Try.underlying5 (by kernel_rfl) hf with ⟨hcs, _⟩ | ⟨x, l, c, zs, hcs, _, hl, hm, hz, _, hcell, hwz⟩
    · simp [Value.cells] at hcs
      obtain ⟨rfl, rfl, rfl⟩ := hcs
      exact ⟨[], .inl ⟨rfl, rfl, rfl, rfl⟩⟩
    · simp [Value.cells] at hcs
      obtain ⟨rfl, rfl, rfl⟩ := hcs
      exact ⟨zs, .inr ⟨_, rfl, hl, hm, by simpa using hz, hcell, hwz⟩⟩
  obtain ⟨a1, len1, cap1, rfl⟩ := okWide_slice Try.underlying22 (hval 1 22 v1 rfl rfl)
  have k1 := h1
  have lt1 : ∀ x ∈ p1, x.block < W.heap.size := by obtain ⟨m, hm⟩ := k1; exact DataW.trod_lt m _ _ _ hm
  obtain ⟨z1, w1⟩ : ∃ zs, IsRow .u8 W a1 len1 cap1 zs := by
    obtain ⟨fuel, hf⟩ := h1
    rcases open_ints Try.underlying22 Try.underlying5 (by kernel_rfl) hf with ⟨hcs, _⟩ | ⟨x, l, c, zs, hcs, _, hl, hm, hz, _, hcell, hwz⟩
    · simp [Value.cells] at hcs
      obtain ⟨rfl, rfl, rfl⟩ := hcs
      exact ⟨[], .inl ⟨rfl, rfl, rfl, rfl⟩⟩
    · simp [Value.cells] at hcs
      obtain ⟨rfl, rfl, rfl⟩ := hcs
      exact ⟨zs, .inr ⟨_, rfl, hl, hm, by simpa using hz, hcell, hwz⟩⟩
  clear hA0 hval0
  refine (walk a0 len0 cap0 z0 a1 len1 cap1 z1 W w0 w1).mono fun e W' ⟨he, bel⟩ => ?_
  subst he
  exact ⟨_, rfl, _, _, _, [], _, [], hW', trodAll_mk1 (shut_bool Try.underlying4 _), (trodAll_cons_mk (Below.trod laidOut (by kernel_rfl) (of_decide_eq_true (by kernel_rfl)) k0 bel lt0) (trodAll_cons_mk (Below.trod laidOut (by kernel_rfl) (of_decide_eq_true (by kernel_rfl)) k1 bel lt1) trodAll_mk0)), rfl, bel.frame _, fun h => by cases h⟩

theorem over : Rows.fnSpanFormRow.holds Try.pinned (OpenSpec.ofChange Rows.fnSpanFormSpec) :=
  OpenClaim.holds_of_wide 11 Try.f11 rfl rfl rfl rfl rfl rfl rfl ⟨rfl, rfl, rfl, rfl, rfl⟩ rfl rfl rfl rfl rfl (by kernel_rfl) Try.func11 (by kernel_rfl)
    (of_decide_eq_true (by kernel_rfl)) (by unfold Func.isWrapper; first | (rw [if_pos (by decide +kernel)]; kernel_rfl) | (rw [if_neg (by decide +kernel)]; exact ⟨rfl, rfl⟩))
    (fun os started H enc _ => lifted os started H enc)

theorem proved : Rows.FnSpanFormSaid := over
#print axioms proved
end Go.Proofs.Ytogjgajabdiaaaa.fnSpanForm
