/-
  From whatever bytes a patch is drawn, it is ok if it is of one of four places and changes something, by less than there are numbers; just then it does something, and is undone by what is left: the law FnPatchForm returns true.
  Conditions: none.
-/
import Derived.Test.YthglkgicckodaaaRows
import Derived.WalkKit
import Derived.ProofKit
import Derived.OpenShut
import Derived.ShutString
import Derived.ChangeOld
import Derived.Below
import Derived.Test.YthglkgicckodaaaG1
import Derived.Test.YthglkgicckodaaaAppendZeros
import Derived.Test.YthglkgicckodaaaG2
import Derived.Test.YthglkgicckodaaaG3
import Derived.Test.YthglkgicckodaaaPatchTab
import Derived.Test.YthglkgicckodaaaPatchMath
import Derived.Test.YthglkgicckodaaaPatchHelp
import Derived.Test.YthglkgicckodaaaPatchMark
import Derived.Test.YthglkgicckodaaaReadTake
import Derived.Test.YthglkgicckodaaaPatchP
import Derived.Test.YthglkgicckodaaaPatchP2
import Derived.Test.YthglkgicckodaaaPatchP3
import Derived.Test.YthglkgicckodaaaPatchP4
import Derived.Test.YthglkgicckodaaaPatchS
import Derived.Test.YthglkgicckodaaaPatchS2
import Derived.Test.YthglkgicckodaaaDrawRow3
import Derived.Test.YthglkgicckodaaaDrawPatch
import Derived.Test.YthglkgicckodaaaDrawPatch2
import Derived.Test.YthglkgicckodaaaPatchMath2
import Derived.Test.YthglkgicckodaaaPatchLk
namespace Go.Proofs.Ythglkgicckodaaa.fnPatchForm
open Go.ChangeShapes Go.WideShapes Go.ChangeAt Go.RowKit
open Go.ChangeMaps (open_string shut_string)
set_option linter.unusedVariables false

theorem own : ownKnob Try.prog.godebug = none := by kernel_rfl
theorem laidOut : laidOutB Try.prog = true := by kernel_rfl

/-- WHAT THE WALK IS TOLD OF A SLICE OF INTEGERS THAT CAME IN: it is nil; or it leads to a row of 'cap' cells, the numbers 'zs' (the first 'len' are its elements, the rest its spare room), each fitting its kind. -/
def IsRow (k : IntKind) (w : World) (a : Option Addr) (len cap : Nat) (zs : List Int) : Prop :=
  (a = none ∧ len = 0 ∧ cap = 0 ∧ zs = []) ∨
  ∃ x, a = some x ∧ len ≤ cap ∧ cap ≤ maxLen ∧ zs.length = cap ∧ (∀ i, i < zs.length → w.cell? (x.add i) = some (.int k (zs.getD i 0))) ∧ ∀ n ∈ zs, (Lit.int k n).wf = true

theorem psl_one (w : World) (p x : Int) : PSl (w.alloc (.cells #[.int .i64 p, .int .i64 x] 32)) (.slice (some ⟨w.heap.size, 0, none⟩) 1 1) [⟨p, x⟩] := by
  refine ⟨_, 1, rfl, Nat.le_refl _, by simp [maxLen], .inr ⟨w.heap.size, 0, rfl, fun i hi => ?_⟩⟩
  rw [cell_of_row _ w.heap.size (0 + i) _ 32 (0, 0) (heap_alloc_new w _)]
  have h2 : i < 2 := hi
  match i, h2 with
  | 0, _ => rfl
  | 1, _ => rfl
theorem sl_form {w : World} {v : Value} {l : List Int} (h : Sl w v l) : ∃ a c, v = .slice a l.length c ∧ l.length ≤ c ∧ c ≤ maxLen := by
  obtain ⟨a, c, e, h1, h2, _⟩ := h
  exact ⟨a, c, e, h1, h2⟩
/-- where the drawn patch lies. -/
theorem pat_laid (w : World) (p x : Int) : Arr ((((w.alloc (.cells #[.int .i64 0, .int .i64 0] 32)).setCell ⟨w.heap.size, 0, none⟩ (.int .i64 p)).setCell ⟨w.heap.size, 1, none⟩ (.int .i64 x))) w.heap.size 32 [p, x] :=
  (show Arr (w.alloc (.cells #[.int .i64 0, .int .i64 0] 32)) w.heap.size 32 [0, 0] from heap_alloc_new _ _).two p x

set_option maxHeartbeats 8000000 in
set_option maxRecDepth 20000 in
theorem walk (a0 : Option Addr) (len0 cap0 : Nat) (z0 : List Int) (a1 : Option Addr) (len1 cap1 : Nat) (z1 : List Int) (w : World) (w0 : IsRow .u8 w a0 len0 cap0 z0) (w1 : IsRow .u8 w a1 len1 cap1 z1) :
    Calls Try.prog 5 #[.slice a0 len0 cap0, .slice a1 len1 cap1] w fun e w' => e = .returned (.bool true) ∧ Below w.heap.size w w' := by
  have hc : Code w a0 len0 cap0 := code_of w0
  have hm0 : cap0 ≤ maxLen := hc.2.1
  have hl0 : len0 ≤ cap0 := hc.1
  unfold maxLen at hm0
  have C := Lib.hid hc
  clear hc w0
  have hc1 : Code w a1 len1 cap1 := code_of w1
  have hm1 : cap1 ≤ maxLen := hc1.2.1
  have hl1 : len1 ≤ cap1 := hc1.1
  unfold maxLen at hm1
  clear hc1 w1
  by_cases hbig0 : (len0 : Int) > 1048576
  · go_enter Try.func5, Try.ntmps5
    go_wp2_with fail
    go_ret
    exact ⟨rfl, Below.refl _ _⟩
  by_cases hbig1 : (len1 : Int) > 1048576
  · go_enter Try.func5, Try.ntmps5
    go_wp2_with fail
    go_ret
    exact ⟨rfl, Below.refl _ _⟩
  obtain ⟨dl, hdl⟩ : ∃ dl, Vec.lk (len1 : Int) = dl := ⟨_, rfl⟩
  have VO := Lib.hid (show Vec.ok dl = true by rw [← hdl]; exact Vec.lk_is _)
  have LK := Lib.hid (fun (W : World) => hdl ▸ lkVec (len1 : Int) W (by omega) (by omega))
  clear hdl
  go_enter Try.func5, Try.ntmps5
  go_wp2_with fail
  refine (drawPatchOk a0 len0 cap0 _ C.out).mono ?_
  rintro e w1 ⟨⟨p, x⟩, rfl, p0, p1, x0, x1, hg⟩
  dsimp only at p0 p1 x0 x1 ⊢
  have G1 := Lib.hid hg
  clear hg C
  obtain ⟨q, hq⟩ : ∃ q, patOk ⟨p, x⟩ = q := ⟨_, rfl⟩
  have IP := Lib.hid (fun (W : World) => hq ▸ implPatchOk p x W)
  have SP := Lib.hid (fun (W : World) => hq ▸ specPatchOk p x W)
  have QQ := Lib.hid hq
  clear hq
  have KA : Hid (Arr (w1.alloc (.cells #[.int .i64 p, .int .i64 x] 32)) w1.heap.size 32 [p, x]) := Lib.hid (heap_alloc_new _ _)
  have G2 := Lib.hid (grown_alloc G1.out (.cells #[.int .i64 p, .int .i64 x] 32))
  clear G1
  go_wp2_with fail
  generalize w1.alloc (.cells #[.int .i64 p, .int .i64 x] 32) = W2 at *
  generalize w1.heap.size = g at *
  refine (IP.out _).mono ?_
  rintro e w3 ⟨rfl, hg⟩
  have G3 := Lib.hid (grown_trans G2.out hg)
  have KB := Lib.hid (KA.out.still hg)
  clear hg KA G2
  have z0 := KB.out.cell (i := 0) (by simp)
  have z1 := KB.out.cell (i := 1) (by simp)
  go_wp2_with fail
  clear z0 z1
  refine (SP.out _).mono ?_
  rintro e w4 ⟨rfl, hg⟩
  have G4 := Lib.hid (grown_trans G3.out hg)
  have KC := Lib.hid (KB.out.still hg)
  clear hg KB G3
  have nq : (q != q) = false := by simp
  go_wp2_with fail
  refine (LK.out _).mono ?_
  rintro e w5 ⟨v, rfl, hg, ho⟩
  have G5 := Lib.hid (grown_trans G4.out hg)
  have KD := Lib.hid (KC.out.still hg)
  have D5 := Lib.hid ho.sl
  clear hg ho KC G4
  have z0 := KD.out.cell (i := 0) (by simp)
  have z1 := KD.out.cell (i := 1) (by simp)
  go_wp2_with fail
  have P5 := Lib.hid (psl_one w5 p x)
  have G6 := Lib.hid (grown_alloc G5.out (.cells #[.int .i64 p, .int .i64 x] 32))
  have KE := Lib.hid (KD.out.still (grown_alloc (World.grownBy.refl w5 none) (.cells #[.int .i64 p, .int .i64 x] 32)))
  have D6 := Lib.hid (D5.out.grown (grown_alloc (World.grownBy.refl w5 none) (.cells #[.int .i64 p, .int .i64 x] 32)))
  clear z0 z1 KD D5 G5
  refine (implPatchData v _ dl [⟨p, x⟩] _ D6.out P5.out).mono ?_
  rintro e w7 ⟨v7, rfl, hg, ho⟩
  have G7 := Lib.hid (grown_trans G6.out hg)
  have K7 := Lib.hid (KE.out.still hg)
  have D7 := Lib.hid (D6.out.grown hg)
  clear hg KE D6 G6 P5
  have z0 := K7.out.cell (i := 0) (by simp)
  have z1 := K7.out.cell (i := 1) (by simp)
  have S7 := Lib.hid ho.sl
  clear ho
  cases q
  · rw [patD_bad QQ.out] at S7
    obtain ⟨a7, c7, rfl, _, _⟩ := sl_form S7.out
    have NO := QQ.out
    rw [← Bool.not_eq_true, patOk_iff] at NO
    simp only at NO
    have NP := Lib.hid NO
    clear NO
    by_cases h0 : p ≥ 0
    rotate_left
    · go_wp2_with fail
      go_ret
      exact ⟨rfl, below_grown G7.out⟩
    by_cases h1 : p < 4
    rotate_left
    · go_wp2_with fail
      go_ret
      exact ⟨rfl, below_grown G7.out⟩
    by_cases h2 : x > 0
    rotate_left
    · go_wp2_with fail
      go_ret
      exact ⟨rfl, below_grown G7.out⟩
    by_cases h3 : x < 31
    · exact absurd ⟨by omega, by omega, by omega, by omega⟩ NP.out
    · go_wp2_with fail
      go_ret
      exact ⟨by show Ending.returned (Value.bool (!decide (x < 31))) = _; rw [decide_eq_false (show ¬ x < 31 by omega)]; rfl, below_grown G7.out⟩
  · have hx := patOk_iff.1 QQ.out
    simp only at hx
    obtain ⟨h0, h1, h2, h3⟩ := hx
    have h2 : x > 0 := by omega
    have h3 : x < 31 := by omega
    have h0 : p ≥ 0 := h0
    rw [patD_one VO.out QQ.out] at S7
    obtain ⟨m, hm⟩ : ∃ m, patOne dl ⟨p, x⟩ = m := ⟨_, rfl⟩
    have NE := Lib.hid (show m ≠ dl by rw [← hm]; exact patOne_ne VO.out QQ.out)
    have BK := Lib.hid (show patD m [⟨p, 31 - x⟩] = dl by rw [← hm]; exact patD_back VO.out QQ.out)
    have M4 : m.length = 4 := by rw [← hm, patOne_len]; exact Vec.ok_len VO.out
    rw [hm] at S7
    clear hm
    obtain ⟨a7, c7, rfl, _, _⟩ := sl_form S7.out
    rw [M4] at S7 ⊢
    go_wp2_with fail
    refine (lkDiffer _ _ m dl _ S7.out D7.out NE.out).mono ?_
    rintro e w8 ⟨rfl, hg⟩
    have G8 := Lib.hid (grown_trans G7.out hg)
    have K8 := Lib.hid (K7.out.still hg)
    have D8 := Lib.hid (D7.out.grown hg)
    have S8 := Lib.hid (S7.out.grown hg)
    clear hg z0 z1 K7 D7 S7 G7
    have z0 := K8.out.cell (i := 0) (by simp)
    have z1 := K8.out.cell (i := 1) (by simp)
    go_wp2_with fail
    have P8 := Lib.hid (psl_one w8 p (31 - x))
    have GA := Lib.hid (grown_alloc (World.grownBy.refl w8 none) (.cells #[.int .i64 p, .int .i64 (31 - x)] 32))
    refine (implPatchData _ _ m [⟨p, 31 - x⟩] _ (S8.out.grown GA.out) P8.out).mono ?_
    rintro e w9 ⟨v9, rfl, hg, ho⟩
    rw [BK.out] at ho
    have S9 := Lib.hid ho.sl
    have G9 := Lib.hid (grown_trans (grown_trans G8.out GA.out) hg)
    have D9 := Lib.hid ((D8.out.grown GA.out).grown hg)
    clear hg ho z0 z1 K8 D8 S8 G8 P8 GA
    go_wp2_with fail
    refine (lkSame _ _ dl _ S9.out D9.out).mono ?_
    rintro e w10 ⟨rfl, hg⟩
    have G10 := Lib.hid (grown_trans G9.out hg)
    clear hg
    go_wp2_with fail
    go_ret
    exact ⟨rfl, below_grown G10.out⟩

set_option maxRecDepth 100000 in
theorem lifted (os : Os) (started : os.Started) (H : Type) (enc : TypeId × Value → H) :
    ReturnsInHanded {} Try.checked os 5 .any (Rows.fnPatchFormSpec.pre6 enc Try.prog Try.f5 Rows.fnPatchFormRow.domain false) (Rows.fnPatchFormSpec.post enc Try.prog Try.f5 false true false false) := by
  refine returnsInHanded_of_change (C := Try.checked) own started (by kernel_rfl) Try.func5
    (ChangeSpec.witness6 (enc := enc) (C := Try.checked) false ⟨#[], #[.slice none 0 0, .slice none 0 0], []⟩ 8 (by kernel_rfl) (by kernel_rfl) (by kernel_rfl) (by kernel_rfl)) ?_
  intro W base args ds gs before hval0 hW hcnd _
  have hval : ∀ (j : Nat) t v, Try.f5.params[j]? = some t → args[j]? = some v → Value.okWide Try.prog W .any base t v := hval0
  have hW' := hW
  obtain ⟨p, q, hA0, hV, rfl, hfz, hnd⟩ := hW
  have hA : DataW.TrodAll enc Try.prog W 0 (fun _ => true) true Try.f5.params.toList args.toList ds p := hA0
  rw [Try.params5] at hA hval
  obtain ⟨v0, vs0, d0, ds0, p0, q0, hargs, rfl, rfl, h0, r0⟩ := trodAll_cons hA
  obtain ⟨v1, vs1, d1, ds1, p1, q1, rfl, rfl, rfl, h1, r1⟩ := trodAll_cons r0
  obtain ⟨rfl, rfl, rfl⟩ := trodAll_nil r1
  obtain rfl : args = #[v0, v1] := by cases args; simp_all
  obtain ⟨rfl, rfl⟩ := trodVars_none hV
  obtain ⟨a0, len0, cap0, rfl⟩ := okWide_slice Try.underlying22 (hval 0 22 v0 rfl rfl)
  have k0 := h0
  have lt0 : ∀ x ∈ p0, x.block < W.heap.size := by obtain ⟨m, hm⟩ := k0; exact DataW.trod_lt m _ _ _ hm
  obtain ⟨z0, w0⟩ : ∃ zs, IsRow .u8 W a0 len0 cap0 zs := by
    obtain ⟨fuel, hf⟩ := h0
    rcases open_ints Try.underlying22 Try.underlying5 (by kernel_rfl) hf with ⟨hcs, _⟩ | ⟨x, l, c, zs, hcs, _, hl, hm, hz, _, hcell, hwz⟩
    · simp [Value.cells] at hcs
      obtain ⟨rfl, rfl, rfl⟩ := hcs
      exact ⟨[], .inl ⟨rfl, rfl, rfl, rfl⟩⟩
    · simp [Value.cells] at hcs
      obtain ⟨rfl, rfl, rfl⟩ := hcs
      exact ⟨zs, .inr ⟨_, rfl, hl, hm, by simpa using hz, hcell, hwz⟩⟩
  obtain ⟨a1, len1, cap1, rfl⟩ := okWide_slice Try.underlying22 (hval 1 22 v1 rfl rfl)
  have k1 := h1
  have lt1 : ∀ x ∈ p1, x.block < W.heap.size := by obtain ⟨m, hm⟩ := k1; exact DataW.trod_lt m _ _ _ hm
  obtain ⟨z1, w1⟩ : ∃ zs, IsRow .u8 W a1 len1 cap1 zs := by
    obtain ⟨fuel, hf⟩ := h1
    rcases open_ints Try.underlying22 Try.underlying5 (by kernel_rfl) hf with ⟨hcs, _⟩ | ⟨x, l, c, zs, hcs, _, hl, hm, hz, _, hcell, hwz⟩
    · simp [Value.cells] at hcs
      obtain ⟨rfl, rfl, rfl⟩ := hcs
      exact ⟨[], .inl ⟨rfl, rfl, rfl, rfl⟩⟩
    · simp [Value.cells] at hcs
      obtain ⟨rfl, rfl, rfl⟩ := hcs
      exact ⟨zs, .inr ⟨_, rfl, hl, hm, by simpa using hz, hcell, hwz⟩⟩
  clear hA0 hval0
  refine (walk a0 len0 cap0 z0 a1 len1 cap1 z1 W w0 w1).mono fun e W' ⟨he, bel⟩ => ?_
  subst he
  exact ⟨_, rfl, _, _, _, [], _, [], hW', trodAll_mk1 (shut_bool Try.underlying4 _), (trodAll_cons_mk (Below.trod laidOut (by kernel_rfl) (of_decide_eq_true (by kernel_rfl)) k0 bel lt0) (trodAll_cons_mk (Below.trod laidOut (by kernel_rfl) (of_decide_eq_true (by kernel_rfl)) k1 bel lt1) trodAll_mk0)), rfl, bel.frame _, fun h => by cases h⟩

theorem over : Rows.fnPatchFormRow.holds Try.pinned (OpenSpec.ofChange Rows.fnPatchFormSpec) :=
  OpenClaim.holds_of_wide 5 Try.f5 rfl rfl rfl rfl rfl rfl rfl ⟨rfl, rfl, rfl, rfl, rfl⟩ rfl rfl rfl rfl rfl (by kernel_rfl) Try.func5 (by kernel_rfl)
    (of_decide_eq_true (by kernel_rfl)) (by unfold Func.isWrapper; first | (rw [if_pos (by decide +kernel)]; kernel_rfl) | (rw [if_neg (by decide +kernel)]; exact ⟨rfl, rfl⟩))
    (fun os started H enc _ => lifted os started H enc)

theorem proved : Rows.FnPatchFormSaid := over
#print axioms proved
end Go.Proofs.Ythglkgicckodaaa.fnPatchForm
