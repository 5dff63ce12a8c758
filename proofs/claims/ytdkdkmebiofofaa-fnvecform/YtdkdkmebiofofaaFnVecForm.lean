/-
  From whatever bytes numbers are drawn, VecOk answers as its model does, and a row is no longer one with an element more or less or with an invalid element: the law FnVecForm returns true.
  Conditions: none.
-/
import Derived.Test.YtdkdkmebiofofaaRows
import Derived.WalkKit
import Derived.ProofKit
import Derived.OpenShut
import Derived.ShutString
import Derived.ChangeOld
import Derived.Below
import Derived.Test.YtdkdkmebiofofaaFldMath
import Derived.Test.YtdkdkmebiofofaaMem
import Derived.Test.YtdkdkmebiofofaaField
import Derived.Test.YtdkdkmebiofofaaVecMath
import Derived.Test.YtdkdkmebiofofaaInts
import Derived.Test.YtdkdkmebiofofaaHelp
import Derived.Test.YtdkdkmebiofofaaVec
import Derived.Test.YtdkdkmebiofofaaVec2
import Derived.Test.YtdkdkmebiofofaaVecSpec
import Derived.Test.YtdkdkmebiofofaaDraw
import Derived.Test.YtdkdkmebiofofaaDrawField
import Derived.Test.YtdkdkmebiofofaaDrawVec
namespace Go.Proofs.Ytdkdkmebiofofaa.fnVecForm
open Go.ChangeShapes Go.WideShapes Go.ChangeAt Go.RowKit
open Go.ChangeMaps (open_string shut_string)
set_option linter.unusedVariables false

theorem own : ownKnob Try.prog.godebug = none := by kernel_rfl
theorem laidOut : laidOutB Try.prog = true := by kernel_rfl

/-- WHAT THE WALK IS TOLD OF A SLICE OF INTEGERS THAT CAME IN: it is nil; or it leads to a row of 'cap' cells, the numbers 'zs' (the first 'len' are its elements, the rest its spare room), each fitting its kind. -/
def IsRow (k : IntKind) (w : World) (a : Option Addr) (len cap : Nat) (zs : List Int) : Prop :=
  (a = none ∧ len = 0 ∧ cap = 0 ∧ zs = []) ∨
  ∃ x, a = some x ∧ len ≤ cap ∧ cap ≤ maxLen ∧ zs.length = cap ∧ (∀ i, i < zs.length → w.cell? (x.add i) = some (.int k (zs.getD i 0))) ∧ ∀ n ∈ zs, (Lit.int k n).wf = true

theorem wpList_if {P : Program} {ops : Array Oper} {Q : Exit → Act → World → Prop} {a : Act} {w : World} {rest : List Oper} {o : Oper} (hw : Region.wanted o (yielded ops a.tmps) = true) (h : o.wp P a w (wpList P ops Q rest) Q) : wpList P ops Q (o :: rest) a w := by
  unfold wpList
  rw [if_pos hw]
  exact .inl h

theorem sl_tail4 {w : World} {b o cv : Nat} {x y z t : Int} (h : Sl w (.slice (some ⟨b, o, none⟩) 4 cv) [x, y, z, t]) : Sl w (.slice (some ⟨b, o + 1, none⟩) 3 (cv - 1)) [y, z, t] := by
  obtain ⟨b', o', cap, e, h1, h2, _, _, c1, c2, c3⟩ := h.four
  injection e with e1 e2 e3
  injection e1 with e1
  injection e1 with e1 e4
  subst e1 e3 e4
  refine ⟨_, cv - 1, rfl, by simp; omega, by omega, .inr ⟨b, o + 1, rfl, fun i hi => ?_⟩⟩
  match i, hi with
  | 0, _ => exact c1
  | 1, _ => exact c2
  | 2, _ => exact c3
theorem no_len {l : List Int} {n : Nat} (h : l.length = n) (hn : n ≠ 4) : Vec.ok l = false := Vec.ok_no_len (by omega)
theorem no_set {l : List Int} {k : Nat} (h : k < l.length) : Vec.ok (l.set k 31) = false :=
  Vec.ok_no_get (i := k) (by rw [List.length_set]; exact h) (by simp [List.getD_eq_getElem?_getD, h]; rfl)

theorem walk (a0 : Option Addr) (len0 cap0 : Nat) (z0 : List Int) (a1 : Option Addr) (len1 cap1 : Nat) (z1 : List Int) (w : World) (w0 : IsRow .u8 w a0 len0 cap0 z0) (w1 : IsRow .u8 w a1 len1 cap1 z1) :
    Calls Try.prog 8 #[.slice a0 len0 cap0, .slice a1 len1 cap1] w fun e w' => e = .returned (.bool true) ∧ Below w.heap.size w w' := by
  have hc : Code w a0 len0 cap0 := code_of w0
  have hm : cap0 ≤ maxLen := hc.2.1
  have hl : len0 ≤ cap0 := hc.1
  unfold maxLen at hm
  have C := Lib.hid hc
  clear hc w0
  have hc1 : Code w a1 len1 cap1 := code_of w1
  have hm1 : cap1 ≤ maxLen := hc1.2.1
  have hl1 : len1 ≤ cap1 := hc1.1
  unfold maxLen at hm1
  clear hc1 w1
  by_cases hbig0 : (len0 : Int) > 1048576
  · go_enter Try.func8, Try.ntmps8
    go_wp2_with fail
    go_ret
    exact ⟨rfl, Below.refl _ _⟩
  by_cases hbig1 : (len1 : Int) > 1048576
  · go_enter Try.func8, Try.ntmps8
    go_wp2_with fail
    go_ret
    exact ⟨rfl, Below.refl _ _⟩
  have L0 := Lib.hid (Seen.start w)
  go_enter Try.func8, Try.ntmps8
  go_wp2_with fail
  refine (drawVecOk a0 len0 cap0 _ C.out).mono ?_
  rintro e W1 ⟨v, l, rfl, hn, hl5, hg, hs⟩
  have L1 := Lib.hid ((L0.out.still hg).add hs)
  clear hg hs L0 hn
  go_wp2_with fail
  refine (implVecOk v l _ (L1.out.sl (v, l) (by simp))).mono ?_
  rintro e w' ⟨rfl, rfl⟩
  cases hok : Vec.ok l
  · have HK := Lib.hid hok
    clear hok
    go_wp2_with fail
    refine (specVecOk v l _ (L1.out.sl (v, l) (by simp))).mono ?_
    rintro e w' ⟨rfl, rfl⟩
    rw [HK.out]
    go_wp2_with fail
    refine (specVecOk v l _ (L1.out.sl (v, l) (by simp))).mono ?_
    rintro e w' ⟨rfl, rfl⟩
    rw [HK.out]
    go_wp2_with fail
    go_ret
    exact ⟨rfl, L1.out.below⟩
  have HK := Lib.hid hok
  have H4 := Lib.hid (Vec.ok_len hok)
  clear hok
  go_wp2_with fail
  refine (specVecOk v l _ (L1.out.sl (v, l) (by simp))).mono ?_
  rintro e w' ⟨rfl, rfl⟩
  rw [HK.out]
  have hs : Sl W1 v l := L1.out.sl (v, l) (by simp)
  obtain ⟨x, y, z, t, rfl, _⟩ := Vec.ok_four HK.out
  obtain ⟨b, o, cv, rfl, hlc, hcm, hb, e0, e1, e2, e3⟩ := hs.four
  have S := Lib.hid hs
  unfold maxLen at hcm
  have nc : ¬ cv = 1 := by omega
  obtain ⟨i0, hi, hz0, hz1, hz2⟩ := info_parts infoInt
  have I1 := Lib.hid hi
  have I2 := Lib.hid hz0
  have I3 := Lib.hid hz1
  have I4 := Lib.hid hz2
  clear hi hz0 hz1 hz2 hs e0 e1 e2 e3
  have O0 : Hid (Own (W1.alloc (.cells #[] 3)) W1.heap.size (.slice (some ⟨W1.heap.size, 0, none⟩) 0 0) []) := Lib.hid (Own.made W1 W1.heap.size [] (Nat.le_refl _) (by simp))
  have S0 : Hid (Sl (W1.alloc (.cells #[] 3)) (.slice (some ⟨b, o, none⟩) 4 cv) [x, y, z, t]) := Lib.hid (S.out.grown (grown_alloc (World.grownBy.refl _ _) _))
  go_wp2_with (first
    | (at_builtin; refine wpList_append_own _ rfl _ _ 23 rfl W1.heap.size 3 i0 (.int .i64 0) 1 8 Try.underlying23 I1.out I2.out I3.out I4.out rfl (by decide) _ _ _ rfl O0.out ⟨b, o, none⟩ 4 cv (vals [x, y, z, t]) rfl rfl ?c1 (vals_one _) ?c3 ?c4 ?c5 ?_))
  case c1 => intro j u hu; rw [Addr.add_lit]; exact vals_cells S0.out j u hu
  case c3 => simp [maxLen]
  case c4 => simp
  case c5 => simp
  intro q W2 ho hg _
  have G2 : Hid (W1.grownBy W2 none) := Lib.hid (grown_own (grown_alloc (World.grownBy.refl _ _) _) hg (fun j hj => (World.ownsRow.lt O0.out j hj).1))
  have O2 : Own W2 W1.heap.size q [x, y, z, t] := by simpa [Own, vals] using ho
  clear ho hg O0 S0
  obtain ⟨g, cq, rfl, gb, gl, cq4, cqm, gc, gf⟩ := O2.four rfl
  unfold maxLen at cqm
  obtain ⟨k, hk4, hke⟩ : ∃ k : Nat, k < 4 ∧ (len1 : Int) % 4 = k := ⟨len1 % 4, by omega, by omega⟩
  have hx := gc k hk4
  have hf := gf k
  generalize [x, y, z, t].getD k 0 = r at hx
  have P2 := Lib.hid (O2.put4 rfl k 31)
  have OO := Lib.hid O2
  have hk' : (k : Int) < 4 := by omega
  have kt : (len1 : Int).tmod 4 = k := by rw [Int.tmod_eq_emod_of_nonneg (by omega)]; exact hke
  have G3 : Hid (W1.grownBy (W2.setCell ⟨g, k, none⟩ (.int .i64 31)) none) := Lib.hid (grown_set G2.out (p := ⟨g, k, none⟩) gb _)
  clear gc gf O2
  go_wp2_with fail
  clear hx hf kt
  generalize W2.setCell ⟨g, k, none⟩ (.int .i64 31) = W3 at *
  have S3 := Lib.hid (S.out.grown G3.out)
  refine (implVecOk _ [y, z, t] _ (sl_tail4 S3.out)).mono ?_
  rintro e w' ⟨rfl, rfl⟩
  rw [no_len (l := [y, z, t]) (n := 3) rfl (by decide)]
  have O4 : Hid (Own (W3.alloc (.cells #[] 3)) W3.heap.size (.slice (some ⟨W3.heap.size, 0, none⟩) 0 0) []) := Lib.hid (Own.made W3 W3.heap.size [] (Nat.le_refl _) (by simp))
  have S4 : Hid (Sl (W3.alloc (.cells #[] 3)) (.slice (some ⟨b, o, none⟩) 4 cv) [x, y, z, t]) := Lib.hid (S3.out.grown (grown_alloc (World.grownBy.refl _ _) _))
  go_wp2_with (first
    | (at_builtin; refine wpList_if (by rfl) (wp_append_own _ _ _ 23 rfl W3.heap.size 3 i0 (.int .i64 0) 1 8 Try.underlying23 I1.out I2.out I3.out I4.out rfl (by decide) _ _ _ rfl O4.out ⟨b, o, none⟩ 4 cv (vals [x, y, z, t]) rfl rfl ?d1 (vals_one _) ?d3 ?d4 ?d5 ?_)))
  case d1 => intro j u hu; rw [Addr.add_lit]; exact vals_cells S4.out j u hu
  case d3 => simp [maxLen]
  case d4 => simp
  case d5 => simp
  intro q5 W5 ho hg _
  have G5 : Hid (W3.grownBy W5 none) := Lib.hid (grown_own (grown_alloc (World.grownBy.refl _ _) _) hg (fun j hj => (World.ownsRow.lt O4.out j hj).1))
  have O5 : Hid (Own W5 W3.heap.size q5 [x, y, z, t]) := Lib.hid (by simpa [Own, vals] using ho)
  have O6 : Hid (Own (W5.alloc (.cells #[.int .i64 0] 3)) W3.heap.size q5 [x, y, z, t]) := Lib.hid (World.ownsRow.alloc O5.out _)
  have z5 : W3.heap.size ≤ W5.heap.size := G5.out.size
  clear ho hg O4 S4 O5
  go_wp2_with (first
    | (at_builtin; refine wpList_if (by rfl) (wp_append_own _ _ _ 23 rfl W3.heap.size 3 i0 (.int .i64 0) 1 8 Try.underlying23 I1.out I2.out I3.out I4.out rfl (by decide) _ _ _ rfl O6.out ⟨W5.heap.size, 0, none⟩ 1 1 [.int .i64 0] rfl rfl (one_cell (g := 0)) (vals_one [0]) ?f3 ?f4 ?f5 ?_)))
  case f3 => simp [maxLen]
  case f4 => simp
  case f5 => simp; omega
  intro q7 W7 ho hg _
  have G7 : Hid (W3.grownBy W7 none) := Lib.hid (grown_own (grown_alloc G5.out _) hg (fun j hj => (World.ownsRow.lt O6.out j hj).1))
  have O7 : Hid (Own W7 W3.heap.size q7 [x, y, z, t, 0]) := Lib.hid (own_snoc (l := [x, y, z, t]) (x := 0) ho rfl rfl)
  clear ho hg O6
  go_wp2_with fail
  refine (implVecOk _ [x, y, z, t, 0] _ O7.out.sl).mono ?_
  rintro e w' ⟨rfl, rfl⟩
  rw [no_len (l := [x, y, z, t, 0]) (n := 5) rfl (by decide)]
  go_wp2_with fail
  refine (implVecOk _ ([x, y, z, t].set k 31) _ (P2.out.still G7.out).sl).mono ?_
  rintro e w' ⟨rfl, rfl⟩
  rw [no_set (l := [x, y, z, t]) hk4]
  go_wp2_with fail
  go_ret
  exact ⟨rfl, (L1.out.still (grown_trans G3.out G7.out)).below⟩

set_option maxRecDepth 100000 in
theorem lifted (os : Os) (started : os.Started) (H : Type) (enc : TypeId × Value → H) :
    ReturnsInHanded {} Try.checked os 8 .any (Rows.fnVecFormSpec.pre6 enc Try.prog Try.f8 Rows.fnVecFormRow.domain false) (Rows.fnVecFormSpec.post enc Try.prog Try.f8 false true false false) := by
  refine returnsInHanded_of_change (C := Try.checked) own started (by kernel_rfl) Try.func8
    (ChangeSpec.witness6 (enc := enc) (C := Try.checked) false ⟨#[], #[.slice none 0 0, .slice none 0 0], []⟩ 8 (by kernel_rfl) (by kernel_rfl) (by kernel_rfl) (by kernel_rfl)) ?_
  intro W base args ds gs before hval0 hW hcnd _
  have hval : ∀ (j : Nat) t v, Try.f8.params[j]? = some t → args[j]? = some v → Value.okWide Try.prog W .any base t v := hval0
  have hW' := hW
  obtain ⟨p, q, hA0, hV, rfl, hfz, hnd⟩ := hW
  have hA : DataW.TrodAll enc Try.prog W 0 (fun _ => true) true Try.f8.params.toList args.toList ds p := hA0
  rw [Try.params8] at hA hval
  obtain ⟨v0, vs0, d0, ds0, p0, q0, hargs, rfl, rfl, h0, r0⟩ := trodAll_cons hA
  obtain ⟨v1, vs1, d1, ds1, p1, q1, rfl, rfl, rfl, h1, r1⟩ := trodAll_cons r0
  obtain ⟨rfl, rfl, rfl⟩ := trodAll_nil r1
  obtain rfl : args = #[v0, v1] := by cases args; simp_all
  obtain ⟨rfl, rfl⟩ := trodVars_none hV
  obtain ⟨a0, len0, cap0, rfl⟩ := okWide_slice Try.underlying22 (hval 0 22 v0 rfl rfl)
  have k0 := h0
  have lt0 : ∀ x ∈ p0, x.block < W.heap.size := by obtain ⟨m, hm⟩ := k0; exact DataW.trod_lt m _ _ _ hm
  obtain ⟨z0, w0⟩ : ∃ zs, IsRow .u8 W a0 len0 cap0 zs := by
    obtain ⟨fuel, hf⟩ := h0
    rcases open_ints Try.underlying22 Try.underlying5 (by kernel_rfl) hf with ⟨hcs, _⟩ | ⟨x, l, c, zs, hcs, _, hl, hm, hz, _, hcell, hwz⟩
    · simp [Value.cells] at hcs
      obtain ⟨rfl, rfl, rfl⟩ := hcs
      exact ⟨[], .inl ⟨rfl, rfl, rfl, rfl⟩⟩
    · simp [Value.cells] at hcs
      obtain ⟨rfl, rfl, rfl⟩ := hcs
      exact ⟨zs, .inr ⟨_, rfl, hl, hm, by simpa using hz, hcell, hwz⟩⟩
  obtain ⟨a1, len1, cap1, rfl⟩ := okWide_slice Try.underlying22 (hval 1 22 v1 rfl rfl)
  have k1 := h1
  have lt1 : ∀ x ∈ p1, x.block < W.heap.size := by obtain ⟨m, hm⟩ := k1; exact DataW.trod_lt m _ _ _ hm
  obtain ⟨z1, w1⟩ : ∃ zs, IsRow .u8 W a1 len1 cap1 zs := by
    obtain ⟨fuel, hf⟩ := h1
    rcases open_ints Try.underlying22 Try.underlying5 (by kernel_rfl) hf with ⟨hcs, _⟩ | ⟨x, l, c, zs, hcs, _, hl, hm, hz, _, hcell, hwz⟩
    · simp [Value.cells] at hcs
      obtain ⟨rfl, rfl, rfl⟩ := hcs
      exact ⟨[], .inl ⟨rfl, rfl, rfl, rfl⟩⟩
    · simp [Value.cells] at hcs
      obtain ⟨rfl, rfl, rfl⟩ := hcs
      exact ⟨zs, .inr ⟨_, rfl, hl, hm, by simpa using hz, hcell, hwz⟩⟩
  clear hA0 hval0
  refine (walk a0 len0 cap0 z0 a1 len1 cap1 z1 W w0 w1).mono fun e W' ⟨he, bel⟩ => ?_
  subst he
  exact ⟨_, rfl, _, _, _, [], _, [], hW', trodAll_mk1 (shut_bool Try.underlying4 _), (trodAll_cons_mk (Below.trod laidOut (by kernel_rfl) (of_decide_eq_true (by kernel_rfl)) k0 bel lt0) (trodAll_cons_mk (Below.trod laidOut (by kernel_rfl) (of_decide_eq_true (by kernel_rfl)) k1 bel lt1) trodAll_mk0)), rfl, bel.frame _, fun h => by cases h⟩

theorem over : Rows.fnVecFormRow.holds Try.pinned (OpenSpec.ofChange Rows.fnVecFormSpec) :=
  OpenClaim.holds_of_wide 8 Try.f8 rfl rfl rfl rfl rfl rfl rfl ⟨rfl, rfl, rfl, rfl, rfl⟩ rfl rfl rfl rfl rfl (by kernel_rfl) Try.func8 (by kernel_rfl)
    (of_decide_eq_true (by kernel_rfl)) (by unfold Func.isWrapper; first | (rw [if_pos (by decide +kernel)]; kernel_rfl) | (rw [if_neg (by decide +kernel)]; exact ⟨rfl, rfl⟩))
    (fun os started H enc _ => lifted os started H enc)

theorem proved : Rows.FnVecFormSaid := over
#print axioms proved
end Go.Proofs.Ytdkdkmebiofofaa.fnVecForm
