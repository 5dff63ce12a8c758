/-
  From whatever bytes a matrix and a row are drawn, SpanHas answers as its model does, is true if and only if SpanBy succeeds, and every linear combination of rows is in the span: the law FnSpanHas returns true.
  Conditions: none.
-/
import Derived.Test.YtogjgajabdiaaaaRows
import Derived.WalkKit
import Derived.ProofKit
import Derived.OpenShut
import Derived.ShutString
import Derived.ChangeOld
import Derived.Below
import Derived.Test.YtogjgajabdiaaaaFldMath
import Derived.Test.YtogjgajabdiaaaaMem
import Derived.Test.YtogjgajabdiaaaaField
import Derived.Test.YtogjgajabdiaaaaVecMath
import Derived.Test.YtogjgajabdiaaaaSpanMath
import Derived.Test.YtogjgajabdiaaaaSpanList
import Derived.Test.YtogjgajabdiaaaaSpanTidy
import Derived.Test.YtogjgajabdiaaaaSpanMore
import Derived.Test.YtogjgajabdiaaaaSpanBy
import Derived.Test.YtogjgajabdiaaaaSpanWork
import Derived.Test.YtogjgajabdiaaaaInts
import Derived.Test.YtogjgajabdiaaaaTabs
import Derived.Test.YtogjgajabdiaaaaHelp
import Derived.Test.YtogjgajabdiaaaaVec
import Derived.Test.YtogjgajabdiaaaaVec2
import Derived.Test.YtogjgajabdiaaaaSpanHelp
import Derived.Test.YtogjgajabdiaaaaSpanHelp2
import Derived.Test.YtogjgajabdiaaaaSpanOk
import Derived.Test.YtogjgajabdiaaaaSpanLine
import Derived.Test.YtogjgajabdiaaaaSpanEch
import Derived.Test.YtogjgajabdiaaaaVecSpec
import Derived.Test.YtogjgajabdiaaaaSpanTake
import Derived.Test.YtogjgajabdiaaaaSpanProg
import Derived.Test.YtogjgajabdiaaaaSpanTops
import Derived.Test.YtogjgajabdiaaaaSpanSpec
import Derived.Test.YtogjgajabdiaaaaSpanSpec2
import Derived.Test.YtogjgajabdiaaaaSpanSpec3
import Derived.Test.YtogjgajabdiaaaaSpanSpec4
import Derived.Test.YtogjgajabdiaaaaSpanTopsBy
import Derived.Test.YtogjgajabdiaaaaSpanTops2
import Derived.Test.YtogjgajabdiaaaaSpanSame
import Derived.Test.YtogjgajabdiaaaaSpanLaws
import Derived.Test.YtogjgajabdiaaaaSpanSel
import Derived.Test.YtogjgajabdiaaaaSpanMade
import Derived.Test.YtogjgajabdiaaaaDraw
import Derived.Test.YtogjgajabdiaaaaDrawField
import Derived.Test.YtogjgajabdiaaaaDrawVec
import Derived.Test.YtogjgajabdiaaaaDrawSpan
import Derived.Test.YtogjgajabdiaaaaDrawSpan2
import Derived.Test.YtogjgajabdiaaaaDrawMade
namespace Go.Proofs.Ytogjgajabdiaaaa.fnSpanHas
open Go.ChangeShapes Go.WideShapes Go.ChangeAt Go.RowKit
open Go.ChangeMaps (open_string shut_string)
set_option linter.unusedVariables false

theorem own : ownKnob Try.prog.godebug = none := by kernel_rfl
theorem laidOut : laidOutB Try.prog = true := by kernel_rfl

/-- WHAT THE WALK IS TOLD OF A SLICE OF INTEGERS THAT CAME IN: it is nil; or it leads to a row of 'cap' cells, the numbers 'zs' (the first 'len' are its elements, the rest its spare room), each fitting its kind. -/
def IsRow (k : IntKind) (w : World) (a : Option Addr) (len cap : Nat) (zs : List Int) : Prop :=
  (a = none ∧ len = 0 ∧ cap = 0 ∧ zs = []) ∨
  ∃ x, a = some x ∧ len ≤ cap ∧ cap ≤ maxLen ∧ zs.length = cap ∧ (∀ i, i < zs.length → w.cell? (x.add i) = some (.int k (zs.getD i 0))) ∧ ∀ n ∈ zs, (Lit.int k n).wf = true

theorem has_made {m : List (List Int)} (hm : okM m = true) (c : List Int) : hasM m (madeK m c m.length) = true := by
  have hr := madeK_row (okM_all hm) c m.length (Nat.le_refl _)
  simp only [hasM, hm, Sp.row_ok.2 hr, Bool.and_self, Bool.true_and]
  exact (Sp.has_iff (okM_all hm) hr).2 ⟨_, madeK_all (okM_all hm) c⟩
theorem has_none {m : List (List Int)} (hm : okM m = true) : hasM m [0, 0, 0, 0] = true := by
  have hr : Sp.Row 4 [0, 0, 0, 0] := Sp.row_ok.1 rfl
  have h0 : Vec.ok [0, 0, 0, 0] = true := rfl
  simp only [hasM, hm, h0, Bool.and_self, Bool.true_and]
  refine (Sp.has_iff (okM_all hm) hr).2 ((Sp.In.zero _).eq fun j => ?_)
  match j with
  | 0 => rfl
  | 1 => rfl
  | 2 => rfl
  | 3 => rfl
  | j + 4 => rfl
theorem lkNum31 (n : Int) (w : World) (h0 : 0 ≤ n) : Calls Try.prog 34 #[.int .i64 n] w fun e w' => e = .returned (.int .i64 (n % 31)) ∧ w = w' := by
  go_enter Try.func34, Try.ntmps34
  have ht : n.tmod 31 = n % 31 := Int.tmod_eq_emod_of_nonneg h0
  go_wp2_with fail
  go_ret
  exact ⟨by first | rfl | rw [ht], rfl⟩

theorem walk (a0 : Option Addr) (len0 cap0 : Nat) (z0 : List Int) (a1 : Option Addr) (len1 cap1 : Nat) (z1 : List Int) (w : World) (w0 : IsRow .u8 w a0 len0 cap0 z0) (w1 : IsRow .u8 w a1 len1 cap1 z1) :
    Calls Try.prog 7 #[.slice a0 len0 cap0, .slice a1 len1 cap1] w fun e w' => e = .returned (.bool true) ∧ Below w.heap.size w w' := by
  have hc : Code w a0 len0 cap0 := code_of w0
  have hm : cap0 ≤ maxLen := hc.2.1
  have hl : len0 ≤ cap0 := hc.1
  unfold maxLen at hm
  have C := Lib.hid hc
  clear hc w0
  have hc1 : Code w a1 len1 cap1 := code_of w1
  have hm1 : cap1 ≤ maxLen := hc1.2.1
  have hl1 : len1 ≤ cap1 := hc1.1
  unfold maxLen at hm1
  clear hc1 w1
  by_cases hbig0 : (len0 : Int) > 1048576
  · go_enter Try.func7, Try.ntmps7
    go_wp2_with fail
    go_ret
    exact ⟨rfl, Below.refl _ _⟩
  by_cases hbig1 : (len1 : Int) > 1048576
  · go_enter Try.func7, Try.ntmps7
    go_wp2_with fail
    go_ret
    exact ⟨rfl, Below.refl _ _⟩
  obtain ⟨i0, hi, hz0, hz1, hz2⟩ := info_parts infoInt
  have I1 := Lib.hid hi
  have I2 := Lib.hid hz0
  have I3 := Lib.hid hz1
  have I4 := Lib.hid hz2
  clear hi hz0 hz1 hz2
  go_enter Try.func7, Try.ntmps7
  go_wp2_with fail
  refine (drawSpanHas a0 len0 cap0 _ C.out).mono ?_
  rintro e W1 ⟨mv, v, mus, m, l, rfl, hg, ht, hs, hl4⟩
  obtain ⟨ma, mc, em, hm3, hm4, _⟩ := ht.top
  subst em
  unfold maxLen at hm4
  have G1 := Lib.hid hg
  have A1 := Lib.hid ht
  have V1 := Lib.hid hs
  clear hg ht hs
  obtain ⟨q, hq⟩ : ∃ q, hasM m l = q := ⟨_, rfl⟩
  have Q := Lib.hid hq
  clear hq
  have hqq : (q != q) = false := by cases q <;> rfl
  have hqe : (q == q) = true := by cases q <;> rfl
  go_wp2_with fail
  refine (implSpanHas _ v mus m l _ A1.out V1.out).mono ?_
  rintro e W2 ⟨rfl, hg⟩
  rw [Q.out]
  have G2 := Lib.hid (grown_trans G1.out hg)
  have A2 := Lib.hid (A1.out.grown hg)
  have V2 := Lib.hid (V1.out.grown hg)
  clear hg G1 A1 V1
  go_wp2_with fail
  refine (specSpanHas _ v mus m l _ A2.out V2.out).mono ?_
  rintro e W3 ⟨rfl, hg⟩
  rw [Q.out]
  have G3 := Lib.hid (grown_trans G2.out hg)
  have A3 := Lib.hid (A2.out.grown hg)
  have V3 := Lib.hid (V2.out.grown hg)
  clear hg G2 A2 V2
  have K1 := Lib.hid (specSpanOk _ mus m W3 A3.out)
  have K2 := Lib.hid (specVecOk v l W3 V3.out)
  cases hok : okM m with
  | false =>
    rw [hok] at K1
    clear hok K2
    go_wp2_with fail
    refine K1.out.mono ?_
    rintro e w' ⟨rfl, rfl⟩
    go_wp2_with fail
    refine (specSpanHas _ v mus m l _ A3.out V3.out).mono ?_
    rintro e W4 ⟨rfl, hg⟩
    rw [Q.out]
    have G4 := Lib.hid (grown_trans G3.out hg)
    clear hg
    go_wp2_with fail
    go_ret
    exact ⟨rfl, below_grown G4.out⟩
  | true =>
    cases hov : Vec.ok l with
    | false =>
      rw [hok] at K1
      rw [hov] at K2
      clear hok hov
      go_wp2_with fail
      refine K1.out.mono ?_
      rintro e w' ⟨rfl, rfl⟩
      go_wp2_with fail
      refine K2.out.mono ?_
      rintro e w' ⟨rfl, rfl⟩
      go_wp2_with fail
      refine (specSpanHas _ v mus m l _ A3.out V3.out).mono ?_
      rintro e W4 ⟨rfl, hg⟩
      rw [Q.out]
      have G4 := Lib.hid (grown_trans G3.out hg)
      clear hg
      go_wp2_with fail
      go_ret
      exact ⟨rfl, below_grown G4.out⟩
    | true =>
      have m8 := okM_len hok
      have HOK := Lib.hid hok
      rw [hok] at K1
      rw [hov] at K2
      clear hok hov
      go_wp2_with fail
      refine K1.out.mono ?_
      rintro e w' ⟨rfl, rfl⟩
      go_wp2_with fail
      refine K2.out.mono ?_
      rintro e w' ⟨rfl, rfl⟩
      go_wp2_with fail
      refine (implSpanBy _ v mus m l _ A3.out V3.out).mono ?_
      rintro e W4 ⟨bv, bb, bl, rfl, hg, _, hby⟩
      have hbq : bb = q := hby.1.trans Q.out
      subst hbq
      have G4 := Lib.hid (grown_trans G3.out hg)
      have A4 := Lib.hid (A3.out.grown hg)
      clear hg hby G3 A3 V3 K1 K2
      go_wp2_with fail
      go_loopw [10, 11] (fun y i wr => ∃ k : Nat, k ≤ m.length ∧ i = .int .i64 k ∧ W4.grownBy wr none ∧ ∃ c, c.length = k ∧ (∀ x ∈ c, Fld.ok x = true) ∧ Own wr W4.heap.size y c) (fun _ i _ => m.length - (intOf i).toNat)
      case atStart => exact ⟨0, Nat.zero_le _, rfl, grown_alloc (World.grownBy.refl _ _) _, [], rfl, by simp, Own.made W4 W4.heap.size [] (Nat.le_refl _) (by simp)⟩
      case round =>
        obtain ⟨k, hk, rfl, hg, c, hck, hcf, ho⟩ := hrel
        have GR := Lib.hid hg
        have O := Lib.hid ho
        have CK := Lib.hid hck
        have CF := Lib.hid hcf
        clear hg ho hck hcf
        by_cases hlt : k < m.length
        · have hlt' : (k : Int) < (m.length : Int) := by omega
          have k8 : (k : Int) ≤ 8 := by omega
          have p0 : 0 ≤ (len1 : Int) * ((k : Int) + 2) ∧ (len1 : Int) * ((k : Int) + 2) ≤ 10485760 := by
            constructor
            · exact Int.mul_nonneg (by omega) (by omega)
            · have h1 : (len1 : Int) * ((k : Int) + 2) ≤ 1048576 * ((k : Int) + 2) := Int.mul_le_mul_of_nonneg_right (by omega) (by omega)
              omega
          obtain ⟨n, hn⟩ : ∃ n, (len1 : Int) * ((k : Int) + 2) = n := ⟨_, rfl⟩
          have hw : IntKind.i64.wrap ((len1 : Int) * ((k : Int) + 2)) = n := by rw [hn] at p0 ⊢; exact IntWalk.i64_in _ (by omega)
          rw [hn] at p0
          obtain ⟨p0, p1⟩ := p0
          clear hn
          go_wp2_with fail
          refine (lkNum31 n _ p0).mono ?_
          rintro e w' ⟨rfl, rfl⟩
          obtain ⟨y, hy⟩ : ∃ y, n % 31 = y := ⟨_, rfl⟩
          rw [hy]
          have YO : Hid (Fld.ok y = true) := Lib.hid (hy ▸ Vec.mod_is _)
          have sz : W4.heap.size ≤ wr.heap.size := GR.out.size
          have cl : c.length ≤ 8 := by rw [CK.out]; omega
          clear hy hw
          go_wp2_with (first
            | (at_builtin; refine wpList_append_own _ rfl _ _ 29 rfl W4.heap.size 3 i0 (.int .i64 0) 1 8 Try.underlying29 I1.out I2.out I3.out I4.out rfl (by decide) _ _ _ rfl (World.ownsRow.alloc O.out _) ⟨wr.heap.size, 0, none⟩ 1 1 [.int .i64 y] rfl rfl (one_cell (g := 0)) (vals_one [y]) ?c3 ?c4 ?c5 ?_))
          case c3 => unfold maxLen; omega
          case c4 => omega
          case c5 => (try simp only [World.size_alloc]); omega
          intro o' w5 ho hg _
          have O5 := Lib.hid (own_snoc (l := c) (x := y) ho rfl rfl)
          have G5 : Hid (W4.grownBy w5 none) := Lib.hid (grown_own (grown_alloc GR.out _) hg (fun j hj => (World.ownsRow.lt O.out j hj).1))
          clear ho hg
          go_wp2_with fail
          go_roundw
          case rel => exact ⟨k + 1, by omega, by go_num, G5.out, c ++ [y], by simp [CK.out], fun x hx => by
            rcases List.mem_append.1 hx with h | h
            · exact CF.out x h
            · simp at h; subst h; exact YO.out, O5.out⟩
          case measure => simp [intOf]; omega
        · have : k = m.length := by omega
          subst this
          have HM := Lib.hid (okM_all HOK.out)
          go_wp2_with fail
          refine (lkMade _ _ mus m c _ (A4.out.grown GR.out) O.out.sl HM.out ⟨CK.out, CF.out⟩ m8).mono ?_
          rintro e w5 ⟨x5, rfl, hg, ho⟩
          have G5 := Lib.hid (grown_trans GR.out hg)
          have Z := Lib.hid (implSpanHas _ x5 mus m _ w5 (A4.out.grown G5.out) ho.sl)
          rw [has_made HOK.out] at Z
          clear hg ho
          go_wp2_with fail
          refine Z.out.mono ?_
          rintro e w6 ⟨rfl, hg⟩
          have G6 := Lib.hid (grown_trans G5.out hg)
          have OZ : Hid (Own (w6.alloc (.cells #[.int .i64 0, .int .i64 0, .int .i64 0, .int .i64 0] 3)) w6.heap.size (.slice (some ⟨w6.heap.size, 0, none⟩) 4 4) [0, 0, 0, 0]) := Lib.hid ((Arr.new w6 3 [0, 0, 0, 0]).own rfl _ (Nat.le_refl _) (by simp [maxLen]))
          have G7 := Lib.hid (grown_alloc G6.out (.cells #[.int .i64 0, .int .i64 0, .int .i64 0, .int .i64 0] 3))
          have Z2 := Lib.hid (implSpanHas _ _ mus m _ _ (A4.out.grown G7.out) OZ.out.sl)
          rw [has_none HOK.out] at Z2
          clear hg
          go_wp2_with fail
          refine Z2.out.mono ?_
          rintro e w8 ⟨rfl, hg⟩
          have G8 := Lib.hid (grown_trans G4.out (grown_trans G7.out hg))
          clear hg
          go_wp2_with fail
          go_ret
          exact ⟨rfl, below_grown G8.out⟩

set_option maxRecDepth 100000 in
theorem lifted (os : Os) (started : os.Started) (H : Type) (enc : TypeId × Value → H) :
    ReturnsInHanded {} Try.checked os 7 .any (Rows.fnSpanHasSpec.pre6 enc Try.prog Try.f7 Rows.fnSpanHasRow.domain false) (Rows.fnSpanHasSpec.post enc Try.prog Try.f7 false true false false) := by
  refine returnsInHanded_of_change (C := Try.checked) own started (by kernel_rfl) Try.func7
    (ChangeSpec.witness6 (enc := enc) (C := Try.checked) false ⟨#[], #[.slice none 0 0, .slice none 0 0], []⟩ 8 (by kernel_rfl) (by kernel_rfl) (by kernel_rfl) (by kernel_rfl)) ?_
  intro W base args ds gs before hval0 hW hcnd _
  have hval : ∀ (j : Nat) t v, Try.f7.params[j]? = some t → args[j]? = some v → Value.okWide Try.prog W .any base t v := hval0
  have hW' := hW
  obtain ⟨p, q, hA0, hV, rfl, hfz, hnd⟩ := hW
  have hA : DataW.TrodAll enc Try.prog W 0 (fun _ => true) true Try.f7.params.toList args.toList ds p := hA0
  rw [Try.params7] at hA hval
  obtain ⟨v0, vs0, d0, ds0, p0, q0, hargs, rfl, rfl, h0, r0⟩ := trodAll_cons hA
  obtain ⟨v1, vs1, d1, ds1, p1, q1, rfl, rfl, rfl, h1, r1⟩ := trodAll_cons r0
  obtain ⟨rfl, rfl, rfl⟩ := trodAll_nil r1
  obtain rfl : args = #[v0, v1] := by cases args; simp_all
  obtain ⟨rfl, rfl⟩ := trodVars_none hV
  obtain ⟨a0, len0, cap0, rfl⟩ := okWide_slice Try.underlying22 (hval 0 22 v0 rfl rfl)
  have k0 := h0
  have lt0 : ∀ x ∈ p0, x.block < W.heap.size := by obtain ⟨m, hm⟩ := k0; exact DataW.trod_lt m _ _ _ hm
  obtain ⟨z0, w0⟩ : ∃ zs, IsRow .u8 W a0 len0 cap0 zs := by
    obtain ⟨fuel, hf⟩ := h0
    rcases open_ints Try.underlying22 Try.underlying5 (by kernel_rfl) hf with ⟨hcs, _⟩ | ⟨x, l, c, zs, hcs, _, hl, hm, hz, _, hcell, hwz⟩
    · simp [Value.cells] at hcs
      obtain ⟨rfl, rfl, rfl⟩ := hcs
      exact ⟨[], .inl ⟨rfl, rfl, rfl, rfl⟩⟩
    · simp [Value.cells] at hcs
      obtain ⟨rfl, rfl, rfl⟩ := hcs
      exact ⟨zs, .inr ⟨_, rfl, hl, hm, by simpa using hz, hcell, hwz⟩⟩
  obtain ⟨a1, len1, cap1, rfl⟩ := okWide_slice Try.underlying22 (hval 1 22 v1 rfl rfl)
  have k1 := h1
  have lt1 : ∀ x ∈ p1, x.block < W.heap.size := by obtain ⟨m, hm⟩ := k1; exact DataW.trod_lt m _ _ _ hm
  obtain ⟨z1, w1⟩ : ∃ zs, IsRow .u8 W a1 len1 cap1 zs := by
    obtain ⟨fuel, hf⟩ := h1
    rcases open_ints Try.underlying22 Try.underlying5 (by kernel_rfl) hf with ⟨hcs, _⟩ | ⟨x, l, c, zs, hcs, _, hl, hm, hz, _, hcell, hwz⟩
    · simp [Value.cells] at hcs
      obtain ⟨rfl, rfl, rfl⟩ := hcs
      exact ⟨[], .inl ⟨rfl, rfl, rfl, rfl⟩⟩
    · simp [Value.cells] at hcs
      obtain ⟨rfl, rfl, rfl⟩ := hcs
      exact ⟨zs, .inr ⟨_, rfl, hl, hm, by simpa using hz, hcell, hwz⟩⟩
  clear hA0 hval0
  refine (walk a0 len0 cap0 z0 a1 len1 cap1 z1 W w0 w1).mono fun e W' ⟨he, bel⟩ => ?_
  subst he
  exact ⟨_, rfl, _, _, _, [], _, [], hW', trodAll_mk1 (shut_bool Try.underlying4 _), (trodAll_cons_mk (Below.trod laidOut (by kernel_rfl) (of_decide_eq_true (by kernel_rfl)) k0 bel lt0) (trodAll_cons_mk (Below.trod laidOut (by kernel_rfl) (of_decide_eq_true (by kernel_rfl)) k1 bel lt1) trodAll_mk0)), rfl, bel.frame _, fun h => by cases h⟩

theorem over : Rows.fnSpanHasRow.holds Try.pinned (OpenSpec.ofChange Rows.fnSpanHasSpec) :=
  OpenClaim.holds_of_wide 7 Try.f7 rfl rfl rfl rfl rfl rfl rfl ⟨rfl, rfl, rfl, rfl, rfl⟩ rfl rfl rfl rfl rfl (by kernel_rfl) Try.func7 (by kernel_rfl)
    (of_decide_eq_true (by kernel_rfl)) (by unfold Func.isWrapper; first | (rw [if_pos (by decide +kernel)]; kernel_rfl) | (rw [if_neg (by decide +kernel)]; exact ⟨rfl, rfl⟩))
    (fun os started H enc _ => lifted os started H enc)

theorem proved : Rows.FnSpanHasSaid := over
#print axioms proved
end Go.Proofs.Ytogjgajabdiaaaa.fnSpanHas
