/-
  From whatever bytes a kind, values and flags are drawn, ReadData answers as its model does, and of some of these shards, if they are enough, the same numbers are read: the law FnReadTwo returns true.
  Conditions: none.
-/
import Derived.Test.YtdmbbipcdkikiaaRows
import Derived.WalkKit
import Derived.ProofKit
import Derived.OpenShut
import Derived.ShutString
import Derived.ChangeOld
import Derived.Below
import Derived.Test.YtdmbbipcdkikiaaG1
import Derived.Test.YtdmbbipcdkikiaaAppendZeros
import Derived.Test.YtdmbbipcdkikiaaG2
import Derived.Test.YtdmbbipcdkikiaaG3
import Derived.Test.YtdmbbipcdkikiaaG4
import Derived.Test.YtdmbbipcdkikiaaReadMath
import Derived.Test.YtdmbbipcdkikiaaReadSpec
import Derived.Test.YtdmbbipcdkikiaaReadTake
import Derived.Test.YtdmbbipcdkikiaaReadProg
import Derived.Test.YtdmbbipcdkikiaaReadTop
import Derived.Test.YtdmbbipcdkikiaaReadTop2
import Derived.Test.YtdmbbipcdkikiaaReadTop3
import Derived.Test.YtdmbbipcdkikiaaReadSpec2
import Derived.Test.YtdmbbipcdkikiaaReadSpec3
import Derived.Test.YtdmbbipcdkikiaaDrawRead
namespace Go.Proofs.Ytdmbbipcdkikiaa.fnReadTwo
open Go.ChangeShapes Go.WideShapes Go.ChangeAt Go.RowKit
open Go.ChangeMaps (open_string shut_string)
set_option linter.unusedVariables false

theorem own : ownKnob Try.prog.godebug = none := by kernel_rfl
theorem laidOut : laidOutB Try.prog = true := by kernel_rfl

/-- WHAT THE WALK IS TOLD OF A SLICE OF INTEGERS THAT CAME IN: it is nil; or it leads to a row of 'cap' cells, the numbers 'zs' (the first 'len' are its elements, the rest its spare room), each fitting its kind. -/
def IsRow (k : IntKind) (w : World) (a : Option Addr) (len cap : Nat) (zs : List Int) : Prop :=
  (a = none ∧ len = 0 ∧ cap = 0 ∧ zs = []) ∨
  ∃ x, a = some x ∧ len ≤ cap ∧ cap ≤ maxLen ∧ zs.length = cap ∧ (∀ i, i < zs.length → w.cell? (x.add i) = some (.int k (zs.getD i 0))) ∧ ∀ n ∈ zs, (Lit.int k n).wf = true

theorem read_yes {k : Int} {a : List Int} {f : List Bool} {l : List Int} (h : ReadT k a f l true) : FitM k a f ∧ bearsM k f = true ∧ Sp.IsData k.toNat f a l := by
  rcases h with ⟨_, h1, h2, h3⟩ | ⟨h, _⟩
  · exact ⟨h1, h2, h3⟩
  · cases h
/-- of some of these shards the same is read. -/
theorem read_less {k : Int} {a : List Int} {f s : List Bool} {l l' : List Int} {b : Bool} (h : ReadT k a f l true) (hs : s.length = 8) (hl : ∀ i, i < 8 → s.getD i false = true → f.getD i false = true) (h' : ReadT k a s l' b) : b = bearsM k s ∧ (b = true → l' = l) := by
  obtain ⟨h1, h2, h3⟩ := read_yes h
  have hf : FitM k a s := ⟨h1.1, h1.2.1, hs, h1.2.2.2.less hl⟩
  rcases h' with ⟨rfl, _, h5, h6⟩ | ⟨rfl, _, h5⟩
  · exact ⟨h5.symm, fun _ => (h6.less hl).one h1.2.2.2 h3⟩
  · refine ⟨?_, fun h => (by cases h)⟩
    cases e : bearsM k s with
    | false => rfl
    | true => exact absurd ⟨hf, e⟩ h5
def mix (s f : List Bool) (n : Nat) (s' : List Bool) : Prop := s'.length = 8 ∧ ∀ j, j < 8 → s'.getD j false = if j < n then s.getD j false && f.getD j false else s.getD j false
theorem mix_start {s f : List Bool} (hs : s.length = 8) : mix s f 0 s := ⟨hs, fun j hj => by simp⟩
theorem mix_next {s f s' : List Bool} {n : Nat} (h : mix s f n s') (hn : n < 8) : s'.getD n false = s.getD n false ∧ mix s f (n + 1) (s'.set n (s.getD n false && f.getD n false)) := by
  refine ⟨by rw [h.2 n hn]; simp, by rw [List.length_set]; exact h.1, fun j hj => ?_⟩
  by_cases e : n = j
  · subst e
    have : (s'.set n (s.getD n false && f.getD n false)).getD n false = (s.getD n false && f.getD n false) := by simp [List.getD_eq_getElem?_getD, h.1, hj]
    rw [this]; simp
  · have : (s'.set n (s.getD n false && f.getD n false)).getD j false = s'.getD j false := by simp only [List.getD_eq_getElem?_getD, List.getElem?_set_ne e]
    rw [this, h.2 j hj]
    by_cases h1 : j < n
    · rw [if_pos h1, if_pos (by omega)]
    · rw [if_neg h1, if_neg (by omega)]
theorem mix_done {s f s' : List Bool} (h : mix s f 8 s') : ∀ i, i < 8 → s'.getD i false = true → f.getD i false = true := fun i hi ht => by
  rw [h.2 i hi, if_pos hi, Bool.and_eq_true] at ht
  exact ht.2

set_option maxHeartbeats 4000000 in
set_option maxRecDepth 20000 in
theorem walk (a0 : Option Addr) (len0 cap0 : Nat) (z0 : List Int) (a1 : Option Addr) (len1 cap1 : Nat) (z1 : List Int) (w : World) (w0 : IsRow .u8 w a0 len0 cap0 z0) (w1 : IsRow .u8 w a1 len1 cap1 z1) :
    Calls Try.prog 5 #[.slice a0 len0 cap0, .slice a1 len1 cap1] w fun e w' => e = .returned (.bool true) ∧ Below w.heap.size w w' := by
  have hc : Code w a0 len0 cap0 := code_of w0
  have hm : cap0 ≤ maxLen := hc.2.1
  have hl : len0 ≤ cap0 := hc.1
  unfold maxLen at hm
  have C := Lib.hid hc
  clear hc w0
  have hc1 : Code w a1 len1 cap1 := code_of w1
  have hm1 : cap1 ≤ maxLen := hc1.2.1
  have hl1 : len1 ≤ cap1 := hc1.1
  unfold maxLen at hm1
  clear hc1 w1
  by_cases hbig0 : (len0 : Int) > 1048576
  · go_enter Try.func5, Try.ntmps5
    go_wp2_with fail
    go_ret
    exact ⟨rfl, Below.refl _ _⟩
  by_cases hbig1 : (len1 : Int) > 1048576
  · go_enter Try.func5, Try.ntmps5
    go_wp2_with fail
    go_ret
    exact ⟨rfl, Below.refl _ _⟩
  go_enter Try.func5, Try.ntmps5
  go_wp2_with fail
  refine (drawReadData a0 len0 cap0 _ C.out).mono ?_
  rintro e W1 ⟨m, u, v, l, f, hm3, rfl, hl8, hf8, hsl, hbl, hb⟩
  have L1 := Lib.hid hb
  have S1 := Lib.hid hsl
  have B1 := Lib.hid hbl
  have HL8 := Lib.hid hl8
  have H8 := Lib.hid hf8
  clear hb hbl hf8 hsl hl8 C
  obtain ⟨au, cu, eu, u1, u2, _⟩ := S1.out
  subst eu
  obtain ⟨av, cv, ev, c1, c2, _⟩ := B1.out
  subst ev
  unfold maxLen at c2 u2
  rw [HL8.out] at u1 S1 ⊢
  obtain ⟨n8, hn8⟩ : ∃ n, f.length = n := ⟨_, rfl⟩
  have N8 := Lib.hid hn8
  rw [hn8] at B1 c1 H8
  rw [hn8]
  clear hn8
  have hl1 : l.length ≤ 1048576 := by rw [HL8.out]; omega
  go_wp2_with fail
  refine (specReadData m _ _ l f _ S1.out B1.out hl1).mono ?_
  rintro e W2 ⟨D, b, r0, rfl, hg, ho, hr⟩
  have L2 := Lib.hid (L1.out.trans (below_grown hg |>.mono L1.out.size))
  have S2 := Lib.hid (S1.out.grown hg)
  have B2 := Lib.hid (B1.out.grown hg)
  have R0 := Lib.hid ho.sl
  have R := Lib.hid hr
  clear hg hr ho L1 S1 B1
  go_wp2_with fail
  refine (implReadData m _ _ l f _ S2.out B2.out).mono ?_
  rintro e W3 ⟨D', b', g0, rfl, hg, ho, hr⟩
  obtain ⟨rfl, rfl⟩ := hr.one R.out
  have L3 := Lib.hid (L2.out.trans (below_grown hg |>.mono L2.out.size))
  have S3 := Lib.hid (S2.out.grown hg)
  have B3 := Lib.hid (B2.out.grown hg)
  have R3 := Lib.hid (R0.out.grown hg)
  have D3 := Lib.hid ho.sl
  have hqq : (b' != b') = false := by simp
  have hqe : (b' == b') = true := by simp
  clear hg hr ho L2 S2 B2 R0
  go_wp2_with fail
  refine (lkSame g0 r0 D' _ D3.out R3.out).mono ?_
  rintro e W4 ⟨rfl, hg⟩
  have L4 := Lib.hid (L3.out.trans (below_grown hg |>.mono L3.out.size))
  have S4 := Lib.hid (S3.out.grown hg)
  have B4 := Lib.hid (B3.out.grown hg)
  have R4 := Lib.hid (R3.out.grown hg)
  have D4 := Lib.hid (D3.out.grown hg)
  clear hg L3 S3 B3 R3 D3
  cases b' with
  | false =>
    go_wp2_with fail
    refine (lkSame g0 r0 D' _ D4.out R4.out).mono ?_
    rintro e W5 ⟨rfl, hg⟩
    have L5 := Lib.hid (L4.out.trans (below_grown hg |>.mono L4.out.size))
    clear hg
    go_wp2_with fail
    go_ret
    exact ⟨rfl, L5.out⟩
  | true =>
    have F8 : Hid (f.length = 8) := Lib.hid (read_yes R.out).1.2.2.1
    obtain rfl : n8 = 8 := by rw [← N8.out]; exact F8.out
    have w37 : IntKind.i64.wrap ((len1 : Int) * 37) = (len1 : Int) * 37 := IntWalk.i64_in _ (by omega)
    obtain ⟨s, hs256, hse⟩ : ∃ s : Nat, s < 256 ∧ ((len1 : Int) * 37).tmod 256 = s := ⟨len1 * 37 % 256, by omega, by rw [Int.tmod_eq_emod_of_nonneg (by omega)]; omega⟩
    have SB := Lib.hid (fun w => lkThere s hs256 w)
    have SL8 : Hid ((Sp.bits s).length = 8) := Lib.hid (by simp [Sp.bits])
    generalize Sp.bits s = sb at *
    clear N8 H8 hqq hqe
    go_wp2_with fail
    refine (SB.out _).mono ?_
    rintro e W5 ⟨x, rfl, hg, ho⟩
    have L5 := Lib.hid (L4.out.trans (below_grown hg |>.mono L4.out.size))
    have S5 := Lib.hid (S4.out.grown hg)
    have B5 := Lib.hid (B4.out.grown hg)
    have D5 := Lib.hid (D4.out.grown hg)
    have lt4 : W4.heap.size ≤ W5.heap.size := hg.size
    obtain ⟨g, cq, rfl, gb, gl, cq8, cqm, _, _⟩ := BOwn.eight ho SL8.out
    unfold maxLen at cqm
    have X5 := Lib.hid ho
    have GW := Lib.hid hg
    have w4 : w.heap.size ≤ W4.heap.size := L4.out.size
    have S4' := Lib.hid S4.out
    have B4' := Lib.hid B4.out
    have D4' := Lib.hid D4.out
    clear hg ho SB L4 S4 B4 D4 w37 hse S5 B5 D5
    go_wp2_with fail
    go_loopw [13] (fun i wr => ∃ (j : Nat) (s' : List Bool), j ≤ 8 ∧ i = .int .i64 j ∧ mix sb f j s' ∧ W4.grownBy wr none ∧ Below w.heap.size w wr ∧ BOwn wr W4.heap.size (.slice (some ⟨g, 0, none⟩) 8 cq) s') (fun i _ => 8 - (intOf i).toNat)
    case atStart => exact ⟨0, sb, by omega, rfl, mix_start SL8.out, GW.out, L5.out, X5.out⟩
    case round =>
      obtain ⟨j, s', hj, rfl, hmx, hgr, hlb, hox⟩ := hrel
      have MX := Lib.hid hmx
      have GR := Lib.hid hgr
      have LB := Lib.hid hlb
      have OX := Lib.hid hox
      clear hmx hgr hlb hox X5 GW L5
      have hs8 := MX.out.1
      by_cases hlt : j < 8
      · have hlt' : (j : Int) < 8 := by omega
        obtain ⟨g', cq', e', _, _, _, _, gc, gf⟩ := OX.out.eight hs8
        injection e' with e1 e2 e3
        injection e1 with e1
        injection e1 with e1
        subst e1 e3
        have hx := gc j hlt
        have hf := gf j
        obtain ⟨a', c', e', _, _, hr⟩ := B4'.out.grown GR.out
        injection e' with e1 e2' e3
        subst e1 e3
        obtain ⟨b, o, rfl, hth⟩ := hr.at_ (k := j) (by rw [F8.out]; exact hlt)
        obtain ⟨hsj, hnx⟩ := mix_next MX.out hlt
        rw [hsj] at hx
        have NX := Lib.hid hnx
        have P6 := Lib.hid (OX.out.put hs8.symm j (sb.getD j false && f.getD j false))
        have G6 := Lib.hid (grown_own GR.out P6.out.2 (fun q hq => by injection hq with hq; omega))
        have L6 := Lib.hid (LB.out.trans ((Below.setCell (Below.refl w.heap.size wr) (p := ⟨g, j, none⟩) (by show w.heap.size ≤ g; omega) (.bool (sb.getD j false && f.getD j false)))))
        clear e2 e2' hr gc gf hnx hsj hs8
        generalize sb.getD j false = bs at *
        generalize f.getD j false = bf at *
        cases bs with
        | false =>
          rw [show (false && bf) = false from rfl] at NX P6 G6 L6
          go_wp2_with fail
          clear hx hf hth
          go_roundw
          case rel => exact ⟨j + 1, _, by omega, by go_num, NX.out, G6.out, L6.out, P6.out.1⟩
          case measure => simp [intOf]; omega
        | true =>
          rw [show (true && bf) = bf from Bool.true_and bf] at NX P6 G6 L6
          go_wp2_with fail
          clear hx hf hth
          go_roundw
          case rel => exact ⟨j + 1, _, by omega, by go_num, NX.out, G6.out, L6.out, P6.out.1⟩
          case measure => simp [intOf]; omega
      · obtain rfl : j = 8 := by omega
        have SUB := Lib.hid (mix_done MX.out)
        have BX : Hid (Bl wr (.slice (some ⟨g, 0, none⟩) 8 cq) s') := Lib.hid OX.out.bl
        have S6 := Lib.hid (S4'.out.grown GR.out)
        have D6 := Lib.hid (D4'.out.grown GR.out)
        have M8 := Lib.hid MX.out.1
        clear OX MX B4' S4' D4' GR
        go_wp2_with fail
        refine (implReadData m _ _ l s' _ S6.out BX.out).mono ?_
        rintro e W7 ⟨E, fine, h0, rfl, hg, ho, hr⟩
        have RL := Lib.hid (read_less R.out M8.out SUB.out hr)
        have L7 := Lib.hid (LB.out.trans (below_grown hg |>.mono LB.out.size))
        have D7 := Lib.hid (D6.out.grown hg)
        have B7 := Lib.hid (BX.out.grown hg)
        have E7 := Lib.hid ho.sl
        clear hg ho hr LB D6 BX S6
        go_wp2_with fail
        refine (implBears m _ s' _ B7.out).mono ?_
        rintro e W8 ⟨rfl, hg⟩
        rw [← RL.out.1]
        have L8 := Lib.hid (L7.out.trans (below_grown hg |>.mono L7.out.size))
        have D8 := Lib.hid (D7.out.grown hg)
        have E8 := Lib.hid (E7.out.grown hg)
        have ff : (fine == fine) = true := by simp
        clear hg L7 D7 E7 B7
        cases fine with
        | false =>
          go_wp2_with fail
          go_ret
          exact ⟨rfl, L8.out⟩
        | true =>
          obtain rfl := RL.out.2 rfl
          go_wp2_with fail
          refine (lkSame h0 g0 E _ E8.out D8.out).mono ?_
          rintro e W9 ⟨rfl, hg⟩
          have L9 := Lib.hid (L8.out.trans (below_grown hg |>.mono L8.out.size))
          clear hg
          go_wp2_with fail
          go_ret
          exact ⟨rfl, L9.out⟩

set_option maxRecDepth 100000 in
theorem lifted (os : Os) (started : os.Started) (H : Type) (enc : TypeId × Value → H) :
    ReturnsInHanded {} Try.checked os 5 .any (Rows.fnReadTwoSpec.pre6 enc Try.prog Try.f5 Rows.fnReadTwoRow.domain false) (Rows.fnReadTwoSpec.post enc Try.prog Try.f5 false true false false) := by
  refine returnsInHanded_of_change (C := Try.checked) own started (by kernel_rfl) Try.func5
    (ChangeSpec.witness6 (enc := enc) (C := Try.checked) false ⟨#[], #[.slice none 0 0, .slice none 0 0], []⟩ 8 (by kernel_rfl) (by kernel_rfl) (by kernel_rfl) (by kernel_rfl)) ?_
  intro W base args ds gs before hval0 hW hcnd _
  have hval : ∀ (j : Nat) t v, Try.f5.params[j]? = some t → args[j]? = some v → Value.okWide Try.prog W .any base t v := hval0
  have hW' := hW
  obtain ⟨p, q, hA0, hV, rfl, hfz, hnd⟩ := hW
  have hA : DataW.TrodAll enc Try.prog W 0 (fun _ => true) true Try.f5.params.toList args.toList ds p := hA0
  rw [Try.params5] at hA hval
  obtain ⟨v0, vs0, d0, ds0, p0, q0, hargs, rfl, rfl, h0, r0⟩ := trodAll_cons hA
  obtain ⟨v1, vs1, d1, ds1, p1, q1, rfl, rfl, rfl, h1, r1⟩ := trodAll_cons r0
  obtain ⟨rfl, rfl, rfl⟩ := trodAll_nil r1
  obtain rfl : args = #[v0, v1] := by cases args; simp_all
  obtain ⟨rfl, rfl⟩ := trodVars_none hV
  obtain ⟨a0, len0, cap0, rfl⟩ := okWide_slice Try.underlying22 (hval 0 22 v0 rfl rfl)
  have k0 := h0
  have lt0 : ∀ x ∈ p0, x.block < W.heap.size := by obtain ⟨m, hm⟩ := k0; exact DataW.trod_lt m _ _ _ hm
  obtain ⟨z0, w0⟩ : ∃ zs, IsRow .u8 W a0 len0 cap0 zs := by
    obtain ⟨fuel, hf⟩ := h0
    rcases open_ints Try.underlying22 Try.underlying5 (by kernel_rfl) hf with ⟨hcs, _⟩ | ⟨x, l, c, zs, hcs, _, hl, hm, hz, _, hcell, hwz⟩
    · simp [Value.cells] at hcs
      obtain ⟨rfl, rfl, rfl⟩ := hcs
      exact ⟨[], .inl ⟨rfl, rfl, rfl, rfl⟩⟩
    · simp [Value.cells] at hcs
      obtain ⟨rfl, rfl, rfl⟩ := hcs
      exact ⟨zs, .inr ⟨_, rfl, hl, hm, by simpa using hz, hcell, hwz⟩⟩
  obtain ⟨a1, len1, cap1, rfl⟩ := okWide_slice Try.underlying22 (hval 1 22 v1 rfl rfl)
  have k1 := h1
  have lt1 : ∀ x ∈ p1, x.block < W.heap.size := by obtain ⟨m, hm⟩ := k1; exact DataW.trod_lt m _ _ _ hm
  obtain ⟨z1, w1⟩ : ∃ zs, IsRow .u8 W a1 len1 cap1 zs := by
    obtain ⟨fuel, hf⟩ := h1
    rcases open_ints Try.underlying22 Try.underlying5 (by kernel_rfl) hf with ⟨hcs, _⟩ | ⟨x, l, c, zs, hcs, _, hl, hm, hz, _, hcell, hwz⟩
    · simp [Value.cells] at hcs
      obtain ⟨rfl, rfl, rfl⟩ := hcs
      exact ⟨[], .inl ⟨rfl, rfl, rfl, rfl⟩⟩
    · simp [Value.cells] at hcs
      obtain ⟨rfl, rfl, rfl⟩ := hcs
      exact ⟨zs, .inr ⟨_, rfl, hl, hm, by simpa using hz, hcell, hwz⟩⟩
  clear hA0 hval0
  refine (walk a0 len0 cap0 z0 a1 len1 cap1 z1 W w0 w1).mono fun e W' ⟨he, bel⟩ => ?_
  subst he
  exact ⟨_, rfl, _, _, _, [], _, [], hW', trodAll_mk1 (shut_bool Try.underlying4 _), (trodAll_cons_mk (Below.trod laidOut (by kernel_rfl) (of_decide_eq_true (by kernel_rfl)) k0 bel lt0) (trodAll_cons_mk (Below.trod laidOut (by kernel_rfl) (of_decide_eq_true (by kernel_rfl)) k1 bel lt1) trodAll_mk0)), rfl, bel.frame _, fun h => by cases h⟩

theorem over : Rows.fnReadTwoRow.holds Try.pinned (OpenSpec.ofChange Rows.fnReadTwoSpec) :=
  OpenClaim.holds_of_wide 5 Try.f5 rfl rfl rfl rfl rfl rfl rfl ⟨rfl, rfl, rfl, rfl, rfl⟩ rfl rfl rfl rfl rfl (by kernel_rfl) Try.func5 (by kernel_rfl)
    (of_decide_eq_true (by kernel_rfl)) (by unfold Func.isWrapper; first | (rw [if_pos (by decide +kernel)]; kernel_rfl) | (rw [if_neg (by decide +kernel)]; exact ⟨rfl, rfl⟩))
    (fun os started H enc _ => lifted os started H enc)

theorem proved : Rows.FnReadTwoSaid := over
#print axioms proved
end Go.Proofs.Ytdmbbipcdkikiaa.fnReadTwo
