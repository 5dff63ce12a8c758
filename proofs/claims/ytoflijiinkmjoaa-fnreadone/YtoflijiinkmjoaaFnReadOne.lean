/-
  From whatever bytes a stripe is drawn, what StripeRead answers is what ReadData makes of the shards of one version, which are sufficient: the law FnReadOne returns true.
  Conditions: none.
-/
import Derived.Test.YtoflijiinkmjoaaRows
import Derived.WalkKit
import Derived.ProofKit
import Derived.OpenShut
import Derived.ShutString
import Derived.ChangeOld
import Derived.Below
import Derived.Test.YtoflijiinkmjoaaG1
import Derived.Test.YtoflijiinkmjoaaAppendZeros
import Derived.Test.YtoflijiinkmjoaaG2
import Derived.Test.YtoflijiinkmjoaaG3
import Derived.Test.YtoflijiinkmjoaaG4
import Derived.Test.YtoflijiinkmjoaaReadMath
import Derived.Test.YtoflijiinkmjoaaReadSpec
import Derived.Test.YtoflijiinkmjoaaReadTake
import Derived.Test.YtoflijiinkmjoaaReadProg
import Derived.Test.YtoflijiinkmjoaaReadTop
import Derived.Test.YtoflijiinkmjoaaReadTop2
import Derived.Test.YtoflijiinkmjoaaReadTop3
import Derived.Test.YtoflijiinkmjoaaReadSpec2
import Derived.Test.YtoflijiinkmjoaaReadSpec3
import Derived.Test.YtoflijiinkmjoaaDrawRead
import Derived.Test.YtoflijiinkmjoaaStripeMath
import Derived.Test.YtoflijiinkmjoaaStripeBlk
import Derived.Test.YtoflijiinkmjoaaStripeClean
import Derived.Test.YtoflijiinkmjoaaStripeVers
import Derived.Test.YtoflijiinkmjoaaStripeFits
import Derived.Test.YtoflijiinkmjoaaStripeOf
import Derived.Test.YtoflijiinkmjoaaStripeOps
import Derived.Test.YtoflijiinkmjoaaStripeBest
import Derived.Test.YtoflijiinkmjoaaStripePub
import Derived.Test.YtoflijiinkmjoaaStripeTop
import Derived.Test.YtoflijiinkmjoaaStripeTop2
import Derived.Test.YtoflijiinkmjoaaStripeSpec
import Derived.Test.YtoflijiinkmjoaaStripeSpec2
import Derived.Test.YtoflijiinkmjoaaStripeSpec3
import Derived.Test.YtoflijiinkmjoaaStripeCopy
import Derived.Test.YtoflijiinkmjoaaStripeSpec4
import Derived.Test.YtoflijiinkmjoaaStripeNewS
import Derived.Test.YtoflijiinkmjoaaStripePutS
import Derived.Test.YtoflijiinkmjoaaStripeWriteS
import Derived.Test.YtoflijiinkmjoaaStripeDraw
import Derived.Test.YtoflijiinkmjoaaStripeDraw2
import Derived.Test.YtoflijiinkmjoaaStripeDraw3
namespace Go.Proofs.Ytoflijiinkmjoaa.fnReadOne
open Go.ChangeShapes Go.WideShapes Go.ChangeAt Go.RowKit
open Go.ChangeMaps (open_string shut_string)
set_option linter.unusedVariables false

theorem own : ownKnob Try.prog.godebug = none := by kernel_rfl
theorem laidOut : laidOutB Try.prog = true := by kernel_rfl

/-- WHAT THE WALK IS TOLD OF A SLICE OF INTEGERS THAT CAME IN: it is nil; or it leads to a row of 'cap' cells, the numbers 'zs' (the first 'len' are its elements, the rest its spare room), each fitting its kind. -/
def IsRow (k : IntKind) (w : World) (a : Option Addr) (len cap : Nat) (zs : List Int) : Prop :=
  (a = none ∧ len = 0 ∧ cap = 0 ∧ zs = []) ∨
  ∃ x, a = some x ∧ len ≤ cap ∧ cap ≤ maxLen ∧ zs.length = cap ∧ (∀ i, i < zs.length → w.cell? (x.add i) = some (.int k (zs.getD i 0))) ∧ ∀ n ∈ zs, (Lit.int k n).wf = true

set_option maxHeartbeats 16000000 in
set_option maxRecDepth 20000 in
theorem walk (a0 : Option Addr) (len0 cap0 : Nat) (z0 : List Int) (w : World) (w0 : IsRow .u8 w a0 len0 cap0 z0) :
    Calls Try.prog 3 #[.slice a0 len0 cap0] w fun e w' => e = .returned (.bool true) ∧ Below w.heap.size w w' := by
  have hc : Code w a0 len0 cap0 := code_of w0
  have hm : cap0 ≤ maxLen := hc.2.1
  have hl : len0 ≤ cap0 := hc.1
  unfold maxLen at hm
  have C := Lib.hid hc
  clear hc w0
  by_cases hbig0 : (len0 : Int) > 1048576
  · go_enter Try.func3, Try.ntmps3
    go_wp2_with fail
    go_ret
    exact ⟨rfl, Below.refl _ _⟩
  go_enter Try.func3, Try.ntmps3
  go_wp2_with fail
  refine (drawStripeRead a0 len0 cap0 _ C.out).mono ?_
  rintro e W1 ⟨k, u, x, y, a, v, f, la, lv, lf, rfl, hb, ho⟩
  obtain ⟨b1, d1, e1, -, q1, -⟩ := ho.a
  obtain ⟨b2, d2, e2, -, q2, -⟩ := ho.v
  obtain ⟨b3, d3, e3, -, q3, -⟩ := ho.f
  rw [la] at e1
  rw [lv] at e2
  rw [lf] at e3
  subst e1 e2 e3
  unfold maxLen at q1 q2 q3
  have LA := Lib.hid la
  have LV := Lib.hid lv
  have LF := Lib.hid lf
  have T0 := Lib.hid (LS.new (k := k) hb ho)
  clear hb ho C la lv lf
  go_upto_region 4 with fail
  generalize W1.alloc (.cells #[.int .i64 k, .slice b1 8 d1, .slice b2 8 d2, .slice b3 8 d3] 26) = W2 at *
  generalize W1.heap.size = t at *
  have c0 := T0.out.blk.cell (i := 0) rfl
  have c1 := T0.out.blk.cell (i := 1) rfl
  have c2 := T0.out.blk.cell (i := 2) rfl
  have c3 := T0.out.blk.cell (i := 3) rfl
  go_wp2_with fail
  refine (specStripeRead k _ _ _ a v f _ T0.out.own.a T0.out.own.v T0.out.own.f (by rw [LA.out]; omega)).mono ?_
  rintro e W3 ⟨l, n, b, ul, hT, rfl, hg, ho⟩
  have T := Lib.hid (T0.out.still hg)
  have RT := Lib.hid hT
  have P := Lib.hid ho.sl
  obtain ⟨ap, cp, ep, -, qp, -⟩ := ho.sl
  subst ep
  unfold maxLen at qp
  clear hg ho hT T0 c0 c1 c2 c3
  have c0 := T.out.blk.cell (i := 0) rfl
  have c1 := T.out.blk.cell (i := 1) rfl
  have c2 := T.out.blk.cell (i := 2) rfl
  have c3 := T.out.blk.cell (i := 3) rfl
  go_wp2_with fail
  refine (implStripeRead k _ _ _ a v f _ T.out.own.a T.out.own.v T.out.own.f).mono ?_
  rintro e W4 ⟨l', n', b', vl, hT, rfl, hg, ho⟩
  obtain ⟨rfl, rfl, rfl⟩ := RT.out.one hT
  replace T := Lib.hid (T.out.still hg)
  replace P := Lib.hid (P.out.grown hg)
  have Q := Lib.hid ho.sl
  obtain ⟨aq, cq, eq, -, qq, -⟩ := ho.sl
  subst eq
  unfold maxLen at qq
  clear hg ho hT c0 c1 c2 c3
  obtain ⟨ll, hll⟩ : ∃ n, n = l.length := ⟨_, rfl⟩
  rw [← hll] at P Q ⊢
  have NL := Lib.hid hll
  clear hll
  have nn : (n != n) = false := by simp
  have bb : (b != b) = false := by simp
  have c0 := T.out.blk.cell (i := 0) rfl
  have c1 := T.out.blk.cell (i := 1) rfl
  have c2 := T.out.blk.cell (i := 2) rfl
  have c3 := T.out.blk.cell (i := 3) rfl
  go_wp2_with fail
  refine (lkSame _ _ l _ Q.out P.out).mono ?_
  rintro e W5 ⟨rfl, hg⟩
  replace T := Lib.hid (T.out.still hg)
  replace P := Lib.hid (P.out.grown hg)
  replace Q := Lib.hid (Q.out.grown hg)
  clear hg c0 c1 c2 c3
  have c0 := T.out.blk.cell (i := 0) rfl
  have c1 := T.out.blk.cell (i := 1) rfl
  have c2 := T.out.blk.cell (i := 2) rfl
  have c3 := T.out.blk.cell (i := 3) rfl
  go_wp2_with fail
  refine (specStripeOk k _ _ _ a v f _ T.out.own.a T.out.own.v T.out.own.f (by rw [LA.out]; omega)).mono ?_
  rintro e W6 ⟨q, rfl, hq, hg⟩
  replace T := Lib.hid (T.out.still hg)
  replace P := Lib.hid (P.out.grown hg)
  replace Q := Lib.hid (Q.out.grown hg)
  have HQ := Lib.hid hq
  clear hg hq c0 c1 c2 c3
  cases q with
  | false =>
    have bc : (b == b) = true := by simp
    have nc : (n == n) = true := by simp
    go_wp2_with fail
    refine (lkSame _ _ l _ Q.out P.out).mono ?_
    rintro e W7 ⟨rfl, hg⟩
    replace T := Lib.hid (T.out.still hg)
    clear hg
    go_wp2_with fail
    go_ret
    exact ⟨rfl, T.out.bel⟩
  | true =>
    have OK := Lib.hid (HQ.out.1 rfl)
    clear HQ
    cases b with
    | false =>
      have n0 : n = 0 := by rcases RT.out with ⟨h, _⟩ | ⟨_, _, h, _⟩; cases h; exact h
      subst n0
      go_wp2_with fail
      go_ret
      exact ⟨rfl, T.out.bel⟩
    | true =>
      obtain ⟨h1, h2, h3⟩ : 1 ≤ n ∧ Best k v f n ∧ Sp.IsData k.toNat (ofM v f n) a l := by rcases RT.out with ⟨_, _, h1, h2, h3⟩ | ⟨h, _⟩; exact ⟨h1, h2, h3⟩; cases h
      have H1 := Lib.hid h1
      have H2 := Lib.hid h2
      have H3 := Lib.hid h3
      clear h1 h2 h3
      have c0 := T.out.blk.cell (i := 0) rfl
      have c1 := T.out.blk.cell (i := 1) rfl
      have c2 := T.out.blk.cell (i := 2) rfl
      have c3 := T.out.blk.cell (i := 3) rfl
      go_wp2_with fail
      refine (lawOf k n _ _ _ a v f _ T.out.own.a T.out.own.v T.out.own.f LV.out LF.out).mono ?_
      rintro e W7 ⟨g, rfl, hg, ho⟩
      replace T := Lib.hid (T.out.still hg)
      replace P := Lib.hid (P.out.grown hg)
      replace Q := Lib.hid (Q.out.grown hg)
      have G := Lib.hid ho.bl
      clear hg ho c0 c1 c2 c3
      have c0 := T.out.blk.cell (i := 0) rfl
      have c1 := T.out.blk.cell (i := 1) rfl
      have c2 := T.out.blk.cell (i := 2) rfl
      have c3 := T.out.blk.cell (i := 3) rfl
      obtain ⟨F, hF⟩ : ∃ F, ofM v f n = F := ⟨_, rfl⟩
      have HF := Lib.hid hF
      have BE : Hid (bearsM k F = true) := Lib.hid (by rw [← hF]; exact H2.out.pos H1.out)
      rw [hF] at G
      clear hF
      go_wp2_with fail
      refine (implReadData k _ g a F _ T.out.own.a G.out).mono ?_
      rintro e W8 ⟨l2, bd, z, rfl, hg, ho, hr⟩
      replace T := Lib.hid (T.out.still hg)
      replace Q := Lib.hid (Q.out.grown hg)
      replace G := Lib.hid (G.out.grown hg)
      have Z := Lib.hid ho.sl
      obtain ⟨rfl, rfl⟩ : bd = true ∧ l2 = l := by
        have hd := H3.out
        rw [HF.out] at hd
        have GD := OK.out.good (H2.out.pos H1.out)
        rw [HF.out] at GD
        rcases hr with ⟨rfl, _, _, g3⟩ | ⟨_, _, h⟩
        · exact ⟨rfl, g3.one GD.2.2.2 hd⟩
        · exact absurd ⟨GD, BE.out⟩ h
      clear hg ho hr c0 c1 c2 c3 P
      have c0 := T.out.blk.cell (i := 0) rfl
      have c1 := T.out.blk.cell (i := 1) rfl
      have c2 := T.out.blk.cell (i := 2) rfl
      have c3 := T.out.blk.cell (i := 3) rfl
      go_wp2_with fail
      refine (lkSame _ _ _ _ Z.out Q.out).mono ?_
      rintro e W9 ⟨rfl, hg⟩
      replace T := Lib.hid (T.out.still hg)
      replace G := Lib.hid (G.out.grown hg)
      clear hg c0 c1 c2 c3
      have c0 := T.out.blk.cell (i := 0) rfl
      have c1 := T.out.blk.cell (i := 1) rfl
      have c2 := T.out.blk.cell (i := 2) rfl
      have c3 := T.out.blk.cell (i := 3) rfl
      go_wp2_with fail
      refine (implBears k g F _ G.out).mono ?_
      rintro e W10 ⟨rfl, hg⟩
      replace T := Lib.hid (T.out.still hg)
      rw [BE.out]
      clear hg c0 c1 c2 c3
      go_wp2_with fail
      go_ret
      exact ⟨rfl, T.out.bel⟩

set_option maxRecDepth 100000 in
theorem lifted (os : Os) (started : os.Started) (H : Type) (enc : TypeId × Value → H) :
    ReturnsInHanded {} Try.checked os 3 .any (Rows.fnReadOneSpec.pre6 enc Try.prog Try.f3 Rows.fnReadOneRow.domain false) (Rows.fnReadOneSpec.post enc Try.prog Try.f3 false true false false) := by
  refine returnsInHanded_of_change (C := Try.checked) own started (by kernel_rfl) Try.func3
    (ChangeSpec.witness6 (enc := enc) (C := Try.checked) false ⟨#[], #[.slice none 0 0], []⟩ 8 (by kernel_rfl) (by kernel_rfl) (by kernel_rfl) (by kernel_rfl)) ?_
  intro W base args ds gs before hval0 hW hcnd _
  have hval : ∀ (j : Nat) t v, Try.f3.params[j]? = some t → args[j]? = some v → Value.okWide Try.prog W .any base t v := hval0
  have hW' := hW
  obtain ⟨p, q, hA0, hV, rfl, hfz, hnd⟩ := hW
  have hA : DataW.TrodAll enc Try.prog W 0 (fun _ => true) true Try.f3.params.toList args.toList ds p := hA0
  rw [Try.params3] at hA hval
  obtain ⟨v0, vs0, d0, ds0, p0, q0, hargs, rfl, rfl, h0, r0⟩ := trodAll_cons hA
  obtain ⟨rfl, rfl, rfl⟩ := trodAll_nil r0
  obtain rfl : args = #[v0] := by cases args; simp_all
  obtain ⟨rfl, rfl⟩ := trodVars_none hV
  obtain ⟨a0, len0, cap0, rfl⟩ := okWide_slice Try.underlying22 (hval 0 22 v0 rfl rfl)
  have k0 := h0
  have lt0 : ∀ x ∈ p0, x.block < W.heap.size := by obtain ⟨m, hm⟩ := k0; exact DataW.trod_lt m _ _ _ hm
  obtain ⟨z0, w0⟩ : ∃ zs, IsRow .u8 W a0 len0 cap0 zs := by
    obtain ⟨fuel, hf⟩ := h0
    rcases open_ints Try.underlying22 Try.underlying5 (by kernel_rfl) hf with ⟨hcs, _⟩ | ⟨x, l, c, zs, hcs, _, hl, hm, hz, _, hcell, hwz⟩
    · simp [Value.cells] at hcs
      obtain ⟨rfl, rfl, rfl⟩ := hcs
      exact ⟨[], .inl ⟨rfl, rfl, rfl, rfl⟩⟩
    · simp [Value.cells] at hcs
      obtain ⟨rfl, rfl, rfl⟩ := hcs
      exact ⟨zs, .inr ⟨_, rfl, hl, hm, by simpa using hz, hcell, hwz⟩⟩
  clear hA0 hval0
  refine (walk a0 len0 cap0 z0 W w0).mono fun e W' ⟨he, bel⟩ => ?_
  subst he
  exact ⟨_, rfl, _, _, _, [], _, [], hW', trodAll_mk1 (shut_bool Try.underlying4 _), (trodAll_cons_mk (Below.trod laidOut (by kernel_rfl) (of_decide_eq_true (by kernel_rfl)) k0 bel lt0) trodAll_mk0), rfl, bel.frame _, fun h => by cases h⟩

theorem over : Rows.fnReadOneRow.holds Try.pinned (OpenSpec.ofChange Rows.fnReadOneSpec) :=
  OpenClaim.holds_of_wide 3 Try.f3 rfl rfl rfl rfl rfl rfl rfl ⟨rfl, rfl, rfl, rfl, rfl⟩ rfl rfl rfl rfl rfl (by kernel_rfl) Try.func3 (by kernel_rfl)
    (of_decide_eq_true (by kernel_rfl)) (by unfold Func.isWrapper; first | (rw [if_pos (by decide +kernel)]; kernel_rfl) | (rw [if_neg (by decide +kernel)]; exact ⟨rfl, rfl⟩))
    (fun os started H enc _ => lifted os started H enc)

theorem proved : Rows.FnReadOneSaid := over
#print axioms proved
end Go.Proofs.Ytoflijiinkmjoaa.fnReadOne
