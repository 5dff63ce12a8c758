/-
  From whatever bytes a kind, values and flags are drawn, ReadFind answers as its model does; it is -1 just if all fit, and if it is a shard, that is there, and without it, and without no other, all others fit: the law FnFindFits returns true.
  Conditions: none.
-/
import Derived.Test.YtdmbbipcdkikiaaRows
import Derived.WalkKit
import Derived.ProofKit
import Derived.OpenShut
import Derived.ShutString
import Derived.ChangeOld
import Derived.Below
import Derived.Test.YtdmbbipcdkikiaaG1
import Derived.Test.YtdmbbipcdkikiaaAppendZeros
import Derived.Test.YtdmbbipcdkikiaaG2
import Derived.Test.YtdmbbipcdkikiaaG3
import Derived.Test.YtdmbbipcdkikiaaG4
import Derived.Test.YtdmbbipcdkikiaaReadMath
import Derived.Test.YtdmbbipcdkikiaaReadSpec
import Derived.Test.YtdmbbipcdkikiaaReadTake
import Derived.Test.YtdmbbipcdkikiaaReadProg
import Derived.Test.YtdmbbipcdkikiaaReadTop
import Derived.Test.YtdmbbipcdkikiaaReadTop2
import Derived.Test.YtdmbbipcdkikiaaReadTop3
import Derived.Test.YtdmbbipcdkikiaaReadSpec2
import Derived.Test.YtdmbbipcdkikiaaReadSpec3
import Derived.Test.YtdmbbipcdkikiaaDrawRead
namespace Go.Proofs.Ytdmbbipcdkikiaa.fnFindFits
open Go.ChangeShapes Go.WideShapes Go.ChangeAt Go.RowKit
open Go.ChangeMaps (open_string shut_string)
set_option linter.unusedVariables false

theorem own : ownKnob Try.prog.godebug = none := by kernel_rfl
theorem laidOut : laidOutB Try.prog = true := by kernel_rfl

/-- WHAT THE WALK IS TOLD OF A SLICE OF INTEGERS THAT CAME IN: it is nil; or it leads to a row of 'cap' cells, the numbers 'zs' (the first 'len' are its elements, the rest its spare room), each fitting its kind. -/
def IsRow (k : IntKind) (w : World) (a : Option Addr) (len cap : Nat) (zs : List Int) : Prop :=
  (a = none ∧ len = 0 ∧ cap = 0 ∧ zs = []) ∨
  ∃ x, a = some x ∧ len ≤ cap ∧ cap ≤ maxLen ∧ zs.length = cap ∧ (∀ i, i < zs.length → w.cell? (x.add i) = some (.int k (zs.getD i 0))) ∧ ∀ n ∈ zs, (Lit.int k n).wf = true

theorem find_all {k : Int} {a : List Int} {f : List Bool} {r : Int} {b : Bool} (h : FindT k a f r) (hb : b = true ↔ FitM k a f) : (r == -1) = b := by
  rw [Bool.eq_iff_iff, hb, beq_iff_eq]
  rcases h with ⟨h1, h2⟩ | ⟨h1, rfl⟩
  · constructor
    · intro e
      refine ⟨h1.1, h1.2.1, h1.2.2, Classical.byContradiction fun hn => ?_⟩
      rcases h2.low hn with h3 | ⟨n, _, h3⟩ <;> omega
    · exact fun h => h2.all h.2.2.2
  · exact ⟨fun e => by omega, fun h => absurd ⟨h.1, h.2.1, h.2.2.1⟩ h1⟩
theorem find_one {k : Int} {a : List Int} {f : List Bool} {n : Nat} (h : FindT k a f n) : okR k a f ∧ n < 8 ∧ f.getD n false = true ∧ ∀ i, i < 8 → f.getD i false = true → (FitM k a (f.set i false) ↔ i = n) := by
  rcases h with ⟨h1, h2⟩ | ⟨_, e⟩
  · have hn : ¬ Sp.Fit k.toNat f a := fun hf => by have := h2.all hf; omega
    obtain ⟨h3, h4, h5, h6⟩ := (h2.one n hn).1 rfl
    refine ⟨h1, h3, h4, fun i hi ht => ⟨fun hf => h6 i hi ht hf.2.2.2, ?_⟩⟩
    rintro rfl
    exact ⟨h1.1, h1.2.1, by rw [List.length_set]; exact h1.2.2, h5⟩
  · omega
theorem find_low {k : Int} {a : List Int} {f : List Bool} {r : Int} (h : FindT k a f r) (h0 : ¬ r < 0) : ∃ n : Nat, r = n := ⟨r.toNat, by omega⟩

set_option maxHeartbeats 4000000 in
set_option maxRecDepth 20000 in
theorem walk (a0 : Option Addr) (len0 cap0 : Nat) (z0 : List Int) (w : World) (w0 : IsRow .u8 w a0 len0 cap0 z0) :
    Calls Try.prog 4 #[.slice a0 len0 cap0] w fun e w' => e = .returned (.bool true) ∧ Below w.heap.size w w' := by
  have hc : Code w a0 len0 cap0 := code_of w0
  have hm : cap0 ≤ maxLen := hc.2.1
  have hl : len0 ≤ cap0 := hc.1
  unfold maxLen at hm
  have C := Lib.hid hc
  clear hc w0
  by_cases hbig0 : (len0 : Int) > 1048576
  · go_enter Try.func4, Try.ntmps4
    go_wp2_with fail
    go_ret
    exact ⟨rfl, Below.refl _ _⟩
  obtain ⟨i0, hi, hz0, hz1, hz2⟩ := info_parts infoBool
  have I1 := Lib.hid hi
  have I2 := Lib.hid hz0
  have I3 := Lib.hid hz1
  have I4 := Lib.hid hz2
  clear hi hz0 hz1 hz2
  go_enter Try.func4, Try.ntmps4
  go_wp2_with fail
  refine (drawReadFind a0 len0 cap0 _ C.out).mono ?_
  rintro e W1 ⟨m, u, v, l, f, hm3, rfl, hl8, hf8, hsl, hbl, hb⟩
  have L1 := Lib.hid hb
  have S1 := Lib.hid hsl
  have B1 := Lib.hid hbl
  have HL8 := Lib.hid hl8
  have H8 := Lib.hid hf8
  clear hb hbl hf8 hsl hl8 C
  obtain ⟨au, cu, eu, u1, u2, _⟩ := S1.out
  subst eu
  obtain ⟨av, cv, ev, c1, c2, _⟩ := B1.out
  subst ev
  unfold maxLen at c2 u2
  rw [HL8.out] at u1 S1 ⊢
  obtain ⟨n8, hn8⟩ : ∃ n, f.length = n := ⟨_, rfl⟩
  have N8 := Lib.hid hn8
  rw [hn8] at B1 c1 H8
  rw [hn8]
  clear hn8
  go_wp2_with fail
  refine (implReadFind m _ _ l f _ S1.out B1.out).mono ?_
  rintro e W2 ⟨r, rfl, hr, hg⟩
  have L2 := Lib.hid (L1.out.trans (below_grown hg |>.mono L1.out.size))
  have S2 := Lib.hid (S1.out.grown hg)
  have B2 := Lib.hid (B1.out.grown hg)
  have R := Lib.hid hr
  have hl1 : l.length ≤ 1048576 := by rw [HL8.out]; omega
  clear hg hr L1 S1 B1
  go_wp2_with fail
  refine (specReadFind m _ _ l f _ S2.out B2.out hl1).mono ?_
  rintro e W3 ⟨r', rfl, hr, hg⟩
  obtain rfl := hr.one R.out
  have L3 := Lib.hid (L2.out.trans (below_grown hg |>.mono L2.out.size))
  have S3 := Lib.hid (S2.out.grown hg)
  have B3 := Lib.hid (B2.out.grown hg)
  have hqq : (r' != r') = false := by simp
  clear hg hr L2 S2 B2
  by_cases h7 : n8 = 7
  · subst h7
    have hee : (r' == r') = true := by simp
    go_wp2_with fail
    refine (specReadFind m _ _ l f _ S3.out B3.out hl1).mono ?_
    rintro e W4 ⟨r2, rfl, hr, hg⟩
    obtain rfl := hr.one R.out
    have L4 := Lib.hid (L3.out.trans (below_grown hg |>.mono L3.out.size))
    clear hg hr
    go_wp2_with fail
    go_ret
    exact ⟨rfl, L4.out⟩
  · obtain rfl : n8 = 8 := by have := H8.out; omega
    have F8 : Hid (f.length = 8) := Lib.hid N8.out
    go_wp2_with fail
    refine (implFits m _ _ l f _ S3.out B3.out).mono ?_
    rintro e W4 ⟨q, rfl, hq, hg⟩
    have L4 := Lib.hid (L3.out.trans (below_grown hg |>.mono L3.out.size))
    have S4 := Lib.hid (S3.out.grown hg)
    have B4 := Lib.hid (B3.out.grown hg)
    have FA := find_all R.out hq
    have hqb : (q != q) = false := by simp
    have hqe : (q == q) = true := by simp
    clear hg hq L3 S3 B3 H8 N8
    by_cases hneg : r' < 0
    · go_wp2_with fail
      go_ret
      exact ⟨rfl, L4.out⟩
    · obtain ⟨n, rfl⟩ := find_low R.out hneg
      have ONE := Lib.hid (find_one R.out)
      clear R
      go_wp2_with fail
      go_loopw [8] (fun i wr => ∃ j : Nat, j ≤ 8 ∧ i = .int .i64 j ∧ Below w.heap.size w wr ∧ W4.grownBy wr none) (fun i _ => 8 - (intOf i).toNat)
      case atStart => exact ⟨0, by omega, rfl, L4.out, World.grownBy.refl _ _⟩
      case round =>
        obtain ⟨j, hj, rfl, hlb, hgr⟩ := hrel
        have LB := Lib.hid hlb
        have GR := Lib.hid hgr
        clear hlb hgr
        have B5 := Lib.hid (B4.out.grown GR.out)
        have S5 := Lib.hid (S4.out.grown GR.out)
        by_cases hlt : j < 8
        · have hlt' : (j : Int) < 8 := by omega
          obtain ⟨a', c', e', _, _, hr⟩ := B5.out
          injection e' with e1 e2 e3
          subst e1 e3
          obtain ⟨b, o, rfl, _⟩ := hr.at_ (k := j) (by rw [F8.out]; exact hlt)
          have O0 : Hid (BOwn (wr.alloc (.cells #[] 4)) wr.heap.size (.slice (some ⟨wr.heap.size, 0, none⟩) 0 0) []) := Lib.hid ((BArr.new wr 4 []).own rfl _ (Nat.le_refl _) (by simp [maxLen]))
          have R0 := Lib.hid (brds_news (hr.grown (World.grownBy_alloc wr (.cells #[] 4) none)))
          have fl : (bvals f).length = 8 * 1 := by rw [bvals_length, F8.out]
          have RR := Lib.hid hr
          clear e2 hr
          go_wp2_with (first
            | (at_builtin; refine wpList_append_own _ rfl _ _ 23 rfl wr.heap.size 4 i0 (.bool false) 1 1 Try.underlying23 I1.out I2.out I3.out I4.out rfl (by decide) _ _ _ rfl O0.out ⟨b, o, none⟩ 8 cv (bvals f) rfl fl R0.out (bvals_one f) ?c3 ?c4 ?c5 ?_))
          case c3 => simp [maxLen]
          case c4 => simp
          case c5 => simp
          intro x W5 ho hg _
          have G5 : Hid (wr.grownBy W5 none) := Lib.hid (grown_own (grown_alloc (World.grownBy.refl _ _) _) hg (fun j hj => (World.ownsRow.lt O0.out j hj).1))
          have O5 : BOwn W5 wr.heap.size x f := by
            unfold BOwn
            rw [F8.out]
            simpa [bvals] using ho
          clear ho hg O0 R0 fl
          obtain ⟨g, cq, rfl, gb, gl, cq8, cqm, gc, gf⟩ := O5.eight F8.out
          unfold maxLen at cqm
          have hx := gc j hlt
          have hf := gf j
          generalize f.getD j false = r0 at hx
          have P5 := Lib.hid (O5.put F8.out.symm j false)
          have G6 : Hid (wr.grownBy (W5.setCell ⟨g, j, none⟩ (.bool false)) none) := Lib.hid (grown_own G5.out P5.out.2 (fun q hq => by injection hq with hq; omega))
          have X6 := Lib.hid P5.out.1.bl
          obtain ⟨b2, o2, e2, hth⟩ := (RR.out.grown G6.out).at_ (k := j) (by rw [F8.out]; exact hlt)
          injection e2 with e2
          injection e2 with e21 e22
          subst e21 e22
          have L6 := Lib.hid (LB.out.trans (below_grown G6.out |>.mono LB.out.size))
          have GR6 := Lib.hid (grown_trans GR.out G6.out)
          have S6 := Lib.hid (S5.out.grown G6.out)
          clear O5 gc gf P5 G5 G6 GR LB B5 S5 RR
          cases hfn : f.getD j false with
          | false =>
            rw [hfn] at hth
            clear hfn
            go_wp2_with fail
            clear hx hf hth
            go_roundw
            case rel => exact ⟨j + 1, by omega, by go_num, L6.out, GR6.out⟩
            case measure => simp [intOf]; omega
          | true =>
            rw [hfn] at hth
            have FI := Lib.hid (ONE.out.2.2.2 j hlt hfn)
            clear hfn
            go_wp2_with fail
            clear hx hf hth
            generalize W5.setCell ⟨g, j, none⟩ (.bool false) = W6 at *
            refine (implFits m _ _ l (f.set j false) _ S6.out X6.out).mono ?_
            rintro e W7 ⟨q7, rfl, hq7, hg⟩
            have L7 := Lib.hid (L6.out.trans (below_grown hg |>.mono L6.out.size))
            have GR7 := Lib.hid (grown_trans GR6.out hg)
            have e7 : ((j : Int) == (n : Int)) = q7 := by
              rw [Bool.eq_iff_iff, hq7, FI.out, beq_iff_eq]
              omega
            have n7 : (q7 != q7) = false := by simp
            clear hg hq7 L6 GR6 S6 X6
            go_wp2_with fail
            go_roundw
            case rel => exact ⟨j + 1, by omega, by go_num, L7.out, GR7.out⟩
            case measure => simp [intOf]; omega
        · obtain rfl : j = 8 := by omega
          obtain ⟨a', c', e', _, _, hr⟩ := B5.out
          injection e' with e1 e2 e3
          subst e1 e3
          obtain ⟨b, o, rfl, hth⟩ := hr.at_ (k := n) (by rw [F8.out]; exact ONE.out.2.1)
          rw [ONE.out.2.2.1] at hth
          have hn8 : (n : Int) < 8 := by have := ONE.out.2.1; omega
          clear e2 hr
          go_wp2_with fail
          go_ret
          exact ⟨rfl, LB.out⟩

set_option maxRecDepth 100000 in
theorem lifted (os : Os) (started : os.Started) (H : Type) (enc : TypeId × Value → H) :
    ReturnsInHanded {} Try.checked os 4 .any (Rows.fnFindFitsSpec.pre6 enc Try.prog Try.f4 Rows.fnFindFitsRow.domain false) (Rows.fnFindFitsSpec.post enc Try.prog Try.f4 false true false false) := by
  refine returnsInHanded_of_change (C := Try.checked) own started (by kernel_rfl) Try.func4
    (ChangeSpec.witness6 (enc := enc) (C := Try.checked) false ⟨#[], #[.slice none 0 0], []⟩ 8 (by kernel_rfl) (by kernel_rfl) (by kernel_rfl) (by kernel_rfl)) ?_
  intro W base args ds gs before hval0 hW hcnd _
  have hval : ∀ (j : Nat) t v, Try.f4.params[j]? = some t → args[j]? = some v → Value.okWide Try.prog W .any base t v := hval0
  have hW' := hW
  obtain ⟨p, q, hA0, hV, rfl, hfz, hnd⟩ := hW
  have hA : DataW.TrodAll enc Try.prog W 0 (fun _ => true) true Try.f4.params.toList args.toList ds p := hA0
  rw [Try.params4] at hA hval
  obtain ⟨v0, vs0, d0, ds0, p0, q0, hargs, rfl, rfl, h0, r0⟩ := trodAll_cons hA
  obtain ⟨rfl, rfl, rfl⟩ := trodAll_nil r0
  obtain rfl : args = #[v0] := by cases args; simp_all
  obtain ⟨rfl, rfl⟩ := trodVars_none hV
  obtain ⟨a0, len0, cap0, rfl⟩ := okWide_slice Try.underlying22 (hval 0 22 v0 rfl rfl)
  have k0 := h0
  have lt0 : ∀ x ∈ p0, x.block < W.heap.size := by obtain ⟨m, hm⟩ := k0; exact DataW.trod_lt m _ _ _ hm
  obtain ⟨z0, w0⟩ : ∃ zs, IsRow .u8 W a0 len0 cap0 zs := by
    obtain ⟨fuel, hf⟩ := h0
    rcases open_ints Try.underlying22 Try.underlying5 (by kernel_rfl) hf with ⟨hcs, _⟩ | ⟨x, l, c, zs, hcs, _, hl, hm, hz, _, hcell, hwz⟩
    · simp [Value.cells] at hcs
      obtain ⟨rfl, rfl, rfl⟩ := hcs
      exact ⟨[], .inl ⟨rfl, rfl, rfl, rfl⟩⟩
    · simp [Value.cells] at hcs
      obtain ⟨rfl, rfl, rfl⟩ := hcs
      exact ⟨zs, .inr ⟨_, rfl, hl, hm, by simpa using hz, hcell, hwz⟩⟩
  clear hA0 hval0
  refine (walk a0 len0 cap0 z0 W w0).mono fun e W' ⟨he, bel⟩ => ?_
  subst he
  exact ⟨_, rfl, _, _, _, [], _, [], hW', trodAll_mk1 (shut_bool Try.underlying4 _), (trodAll_cons_mk (Below.trod laidOut (by kernel_rfl) (of_decide_eq_true (by kernel_rfl)) k0 bel lt0) trodAll_mk0), rfl, bel.frame _, fun h => by cases h⟩

theorem over : Rows.fnFindFitsRow.holds Try.pinned (OpenSpec.ofChange Rows.fnFindFitsSpec) :=
  OpenClaim.holds_of_wide 4 Try.f4 rfl rfl rfl rfl rfl rfl rfl ⟨rfl, rfl, rfl, rfl, rfl⟩ rfl rfl rfl rfl rfl (by kernel_rfl) Try.func4 (by kernel_rfl)
    (of_decide_eq_true (by kernel_rfl)) (by unfold Func.isWrapper; first | (rw [if_pos (by decide +kernel)]; kernel_rfl) | (rw [if_neg (by decide +kernel)]; exact ⟨rfl, rfl⟩))
    (fun os started H enc _ => lifted os started H enc)

theorem proved : Rows.FnFindFitsSaid := over
#print axioms proved
end Go.Proofs.Ytdmbbipcdkikiaa.fnFindFits
