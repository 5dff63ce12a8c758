/-
  From whatever bytes a kind and flags are drawn, CodeBears answers as its model does, as the rank of the rows that are there tells; with one more shard they are enough still; they are four at least: the law FnBears returns true.
  Conditions: none.
-/
import Derived.Test.YtbpkfcaokbidnabRows
import Derived.WalkKit
import Derived.ProofKit
import Derived.OpenShut
import Derived.ShutString
import Derived.ChangeOld
import Derived.Below
import Derived.Test.YtbpkfcaokbidnabFldMath
import Derived.Test.YtbpkfcaokbidnabMem
import Derived.Test.YtbpkfcaokbidnabField
import Derived.Test.YtbpkfcaokbidnabVecMath
import Derived.Test.YtbpkfcaokbidnabSpanMath
import Derived.Test.YtbpkfcaokbidnabSpanList
import Derived.Test.YtbpkfcaokbidnabSpanTidy
import Derived.Test.YtbpkfcaokbidnabSpanMore
import Derived.Test.YtbpkfcaokbidnabSpanBy
import Derived.Test.YtbpkfcaokbidnabSpanWork
import Derived.Test.YtbpkfcaokbidnabSpanElim
import Derived.Test.YtbpkfcaokbidnabInts
import Derived.Test.YtbpkfcaokbidnabTabs
import Derived.Test.YtbpkfcaokbidnabHelp
import Derived.Test.YtbpkfcaokbidnabVec
import Derived.Test.YtbpkfcaokbidnabVec2
import Derived.Test.YtbpkfcaokbidnabVecSpec
import Derived.Test.YtbpkfcaokbidnabSpanSpec
import Derived.Test.YtbpkfcaokbidnabSpanHelp
import Derived.Test.YtbpkfcaokbidnabSpanHelp2
import Derived.Test.YtbpkfcaokbidnabSpanOk
import Derived.Test.YtbpkfcaokbidnabSpanLine
import Derived.Test.YtbpkfcaokbidnabSpanEch
import Derived.Test.YtbpkfcaokbidnabSpanTake
import Derived.Test.YtbpkfcaokbidnabSpanProg
import Derived.Test.YtbpkfcaokbidnabSpanTops
import Derived.Test.YtbpkfcaokbidnabSpanSpec2
import Derived.Test.YtbpkfcaokbidnabSpanSpec3
import Derived.Test.YtbpkfcaokbidnabSpanSpec4
import Derived.Test.YtbpkfcaokbidnabDraw
import Derived.Test.YtbpkfcaokbidnabDrawField
import Derived.Test.YtbpkfcaokbidnabDrawVec
import Derived.Test.YtbpkfcaokbidnabCodeMath
import Derived.Test.YtbpkfcaokbidnabCodeList
import Derived.Test.YtbpkfcaokbidnabCodeWork
import Derived.Test.YtbpkfcaokbidnabFlags
import Derived.Test.YtbpkfcaokbidnabHelpB
import Derived.Test.YtbpkfcaokbidnabAlone
import Derived.Test.YtbpkfcaokbidnabCodeGen
import Derived.Test.YtbpkfcaokbidnabCodeGen2
import Derived.Test.YtbpkfcaokbidnabCodeGen3
import Derived.Test.YtbpkfcaokbidnabCodeSpec
import Derived.Test.YtbpkfcaokbidnabCodeBear
import Derived.Test.YtbpkfcaokbidnabCodeBear2
import Derived.Test.YtbpkfcaokbidnabCodeBear3
import Derived.Test.YtbpkfcaokbidnabCodeSpec2
import Derived.Test.YtbpkfcaokbidnabCodeMost
import Derived.Test.YtbpkfcaokbidnabCodeMost2
import Derived.Test.YtbpkfcaokbidnabCodeSpec3
import Derived.Test.YtbpkfcaokbidnabCodeRows
import Derived.Test.YtbpkfcaokbidnabCodeLaws
import Derived.Test.YtbpkfcaokbidnabDrawCode
import Derived.Test.YtbpkfcaokbidnabDrawThere
import Derived.Test.YtbpkfcaokbidnabCodeMono
namespace Go.Proofs.Ytbpkfcaokbidnab.fnBears
open Go.ChangeShapes Go.WideShapes Go.ChangeAt Go.RowKit
open Go.ChangeMaps (open_string shut_string)
set_option linter.unusedVariables false

theorem own : ownKnob Try.prog.godebug = none := by kernel_rfl
theorem laidOut : laidOutB Try.prog = true := by kernel_rfl

/-- WHAT THE WALK IS TOLD OF A SLICE OF INTEGERS THAT CAME IN: it is nil; or it leads to a row of 'cap' cells, the numbers 'zs' (the first 'len' are its elements, the rest its spare room), each fitting its kind. -/
def IsRow (k : IntKind) (w : World) (a : Option Addr) (len cap : Nat) (zs : List Int) : Prop :=
  (a = none ∧ len = 0 ∧ cap = 0 ∧ zs = []) ∨
  ∃ x, a = some x ∧ len ≤ cap ∧ cap ≤ maxLen ∧ zs.length = cap ∧ (∀ i, i < zs.length → w.cell? (x.add i) = some (.int k (zs.getD i 0))) ∧ ∀ n ∈ zs, (Lit.int k n).wf = true

theorem bnews {w : World} {b o : Nat} {l : List Bool} (h : BRds w (some ⟨b, o, none⟩) l) : ∀ j u, (bvals l)[j]? = some u → w.cell? ((⟨b, o, none⟩ : Addr).add j) = some u := by
  intro j u hj
  have hl : j < l.length := by have := (List.getElem?_eq_some_iff.1 hj).1; rwa [bvals_length] at this
  obtain ⟨b', o', e, hc⟩ := h.at_ hl
  injection e with e
  injection e with e1 e2
  subst e1 e2
  rw [bvals_get l j hl] at hj
  injection hj with hj
  subst hj
  rw [Addr.add_lit]; exact hc

set_option maxHeartbeats 2000000 in
set_option maxRecDepth 20000 in
theorem walk (a0 : Option Addr) (len0 cap0 : Nat) (z0 : List Int) (a1 : Option Addr) (len1 cap1 : Nat) (z1 : List Int) (w : World) (w0 : IsRow .u8 w a0 len0 cap0 z0) (w1 : IsRow .u8 w a1 len1 cap1 z1) :
    Calls Try.prog 10 #[.slice a0 len0 cap0, .slice a1 len1 cap1] w fun e w' => e = .returned (.bool true) ∧ Below w.heap.size w w' := by
  have hc : Code w a0 len0 cap0 := code_of w0
  have hm : cap0 ≤ maxLen := hc.2.1
  have hl : len0 ≤ cap0 := hc.1
  unfold maxLen at hm
  have C := Lib.hid hc
  clear hc w0
  have hc1 : Code w a1 len1 cap1 := code_of w1
  have hm1 : cap1 ≤ maxLen := hc1.2.1
  have hl1 : len1 ≤ cap1 := hc1.1
  unfold maxLen at hm1
  clear hc1 w1
  by_cases hbig0 : (len0 : Int) > 1048576
  · go_enter Try.func10, Try.ntmps10
    go_wp2_with fail
    go_ret
    exact ⟨rfl, Below.refl _ _⟩
  by_cases hbig1 : (len1 : Int) > 1048576
  · go_enter Try.func10, Try.ntmps10
    go_wp2_with fail
    go_ret
    exact ⟨rfl, Below.refl _ _⟩
  obtain ⟨i0, hi, hz0, hz1, hz2⟩ := info_parts infoBool
  have I1 := Lib.hid hi
  have I2 := Lib.hid hz0
  have I3 := Lib.hid hz1
  have I4 := Lib.hid hz2
  clear hi hz0 hz1 hz2
  go_enter Try.func10, Try.ntmps10
  go_wp2_with fail
  refine (drawCodeBears a0 len0 cap0 _ C.out).mono ?_
  rintro e W1 ⟨m, v, f, hm3, rfl, hf8, hbl, hb⟩
  have L1 := Lib.hid hb
  have B1 := Lib.hid hbl
  have H8 := Lib.hid hf8
  clear hb hbl hf8 C
  obtain ⟨av, cv, ev, c1, c2, _⟩ := B1.out
  subst ev
  unfold maxLen at c2
  obtain ⟨n8, hn8⟩ : ∃ n, f.length = n := ⟨_, rfl⟩
  have N8 := Lib.hid hn8
  rw [hn8] at B1 c1
  rw [hn8]
  clear hn8
  go_wp2_with fail
  refine (implBears m _ f _ B1.out).mono ?_
  rintro e W2 ⟨rfl, hg⟩
  have L2 := Lib.hid (L1.out.trans (below_grown hg |>.mono L1.out.size))
  have B2 := Lib.hid (B1.out.grown hg)
  clear hg L1 B1
  generalize hq : bearsM m f = q at *
  have Q := Lib.hid hq
  clear hq
  go_wp2_with fail
  refine (specBears m _ f _ B2.out).mono ?_
  rintro e W3 ⟨rfl, hg⟩
  rw [Q.out]
  have L3 := Lib.hid (L2.out.trans (below_grown hg |>.mono L2.out.size))
  have B3 := Lib.hid (B2.out.grown hg)
  clear hg L2 B2
  by_cases hyes : n8 = 8 ∧ (m = 1 ∨ m = 2)
  · obtain ⟨rfl, hk⟩ := hyes
    have F8 : Hid (f.length = 8) := Lib.hid N8.out
    have HK := Lib.hid hk
    have k1 : ¬ (m : Int) < 1 := by omega
    have k2 : ¬ (m : Int) > 2 := by omega
    have Q1 : Hid (Sp.bears m f = q) := Lib.hid (by rw [← Q.out]; exact (bearsM_yes hk N8.out).symm)
    obtain ⟨a', c', e', _, _, hr⟩ := B3.out
    injection e' with e1 e2 e3
    subst e1 e3
    obtain ⟨b, o, rfl, _⟩ := hr.at_ (k := 0) (by rw [F8.out]; omega)
    have O0 : Hid (BOwn (W3.alloc (.cells #[] 4)) W3.heap.size (.slice (some ⟨W3.heap.size, 0, none⟩) 0 0) []) := Lib.hid ((BArr.new W3 4 []).own rfl _ (Nat.le_refl _) (by simp [maxLen]))
    have R0 := Lib.hid (bnews (hr.grown (World.grownBy_alloc W3 (.cells #[] 4) none)))
    have fl : (bvals f).length = 8 * 1 := by rw [bvals_length, F8.out]
    clear hk e2 hr Q N8 H8
    go_wp2_with (first
      | (at_builtin; refine wpList_append_own _ rfl _ _ 22 rfl W3.heap.size 4 i0 (.bool false) 1 1 Try.underlying22 I1.out I2.out I3.out I4.out rfl (by decide) _ _ _ rfl O0.out ⟨b, o, none⟩ 8 cv (bvals f) rfl fl R0.out (bvals_one f) ?c3 ?c4 ?c5 ?_))
    case c3 => simp [maxLen]
    case c4 => simp
    case c5 => simp
    intro x W4 ho hg _
    have G4 : Hid (W3.grownBy W4 none) := Lib.hid (grown_own (grown_alloc (World.grownBy.refl _ _) _) hg (fun j hj => (World.ownsRow.lt O0.out j hj).1))
    have O4 : BOwn W4 W3.heap.size x f := by
      unfold BOwn
      rw [F8.out]
      simpa [bvals] using ho
    clear ho hg O0 R0 fl
    obtain ⟨g, cq, rfl, gb, gl, cq8, cqm, gc, gf⟩ := O4.eight F8.out
    unfold maxLen at cqm
    obtain ⟨k, hk8, hke⟩ : ∃ k : Nat, k < 8 ∧ (len1 : Int) % 8 = k := ⟨len1 % 8, by omega, by omega⟩
    have hx := gc k hk8
    have hf := gf k
    generalize f.getD k false = r at hx
    have P4 := Lib.hid (O4.put F8.out.symm k true)
    have hk' : (k : Int) < 8 := by omega
    have kt : (len1 : Int).tmod 8 = k := by rw [Int.tmod_eq_emod_of_nonneg (by omega)]; exact hke
    have G5 : Hid (W3.grownBy (W4.setCell ⟨g, k, none⟩ (.bool true)) none) := Lib.hid (grown_own G4.out P4.out.2 (fun q hq => by injection hq with hq; omega))
    have FS : Hid (Sp.bears m f = true → Sp.bears m (f.set k true) = true) := Lib.hid (bears_set HK.out F8.out hk8)
    have FM : Hid (Sp.bears m f = true → 4 ≤ Sp.many f) := Lib.hid (bears_many HK.out F8.out)
    have S8 : Hid ((f.set k true).length = 8) := Lib.hid (by rw [List.length_set]; exact F8.out)
    clear O4 gc gf
    go_wp2_with fail
    clear hx hf
    have X5 := Lib.hid P4.out.1.bl
    have L5 := Lib.hid (L3.out.trans (below_grown G5.out |>.mono L3.out.size))
    have B5 := Lib.hid (B3.out.grown G5.out)
    clear P4 G4 G5 L3 B3
    generalize W4.setCell ⟨g, k, none⟩ (.bool true) = W5 at *
    refine (lkTheir HK.out _ f _ B5.out F8.out).mono ?_
    rintro e W6 ⟨t, us, rfl, hg, hst⟩
    have L6 := Lib.hid (L5.out.trans (below_grown hg |>.mono L5.out.size))
    have B6 := Lib.hid (B5.out.grown hg)
    have X6 := Lib.hid (X5.out.grown hg)
    have T6 := Lib.hid hst.tab
    clear hg hst L5 B5 X5
    have RB := Lib.hid (rank_bears HK.out f)
    go_wp2_with fail
    refine (implSpanRank t us _ _ T6.out).mono ?_
    rintro e W7 ⟨rfl, hg⟩
    have L7 := Lib.hid (L6.out.trans (below_grown hg |>.mono L6.out.size))
    have B7 := Lib.hid (B6.out.grown hg)
    have X7 := Lib.hid (X6.out.grown hg)
    clear hg L6 B6 X6 T6
    have RQ : (rankM (Sp.crows m f) == 4) = q := by rw [← RB.out]; exact Q1.out
    generalize rankM (Sp.crows m f) = rk at *
    cases q with
    | false =>
      clear RB
      go_wp2_with fail
      go_ret
      exact ⟨rfl, L7.out⟩
    | true =>
      have BS : Hid (bearsM m (f.set k true) = true) := Lib.hid (by rw [bearsM_yes HK.out S8.out]; exact FS.out Q1.out)
      have FM' := FM.out Q1.out
      have F1 : Hid (f.length ≤ 1000) := Lib.hid (by rw [F8.out]; omega)
      clear RB FS FM
      go_wp2_with fail
      refine (implBears m _ (f.set k true) _ X7.out).mono ?_
      rintro e W8 ⟨rfl, hg⟩
      rw [BS.out]
      have L8 := Lib.hid (L7.out.trans (below_grown hg |>.mono L7.out.size))
      have B8 := Lib.hid (B7.out.grown hg)
      clear hg L7 B7 X7 BS
      go_wp2_with fail
      refine (lkMany _ f _ B8.out F1.out).mono ?_
      rintro e W9 ⟨rfl, hg⟩
      have L9 := Lib.hid (L8.out.trans (below_grown hg |>.mono L8.out.size))
      clear hg L8 B8 F1
      generalize Sp.many f = mm at *
      have hmm : (4 : Int) ≤ (mm : Int) := by omega
      go_wp2_with fail
      go_ret
      exact ⟨rfl, L9.out⟩
  · have hno : (n8 ≠ 8) ∨ (n8 = 8 ∧ (m : Int) < 1) ∨ (n8 = 8 ∧ ¬ (m : Int) < 1 ∧ (m : Int) > 2) := by omega
    clear hyes
    rcases hno with h | ⟨rfl, h⟩ | ⟨rfl, h, h'⟩
    · have h7 : n8 = 7 := by have := H8.out; have := N8.out; omega
      subst h7
      clear h H8 N8
      go_wp2_with fail
      refine (specBears m _ f _ B3.out).mono ?_
      rintro e W4 ⟨rfl, hg⟩
      rw [Q.out]
      have L4 := Lib.hid (L3.out.trans (below_grown hg |>.mono L3.out.size))
      clear hg L3 B3
      go_wp2_with fail
      go_ret
      exact ⟨rfl, L4.out⟩
    · clear H8 N8
      go_wp2_with fail
      refine (specBears m _ f _ B3.out).mono ?_
      rintro e W4 ⟨rfl, hg⟩
      rw [Q.out]
      have L4 := Lib.hid (L3.out.trans (below_grown hg |>.mono L3.out.size))
      clear hg L3 B3
      go_wp2_with fail
      go_ret
      exact ⟨rfl, L4.out⟩
    · clear H8 N8
      go_wp2_with fail
      refine (specBears m _ f _ B3.out).mono ?_
      rintro e W4 ⟨rfl, hg⟩
      rw [Q.out]
      have L4 := Lib.hid (L3.out.trans (below_grown hg |>.mono L3.out.size))
      clear hg L3 B3
      go_wp2_with fail
      go_ret
      exact ⟨rfl, L4.out⟩

set_option maxRecDepth 100000 in
theorem lifted (os : Os) (started : os.Started) (H : Type) (enc : TypeId × Value → H) :
    ReturnsInHanded {} Try.checked os 10 .any (Rows.fnBearsSpec.pre6 enc Try.prog Try.f10 Rows.fnBearsRow.domain false) (Rows.fnBearsSpec.post enc Try.prog Try.f10 false true false false) := by
  refine returnsInHanded_of_change (C := Try.checked) own started (by kernel_rfl) Try.func10
    (ChangeSpec.witness6 (enc := enc) (C := Try.checked) false ⟨#[], #[.slice none 0 0, .slice none 0 0], []⟩ 8 (by kernel_rfl) (by kernel_rfl) (by kernel_rfl) (by kernel_rfl)) ?_
  intro W base args ds gs before hval0 hW hcnd _
  have hval : ∀ (j : Nat) t v, Try.f10.params[j]? = some t → args[j]? = some v → Value.okWide Try.prog W .any base t v := hval0
  have hW' := hW
  obtain ⟨p, q, hA0, hV, rfl, hfz, hnd⟩ := hW
  have hA : DataW.TrodAll enc Try.prog W 0 (fun _ => true) true Try.f10.params.toList args.toList ds p := hA0
  rw [Try.params10] at hA hval
  obtain ⟨v0, vs0, d0, ds0, p0, q0, hargs, rfl, rfl, h0, r0⟩ := trodAll_cons hA
  obtain ⟨v1, vs1, d1, ds1, p1, q1, rfl, rfl, rfl, h1, r1⟩ := trodAll_cons r0
  obtain ⟨rfl, rfl, rfl⟩ := trodAll_nil r1
  obtain rfl : args = #[v0, v1] := by cases args; simp_all
  obtain ⟨rfl, rfl⟩ := trodVars_none hV
  obtain ⟨a0, len0, cap0, rfl⟩ := okWide_slice Try.underlying32 (hval 0 32 v0 rfl rfl)
  have k0 := h0
  have lt0 : ∀ x ∈ p0, x.block < W.heap.size := by obtain ⟨m, hm⟩ := k0; exact DataW.trod_lt m _ _ _ hm
  obtain ⟨z0, w0⟩ : ∃ zs, IsRow .u8 W a0 len0 cap0 zs := by
    obtain ⟨fuel, hf⟩ := h0
    rcases open_ints Try.underlying32 Try.underlying5 (by kernel_rfl) hf with ⟨hcs, _⟩ | ⟨x, l, c, zs, hcs, _, hl, hm, hz, _, hcell, hwz⟩
    · simp [Value.cells] at hcs
      obtain ⟨rfl, rfl, rfl⟩ := hcs
      exact ⟨[], .inl ⟨rfl, rfl, rfl, rfl⟩⟩
    · simp [Value.cells] at hcs
      obtain ⟨rfl, rfl, rfl⟩ := hcs
      exact ⟨zs, .inr ⟨_, rfl, hl, hm, by simpa using hz, hcell, hwz⟩⟩
  obtain ⟨a1, len1, cap1, rfl⟩ := okWide_slice Try.underlying32 (hval 1 32 v1 rfl rfl)
  have k1 := h1
  have lt1 : ∀ x ∈ p1, x.block < W.heap.size := by obtain ⟨m, hm⟩ := k1; exact DataW.trod_lt m _ _ _ hm
  obtain ⟨z1, w1⟩ : ∃ zs, IsRow .u8 W a1 len1 cap1 zs := by
    obtain ⟨fuel, hf⟩ := h1
    rcases open_ints Try.underlying32 Try.underlying5 (by kernel_rfl) hf with ⟨hcs, _⟩ | ⟨x, l, c, zs, hcs, _, hl, hm, hz, _, hcell, hwz⟩
    · simp [Value.cells] at hcs
      obtain ⟨rfl, rfl, rfl⟩ := hcs
      exact ⟨[], .inl ⟨rfl, rfl, rfl, rfl⟩⟩
    · simp [Value.cells] at hcs
      obtain ⟨rfl, rfl, rfl⟩ := hcs
      exact ⟨zs, .inr ⟨_, rfl, hl, hm, by simpa using hz, hcell, hwz⟩⟩
  clear hA0 hval0
  refine (walk a0 len0 cap0 z0 a1 len1 cap1 z1 W w0 w1).mono fun e W' ⟨he, bel⟩ => ?_
  subst he
  exact ⟨_, rfl, _, _, _, [], _, [], hW', trodAll_mk1 (shut_bool Try.underlying4 _), (trodAll_cons_mk (Below.trod laidOut (by kernel_rfl) (of_decide_eq_true (by kernel_rfl)) k0 bel lt0) (trodAll_cons_mk (Below.trod laidOut (by kernel_rfl) (of_decide_eq_true (by kernel_rfl)) k1 bel lt1) trodAll_mk0)), rfl, bel.frame _, fun h => by cases h⟩

theorem over : Rows.fnBearsRow.holds Try.pinned (OpenSpec.ofChange Rows.fnBearsSpec) :=
  OpenClaim.holds_of_wide_leaving 10 Try.f10 rfl rfl rfl rfl rfl rfl rfl ⟨rfl, rfl, rfl, rfl, rfl⟩ rfl rfl rfl rfl rfl (by kernel_rfl) Try.func10 (by kernel_rfl)
    (of_decide_eq_true (by kernel_rfl)) (by unfold Func.isWrapper; first | (rw [if_pos (by decide +kernel)]; kernel_rfl) | (rw [if_neg (by decide +kernel)]; exact ⟨rfl, rfl⟩))
    (fun os started H enc _ => leaves (lifted os started H enc))

theorem proved : Rows.FnBearsSaid := over
#print axioms proved
end Go.Proofs.Ytbpkfcaokbidnab.fnBears
