/-
  From whatever bytes two of numbers are drawn, the patches between them lead from the one to the other, each is ok, there are as many as places that differ, and none from numbers to themselves: the law FnPatchOf returns true.
  Conditions: none.
-/
import Derived.Test.YthglkgicckodaaaRows
import Derived.WalkKit
import Derived.ProofKit
import Derived.OpenShut
import Derived.ShutString
import Derived.ChangeOld
import Derived.Below
import Derived.Test.YthglkgicckodaaaG1
import Derived.Test.YthglkgicckodaaaAppendZeros
import Derived.Test.YthglkgicckodaaaG2
import Derived.Test.YthglkgicckodaaaG3
import Derived.Test.YthglkgicckodaaaPatchTab
import Derived.Test.YthglkgicckodaaaPatchMath
import Derived.Test.YthglkgicckodaaaPatchHelp
import Derived.Test.YthglkgicckodaaaPatchMark
import Derived.Test.YthglkgicckodaaaReadTake
import Derived.Test.YthglkgicckodaaaPatchP
import Derived.Test.YthglkgicckodaaaPatchP2
import Derived.Test.YthglkgicckodaaaPatchP3
import Derived.Test.YthglkgicckodaaaPatchP4
import Derived.Test.YthglkgicckodaaaPatchS
import Derived.Test.YthglkgicckodaaaPatchS2
import Derived.Test.YthglkgicckodaaaDrawRow3
import Derived.Test.YthglkgicckodaaaDrawPatch
import Derived.Test.YthglkgicckodaaaDrawPatch2
import Derived.Test.YthglkgicckodaaaPatchMath2
import Derived.Test.YthglkgicckodaaaPatchLk
namespace Go.Proofs.Ythglkgicckodaaa.fnPatchOf
open Go.ChangeShapes Go.WideShapes Go.ChangeAt Go.RowKit
open Go.ChangeMaps (open_string shut_string)
set_option linter.unusedVariables false

theorem own : ownKnob Try.prog.godebug = none := by kernel_rfl
theorem laidOut : laidOutB Try.prog = true := by kernel_rfl

/-- WHAT THE WALK IS TOLD OF A SLICE OF INTEGERS THAT CAME IN: it is nil; or it leads to a row of 'cap' cells, the numbers 'zs' (the first 'len' are its elements, the rest its spare room), each fitting its kind. -/
def IsRow (k : IntKind) (w : World) (a : Option Addr) (len cap : Nat) (zs : List Int) : Prop :=
  (a = none ∧ len = 0 ∧ cap = 0 ∧ zs = []) ∨
  ∃ x, a = some x ∧ len ≤ cap ∧ cap ≤ maxLen ∧ zs.length = cap ∧ (∀ i, i < zs.length → w.cell? (x.add i) = some (.int k (zs.getD i 0))) ∧ ∀ n ∈ zs, (Lit.int k n).wf = true

set_option maxHeartbeats 8000000 in
set_option maxRecDepth 20000 in
theorem walk (a0 : Option Addr) (len0 cap0 : Nat) (z0 : List Int) (w : World) (w0 : IsRow .u8 w a0 len0 cap0 z0) :
    Calls Try.prog 3 #[.slice a0 len0 cap0] w fun e w' => e = .returned (.bool true) ∧ Below w.heap.size w w' := by
  have hc : Code w a0 len0 cap0 := code_of w0
  have hm0 : cap0 ≤ maxLen := hc.2.1
  have hl0 : len0 ≤ cap0 := hc.1
  unfold maxLen at hm0
  have C := Lib.hid hc
  clear hc w0
  by_cases hbig0 : (len0 : Int) > 1048576
  · go_enter Try.func3, Try.ntmps3
    go_wp2_with fail
    go_ret
    exact ⟨rfl, Below.refl _ _⟩
  go_enter Try.func3, Try.ntmps3
  go_wp2_with fail
  refine (drawPatchOf a0 len0 cap0 _ C.out).mono ?_
  rintro e w1 ⟨u, v, l, m, rfl, l4, m4, hg, hu, hv⟩
  have G1 := Lib.hid hg
  have A := Lib.hid hu
  have B := Lib.hid hv
  clear hg C hu hv l4 m4
  obtain ⟨q, hq⟩ : ∃ q, patOf l m = q := ⟨_, rfl⟩
  have SP := Lib.hid (fun (W : World) (h : Sl W u l) (k : Sl W v m) => hq ▸ specPatchOf u v l m W h k)
  have IP := Lib.hid (fun (W : World) (h : Sl W u l) (k : Sl W v m) => hq ▸ implPatchOf u v l m W h k)
  have QQ := Lib.hid hq
  clear hq
  go_wp2_with fail
  refine (IP.out _ A.out B.out).mono ?_
  rintro e w2 ⟨v2, rfl, hg, ho⟩
  have G2 := Lib.hid (grown_trans G1.out hg)
  have A2 := Lib.hid (A.out.grown hg)
  have B2 := Lib.hid (B.out.grown hg)
  have Q2 := Lib.hid ho.sl
  clear hg ho A B G1
  go_wp2_with fail
  refine (SP.out _ A2.out B2.out).mono ?_
  rintro e w3 ⟨v3, rfl, hg, ho⟩
  have G3 := Lib.hid (grown_trans G2.out hg)
  have A3 := Lib.hid (A2.out.grown hg)
  have B3 := Lib.hid (B2.out.grown hg)
  have Q3 := Lib.hid (Q2.out.grown hg)
  have R3 := Lib.hid ho.sl
  clear hg ho A2 B2 G2 Q2
  go_wp2_with fail
  refine (lkPatchSame _ _ q _ Q3.out R3.out).mono ?_
  rintro e w4 ⟨rfl, hg⟩
  have G4 := Lib.hid (grown_trans G3.out hg)
  have A4 := Lib.hid (A3.out.grown hg)
  have B4 := Lib.hid (B3.out.grown hg)
  have Q4 := Lib.hid (Q3.out.grown hg)
  clear hg A3 B3 Q3 R3 G3
  obtain ⟨oa, hoa⟩ : ∃ oa, Vec.ok l = oa := ⟨_, rfl⟩
  obtain ⟨ob, hob⟩ : ∃ ob, Vec.ok m = ob := ⟨_, rfl⟩
  have SA := Lib.hid (fun (W : World) (h : Sl W u l) => hoa ▸ specVecOk u l W h)
  have SB := Lib.hid (fun (W : World) (h : Sl W v m) => hob ▸ specVecOk v m W h)
  have HA := Lib.hid hoa
  have HB := Lib.hid hob
  clear hoa hob
  go_wp2_with fail
  refine (SA.out _ A4.out).mono ?_
  rintro e w' ⟨rfl, rfl⟩
  cases oa
  · go_wp2_with fail
    refine (SP.out _ A4.out B4.out).mono ?_
    rintro e w5 ⟨v5, rfl, hg, ho⟩
    have G5 := Lib.hid (grown_trans G4.out hg)
    have Q5 := Lib.hid (Q4.out.grown hg)
    have R5 := Lib.hid ho.sl
    clear hg ho
    go_wp2_with fail
    refine (lkPatchSame _ _ q _ Q5.out R5.out).mono ?_
    rintro e w6 ⟨rfl, hg⟩
    have G6 := Lib.hid (grown_trans G5.out hg)
    clear hg
    go_wp2_with fail
    go_ret
    exact ⟨rfl, below_grown G6.out⟩
  go_wp2_with fail
  refine (SB.out _ B4.out).mono ?_
  rintro e w' ⟨rfl, rfl⟩
  cases ob
  · go_wp2_with fail
    refine (SP.out _ A4.out B4.out).mono ?_
    rintro e w5 ⟨v5, rfl, hg, ho⟩
    have G5 := Lib.hid (grown_trans G4.out hg)
    have Q5 := Lib.hid (Q4.out.grown hg)
    have R5 := Lib.hid ho.sl
    clear hg ho
    go_wp2_with fail
    refine (lkPatchSame _ _ q _ Q5.out R5.out).mono ?_
    rintro e w6 ⟨rfl, hg⟩
    have G6 := Lib.hid (grown_trans G5.out hg)
    clear hg
    go_wp2_with fail
    go_ret
    exact ⟨rfl, below_grown G6.out⟩
  have QE := Lib.hid (show q = patO l m 4 by rw [← QQ.out]; simp [patOf, HA.out, HB.out])
  have QL := Lib.hid (show q.length ≤ 4 by rw [QE.out]; exact patO_le l m 4)
  have LA := Lib.hid (Vec.ok_len HA.out)
  have LB := Lib.hid (Vec.ok_len HB.out)
  obtain ⟨aa, ca, rfl, ha1, ha2, hra⟩ := A4.out
  obtain ⟨ab, cb, rfl, hb1, hb2, hrb⟩ := B4.out
  have RA := Lib.hid hra
  have RB := Lib.hid hrb
  unfold maxLen at ha2 hb2
  clear hra hrb
  obtain ⟨aq, cq, rfl, hq1, hq2, hrq⟩ := Q4.out
  have RQ : Hid (Rds w4 aq (pflat q)) := Lib.hid hrq
  unfold maxLen at hq2
  clear hrq
  have ea := LA.out
  have eb := LB.out
  obtain ⟨nl, hnl⟩ : ∃ n, l.length = n := ⟨_, rfl⟩
  obtain ⟨nm, hnm⟩ : ∃ n, m.length = n := ⟨_, rfl⟩
  rw [hnl] at ea ha1 A4 ⊢
  rw [hnm] at eb hb1 B4 ⊢
  have NL := Lib.hid hnl
  have NM := Lib.hid hnm
  clear hnl hnm
  subst ea eb
  obtain ⟨n, hn⟩ : ∃ n, q.length = n := ⟨_, rfl⟩
  rw [hn] at hq1 Q4 ⊢
  have N := Lib.hid hn
  clear hn
  go_wp2_with fail
  go_loopw [6, 7] (fun c i wr => ∃ k j : Nat, k ≤ 4 ∧ i = .int .i64 k ∧ c = .int .i64 j ∧ (patO l m k).length = j ∧ w4.grownBy wr none) (fun _ i _ => 4 - (intOf i).toNat)
  case atStart => exact ⟨0, 0, by omega, rfl, rfl, rfl, World.grownBy.refl _ _⟩
  case round =>
    obtain ⟨k, j, hk, rfl, rfl, hj, hg⟩ := hrel
    have G := Lib.hid hg
    have J := Lib.hid hj
    have J4 : j ≤ 4 := by have := patO_le l m k; omega
    clear hg hj
    by_cases hlt : k < 4
    · have hlt' : (k : Int) < 4 := by omega
      obtain ⟨b, o, rfl, c0⟩ := (RA.out.grown G.out).at_ (show k < l.length by rw [NL.out]; exact hlt)
      obtain ⟨b', o', rfl, c1⟩ := (RB.out.grown G.out).at_ (show k < m.length by rw [NM.out]; exact hlt)
      have PS := Lib.hid (patO_same (a := l) (b := m) (n := k))
      have PN := Lib.hid (patO_next (a := l) (b := m) (n := k))
      generalize l.getD k 0 = x at *
      generalize m.getD k 0 = y at *
      by_cases hxy : x = y
      · have hne : (x != y) = false := by simp [hxy]
        have E2 := Lib.hid (PS.out hxy)
        clear PS PN hxy
        go_wp2_with fail
        go_quiet (fail)
        go_wp2_with fail
        go_roundw
        case rel => exact ⟨k + 1, j, by omega, by go_num, rfl, by rw [E2.out]; exact J.out, grown_draws G.out _⟩
        case measure => simp [intOf]; omega
      · have hne : (x != y) = true := by simp [hxy]
        have E2 := Lib.hid (PN.out hxy)
        clear PS PN hxy
        go_wp2_with fail
        go_quiet (fail)
        go_wp2_with fail
        go_roundw
        case rel => exact ⟨k + 1, j + 1, by omega, by go_num, by go_num, by rw [E2.out, List.length_append, J.out]; rfl, grown_draws G.out _⟩
        case measure => simp [intOf]; omega
    · have hk4 : k = 4 := by omega
      subst hk4
      have hj : j = n := by rw [← N.out, QE.out]; exact J.out.symm
      subst hj
      obtain ⟨w5, hw5⟩ : ∃ W, W = wr := ⟨_, rfl⟩
      subst hw5
      have G5 := Lib.hid (grown_trans G4.out G.out)
      have A5 := Lib.hid (A4.out.grown G.out)
      have B5 := Lib.hid (B4.out.grown G.out)
      have Q5 := Lib.hid (Q4.out.grown G.out)
      have R5 : Hid (Rds w5 aq (pflat q)) := Lib.hid (RQ.out.grown G.out)
      clear G A4 B4 Q4 RQ RA RB
      go_wp2_with fail
      rw [show ((4 : Nat) : Int) = 4 from rfl]
      go_loopw [8] (fun i wr => ∃ k : Nat, k ≤ j ∧ i = .int .i64 k ∧ w5.grownBy wr none) (fun i _ => j - (intOf i).toNat)
      case atStart => exact ⟨0, by omega, rfl, World.grownBy.refl _ _⟩
      case round =>
        obtain ⟨k, hk, rfl, hg⟩ := hrel
        have G := Lib.hid hg
        clear hg
        by_cases hlt : k < j
        · have hlt' : (k : Int) < (j : Int) := by omega
          obtain ⟨b, o, rfl, c0, c1⟩ := pcells (R5.out.grown G.out) (k := k) (by rw [N.out]; exact hlt)
          have OK := Lib.hid (show patOk (q.getD k pat0) = true from patsOk_get (by rw [QE.out]; exact patsOk_of_ HA.out HB.out) (by rw [N.out]; exact hlt))
          generalize q.getD k pat0 = s at *
          obtain ⟨p, x⟩ := s
          dsimp only at c0 c1
          have IK := Lib.hid (fun (W : World) => OK.out ▸ implPatchOk p x W)
          go_wp2_with fail
          refine (IK.out _).mono ?_
          rintro e w6 ⟨rfl, hg⟩
          have G6 := Lib.hid (grown_trans G.out hg)
          clear hg G c0 c1
          go_wp2_with fail
          go_roundw
          case rel => exact ⟨k + 1, by omega, by go_num, G6.out⟩
          case measure => simp [intOf]; omega
        · have A6 := Lib.hid (A5.out.grown G.out)
          have B6 := Lib.hid (B5.out.grown G.out)
          have Q6 := Lib.hid (Q5.out.grown G.out)
          have G6 := Lib.hid (grown_trans G5.out G.out)
          clear A5 B5 Q5 G5 G R5
          have S6 : Hid (Sl wr (.slice aa 4 ca) l) := Lib.hid A6.out
          have PD := Lib.hid (show patD l q = m by rw [← QQ.out]; exact patD_of HA.out HB.out)
          have PO := Lib.hid (show patOf l l = [] by simp [patOf, HA.out, patO_self])
          go_wp2_with fail
          refine (implPatchData _ _ l q _ S6.out Q6.out).mono ?_
          rintro e w7 ⟨v7, rfl, hg, ho⟩
          rw [PD.out] at ho
          have G7 := Lib.hid (grown_trans G6.out hg)
          have A7 := Lib.hid (S6.out.grown hg)
          have B7 := Lib.hid (B6.out.grown hg)
          have S7 := Lib.hid ho.sl
          clear hg ho A6 B6 Q6 G6 S6
          go_wp2_with fail
          refine (lkSame _ _ m _ S7.out B7.out).mono ?_
          rintro e w8 ⟨rfl, hg⟩
          have G8 := Lib.hid (grown_trans G7.out hg)
          have A8 := Lib.hid (A7.out.grown hg)
          clear hg A7 B7 S7 G7
          have nj : ((j : Int) == (j : Int)) = true := by simp
          go_wp2_with fail
          refine (implPatchOf _ _ l l _ A8.out A8.out).mono ?_
          rintro e w9 ⟨v9, rfl, hg, ho⟩
          rw [PO.out] at ho
          obtain ⟨a9, c9, rfl, _, _⟩ := ho.form
          have G9 := Lib.hid (grown_trans G8.out hg)
          clear hg ho
          go_wp2_with fail
          go_ret
          exact ⟨rfl, below_grown G9.out⟩

set_option maxRecDepth 100000 in
theorem lifted (os : Os) (started : os.Started) (H : Type) (enc : TypeId × Value → H) :
    ReturnsInHanded {} Try.checked os 3 .any (Rows.fnPatchOfSpec.pre6 enc Try.prog Try.f3 Rows.fnPatchOfRow.domain false) (Rows.fnPatchOfSpec.post enc Try.prog Try.f3 false true false false) := by
  refine returnsInHanded_of_change (C := Try.checked) own started (by kernel_rfl) Try.func3
    (ChangeSpec.witness6 (enc := enc) (C := Try.checked) false ⟨#[], #[.slice none 0 0], []⟩ 8 (by kernel_rfl) (by kernel_rfl) (by kernel_rfl) (by kernel_rfl)) ?_
  intro W base args ds gs before hval0 hW hcnd _
  have hval : ∀ (j : Nat) t v, Try.f3.params[j]? = some t → args[j]? = some v → Value.okWide Try.prog W .any base t v := hval0
  have hW' := hW
  obtain ⟨p, q, hA0, hV, rfl, hfz, hnd⟩ := hW
  have hA : DataW.TrodAll enc Try.prog W 0 (fun _ => true) true Try.f3.params.toList args.toList ds p := hA0
  rw [Try.params3] at hA hval
  obtain ⟨v0, vs0, d0, ds0, p0, q0, hargs, rfl, rfl, h0, r0⟩ := trodAll_cons hA
  obtain ⟨rfl, rfl, rfl⟩ := trodAll_nil r0
  obtain rfl : args = #[v0] := by cases args; simp_all
  obtain ⟨rfl, rfl⟩ := trodVars_none hV
  obtain ⟨a0, len0, cap0, rfl⟩ := okWide_slice Try.underlying22 (hval 0 22 v0 rfl rfl)
  have k0 := h0
  have lt0 : ∀ x ∈ p0, x.block < W.heap.size := by obtain ⟨m, hm⟩ := k0; exact DataW.trod_lt m _ _ _ hm
  obtain ⟨z0, w0⟩ : ∃ zs, IsRow .u8 W a0 len0 cap0 zs := by
    obtain ⟨fuel, hf⟩ := h0
    rcases open_ints Try.underlying22 Try.underlying5 (by kernel_rfl) hf with ⟨hcs, _⟩ | ⟨x, l, c, zs, hcs, _, hl, hm, hz, _, hcell, hwz⟩
    · simp [Value.cells] at hcs
      obtain ⟨rfl, rfl, rfl⟩ := hcs
      exact ⟨[], .inl ⟨rfl, rfl, rfl, rfl⟩⟩
    · simp [Value.cells] at hcs
      obtain ⟨rfl, rfl, rfl⟩ := hcs
      exact ⟨zs, .inr ⟨_, rfl, hl, hm, by simpa using hz, hcell, hwz⟩⟩
  clear hA0 hval0
  refine (walk a0 len0 cap0 z0 W w0).mono fun e W' ⟨he, bel⟩ => ?_
  subst he
  exact ⟨_, rfl, _, _, _, [], _, [], hW', trodAll_mk1 (shut_bool Try.underlying4 _), (trodAll_cons_mk (Below.trod laidOut (by kernel_rfl) (of_decide_eq_true (by kernel_rfl)) k0 bel lt0) trodAll_mk0), rfl, bel.frame _, fun h => by cases h⟩

theorem over : Rows.fnPatchOfRow.holds Try.pinned (OpenSpec.ofChange Rows.fnPatchOfSpec) :=
  OpenClaim.holds_of_wide 3 Try.f3 rfl rfl rfl rfl rfl rfl rfl ⟨rfl, rfl, rfl, rfl, rfl⟩ rfl rfl rfl rfl rfl (by kernel_rfl) Try.func3 (by kernel_rfl)
    (of_decide_eq_true (by kernel_rfl)) (by unfold Func.isWrapper; first | (rw [if_pos (by decide +kernel)]; kernel_rfl) | (rw [if_neg (by decide +kernel)]; exact ⟨rfl, rfl⟩))
    (fun os started H enc _ => lifted os started H enc)

theorem proved : Rows.FnPatchOfSaid := over
#print axioms proved
end Go.Proofs.Ythglkgicckodaaa.fnPatchOf
