/-
  From whatever bytes a matrix and a row are drawn, SpanBy answers as its model does, takes no row but those of SpanFirst, and its numbers make the row: the law FnSpanBy returns true.
  Conditions: none.
-/
import Derived.Test.YtdbajokjhllekaaRows
import Derived.WalkKit
import Derived.ProofKit
import Derived.OpenShut
import Derived.ShutString
import Derived.ChangeOld
import Derived.Below
import Derived.Test.YtdbajokjhllekaaFldMath
import Derived.Test.YtdbajokjhllekaaMem
import Derived.Test.YtdbajokjhllekaaField
import Derived.Test.YtdbajokjhllekaaVecMath
import Derived.Test.YtdbajokjhllekaaSpanMath
import Derived.Test.YtdbajokjhllekaaSpanList
import Derived.Test.YtdbajokjhllekaaSpanTidy
import Derived.Test.YtdbajokjhllekaaSpanMore
import Derived.Test.YtdbajokjhllekaaSpanBy
import Derived.Test.YtdbajokjhllekaaSpanWork
import Derived.Test.YtdbajokjhllekaaSpanElim
import Derived.Test.YtdbajokjhllekaaInts
import Derived.Test.YtdbajokjhllekaaAppendZeros
import Derived.Test.YtdbajokjhllekaaTabs
import Derived.Test.YtdbajokjhllekaaHelp
import Derived.Test.YtdbajokjhllekaaVec
import Derived.Test.YtdbajokjhllekaaVec2
import Derived.Test.YtdbajokjhllekaaVecSpec
import Derived.Test.YtdbajokjhllekaaSpanSpec
import Derived.Test.YtdbajokjhllekaaSpanHelp
import Derived.Test.YtdbajokjhllekaaSpanHelp2
import Derived.Test.YtdbajokjhllekaaSpanOk
import Derived.Test.YtdbajokjhllekaaSpanLine
import Derived.Test.YtdbajokjhllekaaSpanEch
import Derived.Test.YtdbajokjhllekaaSpanTake
import Derived.Test.YtdbajokjhllekaaSpanProg
import Derived.Test.YtdbajokjhllekaaSpanTops
import Derived.Test.YtdbajokjhllekaaSpanSpec2
import Derived.Test.YtdbajokjhllekaaSpanSpec3
import Derived.Test.YtdbajokjhllekaaSpanSpec4
import Derived.Test.YtdbajokjhllekaaSpanTopsBy
import Derived.Test.YtdbajokjhllekaaSpanTops2
import Derived.Test.YtdbajokjhllekaaSpanSame
import Derived.Test.YtdbajokjhllekaaSpanLaws
import Derived.Test.YtdbajokjhllekaaSpanSel
import Derived.Test.YtdbajokjhllekaaSpanMade
import Derived.Test.YtdbajokjhllekaaSpanPut
import Derived.Test.YtdbajokjhllekaaSpanSpec5
import Derived.Test.YtdbajokjhllekaaSpanSpec6
import Derived.Test.YtdbajokjhllekaaDraw
import Derived.Test.YtdbajokjhllekaaDrawField
import Derived.Test.YtdbajokjhllekaaDrawVec
import Derived.Test.YtdbajokjhllekaaDrawSpan
import Derived.Test.YtdbajokjhllekaaDrawSpan2
import Derived.Test.YtdbajokjhllekaaDrawMade
import Derived.Test.YtdbajokjhllekaaAlone
namespace Go.Proofs.Ytdbajokjhllekaa.fnSpanBy
open Go.ChangeShapes Go.WideShapes Go.ChangeAt Go.RowKit
open Go.ChangeMaps (open_string shut_string)
set_option linter.unusedVariables false

theorem own : ownKnob Try.prog.godebug = none := by kernel_rfl
theorem laidOut : laidOutB Try.prog = true := by kernel_rfl

/-- WHAT THE WALK IS TOLD OF A SLICE OF INTEGERS THAT CAME IN: it is nil; or it leads to a row of 'cap' cells, the numbers 'zs' (the first 'len' are its elements, the rest its spare room), each fitting its kind. -/
def IsRow (k : IntKind) (w : World) (a : Option Addr) (len cap : Nat) (zs : List Int) : Prop :=
  (a = none ∧ len = 0 ∧ cap = 0 ∧ zs = []) ∨
  ∃ x, a = some x ∧ len ≤ cap ∧ cap ≤ maxLen ∧ zs.length = cap ∧ (∀ i, i < zs.length → w.cell? (x.add i) = some (.int k (zs.getD i 0))) ∧ ∀ n ∈ zs, (Lit.int k n).wf = true

theorem by_makes {m : List (List Int)} {v c : List Int} (hm : okM m = true) (hv : Vec.ok v = true) (h : Sp.IsBy m v c) : madeK m c m.length = v := by
  refine Sp.toV_inj (madeK_row (okM_all hm) c _ (Nat.le_refl _)) (Sp.row_ok.1 hv) (funext fun j => ?_)
  rw [madeK_all (okM_all hm) c j, h.sum j]
theorem firsts_at {m : List (List Int)} {i : Nat} (hi : i < m.length) :
    (Sp.has (m.take i) (m.getD i []) = false ∧ (Sp.firsts Sp.has (m.take i)).length < (Sp.firsts Sp.has m).length ∧ (Sp.firsts Sp.has m).getD (Sp.firsts Sp.has (m.take i)).length 0 = i ∧ (Sp.firsts Sp.has (m.take (i + 1))).length = (Sp.firsts Sp.has (m.take i)).length + 1) ∨
    ((∀ v c, Sp.IsBy m v c → c.getD i 0 = 0) ∧ ((Sp.firsts Sp.has (m.take i)).length < (Sp.firsts Sp.has m).length → (Sp.firsts Sp.has m).getD (Sp.firsts Sp.has (m.take i)).length 0 ≠ i) ∧ (Sp.firsts Sp.has (m.take (i + 1))).length = (Sp.firsts Sp.has (m.take i)).length) := by
  cases h : Sp.has (m.take i) (m.getD i []) with
  | false =>
    obtain ⟨h1, h2⟩ := Sp.firsts_yes hi h
    refine .inl ⟨rfl, h1, h2, ?_⟩
    rw [firsts_take hi, h]; simp
  | true =>
    refine .inr ⟨fun v c hc => hc.zero i hi (fun hin => ?_), fun hl => Sp.firsts_no hi h hl, ?_⟩
    · have := (Sp.mem_firsts.1 hin).2
      rw [h] at this; cases this
    · rw [firsts_take hi, h]; simp

set_option maxHeartbeats 2000000 in
set_option maxRecDepth 20000 in
theorem walk (a0 : Option Addr) (len0 cap0 : Nat) (z0 : List Int) (w : World) (w0 : IsRow .u8 w a0 len0 cap0 z0) :
    Calls Try.prog 3 #[.slice a0 len0 cap0] w fun e w' => e = .returned (.bool true) ∧ Below w.heap.size w w' := by
  have hc : Code w a0 len0 cap0 := code_of w0
  have hm : cap0 ≤ maxLen := hc.2.1
  have hl : len0 ≤ cap0 := hc.1
  unfold maxLen at hm
  have C := Lib.hid hc
  clear hc w0
  by_cases hbig0 : (len0 : Int) > 1048576
  · go_enter Try.func3, Try.ntmps3
    go_wp2_with fail
    go_ret
    exact ⟨rfl, Below.refl _ _⟩
  go_enter Try.func3, Try.ntmps3
  go_wp2_with fail
  refine (drawSpanBy a0 len0 cap0 _ C.out).mono ?_
  rintro e W1 ⟨mv, v, mus, m, l, rfl, hg, ht, hs, hl4⟩
  obtain ⟨ma, mc, em, hm3, hm4, _⟩ := ht.top
  subst em
  unfold maxLen at hm4
  have G1 := Lib.hid hg
  have A1 := Lib.hid ht
  have V1 := Lib.hid hs
  clear hg ht hs
  go_wp2_with fail
  refine (specSpanBy _ v mus m l _ A1.out V1.out).mono ?_
  rintro e W2 ⟨o, b, R, rfl, hg, ho, hby⟩
  have G2 := Lib.hid (grown_trans G1.out hg)
  have A2 := Lib.hid (A1.out.grown hg)
  have V2 := Lib.hid (V1.out.grown hg)
  have O2 := Lib.hid ho.sl
  have BY := Lib.hid hby
  clear hg ho hby G1 A1 V1
  go_wp2_with fail
  refine (implSpanBy _ v mus m l _ A2.out V2.out).mono ?_
  rintro e W3 ⟨p, b', R', rfl, hg, ho, hby⟩
  obtain ⟨rfl, rfl⟩ := hby.one BY.out
  have G3 := Lib.hid (grown_trans G2.out hg)
  have A3 := Lib.hid (A2.out.grown hg)
  have V3 := Lib.hid (V2.out.grown hg)
  have O3 := Lib.hid (O2.out.grown hg)
  have P3 := Lib.hid ho.sl
  clear hg ho hby G2 A2 V2 O2
  cases b' with
  | false =>
    go_wp2_with fail
    refine (lkSame p o R' _ P3.out O3.out).mono ?_
    rintro e W4 ⟨rfl, hg⟩
    have G4 := Lib.hid (grown_trans G3.out hg)
    have O4 := Lib.hid (O3.out.grown hg)
    have P4 := Lib.hid (P3.out.grown hg)
    clear hg
    go_wp2_with fail
    refine (lkSame p o R' _ P4.out O4.out).mono ?_
    rintro e W5 ⟨rfl, hg⟩
    have G5 := Lib.hid (grown_trans G4.out hg)
    clear hg
    go_wp2_with fail
    go_ret
    exact ⟨rfl, below_grown G5.out⟩
  | true =>
    have Y : Hid (okM m = true ∧ Vec.ok l = true ∧ Sp.IsBy m l R') := Lib.hid (by
      rcases BY.out.2 with ⟨_, h1, h2, h3⟩ | ⟨h, _⟩
      · exact ⟨h1, h2, h3⟩
      · cases h)
    have m8 := okM_len Y.out.1
    have RL : R'.length = m.length := Y.out.2.2.row.1
    obtain ⟨pa, pc, ep, hp1, hp2, _⟩ := P3.out
    subst ep
    rw [RL] at P3 hp1
    rw [RL]
    have HRL := Lib.hid RL
    unfold maxLen at hp2
    have MK := Lib.hid (by_makes Y.out.1 Y.out.2.1 Y.out.2.2)
    obtain ⟨P, hP⟩ : ∃ P, Sp.firsts Sp.has m = P := ⟨_, rfl⟩
    have HPP := Lib.hid hP
    obtain ⟨F, hF⟩ : ∃ F, firstM m = F := ⟨_, rfl⟩
    have HF := Lib.hid hF
    have FP : Hid (F = P.map fun (i : Nat) => (i : Int)) := Lib.hid (by rw [← hF, firstM_yes Y.out.1, hP])
    have FL : F.length = P.length := by rw [FP.out, List.length_map]
    have HFL := Lib.hid FL
    have P8 : P.length ≤ 8 := by rw [← hP]; have := Sp.first_len m; omega
    clear hP hF FL RL BY
    go_wp2_with fail
    refine (lkSame _ o R' _ P3.out O3.out).mono ?_
    rintro e W4 ⟨rfl, hg⟩
    have G4 := Lib.hid (grown_trans G3.out hg)
    have A4 := Lib.hid (A3.out.grown hg)
    have V4 := Lib.hid (V3.out.grown hg)
    have P4 := Lib.hid (P3.out.grown hg)
    clear hg G3 A3 V3 O3 P3
    go_wp2_with fail
    refine (implSpanFirst _ mus m _ A4.out).mono ?_
    rintro e W5 ⟨fv, rfl, hg, ho⟩
    rw [HF.out] at ho
    have G5 := Lib.hid (grown_trans G4.out hg)
    have A5 := Lib.hid (A4.out.grown hg)
    have V5 := Lib.hid (V4.out.grown hg)
    have P5 := Lib.hid (P4.out.grown hg)
    obtain ⟨fa, fc, ef, hf1, hf2, _⟩ := ho.sl
    have SF5 := Lib.hid ho.sl
    subst ef
    rw [HFL.out] at SF5 hf1
    rw [HFL.out]
    unfold maxLen at hf2
    clear hg ho G4 A4 V4 P4
    go_wp2_with fail
    go_loopw [10, 11] (fun kk ii wr => ∃ i : Nat, i ≤ m.length ∧ ii = .int .i64 i ∧ kk = .int .i64 ((Sp.firsts Sp.has (m.take i)).length : Nat) ∧ wr = W5) (fun _ ii _ => m.length - (intOf ii).toNat)
    case atStart => exact ⟨0, Nat.zero_le _, rfl, rfl, rfl⟩
    case round =>
      obtain ⟨i, hi, rfl, rfl, rfl⟩ := hrel
      by_cases hlt : i < m.length
      · have hlt' : (i : Int) < (m.length : Int) := by omega
        have FA := firsts_at hlt
        rw [HPP.out] at FA
        have kl : (Sp.firsts Sp.has (m.take i)).length ≤ 8 := by have := Sp.first_len (m.take i); rw [List.length_take] at this; omega
        obtain ⟨k, hk⟩ : ∃ k, (Sp.firsts Sp.has (m.take i)).length = k := ⟨_, rfl⟩
        rw [hk] at FA kl ⊢
        have FA' := Lib.hid FA
        obtain ⟨a, capf, e, _, _, hr⟩ := SF5.out
        injection e with e1 e2 e3
        subst e1 e3
        clear e2 hk FA
        obtain ⟨a2, capp, e, _, _, hr2⟩ := P5.out
        injection e with e1 e2 e3
        subst e1 e3
        clear e2
        obtain ⟨bp, op, rfl, hxp⟩ := hr2.at_ (k := i) (by rw [HRL.out]; exact hlt)
        by_cases hkl : k < P.length
        · have hkl' : (k : Int) < (P.length : Int) := by omega
          obtain ⟨bf, of, rfl, hxf⟩ := hr.at_ (k := k) (by have := HFL.out; omega)
          have fv : F.getD k 0 = ((P.getD k 0 : Nat) : Int) := by
            rw [FP.out, List.getD_eq_getElem?_getD, List.getElem?_map, List.getD_eq_getElem?_getD, List.getElem?_eq_getElem hkl]; rfl
          rw [fv] at hxf
          obtain ⟨q, hq⟩ : ∃ q, P.getD k 0 = q := ⟨_, rfl⟩
          rw [hq] at hxf FA'
          clear fv hq hr hr2
          by_cases hqi : (q : Int) = (i : Int)
          · have NX : Hid ((Sp.firsts Sp.has (m.take (i + 1))).length = k + 1) := Lib.hid (by
              rcases FA'.out with ⟨_, _, _, h⟩ | ⟨_, h, _⟩
              · exact h
              · exact absurd (show q = i by omega) (h hkl))
            obtain rfl : q = i := by omega
            clear hqi FA' hxp
            go_wp2_with fail
            go_roundw
            case rel => exact ⟨q + 1, by omega, by go_num, by rw [NX.out]; go_num, by first | rfl | trivial⟩
            case measure => simp [intOf]; omega
          · have NX : Hid ((Sp.firsts Sp.has (m.take (i + 1))).length = k ∧ R'.getD i 0 = 0) := Lib.hid (by
              rcases FA'.out with ⟨_, _, h, _⟩ | ⟨h1, _, h2⟩
              · exact absurd (show (q : Int) = i by omega) hqi
              · exact ⟨h2, h1 _ _ Y.out.2.2⟩)
            rw [NX.out.2] at hxp
            clear FA'
            go_wp2_with fail
            go_roundw
            case rel => exact ⟨i + 1, by omega, by go_num, by rw [NX.out.1], by first | rfl | trivial⟩
            case measure => simp [intOf]; omega
        · have hkl' : ¬ (k : Int) < (P.length : Int) := by omega
          have NX : Hid ((Sp.firsts Sp.has (m.take (i + 1))).length = k ∧ R'.getD i 0 = 0) := Lib.hid (by
            rcases FA'.out with ⟨_, h, _, _⟩ | ⟨h1, _, h2⟩
            · omega
            · exact ⟨h2, h1 _ _ Y.out.2.2⟩)
          rw [NX.out.2] at hxp
          clear FA' hr hr2
          go_wp2_with fail
          go_roundw
          case rel => exact ⟨i + 1, by omega, by go_num, by rw [NX.out.1], by first | rfl | trivial⟩
          case measure => simp [intOf]; omega
      · have : i = m.length := by omega
        subst this
        obtain ⟨k, hk⟩ : ∃ k, (Sp.firsts Sp.has (m.take m.length)).length = k := ⟨_, rfl⟩
        rw [hk]
        clear hk
        go_wp2_with fail
        refine (lkMade _ _ mus m R' _ A5.out P5.out (okM_all Y.out.1) Y.out.2.2.row m8).mono ?_
        rintro e W6 ⟨u, rfl, hg, ho⟩
        rw [MK.out] at ho
        have G6 := Lib.hid (grown_trans G5.out hg)
        have V6 := Lib.hid (V5.out.grown hg)
        have U6 := Lib.hid ho.sl
        clear hg ho
        go_wp2_with fail
        refine (lkSame u v l _ U6.out V6.out).mono ?_
        rintro e W7 ⟨rfl, hg⟩
        have G7 := Lib.hid (grown_trans G6.out hg)
        clear hg
        go_wp2_with fail
        go_ret
        exact ⟨rfl, below_grown G7.out⟩

set_option maxRecDepth 100000 in
theorem lifted (os : Os) (started : os.Started) (H : Type) (enc : TypeId × Value → H) :
    ReturnsInHanded {} Try.checked os 3 .any (Rows.fnSpanBySpec.pre6 enc Try.prog Try.f3 Rows.fnSpanByRow.domain false) (Rows.fnSpanBySpec.post enc Try.prog Try.f3 false true false false) := by
  refine returnsInHanded_of_change (C := Try.checked) own started (by kernel_rfl) Try.func3
    (ChangeSpec.witness6 (enc := enc) (C := Try.checked) false ⟨#[], #[.slice none 0 0], []⟩ 8 (by kernel_rfl) (by kernel_rfl) (by kernel_rfl) (by kernel_rfl)) ?_
  intro W base args ds gs before hval0 hW hcnd _
  have hval : ∀ (j : Nat) t v, Try.f3.params[j]? = some t → args[j]? = some v → Value.okWide Try.prog W .any base t v := hval0
  have hW' := hW
  obtain ⟨p, q, hA0, hV, rfl, hfz, hnd⟩ := hW
  have hA : DataW.TrodAll enc Try.prog W 0 (fun _ => true) true Try.f3.params.toList args.toList ds p := hA0
  rw [Try.params3] at hA hval
  obtain ⟨v0, vs0, d0, ds0, p0, q0, hargs, rfl, rfl, h0, r0⟩ := trodAll_cons hA
  obtain ⟨rfl, rfl, rfl⟩ := trodAll_nil r0
  obtain rfl : args = #[v0] := by cases args; simp_all
  obtain ⟨rfl, rfl⟩ := trodVars_none hV
  obtain ⟨a0, len0, cap0, rfl⟩ := okWide_slice Try.underlying22 (hval 0 22 v0 rfl rfl)
  have k0 := h0
  have lt0 : ∀ x ∈ p0, x.block < W.heap.size := by obtain ⟨m, hm⟩ := k0; exact DataW.trod_lt m _ _ _ hm
  obtain ⟨z0, w0⟩ : ∃ zs, IsRow .u8 W a0 len0 cap0 zs := by
    obtain ⟨fuel, hf⟩ := h0
    rcases open_ints Try.underlying22 Try.underlying5 (by kernel_rfl) hf with ⟨hcs, _⟩ | ⟨x, l, c, zs, hcs, _, hl, hm, hz, _, hcell, hwz⟩
    · simp [Value.cells] at hcs
      obtain ⟨rfl, rfl, rfl⟩ := hcs
      exact ⟨[], .inl ⟨rfl, rfl, rfl, rfl⟩⟩
    · simp [Value.cells] at hcs
      obtain ⟨rfl, rfl, rfl⟩ := hcs
      exact ⟨zs, .inr ⟨_, rfl, hl, hm, by simpa using hz, hcell, hwz⟩⟩
  clear hA0 hval0
  refine (walk a0 len0 cap0 z0 W w0).mono fun e W' ⟨he, bel⟩ => ?_
  subst he
  exact ⟨_, rfl, _, _, _, [], _, [], hW', trodAll_mk1 (shut_bool Try.underlying4 _), (trodAll_cons_mk (Below.trod laidOut (by kernel_rfl) (of_decide_eq_true (by kernel_rfl)) k0 bel lt0) trodAll_mk0), rfl, bel.frame _, fun h => by cases h⟩

theorem over : Rows.fnSpanByRow.holds Try.pinned (OpenSpec.ofChange Rows.fnSpanBySpec) :=
  OpenClaim.holds_of_wide_leaving 3 Try.f3 rfl rfl rfl rfl rfl rfl rfl ⟨rfl, rfl, rfl, rfl, rfl⟩ rfl rfl rfl rfl rfl (by kernel_rfl) Try.func3 (by kernel_rfl)
    (of_decide_eq_true (by kernel_rfl)) (by unfold Func.isWrapper; first | (rw [if_pos (by decide +kernel)]; kernel_rfl) | (rw [if_neg (by decide +kernel)]; exact ⟨rfl, rfl⟩))
    (fun os started H enc _ => leaves (lifted os started H enc))

theorem proved : Rows.FnSpanBySaid := over
#print axioms proved
end Go.Proofs.Ytdbajokjhllekaa.fnSpanBy
