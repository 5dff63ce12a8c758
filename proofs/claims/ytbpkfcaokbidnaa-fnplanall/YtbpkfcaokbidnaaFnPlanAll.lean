/-
  From whatever bytes a kind and flags are drawn, PlanAll answers as its model does; it tells a plan of each shard that is not there, in order, as PlanOf does; and it answers false only where shards are not enough: the law FnPlanAll returns true.
  Conditions: none.
-/
import Derived.Test.YtbpkfcaokbidnaaRows
import Derived.WalkKit
import Derived.ProofKit
import Derived.OpenShut
import Derived.ShutString
import Derived.ChangeOld
import Derived.Below
import Derived.Test.YtbpkfcaokbidnaaG1
import Derived.Test.YtbpkfcaokbidnaaAppendZeros
import Derived.Test.YtbpkfcaokbidnaaG2
import Derived.Test.YtbpkfcaokbidnaaG3
import Derived.Test.YtbpkfcaokbidnaaG4
import Derived.Test.YtbpkfcaokbidnaaPlanMath
import Derived.Test.YtbpkfcaokbidnaaPlanWork
import Derived.Test.YtbpkfcaokbidnaaRound
import Derived.Test.YtbpkfcaokbidnaaChoose
import Derived.Test.YtbpkfcaokbidnaaPlanMake
import Derived.Test.YtbpkfcaokbidnaaChoose2
import Derived.Test.YtbpkfcaokbidnaaPlanFind
import Derived.Test.YtbpkfcaokbidnaaPlanTop
import Derived.Test.YtbpkfcaokbidnaaPlanSpec
import Derived.Test.YtbpkfcaokbidnaaPlanSearch
import Derived.Test.YtbpkfcaokbidnaaPlanSpec2
import Derived.Test.YtbpkfcaokbidnaaPlanNear
import Derived.Test.YtbpkfcaokbidnaaPlanEq
import Derived.Test.YtbpkfcaokbidnaaPlanTab
import Derived.Test.YtbpkfcaokbidnaaPlanAllP
namespace Go.Proofs.Ytbpkfcaokbidnaa.fnPlanAll
open Go.ChangeShapes Go.WideShapes Go.ChangeAt Go.RowKit
open Go.ChangeMaps (open_string shut_string)
set_option linter.unusedVariables false

theorem own : ownKnob Try.prog.godebug = none := by kernel_rfl
theorem laidOut : laidOutB Try.prog = true := by kernel_rfl

/-- WHAT THE WALK IS TOLD OF A SLICE OF INTEGERS THAT CAME IN: it is nil; or it leads to a row of 'cap' cells, the numbers 'zs' (the first 'len' are its elements, the rest its spare room), each fitting its kind. -/
def IsRow (k : IntKind) (w : World) (a : Option Addr) (len cap : Nat) (zs : List Int) : Prop :=
  (a = none ∧ len = 0 ∧ cap = 0 ∧ zs = []) ∨
  ∃ x, a = some x ∧ len ≤ cap ∧ cap ≤ maxLen ∧ zs.length = cap ∧ (∀ i, i < zs.length → w.cell? (x.add i) = some (.int k (zs.getD i 0))) ∧ ∀ n ∈ zs, (Lit.int k n).wf = true

theorem sl_len {w : World} {a : Option Addr} {n c : Nat} {l : List Int} (h : Sl w (.slice a n c) l) : n = l.length := by
  obtain ⟨_, _, e, _⟩ := h
  injection e
theorem unav_pre (f : List Bool) (n : Nat) : ∀ d, ∃ R, unav f (n + d) = unav f n ++ R
  | 0 => ⟨[], by simp⟩
  | d + 1 => by
    obtain ⟨R, h⟩ := unav_pre f n d
    rw [← Nat.add_assoc]
    cases hf : f.getD (n + d) false with
    | true => exact ⟨R, by rw [unav_yes hf]; exact h⟩
    | false => exact ⟨R ++ [n + d], by rw [unav_no hf, h, List.append_assoc]⟩
theorem unav_here {f : List Bool} {n : Nat} (hn : n < 8) (hf : f.getD n false = false) : (unav f 8).getD (unav f n).length 0 = n ∧ (unav f n).length < (unav f 8).length := by
  obtain ⟨R, h⟩ := unav_pre f (n + 1) (7 - n)
  rw [show n + 1 + (7 - n) = 8 by omega, unav_no hf, List.append_assoc] at h
  rw [h]
  refine ⟨?_, by simp⟩
  rw [List.getD_eq_getElem?_getD, List.getElem?_append_right (Nat.le_refl _)]
  simp
theorem no_bears {k : Int} {f : List Bool} {L : List PIt} (h : AllT k f false L) : bearsM k f = false := by
  rcases h with ⟨h, _⟩ | ⟨_, _, h⟩
  · cases h
  · cases hb : bearsM k f with
    | false => rfl
    | true =>
      unfold bearsM at hb
      simp only [Bool.and_eq_true, Bool.or_eq_true, decide_eq_true_eq] at hb
      obtain ⟨⟨hk, hf⟩, hb⟩ := hb
      obtain ⟨i, hi, hfi, hp⟩ := h hk hf
      have hk' : k.toNat = 1 ∨ k.toNat = 2 := by omega
      have e : Sp.crows k.toNat f = Sp.prow k.toNat (Sp.others i f) := by
        unfold Sp.crows Sp.prow Sp.others
        congr 1
        refine List.filter_congr fun j hj => ?_
        by_cases ej : j = i
        · subst ej; rw [hfi]; simp
        · simp [ej]
      have hin := Sp.bears_full hk' hb (Sp.four_toV (Sp.crow_row hk' hi))
      rw [e] at hin
      have := (Sp.has_iff (Sp.prow_row hk' (Sp.others_up i f).lt) (Sp.crow_row hk' hi)).2 hin
      rw [← Sp.plan_iff hk' hi f, hp] at this
      cases this
def DrawnKT (w : World) (e : Ending) (w' : World) : Prop :=
  ∃ (k : Nat) (v : Value) (f : List Bool), k ≤ 3 ∧ e = .returned (.tuple #[.int .i64 k, v]) ∧ (f.length = 8 ∨ f.length = 7) ∧ Bl w' v f ∧ Below w.heap.size w w'

set_option maxHeartbeats 2000000 in
set_option maxRecDepth 20000 in
theorem drawPlanAll (a : Option Addr) (len cap : Nat) (w : World) (h : Code w a len cap) : Calls Try.prog 33 #[.slice a len cap] w (DrawnKT w) := by
  have H := Lib.hid h
  clear h
  go_enter Try.func33, Try.ntmps33
  go_wp2_with fail
  refine (openR a len cap _ H.out).mono ?_
  rintro e w1 ⟨rfl, hb1, h1⟩
  have B1 := Lib.hid hb1
  have H1 := Lib.hid h1
  clear hb1 h1
  go_wp2_with fail
  refine (drawKind w.heap.size 0 _ H1.out (by omega)).mono ?_
  rintro e w2 ⟨m, hm, rfl, hf2, h2⟩
  have F2 := Lib.hid hf2
  have H2 := Lib.hid h2
  clear hf2 h2 H1
  go_wp2_with fail
  refine (drawThere w.heap.size (0 + 2) _ H2.out (by omega)).mono ?_
  rintro e w5 ⟨v, f, rfl, hf8, hf5, hu, h5⟩
  have F5 := Lib.hid hf5
  have U := Lib.hid hu
  have L8 := Lib.hid hf8
  clear hf5 h5 hu hf8 H2
  go_wp2_with fail
  go_ret2
  exact ⟨m, v, f, hm, rfl, L8.out, U.out.1, B1.out.trans ((F2.out.trans F5.out).below (Nat.le_refl _) B1.out.size)⟩

set_option maxHeartbeats 8000000 in
set_option maxRecDepth 20000 in
theorem walk (a0 : Option Addr) (len0 cap0 : Nat) (z0 : List Int) (w : World) (w0 : IsRow .u8 w a0 len0 cap0 z0) :
    Calls Try.prog 9 #[.slice a0 len0 cap0] w fun e w' => e = .returned (.bool true) ∧ Below w.heap.size w w' := by
  have hc0 : Code w a0 len0 cap0 := code_of w0
  have hm0 : cap0 ≤ maxLen := hc0.2.1
  have hl0 : len0 ≤ cap0 := hc0.1
  unfold maxLen at hm0
  have C0 := Lib.hid hc0
  clear hc0 w0
  by_cases hbig0 : (len0 : Int) > 1048576
  · go_enter Try.func9, Try.ntmps9
    go_wp2_with fail
    go_ret
    exact ⟨rfl, Below.refl _ _⟩
  go_enter Try.func9, Try.ntmps9
  go_wp2_with fail
  refine (drawPlanAll a0 len0 cap0 _ C0.out).mono ?_
  rintro e W1 ⟨k, v, f, hk3, rfl, hf8, hbl, hb⟩
  have L1 := Lib.hid hb
  have B1 := Lib.hid hbl
  clear hb hbl C0 hf8
  go_wp2_with fail
  refine (specPlanAll k v f _ B1.out).mono ?_
  rintro e W2 ⟨b, M, vm, hM, rfl, hg, hpm⟩
  have HM := Lib.hid hM
  have L2 := Lib.hid (L1.out.trans (below_grown hg |>.mono L1.out.size))
  have B2 := Lib.hid (B1.out.grown hg)
  obtain ⟨ma, mc, me, _, _⟩ := hpm.form
  subst me
  clear hM hg hpm L1 B1
  go_wp2_with fail
  refine (implPlanAll k v f _ B2.out).mono ?_
  rintro e W3 ⟨b', L, vl, hL, rfl, hg, hpl⟩
  obtain ⟨rfl, hlen, hsame⟩ := HM.out.one hL
  have HL := Lib.hid hL
  have L3 := Lib.hid (L2.out.trans (below_grown hg |>.mono L2.out.size))
  have B3 := Lib.hid (B2.out.grown hg)
  have P3 := Lib.hid hpl
  obtain ⟨pa, pc, pe, _, pm⟩ := hpl.form
  subst pe
  rw [hlen]
  clear hL hg hpl L2 B2 HM hsame hlen
  have hbb : (b != b) = false := by cases b <;> rfl
  have hnn : ((L.length : Int) != (L.length : Int)) = false := by simp
  have hee : ((L.length : Int) == (L.length : Int)) = true := by simp
  unfold maxLen at pm
  cases b with
  | false =>
    have NB := Lib.hid (no_bears HL.out)
    go_wp2_with fail
    refine (implBears k v f _ B3.out).mono ?_
    rintro e W4 ⟨rfl, hg⟩
    rw [NB.out]
    have L4 := Lib.hid (L3.out.trans (below_grown hg |>.mono L3.out.size))
    clear hg
    go_wp2_with fail
    go_ret
    exact ⟨rfl, L4.out⟩
  | true =>
    obtain ⟨hk12, hf8, hall⟩ : ((k : Int) = 1 ∨ (k : Int) = 2) ∧ f.length = 8 ∧ PAll k f 8 L := by
      rcases HL.out with ⟨_, h1, h2, h3⟩ | ⟨h, _⟩
      · exact ⟨h1, h2, h3⟩
      · cases h
    have AL := Lib.hid hall
    have F8 := Lib.hid hf8
    have l8 := hall.len (Nat.le_refl _)
    obtain ⟨nL, hnL⟩ : ∃ x, x = L.length := ⟨_, rfl⟩
    have NL := Lib.hid hnL
    rw [← hnL] at P3 hnn hee l8 ⊢
    obtain ⟨av0, cv0, ev0, c01, c02, hrb⟩ := B3.out
    rw [hf8] at ev0 c01
    subst ev0
    unfold maxLen at c02
    have RB := Lib.hid hrb
    have UE : Hid ((unav f 8).length = nL) := Lib.hid (by rw [hnL]; exact hall.1.symm)
    clear hall hf8 HL hnL hrb
    go_wp2_with fail
    go_loopw [9, 10] (fun o i wr => ∃ n : Nat, n ≤ 8 ∧ i = .int .i64 n ∧ o = .int .i64 (unav f n).length ∧ W3.grownBy wr none) (fun _ i _ => 8 - (intOf i).toNat)
    case atStart => exact ⟨0, by omega, rfl, rfl, World.grownBy.refl _ _⟩
    case round =>
      obtain ⟨n, hn, rfl, rfl, hg⟩ := hrel
      have G := Lib.hid hg
      clear hg
      by_cases hlt : n < 8
      · have hlt' : (n : Int) < 8 := by omega
        obtain ⟨bb, ob, rfl, hx⟩ := (RB.out.grown G.out).at_ (k := n) (by rw [F8.out]; exact hlt)
        cases hfn : f.getD n false with
        | true =>
          rw [hfn] at hx
          have US : Hid ((unav f (n + 1)).length = (unav f n).length) := Lib.hid (by rw [unav_yes hfn])
          clear hfn
          go_wp2_with fail
          go_roundw
          case rel => exact ⟨n + 1, by omega, by go_num, by rw [US.out], G.out⟩
          case measure => simp [intOf]; omega
        | false =>
          rw [hfn] at hx
          have US : Hid ((unav f (n + 1)).length = (unav f n).length + 1) := Lib.hid (by rw [unav_no hfn]; simp)
          obtain ⟨hat, htl⟩ := unav_here hlt hfn
          rw [UE.out] at htl
          obtain ⟨t, ht⟩ : ∃ t, (unav f n).length = t := ⟨_, rfl⟩
          rw [ht] at hat htl US ⊢
          have hge : decide ((t : Int) ≥ (nL : Int)) = false := decide_eq_false (by omega)
          have htl' : (t : Int) < (nL : Int) := by omega
          obtain ⟨x, hx0⟩ : ∃ x, L[t]? = some x := ⟨L[t]'(by rw [← NL.out]; exact htl), List.getElem?_eq_getElem _⟩
          have PX : Hid (PlanT k n f x.d x.l x.m true) := Lib.hid (by have := AL.out.2 t x hx0; rwa [hat] at this)
          have P4 := Lib.hid (P3.out.still G.out)
          obtain ⟨gl, pc', pe', gb, y0, y1, y2, ou, ov⟩ := P4.out.at_ hx0
          rw [← NL.out] at pe'
          injection pe' with e1 e2 e3
          subst e1 e3
          have Y0 := Lib.hid y0
          have Y1 := Lib.hid y1
          have Y2 := Lib.hid y2
          have OU := Lib.hid ou.sl
          have OV := Lib.hid ov.sl
          have BN := Lib.hid (B3.out.grown G.out)
          clear hfn hat ht hx0 y0 y1 y2 ou ov P4
          go_wp2_with fail
          clear hx
          refine (implPlanOf k n _ f _ BN.out).mono ?_
          rintro e w7 ⟨d, l, m, b, p, q, hT, rfl, hg, htw⟩
          obtain ⟨e1, e2, e3, rfl⟩ := hT.one PX.out
          obtain ⟨au, nu, cu, av, nv, cv, rfl, rfl⟩ := htw.form
          obtain ⟨xd, xu, xv, xl, xm⟩ := x
          simp only at e1 e2 e3 Y0 Y1 Y2 OU OV
          subst e1 e2 e3
          have ga := World.grownBy_alloc w7 (.cells #[.int .i64 d, .slice au nu cu, .slice av nv cv] 28) none
          have G7 : Hid (wr.grownBy (w7.alloc (.cells #[.int .i64 d, .slice au nu cu, .slice av nv cv] 28)) none) := Lib.hid (grown_alloc hg _)
          have U7' : Hid (Sl (w7.alloc (.cells #[.int .i64 d, .slice au nu cu, .slice av nv cv] 28)) (.slice au nu cu) l) := Lib.hid (htw.1.sl.grown ga)
          have V7' : Hid (Sl (w7.alloc (.cells #[.int .i64 d, .slice au nu cu, .slice av nv cv] 28)) (.slice av nv cv) m) := Lib.hid (htw.2.1.sl.grown ga)
          have K7 : Hid (Blk (w7.alloc (.cells #[.int .i64 d, .slice au nu cu, .slice av nv cv] 28)) w7.heap.size 28 [.int .i64 d, .slice au nu cu, .slice av nv cv]) := Lib.hid (heap_alloc_new _ _)
          clear hg htw hT ga PX
          go_upto_region 14 with fail
          generalize w7.alloc (.cells #[.int .i64 d, .slice au nu cu, .slice av nv cv] 28) = w8 at *
          generalize w7.heap.size = bp at *
          have GD : Hid (W3.grownBy w8.drew none) := Lib.hid (grown_drew (grown_trans G.out G7.out))
          have GW : Hid (wr.grownBy w8.drew none) := Lib.hid (grown_drew G7.out)
          have U7 : Hid (Sl w8.drew (.slice au nu cu) l) := Lib.hid (U7'.out.grown (grown_drew (World.grownBy.refl w8 none)))
          have V7 : Hid (Sl w8.drew (.slice av nv cv) m) := Lib.hid (V7'.out.grown (grown_drew (World.grownBy.refl w8 none)))
          have XU := Lib.hid (OU.out.grown GW.out)
          have XV := Lib.hid (OV.out.grown GW.out)
          obtain ⟨xa, xc, xe, _, _, _⟩ := OU.out
          obtain ⟨ya, yc, ye, _, _, _⟩ := OV.out
          obtain ⟨xk, hxk⟩ : ∃ q, q = l.length := ⟨_, rfl⟩
          obtain ⟨yk, hyk⟩ : ∃ q, q = m.length := ⟨_, rfl⟩
          rw [← hxk] at xe
          rw [← hyk] at ye
          subst xe ye
          clear hxk hyk
          have SS : Hid ((w8.drew.cell? ⟨bp, 0, none⟩ = some (.int .i64 d) ∧ w8.drew.cell? ⟨bp, 1, none⟩ = some (.slice au nu cu) ∧ w8.drew.cell? ⟨bp, 2, none⟩ = some (.slice av nv cv)) ∧ w8.drew.cell? ⟨gl, t * 3, none⟩ = some (.int .i64 d) ∧ w8.drew.cell? ⟨gl, t * 3 + 1, none⟩ = some (.slice xa xk xc) ∧ w8.drew.cell? ⟨gl, t * 3 + 2, none⟩ = some (.slice ya yk yc)) :=
            Lib.hid ⟨⟨K7.out.cell (i := 0) rfl, K7.out.cell (i := 1) rfl, K7.out.cell (i := 2) rfl⟩, GW.out.cell Y0.out (by simp), GW.out.cell Y1.out (by simp), GW.out.cell Y2.out (by simp)⟩
          have EM := enters_of (P := Try.prog) Try.func18 (by kernel_rfl) rfl
          refine wp_region_held (S := fun W => (W.cell? ⟨bp, 0, none⟩ = some (.int .i64 d) ∧ W.cell? ⟨bp, 1, none⟩ = some (.slice au nu cu) ∧ W.cell? ⟨bp, 2, none⟩ = some (.slice av nv cv)) ∧ W.cell? ⟨gl, t * 3, none⟩ = some (.int .i64 d) ∧ W.cell? ⟨gl, t * 3 + 1, none⟩ = some (.slice xa xk xc) ∧ W.cell? ⟨gl, t * 3 + 2, none⟩ = some (.slice ya yk yc)) (by kernel_rfl) ?_
          refine take_ 0 (some 81) (.int .i64 t) rfl rfl (by kernel_rfl) (by kernel_rfl) (by kernel_rfl) (fun _ _ _ h => h) (.inl ⟨by rfl, fun W' hS => (by go_simp)⟩) SS.out ?_
          simp only [Act.put, List.setIfInBounds_toArray, List.set_cons_zero, List.set_cons_succ]
          refine take_ 1 (some 82) (.slice (some ⟨gl, 0, none⟩) nL pc) rfl rfl (by kernel_rfl) (by kernel_rfl) (by kernel_rfl) (fun _ _ _ h => h) (.inl ⟨by rfl, fun W' hS => (by go_simp)⟩) SS.out ?_
          simp only [Act.put, List.setIfInBounds_toArray, List.set_cons_zero, List.set_cons_succ]
          refine take_ 2 (some 83) (.int .i64 nL) rfl rfl (by kernel_rfl) (by kernel_rfl) (by kernel_rfl) (fun _ _ _ h => h) (.inl ⟨by rfl, fun W' hS => (by go_simp)⟩) SS.out ?_
          simp only [Act.put, List.setIfInBounds_toArray, List.set_cons_zero, List.set_cons_succ]
          refine take_ 3 (some 84) (.bool false) rfl rfl (by kernel_rfl) (by kernel_rfl) (by kernel_rfl) (fun _ _ _ h => h) (.inl ⟨by rfl, fun W' hS => (by first | (go_simp; done) | (go_simp; omega) | (go_simp; exact hge))⟩) SS.out ?_
          simp only [Act.put, List.setIfInBounds_toArray, List.set_cons_zero, List.set_cons_succ]
          refine take_ 4 (some 85) (.bool false) rfl rfl (by kernel_rfl) (by kernel_rfl) (by kernel_rfl) (fun _ _ _ h => h) (.inl ⟨by rfl, fun W' hS => (by go_simp)⟩) SS.out ?_
          simp only [Act.put, List.setIfInBounds_toArray, List.set_cons_zero, List.set_cons_succ]
          refine take_ 5 (some 86) (.bool true) rfl rfl (by kernel_rfl) (by kernel_rfl) (by kernel_rfl) (fun _ _ _ h => h) (.inl ⟨by rfl, fun W' hS => (by go_simp)⟩) SS.out ?_
          simp only [Act.put, List.setIfInBounds_toArray, List.set_cons_zero, List.set_cons_succ]
          refine take_ 6 (some 87) (.bool false) rfl rfl (by kernel_rfl) (by kernel_rfl) (by kernel_rfl) (fun _ _ _ h => h) (.inl ⟨by rfl, fun W' hS => (by go_simp)⟩) SS.out ?_
          simp only [Act.put, List.setIfInBounds_toArray, List.set_cons_zero, List.set_cons_succ]
          refine take_ 7 (some 88) (.bool false) rfl rfl (by kernel_rfl) (by kernel_rfl) (by kernel_rfl) (fun _ _ _ h => h) (.inl ⟨by rfl, fun W' hS => (by go_simp)⟩) SS.out ?_
          simp only [Act.put, List.setIfInBounds_toArray, List.set_cons_zero, List.set_cons_succ]
          refine take_ 8 (some 89) (.bool false) rfl rfl (by kernel_rfl) (by kernel_rfl) (by kernel_rfl) (fun _ _ _ h => h) (.inl ⟨by rfl, fun W' hS => (by go_simp)⟩) SS.out ?_
          simp only [Act.put, List.setIfInBounds_toArray, List.set_cons_zero, List.set_cons_succ]
          refine take_ 9 (some 90) (.agg #[.int .i64 d, .slice au nu cu, .slice av nv cv]) rfl rfl (by kernel_rfl) (by kernel_rfl) (by kernel_rfl) (fun _ _ _ h => h) (.inl ⟨by rfl, fun W' hS => (by obtain ⟨⟨x0, x1, x2⟩, y0, y1, y2⟩ := hS; go_simp)⟩) SS.out ?_
          simp only [Act.put, List.setIfInBounds_toArray, List.set_cons_zero, List.set_cons_succ]
          refine take_ 10 (some 91) (.slice (some ⟨gl, 0, none⟩) nL pc) rfl rfl (by kernel_rfl) (by kernel_rfl) (by kernel_rfl) (fun _ _ _ h => h) (.inl ⟨by rfl, fun W' hS => (by go_simp)⟩) SS.out ?_
          simp only [Act.put, List.setIfInBounds_toArray, List.set_cons_zero, List.set_cons_succ]
          refine take_ 11 (some 92) (.int .i64 t) rfl rfl (by kernel_rfl) (by kernel_rfl) (by kernel_rfl) (fun _ _ _ h => h) (.inl ⟨by rfl, fun W' hS => (by go_simp)⟩) SS.out ?_
          simp only [Act.put, List.setIfInBounds_toArray, List.set_cons_zero, List.set_cons_succ]
          refine take_ 12 (some 93) (.pointer (some ⟨gl, t * 3, none⟩)) rfl rfl (by kernel_rfl) (by kernel_rfl) (by kernel_rfl) (fun _ _ _ h => h) (.inl ⟨by rfl, fun W' hS => (by go_simp)⟩) SS.out ?_
          simp only [Act.put, List.setIfInBounds_toArray, List.set_cons_zero, List.set_cons_succ]
          refine take_ 13 (some 94) (.agg #[.int .i64 d, .slice xa xk xc, .slice ya yk yc]) rfl rfl (by kernel_rfl) (by kernel_rfl) (by kernel_rfl) (fun _ _ _ h => h) (.inl ⟨by rfl, fun W' hS => (by obtain ⟨⟨x0, x1, x2⟩, y0, y1, y2⟩ := hS; go_simp)⟩) SS.out ?_
          simp only [Act.put, List.setIfInBounds_toArray, List.set_cons_zero, List.set_cons_succ]
          refine ready_one (i := 14) (by kernel_rfl) rfl rfl ?_
          refine call_at (some 95) (f := 18) (args := #[.agg #[.int .i64 d, .slice au nu cu, .slice av nv cv], .agg #[.int .i64 d, .slice xa xk xc, .slice ya yk yc]]) rfl (by go_simp) ((lkPlanSame d _ _ _ _ l m _ U7.out V7.out XU.out XV.out).mono ?_)
          rintro e w9 ⟨rfl, hg9⟩
          have S9 := Lib.hid (And.intro (And.intro (hg9.cell SS.out.1.1 (by simp)) (And.intro (hg9.cell SS.out.1.2.1 (by simp)) (hg9.cell SS.out.1.2.2 (by simp)))) (And.intro (hg9.cell SS.out.2.1 (by simp)) (And.intro (hg9.cell SS.out.2.2.1 (by simp)) (hg9.cell SS.out.2.2.2 (by simp)))))
          have G9 := Lib.hid (grown_trans GD.out hg9)
          clear hg9
          refine ⟨.bool true, rfl, S9.out, ?_⟩
          simp only [Act.put, List.setIfInBounds_toArray, List.set_cons_zero, List.set_cons_succ]
          refine take_ 15 (some 96) (.bool false) rfl rfl (by kernel_rfl) (by kernel_rfl) (by kernel_rfl) (fun _ _ _ h => h) (.inl ⟨by rfl, fun W' hS => (by go_simp)⟩) S9.out ?_
          simp only [Act.put, List.setIfInBounds_toArray, List.set_cons_zero, List.set_cons_succ]
          refine take_ 16 (some 97) (.bool false) rfl rfl (by kernel_rfl) (by kernel_rfl) (by kernel_rfl) (fun _ _ _ h => h) (.inl ⟨by rfl, fun W' hS => (by go_simp)⟩) S9.out ?_
          simp only [Act.put, List.setIfInBounds_toArray, List.set_cons_zero, List.set_cons_succ]
          refine wpAnyH_done (by kernel_rfl) ?_ _
          clear SS S9 EM
          go_wp2_with fail
          go_roundw
          case rel => exact ⟨n + 1, by omega, by go_num, by rw [US.out]; go_num, G9.out⟩
          case measure => simp [intOf]; omega
      · obtain rfl : n = 8 := by omega
        rw [UE.out]
        have L5 := Lib.hid (L3.out.trans (below_grown G.out |>.mono L3.out.size))
        go_wp2_with fail
        go_ret
        exact ⟨rfl, L5.out⟩

set_option maxRecDepth 100000 in
theorem lifted (os : Os) (started : os.Started) (H : Type) (enc : TypeId × Value → H) :
    ReturnsInHanded {} Try.checked os 9 .any (Rows.fnPlanAllSpec.pre6 enc Try.prog Try.f9 Rows.fnPlanAllRow.domain false) (Rows.fnPlanAllSpec.post enc Try.prog Try.f9 false true false false) := by
  refine returnsInHanded_of_change (C := Try.checked) own started (by kernel_rfl) Try.func9
    (ChangeSpec.witness6 (enc := enc) (C := Try.checked) false ⟨#[], #[.slice none 0 0], []⟩ 8 (by kernel_rfl) (by kernel_rfl) (by kernel_rfl) (by kernel_rfl)) ?_
  intro W base args ds gs before hval0 hW hcnd _
  have hval : ∀ (j : Nat) t v, Try.f9.params[j]? = some t → args[j]? = some v → Value.okWide Try.prog W .any base t v := hval0
  have hW' := hW
  obtain ⟨p, q, hA0, hV, rfl, hfz, hnd⟩ := hW
  have hA : DataW.TrodAll enc Try.prog W 0 (fun _ => true) true Try.f9.params.toList args.toList ds p := hA0
  rw [Try.params9] at hA hval
  obtain ⟨v0, vs0, d0, ds0, p0, q0, hargs, rfl, rfl, h0, r0⟩ := trodAll_cons hA
  obtain ⟨rfl, rfl, rfl⟩ := trodAll_nil r0
  obtain rfl : args = #[v0] := by cases args; simp_all
  obtain ⟨rfl, rfl⟩ := trodVars_none hV
  obtain ⟨a0, len0, cap0, rfl⟩ := okWide_slice Try.underlying22 (hval 0 22 v0 rfl rfl)
  have k0 := h0
  have lt0 : ∀ x ∈ p0, x.block < W.heap.size := by obtain ⟨m, hm⟩ := k0; exact DataW.trod_lt m _ _ _ hm
  obtain ⟨z0, w0⟩ : ∃ zs, IsRow .u8 W a0 len0 cap0 zs := by
    obtain ⟨fuel, hf⟩ := h0
    rcases open_ints Try.underlying22 Try.underlying5 (by kernel_rfl) hf with ⟨hcs, _⟩ | ⟨x, l, c, zs, hcs, _, hl, hm, hz, _, hcell, hwz⟩
    · simp [Value.cells] at hcs
      obtain ⟨rfl, rfl, rfl⟩ := hcs
      exact ⟨[], .inl ⟨rfl, rfl, rfl, rfl⟩⟩
    · simp [Value.cells] at hcs
      obtain ⟨rfl, rfl, rfl⟩ := hcs
      exact ⟨zs, .inr ⟨_, rfl, hl, hm, by simpa using hz, hcell, hwz⟩⟩
  clear hA0 hval0
  refine (walk a0 len0 cap0 z0 W w0).mono fun e W' ⟨he, bel⟩ => ?_
  subst he
  exact ⟨_, rfl, _, _, _, [], _, [], hW', trodAll_mk1 (shut_bool Try.underlying4 _), (trodAll_cons_mk (Below.trod laidOut (by kernel_rfl) (of_decide_eq_true (by kernel_rfl)) k0 bel lt0) trodAll_mk0), rfl, bel.frame _, fun h => by cases h⟩

theorem over : Rows.fnPlanAllRow.holds Try.pinned (OpenSpec.ofChange Rows.fnPlanAllSpec) :=
  OpenClaim.holds_of_wide 9 Try.f9 rfl rfl rfl rfl rfl rfl rfl ⟨rfl, rfl, rfl, rfl, rfl⟩ rfl rfl rfl rfl rfl (by kernel_rfl) Try.func9 (by kernel_rfl)
    (of_decide_eq_true (by kernel_rfl)) (by unfold Func.isWrapper; first | (rw [if_pos (by decide +kernel)]; kernel_rfl) | (rw [if_neg (by decide +kernel)]; exact ⟨rfl, rfl⟩))
    (fun os started H enc _ => lifted os started H enc)

theorem proved : Rows.FnPlanAllSaid := over
#print axioms proved
end Go.Proofs.Ytbpkfcaokbidnaa.fnPlanAll
