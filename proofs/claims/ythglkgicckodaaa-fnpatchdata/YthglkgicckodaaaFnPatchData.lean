/-
  From whatever bytes numbers and patches are drawn, PatchData is the same in whatever order the patches stand, and the same in two parts: the law FnPatchData returns true.
  Conditions: none.
-/
import Derived.Test.YthglkgicckodaaaRows
import Derived.WalkKit
import Derived.ProofKit
import Derived.OpenShut
import Derived.ShutString
import Derived.ChangeOld
import Derived.Below
import Derived.Test.YthglkgicckodaaaG1
import Derived.Test.YthglkgicckodaaaAppendZeros
import Derived.Test.YthglkgicckodaaaG2
import Derived.Test.YthglkgicckodaaaG3
import Derived.Test.YthglkgicckodaaaPatchTab
import Derived.Test.YthglkgicckodaaaPatchMath
import Derived.Test.YthglkgicckodaaaPatchHelp
import Derived.Test.YthglkgicckodaaaPatchMark
import Derived.Test.YthglkgicckodaaaReadTake
import Derived.Test.YthglkgicckodaaaPatchP
import Derived.Test.YthglkgicckodaaaPatchP2
import Derived.Test.YthglkgicckodaaaPatchP3
import Derived.Test.YthglkgicckodaaaPatchP4
import Derived.Test.YthglkgicckodaaaPatchS
import Derived.Test.YthglkgicckodaaaPatchS2
import Derived.Test.YthglkgicckodaaaDrawRow3
import Derived.Test.YthglkgicckodaaaDrawPatch
import Derived.Test.YthglkgicckodaaaDrawPatch2
import Derived.Test.YthglkgicckodaaaPatchMath2
import Derived.Test.YthglkgicckodaaaPatchLk
namespace Go.Proofs.Ythglkgicckodaaa.fnPatchData
open Go.ChangeShapes Go.WideShapes Go.ChangeAt Go.RowKit
open Go.ChangeMaps (open_string shut_string)
set_option linter.unusedVariables false

theorem own : ownKnob Try.prog.godebug = none := by kernel_rfl
theorem laidOut : laidOutB Try.prog = true := by kernel_rfl

/-- WHAT THE WALK IS TOLD OF A SLICE OF INTEGERS THAT CAME IN: it is nil; or it leads to a row of 'cap' cells, the numbers 'zs' (the first 'len' are its elements, the rest its spare room), each fitting its kind. -/
def IsRow (k : IntKind) (w : World) (a : Option Addr) (len cap : Nat) (zs : List Int) : Prop :=
  (a = none ∧ len = 0 ∧ cap = 0 ∧ zs = []) ∨
  ∃ x, a = some x ∧ len ≤ cap ∧ cap ≤ maxLen ∧ zs.length = cap ∧ (∀ i, i < zs.length → w.cell? (x.add i) = some (.int k (zs.getD i 0))) ∧ ∀ n ∈ zs, (Lit.int k n).wf = true

open Rg
theorem psl_from {w : World} {a : Option Addr} {n cap : Nat} {L : List Pat} (h : PSl w (.slice a n cap) L) (k : Nat) (hk : k ≤ n) : PSl w (.slice (if cap = k then a else a.map (·.add (k * 2))) (n - k) (cap - k)) (L.drop k) := by
  obtain ⟨a', c, e, h1, h2, hr⟩ := h
  injection e with e1 e2 e3
  subst e1 e2 e3
  refine ⟨if cap = k then a else a.map (·.add (k * 2)), cap - k, by rw [List.length_drop], by rw [List.length_drop]; omega, by omega, ?_⟩
  have hd : ∀ i, (pflat (L.drop k)).getD i 0 = (pflat L).getD (k * 2 + i) 0 := fun i => by
    have e : pflat L = pflat (L.take k) ++ pflat (L.drop k) := by rw [← pflat_app, List.take_append_drop]
    rw [e, List.getD_eq_getElem?_getD, List.getD_eq_getElem?_getD, List.getElem?_append_right (by rw [pflat_len, List.length_take]; omega), pflat_len, List.length_take]
    congr 2
    omega
  by_cases hkn : k = L.length
  · left; subst hkn; simp [pflat]
  · have hl := pflat_len L
    rcases hr with h0 | ⟨b, o, rfl, hr⟩
    · rw [h0] at hl; simp at hl; omega
    · rw [if_neg (by omega)]
      refine .inr ⟨b, o + k * 2, by simp [Addr.add], fun i hi => ?_⟩
      rw [pflat_len, List.length_drop] at hi
      rw [hd i, show o + k * 2 + i = o + (k * 2 + i) by omega]
      exact hr (k * 2 + i) (by omega)
theorem psl_upto {w : World} {a : Option Addr} {n cap : Nat} {L : List Pat} (h : PSl w (.slice a n cap) L) (k : Nat) (hk : k ≤ n) : PSl w (.slice (if cap = 0 then a else a.map (·.add (0 * 2))) (k - 0) (cap - 0)) (L.take k) := by
  obtain ⟨a', c, e, h1, h2, hr⟩ := h
  injection e with e1 e2 e3
  subst e1 e2 e3
  refine ⟨if cap = 0 then a else a.map (·.add (0 * 2)), cap - 0, by rw [List.length_take, Nat.min_eq_left hk]; rfl, by rw [List.length_take]; omega, by omega, ?_⟩
  have hd : ∀ i, i < k * 2 → (pflat (L.take k)).getD i 0 = (pflat L).getD i 0 := fun i hi => by
    have e : pflat L = pflat (L.take k) ++ pflat (L.drop k) := by rw [← pflat_app, List.take_append_drop]
    rw [e, List.getD_eq_getElem?_getD, List.getD_eq_getElem?_getD, List.getElem?_append_left (by rw [pflat_len, List.length_take]; omega)]
  by_cases hk0 : k = 0
  · left; subst hk0; simp [pflat]
  · have hl := pflat_len L
    rcases hr with h0 | ⟨b, o, rfl, hr⟩
    · rw [h0] at hl; simp at hl; omega
    · rw [if_neg (by omega)]
      refine .inr ⟨b, o, by simp [Addr.add], fun i hi => ?_⟩
      rw [pflat_len, List.length_take] at hi
      rw [hd i (by omega)]
      exact hr i (by omega)
theorem run_from (w : World) (a : Option Addr) (n cap k : Nat) (hk : k ≤ n) : (Instr.sliceAt 26 (.slice a n cap) (some (.int .i64 k)) none none).run Try.prog w = .ok (.slice (if cap = k then a else a.map (·.add (k * 2))) (n - k) (cap - k)) w := by
  unfold Instr.sliceAt Instr.slice Instr.sliceBounds Instr.sliceBound
  have h0 : (0 : Int) ≤ k := by omega
  simp [go_sem, h0, hk]
theorem run_upto (w : World) (a : Option Addr) (n cap k : Nat) (hk : k ≤ cap) : (Instr.sliceAt 26 (.slice a n cap) none (some (.int .i64 k)) none).run Try.prog w = .ok (.slice (if cap = 0 then a else a.map (·.add (0 * 2))) (k - 0) (cap - 0)) w := by
  unfold Instr.sliceAt Instr.slice Instr.sliceBounds Instr.sliceBound
  have h0 : (0 : Int) ≤ k := by omega
  simp [go_sem, h0, hk]
theorem exec_slice {w : World} {ρ : Operand → Value} {o : Oper} {t : TypeId} {x : Operand} {lo hi : Option Operand} {v y : Value} {l h : Option Value} (ho : o.op = .slice t x lo hi none) (hx : ρ x = y) (hl : lo.map ρ = l) (hh : hi.map ρ = h) (hr : (Instr.sliceAt t y l h none).run Try.prog w = .ok v w) : (execOp ρ o).run Try.prog w = .ok (.value v) w := by
  unfold execOp
  simp only [ho, hx, hl, hh, Option.map_none]
  rw [Sem.run_bind, hr]
  rfl
theorem rev_take {L : List Pat} {j : Nat} (h : j < L.length) : L.reverse.take (L.length - 1 - j + 1) = L.reverse.take (L.length - 1 - j) ++ [L.getD j pat0] := by
  rw [List.take_succ_eq_append_getElem (by simp; omega), List.getElem_reverse]
  congr 2
  rw [List.getD_eq_getElem?_getD, List.getElem?_eq_getElem h]
  show L[_] = L[_]
  congr 1
  omega

set_option maxHeartbeats 8000000 in
set_option maxRecDepth 20000 in
theorem walk (a0 : Option Addr) (len0 cap0 : Nat) (z0 : List Int) (a1 : Option Addr) (len1 cap1 : Nat) (z1 : List Int) (w : World) (w0 : IsRow .u8 w a0 len0 cap0 z0) (w1 : IsRow .u8 w a1 len1 cap1 z1) :
    Calls Try.prog 4 #[.slice a0 len0 cap0, .slice a1 len1 cap1] w fun e w' => e = .returned (.bool true) ∧ Below w.heap.size w w' := by
  have hc : Code w a0 len0 cap0 := code_of w0
  have hm0 : cap0 ≤ maxLen := hc.2.1
  have hl0 : len0 ≤ cap0 := hc.1
  unfold maxLen at hm0
  have C := Lib.hid hc
  clear hc w0
  have hc1 : Code w a1 len1 cap1 := code_of w1
  have hm1 : cap1 ≤ maxLen := hc1.2.1
  have hl1 : len1 ≤ cap1 := hc1.1
  unfold maxLen at hm1
  clear hc1 w1
  by_cases hbig0 : (len0 : Int) > 1048576
  · go_enter Try.func4, Try.ntmps4
    go_wp2_with fail
    go_ret
    exact ⟨rfl, Below.refl _ _⟩
  by_cases hbig1 : (len1 : Int) > 1048576
  · go_enter Try.func4, Try.ntmps4
    go_wp2_with fail
    go_ret
    exact ⟨rfl, Below.refl _ _⟩
  obtain ⟨i0, hi, hz0, hz1, hz2⟩ := info_parts infoPatch
  have I1 := Lib.hid hi
  have I2 := Lib.hid hz0
  have I3 := Lib.hid hz1
  have I4 := Lib.hid hz2
  clear hi hz0 hz1 hz2
  go_enter Try.func4, Try.ntmps4
  go_wp2_with fail
  refine (drawPatchData a0 len0 cap0 _ C.out).mono ?_
  rintro e w1 ⟨u, v, d, L, rfl, d4, l4, hg, hu, hv⟩
  have G1 := Lib.hid hg
  have A1 := Lib.hid hu
  have B1 := Lib.hid hv
  clear hg C hu hv d4
  obtain ⟨q, hq⟩ : ∃ q, patD d L = q := ⟨_, rfl⟩
  have SP := Lib.hid (fun (W : World) (h : Sl W u d) (k : PSl W v L) => hq ▸ specPatchData u v d L W h k)
  have IP := Lib.hid (fun (W : World) (h : Sl W u d) (k : PSl W v L) => hq ▸ implPatchData u v d L W h k)
  have QQ := Lib.hid hq
  clear hq
  go_wp2_with fail
  refine (IP.out _ A1.out B1.out).mono ?_
  rintro e w2 ⟨v2, rfl, hg, ho⟩
  have G2 := Lib.hid (grown_trans G1.out hg)
  have A2 := Lib.hid (A1.out.grown hg)
  have B2 := Lib.hid (B1.out.grown hg)
  have Q2 := Lib.hid ho.sl
  clear hg ho A1 B1 G1
  go_wp2_with fail
  refine (SP.out _ A2.out B2.out).mono ?_
  rintro e w3 ⟨v3, rfl, hg, ho⟩
  have G3 := Lib.hid (grown_trans G2.out hg)
  have A3 := Lib.hid (A2.out.grown hg)
  have B3 := Lib.hid (B2.out.grown hg)
  have Q3 := Lib.hid (Q2.out.grown hg)
  have R3 := Lib.hid ho.sl
  clear hg ho A2 B2 G2 Q2
  go_wp2_with fail
  refine (lkSame _ _ q _ Q3.out R3.out).mono ?_
  rintro e w4 ⟨rfl, hg⟩
  have G4 := Lib.hid (grown_trans G3.out hg)
  have A4 := Lib.hid (A3.out.grown hg)
  have B4 := Lib.hid (B3.out.grown hg)
  have Q4 := Lib.hid (Q3.out.grown hg)
  clear hg A3 B3 Q3 R3 G3
  obtain ⟨aq, cq, rfl, hq1, hq2, hrq⟩ := Q4.out
  unfold maxLen at hq2
  clear hrq
  by_cases h0 : q = []
  · subst h0
    go_wp2_with fail
    refine (SP.out _ A4.out B4.out).mono ?_
    rintro e w5 ⟨v5, rfl, hg, ho⟩
    have G5 := Lib.hid (grown_trans G4.out hg)
    have Q5 := Lib.hid (Q4.out.grown hg)
    have R5 := Lib.hid ho.sl
    clear hg ho
    go_wp2_with fail
    refine (lkSame _ _ [] _ Q5.out R5.out).mono ?_
    rintro e w6 ⟨rfl, hg⟩
    have G6 := Lib.hid (grown_trans G5.out hg)
    clear hg
    go_wp2_with fail
    go_ret
    exact ⟨rfl, below_grown G6.out⟩
  have OKS := patD_some (d := d) (L := L) (by rw [QQ.out]; exact h0)
  have OD := Lib.hid OKS.1
  have OL := Lib.hid OKS.2
  clear OKS
  have hql : 0 < q.length := by cases q with | nil => exact absurd rfl h0 | cons _ _ => simp
  clear h0
  generalize hqn : q.length = nq at *
  have hq0 : ((nq : Int) == 0) = false := by rw [beq_eq_false_iff_ne]; omega
  obtain ⟨aL, cL, rfl, hb1, hb2, hrL⟩ := B4.out
  have RL : Hid (Rds w4 aL (pflat L)) := Lib.hid hrL
  unfold maxLen at hb2
  clear hrL
  obtain ⟨n, hn⟩ : ∃ n, L.length = n := ⟨_, rfl⟩
  rw [hn] at hb1 B4 l4 SP IP ⊢
  have N := Lib.hid hn
  have PB : Hid (PSl w4 (.slice aL n cL) L) := Lib.hid B4.out
  clear hn B4
  have O0 : Hid (POwn (w4.alloc (.cells #[] 32)) w4.heap.size (.slice (some ⟨w4.heap.size, 0, none⟩) 0 0) []) := Lib.hid (POwn.made _ _ (Nat.le_refl _))
  have G5 := Lib.hid (World.grownBy_alloc w4 (.cells #[] 32) none)
  go_wp2_with fail
  go_loopw [8, 9] (fun b i wr => ∃ z : Int, -1 ≤ z ∧ z < n ∧ i = .int .i64 z ∧ w4.grownBy wr none ∧ POwn wr w4.heap.size b (L.reverse.take (n - 1 - z).toNat)) (fun _ i _ => (intOf i + 1).toNat)
  case atStart => exact ⟨(n : Int) - 1, by omega, by omega, by go_num, G5.out, by rw [show ((n : Int) - 1 - ((n : Int) - 1)).toNat = 0 by omega]; exact O0.out⟩
  case round =>
    obtain ⟨z, hz0, hz1, rfl, hg, ho⟩ := hrel
    have G := Lib.hid hg
    have O := Lib.hid ho
    clear hg ho
    by_cases hz : 0 ≤ z
    · obtain ⟨j, rfl⟩ : ∃ j : Nat, z = j := ⟨z.toNat, by omega⟩
      have hj : j < n := by omega
      have ET := Lib.hid (show L.reverse.take ((n : Int) - 1 - ((j : Int) - 1)).toNat = L.reverse.take ((n : Int) - 1 - (j : Int)).toNat ++ [L.getD j pat0] by have := rev_take (L := L) (j := j) (by rw [N.out]; exact hj); rw [N.out] at this; rw [show ((n : Int) - 1 - ((j : Int) - 1)).toNat = n - 1 - j + 1 by omega, show ((n : Int) - 1 - (j : Int)).toNat = n - 1 - j by omega]; exact this)
      have EL := Lib.hid (show (L.reverse.take ((n : Int) - 1 - (j : Int)).toNat).length ≤ 4 by rw [List.length_take, List.length_reverse, N.out]; omega)
      obtain ⟨b, o, rfl, c0, c1⟩ := pcells (RL.out.grown G.out) (k := j) (by rw [N.out]; exact hj)
      generalize L.getD j pat0 = s at *
      obtain ⟨p, x⟩ := s
      dsimp only at c0 c1
      generalize L.reverse.take ((n : Int) - 1 - (j : Int)).toNat = T at *
      have GA := World.grownBy_alloc wr (.cells #[.int .i64 p, .int .i64 x] 32) none
      have O1 := Lib.hid (O.out.still GA)
      have G6 := Lib.hid (grown_trans G.out GA)
      have W3 := Lib.hid (show w4.heap.size ≤ (wr.alloc (.cells #[.int .i64 p, .int .i64 x] 32)).heap.size by have := G.out.size; simp; omega)
      have hjc : j < n := hj
      clear GA
      go_wp2_with (first
        | fail
        | (at_builtin; refine wpList_append_own _ rfl _ _ 26 rfl w4.heap.size 32 i0 (.agg #[.int .i64 0, .int .i64 0]) 2 16 Try.underlying26 I1.out I2.out I3.out I4.out rfl (by decide) _ _ _ rfl O1.out ⟨wr.heap.size, 0, none⟩ 1 1 [.int .i64 p, .int .i64 x] rfl rfl pat_cells (vals_one [p, x]) ?c3 ?c4 ?c5 ?_))
      case c3 => have := EL.out; unfold maxLen; omega
      case c4 => have := EL.out; omega
      case c5 => exact W3.out
      intro nv w7 hown hg7 _
      have G7 := Lib.hid (grown_own G6.out hg7 (fun k hk => (O1.out.lt k hk).1))
      have O7 := Lib.hid (pown_snoc hown rfl)
      clear hown hg7 O1 O G6 W3
      go_wp2_with fail
      go_roundw
      case rel => exact ⟨(j : Int) - 1, by omega, by omega, by go_num, G7.out, by rw [ET.out]; exact O7.out⟩
      case measure => first | (simp [intOf]; done) | (simp [intOf]; omega)
    · obtain rfl : z = -1 := by omega
      have O9 : Hid (POwn wr w4.heap.size u8 L.reverse) := Lib.hid (by have h := O.out; rw [List.take_of_length_le (by rw [List.length_reverse, N.out]; omega)] at h; exact h)
      clear O hz hz0 hz1
      have k0 : 0 ≤ (len1 : Int) % ((n : Int) + 1) := Int.emod_nonneg _ (by omega)
      have k1 : (len1 : Int) % ((n : Int) + 1) < (n : Int) + 1 := Int.emod_lt_of_pos _ (by omega)
      obtain ⟨k, hk⟩ : ∃ k : Nat, (len1 : Int) % ((n : Int) + 1) = k := ⟨((len1 : Int) % ((n : Int) + 1)).toNat, by omega⟩
      rw [hk] at k0 k1
      have hkn : k ≤ n := by omega
      go_wp2_with fail
      rw [hk]
      clear hk
      have GD := Lib.hid (grown_drew G.out)
      have A9 := Lib.hid (A4.out.grown GD.out)
      have Q9 : Hid (Sl wr.drew (.slice aq nq cq) q) := Lib.hid (by rw [← hqn] at Q4 ⊢; exact Q4.out.grown GD.out)
      have B9 := Lib.hid (PB.out.grown GD.out)
      have R9 := Lib.hid (O9.out.still (grown_drew (World.grownBy.refl wr none))).sl
      have GW := Lib.hid (grown_trans G4.out GD.out)
      clear G GD O9 A4 PB G4
      have E1 := Lib.hid (show patD d L.reverse = q by rw [patD_rev OD.out OL.out]; exact QQ.out)
      have E2 := Lib.hid (show patD (patD d (L.take k)) (L.drop k) = q by rw [patD_two OD.out OL.out]; exact QQ.out)
      refine wp_region_held (S := fun _ => True) (by kernel_rfl) ?_
      change wpAnyH _ _ _ _ _ _ _ _ wr.drew
      generalize wr.drew = x0 at *
      refine Rg.take_ 0 (some 64) (u) rfl rfl (by kernel_rfl) (by kernel_rfl) (by kernel_rfl) (fun _ _ _ h => h) (.inl ⟨by rfl, fun W' hS => (by go_simp)⟩) trivial ?_
      simp only [Act.put, List.setIfInBounds_toArray, List.set_cons_zero, List.set_cons_succ]
      refine Rg.take_ 1 (some 65) (u8) rfl rfl (by kernel_rfl) (by kernel_rfl) (by kernel_rfl) (fun _ _ _ h => h) (.inl ⟨by rfl, fun W' hS => (by go_simp)⟩) trivial ?_
      simp only [Act.put, List.setIfInBounds_toArray, List.set_cons_zero, List.set_cons_succ]
      refine Rg.take_ 3 (some 67) (.slice aq nq cq) rfl rfl (by kernel_rfl) (by kernel_rfl) (by kernel_rfl) (fun _ _ _ h => h) (.inl ⟨by rfl, fun W' hS => (by go_simp)⟩) trivial ?_
      simp only [Act.put, List.setIfInBounds_toArray, List.set_cons_zero, List.set_cons_succ]
      refine Rg.ready_one (i := 2) (by kernel_rfl) rfl rfl ?_
      refine Rg.call_at (some 66) (f := 17) (args := #[u, u8]) rfl (by go_simp) ((implPatchData _ _ d L.reverse _ A9.out R9.out).mono ?_)
      rintro e x1 ⟨y1, rfl, hg, ho⟩
      rw [E1.out] at ho
      have S1 := Lib.hid ho.sl
      have GX := Lib.hid (grown_trans GW.out hg)
      have A10 := Lib.hid (A9.out.grown hg)
      have Q10 := Lib.hid (Q9.out.grown hg)
      have B10 := Lib.hid (B9.out.grown hg)
      clear hg ho A9 Q9 B9 R9 GW
      refine ⟨y1, rfl, trivial, ?_⟩
      simp only [Act.put, List.setIfInBounds_toArray, List.set_cons_zero, List.set_cons_succ]
      refine Rg.ready_one (i := 4) (by kernel_rfl) rfl rfl ?_
      refine Rg.call_at (some 68) (f := 16) (args := #[y1, .slice aq nq cq]) rfl (by go_simp) ((lkSame _ _ q _ S1.out Q10.out).mono ?_)
      rintro e x2 ⟨rfl, hg⟩
      have GY := Lib.hid (grown_trans GX.out hg)
      have A11 := Lib.hid (A10.out.grown hg)
      have Q11 := Lib.hid (Q10.out.grown hg)
      have B11 := Lib.hid (B10.out.grown hg)
      clear hg S1 A10 Q10 B10 GX
      refine ⟨.bool true, rfl, trivial, ?_⟩
      simp only [Act.put, List.setIfInBounds_toArray, List.set_cons_zero, List.set_cons_succ]
      refine Rg.take_ 5 (some 69) (.bool true) rfl rfl (by kernel_rfl) (by kernel_rfl) (by kernel_rfl) (fun _ _ _ h => h) (.inl ⟨by rfl, fun W' hS => (by go_simp)⟩) trivial ?_
      simp only [Act.put, List.setIfInBounds_toArray, List.set_cons_zero, List.set_cons_succ]
      refine Rg.take_ 6 (some 70) (u) rfl rfl (by kernel_rfl) (by kernel_rfl) (by kernel_rfl) (fun _ _ _ h => h) (.inl ⟨by rfl, fun W' hS => (by go_simp)⟩) trivial ?_
      simp only [Act.put, List.setIfInBounds_toArray, List.set_cons_zero, List.set_cons_succ]
      refine Rg.take_ 7 (some 71) (.slice aL n cL) rfl rfl (by kernel_rfl) (by kernel_rfl) (by kernel_rfl) (fun _ _ _ h => h) (.inl ⟨by rfl, fun W' hS => (by go_simp)⟩) trivial ?_
      simp only [Act.put, List.setIfInBounds_toArray, List.set_cons_zero, List.set_cons_succ]
      refine Rg.take_ 8 (some 72) (.int .i64 k) rfl rfl (by kernel_rfl) (by kernel_rfl) (by kernel_rfl) (fun _ _ _ h => h) (.inl ⟨by rfl, fun W' hS => (by go_simp)⟩) trivial ?_
      simp only [Act.put, List.setIfInBounds_toArray, List.set_cons_zero, List.set_cons_succ]
      have RU := fun W : World => run_upto W aL n cL k (by omega)
      have RF := fun W : World => run_from W aL n cL k (by omega)
      have PU := fun (W : World) (h : PSl W (.slice aL n cL) L) => psl_upto h k hkn
      have PF := fun (W : World) (h : PSl W (.slice aL n cL) L) => psl_from h k hkn
      generalize Value.slice (if cL = 0 then aL else aL.map (·.add (0 * 2))) (k - 0) (cL - 0) = s1 at RU PU
      generalize Value.slice (if cL = k then aL else aL.map (·.add (k * 2))) (n - k) (cL - k) = s2 at RF PF
      refine Rg.take_ 9 (some 73) (s1) rfl rfl (by kernel_rfl) (by kernel_rfl) (by kernel_rfl) (fun _ _ _ h => h) (.inl ⟨by rfl, fun W' hS => exec_slice rfl rfl rfl rfl (RU W')⟩) trivial ?_
      simp only [Act.put, List.setIfInBounds_toArray, List.set_cons_zero, List.set_cons_succ]
      refine Rg.take_ 11 (some 75) (.slice aL n cL) rfl rfl (by kernel_rfl) (by kernel_rfl) (by kernel_rfl) (fun _ _ _ h => h) (.inl ⟨by rfl, fun W' hS => (by go_simp)⟩) trivial ?_
      simp only [Act.put, List.setIfInBounds_toArray, List.set_cons_zero, List.set_cons_succ]
      refine Rg.take_ 12 (some 76) (.int .i64 k) rfl rfl (by kernel_rfl) (by kernel_rfl) (by kernel_rfl) (fun _ _ _ h => h) (.inl ⟨by rfl, fun W' hS => (by go_simp)⟩) trivial ?_
      simp only [Act.put, List.setIfInBounds_toArray, List.set_cons_zero, List.set_cons_succ]
      refine Rg.take_ 13 (some 77) (s2) rfl rfl (by kernel_rfl) (by kernel_rfl) (by kernel_rfl) (fun _ _ _ h => h) (.inl ⟨by rfl, fun W' hS => exec_slice rfl rfl rfl rfl (RF W')⟩) trivial ?_
      simp only [Act.put, List.setIfInBounds_toArray, List.set_cons_zero, List.set_cons_succ]
      refine Rg.take_ 15 (some 79) (.slice aq nq cq) rfl rfl (by kernel_rfl) (by kernel_rfl) (by kernel_rfl) (fun _ _ _ h => h) (.inl ⟨by rfl, fun W' hS => (by go_simp)⟩) trivial ?_
      simp only [Act.put, List.setIfInBounds_toArray, List.set_cons_zero, List.set_cons_succ]
      refine Rg.ready_one (i := 10) (by kernel_rfl) rfl rfl ?_
      refine Rg.call_at (some 74) (f := 17) (args := #[u, s1]) rfl (by go_simp) ((implPatchData _ _ d (L.take k) _ A11.out (PU _ B11.out)).mono ?_)
      rintro e x3 ⟨y3, rfl, hg, ho⟩
      have S3 := Lib.hid ho.sl
      have GZ := Lib.hid (grown_trans GY.out hg)
      have Q12 := Lib.hid (Q11.out.grown hg)
      have B12 := Lib.hid (B11.out.grown hg)
      clear hg ho A11 Q11 B11 GY
      refine ⟨y3, rfl, trivial, ?_⟩
      simp only [Act.put, List.setIfInBounds_toArray, List.set_cons_zero, List.set_cons_succ]
      refine Rg.ready_one (i := 14) (by kernel_rfl) rfl rfl ?_
      refine Rg.call_at (some 78) (f := 17) (args := #[y3, s2]) rfl (by go_simp) ((implPatchData _ _ (patD d (L.take k)) (L.drop k) _ S3.out (PF _ B12.out)).mono ?_)
      rintro e x4 ⟨y4, rfl, hg, ho⟩
      rw [E2.out] at ho
      have S4 := Lib.hid ho.sl
      have GU := Lib.hid (grown_trans GZ.out hg)
      have Q13 := Lib.hid (Q12.out.grown hg)
      clear hg ho S3 Q12 B12 GZ
      refine ⟨y4, rfl, trivial, ?_⟩
      simp only [Act.put, List.setIfInBounds_toArray, List.set_cons_zero, List.set_cons_succ]
      refine Rg.ready_one (i := 16) (by kernel_rfl) rfl rfl ?_
      refine Rg.call_at (some 80) (f := 16) (args := #[y4, .slice aq nq cq]) rfl (by go_simp) ((lkSame _ _ q _ S4.out Q13.out).mono ?_)
      rintro e x5 ⟨rfl, hg⟩
      have GV := Lib.hid (grown_trans GU.out hg)
      clear hg
      refine ⟨.bool true, rfl, trivial, ?_⟩
      simp only [Act.put, List.setIfInBounds_toArray, List.set_cons_zero, List.set_cons_succ]
      refine Rg.take_ 17 (some 81) (.bool true) rfl rfl (by kernel_rfl) (by kernel_rfl) (by kernel_rfl) (fun _ _ _ h => h) (.inl ⟨by rfl, fun W' hS => (by go_simp)⟩) trivial ?_
      simp only [Act.put, List.setIfInBounds_toArray, List.set_cons_zero, List.set_cons_succ]
      refine Rg.take_ 18 (some 4) (.bool true) rfl rfl (by kernel_rfl) (by kernel_rfl) (by kernel_rfl) (fun _ _ _ h => h) (.inl ⟨by rfl, fun W' hS => (by go_simp)⟩) trivial ?_
      simp only [Act.put, List.setIfInBounds_toArray, List.set_cons_zero, List.set_cons_succ]
      refine wpAnyH_done (by kernel_rfl) ?_ _
      go_wp2_with fail
      go_ret
      exact ⟨rfl, below_grown GV.out⟩

set_option maxRecDepth 100000 in
theorem lifted (os : Os) (started : os.Started) (H : Type) (enc : TypeId × Value → H) :
    ReturnsInHanded {} Try.checked os 4 .any (Rows.fnPatchDataSpec.pre6 enc Try.prog Try.f4 Rows.fnPatchDataRow.domain false) (Rows.fnPatchDataSpec.post enc Try.prog Try.f4 false true false false) := by
  refine returnsInHanded_of_change (C := Try.checked) own started (by kernel_rfl) Try.func4
    (ChangeSpec.witness6 (enc := enc) (C := Try.checked) false ⟨#[], #[.slice none 0 0, .slice none 0 0], []⟩ 8 (by kernel_rfl) (by kernel_rfl) (by kernel_rfl) (by kernel_rfl)) ?_
  intro W base args ds gs before hval0 hW hcnd _
  have hval : ∀ (j : Nat) t v, Try.f4.params[j]? = some t → args[j]? = some v → Value.okWide Try.prog W .any base t v := hval0
  have hW' := hW
  obtain ⟨p, q, hA0, hV, rfl, hfz, hnd⟩ := hW
  have hA : DataW.TrodAll enc Try.prog W 0 (fun _ => true) true Try.f4.params.toList args.toList ds p := hA0
  rw [Try.params4] at hA hval
  obtain ⟨v0, vs0, d0, ds0, p0, q0, hargs, rfl, rfl, h0, r0⟩ := trodAll_cons hA
  obtain ⟨v1, vs1, d1, ds1, p1, q1, rfl, rfl, rfl, h1, r1⟩ := trodAll_cons r0
  obtain ⟨rfl, rfl, rfl⟩ := trodAll_nil r1
  obtain rfl : args = #[v0, v1] := by cases args; simp_all
  obtain ⟨rfl, rfl⟩ := trodVars_none hV
  obtain ⟨a0, len0, cap0, rfl⟩ := okWide_slice Try.underlying22 (hval 0 22 v0 rfl rfl)
  have k0 := h0
  have lt0 : ∀ x ∈ p0, x.block < W.heap.size := by obtain ⟨m, hm⟩ := k0; exact DataW.trod_lt m _ _ _ hm
  obtain ⟨z0, w0⟩ : ∃ zs, IsRow .u8 W a0 len0 cap0 zs := by
    obtain ⟨fuel, hf⟩ := h0
    rcases open_ints Try.underlying22 Try.underlying5 (by kernel_rfl) hf with ⟨hcs, _⟩ | ⟨x, l, c, zs, hcs, _, hl, hm, hz, _, hcell, hwz⟩
    · simp [Value.cells] at hcs
      obtain ⟨rfl, rfl, rfl⟩ := hcs
      exact ⟨[], .inl ⟨rfl, rfl, rfl, rfl⟩⟩
    · simp [Value.cells] at hcs
      obtain ⟨rfl, rfl, rfl⟩ := hcs
      exact ⟨zs, .inr ⟨_, rfl, hl, hm, by simpa using hz, hcell, hwz⟩⟩
  obtain ⟨a1, len1, cap1, rfl⟩ := okWide_slice Try.underlying22 (hval 1 22 v1 rfl rfl)
  have k1 := h1
  have lt1 : ∀ x ∈ p1, x.block < W.heap.size := by obtain ⟨m, hm⟩ := k1; exact DataW.trod_lt m _ _ _ hm
  obtain ⟨z1, w1⟩ : ∃ zs, IsRow .u8 W a1 len1 cap1 zs := by
    obtain ⟨fuel, hf⟩ := h1
    rcases open_ints Try.underlying22 Try.underlying5 (by kernel_rfl) hf with ⟨hcs, _⟩ | ⟨x, l, c, zs, hcs, _, hl, hm, hz, _, hcell, hwz⟩
    · simp [Value.cells] at hcs
      obtain ⟨rfl, rfl, rfl⟩ := hcs
      exact ⟨[], .inl ⟨rfl, rfl, rfl, rfl⟩⟩
    · simp [Value.cells] at hcs
      obtain ⟨rfl, rfl, rfl⟩ := hcs
      exact ⟨zs, .inr ⟨_, rfl, hl, hm, by simpa using hz, hcell, hwz⟩⟩
  clear hA0 hval0
  refine (walk a0 len0 cap0 z0 a1 len1 cap1 z1 W w0 w1).mono fun e W' ⟨he, bel⟩ => ?_
  subst he
  exact ⟨_, rfl, _, _, _, [], _, [], hW', trodAll_mk1 (shut_bool Try.underlying4 _), (trodAll_cons_mk (Below.trod laidOut (by kernel_rfl) (of_decide_eq_true (by kernel_rfl)) k0 bel lt0) (trodAll_cons_mk (Below.trod laidOut (by kernel_rfl) (of_decide_eq_true (by kernel_rfl)) k1 bel lt1) trodAll_mk0)), rfl, bel.frame _, fun h => by cases h⟩

theorem over : Rows.fnPatchDataRow.holds Try.pinned (OpenSpec.ofChange Rows.fnPatchDataSpec) :=
  OpenClaim.holds_of_wide 4 Try.f4 rfl rfl rfl rfl rfl rfl rfl ⟨rfl, rfl, rfl, rfl, rfl⟩ rfl rfl rfl rfl rfl (by kernel_rfl) Try.func4 (by kernel_rfl)
    (of_decide_eq_true (by kernel_rfl)) (by unfold Func.isWrapper; first | (rw [if_pos (by decide +kernel)]; kernel_rfl) | (rw [if_neg (by decide +kernel)]; exact ⟨rfl, rfl⟩))
    (fun os started H enc _ => lifted os started H enc)

theorem proved : Rows.FnPatchDataSaid := over
#print axioms proved
end Go.Proofs.Ythglkgicckodaaa.fnPatchData
