/-
  The contract of the program's way from shards to numbers: the elimination's 'data'.
  Conditions: none.
-/
import Derived.Test.YtoflijiinkmjoaaReadMath
import Derived.Test.YtoflijiinkmjoaaG4
namespace Go.Proofs.Ytoflijiinkmjoaa
open Go.RowKit
set_option linter.unusedVariables false

/-- numbers of which shards are. -/
def DataOf (k : Nat) (f : List Bool) (a : List Int) (w : World) (e : Ending) (w' : World) : Prop := ∃ l, e = .returned (.agg (vals l).toArray) ∧ Sp.IsData k f a l ∧ w.grownBy w' none
theorem un4_list {n : Nat} (hn : n < 4) : ∃ x y z t, Sp.un4 n = [x, y, z, t] := by
  rcases (by omega : n = 0 ∨ n = 1 ∨ n = 2 ∨ n = 3) with rfl | rfl | rfl | rfl
  · exact ⟨1, 0, 0, 0, rfl⟩
  · exact ⟨0, 1, 0, 0, rfl⟩
  · exact ⟨0, 0, 1, 0, rfl⟩
  · exact ⟨0, 0, 0, 1, rfl⟩
theorem list_four {α : Type} {l : List α} (h : l.length = 4) : ∃ a b c d, l = [a, b, c, d] := by
  match l, h with
  | [a, b, c, d], _ => exact ⟨a, b, c, d, rfl⟩
theorem row_set {n : Nat} {l : List Int} (h : Sp.Row n l) (i : Nat) {x : Int} (hx : Fld.ok x = true) : Sp.Row n (l.set i x) :=
  ⟨by rw [List.length_set]; exact h.1, fun y hy => by
    rcases List.mem_or_eq_of_mem_set hy with h' | rfl
    · exact h.2 y h'
    · exact hx⟩
theorem getD_set_ne {l : List Int} {i j : Nat} {x : Int} (h : i ≠ j) : (l.set i x).getD j 0 = l.getD j 0 := by
  simp only [List.getD_eq_getElem?_getD, List.getElem?_set_ne h]
theorem getD_set_self {l : List Int} {i : Nat} {x : Int} (h : i < l.length) : (l.set i x).getD i 0 = x := by
  simp [List.getD_eq_getElem?_getD, h]

set_option maxHeartbeats 8000000 in
set_option maxRecDepth 20000 in
theorem echData {k : Nat} (hk : k = 1 ∨ k = 2) (f : List Bool) (hb : Sp.bears k f = true) (a : List Int) (ra : Sp.Row 8 a) (base g : Nat) (q : Nat → Option Addr) (S : Sp.Cols) (pv : Value) (pn : List Nat) (w : World) (hE : Ech w base g q S pv (pn.map fun (i : Nat) => (i : Int))) (hS : Sp.Stand (Sp.padd k f) 8 S pn) :
    Calls Try.prog 45 #[.pointer (some ⟨g, 0, none⟩), .agg (vals a).toArray] w (DataOf k f a w) := by
  have z8 : (vals a).toArray.size = 8 := by simp [vals_length, ra.1]
  have hj : (Try.prog.info? 62).map (·.size) = some (vals a).toArray.size := by rw [z8]; kernel_rfl
  have HJ := Lib.hid hj
  have BY := Lib.hid (fun (v : List Int) (hv : Sp.Row 4 v) => hS.by (Sp.padd_row hk f) (by rw [Sp.padd_len]; exact Nat.le_refl _) hv)
  have HAS := Lib.hid (fun (v : List Int) (hv : Sp.Row 4 v) => Sp.padd_has4 hk hb hv)
  have RS := Lib.hid hS.row
  have RA := Lib.hid ra
  have HK := Lib.hid hk
  obtain ⟨W0, hW0⟩ : ∃ W, W = ((w.alloc (.cells (vals a).toArray 62)).alloc (.cells #[.int .i64 0, .int .i64 0, .int .i64 0, .int .i64 0] 58)).alloc (.cells #[.int .i64 0, .int .i64 0, .int .i64 0, .int .i64 0] 58) := ⟨_, rfl⟩
  have G0 : Hid (w.grownBy W0 none) := Lib.hid (by rw [hW0]; exact grown_alloc (grown_alloc (grown_alloc (World.grownBy.refl _ _) _) _) _)
  have A0 : Hid (Arr W0 w.heap.size 62 a) := Lib.hid (by rw [hW0]; exact ((Arr.new w _ _).alloc _).alloc _)
  have C0 : Hid (Arr W0 (w.heap.size + 1) 58 [0, 0, 0, 0]) := Lib.hid (by
    rw [hW0]
    have := (Arr.new (w.alloc (.cells (vals a).toArray 62)) 58 [0, 0, 0, 0]).alloc (.cells #[.int .i64 0, .int .i64 0, .int .i64 0, .int .i64 0] 58)
    rw [World.size_alloc] at this
    exact this)
  have V0 : Hid (Arr W0 (w.heap.size + 2) 58 [0, 0, 0, 0]) := Lib.hid (by
    rw [hW0]
    have := Arr.new ((w.alloc (.cells (vals a).toArray 62)).alloc (.cells #[.int .i64 0, .int .i64 0, .int .i64 0, .int .i64 0] 58)) 58 [0, 0, 0, 0]
    rw [World.size_alloc, World.size_alloc] at this
    exact this)
  have EE := Lib.hid hE
  clear hE hS z8 hj ra hk hb
  go_enter Try.func45, Try.ntmps45
  go_upto_region 2 with fail
  rw [← hW0]
  clear hW0
  obtain ⟨ga, hga⟩ : ∃ b, b = w.heap.size := ⟨_, rfl⟩
  obtain ⟨gc, hgc⟩ : ∃ b, b = w.heap.size + 1 := ⟨_, rfl⟩
  obtain ⟨gv, hgv⟩ : ∃ b, b = w.heap.size + 1 + 1 := ⟨_, rfl⟩
  rw [← hga] at A0
  rw [← hgc] at C0
  rw [show w.heap.size + 2 = gv from hgv.symm] at V0
  rw [← hgv, ← hgc, ← hga]
  have BG : w.heap.size ≤ gc ∧ w.heap.size ≤ gv ∧ gc ≠ gv ∧ ga ≠ gv ∧ ga ≠ gc := by omega
  clear hga hgc hgv
  go_wp2_with fail
  go_loopw [10] (fun i wr => ∃ n : Nat, n ≤ 4 ∧ i = .int .i64 n ∧ w.grownBy wr none ∧ Arr wr ga 62 a ∧ Arr wr gc 58 [0, 0, 0, 0] ∧ ∃ l, Arr wr gv 58 l ∧ Sp.Row 4 l ∧ ∀ i, i < n → ∃ c, Sp.IsBy (Sp.padd k f) (Sp.un4 i) c ∧ l.getD i 0 = Sp.csum a c 8) (fun i _ => 4 - (intOf i).toNat)
  case atStart => exact ⟨0, by omega, rfl, G0.out, A0.out, C0.out, _, V0.out, Sp.row_none4, fun i hi => by omega⟩
  case round =>
    obtain ⟨n, hn, rfl, hgr, ha, hc, l, hv, hl, hin⟩ := hrel
    have G := Lib.hid hgr
    have A := Lib.hid ha
    have C := Lib.hid hc
    have V := Lib.hid hv
    have RL := Lib.hid hl
    have IN := Lib.hid hin
    clear hgr ha hc hv hl hin G0 A0 C0 V0
    by_cases hlt : n < 4
    · have hlt' : (n : Int) < 4 := by omega
      obtain ⟨x, y, z, t, hu⟩ := un4_list hlt
      obtain ⟨W2, hW2⟩ : ∃ W, W = wr.alloc (.cells ([Value.int .i64 0, .int .i64 0, .int .i64 0, .int .i64 0].set n (.int .i64 1)).toArray 58) := ⟨_, rfl⟩
      have U2 : Hid (Arr W2 wr.heap.size 58 [x, y, z, t]) := Lib.hid (by
        rw [hW2, ← hu]
        have e : [Value.int .i64 0, .int .i64 0, .int .i64 0, .int .i64 0].set n (.int .i64 1) = vals (Sp.un4 n) := vals_set [0, 0, 0, 0] n 1
        rw [e]
        exact Arr.new wr 58 (Sp.un4 n))
      have GS : w.heap.size ≤ wr.heap.size := G.out.size
      have HG : Hid (wr.grownBy W2 none) := Lib.hid (by rw [hW2]; exact World.grownBy_alloc _ _ _)
      have G2 := Lib.hid (grown_trans G.out HG.out)
      have A2 := Lib.hid (A.out.still HG.out)
      have C2 := Lib.hid (C.out.still HG.out)
      have V2 := Lib.hid (V.out.still HG.out)
      have OKU : Hid (Vec.ok [x, y, z, t] = true) := Lib.hid (by rw [← hu]; exact Sp.row_ok.2 (Sp.un4_row n))
      have HU := Lib.hid hu
      have fz := (Arr.new wr 58 [0, 0, 0, 0]).frozen n
      have cz : (wr.alloc (.cells #[.int .i64 0, .int .i64 0, .int .i64 0, .int .i64 0] 58)).cell? ⟨wr.heap.size, n, none⟩ = some (.int .i64 0) := by
        have := (Arr.new wr 58 [0, 0, 0, 0]).cell (i := n) (by simp; omega)
        rcases (by omega : n = 0 ∨ n = 1 ∨ n = 2 ∨ n = 3) with rfl | rfl | rfl | rfl <;> exact this
      clear hu G A C V HG
      go_upto_region 7 with fail
      rw [← hW2]
      clear hW2 fz cz
      generalize wr.heap.size = gu at *
      have u0 : W2.cell? ⟨gu, 0, none⟩ = some (.int .i64 x) := U2.out.cell (by simp)
      have u1 : W2.cell? ⟨gu, 1, none⟩ = some (.int .i64 y) := U2.out.cell (by simp)
      have u2 : W2.cell? ⟨gu, 2, none⟩ = some (.int .i64 z) := U2.out.cell (by simp)
      have u3 : W2.cell? ⟨gu, 3, none⟩ = some (.int .i64 t) := U2.out.cell (by simp)
      have BN := Lib.hid (BY.out (Sp.un4 n) (Sp.un4_row n))
      have NG := Lib.hid (BN.out.2.1.1 (HAS.out (Sp.un4 n) (Sp.un4_row n)))
      have IB := Lib.hid (BN.out.2.2 NG.out)
      have R12 := Lib.hid BN.out.1
      rw [HU.out] at NG IB R12
      obtain ⟨r, hr⟩ : ∃ r, Sp.red S 4 ([x, y, z, t] ++ Sp.none8) = r := ⟨_, rfl⟩
      rw [hr] at NG IB R12
      have HR := Lib.hid hr
      clear hr BN
      go_wp2_with fail
      refine (echBy base g q S pv _ x y z t _ (EE.out.grown G2.out) RS.out OKU.out).mono ?_
      rw [HR.out]
      rintro e w3 ⟨hg, ⟨hneg, rfl⟩ | ⟨hpos, rfl⟩⟩
      · have G3 := Lib.hid (grown_trans G2.out hg)
        have A3 := Lib.hid (A2.out.still hg)
        have C3 := Lib.hid (C2.out.still hg)
        have V3 := Lib.hid (V2.out.still hg)
        have RR := Lib.hid (Sp.row_lmul R12.out 30)
        have hs8 : ((Sp.lmul r 30).drop 4).length = 8 := by rw [List.length_drop, RR.out.1]
        have OS : Hid (∀ x ∈ (Sp.lmul r 30).drop 4, Fld.ok x = true) := Lib.hid (fun x hx => RR.out.2 x (List.mem_of_mem_drop hx))
        have IB' : Hid (Sp.IsBy (Sp.padd k f) (Sp.un4 n) ((Sp.lmul r 30).drop 4)) := Lib.hid (by
          have := IB.out
          rw [Sp.padd_len, List.take_of_length_le (by rw [hs8]; exact Nat.le_refl _)] at this
          rw [HU.out]; exact this)
        obtain ⟨s, hs⟩ : ∃ s, (Sp.lmul r 30).drop 4 = s := ⟨_, rfl⟩
        rw [hs] at IB' hs8 OS ⊢
        clear hg hneg hs HR IB RR G2 A2 C2 V2 u0 u1 u2 u3 U2 NG R12
        have CB := Lib.hid (fun w => combine a s RA.out.1 hs8 RA.out.2 OS.out w)
        have CO := Sp.csum_ok a s 8
        have HCS : Hid (∃ c, Sp.IsBy (Sp.padd k f) (Sp.un4 n) c ∧ Sp.csum a s 8 = Sp.csum a c 8) := Lib.hid ⟨s, IB'.out, rfl⟩
        obtain ⟨cs, hcs⟩ : ∃ cs, Sp.csum a s 8 = cs := ⟨_, rfl⟩
        rw [hcs] at CB CO HCS
        have OKC := Lib.hid CO
        obtain ⟨s0, s1, s2, s3, s4, s5, s6, s7, rfl⟩ := list_eight hs8
        obtain ⟨W4, hW4⟩ : ∃ W, W = w3.alloc (.cells #[.int .i64 s0, .int .i64 s1, .int .i64 s2, .int .i64 s3, .int .i64 s4, .int .i64 s5, .int .i64 s6, .int .i64 s7] 61) := ⟨_, rfl⟩
        have T4 : Hid (Arr W4 w3.heap.size 61 [s0, s1, s2, s3, s4, s5, s6, s7]) := Lib.hid (by rw [hW4]; exact Arr.new w3 61 [s0, s1, s2, s3, s4, s5, s6, s7])
        have G4 : Hid (w.grownBy W4 none) := Lib.hid (by rw [hW4]; exact grown_alloc G3.out _)
        have A4 : Hid (Arr W4 ga 62 a) := Lib.hid (by rw [hW4]; exact A3.out.alloc _)
        have C4 : Hid (Arr W4 gc 58 [0, 0, 0, 0]) := Lib.hid (by rw [hW4]; exact C3.out.alloc _)
        have V4 : Hid (Arr W4 gv 58 l) := Lib.hid (by rw [hW4]; exact V3.out.alloc _)
        have hj3 : (Try.prog.info? 61).map (·.size) = some (vals [s0, s1, s2, s3, s4, s5, s6, s7]).toArray.size := by kernel_rfl
        have HJ3 := Lib.hid hj3
        clear hcs hs8 IB' CO G3 A3 C3 V3 OS hj3
        rw [show (vals [s0, s1, s2, s3, s4, s5, s6, s7]).toArray = #[.int .i64 s0, .int .i64 s1, .int .i64 s2, .int .i64 s3, .int .i64 s4, .int .i64 s5, .int .i64 s6, .int .i64 s7] from rfl]
        go_upto_region 8 with fail
        rw [← hW4]
        clear hW4
        generalize w3.heap.size = gt at *
        apply wp_region_lit
        refine wpList_plain rfl (fun K hK => ?_)
        go_simp
        refine hK _ _ ?_
        clear hK
        refine wpList_load_row rfl _ _ rfl ga rfl _ _ _ _ A4.out Try.underlying62 rfl HJ.out ?_
        refine wpList_load_row rfl _ _ rfl gt rfl _ _ _ _ T4.out Try.underlying61 rfl HJ3.out ?_
        simp only [Act.put, List.setIfInBounds_toArray, List.set_cons_succ, List.set_cons_zero]
        clear HJ3 T4
        go_wp2_with fail
        refine (CB.out _).mono ?_
        rintro e w5 ⟨rfl, hg⟩
        have G5 := Lib.hid (grown_trans G4.out hg)
        have A5 := Lib.hid (A4.out.still hg)
        have C5 := Lib.hid (C4.out.still hg)
        have V5 := Lib.hid (V4.out.still hg)
        have cv : w5.cell? ⟨gv, n, none⟩ = some (.int .i64 (l.getD n 0)) := V5.out.cell (by rw [RL.out.1]; exact hlt)
        have fv := V5.out.frozen n
        have G6 := Lib.hid (grown_set G5.out (p := ⟨gv, n, none⟩) BG.2.1 (.int .i64 cs))
        have V6 := Lib.hid (V5.out.put n cs)
        have A6 := Lib.hid (A5.out.far (p := ⟨gv, n, none⟩) BG.2.2.2.1 (.int .i64 cs))
        have C6 := Lib.hid (C5.out.far (p := ⟨gv, n, none⟩) BG.2.2.1 (.int .i64 cs))
        have RL6 := Lib.hid (row_set RL.out n OKC.out)
        have IN6 : Hid (∀ i, i < n + 1 → ∃ c, Sp.IsBy (Sp.padd k f) (Sp.un4 i) c ∧ (l.set n cs).getD i 0 = Sp.csum a c 8) := Lib.hid (fun i hi => by
          by_cases e : n = i
          · subst e
            rw [getD_set_self (by rw [RL.out.1]; exact hlt)]
            exact HCS.out
          · rw [getD_set_ne e]
            exact IN.out i (by omega))
        clear hg CB G4 A4 C4 V4 A5 C5 V5 G5 IN HCS
        go_wp2_with fail
        go_roundw
        case rel => exact ⟨n + 1, by omega, by go_num, G6.out, A6.out, C6.out, _, V6.out, RL6.out, IN6.out⟩
        case measure => simp [intOf]; omega
      · exact absurd NG.out hpos
    · obtain rfl : n = 4 := by omega
      have D := Lib.hid (Sp.isData_by HK.out RL.out IN.out)
      obtain ⟨x0, x1, x2, x3, rfl⟩ := list_four RL.out.1
      have v0 : wr.cell? ⟨gv, 0, none⟩ = some (.int .i64 x0) := V.out.cell (by simp)
      have v1 : wr.cell? ⟨gv, 1, none⟩ = some (.int .i64 x1) := V.out.cell (by simp)
      have v2 : wr.cell? ⟨gv, 2, none⟩ = some (.int .i64 x2) := V.out.cell (by simp)
      have v3 : wr.cell? ⟨gv, 3, none⟩ = some (.int .i64 x3) := V.out.cell (by simp)
      have c0 : wr.cell? ⟨gc, 0, none⟩ = some (.int .i64 0) := C.out.cell (by simp)
      have c1 : wr.cell? ⟨gc, 1, none⟩ = some (.int .i64 0) := C.out.cell (by simp)
      have c2 : wr.cell? ⟨gc, 2, none⟩ = some (.int .i64 0) := C.out.cell (by simp)
      have c3 : wr.cell? ⟨gc, 3, none⟩ = some (.int .i64 0) := C.out.cell (by simp)
      have f0 := C.out.frozen 0
      have f1 := C.out.frozen 1
      have f2 := C.out.frozen 2
      have f3 := C.out.frozen 3
      clear IN A V C
      go_wp2_with fail
      refine bodyPost_ret (v := .agg #[.int .i64 x0, .int .i64 x1, .int .i64 x2, .int .i64 x3]) (by simp [results, Try.results45, go_sem, c0, c1, c2, c3]) rfl ⟨[x0, x1, x2, x3], rfl, D.out, ?_⟩
      repeat' first | with_reducible exact G.out | refine grown_set ?_ (by first | exact BG.1 | simp) _
end Go.Proofs.Ytoflijiinkmjoaa
