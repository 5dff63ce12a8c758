/-
  The contract of the program's elimination, one row further.
  Conditions: none.
-/
import Derived.Test.YtbpkfcaokbidnabSpanEch
import Derived.Test.YtbpkfcaokbidnabVecSpec
namespace Go.Proofs.Ytbpkfcaokbidnab
open Go.RowKit
set_option linter.unusedVariables false

namespace Sp
theorem first_len (m : List (List Int)) : (firsts has m).length ≤ m.length := by
  unfold firsts
  have := List.length_filter_le (fun i => !has (m.take i) (m.getD i [])) (List.range m.length)
  rwa [List.length_range] at this
/-- the first k columns are cleared. -/
def insK (S : Cols) (p : Nat) (v : List Int) (k : Nat) : Cols := fun j => if j < k then (S j).map (fun l => lclear p l v) else S j
theorem insK_none {S : Cols} {p k : Nat} {v : List Int} (h : S k = none) : insK S p v (k + 1) = insK S p v k := by
  funext j
  unfold insK
  by_cases e : j = k
  · subst e; simp [h]
  · by_cases hj : j < k
    · rw [if_pos (by omega), if_pos hj]
    · rw [if_neg (by omega), if_neg hj]
theorem insK_some {S : Cols} {p k : Nat} {v l : List Int} (h : S k = some l) : (fun i => if i = k then some (lclear p l v) else insK S p v k i) = insK S p v (k + 1) := by
  funext j
  unfold insK
  by_cases e : j = k
  · subst e; simp [h]
  · rw [if_neg e]
    by_cases hj : j < k
    · rw [if_pos hj, if_pos (by omega)]
    · rw [if_neg hj, if_neg (by omega)]
theorem insK_at (S : Cols) (p : Nat) (v : List Int) (k : Nat) : insK S p v k k = S k := by simp [insK]
theorem insK_zero (S : Cols) (p : Nat) (v : List Int) : insK S p v 0 = S := by funext j; simp [insK]
theorem insK_all {S : Cols} {p : Nat} {v : List Int} (h : ∀ j, 4 ≤ j → S j = none) : (fun j => if j = p then some v else insK S p v 4 j) = insS S p v := by
  funext j
  unfold insS insK
  by_cases e : j = p
  · simp [e]
  · rw [if_neg e, if_neg e]
    by_cases hj : j < 4
    · rw [if_pos hj]
    · rw [if_neg hj, h j (by omega)]; rfl
end Sp

theorem new_line (x y z t : Int) (n : Nat) : [x, y, z, t, 0, 0, 0, 0, 0, 0, 0, 0].set (4 + n) 1 = [x, y, z, t] ++ Sp.none8.set n 1 := by
  have e : [x, y, z, t, 0, 0, 0, 0, 0, 0, 0, 0] = [x, y, z, t] ++ Sp.none8 := rfl
  rw [e, List.set_append_right _ _ (by simp)]
  congr 2
  simp
theorem ptr_at (q : Nat → Option Addr) (pv : Value) {p : Nat} (h : p < 4) : [Value.pointer (q 0), .pointer (q 1), .pointer (q 2), .pointer (q 3), pv][p]? = some (.pointer (q p)) := by
  match p, h with
  | 0, _ => rfl
  | 1, _ => rfl
  | 2, _ => rfl
  | 3, _ => rfl

theorem one_cell_at {w : World} {k : Nat} {u : Value} {t : TypeId} (hk : w.heap.size = k) : ∀ j v, [u][j]? = some v → (w.alloc (.cells #[u] t)).cell? ((⟨k, 0, none⟩ : Addr).add j) = some v := by
  subst hk; exact one_cell (g := 0)
theorem size_set (w : World) (p : Addr) (v : Value) : (w.setCell p v).heap.size = w.heap.size := by simp [World.setCell]

/-- what taking a row leaves. -/
def Took (m : List (List Int)) (n base g : Nat) (w : World) (e : Ending) (w' : World) : Prop :=
  e = .returned (.tuple #[]) ∧ Below base w w' ∧ ∃ q S pv pn, Ech w' base g q S pv (pn.map fun (i : Nat) => (i : Int)) ∧ Sp.Stand m (n + 1) S pn

set_option maxHeartbeats 2000000 in
set_option maxRecDepth 20000 in
theorem echTake (base g n : Nat) (q : Nat → Option Addr) (S : Sp.Cols) (pv : Value) (pn : List Nat) (m : List (List Int)) (x y z t : Int) (w : World) (hE : Ech w base g q S pv (pn.map fun (i : Nat) => (i : Int))) (hb : base ≤ w.heap.size)
    (hS : Sp.Stand m n S pn) (hm : ∀ r ∈ m, Sp.Row 4 r) (hn : n < m.length) (h8 : m.length ≤ 8) (hv : m.getD n [] = [x, y, z, t]) :
    Calls Try.prog 117 #[.pointer (some ⟨g, 0, none⟩), .int .i64 n, .agg #[.int .i64 x, .int .i64 y, .int .i64 z, .int .i64 t]] w (Took m n base g w) := by
  have E := Lib.hid hE
  have ST := Lib.hid hS
  have HI := Lib.hid hE.hi
  have HM := Lib.hid hm
  have hn8 : (n : Int) < 8 := by omega
  have LS : Hid ((pn.map fun (i : Nat) => (i : Int)).length ≤ 8) := Lib.hid (by
    rw [List.length_map, hS.first]
    have := Sp.first_len (m.take n)
    rw [List.length_take] at this
    omega)
  have glt := hE.blk.lt
  have NE : Hid (∀ j b, q j = some ⟨b, 0, none⟩ → b ≠ w.heap.size + 1) := Lib.hid (fun j b hq e => by
    obtain ⟨l, _, _, ha⟩ := hE.some_ hq
    have := ha.lt
    omega)
  obtain ⟨i0, hi, hz0, hz1, hz2⟩ := info_parts (show (Try.prog.info? 3).map (fun i => (i.zero, i.size, i.bytes)) = some (some (.int .i64 0), 1, 8) by kernel_rfl)
  have I1 := Lib.hid hi
  have I2 := Lib.hid hz0
  have I3 := Lib.hid hz1
  have I4 := Lib.hid hz2
  clear hi hz0 hz1 hz2
  have A0 := (Arr.new (w.alloc (.cells #[.int .i64 x, .int .i64 y, .int .i64 z, .int .i64 t] 74)) 157 [x, y, z, t, 0, 0, 0, 0, 0, 0, 0, 0])
  rw [World.size_alloc] at A0
  have hx : ((w.alloc (.cells #[.int .i64 x, .int .i64 y, .int .i64 z, .int .i64 t] 74)).alloc (.cells #[.int .i64 x, .int .i64 y, .int .i64 z, .int .i64 t, .int .i64 0, .int .i64 0, .int .i64 0, .int .i64 0, .int .i64 0, .int .i64 0, .int .i64 0, .int .i64 0] 157)).cell? ⟨w.heap.size + 1, 4 + n, none⟩ = some (.int .i64 ([x, y, z, t, 0, 0, 0, 0, 0, 0, 0, 0].getD (4 + n) 0)) := A0.cell (by simp; omega)
  have hf : ((w.alloc (.cells #[.int .i64 x, .int .i64 y, .int .i64 z, .int .i64 t] 74)).alloc (.cells #[.int .i64 x, .int .i64 y, .int .i64 z, .int .i64 t, .int .i64 0, .int .i64 0, .int .i64 0, .int .i64 0, .int .i64 0, .int .i64 0, .int .i64 0, .int .i64 0] 157)).frozen? ⟨w.heap.size + 1, 4 + n, none⟩ = false := A0.frozen _
  have A1 : Hid (Arr ((w.alloc (.cells #[.int .i64 x, .int .i64 y, .int .i64 z, .int .i64 t] 74)).alloc (.cells (List.set [.int .i64 x, .int .i64 y, .int .i64 z, .int .i64 t, .int .i64 0, .int .i64 0, .int .i64 0, .int .i64 0, .int .i64 0, .int .i64 0, .int .i64 0, .int .i64 0] (4 + n) (.int .i64 1)).toArray 157)) (w.heap.size + 1) 157 (Sp.fresh m n)) := Lib.hid (by
    have := Arr.new (w.alloc (.cells #[.int .i64 x, .int .i64 y, .int .i64 z, .int .i64 t] 74)) 157 ([x, y, z, t, 0, 0, 0, 0, 0, 0, 0, 0].set (4 + n) 1)
    rw [World.size_alloc, ← vals_set] at this
    have e : Sp.fresh m n = [x, y, z, t, 0, 0, 0, 0, 0, 0, 0, 0].set (4 + n) 1 := by rw [new_line, ← hv]; rfl
    rw [e]
    exact this)
  have G1 : Hid (w.grownBy ((w.alloc (.cells #[.int .i64 x, .int .i64 y, .int .i64 z, .int .i64 t] 74)).alloc (.cells (List.set [.int .i64 x, .int .i64 y, .int .i64 z, .int .i64 t, .int .i64 0, .int .i64 0, .int .i64 0, .int .i64 0, .int .i64 0, .int .i64 0, .int .i64 0, .int .i64 0] (4 + n) (.int .i64 1)).toArray 157)) none) := Lib.hid (grown_alloc (grown_alloc (World.grownBy.refl _ _) _) _)
  generalize [x, y, z, t, 0, 0, 0, 0, 0, 0, 0, 0].getD (4 + n) 0 = c0 at hx
  clear hE hS hm A0
  go_enter Try.func117, Try.ntmps117
  go_wp2_with fail
  clear hx hf
  generalize ((w.alloc (.cells #[.int .i64 x, .int .i64 y, .int .i64 z, .int .i64 t] 74)).alloc (.cells (List.set [.int .i64 x, .int .i64 y, .int .i64 z, .int .i64 t, .int .i64 0, .int .i64 0, .int .i64 0, .int .i64 0, .int .i64 0, .int .i64 0, .int .i64 0, .int .i64 0] (4 + n) (.int .i64 1)).toArray 157)) = w1 at *
  have FO := Lib.hid (Sp.fresh_off HM.out hn h8 pn)
  obtain ⟨a, hA⟩ : ∃ a, a = w.heap.size + 1 := ⟨_, rfl⟩
  rw [← hA] at A1 NE ⊢
  have ba : base ≤ a := by omega
  clear hA
  have E1 := Lib.hid (E.out.grown G1.out)
  refine (echReduce base g a q S pv (pn.map fun (i : Nat) => (i : Int)) (Sp.fresh m n) w1 E1.out A1.out FO.out.1 ST.out.row NE.out).mono ?_
  rintro e w2 ⟨rfl, hg, hA2⟩
  have E2 := Lib.hid (E1.out.other A1.out NE.out hg)
  have B2 : Hid (Below base w w2) := Lib.hid ((((Below.refl base w).grown G1.out hb (by simp)).grown hg (Nat.le_trans hb G1.out.size) (fun k hk => by injection hk with hk; omega)))
  obtain ⟨r, hr⟩ : ∃ r, Sp.red S 4 (Sp.fresh m n) = r := ⟨_, rfl⟩
  have SK : Hid (Vec.first (r.take 4) 0 < 0 → Sp.Stand m (n + 1) S pn) := Lib.hid (fun h => ST.out.skip HM.out hn h8 (by rw [hr]; exact h))
  have MO : Hid (∀ p : Nat, Vec.first (r.take 4) 0 = p → p < 4 ∧ S p = none ∧ r.getD p 0 ≠ 0 ∧ Sp.Stand m (n + 1) (Sp.insS S p (Sp.lmul r (Fld.inv (r.getD p 0)))) (pn ++ [n])) := Lib.hid (fun p h => by
    have := ST.out.more HM.out hn h8 (p := p) (by rw [hr]; exact h)
    rw [hr] at this
    exact this)
  have RR : Hid (Sp.Row 12 r) := Lib.hid (by rw [← hr]; exact Sp.red_row ST.out.row FO.out.1 4)
  rw [hr] at hA2
  have A2 := Lib.hid hA2
  clear hg hA2 hr E1 A1 G1 FO E
  obtain ⟨x1, y1, z1, t1, r1, hre, _, _⟩ := four_of_row RR.out
  have a0 : w2.cell? ⟨a, 0, none⟩ = some (.int .i64 x1) := by have := A2.out.cell (i := 0) (by rw [RR.out.1]; omega); rw [hre] at this; exact this
  have a1 : w2.cell? ⟨a, 1, none⟩ = some (.int .i64 y1) := by have := A2.out.cell (i := 1) (by rw [RR.out.1]; omega); rw [hre] at this; exact this
  have a2 : w2.cell? ⟨a, 2, none⟩ = some (.int .i64 z1) := by have := A2.out.cell (i := 2) (by rw [RR.out.1]; omega); rw [hre] at this; exact this
  have a3 : w2.cell? ⟨a, 3, none⟩ = some (.int .i64 t1) := by have := A2.out.cell (i := 3) (by rw [RR.out.1]; omega); rw [hre] at this; exact this
  have TK : Hid (r.take 4 = [x1, y1, z1, t1]) := Lib.hid (by rw [hre]; rfl)
  clear hre
  go_wp2_with fail
  refine (rowLead x1 y1 z1 t1 _).mono ?_
  rintro e w3 ⟨rfl, hg⟩
  have E3 := Lib.hid (E2.out.grown hg)
  have A3 := Lib.hid (A2.out.still hg)
  have B3 := Lib.hid (B2.out.grown hg (Nat.le_trans hb B2.out.size) (by simp))
  clear hg a0 a1 a2 a3 E2 A2 B2
  obtain ⟨ld, hld⟩ : ∃ ld, Vec.first [x1, y1, z1, t1] 0 = ld := ⟨_, rfl⟩
  rw [hld]
  have LD : Hid (Vec.first (r.take 4) 0 = ld) := Lib.hid (by rw [TK.out]; exact hld)
  clear hld TK
  by_cases hneg : ld < 0
  · have N := Lib.hid (SK.out (by rw [LD.out]; exact hneg))
    go_wp2_with fail
    exact bodyPost_ret (v := .tuple #[]) (by simp [results, Try.results117, go_sem]) rfl ⟨rfl, B3.out, q, S, pv, pn, E3.out, N.out⟩
  obtain ⟨p, rfl⟩ : ∃ p : Nat, ld = p := ⟨ld.toNat, by omega⟩
  obtain ⟨hp, hsp, hrp, hst⟩ := MO.out p LD.out
  have N := Lib.hid hst
  have SP := Lib.hid hsp
  have c0 := A3.out.cell (i := p) (by rw [RR.out.1]; omega)
  have yo := RR.out.get p
  obtain ⟨y, hy⟩ : ∃ y, r.getD p 0 = y := ⟨_, rfl⟩
  rw [hy] at c0 yo hrp N
  have hp' : (p : Int) < 4 := by omega
  clear hy hst hsp MO LD SK
  go_wp2_with fail
  refine (implEuclid y _ yo hrp).mono ?_
  rintro e w' ⟨rfl, rfl⟩
  obtain ⟨c, hc⟩ : ∃ c, Fld.inv y = c := ⟨_, rfl⟩
  have CO : Hid (Fld.ok c = true) := Lib.hid (hc ▸ Fld.inv_is yo)
  rw [hc] at N ⊢
  clear hc
  go_wp2_with fail
  refine (lineScale a r c _ A3.out RR.out CO.out).mono ?_
  rintro e w4 ⟨rfl, hg, hA4⟩
  have E4 := Lib.hid (E3.out.other A3.out NE.out hg)
  have B4 := Lib.hid (B3.out.grown hg (Nat.le_trans hb B3.out.size) (fun k hk => by injection hk with hk; omega))
  obtain ⟨v, hv'⟩ : ∃ v, Sp.lmul r c = v := ⟨_, rfl⟩
  have VR : Hid (Sp.Row 12 v) := Lib.hid (hv' ▸ Sp.row_lmul RR.out c)
  rw [hv'] at hA4 N
  have A4 := Lib.hid hA4
  clear hg hA4 hv' A3 E3 B3 c0 RR
  have c0 := E4.out.blk.cell (i := 0) rfl
  have c1 := E4.out.blk.cell (i := 1) rfl
  have c2 := E4.out.blk.cell (i := 2) rfl
  have c3 := E4.out.blk.cell (i := 3) rfl
  go_wp2_with fail
  clear c0 c1 c2 c3
  go_loopw [41] (fun i wr => ∃ k : Nat, k ≤ 4 ∧ i = .int .i64 k ∧ Ech wr base g q (Sp.insK S p v k) pv (pn.map fun (i : Nat) => (i : Int)) ∧ Arr wr a 157 v ∧ Below base w wr) (fun i _ => 4 - (intOf i).toNat)
  case atStart => exact ⟨0, by omega, rfl, by rw [Sp.insK_zero]; exact E4.out, A4.out, B4.out⟩
  case round =>
    obtain ⟨k, hk, rfl, he, har, hbl⟩ := hrel
    have E5 := Lib.hid he
    have A5 := Lib.hid har
    have B5 := Lib.hid hbl
    clear he har hbl E4 A4 B4
    by_cases hlt : k < 4
    · have hlt' : (k : Int) < 4 := by omega
      have hidx := idxP q k hlt wr
      rcases E5.out.col k with ⟨hq, hs⟩ | ⟨b, l, hq, hs, hbb, hl⟩
      · rw [hq] at hidx
        rw [Sp.insK_at] at hs
        have IN := Lib.hid (Sp.insK_none (p := p) (v := v) hs)
        clear hq hs
        go_wp2_with fail
        go_roundw
        case rel => exact ⟨k + 1, by omega, by go_num, by rw [IN.out]; exact E5.out, A5.out, B5.out⟩
        case measure => simp [intOf]; omega
      · rw [hq] at hidx
        rw [Sp.insK_at] at hs
        have IN := Lib.hid (Sp.insK_some (p := p) (v := v) hs)
        have BA : Hid (b ≠ a) := Lib.hid (NE.out k b hq)
        have LR := Lib.hid (ST.out.row k l hs)
        have L := Lib.hid hl
        have HQ := Lib.hid hq
        clear hq hs hl
        go_wp2_with fail
        refine (lineClear b a p l v _ L.out A5.out (fun e => BA.out e.symm) LR.out VR.out hp).mono ?_
        rintro e w6 ⟨rfl, hg, ha⟩
        have E6 : Hid (Ech w6 base g q (Sp.insK S p v (k + 1)) pv (pn.map fun (i : Nat) => (i : Int))) := Lib.hid (by rw [← IN.out]; exact E5.out.line HQ.out hg ha)
        have A6 := Lib.hid (A5.out.kept hg (fun e => BA.out (by injection e with e; exact e.symm)))
        have B6 := Lib.hid (B5.out.grown hg (Nat.le_trans hb B5.out.size) (fun k hk => by injection hk with hk; omega))
        clear hg ha hidx E5 A5 B5
        go_wp2_with fail
        go_roundw
        case rel => exact ⟨k + 1, by omega, by go_num, E6.out, A6.out, B6.out⟩
        case measure => simp [intOf]; omega
    · have : k = 4 := by omega
      subst this
      have QP : Hid (q p = none) := Lib.hid (by
        rcases E5.out.col p with h | ⟨b, l, h1, h2, _⟩
        · exact h.1
        · have : Sp.insK S p v 4 p = none := by simp [Sp.insK, SP.out]
          rw [this] at h2; cases h2)
      have cp := E5.out.blk.cell (i := p) (ptr_at q pv hp)
      have fp := E5.out.blk.frozen p
      have E6 := Lib.hid (E5.out.put hp QP.out A5.out ba NE.out)
      have B6 : Hid (Below base w (wr.setCell ⟨g, p, none⟩ (.pointer (some ⟨a, 0, none⟩)))) := Lib.hid (B5.out.grown (grown_at (World.grownBy.refl wr (some g)) p _) (Nat.le_trans hb B5.out.size) (fun k hk => by injection hk with hk; have := E5.out.low; omega))
      have h4 := E6.out.blk.cell (i := 4) rfl
      have h4' : wr.cell? ⟨g, 4, none⟩ = some pv := E5.out.blk.cell (i := 4) rfl
      have np : p ≠ 4 := by omega
      have l8 := LS.out
      obtain ⟨o6, O6⟩ : ∃ l, Hid (l = (pn.map fun (i : Nat) => (i : Int)) ∧ Own (wr.setCell ⟨g, p, none⟩ (.pointer (some ⟨a, 0, none⟩))) base pv l) := ⟨_, Lib.hid ⟨rfl, E6.out.own⟩⟩
      have ol : o6.length ≤ 8 := by rw [O6.out.1]; exact l8
      have sb : base ≤ wr.heap.size := by have := Nat.le_trans hb B6.out.size; rwa [size_set] at this
      clear E5 A5 B5 l8
      go_wp2_with (first
        | (at_builtin; refine wpList_append_own _ rfl _ _ 33 rfl base 3 i0 (.int .i64 0) 1 8 Try.underlying33 I1.out I2.out I3.out I4.out rfl (by decide) _ _ _ rfl (World.ownsRow.alloc O6.out.2 _) ⟨wr.heap.size, 0, none⟩ 1 1 [.int .i64 n] rfl rfl (one_cell_at (size_set _ _ _)) (vals_one [(n : Int)]) ?c3 ?c4 ?c5 ?_))
      case c3 => unfold maxLen; omega
      case c4 => omega
      case c5 => simp; omega
      intro o' w7 ho hg _
      have o7 : Own w7 base o' (o6 ++ [(n : Int)]) := own_snoc ho (by simp) rfl
      have g67 : (wr.setCell ⟨g, p, none⟩ (.pointer (some ⟨a, 0, none⟩))).grownBy w7 pv.ownBlock := grown_trans (World.grownBy_alloc _ _ _) hg
      have b7 := E6.out.blk.kept g67 (own_type E6.out.own E6.out.blk (by decide))
      have d4 : w7.cell? ⟨g, 4, none⟩ = some pv := b7.cell (i := 4) rfl
      have f4 : w7.frozen? ⟨g, 4, none⟩ = false := b7.frozen 4
      have eS : (fun j => if j = p then some v else Sp.insK S p v 4 j) = Sp.insS S p v := Sp.insK_all HI.out
      have eP : o6 ++ [(n : Int)] = (pn ++ [n]).map fun (i : Nat) => (i : Int) := by rw [O6.out.1]; simp
      have e7 := E6.out.first g67 o7
      rw [eS, eP] at e7
      have E7 := Lib.hid e7
      have B7 : Hid (Below base w (w7.setCell ⟨g, 4, none⟩ o')) := Lib.hid ((B6.out.grown g67 (Nat.le_trans hb B6.out.size) (fun k hk => (World.ownsRow.lt E6.out.own k hk).1)).grown (grown_at (World.grownBy.refl w7 (some g)) 4 _) (Nat.le_trans hb (Nat.le_trans B6.out.size g67.size)) (fun k hk => by injection hk with hk; have := E6.out.low; omega))
      obtain ⟨ao, co, eo, _, _, _⟩ := o7.sl
      obtain ⟨nl, hnl⟩ : ∃ k, (o6 ++ [(n : Int)]).length = k := ⟨_, rfl⟩
      rw [hnl] at eo
      clear hnl
      subst eo
      clear ho hg o7 g67 b7 eS eP e7 E6 B6 O6 cp fp h4 h4'
      go_wp2_with fail
      exact bodyPost_ret (v := .tuple #[]) (by simp [results, Try.results117, go_sem]) rfl ⟨rfl, B7.out, _, _, _, pn ++ [n], E7.out, N.out⟩
end Go.Proofs.Ytbpkfcaokbidnab
