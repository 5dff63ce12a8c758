/-
  The contracts of the program's elimination: where its lines stand in memory, a line that is reduced, a row that is taken.
  Conditions: none.
-/
import Derived.Test.YtbpkfcaokbidnabSpanLine
namespace Go.Proofs.Ytbpkfcaokbidnab
open Go.RowKit
set_option linter.unusedVariables false

/-- block g, whole. -/
def Blk (w : World) (g : Nat) (t : TypeId) (cs : List Value) : Prop := w.heap[g]? = some (.cells cs.toArray t (0, 0))
namespace Blk
variable {w w' : World} {g b : Nat} {t t' : TypeId} {cs ds : List Value}
theorem lt (h : Blk w g t cs) : g < w.heap.size := by
  rcases Nat.lt_or_ge g w.heap.size with hlt | hge
  · exact hlt
  · unfold Blk at h; rw [Array.getElem?_eq_none hge] at h; cases h
theorem cell (h : Blk w g t cs) {i : Nat} {v : Value} (hi : cs[i]? = some v) : w.cell? ⟨g, i, none⟩ = some v := by
  rw [cell_of_row w g i _ t (0, 0) h]; simpa using hi
theorem frozen (h : Blk w g t cs) (i : Nat) : w.frozen? ⟨g, i, none⟩ = false := frozen_of_row w g i _ t h
theorem kept {r : Option Nat} (h : Blk w g t cs) (hg : w.grownBy w' r) (hr : some g ≠ r) : Blk w' g t cs := (hg.block g h.lt hr).trans h
theorem put (h : Blk w g t cs) (i : Nat) (v : Value) : Blk (w.setCell ⟨g, i, none⟩ v) g t (cs.set i v) := by
  have e := heap_setCell_same w g i _ t v h
  unfold Blk
  rw [e]
  simp
theorem ne (h : Blk w g t cs) (k : Blk w b t' ds) (ht : t ≠ t') : g ≠ b := by
  rintro rfl
  unfold Blk at h k
  rw [h] at k
  injection k with k
  injection k with _ k
  exact ht k
end Blk
theorem Arr.blk {w : World} {g : Nat} {t : TypeId} {l : List Int} (h : Arr w g t l) : Blk w g t (vals l) := h
theorem own_type {w : World} {base g : Nat} {v : Value} {l : List Int} {t : TypeId} {cs : List Value} (h : Own w base v l) (k : Blk w g t cs) (ht : t ≠ 3) : some g ≠ v.ownBlock := by
  rcases h.2 with ⟨rfl, _⟩ | ⟨b, cap, cur, rfl, _, hg, _⟩
  · simp [Value.ownBlock]
  · intro e
    have e' : g = b := by simpa [Value.ownBlock] using e
    subst e'
    unfold Blk at k
    rw [hg] at k
    injection k with k
    injection k with _ k
    exact ht k.symm

/-- the elimination in memory: at block g the pointers q to the lines S, and the slice pv of the first rows ps; all from base on. -/
structure Ech (w : World) (base g : Nat) (q : Nat → Option Addr) (S : Sp.Cols) (pv : Value) (ps : List Int) : Prop where
  low : base ≤ g
  blk : Blk w g 150 [.pointer (q 0), .pointer (q 1), .pointer (q 2), .pointer (q 3), pv]
  col : ∀ j, (q j = none ∧ S j = none) ∨ ∃ b l, q j = some ⟨b, 0, none⟩ ∧ S j = some l ∧ base ≤ b ∧ Arr w b 157 l
  far : ∀ i j b, q i = some b → q j = some b → i = j
  hi : ∀ j, 4 ≤ j → S j = none
  own : Own w base pv ps
namespace Ech
variable {w w' : World} {base g : Nat} {q : Nat → Option Addr} {S : Sp.Cols} {pv : Value} {ps : List Int}
theorem grown (h : Ech w base g q S pv ps) (hg : w.grownBy w' none) : Ech w' base g q S pv ps := by
  refine ⟨h.low, h.blk.kept hg (by simp), fun j => ?_, h.far, h.hi, h.own.still hg⟩
  rcases h.col j with h0 | ⟨b, l, h1, h2, h3, h4⟩
  · exact .inl h0
  · exact .inr ⟨b, l, h1, h2, h3, h4.still hg⟩
/-- another line, that is none of these, is written. -/
theorem other (h : Ech w base g q S pv ps) {a : Nat} {l : List Int} (ha : Arr w a 157 l) (hne : ∀ j b, q j = some ⟨b, 0, none⟩ → b ≠ a) (hg : w.grownBy w' (some a)) : Ech w' base g q S pv ps := by
  refine ⟨h.low, h.blk.kept hg (fun e => h.blk.ne ha.blk (by decide) (by injection e)), fun j => ?_, h.far, h.hi, h.own.kept hg ?_⟩
  · rcases h.col j with h0 | ⟨b, l, h1, h2, h3, h4⟩
    · exact .inl h0
    · exact .inr ⟨b, l, h1, h2, h3, h4.kept hg (fun e => hne j b h1 (by injection e))⟩
  · exact .inr (fun e => own_type h.own ha.blk (by decide) e.symm)
/-- the line of a column is written. -/
theorem line (h : Ech w base g q S pv ps) {j b : Nat} {l : List Int} (hq : q j = some ⟨b, 0, none⟩) (hg : w.grownBy w' (some b)) (ha : Arr w' b 157 l) : Ech w' base g q (fun i => if i = j then some l else S i) pv ps := by
  obtain ⟨l0, hs, hb, ha0⟩ : ∃ l0, S j = some l0 ∧ base ≤ b ∧ Arr w b 157 l0 := by
    rcases h.col j with h0 | ⟨b', l', h1, h2, h3, h4⟩
    · rw [h0.1] at hq; cases hq
    · rw [hq] at h1
      injection h1 with h1
      injection h1 with h1
      subst h1
      exact ⟨l', h2, h3, h4⟩
  refine ⟨h.low, h.blk.kept hg (fun e => h.blk.ne ha0.blk (by decide) (by injection e)), fun i => ?_, h.far, fun i hi => ?_, h.own.kept hg ?_⟩
  · by_cases e : i = j
    · subst e
      exact .inr ⟨b, l, hq, by simp, hb, ha⟩
    · rcases h.col i with h0 | ⟨b', l', h1, h2, h3, h4⟩
      · exact .inl ⟨h0.1, by simp [e, h0.2]⟩
      · refine .inr ⟨b', l', h1, by simp [e, h2], h3, h4.kept hg (fun x => e ?_)⟩
        have : b' = b := by injection x
        subst this
        exact h.far i j _ h1 hq
  · by_cases e : i = j
    · subst e; rw [h.hi i hi] at hs; cases hs
    · simp [e, h.hi i hi]
  · exact .inr (fun e => own_type h.own ha0.blk (by decide) e.symm)
/-- a new line is put at a column where there was none. -/
theorem put (h : Ech w base g q S pv ps) {p a : Nat} {l : List Int} (hp : p < 4) (hq : q p = none) (ha : Arr w a 157 l) (hb : base ≤ a) (hne : ∀ j b, q j = some ⟨b, 0, none⟩ → b ≠ a) :
    Ech (w.setCell ⟨g, p, none⟩ (.pointer (some ⟨a, 0, none⟩))) base g (fun j => if j = p then some ⟨a, 0, none⟩ else q j) (fun j => if j = p then some l else S j) pv ps := by
  have hag : a ≠ g := fun e => h.blk.ne ha.blk (by decide) e.symm
  refine ⟨h.low, ?_, fun j => ?_, fun i j b hi hj => ?_, fun j hj => ?_, ?_⟩
  · have := h.blk.put p (.pointer (some ⟨a, 0, none⟩))
    have hp' : p = 0 ∨ p = 1 ∨ p = 2 ∨ p = 3 := by omega
    rcases hp' with rfl | rfl | rfl | rfl <;> exact this
  · by_cases e : j = p
    · subst e
      exact .inr ⟨a, l, by simp, by simp, hb, ha.far hag _⟩
    · rcases h.col j with h0 | ⟨b', l', h1, h2, h3, h4⟩
      · exact .inl ⟨by simp [e, h0.1], by simp [e, h0.2]⟩
      · exact .inr ⟨b', l', by simp [e, h1], by simp [e, h2], h3, h4.far (fun x => h.blk.ne h4.blk (by decide) x.symm) _⟩
  · by_cases e1 : i = p
    · by_cases e2 : j = p
      · rw [e1, e2]
      · rw [if_pos e1] at hi
        rw [if_neg e2] at hj
        injection hi with hi
        subst hi
        exact absurd rfl (hne j a hj)
    · by_cases e2 : j = p
      · rw [if_neg e1] at hi
        rw [if_pos e2] at hj
        injection hj with hj
        subst hj
        exact absurd rfl (hne i a hi)
      · rw [if_neg e1] at hi
        rw [if_neg e2] at hj
        exact h.far i j b hi hj
  · rw [if_neg (by omega)]; exact h.hi j hj
  · have := World.grownBy.refl w (some g)
    exact h.own.kept (grown_at this p (.pointer (some ⟨a, 0, none⟩))) (.inr fun e => own_type h.own h.blk (by decide) e.symm)
/-- the first rows are told anew. -/
theorem first (h : Ech w base g q S pv ps) {w1 : World} {pv' : Value} {ps' : List Int} (hg : w.grownBy w1 pv.ownBlock) (ho : Own w1 base pv' ps') : Ech (w1.setCell ⟨g, 4, none⟩ pv') base g q S pv' ps' := by
  have hb := h.blk.kept hg (own_type h.own h.blk (by decide))
  refine ⟨h.low, hb.put 4 pv', fun j => ?_, h.far, h.hi, ?_⟩
  · rcases h.col j with h0 | ⟨b, l, h1, h2, h3, h4⟩
    · exact .inl h0
    · exact .inr ⟨b, l, h1, h2, h3, (h4.kept hg (own_type h.own h4.blk (by decide))).far (fun x => h.blk.ne h4.blk (by decide) x.symm) _⟩
  · exact ho.kept (grown_at (World.grownBy.refl w1 (some g)) 4 pv') (.inr fun e => own_type ho hb (by decide) e.symm)
theorem some_ (h : Ech w base g q S pv ps) {j b : Nat} (hq : q j = some ⟨b, 0, none⟩) : ∃ l, S j = some l ∧ base ≤ b ∧ Arr w b 157 l := by
  rcases h.col j with h0 | ⟨b', l', h1, h2, h3, h4⟩
  · rw [h0.1] at hq; cases hq
  · rw [hq] at h1
    injection h1 with h1
    injection h1 with h1
    subst h1
    exact ⟨l', h2, h3, h4⟩
end Ech

theorem idxP0 (a b c d : Option Addr) (W : World) : (Instr.index 148 (.agg #[.pointer a, .pointer b, .pointer c, .pointer d]) (.int .i64 0)).run Try.prog W = .ok (.pointer a) W := by kernel_rfl
theorem idxP1 (a b c d : Option Addr) (W : World) : (Instr.index 148 (.agg #[.pointer a, .pointer b, .pointer c, .pointer d]) (.int .i64 1)).run Try.prog W = .ok (.pointer b) W := by kernel_rfl
theorem idxP2 (a b c d : Option Addr) (W : World) : (Instr.index 148 (.agg #[.pointer a, .pointer b, .pointer c, .pointer d]) (.int .i64 2)).run Try.prog W = .ok (.pointer c) W := by kernel_rfl
theorem idxP3 (a b c d : Option Addr) (W : World) : (Instr.index 148 (.agg #[.pointer a, .pointer b, .pointer c, .pointer d]) (.int .i64 3)).run Try.prog W = .ok (.pointer d) W := by kernel_rfl
theorem idxP (q : Nat → Option Addr) (k : Nat) (hk : k < 4) (W : World) : (Instr.index 148 (.agg #[.pointer (q 0), .pointer (q 1), .pointer (q 2), .pointer (q 3)]) (.int .i64 k)).run Try.prog W = .ok (.pointer (q k)) W := by
  match k, hk with
  | 0, _ => exact idxP0 _ _ _ _ W
  | 1, _ => exact idxP1 _ _ _ _ W
  | 2, _ => exact idxP2 _ _ _ _ W
  | 3, _ => exact idxP3 _ _ _ _ W

set_option maxHeartbeats 1000000 in
set_option maxRecDepth 20000 in
/-- a line is reduced. -/
theorem echReduce (base g a : Nat) (q : Nat → Option Addr) (S : Sp.Cols) (pv : Value) (ps l : List Int) (w : World) (hE : Ech w base g q S pv ps) (ha : Arr w a 157 l) (hl : Sp.Row 12 l) (hS : ∀ j l, S j = some l → Sp.Row 12 l) (hne : ∀ j b, q j = some ⟨b, 0, none⟩ → b ≠ a) :
    Calls Try.prog 127 #[.pointer (some ⟨g, 0, none⟩), .pointer (some ⟨a, 0, none⟩)] w (LineNow a (Sp.red S 4 l) w) := by
  have c0 := hE.blk.cell (i := 0) rfl
  have c1 := hE.blk.cell (i := 1) rfl
  have c2 := hE.blk.cell (i := 2) rfl
  have c3 := hE.blk.cell (i := 3) rfl
  have E := Lib.hid hE
  have A := Lib.hid ha
  have R := Lib.hid hl
  have RS := Lib.hid hS
  have NE := Lib.hid hne
  clear hE ha hl hS hne
  go_enter Try.func127, Try.ntmps127
  go_wp2_with fail
  clear c0 c1 c2 c3
  go_loopw [10] (fun i wr => ∃ k : Nat, k ≤ 4 ∧ i = .int .i64 k ∧ w.grownBy wr (some a) ∧ Arr wr a 157 (Sp.red S k l)) (fun i _ => 4 - (intOf i).toNat)
  case atStart => exact ⟨0, by omega, rfl, World.grownBy.refl _ _, A.out⟩
  case round =>
    obtain ⟨k, hk, rfl, hg, har⟩ := hrel
    have G := Lib.hid hg
    have AR := Lib.hid har
    clear hg har
    by_cases hlt : k < 4
    · have hlt' : (k : Int) < 4 := by omega
      have hidx := idxP q k hlt wr
      rcases E.out.col k with ⟨hq, hs⟩ | ⟨b, m, hq, hs, hb, hm⟩
      · rw [hq] at hidx
        have RN := Lib.hid (Sp.red_none hs l)
        clear hq hs
        go_wp2_with fail
        go_roundw
        case rel => exact ⟨k + 1, by omega, by go_num, G.out, by rw [RN.out]; exact AR.out⟩
        case measure => simp [intOf]; omega
      · rw [hq] at hidx
        have RN := Lib.hid (Sp.red_some hs l)
        have BA : Hid (b ≠ a) := Lib.hid (NE.out k b hq)
        have MR := Lib.hid (RS.out k m hs)
        have M := Lib.hid (hm.kept G.out (fun e => BA.out (by injection e)))
        have LR := Lib.hid (Sp.red_row RS.out R.out k)
        clear hq hs hm
        go_wp2_with fail
        refine (lineClear a b k (Sp.red S k l) m _ AR.out M.out BA.out LR.out MR.out hlt).mono ?_
        rintro e w2 ⟨rfl, hg, ha⟩
        have G2 := Lib.hid (grown_trans G.out hg)
        have A2 : Hid (Arr w2 a 157 (Sp.red S (k + 1) l)) := Lib.hid (by rw [RN.out]; exact ha)
        clear hg ha hidx
        go_wp2_with fail
        go_roundw
        case rel => exact ⟨k + 1, by omega, by go_num, G2.out, A2.out⟩
        case measure => simp [intOf]; omega
    · have : k = 4 := by omega
      subst this
      go_wp2_with fail
      exact bodyPost_ret (v := .tuple #[]) (by simp [results, Try.results127, go_sem]) rfl ⟨rfl, G.out, AR.out⟩
end Go.Proofs.Ytbpkfcaokbidnab
