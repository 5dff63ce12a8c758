/-
  The contract of the laws' own lkMade (rows, each so often, together), and of the model's drawing of a matrix and a row.
  Conditions: none.
-/
import Derived.Test.YtdbajokjhllekaaSpanSel
import Derived.Test.YtdbajokjhllekaaSpanTops2
import Derived.Test.YtdbajokjhllekaaVec2
import Derived.Deep.RegionHeld3
namespace Go.Proofs.Ytdbajokjhllekaa
open Go.RowKit
set_option linter.unusedVariables false

namespace Sp
theorem mem_firsts {m : List (List Int)} {i : Nat} : i ∈ firsts has m ↔ i < m.length ∧ has (m.take i) (m.getD i []) = false := by
  unfold firsts; rw [List.mem_filter, List.mem_range, Bool.not_eq_true']
theorem firsts_up (m : List (List Int)) : (firsts has m).Pairwise (· < ·) := by
  unfold firsts; exact List.Pairwise.filter _ List.pairwise_lt_range
theorem sel_get {m : List (List Int)} {F : List Nat} {i : Nat} (hi : i < F.length) : (sel m F).getD i [] = m.getD F[i] [] := by
  unfold sel
  rw [List.getD_eq_getElem?_getD, List.getElem?_map, List.getElem?_eq_getElem hi]; rfl
/-- none of the first rows is made of those ahead. -/
theorem sel_first {m : List (List Int)} (hm : okM m = true) {i : Nat} (hi : i < (sel m (firsts has m)).length) : i ∈ firsts has (sel m (firsts has m)) := by
  have hi' : i < (firsts has m).length := by unfold sel at hi; rwa [List.length_map] at hi
  have hS := okM_all (sel_ok hm)
  obtain ⟨hlt, hno⟩ := first_not (okM_all hm) (List.getElem_mem hi')
  rw [mem_firsts]
  refine ⟨hi, ?_⟩
  cases hb : has ((sel m (firsts has m)).take i) ((sel m (firsts has m)).getD i []) with
  | false => rfl
  | true =>
    exfalso
    have hmade := (has_iff (fun r h => hS r (List.mem_of_mem_take h)) (fresh_row hS hi)).1 hb
    refine hno ?_
    rw [sel_get hi'] at hmade
    refine In.trans hmade (fun a ha => In.mem ?_)
    obtain ⟨r, hr, rfl⟩ := List.mem_map.1 ha
    refine List.mem_map.2 ⟨r, ?_, rfl⟩
    obtain ⟨j, hj, rfl⟩ := List.getElem_of_mem hr
    rw [List.length_take] at hj
    have hj' : j < (firsts has m).length := by omega
    rw [List.getElem_take]
    have e : (sel m (firsts has m))[j]'(by unfold sel; rw [List.length_map]; exact hj') = m.getD (firsts has m)[j] [] := by simp [sel]
    rw [e]
    have hup := List.pairwise_iff_getElem.1 (firsts_up m) j i hj' hi' (by omega)
    have hjm : (firsts has m)[j] < m.length := first_lt _ (List.getElem_mem hj')
    refine List.mem_iff_getElem?.2 ⟨(firsts has m)[j], ?_⟩
    rw [List.getElem?_take, if_pos hup]
    simp [List.getD_eq_getElem?_getD, hjm]
end Sp

/-- the first k rows, each so often, together. -/
def madeK (m : List (List Int)) (c : List Int) : Nat → List Int
  | 0 => [0, 0, 0, 0]
  | k + 1 => Sp.ladd (madeK m c k) (Sp.lmul (m.getD k []) (c.getD k 0))
theorem madeK_row {m : List (List Int)} (hm : ∀ r ∈ m, Sp.Row 4 r) (c : List Int) : ∀ k, k ≤ m.length → Sp.Row 4 (madeK m c k) := by
  intro k
  induction k with
  | zero => intro _; exact Sp.row_ok.1 rfl
  | succ k ih => intro h; exact Sp.row_ladd (ih (by omega)) (Sp.row_lmul (Sp.fresh_row hm (by omega)) _)
theorem madeK_comb {m : List (List Int)} (hm : ∀ r ∈ m, Sp.Row 4 r) (c : List Int) (j : Nat) : ∀ k, k ≤ m.length → Sp.toV (madeK m c k) j = Sp.comb (Sp.toV c) ((m.take k).map Sp.toV) j := by
  intro k
  induction k with
  | zero =>
    intro _
    have : Sp.toV [0, 0, 0, 0] j = 0 := by
      match j with
      | 0 => rfl
      | 1 => rfl
      | 2 => rfl
      | 3 => rfl
      | j + 4 => rfl
    simp only [madeK, List.take_zero, List.map_nil]
    rw [this]; rfl
  | succ k ih =>
    intro h
    have hr := Sp.fresh_row hm (show k < m.length by omega)
    rw [madeK, Sp.toV_ladd (madeK_row hm c k (by omega)) (Sp.row_lmul hr _), ih (by omega), Sp.toV_lmul hr, Sp.take_more m (by omega), List.map_append, Sp.comb_append]
    congr 1
    rw [List.map_cons, List.map_nil, Sp.comb_cons, Sp.comb_nil, List.length_map, List.length_take, show min k m.length = k by omega, Nat.zero_add]
    show _ * Sp.toF (c.getD k 0) = Sp.toF (c.getD k 0) * _ + 0
    grind
theorem madeK_all {m : List (List Int)} (hm : ∀ r ∈ m, Sp.Row 4 r) (c : List Int) (j : Nat) : Sp.toV (madeK m c m.length) j = Sp.comb (Sp.toV c) (m.map Sp.toV) j := by
  rw [madeK_comb hm c j m.length (Nat.le_refl _), List.take_length]

set_option maxHeartbeats 2000000 in
set_option maxRecDepth 20000 in
theorem lkMade (v x : Value) (us : List Value) (m : List (List Int)) (c : List Int) (w : World) (h : Tab w v us m) (hx : Sl w x c) (hm : ∀ r ∈ m, Sp.Row 4 r) (hc : Sp.Row m.length c) (h8 : m.length ≤ 8) :
    Calls Try.prog 20 #[v, x] w (NewInts (madeK m c m.length) w) := by
  have T := Lib.hid h
  have X := Lib.hid hx
  have HM := Lib.hid hm
  have HC := Lib.hid hc
  obtain ⟨a, cap, rfl, h1, h2, _⟩ := h.top
  obtain ⟨ax, cx, ex, hx1, hx2, _⟩ := hx
  rw [hc.1] at ex hx1
  subst ex
  unfold maxLen at h2 hx2
  clear h hm hc
  have M0 : Hid (Own (w.alloc (.cells #[.int .i64 0, .int .i64 0, .int .i64 0, .int .i64 0] 3)) w.heap.size (.slice (some ⟨w.heap.size, 0, none⟩) 4 4) [0, 0, 0, 0]) := Lib.hid ((Arr.new w 3 [0, 0, 0, 0]).own rfl _ (Nat.le_refl _) (by simp [maxLen]))
  go_enter Try.func20, Try.ntmps20
  go_wp2_with fail
  go_loopw [5, 6] (fun y i wr => ∃ k : Nat, k ≤ m.length ∧ i = .int .i64 k ∧ w.grownBy wr none ∧ Own wr w.heap.size y (madeK m c k)) (fun _ i _ => m.length - (intOf i).toNat)
  case atStart => exact ⟨0, Nat.zero_le _, rfl, grown_alloc (World.grownBy.refl _ _) _, M0.out⟩
  case round =>
    obtain ⟨k, hk, rfl, hg, ho⟩ := hrel
    have G0 := Lib.hid hg
    have O0 := Lib.hid ho
    have G := Lib.hid (grown_drew hg)
    have O := Lib.hid (ho.still (grown_drew (World.grownBy.refl _ none)))
    clear hg ho M0
    by_cases hlt : k < m.length
    · have hlt' : (k : Int) < (m.length : Int) := by omega
      obtain ⟨b, o, cap', u, e, hu, hx, hs⟩ := (T.out.grown G.out).at_ hlt
      injection e with e1 e2 e3
      subst e1 e3
      obtain ⟨a', c', e, _, _, hr⟩ := X.out.grown G.out
      injection e with e1 e2 e3
      subst e1 e3
      clear e2
      obtain ⟨bx, ox, rfl, hy⟩ := hr.at_ (k := k) (by rw [HC.out.1]; exact hlt)
      have S := Lib.hid hs
      have RW := Lib.hid (Sp.row_ok.2 (Sp.fresh_row HM.out hlt))
      have RK := Lib.hid (Sp.row_ok.2 (madeK_row HM.out c k hk))
      have MK : Hid (madeK m c (k + 1) = Sp.ladd (madeK m c k) (Sp.lmul (m.getD k []) (c.getD k 0))) := Lib.hid rfl
      have co := HC.out.get k
      obtain ⟨y, hye⟩ : ∃ y, c.getD k 0 = y := ⟨_, rfl⟩
      rw [hye] at hy co MK
      have CO := Lib.hid co
      clear hs hu hr hye co G0 O0
      go_wp2_with fail
      go_region_held3 (fun w' => w'.cell? ⟨b, o + k, none⟩ = some u ∧ w'.cell? ⟨bx, ox + k, none⟩ = some (.int .i64 y))
        (first
          | with_reducible exact ⟨hx, hy⟩
          | with_reducible exact ⟨e1, e2⟩
          | with_reducible exact ⟨f1, f2⟩)
        (first
          | (go_at_call 51; refine (implVecScale u (m.getD k []) y _ S.out).mono ?_; rintro e w1 ⟨v1, rfl, hg1, ho1⟩
             have G1 := Lib.hid hg1
             have O1 := Lib.hid ho1
             have e1 := hg1.cell hx (by simp)
             have e2 := hg1.cell hy (by simp)
             clear hg1 ho1)
          | (go_at_call 31; refine (implVecSum u5 v1 (madeK m c k) (Vec.scale (m.getD k []) y) _ (O.out.still G1.out).sl O1.out.sl).mono ?_; rintro e w2 ⟨v2, rfl, hg2, ho2⟩
             have G2 := Lib.hid hg2
             have O2 := Lib.hid ho2
             have f1 := hg2.cell e1 (by simp)
             have f2 := hg2.cell e2 (by simp)
             clear hg2 ho2))
      have GN := Lib.hid (grown_trans (grown_trans G.out G1.out) G2.out)
      have ON : Hid (Own w2 w.heap.size v2 (madeK m c (k + 1))) := Lib.hid (by
        rw [MK.out]
        have e1 : Vec.scale (m.getD k []) y = Sp.lmul (m.getD k []) y := Vec.scale_ok RW.out CO.out
        have e2 : Vec.sum (madeK m c k) (Vec.scale (m.getD k []) y) = Sp.ladd (madeK m c k) (Sp.lmul (m.getD k []) y) := by
          rw [Vec.sum_ok RK.out (Vec.scale_is RW.out CO.out), e1]; rfl
        rw [← e2]
        exact O2.out.lower (Nat.le_trans G.out.size G1.out.size))
      clear hx hy e1 e2 f1 f2 G1 G2 O1 O2
      go_wp2_with fail
      go_roundw
      case rel => exact ⟨k + 1, by omega, by go_num, GN.out, ON.out⟩
      case measure => simp [intOf]; omega
    · have : k = m.length := by omega
      subst this
      go_wp2_with fail
      go_ret
      exact ⟨_, rfl, G0.out, O0.out⟩
end Go.Proofs.Ytdbajokjhllekaa
