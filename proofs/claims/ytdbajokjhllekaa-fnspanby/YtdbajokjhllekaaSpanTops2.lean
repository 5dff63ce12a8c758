/-
  The contracts of the program's SpanBy, SpanHas, SpanSame.
  Conditions: none.
-/
import Derived.Test.YtdbajokjhllekaaSpanTopsBy
namespace Go.Proofs.Ytdbajokjhllekaa
open Go.RowKit
set_option linter.unusedVariables false

/-- what SpanBy answers: numbers and true, if the row is made of the rows; none and false, else. -/
def ByM (m : List (List Int)) (v : List Int) (b : Bool) (l : List Int) : Prop := b = hasM m v ∧ ((b = true ∧ okM m = true ∧ Vec.ok v = true ∧ Sp.IsBy m v l) ∨ (b = false ∧ l = []))
theorem ByM.one {m : List (List Int)} {v l l' : List Int} {b b' : Bool} (h : ByM m v b l) (h' : ByM m v b' l') : b = b' ∧ l = l' := by
  have e : b = b' := h.1.trans h'.1.symm
  subst e
  refine ⟨rfl, ?_⟩
  rcases h.2 with ⟨hb, hm, _, hi⟩ | ⟨hb, rfl⟩
  · rcases h'.2 with ⟨_, _, _, hi'⟩ | ⟨hb', _⟩
    · exact hi.one (okM_all hm) hi'
    · rw [hb] at hb'; cases hb'
  · rcases h'.2 with ⟨hb', _⟩ | ⟨_, rfl⟩
    · rw [hb] at hb'; cases hb'
    · rfl
theorem ByM.no {m : List (List Int)} {v : List Int} (h : hasM m v = false) : ByM m v false [] := ⟨h.symm, .inr ⟨rfl, rfl⟩⟩
def NewBy (m : List (List Int)) (v : List Int) (w : World) (e : Ending) (w' : World) : Prop := ∃ o b l, e = .returned (.tuple #[o, .bool b]) ∧ w.grownBy w' none ∧ Own w' w.heap.size o l ∧ ByM m v b l

set_option maxHeartbeats 4000000 in
set_option maxRecDepth 20000 in
theorem implSpanBy (v x : Value) (us : List Value) (m : List (List Int)) (l : List Int) (w : World) (h : Tab w v us m) (hx : Sl w x l) : Calls Try.prog 17 #[v, x] w (NewBy m l w) := by
  have C := Lib.hid (echelonOf v us m w h)
  have X := Lib.hid hx
  obtain ⟨av, capv, ev, hv1, hv2, _⟩ := h.top
  subst ev
  unfold maxLen at hv2
  clear h hx
  obtain ⟨i0, hi, hz0, hz1, hz2⟩ := info_parts infoInt
  have I1 := Lib.hid hi
  have I2 := Lib.hid hz0
  have I3 := Lib.hid hz1
  have I4 := Lib.hid hz2
  clear hi hz0 hz1 hz2
  obtain ⟨x0, y0, z0, t0, hor⟩ := Vec.or0_four l
  go_enter Try.func17, Try.ntmps17
  go_wp2_with fail
  refine C.out.mono ?_
  rintro e w1 ⟨hg, ⟨hok, rfl⟩ | ⟨hok, g, q, S, pv, pn, rfl, he, hst⟩⟩
  · have G := Lib.hid hg
    have R : Hid (hasM m l = false) := Lib.hid (by simp [hasM, hok])
    have V := Lib.hid (implVectorOf x l w1 (X.out.grown hg))
    rw [hor, ← vals4] at V
    clear hg hok hor
    go_wp2_with fail
    refine V.out.mono ?_
    rintro e w2 ⟨rfl, hg⟩
    have G2 := Lib.hid (grown_alloc (grown_trans G.out hg) (.cells #[.int .i64 x0, .int .i64 y0, .int .i64 z0, .int .i64 t0] 79))
    clear hg
    go_wp2_with fail
    go_ret2
    exact ⟨_, false, [], rfl, G2.out, Own.none_ _ _, ByM.no R.out⟩
  · have G := Lib.hid hg
    have V := Lib.hid (implVectorOf x l w1 (X.out.grown hg))
    rw [hor, ← vals4] at V
    cases hvl : Vec.ok l with
    | false =>
      have R : Hid (hasM m l = false) := Lib.hid (by simp [hasM, hvl])
      rw [hvl] at V
      clear hg hok hor he hst hvl
      go_wp2_with fail
      refine V.out.mono ?_
      rintro e w2 ⟨rfl, hg⟩
      have G2 := Lib.hid (grown_alloc (grown_trans G.out hg) (.cells #[.int .i64 x0, .int .i64 y0, .int .i64 z0, .int .i64 t0] 79))
      clear hg
      go_wp2_with fail
      go_ret2
      exact ⟨_, false, [], rfl, G2.out, Own.none_ _ _, ByM.no R.out⟩
    | true =>
      rw [Vec.or0_ok hvl] at hor
      have h8 := okM_len hok
      have HM := Lib.hid (okM_all hok)
      have BY := Lib.hid (hst.by (okM_all hok) h8 (Sp.row_ok.1 hvl))
      have OKM := Lib.hid hok
      have OKV := Lib.hid hvl
      have RS := Lib.hid hst.row
      have E := Lib.hid he
      have V4 : Hid (Vec.ok [x0, y0, z0, t0] = true) := Lib.hid (by rw [← hor]; exact hvl)
      have HO := Lib.hid hor
      rw [hvl] at V
      obtain ⟨r, hr⟩ : ∃ r, Sp.red S 4 ([x0, y0, z0, t0] ++ Sp.none8) = r := ⟨_, rfl⟩
      rw [hor, hr] at BY
      have HR := Lib.hid hr
      clear hg hok he hst hvl hor hr
      go_wp2_with fail
      refine V.out.mono ?_
      rintro e w2 ⟨rfl, hg⟩
      have G2 := Lib.hid (grown_alloc (grown_trans G.out hg) (.cells #[.int .i64 x0, .int .i64 y0, .int .i64 z0, .int .i64 t0] 79))
      have E2 := Lib.hid (E.out.grown (grown_alloc hg (.cells #[.int .i64 x0, .int .i64 y0, .int .i64 z0, .int .i64 t0] 79)))
      clear hg G E
      go_wp2_with fail
      refine (echBy w.heap.size g q S pv _ x0 y0 z0 t0 _ E2.out RS.out V4.out).mono ?_
      rw [HR.out]
      rintro e w3 ⟨hg, ⟨hneg, rfl⟩ | ⟨hpos, rfl⟩⟩
      · have G3 := Lib.hid (grown_trans G2.out hg)
        have IB := Lib.hid (BY.out.2.2 hneg)
        have HH : Hid (hasM m l = true) := Lib.hid (by
          have := BY.out.2.1.2 hneg
          rw [← HO.out] at this
          simp only [hasM, OKM.out, OKV.out, this, Bool.and_self])
        have hs8 : ((Sp.lmul r 30).drop 4).length = 8 := by rw [List.length_drop, (Sp.row_lmul BY.out.1 30).1]
        obtain ⟨s, hs⟩ : ∃ s, (Sp.lmul r 30).drop 4 = s := ⟨_, rfl⟩
        rw [hs] at IB hs8 ⊢
        clear hg hneg hs BY HR
        obtain ⟨s0, s1, s2, s3, s4, s5, s6, s7, rfl⟩ : ∃ a b c d e f g i, s = [a, b, c, d, e, f, g, i] := by
          match s, hs8 with
          | [a, b, c, d, e, f, g, i], _ => exact ⟨a, b, c, d, e, f, g, i, rfl⟩
        clear hs8
        rw [show (vals [s0, s1, s2, s3, s4, s5, s6, s7]).toArray = #[.int .i64 s0, .int .i64 s1, .int .i64 s2, .int .i64 s3, .int .i64 s4, .int .i64 s5, .int .i64 s6, .int .i64 s7] from rfl]
        have hn0 : (0 : Int) ≤ (m.length : Int) := by omega
        obtain ⟨w4, hw4⟩ : ∃ W, w3.alloc (.cells #[.int .i64 s0, .int .i64 s1, .int .i64 s2, .int .i64 s3, .int .i64 s4, .int .i64 s5, .int .i64 s6, .int .i64 s7] 82) = W := ⟨_, rfl⟩
        have A4 : Hid (Arr w4 w3.heap.size 82 [s0, s1, s2, s3, s4, s5, s6, s7]) := Lib.hid (by rw [← hw4]; exact Arr.new w3 82 [s0, s1, s2, s3, s4, s5, s6, s7])
        have G4 : Hid (w.grownBy w4 none) := Lib.hid (by rw [← hw4]; exact grown_alloc G3.out _)
        have W4 := Lib.hid hw4
        obtain ⟨L, hL⟩ : ∃ L, [s0, s1, s2, s3, s4, s5, s6, s7].take m.length = L := ⟨_, rfl⟩
        rw [hL] at IB
        have LL : Hid (L.length = m.length) := Lib.hid (by rw [← hL, List.length_take]; simp; omega)
        have LG : Hid (∀ k, k < m.length → L.getD k 0 = [s0, s1, s2, s3, s4, s5, s6, s7].getD k 0) := Lib.hid (fun k hk => by
          rw [← hL, List.getD_eq_getElem?_getD, List.getElem?_take, if_pos hk, ← List.getD_eq_getElem?_getD])
        clear hw4 hL
        go_wp2_with (at_make; rw [W4.out]; refine wpList_make_full _ rfl _ _ 24 rfl w4.heap.size 3 i0 (.int .i64 0) 1 Try.underlying24 I1.out I2.out I3.out _ _ _ _ m.length rfl rfl rfl rfl ?b1 ?b2 ?b3 ?_)
        case b1 => rw [I4.out]; omega
        case b2 => unfold maxLen; omega
        case b3 => exact Nat.le_refl _
        intro w5 ho hg
        have C0 : Hid (Copied w4 L w4.heap.size 0 w5) := by
          refine ⟨Nat.zero_le _, hg, Nat.le_refl _, own_len (n := L.length) ?_ (part_length L 0 (Nat.zero_le _))⟩
          rw [part_none, LL.out]
          simpa using ho
        have A5 := Lib.hid (A4.out.still hg)
        have gt4 : w3.heap.size < w4.heap.size := A4.out.lt
        clear ho hg
        go_wp2_with fail
        go_loopw [43] (fun i wr => ∃ k : Nat, i = .int .i64 k ∧ k ≤ m.length ∧ Copied w4 L w4.heap.size k wr ∧ Arr wr w3.heap.size 82 [s0, s1, s2, s3, s4, s5, s6, s7]) (fun i _ => m.length - (intOf i).toNat)
        case atStart => exact ⟨0, rfl, Nat.zero_le _, C0.out, A5.out⟩
        case round =>
          obtain ⟨k, rfl, hk, hcp, har⟩ := hrel
          have CP := Lib.hid hcp
          have AR := Lib.hid har
          clear hcp har C0 A5
          by_cases hlt : k < m.length
          · have hlt' : (k : Int) < (m.length : Int) := by omega
            have hk8 : (k : Int) < 8 := by omega
            obtain ⟨hy, hf⟩ := CP.out.cell (by rw [LL.out]; exact hlt)
            have hx := AR.out.cell (i := k) (by simp; omega)
            have lg := LG.out k hlt
            obtain ⟨y, hye⟩ : ∃ y, [s0, s1, s2, s3, s4, s5, s6, s7].getD k 0 = y := ⟨_, rfl⟩
            rw [hye] at hx lg
            have LGK := Lib.hid lg
            have gt4' : w3.heap.size ≠ w4.heap.size := by omega
            clear hye lg
            go_wp2_with fail
            go_roundw
            case rel => exact ⟨k + 1, by go_num, by omega, by rw [← LGK.out]; exact CP.out.next (by rw [LL.out]; exact hlt), AR.out.far (p := ⟨w4.heap.size, k, none⟩) gt4' _⟩
            case measure => simp [intOf]; omega
          · have : k = m.length := by omega
            subst this
            go_wp2_with fail
            go_ret2
            refine ⟨_, true, L, rfl, grown_trans G4.out CP.out.2.1, ?_, HH.out.symm, .inl ⟨rfl, OKM.out, OKV.out, by rw [HO.out]; exact IB.out⟩⟩
            have := CP.out.2.2.2
            rw [← LL.out, part_all, LL.out] at this
            exact this.lower G4.out.size
      · have G3 := Lib.hid (grown_alloc (grown_trans G2.out hg) (.cells #[.int .i64 0, .int .i64 0, .int .i64 0, .int .i64 0, .int .i64 0, .int .i64 0, .int .i64 0, .int .i64 0] 82))
        have R : Hid (hasM m l = false) := Lib.hid (by
          cases hh : hasM m l with
          | false => rfl
          | true =>
            have h1 : Sp.has m l = true := by simp [hasM, OKM.out, OKV.out] at hh; exact hh
            rw [HO.out] at h1
            exact absurd (BY.out.2.1.1 h1) hpos)
        clear hg hpos BY
        go_wp2_with fail
        go_ret2
        exact ⟨_, false, [], rfl, G3.out, Own.none_ _ _, ByM.no R.out⟩