/-
  The model's search for a plan.
  Conditions: none.
-/
import Derived.Test.YtlehcpcejkpbmaaDoorPlanSpec
namespace Go.Proofs.YtlehcpcejkpbmaaDoor
open Go.RowKit
set_option linter.unusedVariables false

/-- one round of the search. -/
def stepS (k lost : Nat) (f : List Bool) (n : Nat) (S : List Nat) (at_ i : Nat) : Option (List Nat) := if at_ ≤ i ∧ f.getD i false = true ∧ i ≠ lost then Sp.search k lost f n (S ++ [i]) (i + 1) else none
theorem search_hit {k lost : Nat} {f : List Bool} {n : Nat} {S : List Nat} {at_ j : Nat} {r : List Nat} (hj : j < 8) (h1 : at_ ≤ j) (h2 : f.getD j false = true) (h3 : j ≠ lost) (hno : ∀ i, i < j → stepS k lost f n S at_ i = none) (h : Sp.search k lost f n (S ++ [j]) (j + 1) = some r) : Sp.search k lost f (n + 1) S at_ = some r := by
  show (List.range 8).findSome? (fun i => stepS k lost f n S at_ i) = some r
  refine Sp.findSome_some hj hno ?_
  unfold stepS
  rw [if_pos ⟨h1, h2, h3⟩]; exact h
theorem search_miss {k lost : Nat} {f : List Bool} {n : Nat} {S : List Nat} {at_ : Nat} (hno : ∀ i, i < 8 → stepS k lost f n S at_ i = none) : Sp.search k lost f (n + 1) S at_ = none := by
  show (List.range 8).findSome? (fun i => stepS k lost f n S at_ i) = none
  exact Sp.findSome_none hno
theorem step_skip {k lost : Nat} {f : List Bool} {n : Nat} {S : List Nat} {at_ j : Nat} (h : f.getD j false = false ∨ j = lost) : stepS k lost f n S at_ j = none := by
  unfold stepS
  rw [if_neg]
  rintro ⟨_, h2, h3⟩
  rcases h with h | h
  · rw [h] at h2; cases h2
  · exact h3 h
theorem step_none {k lost : Nat} {f : List Bool} {n : Nat} {S : List Nat} {at_ j : Nat} (h : Sp.search k lost f n (S ++ [j]) (j + 1) = none) : stepS k lost f n S at_ j = none := by
  unfold stepS
  split
  · exact h
  · rfl
theorem step_low {k lost : Nat} {f : List Bool} {n : Nat} {S : List Nat} {at_ j : Nat} (h : j < at_) : stepS k lost f n S at_ j = none := by
  unfold stepS
  rw [if_neg]
  rintro ⟨h1, _⟩
  omega
theorem ints_snoc (S : List Nat) (j : Nat) : Sp.ints S ++ [(j : Int)] = Sp.ints (S ++ [j]) := by simp [Sp.ints]

/-- the zero plan in a block of the function's own. -/
abbrev Zp (w : World) (r : Nat) : Prop := Blk w r 25 [.int .i64 0, .slice none 0 0, .slice none 0 0]
abbrev put3 (w : World) (r : Nat) (x y z : Value) : World := ((w.setCell ⟨r, 0, none⟩ x).setCell ⟨r, 1, none⟩ y).setCell ⟨r, 2, none⟩ z
theorem Zp.put3 {w : World} {r : Nat} (h : Zp w r) (x y z : Value) : Blk (put3 w r x y z) r 25 [x, y, z] := ((h.put 0 x).put 1 y).put 2 z
theorem put3_grown {w0 w : World} {r : Nat} (hg : w0.grownBy w none) (hr : w0.heap.size ≤ r) (x y z : Value) : w0.grownBy (put3 w r x y z) none := grown_set (grown_set (grown_set hg hr _) hr _) hr _
theorem put3_two {w : World} {r base : Nat} {u v : Value} {l m : List Int} (h : TwoOwn w (r + 1) u v l m) (hb : base ≤ r) (x y z : Value) : TwoOwn (put3 w r x y z) base u v l m := by
  have gs : w.grownBy (Go.Proofs.YtlehcpcejkpbmaaDoor.put3 w r x y z) (some r) := grown_at (grown_at (grown_at (World.grownBy.refl w (some r)) 0 _) 1 _) 2 _
  exact TwoOwn.lower ⟨h.1.kept gs (.inr fun e => far_own h.1 (by omega) e.symm), h.2.1.kept gs (.inr fun e => far_own h.2.1 (by omega) e.symm), h.2.2⟩ (by omega)
theorem TwoOwn.form {w : World} {base : Nat} {u v : Value} {l m : List Int} (h : TwoOwn w base u v l m) : ∃ a n c b k d, u = .slice a n c ∧ v = .slice b k d := by
  obtain ⟨a, c, e, _⟩ := h.1.sl
  obtain ⟨b, d, e', _⟩ := h.2.1.sl
  exact ⟨a, _, c, b, _, d, e, e'⟩

set_option maxHeartbeats 4000000 in
set_option maxRecDepth 20000 in
theorem searchZero {k lost : Nat} (hk : k = 1 ∨ k = 2) (hl : lost < 8) (f : List Bool) (v : Value) (S : List Nat) (at_ : Nat) (hS : ∀ i ∈ S, i < 8) (h1 : 1 ≤ S.length) (h4 : S.length ≤ 4) (u : Value) (w : World) (h : Sl w u (Sp.ints S)) :
    Calls Tryd.prog 94 #[.int .i64 k, .int .i64 lost, v, u, .int .i64 at_, .int .i64 0] w (FoundP k lost (Sp.search k lost f 0 S at_) w) := by
  have e : Sp.search k lost f 0 S at_ = if Sp.can k lost S then some S else none := rfl
  rw [e]
  clear e
  have C := Lib.hid (fun (w : World) (h : Sl w u (Sp.ints S)) => specL11Plan hk hl S hS h1 h4 u w h)
  generalize (if Sp.can k lost S then some S else none) = q at *
  have R0 : Hid (Zp (w.alloc (.cells #[.int .i64 0, .slice none 0 0, .slice none 0 0] 25)) w.heap.size) := Lib.hid (heap_alloc_new _ _)
  have G0 := Lib.hid (grown_alloc (World.grownBy.refl w none) (.cells #[.int .i64 0, .slice none 0 0, .slice none 0 0] 25))
  have H := Lib.hid h
  clear h hS h1 h4
  go_enter Tryd.func94, Tryd.ntmps94
  go_wp2_with fail
  generalize w.alloc (.cells #[.int .i64 0, .slice none 0 0, .slice none 0 0] 25) = w0 at *
  obtain ⟨r, hr⟩ : ∃ r, r = w.heap.size := ⟨_, rfl⟩
  rw [← hr] at R0 ⊢
  have RL : w.heap.size ≤ r := by omega
  clear hr
  refine (C.out _ (H.out.grown G0.out)).mono ?_
  rintro e w1 ⟨hg, hc⟩
  have R1 := Lib.hid (R0.out.kept hg (by simp))
  have G1 := Lib.hid (grown_trans G0.out hg)
  have s1 := R0.out.lt
  have k0 := R1.out.cell (i := 0) rfl
  have k1 := R1.out.cell (i := 1) rfl
  have k2 := R1.out.cell (i := 2) rfl
  have f0 := R1.out.frozen 0
  have f1 := R1.out.frozen 1
  have f2 := R1.out.frozen 2
  clear hg R0 G0 C H
  rcases hc with ⟨S', c, p, x, hq, hb, rfl, ht⟩ | ⟨hq, rfl⟩
  · obtain ⟨a1, n1, c1, a2, n2, c2, rfl, rfl⟩ := ht.form
    have T1 := Lib.hid (put3_two (ht.lower (show r + 1 ≤ w0.heap.size from s1)) RL (.int .i64 lost) (.slice a1 n1 c1) (.slice a2 n2 c2))
    have G2 := Lib.hid (put3_grown G1.out RL (.int .i64 lost) (.slice a1 n1 c1) (.slice a2 n2 c2))
    have R2 := Lib.hid (Zp.put3 R1.out (.int .i64 lost) (.slice a1 n1 c1) (.slice a2 n2 c2))
    have Q := Lib.hid hq
    clear ht G1 R1 hq
    go_wp2_with fail
    exact bodyPost_ret (v := .tuple #[.agg #[.int .i64 lost, .slice a1 n1 c1, .slice a2 n2 c2], .bool true]) (results_row_slot Tryd.results94 _ _ r _ _ _ _ _ rfl rfl R2.out Tryd.underlying25 rfl (by kernel_rfl)) rfl ⟨G2.out, .inl ⟨S', c, _, _, Q.out, hb, rfl, T1.out⟩⟩
  · have G2 := Lib.hid (put3_grown G1.out RL (.int .i64 0) (.slice none 0 0) (.slice none 0 0))
    have R2 := Lib.hid (Zp.put3 R1.out (.int .i64 0) (.slice none 0 0) (.slice none 0 0))
    have Q := Lib.hid hq
    clear G1 R1 hq
    go_wp2_with fail
    exact bodyPost_ret (v := .tuple #[.agg #[.int .i64 0, .slice none 0 0, .slice none 0 0], .bool false]) (results_row_slot Tryd.results94 _ _ r _ _ _ _ _ rfl rfl R2.out Tryd.underlying25 rfl (by kernel_rfl)) rfl ⟨G2.out, .inr ⟨Q.out, rfl⟩⟩

set_option maxHeartbeats 6000000 in
set_option maxRecDepth 20000 in
theorem searchMore {k lost : Nat} (hl : lost < 8) (f : List Bool) (hf : f.length = 8) (av : Option Addr) (cv : Nat) (n : Nat) (hn : n ≤ 3) (S : List Nat) (at_ : Nat) (hS : ∀ i ∈ S, i < 8) (h4 : S.length + n ≤ 3) (ha : at_ ≤ 8) (b o cap : Nat) (w : World)
    (hv : Bl w (.slice av 8 cv) f) (h : Sl w (.slice (some ⟨b, o, none⟩) S.length cap) (Sp.ints S))
    (ih : ∀ (S : List Nat) (at_ : Nat), (∀ i ∈ S, i < 8) → S.length + n ≤ 4 → 1 ≤ S.length → at_ ≤ 8 → ∀ (b o cap : Nat) (w : World), Bl w (.slice av 8 cv) f → Sl w (.slice (some ⟨b, o, none⟩) S.length cap) (Sp.ints S) → Calls Tryd.prog 94 #[.int .i64 k, .int .i64 lost, .slice av 8 cv, .slice (some ⟨b, o, none⟩) S.length cap, .int .i64 at_, .int .i64 n] w (FoundP k lost (Sp.search k lost f n S at_) w)) :
    Calls Tryd.prog 94 #[.int .i64 k, .int .i64 lost, .slice av 8 cv, .slice (some ⟨b, o, none⟩) S.length cap, .int .i64 at_, .int .i64 ((n : Int) + 1)] w (FoundP k lost (Sp.search k lost f (n + 1) S at_) w) := by
  obtain ⟨j0, hi, hz0, hz1, hz2⟩ := info_parts infoInt
  have J1 := Lib.hid hi
  have J2 := Lib.hid hz0
  have J3 := Lib.hid hz1
  have J4 := Lib.hid hz2
  clear hi hz0 hz1 hz2
  have NS : Hid ((Sp.ints S).length = S.length) := Lib.hid (ints_len S)
  obtain ⟨a', cap', e', c1, c2, hr⟩ := h
  injection e' with e1 e2 e3
  subst e1 e3
  rw [NS.out] at c1
  unfold maxLen at c2
  have BV := Lib.hid hv
  obtain ⟨a'', cap'', e', d1, d2, hrb⟩ := hv
  injection e' with e1 e4 e3
  subst e1 e3
  rw [hf] at d1
  unfold maxLen at d2
  have R := Lib.hid hr
  have RB := Lib.hid hrb
  have HS := Lib.hid hS
  have HF := Lib.hid hf
  have IH := Lib.hid ih
  have HIT : Hid (∀ j r, j < 8 → at_ ≤ j → f.getD j false = true → j ≠ lost → (∀ i, i < j → stepS k lost f n S at_ i = none) → Sp.search k lost f n (S ++ [j]) (j + 1) = some r → Sp.search k lost f (n + 1) S at_ = some r) := Lib.hid fun j r h1 h2 h3 h4 h5 h6 => search_hit h1 h2 h3 h4 h5 h6
  have MISS : Hid ((∀ i, i < 8 → stepS k lost f n S at_ i = none) → Sp.search k lost f (n + 1) S at_ = none) := Lib.hid search_miss
  generalize Sp.search k lost f (n + 1) S at_ = q at *
  have R0 : Hid (Zp (w.alloc (.cells #[.int .i64 0, .slice none 0 0, .slice none 0 0] 25)) w.heap.size) := Lib.hid (heap_alloc_new _ _)
  have G0 := Lib.hid (grown_alloc (World.grownBy.refl w none) (.cells #[.int .i64 0, .slice none 0 0, .slice none 0 0] 25))
  have n0 : ((n : Int) + 1 == 0) = false := by rw [beq_eq_false_iff_ne]; omega
  clear hr hrb hS hf ih e2 e4
  go_enter Tryd.func94, Tryd.ntmps94
  go_upto_region 1 with fail
  generalize w.alloc (.cells #[.int .i64 0, .slice none 0 0, .slice none 0 0] 25) = w0 at *
  obtain ⟨r, hr⟩ : ∃ r, r = w.heap.size := ⟨_, rfl⟩
  rw [← hr] at R0 ⊢
  have RL : w.heap.size ≤ r := by omega
  clear hr
  go_wp2_with fail
  clear n0
  go_loopw [14] (fun i wr => ∃ j : Nat, at_ ≤ j ∧ j ≤ 8 ∧ i = .int .i64 j ∧ w.grownBy wr none ∧ Zp wr r ∧ ∀ i, i < j → stepS k lost f n S at_ i = none) (fun i _ => 8 - (intOf i).toNat)
  case atStart => exact ⟨at_, by omega, ha, rfl, G0.out, R0.out, fun i hi => step_low hi⟩
  case round =>
    obtain ⟨j, hj, hj8, rfl, hg, hrr, hno⟩ := hrel
    have GR := Lib.hid hg
    have RR := Lib.hid hrr
    have NO := Lib.hid hno
    clear hg hrr hno R0 G0
    by_cases hlt : j < 8
    · have hlt' : (j : Int) < 8 := by omega
      obtain ⟨bb, ob, rfl, hx⟩ := (RB.out.grown GR.out).at_ (k := j) (by rw [HF.out]; exact hlt)
      cases hfj : f.getD j false with
      | false =>
        rw [hfj] at hx
        have NO' : Hid (∀ i, i < j + 1 → stepS k lost f n S at_ i = none) := Lib.hid fun i hi => by
          rcases Nat.lt_or_ge i j with h | h
          · exact NO.out i h
          · obtain rfl : i = j := by omega
            exact step_skip (.inl hfj)
        clear hfj
        go_wp2_with fail
        go_roundw
        case rel => exact ⟨j + 1, by omega, by omega, by go_num, GR.out, RR.out, NO'.out⟩
        case measure => simp [intOf]; omega
      | true =>
        rw [hfj] at hx
        by_cases hjl : j = lost
        · have NO' : Hid (∀ i, i < j + 1 → stepS k lost f n S at_ i = none) := Lib.hid fun i hi => by
            rcases Nat.lt_or_ge i j with h | h
            · exact NO.out i h
            · obtain rfl : i = j := by omega
              exact step_skip (.inr hjl)
          subst hjl
          clear hfj
          go_wp2_with fail
          go_roundw
          case rel => exact ⟨j + 1, by omega, by omega, by go_num, GR.out, RR.out, NO'.out⟩
          case measure => simp [intOf]; omega
        · have ne : ((j : Int) == lost) = false := by rw [beq_eq_false_iff_ne]; omega
          have HT := Lib.hid (fun r hs => HIT.out j r hlt hj hfj hjl NO.out hs)
          clear hfj
          have O0 : Hid (Own (wr.alloc (.cells #[] 3)) wr.heap.size (.slice (some ⟨wr.heap.size, 0, none⟩) 0 0) []) := Lib.hid (Own.made wr wr.heap.size [] (Nat.le_refl _) (by simp))
          have N0 := Lib.hid (Rds.news ((R.out.grown GR.out).grown (World.grownBy_alloc wr (.cells #[] 3) none)))
          have vl5 : (vals (Sp.ints S)).length = S.length * 1 := by rw [vals_length, NS.out, Nat.mul_one]
          have rlt := RR.out.lt
          go_wp2_with (first
            | (at_builtin; refine wpList_append_own _ rfl _ _ 23 rfl wr.heap.size 3 j0 (.int .i64 0) 1 8 Tryd.underlying23 J1.out J2.out J3.out J4.out rfl (by decide) _ _ _ rfl O0.out ⟨b, o, none⟩ S.length cap (vals (Sp.ints S)) rfl vl5 N0.out (vals_one _) ?d3 ?d4 ?d5 ?_))
          case d3 => simp [maxLen]; omega
          case d4 => simp; omega
          case d5 => simp
          intro xb w3 ho hg _
          have G3 : Hid (wr.grownBy w3 none) := Lib.hid (grown_own (grown_alloc (World.grownBy.refl _ _) _) hg (fun j hj => (World.ownsRow.lt O0.out j hj).1))
          have O3 : Hid (Own w3 wr.heap.size xb (Sp.ints S)) := Lib.hid (by
            unfold Own
            rw [NS.out]
            simpa [vals] using ho)
          have G3' := Lib.hid (grown_trans GR.out G3.out)
          have R3 := Lib.hid (RR.out.kept G3.out (by simp))
          have s3 : wr.heap.size ≤ w3.heap.size := G3.out.size
          have OO := Lib.hid O3.out
          unfold Own at OO
          rw [NS.out] at OO
          clear ho hg O0 N0 vl5
          go_wp2_with (first
            | (at_builtin; refine wpList_append_own _ rfl _ _ 23 rfl wr.heap.size 3 j0 (.int .i64 0) 1 8 Tryd.underlying23 J1.out J2.out J3.out J4.out rfl (by decide) _ _ _ rfl (World.ownsRow.alloc OO.out _) ⟨w3.heap.size, 0, none⟩ 1 1 [.int .i64 j] rfl rfl (one_cell (g := 0)) (vals_one [(j : Int)]) ?c3 ?c4 ?c5 ?_))
          case c3 => unfold maxLen; omega
          case c4 => omega
          case c5 => simp; omega
          intro x5 w5 ho hg _
          have g5 : w3.grownBy w5 xb.ownBlock := grown_trans (World.grownBy_alloc _ _ _) hg
          have O5 : Own w5 wr.heap.size x5 (Sp.ints (S ++ [j])) := by
            rw [← ints_snoc]
            unfold Own
            rw [List.length_append, NS.out]
            simpa [vals] using ho
          have G5 : Hid (w.grownBy w5 none) := Lib.hid (grown_own G3'.out g5 (fun i hi => Nat.le_trans GR.out.size (World.ownsRow.lt OO.out i hi).1))
          have R5 := Lib.hid (R3.out.kept g5 (fun e => by have := (World.ownsRow.lt OO.out r e.symm).1; omega))
          have s5 : r + 1 ≤ w5.heap.size := R5.out.lt
          obtain ⟨T, hT⟩ : ∃ T, T = S ++ [j] := ⟨_, rfl⟩
          have IHT : Hid (∀ (b o cap : Nat) (w : World), Bl w (.slice (some ⟨bb, ob, none⟩) 8 cv) f → Sl w (.slice (some ⟨b, o, none⟩) T.length cap) (Sp.ints T) → Calls Tryd.prog 94 #[.int .i64 k, .int .i64 lost, .slice (some ⟨bb, ob, none⟩) 8 cv, .slice (some ⟨b, o, none⟩) T.length cap, .int .i64 ((j : Int) + 1), .int .i64 n] w (FoundP k lost (Sp.search k lost f n T (j + 1)) w)) := Lib.hid (fun b o cap w h1 h2 => by
            have := IH.out T (j + 1) (by
              rw [hT]
              intro i hi
              rcases List.mem_append.1 hi with hi | hi
              · exact HS.out i hi
              · have := List.mem_singleton.1 hi; omega) (by rw [hT, List.length_append, List.length_singleton]; omega) (by rw [hT, List.length_append, List.length_singleton]; omega) (by omega) b o cap w h1 h2
            rwa [Int.natCast_succ] at this)
          have ST : Hid (Sp.search k lost f n T (j + 1) = none → ∀ i, i < j + 1 → stepS k lost f n S at_ i = none) := Lib.hid fun h i hi => by
            rcases Nat.lt_or_ge i j with h' | h'
            · exact NO.out i h'
            · obtain rfl : i = j := by omega
              rw [hT] at h
              exact step_none h
          rw [← hT] at O5 HT
          have IL := ints_len T
          obtain ⟨a5, c5, e5, _, _, hr5⟩ := O5.sl
          have TL : 0 < T.length := by rw [hT, List.length_append, List.length_singleton]; omega
          rw [IL] at e5
          obtain ⟨b5, o5, rfl, _⟩ := hr5.at_ (k := 0) (by rw [IL]; exact TL)
          subst e5
          have SL5 := Lib.hid O5.sl
          clear ho hg g5 O5 hT hr5 TL IL OO O3 G3 G3' R3 GR RR HIT NO hx
          generalize Sp.search k lost f n T (j + 1) = q' at *
          generalize T.length = tl at *
          go_wp2_with fail
          refine (IHT.out _ _ _ _ (BV.out.grown G5.out) SL5.out).mono ?_
          rintro e w6 ⟨hg, hc⟩
          have R6 := Lib.hid (R5.out.kept hg (by simp))
          have G6 := Lib.hid (grown_trans G5.out hg)
          have s6 : r + 1 ≤ w6.heap.size := R6.out.lt
          clear IHT SL5
          rcases hc with ⟨S', c, p, x, hq, hb, rfl, ht⟩ | ⟨hq, rfl⟩
          · obtain ⟨a1, n1, c1, a2, n2, c2, rfl, rfl⟩ := ht.form
            have Q := Lib.hid (HT.out S' hq)
            have ga := World.grownBy_alloc w6 (.cells #[.int .i64 lost, .slice a1 n1 c1, .slice a2 n2 c2] 25) none
            have R7 := Lib.hid (R6.out.kept ga (by simp))
            have T7 := Lib.hid (put3_two ((ht.lower s5).still ga) RL (.int .i64 lost) (.slice a1 n1 c1) (.slice a2 n2 c2))
            have G7 := Lib.hid (put3_grown (grown_trans G6.out ga) RL (.int .i64 lost) (.slice a1 n1 c1) (.slice a2 n2 c2))
            have R8 := Lib.hid (Zp.put3 R7.out (.int .i64 lost) (.slice a1 n1 c1) (.slice a2 n2 c2))
            have k0 := R7.out.cell (i := 0) rfl
            have k1 := R7.out.cell (i := 1) rfl
            have k2 := R7.out.cell (i := 2) rfl
            have f0 := R7.out.frozen 0
            have f1 := R7.out.frozen 1
            have f2 := R7.out.frozen 2
            clear hg hq ht ga HT ST R5 G5
            go_wp2_with fail
            exact bodyPost_ret (v := .tuple #[.agg #[.int .i64 lost, .slice a1 n1 c1, .slice a2 n2 c2], .bool true]) (results_row_slot Tryd.results94 _ _ r _ _ _ _ _ rfl rfl R8.out Tryd.underlying25 rfl (by kernel_rfl)) rfl ⟨G7.out, .inl ⟨S', c, _, _, Q.out, hb, rfl, T7.out⟩⟩
          · have ga := World.grownBy_alloc w6 (.cells #[.int .i64 0, .slice none 0 0, .slice none 0 0] 25) none
            have R7 := Lib.hid (R6.out.kept ga (by simp))
            have G7 := Lib.hid (grown_trans G6.out ga)
            have ST' := Lib.hid (ST.out hq)
            clear hg hq ga HT ST R5 G5
            go_wp2_with fail
            go_roundw
            case rel => exact ⟨j + 1, by omega, by omega, by go_num, G7.out, R7.out, ST'.out⟩
            case measure => simp [intOf]; omega
    · obtain rfl : j = 8 := by omega
      have QN := Lib.hid (MISS.out NO.out)
      have k0 := RR.out.cell (i := 0) rfl
      have k1 := RR.out.cell (i := 1) rfl
      have k2 := RR.out.cell (i := 2) rfl
      have f0 := RR.out.frozen 0
      have f1 := RR.out.frozen 1
      have f2 := RR.out.frozen 2
      have G2 := Lib.hid (put3_grown GR.out RL (.int .i64 0) (.slice none 0 0) (.slice none 0 0))
      have R2 := Lib.hid (Zp.put3 RR.out (.int .i64 0) (.slice none 0 0) (.slice none 0 0))
      go_wp2_with fail
      exact bodyPost_ret (v := .tuple #[.agg #[.int .i64 0, .slice none 0 0, .slice none 0 0], .bool false]) (results_row_slot Tryd.results94 _ _ r _ _ _ _ _ rfl rfl R2.out Tryd.underlying25 rfl (by kernel_rfl)) rfl ⟨G2.out, .inr ⟨QN.out, rfl⟩⟩

theorem specL11Search {k lost : Nat} (hk : k = 1 ∨ k = 2) (hl : lost < 8) (f : List Bool) (hf : f.length = 8) (av : Option Addr) (cv : Nat) : ∀ (n : Nat) (S : List Nat) (at_ : Nat), (∀ i ∈ S, i < 8) → S.length + n ≤ 4 → 1 ≤ S.length + n → at_ ≤ 8 → ∀ (b o cap : Nat) (w : World), Bl w (.slice av 8 cv) f → Sl w (.slice (some ⟨b, o, none⟩) S.length cap) (Sp.ints S) →
    Calls Tryd.prog 94 #[.int .i64 k, .int .i64 lost, .slice av 8 cv, .slice (some ⟨b, o, none⟩) S.length cap, .int .i64 at_, .int .i64 n] w (FoundP k lost (Sp.search k lost f n S at_) w) := by
  intro n
  induction n with
  | zero => intro S at_ hS h4 h1 ha b o cap w hv h; exact searchZero hk hl f _ S at_ hS (by omega) (by omega) _ w h
  | succ n ih =>
    intro S at_ hS h4 h1 ha b o cap w hv h
    rw [Int.natCast_succ]
    exact searchMore hl f hf av cv n (by omega) S at_ hS (by omega) ha b o cap w hv h (fun S at_ h1 h2 h3 h4 => ih S at_ h1 h2 (by omega) h4)
end Go.Proofs.YtlehcpcejkpbmaaDoor
