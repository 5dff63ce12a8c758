/-
  The contract of the model's ProgRow.
  Conditions: none.
-/
import Derived.Test.YtlehcpcejkpbmaaDoorSpecRun
import Derived.Test.YtlehcpcejkpbmaaDoorRowMath
import Derived.Test.YtlehcpcejkpbmaaDoorProgRowP
import Derived.Test.YtlehcpcejkpbmaaDoorG3
namespace Go.Proofs.YtlehcpcejkpbmaaDoor
open Go.RowKit
set_option linter.unusedVariables false

/-- the rows that the first m steps make. -/
def rowsR (k : Nat) (L : List Stp) (m : Nat) : List (List Int) := (List.range m).map (rowR k L)
theorem rowsR_len (k : Nat) (L : List Stp) (m : Nat) : (rowsR k L m).length = m := by simp [rowsR]
theorem rowsR_get (k : Nat) (L : List Stp) {m j : Nat} (h : j < m) : (rowsR k L m)[j]? = some (rowR k L j) := by simp [rowsR, h]
theorem rowsR_next (k : Nat) (L : List Stp) (m : Nat) : rowsR k L m ++ [rowR k L m] = rowsR k L (m + 1) := by simp [rowsR, List.range_succ]
/-- what is known while rows are made. -/
structure SRow (w : World) (k : Nat) (L : List Stp) (m : Nat) (o : Value) (vs : List Value) (wr : World) : Prop where
  grown : w.grownBy wr none
  tab : STab wr w.heap.size o vs (rowsR k L m)
theorem SRow.len {w wr : World} {k m : Nat} {L : List Stp} {o : Value} {vs : List Value} (h : SRow w k L m o vs wr) : vs.length = m := by rw [h.tab.len, rowsR_len]
theorem SRow.top {w wr : World} {k m : Nat} {L : List Stp} {o : Value} {vs : List Value} (h : SRow w k L m o vs wr) : wr.ownsRow w.heap.size 23 1 o m vs := by
  have := h.tab.top
  rwa [h.len] at this
theorem SRow.topStill {w wr w1 : World} {k m : Nat} {L : List Stp} {o : Value} {vs : List Value} (h : SRow w k L m o vs wr) (hg : wr.grownBy w1 none) : w1.ownsRow w.heap.size 23 1 o m vs := World.ownsRow.kept h.top hg (by cases o.ownBlock <;> simp)
theorem SRow.form {w wr : World} {k m : Nat} {L : List Stp} {o : Value} {vs : List Value} (h : SRow w k L m o vs wr) (hm : 0 < m) : ∃ g c, o = .slice (some ⟨g, 0, none⟩) m c ∧ w.heap.size ≤ g ∧ g < wr.heap.size := World.ownsRow.form h.top hm
theorem SRow.at_ {w wr : World} {k m g c : Nat} {L : List Stp} {vs : List Value} (h : SRow w k L m (.slice (some ⟨g, 0, none⟩) m c) vs wr) {j : Nat} (hj : j < m) :
    ∃ au cu, vs[j]? = some (.slice au 4 cu) ∧ wr.cell? ⟨g, j, none⟩ = some (.slice au 4 cu) ∧ Sl wr (.slice au 4 cu) (rowR k L j) := by
  have hl := h.len
  obtain ⟨u, hu⟩ : ∃ u, vs[j]? = some u := ⟨_, List.getElem?_eq_getElem (by omega)⟩
  have hs := (h.tab.rows j u _ hu (rowsR_get k L hj)).1
  obtain ⟨au, cu, e, _, _, _⟩ := hs
  have e' : u = .slice au 4 cu := e
  subst e'
  refine ⟨au, cu, hu, ?_, (h.tab.rows j _ _ hu (rowsR_get k L hj)).1⟩
  have := World.ownsRow.cells h.top (g := g) rfl j _ hu
  rw [Addr.add_lit] at this
  simpa using this
theorem SRow.next {w wr w1 w2 w3 : World} {k m n : Nat} {L : List Stp} {o o' u : Value} {vs : List Value} {l : List Int} (h : SRow w k L m o vs wr) (hg : wr.grownBy w1 none) (hu : Sl w1 u l ∧ IntRow w1 u) (hg2 : w1.grownBy w2 none) (hg3 : w2.grownBy w3 o.ownBlock) (ho : w3.ownsRow w.heap.size 23 1 o' n (vs ++ [u])) (hn : n = m + 1) (e : rowR k L m = l) : SRow w k L (m + 1) o' (vs ++ [u]) w3 :=
  ⟨grown_own (grown_trans (grown_trans h.grown hg) hg2) hg3 (fun j hj => (World.ownsRow.lt h.top j hj).1),
    h.tab.snoc (grown_trans hg hg2) ⟨hu.1.grown hg2, hu.2.still hg2⟩ hg3 ho (by rw [h.len]; exact hn) (by rw [← e]; exact rowsR_next k L m)⟩
theorem row4_of {a b c d : Int} (h : Vec.ok [a, b, c, d] = true) : Sp.Row 4 [a, b, c, d] := Sp.row_ok.1 h

set_option maxHeartbeats 16000000 in
set_option maxRecDepth 20000 in
theorem specRowYes {k : Nat} (hk : k = 1 ∨ k = 2) (v : Value) (L : List Stp) (w : World) (h : SSl w v L) :
    Calls Tryd.prog 41 #[.int .i64 k, v] w fun en w' => ∃ u, en = .returned (.tuple #[u, .bool (prB k L)]) ∧ w.grownBy w' none ∧ Sl w' u (prR k L) := by
  have H := Lib.hid h
  obtain ⟨a1, c1, rfl, p1, p2, hr1⟩ := h
  have R1 : Hid (Rds w a1 (sflat L)) := Lib.hid hr1
  unfold maxLen at p2
  obtain ⟨n, hn⟩ : ∃ n, n = L.length := ⟨_, rfl⟩
  rw [← hn] at H p1 ⊢
  have N := Lib.hid hn
  clear hr1 hn
  have PB := Lib.hid (prB_yes hk L)
  have PR : Hid (prR (k : Int) L = bif prB (k : Int) L then rowV k L else []) := Lib.hid (by unfold prR; rw [Int.toNat_natCast])
  generalize prR (k : Int) L = ar at *
  generalize prB (k : Int) L = ab at *
  obtain ⟨i0, hi, hz0, hz1, hz2⟩ := info_parts infoInts
  have I1 := Lib.hid hi
  have I2 := Lib.hid hz0
  have I3 := Lib.hid hz1
  have I4 := Lib.hid hz2
  clear hi hz0 hz1 hz2
  have KM : kindM (k : Int) = true := kindM_yes hk
  go_enter Tryd.func41, Tryd.ntmps41
  go_wp2_with fail
  refine (specKind (k : Int) _).mono ?_
  rintro e' w' ⟨rfl, rfl⟩
  rw [KM]
  clear KM
  go_wp2_with fail
  refine (specProgOk _ L _ H.out).mono ?_
  rintro e' w1 ⟨rfl, hg⟩
  have G1 := Lib.hid hg
  have PO := Lib.hid (progOk_out (L := L))
  obtain ⟨q, hq⟩ : ∃ q, progOk L = q := ⟨_, rfl⟩
  rw [hq] at PB PO ⊢
  clear hq hg
  cases q with
  | false =>
    obtain rfl : ab = false := PB.out
    obtain rfl : ar = [] := PR.out
    have SN : Hid (Sl (w1.alloc (.cells #[] 3)) (.slice (some ⟨w1.heap.size, 0, none⟩) 0 0) []) := Lib.hid ⟨_, 0, rfl, by simp, by simp [maxLen], .inr ⟨w1.heap.size, 0, rfl, fun i hi => by simp at hi⟩⟩
    go_wp2_with fail
    exact bodyPost_ret (v := .tuple #[.slice (some ⟨w1.heap.size, 0, none⟩) 0 0, .bool false]) (by simp [results, Tryd.results41, go_sem]) rfl ⟨_, rfl, grown_alloc G1.out _, SN.out⟩
  | true =>
    obtain rfl : ab = true := PB.out
    obtain rfl : ar = rowV k L := PR.out
    obtain ⟨⟨l1, l16⟩, lo⟩ := PO.out (by first | rfl | trivial)
    rw [← N.out] at l1 l16
    have LO := Lib.hid lo
    have S0 : Hid (SRow w k L 0 (.slice (some ⟨w1.heap.size, 0, none⟩) 0 0) [] (w1.alloc (.cells #[] 23))) := Lib.hid ⟨grown_alloc G1.out _, STab.made w1 w.heap.size G1.out.size⟩
    clear lo PO PB PR
    go_wp2_with fail
    generalize w1.alloc (.cells #[] 23) = w3 at *
    generalize w1.heap.size = gn0 at *
    go_loopw [6, 7] (fun o i wr => ∃ m : Nat, m ≤ n ∧ i = .int .i64 m ∧ ∃ vs, SRow w k L m o vs wr) (fun _ i _ => n - (intOf i).toNat)
    case atStart => exact ⟨0, by omega, rfl, [], S0.out⟩
    case round =>
      obtain ⟨m, hm, rfl, vs, hs⟩ := hrel
      have S := Lib.hid hs
      clear hs S0
      have szw : w.heap.size ≤ wr.heap.size := S.out.grown.size
      by_cases hlt : m < n
      · have hlt' : (m : Int) < (n : Int) := by omega
        have hmL : m < L.length := by rw [← N.out]; exact hlt
        obtain ⟨b, o, rfl, c0, c1, c2⟩ := cells3 (R1.out.grown S.out.grown) hmL
        have lbw : b < w.heap.size := by
          obtain ⟨b', o', e', d0, _⟩ := cells3 R1.out hmL
          injection e' with e'
          injection e' with e1 _
          subst e1
          exact lt_of_cell d0
        have lb : b < wr.heap.size := lt_of_cell c0
        have OK := LO.out m hmL
        have HL := Lib.hid hmL
        obtain ⟨s, hs⟩ : ∃ s, L.getD m szero = s := ⟨_, rfl⟩
        rw [hs] at c0 c1 c2 OK
        have HS := Lib.hid hs
        clear hs
        obtain ⟨po, x, y⟩ := s
        have c0' : wr.cell? ⟨b, o + m * 3, none⟩ = some (.int .i64 po) := c0
        have c1' : wr.cell? ⟨b, o + m * 3 + 1, none⟩ = some (.int .i64 x) := c1
        have c2' : wr.cell? ⟨b, o + m * 3 + 2, none⟩ = some (.int .i64 y) := c2
        clear c0 c1 c2
        rcases OK with ⟨ho, hx, hy⟩ | ⟨ho, hx, hy⟩ | ⟨ho, hx, hy⟩
        · have ho' : po = 1 := ho
          have hy' : y = 0 := hy
          subst ho' hy'
          obtain ⟨j, hj, hje⟩ := below_m (n := 8) hx.1 hx.2
          have hje' : x = j := hje
          subst hje'
          clear ho hy hx hje
          have RW : Hid (rowR k L m = Sp.crow k j) := Lib.hid (rowR_load hk HL.out HS.out hj)
          have RN := Lib.hid (fun w => specL4Row hk hj w)
          have r4 := Lib.hid (Sp.crow_row hk hj).1
          generalize Sp.crow k j = row at *
          go_wp2_with fail
          refine (RN.out _).mono ?_
          rintro e w4 ⟨u, rfl, hg, ho⟩
          have G4 := Lib.hid hg
          have R4 : Hid (Sl w4 u row ∧ IntRow w4 u) := Lib.hid ⟨ho.sl, ho.intRow⟩
          have TOP := Lib.hid (S.out.topStill hg)
          obtain ⟨au, cu, eu, _, _, _⟩ := ho.sl
          rw [r4.out] at eu
          subst eu
          have s4 : w.heap.size ≤ w4.heap.size := Nat.le_trans szw G4.out.size
          clear hg ho
          go_wp2_with (first
            | (at_builtin; refine wpList_append_own _ rfl _ _ 94 rfl w.heap.size 23 i0 (.slice none 0 0) 1 24 Tryd.underlying94 I1.out I2.out I3.out I4.out rfl (by decide) _ _ _ rfl (World.ownsRow.alloc TOP.out _) ⟨w4.heap.size, 0, none⟩ 1 1 [.slice au 4 cu] rfl rfl (one_cell (g := 0)) (by simp [Value.oneCell']) ?c3 ?c4 ?c5 ?_))
          case c3 => unfold maxLen; omega
          case c4 => omega
          case c5 => simp; omega
          intro o' w5 ho2 hg2 _
          have S9 := Lib.hid (S.out.next G4.out R4.out (World.grownBy_alloc _ _ _) hg2 ho2 rfl RW.out)
          clear ho2 hg2 TOP R4 G4 S c0' c1' c2'
          go_wp2_with fail
          go_roundw
          case rel => exact ⟨m + 1, by omega, by go_num, _, S9.out⟩
          case measure => simp [intOf]; omega
        · have ho' : po = 2 := ho
          subst ho'
          obtain ⟨j, hj, hje⟩ := below_m (n := m) hx.1 hx.2
          have hje' : x = j := hje
          subst hje'
          have OY : Hid (Fld.ok y = true) := Lib.hid hy
          clear ho hy hx hje
          have hj' : (j : Int) < (m : Int) := by omega
          obtain ⟨r0, r1, r2, r3, hr⟩ := rowR_four k L j
          have OR : Hid (Sp.Row 4 [r0, r1, r2, r3]) := Lib.hid (row4_of (by rw [← hr]; exact rowR_ok hk L j))
          have RW : Hid (rowR k L m = Sp.lmul [r0, r1, r2, r3] y) := Lib.hid (rowR_mul HL.out HS.out hj hr)
          obtain ⟨gn, cn, hv, hbn, hgn⟩ := S.out.form (by omega)
          subst hv
          obtain ⟨au, cu, hvj, d0, su⟩ := S.out.at_ hj
          rw [hr] at su
          have SU := Lib.hid su
          have JV := Lib.hid hvj
          have NB : Hid (some b ≠ some gn) := Lib.hid (fun e => by injection e with e; omega)
          have GD := Lib.hid (grown_drew (World.grownBy.refl wr none))
          clear hr hvj su
          go_wp2_with fail
          go_region_held3 (fun w' => w'.cell? ⟨b, o + m * 3 + 1, none⟩ = some (.int .i64 j) ∧ w'.cell? ⟨b, o + m * 3 + 2, none⟩ = some (.int .i64 y) ∧ w'.cell? ⟨gn, j, none⟩ = some (.slice au 4 cu))
            (first
              | with_reducible exact K9.out
              | with_reducible exact H5.out
              | go_keep)
            (first
              | (refine step_append_keeps _ (by rfl) _ _ _ (by rfl) w.heap.size 23 i0 (.slice none 0 0) 1 24 Tryd.underlying94 I1.out I2.out I3.out I4.out rfl (by omega) gn cn m vs (by rfl) (World.ownsRow.alloc TOP5.out _)
                  ⟨w5.heap.size, 0, none⟩ 1 1 [.slice a5 4 c5] (by rfl) (by rfl) (one_cell (g := 0)) (by simp [Value.oneCell'])
                  (by omega) (by unfold maxLen; omega) (by omega) (by simp; omega) ?_; intro v9 w9 ho hg hkp
                 have K9 : Hid (w9.cell? ⟨b, o + m * 3 + 1, none⟩ = some (.int .i64 j) ∧ w9.cell? ⟨b, o + m * 3 + 2, none⟩ = some (.int .i64 y) ∧ w9.cell? ⟨gn, j, none⟩ = some (.slice au 4 cu)) := Lib.hid (by
                   refine ⟨?_, ?_, hkp j _ JV.out⟩
                   · rw [hg.cell_far _ (by simp; omega) NB.out]; go_keep
                   · rw [hg.cell_far _ (by simp; omega) NB.out]; go_keep))
              | (go_at_call 58; refine (specMul _ 4 [r0, r1, r2, r3] y _ (SU.out.grown GD.out) OR.out OY.out (by omega)).mono ?_; rintro en w5 ⟨v5, rfl, hg5, ho5⟩
                 obtain ⟨a5, c5, e5, _, _, _⟩ := ho5.sl
                 have e5' : v5 = .slice a5 4 c5 := e5
                 subst e5'
                 clear e5
                 have G5 := Lib.hid (grown_trans GD.out hg5)
                 have R5 : Hid (Sl w5 (.slice a5 4 c5) (Sp.lmul [r0, r1, r2, r3] y) ∧ IntRow w5 (.slice a5 4 c5)) := Lib.hid ⟨ho5.sl, ho5.intRow⟩
                 have TOP5 := Lib.hid (S.out.topStill G5.out)
                 have h50 := G5.out.cell c1' (by simp)
                 have h51 := G5.out.cell c2' (by simp)
                 have h52 := G5.out.cell d0 (by simp)
                 have H5 : Hid (w5.cell? ⟨b, o + m * 3 + 1, none⟩ = some (.int .i64 j) ∧ w5.cell? ⟨b, o + m * 3 + 2, none⟩ = some (.int .i64 y) ∧ w5.cell? ⟨gn, j, none⟩ = some (.slice au 4 cu)) := Lib.hid ⟨h50, h51, h52⟩
                 have s5 : w.heap.size ≤ w5.heap.size := Nat.le_trans szw G5.out.size
                 have b5 : b < w5.heap.size := Nat.lt_of_lt_of_le lb G5.out.size
                 have g5 : gn < w5.heap.size := Nat.lt_of_lt_of_le hgn G5.out.size
                 clear hg5 ho5))
          have S9 := Lib.hid (S.out.next G5.out R5.out (World.grownBy_alloc _ _ _) hg ho rfl RW.out)
          clear ho hg hkp K9 H5 TOP5 R5 G5 S c0' c1' c2' d0 h50 h51 h52
          go_wp2_with fail
          go_roundw
          case rel => exact ⟨m + 1, by omega, by go_num, _, S9.out⟩
          case measure => simp [intOf]; omega
        · have ho' : po = 3 := ho
          subst ho'
          obtain ⟨j, hj, hje⟩ := below_m (n := m) hx.1 hx.2
          have hje' : x = j := hje
          subst hje'
          obtain ⟨i, hi, hie⟩ := below_m (n := m) hy.1 hy.2
          have hie' : y = i := hie
          subst hie'
          clear ho hy hx hje hie
          have hi' : (i : Int) < (m : Int) := by omega
          have hj' : (j : Int) < (m : Int) := by omega
          obtain ⟨r0, r1, r2, r3, hr⟩ := rowR_four k L j
          have OR : Hid (Sp.Row 4 [r0, r1, r2, r3]) := Lib.hid (row4_of (by rw [← hr]; exact rowR_ok hk L j))
          obtain ⟨s0, s1, s2, s3, hs'⟩ := rowR_four k L i
          have OS : Hid (Sp.Row 4 [s0, s1, s2, s3]) := Lib.hid (row4_of (by rw [← hs']; exact rowR_ok hk L i))
          have RW : Hid (rowR k L m = Sp.ladd [r0, r1, r2, r3] [s0, s1, s2, s3]) := Lib.hid (rowR_add HL.out HS.out hj hi hr hs')
          obtain ⟨gn, cn, hv, hbn, hgn⟩ := S.out.form (by omega)
          subst hv
          obtain ⟨au, cu, hvj, d0, su⟩ := S.out.at_ hj
          rw [hr] at su
          have SU := Lib.hid su
          have JV := Lib.hid hvj
          obtain ⟨av, cv, hvi, d1, sv⟩ := S.out.at_ hi
          rw [hs'] at sv
          have SV := Lib.hid sv
          have JI := Lib.hid hvi
          have NB : Hid (some b ≠ some gn) := Lib.hid (fun e => by injection e with e; omega)
          have GD := Lib.hid (grown_drew (World.grownBy.refl wr none))
          clear hr hvj su hs' hvi sv
          go_wp2_with fail
          go_region_held3 (fun w' => w'.cell? ⟨b, o + m * 3 + 1, none⟩ = some (.int .i64 j) ∧ w'.cell? ⟨b, o + m * 3 + 2, none⟩ = some (.int .i64 i) ∧ w'.cell? ⟨gn, j, none⟩ = some (.slice au 4 cu) ∧ w'.cell? ⟨gn, i, none⟩ = some (.slice av 4 cv))
            (first
              | with_reducible exact K9.out
              | with_reducible exact H5.out
              | go_keep)
            (first
              | (refine step_append_keeps _ (by rfl) _ _ _ (by rfl) w.heap.size 23 i0 (.slice none 0 0) 1 24 Tryd.underlying94 I1.out I2.out I3.out I4.out rfl (by omega) gn cn m vs (by rfl) (World.ownsRow.alloc TOP5.out _)
                  ⟨w5.heap.size, 0, none⟩ 1 1 [.slice a5 4 c5] (by rfl) (by rfl) (one_cell (g := 0)) (by simp [Value.oneCell'])
                  (by omega) (by unfold maxLen; omega) (by omega) (by simp; omega) ?_; intro v9 w9 ho hg hkp
                 have K9 : Hid (w9.cell? ⟨b, o + m * 3 + 1, none⟩ = some (.int .i64 j) ∧ w9.cell? ⟨b, o + m * 3 + 2, none⟩ = some (.int .i64 i) ∧ w9.cell? ⟨gn, j, none⟩ = some (.slice au 4 cu) ∧ w9.cell? ⟨gn, i, none⟩ = some (.slice av 4 cv)) := Lib.hid (by
                   refine ⟨?_, ?_, hkp j _ JV.out, hkp i _ JI.out⟩
                   · rw [hg.cell_far _ (by simp; omega) NB.out]; go_keep
                   · rw [hg.cell_far _ (by simp; omega) NB.out]; go_keep))
              | (go_at_call 57; refine (specAdd _ _ 4 [r0, r1, r2, r3] [s0, s1, s2, s3] _ (SU.out.grown GD.out) (SV.out.grown GD.out) OR.out OS.out (by omega)).mono ?_; rintro en w5 ⟨v5, rfl, hg5, ho5⟩
                 obtain ⟨a5, c5, e5, _, _, _⟩ := ho5.sl
                 have e5' : v5 = .slice a5 4 c5 := e5
                 subst e5'
                 clear e5
                 have G5 := Lib.hid (grown_trans GD.out hg5)
                 have R5 : Hid (Sl w5 (.slice a5 4 c5) (Sp.ladd [r0, r1, r2, r3] [s0, s1, s2, s3]) ∧ IntRow w5 (.slice a5 4 c5)) := Lib.hid ⟨ho5.sl, ho5.intRow⟩
                 have TOP5 := Lib.hid (S.out.topStill G5.out)
                 have h50 := G5.out.cell c1' (by simp)
                 have h51 := G5.out.cell c2' (by simp)
                 have h52 := G5.out.cell d0 (by simp)
                 have h53 := G5.out.cell d1 (by simp)
                 have H5 : Hid (w5.cell? ⟨b, o + m * 3 + 1, none⟩ = some (.int .i64 j) ∧ w5.cell? ⟨b, o + m * 3 + 2, none⟩ = some (.int .i64 i) ∧ w5.cell? ⟨gn, j, none⟩ = some (.slice au 4 cu) ∧ w5.cell? ⟨gn, i, none⟩ = some (.slice av 4 cv)) := Lib.hid ⟨h50, h51, h52, h53⟩
                 have s5 : w.heap.size ≤ w5.heap.size := Nat.le_trans szw G5.out.size
                 have b5 : b < w5.heap.size := Nat.lt_of_lt_of_le lb G5.out.size
                 have g5 : gn < w5.heap.size := Nat.lt_of_lt_of_le hgn G5.out.size
                 clear hg5 ho5))
          have S9 := Lib.hid (S.out.next G5.out R5.out (World.grownBy_alloc _ _ _) hg ho rfl RW.out)
          clear ho hg hkp K9 H5 TOP5 R5 G5 S c0' c1' c2' d0 h50 h51 h52 d1 h53
          go_wp2_with fail
          go_roundw
          case rel => exact ⟨m + 1, by omega, by go_num, _, S9.out⟩
          case measure => simp [intOf]; omega
      · obtain rfl : m = n := by omega
        obtain ⟨q, rfl⟩ : ∃ q, m = q + 1 := ⟨m - 1, by omega⟩
        obtain ⟨gn, cn, hv, _, _⟩ := S.out.form (by omega)
        subst hv
        obtain ⟨au, cu, _, d0, su⟩ := S.out.at_ (show q < q + 1 by omega)
        have SU := Lib.hid su
        have VV : Hid (rowR k L q = rowV k L) := Lib.hid (by unfold rowV; rw [← N.out]; rfl)
        have hm1 : ((q + 1 : Nat) : Int) - 1 = q := by omega
        have hm2 : (q : Int) < ((q + 1 : Nat) : Int) := by omega
        clear su
        go_wp2_with fail
        exact bodyPost_ret (v := .tuple #[.slice au 4 cu, .bool true]) (by simp [results, Tryd.results41, go_sem]) rfl ⟨_, rfl, S.out.grown, by rw [← VV.out]; exact SU.out⟩

set_option maxHeartbeats 4000000 in
set_option maxRecDepth 20000 in
theorem specRowNo {k : Int} (h1 : k ≠ 1) (h2 : k ≠ 2) (v : Value) (L : List Stp) (w : World) (h : SSl w v L) :
    Calls Tryd.prog 41 #[.int .i64 k, v] w fun en w' => ∃ u, en = .returned (.tuple #[u, .bool false]) ∧ w.grownBy w' none ∧ Sl w' u [] := by
  have H := Lib.hid h
  obtain ⟨a1, c1, rfl, p1, p2, hr1⟩ := h
  have KM : kindM k = false := kindM_no h1 h2
  clear hr1
  have SN : Hid (Sl (w.alloc (.cells #[] 3)) (.slice (some ⟨w.heap.size, 0, none⟩) 0 0) []) := Lib.hid ⟨_, 0, rfl, by simp, by simp [maxLen], .inr ⟨w.heap.size, 0, rfl, fun i hi => by simp at hi⟩⟩
  go_enter Tryd.func41, Tryd.ntmps41
  go_wp2_with fail
  refine (specKind k _).mono ?_
  rintro e' w' ⟨rfl, rfl⟩
  rw [KM]
  go_wp2_with fail
  exact bodyPost_ret (v := .tuple #[.slice (some ⟨w.heap.size, 0, none⟩) 0 0, .bool false]) (by simp [results, Tryd.results41, go_sem]) rfl ⟨_, rfl, grown_alloc (World.grownBy.refl _ _) _, SN.out⟩

theorem specProgRow (k : Int) (v : Value) (L : List Stp) (w : World) (h : SSl w v L) :
    Calls Tryd.prog 41 #[.int .i64 k, v] w fun en w' => ∃ u, en = .returned (.tuple #[u, .bool (prB k L)]) ∧ w.grownBy w' none ∧ Sl w' u (prR k L) := by
  by_cases hk : k = 1 ∨ k = 2
  · obtain ⟨n, rfl⟩ : ∃ n : Nat, k = n := ⟨k.toNat, by omega⟩
    exact specRowYes (by omega) v L w h
  · have hb : prB k L = false := prB_no (by omega) (by omega) L
    have hr : prR k L = [] := by unfold prR; rw [hb]; rfl
    rw [hb, hr]
    exact specRowNo (by omega) (by omega) v L w h
end Go.Proofs.YtlehcpcejkpbmaaDoor
