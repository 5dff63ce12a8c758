/-
  The model's numbers behind patches.
  Conditions: none.
-/
import Derived.Test.YthglkgicckodaaaPatchS
import Derived.Test.YthglkgicckodaaaG3
namespace Go.Proofs.Ythglkgicckodaaa
open Go.RowKit
set_option linter.unusedVariables false

theorem stillSpecSum (a b : Int) (w : World) (ha : Fld.ok a = true) (hb : Fld.ok b = true) : Calls Try.prog 52 #[.int .i64 a, .int .i64 b] w fun e w' => e = .returned (.int .i64 ((a + b) % 31)) ∧ w' = w :=
  (specFSumIn a b w ha hb).mono fun _ _ h => ⟨h.1, h.2.symm⟩
set_option maxHeartbeats 4000000 in
set_option maxRecDepth 20000 in
theorem specPatchData (u v : Value) (d : List Int) (L : List Pat) (w : World) (hu : Sl w u d) (hv : PSl w v L) : Calls Try.prog 19 #[u, v] w (NewInts (patD d L) w) := by
  have U := Lib.hid hu
  have V := Lib.hid hv
  clear hu hv
  cases hd : Vec.ok d
  · have E := Lib.hid (patD_no (d := d) (L := L) (by simp [hd]))
    have HD := Lib.hid hd
    clear hd
    go_enter Try.func19, Try.ntmps19
    go_wp2_with fail
    refine (specVecOk _ d _ U.out).mono ?_
    rintro e w' ⟨rfl, rfl⟩
    rw [HD.out]
    go_wp2_with fail
    go_ret
    exact ⟨_, rfl, grown_alloc (World.grownBy.refl _ _) _, by rw [E.out]; exact Own.made _ _ [] (Nat.le_refl _) (by simp)⟩
  · have HD := Lib.hid hd
    have D4 := Lib.hid (Vec.ok_len hd)
    have d4 := Vec.ok_len hd
    clear hd
    obtain ⟨a, cap, rfl, h1, h2, hr⟩ := V.out
    have R := Lib.hid hr
    unfold maxLen at h2
    obtain ⟨n, hn⟩ : ∃ n, n = L.length := ⟨_, rfl⟩
    rw [← hn] at h1 V ⊢
    have N := Lib.hid hn
    clear hr hn
    have U' := U.out
    obtain ⟨a', cap', rfl, h1', h2', hr'⟩ := U'
    have R' := Lib.hid hr'
    unfold maxLen at h2'
    rw [d4] at U h1' ⊢
    obtain ⟨i0, hi, hz0, hz1, hz2⟩ := info_parts infoInt
    have I1 := Lib.hid hi
    have I2 := Lib.hid hz0
    have I3 := Lib.hid hz1
    have I4 := Lib.hid hz2
    clear hi hz0 hz1 hz2 hr' d4
    go_enter Try.func19, Try.ntmps19
    go_wp2_with fail
    refine (specVecOk _ d _ U.out).mono ?_
    rintro e w' ⟨rfl, rfl⟩
    rw [HD.out]
    obtain ⟨b', o', rfl, _⟩ := R'.out.at_ (k := 0) (by rw [D4.out]; omega)
    have OW : Hid (Own (w.alloc (.cells #[] 3)) w.heap.size (.slice (some ⟨w.heap.size, 0, none⟩) 0 0) []) := Lib.hid (Own.made w w.heap.size [] (Nat.le_refl _) (by simp))
    have SU : Hid (Sl (w.alloc (.cells #[] 3)) (.slice (some ⟨b', o', none⟩) d.length cap') d) := Lib.hid (by rw [D4.out]; exact U.out.grown (grown_alloc (World.grownBy.refl _ _) _))
    go_wp2_with (first
      | fail
      | (at_builtin; refine wpList_append_own _ rfl _ _ 23 rfl w.heap.size 3 i0 (.int .i64 0) 1 8 Try.underlying23 I1.out I2.out I3.out I4.out rfl (by decide) _ _ _ rfl OW.out ⟨b', o', none⟩ 4 cap' (vals d) rfl ?c1 ?c2 (vals_one _) ?c3 ?c4 ?c5 ?_))
    case c1 => rw [vals_length, D4.out]
    case c2 =>
      intro j u hj
      rw [Addr.add_lit]
      exact vals_cells SU.out j u hj
    case c3 => show 0 + 4 ≤ maxLen; unfold maxLen; omega
    case c4 => simp
    case c5 => simp
    intro nv w1 hown hg1 _
    have O0 : Hid (Own w1 w.heap.size nv d) := Lib.hid (own_len (n := 4) (by simpa [vals] using hown) D4.out)
    have G0 : Hid (w.grownBy w1 none) := Lib.hid (grown_own (grown_alloc (World.grownBy.refl w none) _) hg1 (fun j hj => (World.ownsRow.lt OW.out j hj).1))
    clear hown hg1 OW SU
    have OO := O0.out
    rcases OO.2 with ⟨_, h0⟩ | ⟨g, c, cur, rfl, hb, hcur⟩
    · rw [D4.out] at h0; omega
    have HB := Lib.hid hb
    rw [D4.out] at O0 ⊢
    clear OO hb hcur cur
    go_wp2_with fail
    go_loopw [6] (fun i wr => ∃ k : Nat, i = .int .i64 k ∧ k ≤ n ∧ w.grownBy wr none ∧ Own wr w.heap.size (.slice (some ⟨g, 0, none⟩) 4 c) (patAll d (L.take k)) ∧ ∀ j, j < k → patOk (L.getD j pat0) = true) (fun i _ => n - (intOf i).toNat)
    case atStart => exact ⟨0, rfl, Nat.zero_le _, G0.out, O0.out, by omega⟩
    case round =>
      obtain ⟨k, rfl, hk, hg, hO, hP⟩ := hrel
      have G := Lib.hid hg
      have O := Lib.hid hO
      have P2 := Lib.hid hP
      have OK := Lib.hid (patAll_ok (L := L.take k) HD.out)
      clear hg hO hP O0 G0
      by_cases hlt : k < n
      · have hlt' : (k : Int) < (n : Int) := by omega
        have hkL : k < L.length := by rw [← N.out]; exact hlt
        obtain ⟨b, o, rfl, d0, d1⟩ := pcells R.out hkL
        have NX := Lib.hid (patAll_next d hkL)
        have SL := Lib.hid (fun (h : patOk (L.getD k pat0) = true) (j : Nat) (hj : j < k + 1) => (show patOk (L.getD j pat0) = true from if e : j = k then e ▸ h else P2.out j (by omega)))
        have SN := Lib.hid (fun (h : patOk (L.getD k pat0) = false) => patsOk_not hkL h)
        have LB := Lib.hid (show b < w.heap.size from lt_of_cell d0)
        generalize L.getD k pat0 = s at *
        obtain ⟨p, q⟩ := s
        have c0 : wr.cell? ⟨b, o + k * 2, none⟩ = some (.int .i64 p) := G.out.cell d0 (by simp)
        have c1 : wr.cell? ⟨b, o + k * 2 + 1, none⟩ = some (.int .i64 q) := G.out.cell d1 (by simp)
        clear d0 d1
        generalize patAll d (L.take k) = r at *
        go_wp2_with fail
        refine (specPatchOk p q _).mono ?_
        rintro e w3 ⟨rfl, hg3⟩
        have G3 := Lib.hid (grown_trans G.out hg3)
        have O3 := Lib.hid (O.out.still hg3)
        have e0 := hg3.cell c0 (by simp)
        have e1 := hg3.cell c1 (by simp)
        clear hg3 c0 c1 G O
        cases hok : patOk ⟨p, q⟩
        · have SD := Lib.hid (patD_no (d := d) (L := L) (by rw [SN.out hok, Bool.and_false]))
          clear hok
          go_wp2_with fail
          go_ret
          exact ⟨_, rfl, grown_alloc G3.out _, by rw [SD.out]; exact Own.made _ _ [] G3.out.size (by simp)⟩
        · have SK := Lib.hid (SL.out hok)
          obtain ⟨pk, hp4, hpe⟩ := patOk_at hok
          have hpe : p = pk := hpe
          have hq : Fld.ok q = true := patOk_dif hok
          subst hpe
          clear SL SN P2
          have r4 := Vec.ok_len OK.out
          have x0 := O3.out.sl
          obtain ⟨_, _, ex, _, _, hrd⟩ := x0
          injection ex with ex1 ex2 ex3
          obtain ⟨bb, oo, eb, cx⟩ := hrd.at_ (k := pk) (by rw [r4]; exact hp4)
          rw [eb] at ex1
          injection ex1 with ex1
          injection ex1 with ex1 ex4
          subst ex1 ex4
          rw [Nat.zero_add] at cx
          obtain ⟨y, hy⟩ : ∃ y, r.getD pk 0 = y := ⟨_, rfl⟩
          have oy : Fld.ok y = true := by rw [← hy]; exact Vec.ok_get OK.out hp4
          rw [hy] at cx
          have O3' : w3.ownsRow w.heap.size 3 1 (.slice (some ⟨g, 0, none⟩) 4 c) 4 (vals r) := by have h := O3.out; unfold Own at h; rwa [r4] at h
          have fz : w3.frozen? ⟨g, pk, none⟩ = false := World.ownsRow.frozenAt O3' pk
          have NE : Hid (some b ≠ some g) := Lib.hid (fun e => by injection e with e; have := LB.out; have := HB.out; omega)
          have st := World.ownsRow.stored O3' pk (.int .i64 ((y + q) % 31))
          rw [vals_set] at st
          have e3 : r.set pk ((y + q) % 31) = patOne r ⟨(pk : Int), q⟩ := by unfold patOne; rw [Int.toNat_natCast, hy]
          rw [e3, ← NX.out] at st
          have O4 := Lib.hid (own_len st.1 (by rw [NX.out, patOne_len, r4]))
          have G4 := Lib.hid (grown_own G3.out st.2 (fun j hj => by injection hj with hj; have := HB.out; omega))
          have hp4' : (pk : Int) < 4 := by omega
          have GG := Lib.hid st.2
          clear st e3 hy eb hrd ex2 ex3 O3 O3' G3 r4
          go_wp2_with fail
          refine wp_region_still_tail 20 (by kernel_rfl) (by kernel_rfl) ?_
          simp only [List.take_succ_cons, List.take_zero, List.drop_succ_cons, List.drop_zero]
          change wpStill _ _ w3.drew (fun a' => wpList _ _ _ _ a' w3.drew) _ _
          have e0' : w3.drew.cell? ⟨b, o + k * 2, none⟩ = some (.int .i64 pk) := e0
          have e1' : w3.drew.cell? ⟨b, o + k * 2 + 1, none⟩ = some (.int .i64 q) := e1
          have cx' : w3.drew.cell? ⟨g, pk, none⟩ = some (.int .i64 y) := cx
          have fz' : w3.drew.frozen? ⟨g, pk, none⟩ = false := fz
          replace O4 := Lib.hid (show Own (w3.drew.setCell ⟨g, pk, none⟩ (.int .i64 ((y + q) % 31))) w.heap.size (.slice (some ⟨g, 0, none⟩) 4 c) (patAll d (L.take (k + 1))) from O4.out)
          replace G4 := Lib.hid (show w.grownBy (w3.drew.setCell ⟨g, pk, none⟩ (.int .i64 ((y + q) % 31))) none from grown_draws G4.out 1)
          clear e0 e1 cx fz GG
          generalize w3.drew = w4 at *
          repeat still_step
          refine wpStill_step (fun K hK => ?_)
          go_simp
          refine ⟨_, stillSpecSum _ _ _ oy hq, hK _ ?_⟩
          clear hK K
          repeat still_step
          refine wpStill_nil ?_
          go_wp2_with fail
          go_roundw
          case rel => exact ⟨k + 1, by go_num, by omega, G4.out, O4.out, SK.out⟩
          case measure => simp [intOf]; omega
      · obtain rfl : k = n := by omega
        have E : Hid (patD d L = patAll d (L.take k)) := Lib.hid (by rw [patD_yes HD.out (patsOk_of fun j hj => P2.out j (by rw [N.out]; exact hj)), N.out, List.take_length])
        go_wp2_with fail
        go_ret
        exact ⟨_, rfl, G.out, by rw [E.out]; exact O.out⟩
end Go.Proofs.Ythglkgicckodaaa
