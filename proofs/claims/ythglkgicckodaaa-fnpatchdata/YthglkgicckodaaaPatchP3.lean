/-
  The program's numbers behind patches.
  Conditions: none.
-/
import Derived.Test.YthglkgicckodaaaPatchP2
namespace Go.Proofs.Ythglkgicckodaaa
open Go.RowKit
set_option linter.unusedVariables false

set_option maxHeartbeats 4000000 in
set_option maxRecDepth 20000 in
theorem implPatchData (u v : Value) (d : List Int) (L : List Pat) (w : World) (hu : Sl w u d) (hv : PSl w v L) : Calls Try.prog 17 #[u, v] w (NewInts (patD d L) w) := by
  have U := Lib.hid hu
  have V := Lib.hid hv
  clear hu hv
  cases hd : Vec.ok d
  · have E := Lib.hid (patD_no (d := d) (L := L) (by simp [hd]))
    have HD := Lib.hid hd
    obtain ⟨x, y, z, t, h0⟩ := Vec.or0_four d
    have H0 := Lib.hid h0
    clear hd h0
    go_enter Try.func17, Try.ntmps17
    go_wp2_with fail
    refine (implVectorOf _ d _ U.out).mono ?_
    rintro e w1 ⟨rfl, hg⟩
    rw [HD.out, H0.out, ← vals4]
    have G := Lib.hid hg
    clear hg
    go_wp2_with fail
    go_ret
    exact ⟨_, rfl, by repeat' first | exact G.out | refine grown_alloc ?_ _ | refine grown_set ?_ (by simp; try exact G.out.size) _, by rw [E.out]; exact Own.none_ _ _⟩
  · have HD := Lib.hid hd
    have H0 := Lib.hid (Vec.or0_ok hd)
    clear hd
    obtain ⟨a, cap, rfl, h1, h2, hr⟩ := V.out
    have R := Lib.hid hr
    unfold maxLen at h2
    obtain ⟨n, hn⟩ : ∃ n, n = L.length := ⟨_, rfl⟩
    rw [← hn] at h1 V ⊢
    have N := Lib.hid hn
    clear hr hn
    go_enter Try.func17, Try.ntmps17
    go_wp2_with fail
    refine (implVectorOf _ d _ U.out).mono ?_
    rintro e w1 ⟨rfl, hg⟩
    rw [HD.out, H0.out]
    have G := Lib.hid hg
    clear hg
    obtain ⟨x, y, z, t, hx, _⟩ := Vec.ok_four HD.out
    have HX := Lib.hid hx
    rw [hx, ← vals4]
    clear hx
    go_upto_region 2 with fail
    have OX : Hid (Vec.ok [x, y, z, t] = true) := Lib.hid (by rw [← HX.out]; exact HD.out)
    have A1 := Lib.hid (Arr.new w1 68 [x, y, z, t])
    have G1 := Lib.hid (grown_alloc G.out (.cells (vals [x, y, z, t]).toArray 68))
    have B0 := Lib.hid (show w.heap.size ≤ w1.heap.size from G.out.size)
    clear G U
    rw [← vals4 x] at A1 G1
    generalize w1.alloc (.cells #[.int .i64 x, .int .i64 y, .int .i64 z, .int .i64 t] 68) = w2 at *
    generalize w1.heap.size = g at *
    go_wp2_with fail
    go_loopw [20] (fun i wr => ∃ k : Nat, i = .int .i64 k ∧ k ≤ n ∧ w.grownBy wr none ∧ Arr wr g 68 (patAll d (L.take k)) ∧ ∀ j, j < k → patOk (L.getD j pat0) = true) (fun i _ => n - (intOf i).toNat)
    case atStart => exact ⟨0, rfl, Nat.zero_le _, G1.out, by first | exact A1.out | (rw [HX.out]; exact A1.out), by omega⟩
    case round =>
      obtain ⟨k, rfl, hk, hg, hA, hP⟩ := hrel
      have G2 := Lib.hid hg
      have A2 := Lib.hid hA
      have P2 := Lib.hid hP
      have O2 := Lib.hid (patAll_ok (L := L.take k) HD.out)
      clear hg hA hP A1 G1
      by_cases hlt : k < n
      · have hlt' : (k : Int) < (n : Int) := by omega
        have hkL : k < L.length := by rw [← N.out]; exact hlt
        obtain ⟨b, o, rfl, c0, c1⟩ := pcells (R.out.grown G2.out) hkL
        have NX := Lib.hid (patAll_next d hkL)
        have SL := Lib.hid (fun (h : patOk (L.getD k pat0) = true) (j : Nat) (hj : j < k + 1) => (show patOk (L.getD j pat0) = true from if e : j = k then e ▸ h else P2.out j (by omega)))
        have SN := Lib.hid (fun (h : patOk (L.getD k pat0) = false) => patsOk_not hkL h)
        generalize L.getD k pat0 = s at *
        obtain ⟨p, q⟩ := s
        have c0' : wr.cell? ⟨b, o + k * 2, none⟩ = some (.int .i64 p) := c0
        have c1' : wr.cell? ⟨b, o + k * 2 + 1, none⟩ = some (.int .i64 q) := c1
        clear c0 c1
        generalize patAll d (L.take k) = r at *
        go_wp2_with fail
        have GA := Lib.hid (grown_alloc G2.out (.cells #[.int .i64 p, .int .i64 q] 32))
        have AA := Lib.hid (A2.out.alloc (.cells #[.int .i64 p, .int .i64 q] 32))
        cases hok : patOk ⟨p, q⟩
        · have SD := Lib.hid (patD_no (d := d) (L := L) (by rw [SN.out hok, Bool.and_false]))
          refine (changeNo p q _ hok).mono ?_
          rintro e w3 ⟨rfl, hg3⟩
          have G3 := Lib.hid (grown_trans GA.out hg3)
          clear hg3 hok
          go_wp2_with fail
          go_ret
          exact ⟨_, rfl, G3.out, by rw [SD.out]; exact Own.none_ _ _⟩
        · have SK := Lib.hid (SL.out hok)
          have HOK := Lib.hid hok
          clear SL SN hok P2
          refine (changeYes p q _ HOK.out).mono ?_
          rintro e w3 ⟨f, rfl, hg3, b', c', rfl, _, _, hb, hc⟩
          have G3 := Lib.hid (grown_trans GA.out hg3)
          have A3 := Lib.hid (AA.out.still hg3)
          have HB := Lib.hid hb
          have HC := Lib.hid hc
          clear hg3 hb hc GA AA c0' c1' G2 A2
          obtain ⟨r0, r1, r2, r3, hr4, _⟩ := Vec.ok_four O2.out
          subst hr4
          have y0 := A3.out.cell (i := 0) (by simp)
          have y1 := A3.out.cell (i := 1) (by simp)
          have y2 := A3.out.cell (i := 2) (by simp)
          have y3 := A3.out.cell (i := 3) (by simp)
          go_wp2_with fail
          rw [vals4]
          refine (changeDo [r0, r1, r2, r3] p q b' c' _ O2.out HOK.out HB.out HC.out).mono ?_
          rintro e w4 ⟨rfl, hg4⟩
          have O5 := Lib.hid (patOne_ok (p := ⟨p, q⟩) O2.out)
          rw [← NX.out] at O5 ⊢
          obtain ⟨s0, s1, s2, s3, hs4, _⟩ := Vec.ok_four O5.out
          have HS := Lib.hid hs4
          rw [hs4, ← vals4]
          have A4 := Lib.hid (A3.out.still hg4)
          have G4 := Lib.hid (grown_trans G3.out hg4)
          clear hg4 A3 G3 HB HC y0 y1 y2 y3 hs4 NX O5
          have z0 := A4.out.cell (i := 0) (by simp)
          have z1 := A4.out.cell (i := 1) (by simp)
          have z2 := A4.out.cell (i := 2) (by simp)
          have z3 := A4.out.cell (i := 3) (by simp)
          have f0 := A4.out.frozen 0
          have f1 := A4.out.frozen 1
          have f2 := A4.out.frozen 2
          have f3 := A4.out.frozen 3
          have A5 := Lib.hid (A4.out.put4 s0 s1 s2 s3)
          have G5 := Lib.hid (grown_set4 G4.out (k := g) B0.out (.int .i64 s0) (.int .i64 s1) (.int .i64 s2) (.int .i64 s3))
          clear A4 G4
          go_wp2_with fail
          go_roundw
          case rel => exact ⟨k + 1, by go_num, by omega, G5.out, by rw [HS.out]; exact A5.out, SK.out⟩
          case measure => simp [intOf]; omega
      · obtain rfl : k = n := by omega
        have E : Hid (patD d L = patAll d (L.take k)) := Lib.hid (by rw [patD_yes HD.out (patsOk_of fun j hj => P2.out j (by rw [N.out]; exact hj)), N.out, List.take_length])
        generalize patAll d (L.take k) = r at *
        obtain ⟨r0, r1, r2, r3, hr4, _⟩ := Vec.ok_four O2.out
        subst hr4
        have y0 := A2.out.cell (i := 0) (by simp)
        have y1 := A2.out.cell (i := 1) (by simp)
        have y2 := A2.out.cell (i := 2) (by simp)
        have y3 := A2.out.cell (i := 3) (by simp)
        go_wp2_with fail
        refine (rowInts _ _ _ _ _).mono ?_
        rintro e w5 ⟨v5, rfl, hg5, ho5⟩
        have Z := Lib.hid (new_after G2.out hg5 ho5)
        clear hg5 ho5
        go_wp2_with fail
        go_ret
        obtain ⟨vv, e1, e2, e3⟩ := Z.out
        exact ⟨vv, e1, e2, by rw [E.out]; exact e3⟩
end Go.Proofs.Ythglkgicckodaaa
