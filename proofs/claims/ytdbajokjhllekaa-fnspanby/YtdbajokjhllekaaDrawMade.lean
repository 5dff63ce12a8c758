/-
  The contracts of the model's drawing of a matrix and a row, often made of it.
  Conditions: none.
-/
import Derived.Test.YtdbajokjhllekaaDrawSpan2
import Derived.Test.YtdbajokjhllekaaSpanLaws
namespace Go.Proofs.Ytdbajokjhllekaa
open Go.RowKit
set_option linter.unusedVariables false

/-- a table and a row that were drawn. -/
def DrawnTR (w : World) (e : Ending) (w' : World) : Prop := ∃ u v us m l, e = .returned (.tuple #[u, v]) ∧ w.grownBy w' none ∧ Tab w' u us m ∧ Sl w' v l ∧ l.length ≤ 4
def DrawnMade (c p : Nat) (w : World) (e : Ending) (w' : World) : Prop := ∃ u v us m l, e = .returned (.tuple #[u, v]) ∧ Far c w w' ∧ DTab w' w.heap.size u us m ∧ RowV w' w.heap.size v l ∧ l.length ≤ 4

theorem twice_ok {a b : Int} (a0 : 0 ≤ a) (a1 : a < 31) (b0 : 0 ≤ b) (b1 : b < 2) : Fld.ok (a * b) = true ∧ IntKind.i64.wrap (a * b) = a * b := by
  have hb : b = 0 ∨ b = 1 := by omega
  rcases hb with rfl | rfl
  · exact ⟨by rw [Int.mul_zero]; rfl, by rw [Int.mul_zero]; rfl⟩
  · exact ⟨by rw [Int.mul_one]; exact Fld.ok_true a0 (by omega), by rw [Int.mul_one]; exact IntWalk.i64_in _ (by omega)⟩

set_option maxHeartbeats 4000000 in
set_option maxRecDepth 20000 in
theorem drawMade (c p : Nat) (w : World) (h : Rd w c p) (hp : p ≤ 100000) : Calls Try.prog 61 #[.pointer (some ⟨c, 0, none⟩)] w (DrawnMade c p w) := by
  have hcw := h.lt
  have H := Lib.hid h
  clear h
  have hmk := makeFour
  go_enter Try.func61, Try.ntmps61
  go_wp2_with fail
  refine (drawRows c p _ H.out (by omega)).mono ?_
  rintro e w1 ⟨mv, us, m, rfl, hf, hr, hm9, hd⟩
  obtain ⟨b, o, mc, rfl, hc1, hc2⟩ := drawn_form hd.st hd.nn
  unfold maxLen at hc2
  have F1 := Lib.hid hf
  have D1 := Lib.hid hd
  have R1 := Lib.hid hr
  clear hf hr hd
  go_wp2_with fail
  refine (drawRow c (p + 200) _ R1.out (by omega)).mono ?_
  rintro e w2 ⟨u, l, rfl, hn, hf, hs, hl4, hr, hrow⟩
  have F2 := Lib.hid (F1.out.trans hf)
  have D2 := Lib.hid (D1.out.far hf hcw)
  have R2 := Lib.hid hr
  have V2 : Hid (RowV w2 w.heap.size u l) := Lib.hid ⟨hs.1, hrow.intRow, fun x n cap e => Nat.le_trans F1.out.size (hs.2 x n cap e)⟩
  clear hn hf hs hr hrow F1 D1 R1
  have K := Lib.hid (specSpanOk _ us m w2 D2.out.st.tab)
  cases hok : okM m with
  | false =>
    rw [hok] at K
    clear hok
    go_wp2_with fail
    refine K.out.mono ?_
    rintro e w' ⟨rfl, rfl⟩
    go_wp2_with fail
    go_ret2
    exact ⟨_, _, us, m, l, rfl, F2.out, D2.out, V2.out, hl4⟩
  | true =>
    have m8 := okM_len hok
    have HOK := Lib.hid hok
    rw [hok] at K
    clear hok
    by_cases hz : (m.length : Int) > 0
    · go_wp2_with fail
      refine K.out.mono ?_
      rintro e w' ⟨rfl, rfl⟩
      go_wp2_with fail
      refine (pick c (p + 200 + 20) 3 _ R2.out (by omega) (by omega) (by omega)).mono ?_
      rintro e w3 ⟨j, j0, j1, rfl, hf, hr⟩
      have F3 := Lib.hid (F2.out.trans hf)
      have D3 := Lib.hid (D2.out.far hf hcw)
      have R3 := Lib.hid hr
      have V3 := Lib.hid (V2.out.far hf hcw)
      clear hf hr F2 D2 R2 V2
      by_cases hj : j > 0
      · have OW : Hid (Own (w3.alloc (.cells #[.int .i64 0, .int .i64 0, .int .i64 0, .int .i64 0] 3)) w3.heap.size (.slice (some ⟨w3.heap.size, 0, none⟩) 4 4) [0, 0, 0, 0]) := Lib.hid ((Arr.new w3 3 [0, 0, 0, 0]).own rfl _ (Nat.le_refl _) (by simp [maxLen]))
        have VA : Hid (RowV (w3.alloc (.cells #[.int .i64 0, .int .i64 0, .int .i64 0, .int .i64 0] 3)) w.heap.size (.slice (some ⟨w3.heap.size, 0, none⟩) 4 4) [0, 0, 0, 0]) := Lib.hid (RowV.own OW.out F3.out.size)
        have DA := Lib.hid (D3.out.still (World.grownBy_alloc w3 (.cells #[.int .i64 0, .int .i64 0, .int .i64 0, .int .i64 0] 3) none))
        have FA : Hid (Far c w (w3.alloc (.cells #[.int .i64 0, .int .i64 0, .int .i64 0, .int .i64 0] 3))) := Lib.hid (F3.out.trans (Far.alloc _ _))
        have RA := Lib.hid (R3.out.alloc (.cells #[.int .i64 0, .int .i64 0, .int .i64 0, .int .i64 0] 3))
        clear OW
        go_wp2_with fail
        go_loopw [5, 6] (fun y i wr => ∃ k : Nat, k ≤ m.length ∧ i = .int .i64 k ∧ Far c w wr ∧ Rd wr c (p + 221 + 2 * k) ∧ DTab wr w.heap.size (.slice (some ⟨b, o, none⟩) m.length mc) us m ∧ ∃ l, RowV wr w.heap.size y l ∧ Sp.Row 4 l) (fun _ i _ => m.length - (intOf i).toNat)
        case atStart => exact ⟨0, Nat.zero_le _, rfl, FA.out, RA.out.mono (by omega), DA.out, _, VA.out, Sp.row_ok.1 rfl⟩
        case round =>
          obtain ⟨k, hk, rfl, hf, hr, hd, l, hv, hrow⟩ := hrel
          have F0 := Lib.hid hf
          have R0 := Lib.hid hr
          have D0 := Lib.hid hd
          have V0 := Lib.hid hv
          have HL := Lib.hid hrow
          clear hf hr hd hv hrow FA RA DA VA F3 R3 D3 V3
          by_cases hlt : k < m.length
          · have hlt' : (k : Int) < (m.length : Int) := by omega
            have FR : Hid (Far c w wr.drew) := Lib.hid (F0.out.own (grown_drew (World.grownBy.refl _ none)) (by simp))
            have RR : Hid (Rd wr.drew c (p + 221 + 2 * k)) := Lib.hid (R0.out.up (grown_drew (World.grownBy.refl _ none)) (by simp))
            have DR := Lib.hid (D0.out.still (grown_drew (World.grownBy.refl wr none)))
            have VR := Lib.hid (V0.out.still (grown_drew (World.grownBy.refl wr none)))
            obtain ⟨b1, o1, c1, x, e, hu, hx, hs⟩ := DR.out.st.tab.at_ hlt
            injection e with e1 e2 e3
            injection e1 with e1
            injection e1 with e1 e5
            subst e1 e5 e3
            have HU := Lib.hid hu
            have RW := Lib.hid (Sp.fresh_row (okM_all HOK.out) hlt)
            have BC : Hid (b ≠ c) := Lib.hid (by
              have hh : (Value.slice (some ⟨b, o, none⟩) m.length mc).ownBlock = some b := rfl
              have := (World.ownsRow.lt DR.out.st.top b hh).1
              omega)
            clear hu hs F0 R0 D0 V0
            go_wp2_with fail
            go_region_held3 (fun w' => w'.cell? ⟨b, o + k, none⟩ = some x)
              (first
                | with_reducible exact hx
                | with_reducible exact y1
                | with_reducible exact y2
                | with_reducible exact y3
                | with_reducible exact y4)
              (first
                | (go_at_call 106; refine (specAdd u5 s1 4 l (Sp.lmul (m.getD k []) (q1 * q2)) _ (V6.out.still hg7).1 ho7.sl HL.out (Sp.row_lmul RW.out _) (by omega)).mono ?_; rintro e w8 ⟨s2, rfl, hg8, ho8⟩
                   have y4 := hg8.cell y3 (by simp)
                   have G8 := Lib.hid (grown_trans hg7 hg8)
                   have S8 := Lib.hid (And.intro hg7 ho8))
                | (go_at_call 107; refine (specMul x 4 (m.getD k []) (q1 * q2) _ (D6.out.row HU.out (okRow hlt)).1 RW.out OK6.out (by omega)).mono ?_; rintro e w7 ⟨s1, rfl, hg7, ho7⟩
                   have y3 := hg7.cell y2 (by simp))
                | (go_at_call 71; refine (pick c (p + 221 + 2 * k + 1) 2 _ R5.out (by omega) (by omega) (by omega)).mono ?_; rintro e w6 ⟨q2, q20, q21, rfl, hf6, hr6⟩
                   have D6 := Lib.hid (D5.out.far hf6 hcw)
                   have V6 := Lib.hid (V5.out.far hf6 hcw)
                   have F6 := Lib.hid (F5.out.trans hf6)
                   have R6 := Lib.hid hr6
                   have y2 := (hf6.cell (p := ⟨b, o + k, none⟩) (lt_of_cell y1) BC.out).trans y1
                   have OK6 := Lib.hid (twice_ok q10 q11 q20 q21).1
                   have ws := (twice_ok q10 q11 q20 q21).2
                   clear hf6 hr6)
                | (go_at_call 71; refine (pick c (p + 221 + 2 * k) 31 _ RR.out (by omega) (by omega) (by omega)).mono ?_; rintro e w5 ⟨q1, q10, q11, rfl, hf5, hr5⟩
                   have D5 := Lib.hid (DR.out.far hf5 hcw)
                   have V5 := Lib.hid (VR.out.far hf5 hcw)
                   have F5 := Lib.hid (FR.out.trans hf5)
                   have R5 := Lib.hid hr5
                   have y1 := (hf5.cell (p := ⟨b, o + k, none⟩) (lt_of_cell hx) BC.out).trans hx
                   clear hf5 hr5))
            have F8 := Lib.hid (F6.out.own G8.out (by simp))
            have R8 := Lib.hid (R6.out.up G8.out (by simp))
            have D8 := Lib.hid (D6.out.still G8.out)
            have V8 : Hid (RowV w8 w.heap.size s2 (Sp.ladd l (Sp.lmul (m.getD k []) (q1 * q2)))) := Lib.hid (RowV.own S8.out.2 (Nat.le_trans F6.out.size S8.out.1.size))
            have L8 := Lib.hid (Sp.row_ladd HL.out (Sp.row_lmul RW.out (q1 * q2)))
            clear hx y1 y2 y3 y4 ws hg7 hg8 ho7 ho8 S8
            go_wp2_with fail
            go_roundw
            case rel => exact ⟨k + 1, by omega, by go_num, F8.out, R8.out.mono (by omega), D8.out, _, V8.out, L8.out⟩
            case measure => simp [intOf]; omega
          · go_wp2_with fail
            go_ret2
            exact ⟨_, _, us, m, l, rfl, F0.out, D0.out, V0.out, by rw [HL.out.1]; omega⟩
      · go_wp2_with fail
        go_ret2
        exact ⟨_, _, us, m, l, rfl, F3.out, D3.out, V3.out, hl4⟩
    · go_wp2_with fail
      refine K.out.mono ?_
      rintro e w' ⟨rfl, rfl⟩
      go_wp2_with fail
      go_ret2
      exact ⟨_, _, us, m, l, rfl, F2.out, D2.out, V2.out, hl4⟩

set_option maxHeartbeats 400000 in
set_option maxRecDepth 20000 in
theorem drawSpanBy (a : Option Addr) (len cap : Nat) (w : World) (h : Code w a len cap) : Calls Try.prog 15 #[.slice a len cap] w (DrawnTR w) := by
  have H := Lib.hid h
  clear h
  go_enter Try.func15, Try.ntmps15
  go_wp2_with fail
  refine (openR a len cap _ H.out).mono ?_
  rintro e w1 ⟨rfl, hb1, h1⟩
  have B1 := Lib.hid hb1
  have H1 := Lib.hid h1
  clear hb1 h1
  go_wp2_with fail
  refine (drawMade w.heap.size 0 _ H1.out (by omega)).mono ?_
  rintro e w2 ⟨u, v, us, m, l, rfl, hf, hd, hv, hl⟩
  have F2 := Lib.hid hf
  have D2 := Lib.hid hd
  have V2 := Lib.hid hv
  clear hf hd hv
  go_wp2_with fail
  go_ret2
  exact ⟨_, _, us, m, l, rfl, grown_of B1.out F2.out, D2.out.st.tab, V2.out.1, hl⟩
end Go.Proofs.Ytdbajokjhllekaa
