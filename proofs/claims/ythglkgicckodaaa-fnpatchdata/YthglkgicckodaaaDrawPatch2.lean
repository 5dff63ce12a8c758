/-
  The contracts of what the laws of chapter 22 draw, whole: a patch, numbers and patches, two of numbers.
  Conditions: none.
-/
import Derived.Test.YthglkgicckodaaaDrawPatch
namespace Go.Proofs.Ythglkgicckodaaa
open Go.RowKit
set_option linter.unusedVariables false

theorem pat_cells {w : World} {x y : Value} {t : TypeId} : ∀ j v, [x, y][j]? = some v → (w.alloc (.cells #[x, y] t)).cell? ((⟨w.heap.size, 0, none⟩ : Addr).add j) = some v := by
  intro j v hj
  rw [Addr.add_lit]
  rw [show (0 + j) = j from Nat.zero_add j, cell_of_row _ w.heap.size j _ t (0, 0) (heap_alloc_new w _)]
  simpa using hj
/-- where the drawing of patches stands: the reader, the patches so far. -/
structure PDr (c p : Nat) (w : World) (L : List Pat) (v : Value) (W : World) : Prop where
  far : Far c w W
  rd : Rd W c p
  own : POwn W w.heap.size v L
  low : c < w.heap.size
namespace PDr
variable {c p q : Nat} {w W W' : World} {L M : List Pat} {v v' : Value}
theorem pick (h : PDr c p w L v W) (hf : Far c W W') (hr : Rd W' c q) : PDr c q w L v W' :=
  ⟨h.far.trans hf, hr, h.own.kept (far_grown hf) (pfar h.own h.low), h.low⟩
theorem more (h : PDr c p w L v W) (hg : W.grownBy W' none) : PDr c p w L v W' :=
  ⟨h.far.own hg (by simp), h.rd.up hg (by simp), h.own.still hg, h.low⟩
theorem put (h : PDr c p w L v W) (hg : W.grownBy W' v.ownBlock) (ho : POwn W' w.heap.size v' M) : PDr c p w M v' W' :=
  ⟨h.far.own hg (fun k hk => (h.own.lt k hk).1), h.rd.up hg (fun k hk => by have := (h.own.lt k hk).1; have := h.low; omega), ho, h.low⟩
theorem mono (h : PDr c p w L v W) (hq : p ≤ q) : PDr c q w L v W := ⟨h.far, h.rd.mono hq, h.own, h.low⟩
theorem size (h : PDr c p w L v W) : w.heap.size ≤ W.heap.size := h.far.size
end PDr

/-- a patch of a law's own. -/
def DrawnPatOk (w : World) (e : Ending) (w' : World) : Prop := ∃ s : Pat, e = .returned (.agg #[.int .i64 s.at', .int .i64 s.dif]) ∧ -1 ≤ s.at' ∧ s.at' ≤ 4 ∧ 0 ≤ s.dif ∧ s.dif ≤ 32 ∧ w.grownBy w' none

set_option maxHeartbeats 2000000 in
set_option maxRecDepth 20000 in
theorem drawPatchOk (a : Option Addr) (len cap : Nat) (w : World) (h : Code w a len cap) : Calls Try.prog 20 #[.slice a len cap] w (DrawnPatOk w) := by
  have K0 : Hid (Arr (w.alloc (.cells #[.int .i64 0, .int .i64 0] 32)) w.heap.size 32 [0, 0]) := Lib.hid (heap_alloc_new _ _)
  have G0 := Lib.hid (grown_alloc (World.grownBy.refl w none) (.cells #[.int .i64 0, .int .i64 0] 32))
  have H := Lib.hid (h.below (below_grown G0.out))
  clear h
  obtain ⟨g, hgs⟩ : ∃ g, g = w.heap.size := ⟨_, rfl⟩
  have GE := Lib.hid hgs
  have GL := Lib.hid (show g < (w.alloc (.cells #[.int .i64 0, .int .i64 0] 32)).heap.size by simp [hgs])
  go_enter Try.func20, Try.ntmps20
  go_wp2_with fail
  rw [← hgs] at K0 ⊢
  clear hgs
  generalize w.alloc (.cells #[.int .i64 0, .int .i64 0] 32) = W at *
  refine (openR a len cap _ H.out).mono ?_
  rintro e w1 ⟨rfl, hb1, h1⟩
  have G1 := Lib.hid (grown_trans G0.out (grown_below hb1 (Nat.le_refl _) none))
  have K1 := Lib.hid (K0.out.still (grown_below hb1 (Nat.le_refl _) none))
  have R1 := Lib.hid h1
  have WG := Lib.hid (show w.heap.size ≤ W.heap.size from G0.out.size)
  clear hb1 h1 K0 G0 H
  go_wp2_with fail
  refine (pick W.heap.size 0 _ _ R1.out (by omega) (by omega) (by omega)).mono ?_
  rintro e w2 ⟨m, m0, m1, rfl, hf, hr⟩
  have G2 := Lib.hid (grown_own G1.out (far_grown hf) (fun k hk => by injection hk with hk; have := WG.out; omega))
  have K2 := Lib.hid (hf.arr K1.out (by have := GL.out; omega))
  have R2 := Lib.hid hr
  clear hf hr G1 K1 R1
  go_wp2_with fail
  refine (pick W.heap.size (0 + 1) _ _ R2.out (by omega) (by omega) (by omega)).mono ?_
  rintro e w3 ⟨d, d0, d1, rfl, hf, hr⟩
  have G3 := Lib.hid (grown_own G2.out (far_grown hf) (fun k hk => by injection hk with hk; have := WG.out; omega))
  have K3 := Lib.hid (hf.arr K2.out (by have := GL.out; omega))
  clear hf hr G2 K2 R2
  have k0 := K3.out.cell (i := 0) (by simp)
  have k1 := K3.out.cell (i := 1) (by simp)
  have f0 := K3.out.frozen 0
  have f1 := K3.out.frozen 1
  have K4 := Lib.hid (K3.out.two (m - 1) d)
  have z0 := K4.out.cell (i := 0) (by simp)
  have z1 := K4.out.cell (i := 1) (by simp)
  have gl : w.heap.size ≤ g := Nat.le_of_eq GE.out.symm
  have G4 := Lib.hid (grown_set (grown_set G3.out (p := ⟨g, 0, none⟩) gl (.int .i64 (m - 1))) (p := ⟨g, 1, none⟩) gl (.int .i64 d))
  clear K3 K4 G3 gl
  go_wp2_with fail
  exact bodyPost_ret (v := .agg #[.int .i64 (m - 1), .int .i64 d]) (by simp [results, Try.results20, go_sem, z0, z1]) rfl ⟨⟨m - 1, d⟩, rfl, (show -1 ≤ m - 1 by omega), (show m - 1 ≤ 4 by omega), d0, (show d ≤ 32 by omega), G4.out⟩

/-- numbers and patches of a law's own. -/
def DrawnPats (w : World) (e : Ending) (w' : World) : Prop :=
  ∃ u v d L, e = .returned (.tuple #[u, v]) ∧ d.length ≤ 4 ∧ L.length ≤ 4 ∧ w.grownBy w' none ∧ Sl w' u d ∧ PSl w' v L

set_option maxHeartbeats 4000000 in
set_option maxRecDepth 20000 in
theorem drawPatchData (a : Option Addr) (len cap : Nat) (w : World) (h : Code w a len cap) : Calls Try.prog 18 #[.slice a len cap] w (DrawnPats w) := by
  have H := Lib.hid h
  clear h
  obtain ⟨i0, hi, hz0, hz1, hz2⟩ := info_parts infoPatch
  have I1 := Lib.hid hi
  have I2 := Lib.hid hz0
  have I3 := Lib.hid hz1
  have I4 := Lib.hid hz2
  clear hi hz0 hz1 hz2
  go_enter Try.func18, Try.ntmps18
  go_wp2_with fail
  refine (openR a len cap _ H.out).mono ?_
  rintro e w1 ⟨rfl, hb1, h1⟩
  have B1 := Lib.hid hb1
  have D0 : Hid (PDr w.heap.size 0 w1 [] (.slice (some ⟨w1.heap.size, 0, none⟩) 0 0) (w1.alloc (.cells #[] 32))) := Lib.hid ⟨Far.alloc _ _, h1.alloc _, POwn.made _ _ (Nat.le_refl _), h1.lt⟩
  clear hb1 h1
  go_wp2_with fail
  generalize w1.alloc (.cells #[] 32) = W at *
  generalize hv : Value.slice (some ⟨w1.heap.size, 0, none⟩) 0 0 = v0 at *
  clear hv
  have GB := Lib.hid (fun (u : World) (hf : Far w.heap.size w1 u) => grown_of B1.out hf)
  clear B1
  obtain ⟨c, hc⟩ : ∃ c, c = w.heap.size := ⟨_, rfl⟩
  rw [← hc] at GB D0 ⊢
  clear hc
  refine (pick c 0 _ _ D0.out.rd (by omega) (by omega) (by omega)).mono ?_
  rintro e w2 ⟨m, m0, m1, rfl, hf, hr⟩
  have D1 := Lib.hid ((D0.out.pick hf hr).mono (q := 13 - 3 * m.toNat) (by omega))
  clear hf hr D0
  go_wp2_with fail
  go_loopw [5, 6] (fun v i wr => ∃ k : Nat, k ≤ 4 ∧ i = .int .i64 k ∧ ∃ L, L.length + k ≤ 4 ∧ PDr c (13 - 3 * k) w1 L v wr) (fun _ i _ => (intOf i).toNat)
  case atStart => exact ⟨m.toNat, by omega, by rw [Int.toNat_of_nonneg m0], [], by simp; omega, D1.out⟩
  case round =>
    obtain ⟨k, hk, rfl, L, hL, hD⟩ := hrel
    have D := Lib.hid hD
    have HL := Lib.hid hL
    clear hD hL D1 m0 m1
    by_cases h0 : k = 0
    · subst h0
      go_wp2_with fail
      refine (drawRow3 c _ _ D.out.rd (by omega)).mono ?_
      rintro e w3 ⟨u, l, rfl, hn, hf, hs, hl4, hr, _⟩
      have SL := Lib.hid hs.1
      have D2 := Lib.hid (D.out.pick hf hr)
      clear hn hf hs hr D
      go_wp2_with fail
      go_ret2
      exact ⟨_, _, l, L, rfl, hl4, by have := HL.out; omega, GB.out _ D2.out.far, SL.out, D2.out.own.sl⟩
    · have hk0 : (0 : Int) < k := by omega
      go_wp2_with fail
      refine (drawPat c _ _ D.out.rd (by omega)).mono ?_
      rintro e w3 ⟨s, rfl, _, _, _, _, hf, hr⟩
      have D2 := Lib.hid ((D.out.pick hf hr).mono (q := 13 - 3 * (k - 1)) (by omega))
      clear hf hr D
      obtain ⟨x, y⟩ := s
      dsimp only
      have GA := World.grownBy_alloc w3 (.cells #[.int .i64 x, .int .i64 y] 32) none
      have D3 := Lib.hid (D2.out.more GA)
      have W3 := Lib.hid (show w1.heap.size ≤ (w3.alloc (.cells #[.int .i64 x, .int .i64 y] 32)).heap.size from D3.out.size)
      clear D2 GA
      go_wp2_with (first
        | fail
        | (at_builtin; refine wpList_append_own _ rfl _ _ 26 rfl w1.heap.size 32 i0 (.agg #[.int .i64 0, .int .i64 0]) 2 16 Try.underlying26 I1.out I2.out I3.out I4.out rfl (by decide) _ _ _ rfl D3.out.own ⟨w3.heap.size, 0, none⟩ 1 1 [.int .i64 x, .int .i64 y] rfl rfl pat_cells (vals_one [x, y]) ?c3 ?c4 ?c5 ?_))
      case c3 => have := HL.out; unfold maxLen; omega
      case c4 => have := HL.out; omega
      case c5 => have := W3.out; simpa using this
      intro nv w4 hown hg4 _
      have D4 := Lib.hid (D3.out.put hg4 (pown_snoc hown rfl))
      clear hown hg4 D3 W3
      go_wp2_with fail
      go_roundw
      case rel => exact ⟨k - 1, by omega, by go_num, L ++ [⟨x, y⟩], by have := HL.out; simp; omega, D4.out⟩
      case measure => simp [intOf]; omega

theorem sl_keep {w w' : World} {b o n cap : Nat} {l : List Int} {r : Option Nat} (h : Sl w (.slice (some ⟨b, o, none⟩) n cap) l) (hg : w.grownBy w' r) (hr : some b ≠ r) : Sl w' (.slice (some ⟨b, o, none⟩) n cap) l := by
  obtain ⟨a, c, e, h1, h2, hd⟩ := h
  refine ⟨a, c, e, h1, h2, ?_⟩
  rcases hd with h0 | ⟨b', o', rfl, hd⟩
  · exact .inl h0
  · injection e with e
    injection e with e
    injection e with e1 e2
    subst e1 e2
    exact .inr ⟨_, _, rfl, fun i hi => hg.cell (hd i hi) hr⟩
/-- two of numbers of a law's own. -/
def DrawnTwo (w : World) (e : Ending) (w' : World) : Prop :=
  ∃ u v l m, e = .returned (.tuple #[u, v]) ∧ l.length ≤ 4 ∧ m.length ≤ 4 ∧ w.grownBy w' none ∧ Sl w' u l ∧ Sl w' v m

set_option maxHeartbeats 4000000 in
set_option maxRecDepth 20000 in
theorem drawPatchOf (a : Option Addr) (len cap : Nat) (w : World) (h : Code w a len cap) : Calls Try.prog 10 #[.slice a len cap] w (DrawnTwo w) := by
  have H := Lib.hid h
  clear h
  obtain ⟨i0, hi, hz0, hz1, hz2⟩ := info_parts infoInt
  have I1 := Lib.hid hi
  have I2 := Lib.hid hz0
  have I3 := Lib.hid hz1
  have I4 := Lib.hid hz2
  clear hi hz0 hz1 hz2
  go_enter Try.func10, Try.ntmps10
  go_wp2_with fail
  refine (openR a len cap _ H.out).mono ?_
  rintro e w1 ⟨rfl, hb1, h1⟩
  have GB := Lib.hid (fun (u : World) (hf : Far w.heap.size w1 u) => grown_of hb1 hf)
  have LB := Lib.hid (show w.heap.size ≤ w1.heap.size from hb1.size)
  have R1 := Lib.hid h1
  have CL := Lib.hid h1.lt
  clear hb1 h1 H
  obtain ⟨c, hc⟩ : ∃ c, c = w.heap.size := ⟨_, rfl⟩
  rw [← hc] at GB R1 CL LB ⊢
  clear hc
  go_wp2_with fail
  refine (drawRow3 c 0 _ R1.out (by omega)).mono ?_
  rintro e w2 ⟨u, l, rfl, hn, hf, hs, hl4, hr, hl3⟩
  have F2 := Lib.hid hf
  have U2 := Lib.hid hs
  have R2 := Lib.hid hr
  obtain ⟨au, cu, hu, hlc, hcm, hrd⟩ := hs.1
  subst hu
  obtain ⟨b, o, rfl, _⟩ := hrd.at_ (k := 0) (by omega)
  obtain ⟨n, hnl⟩ : ∃ n, n = l.length := ⟨_, rfl⟩
  have NL := Lib.hid hnl
  have S2 := Lib.hid hs.1
  rw [← hnl] at hl4 hl3 hlc U2 ⊢
  unfold maxLen at hcm
  have OW : Hid (Own (w2.alloc (.cells #[] 3)) w2.heap.size (.slice (some ⟨w2.heap.size, 0, none⟩) 0 0) []) := Lib.hid (Own.made w2 w2.heap.size [] (Nat.le_refl _) (by simp))
  have SU : Hid (Sl (w2.alloc (.cells #[] 3)) (.slice (some ⟨b, o, none⟩) l.length cu) l) := Lib.hid (S2.out.grown (grown_alloc (World.grownBy.refl _ _) _))
  have F3 := Lib.hid (F2.out.own (World.grownBy_alloc w2 (.cells #[] 3) none) (by simp))
  have R3 := Lib.hid (R2.out.alloc (.cells #[] 3))
  have LW := Lib.hid (show c < w2.heap.size from Nat.lt_of_lt_of_le CL.out F2.out.size)
  clear hn hf hs hr hrd hnl
  go_wp2_with (first
    | fail
    | (at_builtin; refine wpList_append_own _ rfl _ _ 23 rfl w2.heap.size 3 i0 (.int .i64 0) 1 8 Try.underlying23 I1.out I2.out I3.out I4.out rfl (by decide) _ _ _ rfl OW.out ⟨b, o, none⟩ n cu (vals l) rfl ?c1 ?c2 (vals_one _) ?c3 ?c4 ?c5 ?_))
  case c1 => rw [vals_length, ← NL.out]; omega
  case c2 =>
    intro j v hj
    rw [Addr.add_lit]
    exact vals_cells SU.out j v hj
  case c3 => unfold maxLen; simp; omega
  case c4 => simp; omega
  case c5 => simp
  intro nv w3 hown hg3 _
  have O3 : Hid (Own w3 w2.heap.size nv l) := Lib.hid (own_len (n := n) (by simpa [vals] using hown) NL.out.symm)
  have F4 := Lib.hid (F3.out.own hg3 (fun j hj => Nat.le_trans F2.out.size (World.ownsRow.lt OW.out j hj).1))
  have R4 := Lib.hid (R3.out.up hg3 (fun j hj => Nat.lt_of_lt_of_le LW.out (World.ownsRow.lt OW.out j hj).1))
  have BL : Hid (w1.heap.size ≤ b) := Lib.hid (U2.out.2 ⟨b, o, none⟩ n cu rfl)
  have BH : Hid (b < w2.heap.size) := Lib.hid (by
    obtain ⟨_, _, e5, _, _, hd⟩ := S2.out
    obtain ⟨b5, o5, e6, hc5⟩ := hd.at_ (k := 0) (by have := NL.out; omega)
    injection e5 with e5
    rw [e6] at e5
    injection e5 with e5
    injection e5 with e5
    subst e5
    exact lt_of_cell hc5)
  have S4 : Hid (Sl w3 (.slice (some ⟨b, o, none⟩) n cu) l) := Lib.hid (by
    have h2 := S2.out.grown (World.grownBy_alloc w2 (.cells #[] 3) none)
    rw [← NL.out] at h2
    exact sl_keep h2 hg3 (fun e => by have := (World.ownsRow.lt OW.out b e.symm).1; have := BH.out; omega))
  have NC := Lib.hid (show b ≠ c by have := BL.out; have := CL.out; omega)
  clear hown hg3 OW SU F3 R3 S2 U2 R2 F2
  have OO := O3.out
  rcases OO.2 with ⟨_, h0⟩ | ⟨g, cg, cur, rfl, hb, hcur⟩
  · have := NL.out; omega
  have HB := Lib.hid hb
  have O3' : Hid (w3.ownsRow w2.heap.size 3 1 (.slice (some ⟨g, 0, none⟩) n cg) n (vals l)) := Lib.hid (by have h := O3.out; unfold Own at h; rwa [← NL.out] at h)
  rw [← NL.out] at O3 ⊢
  clear OO hb hcur cur
  go_wp2_with fail
  refine (pick c _ _ _ R4.out (by omega) (by omega) (by omega)).mono ?_
  rintro e w4 ⟨m, m0, m1, rfl, hf, hr⟩
  have F5 := Lib.hid (F4.out.trans hf)
  have R5 := Lib.hid hr
  have S5 := Lib.hid (sl_keep S4.out (far_grown hf) (fun e => by injection e with e; exact NC.out e))
  have O5 := Lib.hid (World.ownsRow.kept O3'.out (far_grown hf) (.inr fun e => by have e : some g = some c := e; injection e with e; have := HB.out; have := LW.out; omega))
  clear hf hr F4 R4 S4 O3 O3'
  by_cases hm : m = 0
  · subst hm
    clear m0 m1
    go_wp2_with fail
    refine (drawRow3 c _ _ R5.out (by omega)).mono ?_
    rintro e w5 ⟨v, k, rfl, hn, hf, hs, hk4, hr, _⟩
    have F6 := Lib.hid (F5.out.trans hf)
    have S6 := Lib.hid (sl_keep S5.out (far_grown hf) (fun e => by injection e with e; exact NC.out e))
    have V6 := Lib.hid hs.1
    clear hn hf hs hr
    go_wp2_with fail
    go_ret2
    exact ⟨_, _, l, k, rfl, by have := NL.out; omega, hk4, GB.out _ F6.out, S6.out, V6.out⟩
  · have bm : (m == 0) = false := by simp [hm]
    have n0 : (1 : Int) ≤ n := by omega
    have n1 : (n : Int) ≤ 1000000 := by omega
    go_wp2_with fail
    refine (pick c _ _ _ R5.out (by omega) n0 n1).mono ?_
    rintro e w5 ⟨i, j0, j1, rfl, hf, hr⟩
    have F6 := Lib.hid (F5.out.trans hf)
    have R6 := Lib.hid hr
    have S6 := Lib.hid (sl_keep S5.out (far_grown hf) (fun e => by injection e with e; exact NC.out e))
    have O6 := Lib.hid (World.ownsRow.kept O5.out (far_grown hf) (.inr fun e => by have e : some g = some c := e; injection e with e; have := HB.out; have := LW.out; omega))
    clear hf hr F5 R5 S5 O5
    go_wp2_with fail
    refine (pick c _ _ _ R6.out (by omega) (by omega) (by omega)).mono ?_
    rintro e w6 ⟨x, x0, x1, rfl, hf, hr⟩
    have F7 := Lib.hid (F6.out.trans hf)
    have S7 := Lib.hid (sl_keep S6.out (far_grown hf) (fun e => by injection e with e; exact NC.out e))
    have O7 := Lib.hid (World.ownsRow.kept O6.out (far_grown hf) (.inr fun e => by have e : some g = some c := e; injection e with e; have := HB.out; have := LW.out; omega))
    clear hf hr F6 R6 S6 O6
    obtain ⟨q, rfl⟩ : ∃ q : Nat, i = q := ⟨i.toNat, (Int.toNat_of_nonneg j0).symm⟩
    have hq : q < n := by omega
    have st := World.ownsRow.stored O7.out q (.int .i64 x)
    have OS : Hid (Own w6 w2.heap.size (.slice (some ⟨g, 0, none⟩) n cg) l) := Lib.hid (own_len O7.out NL.out.symm)
    have cq : w6.cell? ⟨g, q, none⟩ = some (.int .i64 (l.getD q 0)) := by
      obtain ⟨_, _, e5, _, _, hd⟩ := OS.out.sl
      obtain ⟨b5, o5, e6, hc5⟩ := hd.at_ (k := q) (by have := NL.out; omega)
      injection e5 with e5
      rw [e6] at e5
      injection e5 with e5
      injection e5 with e5 e7
      subst e5 e7
      rw [Nat.zero_add] at hc5
      exact hc5
    have fz : w6.frozen? ⟨g, q, none⟩ = false := World.ownsRow.frozenAt O7.out q
    have V8 : Hid (Own (w6.setCell ⟨g, q, none⟩ (.int .i64 x)) w2.heap.size (.slice (some ⟨g, 0, none⟩) n cg) (l.set q x)) := Lib.hid (own_len (n := n) (by have h := st.1; rwa [vals_set] at h) (by rw [List.length_set]; exact NL.out.symm))
    have S8 := Lib.hid (sl_keep S7.out st.2 (fun e => by injection e with e; have := HB.out; have := BH.out; omega))
    have F8 := Lib.hid (F7.out.own st.2 (fun k hk => by injection hk with hk; have h1 := HB.out; have h2 := F7.out.size; have h3 := BL.out; have h4 := BH.out; omega))
    clear st O7 OS S7 F7
    generalize l.getD q 0 = y at *
    go_wp2_with fail
    go_ret2
    exact ⟨_, _, l, l.set q x, rfl, by have := NL.out; omega, by rw [List.length_set]; have := NL.out; omega, GB.out _ F8.out, S8.out, V8.out.sl⟩
end Go.Proofs.Ythglkgicckodaaa
