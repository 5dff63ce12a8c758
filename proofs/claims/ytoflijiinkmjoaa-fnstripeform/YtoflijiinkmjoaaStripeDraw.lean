/-
  The contracts of what the laws of chapter 21 draw: data, flags; and where the drawing of a stripe stands.
  Conditions: the reader has been read at most a million times.
-/
import Derived.Test.YtoflijiinkmjoaaStripeWriteS
import Derived.Test.YtoflijiinkmjoaaDrawRead
namespace Go.Proofs.Ytoflijiinkmjoaa
open Go.RowKit Go.Shelf
set_option linter.unusedVariables false
set_option linter.unusedSimpArgs false

/-- what drawing data leaves: a vector in memory of its own. -/
def DrawnD (c p : Nat) (w : World) (e : Ending) (w' : World) : Prop := ∃ (d : List Int) (v : Value), Vec.ok d = true ∧ e = .returned v ∧ Far c w w' ∧ Rd w' c (p + 4) ∧ Own w' w.heap.size v d
/-- what drawing flags leaves. -/
def DrawnW (c p : Nat) (w : World) (e : Ending) (w' : World) : Prop := ∃ (q : List Bool) (v : Value), q.length = 8 ∧ e = .returned v ∧ Far c w w' ∧ Rd w' c (p + 2) ∧ BOwn w' w.heap.size v q

set_option maxHeartbeats 2000000 in
set_option maxRecDepth 20000 in
theorem drawData (c p : Nat) (w : World) (h : Rd w c p) (hp : p ≤ 900000) : Calls Try.prog 75 #[.pointer (some ⟨c, 0, none⟩)] w (DrawnD c p w) := by
  have R0 := Lib.hid h
  clear h
  go_enter Try.func75, Try.ntmps75
  go_wp2_with fail
  refine (pick c (p) _ _ R0.out (by omega) (by omega) (by omega)).mono ?_
  rintro e w1 ⟨m1, m1l, m1h, rfl, hf, hr⟩
  have F1 := Lib.hid (hf)
  have R1 := Lib.hid hr
  clear hf hr R0
  go_wp2_with fail
  refine (pick c (p + 1) _ _ R1.out (by omega) (by omega) (by omega)).mono ?_
  rintro e w2 ⟨m2, m2l, m2h, rfl, hf, hr⟩
  have F2 := Lib.hid (F1.out.trans hf)
  have R2 := Lib.hid hr
  clear hf hr R1
  go_wp2_with fail
  refine (pick c (p + 1 + 1) _ _ R2.out (by omega) (by omega) (by omega)).mono ?_
  rintro e w3 ⟨m3, m3l, m3h, rfl, hf, hr⟩
  have F3 := Lib.hid (F2.out.trans hf)
  have R3 := Lib.hid hr
  clear hf hr R2
  go_wp2_with fail
  refine (pick c (p + 1 + 1 + 1) _ _ R3.out (by omega) (by omega) (by omega)).mono ?_
  rintro e w4 ⟨m4, m4l, m4h, rfl, hf, hr⟩
  have F4 := Lib.hid (F3.out.trans hf)
  have R4 := Lib.hid hr
  clear hf hr R3
  have hok : Vec.ok [m1, m2, m3, m4] = true := by
    simp [Vec.ok, Fld.ok]
    omega
  have hl := R4.out.lt
  have OW := Lib.hid (Own.made w4 w.heap.size [m1, m2, m3, m4] F4.out.size (by simp [maxLen]))
  have RA := Lib.hid (R4.out.up (World.grownBy_alloc w4 (.cells (vals [m1, m2, m3, m4]).toArray 3) none) (by simp))
  have FA := Lib.hid (F4.out.trans (Far.alloc (c := c) w4 (.cells (vals [m1, m2, m3, m4]).toArray 3)))
  go_wp2_with fail
  go_ret
  exact ⟨_, _, hok, rfl, FA.out, RA.out, OW.out⟩

set_option maxHeartbeats 2000000 in
set_option maxRecDepth 20000 in
theorem drawWhich (c p : Nat) (w : World) (h : Rd w c p) (hp : p ≤ 900000) : Calls Try.prog 77 #[.pointer (some ⟨c, 0, none⟩)] w (DrawnW c p w) := by
  have R0 := Lib.hid h
  have HC := h.lt
  clear h
  go_enter Try.func77, Try.ntmps77
  go_wp2_with fail
  refine (pick c p _ _ R0.out (by omega) (by omega) (by omega)).mono ?_
  rintro e w1 ⟨m, m0, m1, rfl, hf, h1⟩
  have F1 := Lib.hid hf
  have R1 := Lib.hid h1
  clear hf h1 R0
  by_cases hm : m = 0
  · subst hm
    go_wp2_with fail
    refine (specL4Set 255 (by omega) _).mono ?_
    rintro e w2 ⟨v, rfl, hg, ho⟩
    have F2 := Lib.hid (Far.own F1.out hg (by simp))
    have R2 := Lib.hid (R1.out.up hg (by simp))
    have O2 := Lib.hid (ho.lower F1.out.size)
    clear hg ho
    go_wp2_with fail
    go_ret
    exact ⟨_, _, by rw [bits_len], rfl, F2.out, R2.out.mono (by omega), O2.out⟩
  · have hm' : (m == 0) = false := by rw [beq_eq_false_iff_ne]; exact hm
    go_wp2_with fail
    refine (pick c (p + 1) _ _ R1.out (by omega) (by omega) (by omega)).mono ?_
    rintro e w2 ⟨n, n0, n1, rfl, hf, h2⟩
    have F2 := Lib.hid (F1.out.trans hf)
    have R2 := Lib.hid h2
    clear hf h2 R1
    obtain ⟨n, rfl⟩ : ∃ j : Nat, n = j := ⟨n.toNat, by omega⟩
    have hn : n < 256 := by omega
    go_wp2_with fail
    refine (specL4Set n hn _).mono ?_
    rintro e w3 ⟨v, rfl, hg, ho⟩
    have F3 := Lib.hid (Far.own F2.out hg (by simp))
    have R3 := Lib.hid (R2.out.up hg (by simp))
    have O3 := Lib.hid (ho.lower F2.out.size)
    clear hg ho
    go_wp2_with fail
    go_ret
    exact ⟨_, _, by rw [bits_len], rfl, F3.out, R3.out, O3.out⟩

/-- rows of a stripe stay where the reader alone is written. -/
theorem StOwn.far {w w' : World} {base c : Nat} {u x y : Value} {a v : List Int} {f : List Bool} (h : StOwn w base u x y a v f) (hf : Far c w w') (hc : c < base) : StOwn w' base u x y a v f := by
  have ne : ∀ i : Item, i.Own w base → i.Own w' base := fun i hi => World.ownsRow.kept hi (far_grown hf) (.inr fun e => by have := (World.ownsRow.lt hi c e).1; omega)
  obtain ⟨h0, h1, h2, ab, ac, bc⟩ := own3 h
  exact mk3 (ne _ h0) (ne _ h1) (ne _ h2) ab ac bc
theorem StAt.far {w w' : World} {base s g1 g2 g3 d1 d2 d3 c : Nat} {k : Int} {a v : List Int} {f : List Bool} (h : StAt w base s g1 g2 g3 d1 d2 d3 k a v f) (hf : Far c w w') (hc : c < base) (hs : s ≠ c) : StAt w' base s g1 g2 g3 d1 d2 d3 k a v f :=
  ⟨h.blk.kept (far_grown hf) (fun e => hs (by injection e)), h.own.far hf hc, h.la, h.lv, h.lf, h.ne1, h.ne2, h.ne3⟩
/-- a stripe told by its parts, in a block that is there. -/
theorem StAt.of {w : World} {base s : Nat} {k : Int} {u x y : Value} {a v : List Int} {f : List Bool} (hb : Blk w s 26 [.int .i64 k, u, x, y]) (ho : StOwn w base u x y a v f) (la : a.length = 8) (lv : v.length = 8) (lf : f.length = 8) :
    ∃ g1 g2 g3 d1 d2 d3, u = .slice (some ⟨g1, 0, none⟩) 8 d1 ∧ x = .slice (some ⟨g2, 0, none⟩) 8 d2 ∧ y = .slice (some ⟨g3, 0, none⟩) 8 d3 ∧ StAt w base s g1 g2 g3 d1 d2 d3 k a v f := by
  obtain ⟨h0, h1, h2, _⟩ := own3 ho
  have n1 := item_ne h0 hb (show (3 : Nat) ≠ 26 by decide)
  have n2 := item_ne h1 hb (show (3 : Nat) ≠ 26 by decide)
  have n3 := item_ne h2 hb (show (4 : Nat) ≠ 26 by decide)
  obtain ⟨g1, d1, e1, _, l1, _⟩ := ownEight (row1_own.1 h0) la
  obtain ⟨g2, d2, e2, _, l2, _⟩ := ownEight (row1_own.1 h1) lv
  obtain ⟨g3, d3, e3, _, l3, _⟩ := (bool1_own.1 h2).eight lf
  have e1' : u = .slice (some ⟨g1, 0, none⟩) 8 d1 := e1
  have e2' : x = .slice (some ⟨g2, 0, none⟩) 8 d2 := e2
  have e3' : y = .slice (some ⟨g3, 0, none⟩) 8 d3 := e3
  subst e1' e2' e3'
  exact ⟨g1, g2, g3, d1, d2, d3, rfl, rfl, rfl, hb, ho, la, lv, lf, fun e => n1 (by rw [e]; rfl), fun e => n2 (by rw [e]; rfl), fun e => n3 (by rw [e]; rfl)⟩
theorem outC_far {w w' : World} {gz c : Nat} (h : OutC w gz) (hf : Far c w w') (hc : gz ≠ c) : OutC w' gz := outC_kept h (far_grown hf) (fun e => hc (by injection e))

/-- where the drawing of a stripe stands, but for the stripe. -/
structure DS (w : World) (c gz p : Nat) (W : World) : Prop where
  far : Far c w W
  rd : Rd W c p
  out : OutC W gz
namespace DS
variable {w W W' : World} {c gz p q : Nat}
theorem go (h : DS w c gz p W) (hf : Far c W W') (hr : Rd W' c q) (hc : c < gz) : DS w c gz q W' := ⟨h.far.trans hf, hr, outC_far h.out hf (by omega)⟩
theorem still (h : DS w c gz p W) (hg : W.grownBy W' none) : DS w c gz p W' := ⟨Far.own h.far hg (by simp), h.rd.up hg (by simp), outC_kept h.out hg (by simp)⟩
theorem set (h : DS w c gz p W) {r : Nat} (hg : W.grownBy W' (some r)) (hc : c < w.heap.size) (hr : w.heap.size ≤ r) (hz : gz ≠ r) : DS w c gz p W' :=
  ⟨Far.own h.far hg (fun k hk => by injection hk with hk; omega), h.rd.up hg (fun k hk => by injection hk with hk; omega), outC_kept h.out hg (by simpa using hz)⟩
theorem more (h : DS w c gz p W) (hq : p ≤ q) : DS w c gz q W := ⟨h.far, h.rd.mono hq, h.out⟩
end DS
/-- the stripe too. -/
structure InD (w : World) (c gz s p : Nat) (W : World) : Prop where
  ds : DS w c gz p W
  st : ∃ g1 g2 g3 d1 d2 d3 k a v f, StAt W w.heap.size s g1 g2 g3 d1 d2 d3 k a v f
end Go.Proofs.Ytoflijiinkmjoaa
