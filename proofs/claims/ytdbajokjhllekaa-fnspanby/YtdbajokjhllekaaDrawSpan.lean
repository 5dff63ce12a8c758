/-
  The contracts of the model's drawing of tables: from whatever bytes a table comes, it has at most nine rows, in new memory, and nothing that was there is changed.
  Conditions: none.
-/
import Derived.Test.YtdbajokjhllekaaDrawVec
import Derived.Test.YtdbajokjhllekaaSpanSpec2
import Derived.Test.YtdbajokjhllekaaSpanOk
import Derived.Test.YtdbajokjhllekaaSpanTake
namespace Go.Proofs.Ytdbajokjhllekaa
open Go.RowKit
set_option linter.unusedVariables false

/-- a row in a block of integers, from base on. -/
def RowV (w : World) (base : Nat) (u : Value) (l : List Int) : Prop := Sl w u l ∧ IntRow w u ∧ ∀ x n cap, u = .slice (some x) n cap → base ≤ x.block
theorem RowAt.intRow {w : World} {v : Value} (h : RowAt w v) : IntRow w v := by
  obtain ⟨g, o, n, cap, cur, rfl, hg, _⟩ := h
  intro x n' cap' e
  injection e with e
  injection e with e
  subst e
  exact ⟨cur, (0, 0), hg⟩
theorem RowV.own {w : World} {base b : Nat} {v : Value} {l : List Int} (h : Own w b v l) (hb : base ≤ b) : RowV w base v l := by
  refine ⟨h.sl, h.intRow, fun x n cap e => ?_⟩
  rcases h.2 with ⟨e', _⟩ | ⟨g, cap', cur, e', hg, _⟩
  · rw [e'] at e; cases e
  · rw [e'] at e
    injection e with e
    injection e with e
    subst e
    exact Nat.le_trans hb hg
theorem RowV.far {w w' : World} {base c : Nat} {v : Value} {l : List Int} (h : RowV w base v l) (hf : Far c w w') (hc : c < base) : RowV w' base v l := by
  refine ⟨(SlUp.far ⟨h.1, h.2.2⟩ hf hc).1, fun x n cap e => ?_, h.2.2⟩
  obtain ⟨cur, fr, hx⟩ := h.2.1 x n cap e
  have hb := h.2.2 x n cap e
  exact ⟨cur, fr, (hf.block _ (Array.getElem?_eq_some_iff.1 hx).1 (by omega)).trans hx⟩
theorem RowV.still {w w' : World} {base : Nat} {v : Value} {l : List Int} (h : RowV w base v l) (hg : w.grownBy w' none) : RowV w' base v l := ⟨h.1.grown hg, h.2.1.still hg, h.2.2⟩

/-- a table that was drawn. -/
structure DTab (w : World) (base : Nat) (v : Value) (us : List Value) (m : List (List Int)) : Prop where
  st : STab w base v us m
  up : ∀ (i : Nat) (u : Value), us[i]? = some u → ∀ x n cap, u = .slice (some x) n cap → base ≤ x.block
  nn : ∃ x n cap, v = .slice (some x) n cap
namespace DTab
variable {w w' : World} {base c : Nat} {v : Value} {us : List Value} {m : List (List Int)}
theorem still (h : DTab w base v us m) (hg : w.grownBy w' none) : DTab w' base v us m := ⟨h.st.still hg, h.up, h.nn⟩
theorem row (h : DTab w base v us m) {i : Nat} {u : Value} {l : List Int} (hu : us[i]? = some u) (hl : m[i]? = some l) : RowV w base u l := ⟨(h.st.rows i u l hu hl).1, (h.st.rows i u l hu hl).2, h.up i u hu⟩
theorem far (h : DTab w base v us m) (hf : Far c w w') (hc : c < base) : DTab w' base v us m := by
  refine ⟨⟨World.ownsRow.kept h.st.top (far_grown hf) ?_, h.st.len, fun i u l hu hl => ?_⟩, h.up, h.nn⟩
  · cases hv : v.ownBlock with
    | none => exact .inl rfl
    | some k => exact .inr (fun e => by injection e with e; have := (World.ownsRow.lt h.st.top k hv).1; omega)
  · have := (h.row hu hl).far hf hc
    exact ⟨this.1, this.2.1⟩
theorem snoc {w2 : World} {o' u : Value} {l : List Int} {n : Nat} (h : DTab w base v us m) (hu : RowV w base u l) (hg2 : w.grownBy w2 v.ownBlock) (ho2 : w2.ownsRow base 24 1 o' n (us ++ [u])) (hn : n = us.length + 1) : DTab w2 base o' (us ++ [u]) (m ++ [l]) := by
  refine ⟨h.st.snoc (World.grownBy.refl _ _) ⟨hu.1, hu.2.1⟩ hg2 ho2 hn rfl, fun i x hx => ?_, ?_⟩
  rotate_left
  · rcases ho2.2 with ⟨_, h0⟩ | ⟨g, cap, cur, e, _⟩
    · omega
    · exact ⟨_, _, _, e⟩
  by_cases hi : i < us.length
  · rw [List.getElem?_append_left hi] at hx; exact h.up i x hx
  · rw [List.getElem?_append_right (by omega)] at hx
    have hx' : x = u := by
      have := (List.getElem?_eq_some_iff.1 hx).1
      have e : i - us.length = 0 := by simp at this; omega
      rw [e] at hx; simpa using hx.symm
    subst hx'
    exact hu.2.2
theorem none_ (w : World) (base : Nat) (hb : base ≤ w.heap.size) : DTab (w.alloc (.cells #[] 24)) base (.slice (some ⟨w.heap.size, 0, none⟩) 0 0) [] [] := ⟨STab.made w base hb, by simp, _, _, _, rfl⟩
end DTab
theorem ret_num {a b : Int} (h : a = b) : Value.int .i64 a = .int .i64 b := by rw [h]

/-- what drawing a table leaves. -/
def DrawnTab (c p : Nat) (w : World) (e : Ending) (w' : World) : Prop :=
  ∃ v us m, e = .returned v ∧ Far c w w' ∧ Rd w' c (p + 200) ∧ m.length ≤ 9 ∧ DTab w' w.heap.size v us m

def sliceLen : Value → Nat
  | .slice _ n _ => n
  | _ => 0
theorem okRow {m : List (List Int)} {i : Nat} (hi : i < m.length) : m[i]? = some (m.getD i []) := by simp [List.getD_eq_getElem?_getD, hi]

set_option maxHeartbeats 4000000 in
set_option maxRecDepth 20000 in
theorem drawRows (c p : Nat) (w : World) (h : Rd w c p) (hp : p ≤ 800000) : Calls Try.prog 105 #[.pointer (some ⟨c, 0, none⟩)] w (DrawnTab c p w) := by
  have hcw := h.lt
  have H := Lib.hid h
  clear h
  obtain ⟨i0, hi, hz0, hz1, hz2⟩ := info_parts infoInts
  have I1 := Lib.hid hi
  have I2 := Lib.hid hz0
  have I3 := Lib.hid hz1
  have I4 := Lib.hid hz2
  clear hi hz0 hz1 hz2
  have M0 := Lib.hid (DTab.none_ w w.heap.size (Nat.le_refl _))
  go_enter Try.func105, Try.ntmps105
  go_wp2_with fail
  refine (pick c p 6 _ (H.out.alloc _) (by omega) (by omega) (by omega)).mono ?_
  rintro e w1 ⟨n0, n00, n01, rfl, hf, hr⟩
  obtain ⟨k0, rfl⟩ : ∃ k : Nat, n0 = k := ⟨n0.toNat, by omega⟩
  have F1 : Hid (Far c w w1) := Lib.hid ((Far.alloc _ _).trans hf)
  have R1 := Lib.hid hr
  have D1 := Lib.hid (M0.out.far hf hcw)
  clear hf hr M0
  go_wp2_with fail
  go_loopw [3, 4] (fun o i wr => ∃ k : Nat, k ≤ 5 ∧ i = .int .i64 k ∧ Far c w wr ∧ Rd wr c (p + 1 + 30 * (5 - k)) ∧ ∃ vs m, m.length + k ≤ 5 ∧ DTab wr w.heap.size o vs m) (fun _ i _ => (intOf i).toNat)
  case atStart => exact ⟨k0, by omega, rfl, F1.out, R1.out.mono (by omega), [], [], by simp; omega, D1.out⟩
  case round =>
    obtain ⟨k, hk, rfl, hf, hr, vs, m, hmk, hd⟩ := hrel
    have F := Lib.hid hf
    have R := Lib.hid hr
    have D := Lib.hid hd
    clear hf hr hd D1 F1 R1
    obtain ⟨ao, co, eo, ho1, ho2⟩ : ∃ a cap, u3 = .slice a m.length cap ∧ m.length ≤ cap ∧ cap ≤ maxLen := by
      obtain ⟨a, cap, e, h1, h2, _⟩ := D.out.st.tab.top
      exact ⟨a, cap, e, h1, h2⟩
    unfold maxLen at ho2
    by_cases hk0 : (k : Int) > 0
    · subst eo
      go_wp2_with fail
      refine (drawRow c (p + 1 + 30 * (5 - k)) _ R.out (by omega)).mono ?_
      rintro e w2 ⟨u, l, rfl, hn, hf, hs, hl, hr, hrow⟩
      have F2 := Lib.hid (F.out.trans hf)
      have D2 := Lib.hid (D.out.far hf hcw)
      have R2 := Lib.hid hr
      have RV : Hid (RowV w2 w.heap.size u l) := Lib.hid ⟨hs.1, hrow.intRow, fun x n cap e => Nat.le_trans F.out.size (hs.2 x n cap e)⟩
      clear hn hf hs hl hr hrow F R D
      by_cases hm1 : (m.length : Int) > 1
      · go_wp2_with fail
        refine (pick c (p + 1 + 30 * (5 - k) + 20) 3 _ R2.out (by omega) (by omega) (by omega)).mono ?_
        rintro e w3 ⟨j, j0, j1, rfl, hf, hr⟩
        have F3 := Lib.hid (F2.out.trans hf)
        have D3 := Lib.hid (D2.out.far hf hcw)
        have R3 := Lib.hid hr
        have RV3 := Lib.hid (RV.out.far hf hcw)
        clear hf hr F2 D2 R2 RV
        by_cases hj : j = 0
        · subst hj
          obtain ⟨b, o, cap', x0, e, hu0, hx0, hs0⟩ := D3.out.st.tab.at_ (i := 0) (by omega)
          injection e with e1 e2 e3
          subst e1 e3
          obtain ⟨b', o', cap', x1, e, hu1, hx1, hs1⟩ := D3.out.st.tab.at_ (i := 1) (by omega)
          injection e with e1 e2 e3
          injection e1 with e1
          injection e1 with e1 e5
          subst e1 e5 e3
          have hx0 : w3.cell? ⟨b, o, none⟩ = some x0 := hx0
          obtain ⟨l0, hl0⟩ : ∃ l, m.getD 0 [] = l := ⟨_, rfl⟩
          obtain ⟨l1, hl1⟩ : ∃ l, m.getD 1 [] = l := ⟨_, rfl⟩
          have Q0 : Hid (m[0]? = some l0) := Lib.hid (by rw [← hl0]; exact okRow (by omega))
          have Q1 : Hid (m[1]? = some l1) := Lib.hid (by rw [← hl1]; exact okRow (by omega))
          have U0 := Lib.hid hu0
          have U1 := Lib.hid hu1
          rw [hl0] at hs0
          rw [hl1] at hs1
          have C0 := Lib.hid (specVecOk x0 l0 w3 hs0)
          have C1 := Lib.hid (specVecOk x1 l1 w3 hs1)
          have BC : Hid (b ≠ c ∧ b < w3.heap.size) := Lib.hid ⟨by
            have hh : (Value.slice (some ⟨b, o, none⟩) m.length co).ownBlock = some b := rfl
            have := (World.ownsRow.lt D3.out.st.top b hh).1
            omega, lt_of_cell hx0⟩
          have m1 : 1 < m.length := by omega
          clear hl0 hl1 hs0 hs1 hu0 hu1
          obtain ⟨q0, hq0⟩ : ∃ q, Vec.ok l0 = q := ⟨_, rfl⟩
          rw [hq0] at C0
          go_wp2_with fail
          refine C0.out.mono ?_
          rintro e w' ⟨rfl, rfl⟩
          cases q0
          · clear hq0
            obtain ⟨au, cu, eu, _, _, _⟩ := RV3.out.1
            obtain ⟨nu, hnu⟩ : ∃ n, l.length = n := ⟨_, rfl⟩
            rw [hnu] at eu
            clear hnu
            subst eu
            have TOP := Lib.hid D3.out.st.top
            have sz : w.heap.size ≤ w3.heap.size := F3.out.size
            have vl : vs.length = m.length := D3.out.st.len
            have VL := Lib.hid vl
            have vl9 : vs.length ≤ 9 := by omega
            clear vl
            go_wp2_with (first
              | (at_builtin; refine wpList_append_own _ rfl _ _ 23 rfl w.heap.size 24 i0 (.slice none 0 0) 1 24 Try.underlying23 I1.out I2.out I3.out I4.out rfl (by decide) _ _ _ rfl (World.ownsRow.alloc TOP.out _) ⟨w3.heap.size, 0, none⟩ 1 1 [.slice au nu cu] rfl rfl (one_cell (g := 0)) (by simp [Value.oneCell']) ?c3 ?c4 ?c5 ?_))
            case c3 => unfold maxLen; omega
            case c4 => omega
            case c5 => (try simp only [World.size_alloc]); omega
            intro o' wz hoz hgz _
            have DZ : Hid (DTab wz w.heap.size o' (vs ++ [.slice au nu cu]) (m ++ [l])) := Lib.hid (D3.out.snoc RV3.out (grown_trans (World.grownBy_alloc _ _ _) hgz) hoz rfl)
            have hrow : ∀ q, Value.ownBlock _ = some q → w.heap.size ≤ q := fun q hq => (World.ownsRow.lt TOP.out q hq).1
            have FZ : Hid (Far c w wz) := Lib.hid ((F3.out.trans (Far.alloc _ _)).own hgz hrow)
            have RZ : Hid (Rd wz c (p + 1 + 30 * (5 - (k - 1)))) := Lib.hid (((R3.out.alloc _).up hgz (fun q hq => by have := hrow q hq; omega)).mono (by omega))
            clear hoz hgz hrow TOP
            go_wp2_with fail
            go_roundw
            case rel => exact ⟨k - 1, by omega, ret_num (by omega), FZ.out, RZ.out, _, _, by simp; omega, DZ.out⟩
            case measure => simp [intOf]; omega
          obtain ⟨q1, hq1⟩ : ∃ q, Vec.ok l1 = q := ⟨_, rfl⟩
          rw [hq1] at C1
          have OK0 := Lib.hid hq0
          clear hq0
          go_wp2_with fail
          refine C1.out.mono ?_
          rintro e w' ⟨rfl, rfl⟩
          cases q1
          · clear hq1
            obtain ⟨au, cu, eu, _, _, _⟩ := RV3.out.1
            obtain ⟨nu, hnu⟩ : ∃ n, l.length = n := ⟨_, rfl⟩
            rw [hnu] at eu
            clear hnu
            subst eu
            have TOP := Lib.hid D3.out.st.top
            have sz : w.heap.size ≤ w3.heap.size := F3.out.size
            have vl : vs.length = m.length := D3.out.st.len
            have VL := Lib.hid vl
            have vl9 : vs.length ≤ 9 := by omega
            clear vl
            go_wp2_with (first
              | (at_builtin; refine wpList_append_own _ rfl _ _ 23 rfl w.heap.size 24 i0 (.slice none 0 0) 1 24 Try.underlying23 I1.out I2.out I3.out I4.out rfl (by decide) _ _ _ rfl (World.ownsRow.alloc TOP.out _) ⟨w3.heap.size, 0, none⟩ 1 1 [.slice au nu cu] rfl rfl (one_cell (g := 0)) (by simp [Value.oneCell']) ?c3 ?c4 ?c5 ?_))
            case c3 => unfold maxLen; omega
            case c4 => omega
            case c5 => (try simp only [World.size_alloc]); omega
            intro o' wz hoz hgz _
            have DZ : Hid (DTab wz w.heap.size o' (vs ++ [.slice au nu cu]) (m ++ [l])) := Lib.hid (D3.out.snoc RV3.out (grown_trans (World.grownBy_alloc _ _ _) hgz) hoz rfl)
            have hrow : ∀ q, Value.ownBlock _ = some q → w.heap.size ≤ q := fun q hq => (World.ownsRow.lt TOP.out q hq).1
            have FZ : Hid (Far c w wz) := Lib.hid ((F3.out.trans (Far.alloc _ _)).own hgz hrow)
            have RZ : Hid (Rd wz c (p + 1 + 30 * (5 - (k - 1)))) := Lib.hid (((R3.out.alloc _).up hgz (fun q hq => by have := hrow q hq; omega)).mono (by omega))
            clear hoz hgz hrow TOP
            go_wp2_with fail
            go_roundw
            case rel => exact ⟨k - 1, by omega, ret_num (by omega), FZ.out, RZ.out, _, _, by simp; omega, DZ.out⟩
            case measure => simp [intOf]; omega
          have OK1 := Lib.hid hq1
          clear hq1
          have hm0 : (0 : Int) < (m.length : Int) := by omega
          have hmne : ¬ m = [] := by rintro rfl; simp at m1
          have hmlt : 0 < m.length := by omega
          have y0 : w3.drew.cell? ⟨b, o, none⟩ = some x0 := hx0
          have y1 : w3.drew.cell? ⟨b, o + 1, none⟩ = some x1 := hx1
          have RR : Hid (Rd w3.drew c (p + 1 + 30 * (5 - k) + 20 + 1)) := Lib.hid (R3.out.up (grown_drew (World.grownBy.refl _ none)) (by simp))
          have FR : Hid (Far c w w3.drew) := Lib.hid (F3.out.own (grown_drew (World.grownBy.refl _ none)) (by simp))
          have DR : Hid (DTab w3.drew w.heap.size (.slice (some ⟨b, o, none⟩) m.length co) vs m) := Lib.hid (D3.out.still (grown_drew (World.grownBy.refl _ none)))
          clear hx0 hx1
          go_wp2_with fail
          go_region_held3 (fun w' => w'.cell? ⟨b, o, none⟩ = some x0 ∧ w'.cell? ⟨b, o + 1, none⟩ = some x1)
            (first
              | with_reducible exact ⟨y0, y1⟩
              | with_reducible exact ⟨y2, y3⟩
              | with_reducible exact ⟨y4, y5⟩
              | with_reducible exact ⟨y6, y7⟩
              | with_reducible exact ⟨y8, y9⟩
              | with_reducible exact ⟨ya, yb⟩)
            (first
              | (go_at_call 106; refine (specAdd s1 s2 4 (Sp.lmul l0 j2) (Sp.lmul l1 j3) _ OS1b.out.sl OS2.out.sl (Sp.row_lmul (Sp.row_ok.1 OK0.out) _) (Sp.row_lmul (Sp.row_ok.1 OK1.out) _) (by omega)).mono ?_; rintro e w8 ⟨s3, rfl, hg8, ho8⟩
                 have ya := hg8.cell y8 (by simp)
                 have yb := hg8.cell y9 (by simp)
                 have R8 := Lib.hid (R7.out.up hg8 (by simp))
                 have D8 := Lib.hid (D7.out.still hg8)
                 have F8 := Lib.hid (F7.out.own hg8 (by simp))
                 have O8 := Lib.hid ho8)
              | (go_at_call 107; refine (specMul x1 4 l1 j3 _ (D6.out.row U1.out Q1.out).1 (Sp.row_ok.1 OK1.out) (Fld.ok_true j30 (by omega)) (by omega)).mono ?_; rintro e w7 ⟨s2, rfl, hg7, ho7⟩
                 have OS2 := Lib.hid ho7
                 have OS1b := Lib.hid (OS1a.out.still hg7)
                 have R7 := Lib.hid (R6.out.up hg7 (by simp))
                 have D7 := Lib.hid (D6.out.still hg7)
                 have F7 := Lib.hid (F6.out.own hg7 (by simp))
                 have y8 := hg7.cell y6 (by simp)
                 have y9 := hg7.cell y7 (by simp))
              | (go_at_call 71; refine (pick c (p + 1 + 30 * (5 - k) + 20 + 1 + 1) 31 _ R5.out (by omega) (by omega) (by omega)).mono ?_; rintro e w6 ⟨j3, j30, j31, rfl, hf6, hr6⟩
                 have D6 := Lib.hid (D5.out.far hf6 hcw)
                 have R6 := Lib.hid hr6
                 have OS1a := Lib.hid (OS1.out.far hf6 R4.out.lt)
                 have F6 := Lib.hid (F5.out.trans hf6)
                 have y6 := (hf6.cell (p := ⟨b, o, none⟩) (lt_of_cell y4) BC.out.1).trans y4
                 have y7 := (hf6.cell (p := ⟨b, o + 1, none⟩) (lt_of_cell y5) BC.out.1).trans y5)
              | (go_at_call 107; refine (specMul x0 4 l0 j2 _ (D4.out.row U0.out Q0.out).1 (Sp.row_ok.1 OK0.out) (Fld.ok_true j20 (by omega)) (by omega)).mono ?_; rintro e w5 ⟨s1, rfl, hg5, ho5⟩
                 have OS1 := Lib.hid ho5
                 have D5 := Lib.hid (D4.out.still hg5)
                 have R5 := Lib.hid (R4.out.up hg5 (by simp))
                 have F5 := Lib.hid (F4.out.own hg5 (by simp))
                 have y4 := hg5.cell y2 (by simp)
                 have y5 := hg5.cell y3 (by simp))
              | (go_at_call 71; refine (pick c (p + 1 + 30 * (5 - k) + 20 + 1) 31 _ RR.out (by omega) (by omega) (by omega)).mono ?_; rintro e w4 ⟨j2, j20, j21, rfl, hf4, hr4⟩
                 have D4 := Lib.hid (DR.out.far hf4 hcw)
                 have R4 := Lib.hid hr4
                 have F4 := Lib.hid (FR.out.trans hf4)
                 have y2 := (hf4.cell (p := ⟨b, o, none⟩) (lt_of_cell y0) BC.out.1).trans y0
                 have y3 := (hf4.cell (p := ⟨b, o + 1, none⟩) (lt_of_cell y1) BC.out.1).trans y1))
          clear y0 y1 y2 y3 y4 y5 y6 y7 y8 y9 ya yb
          have RVX : Hid (RowV w8 w.heap.size s3 (Sp.ladd (Sp.lmul l0 j2) (Sp.lmul l1 j3))) := Lib.hid (RowV.own O8.out F7.out.size)
          generalize Sp.ladd (Sp.lmul l0 j2) (Sp.lmul l1 j3) = lx at *
          obtain ⟨au, cu, eu, _, _, _⟩ := RVX.out.1
          obtain ⟨nu, hnu⟩ : ∃ n, lx.length = n := ⟨_, rfl⟩
          rw [hnu] at eu
          clear hnu
          subst eu
          have TOP := Lib.hid D8.out.st.top
          have sz : w.heap.size ≤ w8.heap.size := F8.out.size
          have vl : vs.length = m.length := D8.out.st.len
          have VL := Lib.hid vl
          have vl9 : vs.length ≤ 9 := by omega
          clear vl
          go_wp2_with (first
            | (at_builtin; refine wpList_append_own _ rfl _ _ 23 rfl w.heap.size 24 i0 (.slice none 0 0) 1 24 Try.underlying23 I1.out I2.out I3.out I4.out rfl (by decide) _ _ _ rfl (World.ownsRow.alloc TOP.out _) ⟨w8.heap.size, 0, none⟩ 1 1 [.slice au nu cu] rfl rfl (one_cell (g := 0)) (by simp [Value.oneCell']) ?c3 ?c4 ?c5 ?_))
          case c3 => unfold maxLen; omega
          case c4 => omega
          case c5 => (try simp only [World.size_alloc]); omega
          intro o' wz hoz hgz _
          have DZ : Hid (DTab wz w.heap.size o' (vs ++ [.slice au nu cu]) (m ++ [lx])) := Lib.hid (D8.out.snoc RVX.out (grown_trans (World.grownBy_alloc _ _ _) hgz) hoz rfl)
          have hrow : ∀ q, Value.ownBlock _ = some q → w.heap.size ≤ q := fun q hq => (World.ownsRow.lt TOP.out q hq).1
          have FZ : Hid (Far c w wz) := Lib.hid ((F8.out.trans (Far.alloc _ _)).own hgz hrow)
          have RZ : Hid (Rd wz c (p + 1 + 30 * (5 - (k - 1)))) := Lib.hid (((R8.out.alloc _).up hgz (fun q hq => by have := hrow q hq; omega)).mono (by omega))
          clear hoz hgz hrow TOP
          go_wp2_with fail
          go_roundw
          case rel => exact ⟨k - 1, by omega, ret_num (by omega), FZ.out, RZ.out, _, _, by simp; omega, DZ.out⟩
          case measure => simp [intOf]; omega
        · have hj' : (j == 0) = false := by simp [hj]
          obtain ⟨au, cu, eu, _, _, _⟩ := RV3.out.1
          obtain ⟨nu, hnu⟩ : ∃ n, l.length = n := ⟨_, rfl⟩
          rw [hnu] at eu
          clear hnu
          subst eu
          have TOP := Lib.hid D3.out.st.top
          have sz : w.heap.size ≤ w3.heap.size := F3.out.size
          have vl : vs.length = m.length := D3.out.st.len
          have VL := Lib.hid vl
          have vl9 : vs.length ≤ 9 := by omega
          clear vl
          go_wp2_with (first
            | (at_builtin; refine wpList_append_own _ rfl _ _ 23 rfl w.heap.size 24 i0 (.slice none 0 0) 1 24 Try.underlying23 I1.out I2.out I3.out I4.out rfl (by decide) _ _ _ rfl (World.ownsRow.alloc TOP.out _) ⟨w3.heap.size, 0, none⟩ 1 1 [.slice au nu cu] rfl rfl (one_cell (g := 0)) (by simp [Value.oneCell']) ?c3 ?c4 ?c5 ?_))
          case c3 => unfold maxLen; omega
          case c4 => omega
          case c5 => (try simp only [World.size_alloc]); omega
          intro o' wz hoz hgz _
          have DZ : Hid (DTab wz w.heap.size o' (vs ++ [.slice au nu cu]) (m ++ [l])) := Lib.hid (D3.out.snoc RV3.out (grown_trans (World.grownBy_alloc _ _ _) hgz) hoz rfl)
          have hrow : ∀ q, Value.ownBlock _ = some q → w.heap.size ≤ q := fun q hq => (World.ownsRow.lt TOP.out q hq).1
          have FZ : Hid (Far c w wz) := Lib.hid ((F3.out.trans (Far.alloc _ _)).own hgz hrow)
          have RZ : Hid (Rd wz c (p + 1 + 30 * (5 - (k - 1)))) := Lib.hid (((R3.out.alloc _).up hgz (fun q hq => by have := hrow q hq; omega)).mono (by omega))
          clear hoz hgz hrow TOP
          go_wp2_with fail
          go_roundw
          case rel => exact ⟨k - 1, by omega, ret_num (by omega), FZ.out, RZ.out, _, _, by simp; omega, DZ.out⟩
          case measure => simp [intOf]; omega
      ·
        obtain ⟨au, cu, eu, _, _, _⟩ := RV.out.1
        obtain ⟨nu, hnu⟩ : ∃ n, l.length = n := ⟨_, rfl⟩
        rw [hnu] at eu
        clear hnu
        subst eu
        have TOP := Lib.hid D2.out.st.top
        have sz : w.heap.size ≤ w2.heap.size := F2.out.size
        have vl : vs.length = m.length := D2.out.st.len
        have VL := Lib.hid vl
        have vl9 : vs.length ≤ 9 := by omega
        clear vl
        go_wp2_with (first
          | (at_builtin; refine wpList_append_own _ rfl _ _ 23 rfl w.heap.size 24 i0 (.slice none 0 0) 1 24 Try.underlying23 I1.out I2.out I3.out I4.out rfl (by decide) _ _ _ rfl (World.ownsRow.alloc TOP.out _) ⟨w2.heap.size, 0, none⟩ 1 1 [.slice au nu cu] rfl rfl (one_cell (g := 0)) (by simp [Value.oneCell']) ?c3 ?c4 ?c5 ?_))
        case c3 => unfold maxLen; omega
        case c4 => omega
        case c5 => (try simp only [World.size_alloc]); omega
        intro o' wz hoz hgz _
        have DZ : Hid (DTab wz w.heap.size o' (vs ++ [.slice au nu cu]) (m ++ [l])) := Lib.hid (D2.out.snoc RV.out (grown_trans (World.grownBy_alloc _ _ _) hgz) hoz rfl)
        have hrow : ∀ q, Value.ownBlock _ = some q → w.heap.size ≤ q := fun q hq => (World.ownsRow.lt TOP.out q hq).1
        have FZ : Hid (Far c w wz) := Lib.hid ((F2.out.trans (Far.alloc _ _)).own hgz hrow)
        have RZ : Hid (Rd wz c (p + 1 + 30 * (5 - (k - 1)))) := Lib.hid (((R2.out.alloc _).up hgz (fun q hq => by have := hrow q hq; omega)).mono (by omega))
        clear hoz hgz hrow TOP
        go_wp2_with fail
        go_roundw
        case rel => exact ⟨k - 1, by omega, ret_num (by omega), FZ.out, RZ.out, _, _, by simp; omega, DZ.out⟩
        case measure => simp [intOf]; omega
    · have : k = 0 := by omega
      subst this
      subst eo
      go_wp2_with fail
      refine (pick c (p + 1 + 30 * (5 - 0)) 40 _ R.out (by omega) (by omega) (by omega)).mono ?_
      rintro e w2 ⟨j, j0, j1, rfl, hf, hr⟩
      have F2 := Lib.hid (F.out.trans hf)
      have D2 := Lib.hid (D.out.far hf hcw)
      have R2 := Lib.hid hr
      clear hf hr F R D
      by_cases hj : j = 0
      · subst hj
        go_wp2_with fail
        go_loopw [3] (fun o wr => Far c w wr ∧ Rd wr c (p + 200) ∧ ∃ vs m, m.length ≤ 9 ∧ DTab wr w.heap.size o vs m) (fun o _ => 9 - sliceLen o)
        case atStart => exact ⟨F2.out, R2.out.mono (by omega), vs, m, by omega, D2.out⟩
        case round =>
          obtain ⟨hf, hr, vs, m, hm9, hd⟩ := hrel
          have F := Lib.hid hf
          have R := Lib.hid hr
          have D := Lib.hid hd
          clear hf hr hd D2 F2 R2
          obtain ⟨ao, co, eo, ho1, ho2⟩ : ∃ a cap, u3 = .slice a m.length cap ∧ m.length ≤ cap ∧ cap ≤ maxLen := by
            obtain ⟨a, cap, e, h1, h2, _⟩ := D.out.st.tab.top
            exact ⟨a, cap, e, h1, h2⟩
          unfold maxLen at ho2
          subst eo
          by_cases h8 : (m.length : Int) ≤ 8
          · have A1 := Lib.hid (Arr.new wr 3 [1, 2, 3, 4])
            have OW : Hid (Own (wr.alloc (.cells #[.int .i64 1, .int .i64 2, .int .i64 3, .int .i64 4] 3)) wr.heap.size (.slice (some ⟨wr.heap.size, 0, none⟩) 4 4) [1, 2, 3, 4]) := Lib.hid (A1.out.own rfl _ (Nat.le_refl _) (by simp [maxLen]))
            have RV : Hid (RowV (wr.alloc (.cells #[.int .i64 1, .int .i64 2, .int .i64 3, .int .i64 4] 3)) w.heap.size (.slice (some ⟨wr.heap.size, 0, none⟩) 4 4) [1, 2, 3, 4]) := Lib.hid (RowV.own OW.out F.out.size)
            have DA := Lib.hid (D.out.still (World.grownBy_alloc wr (.cells #[.int .i64 1, .int .i64 2, .int .i64 3, .int .i64 4] 3) none))
            have TOP := Lib.hid DA.out.st.top
            have sz : w.heap.size ≤ wr.heap.size := F.out.size
            have vl9 : vs.length ≤ 9 := by have := D.out.st.len; omega
            clear A1 OW
            go_wp2_with (first
              | (at_builtin; refine wpList_append_own _ rfl _ _ 23 rfl w.heap.size 24 i0 (.slice none 0 0) 1 24 Try.underlying23 I1.out I2.out I3.out I4.out rfl (by decide) _ _ _ rfl (World.ownsRow.alloc TOP.out _) ⟨wr.heap.size + 1, 0, none⟩ 1 1 [.slice (some ⟨wr.heap.size, 0, none⟩) 4 4] rfl rfl (one_cell_at (by simp)) (by simp [Value.oneCell']) ?c3 ?c4 ?c5 ?_))
            case c3 => unfold maxLen; omega
            case c4 => omega
            case c5 => simp only [World.size_alloc]; omega
            intro o' wz hoz hgz _
            have DZ : Hid (DTab wz w.heap.size o' (vs ++ [.slice (some ⟨wr.heap.size, 0, none⟩) 4 4]) (m ++ [[1, 2, 3, 4]])) := Lib.hid (DA.out.snoc RV.out (grown_trans (World.grownBy_alloc _ _ _) hgz) hoz rfl)
            have hrow : ∀ q, Value.ownBlock _ = some q → w.heap.size ≤ q := fun q hq => (World.ownsRow.lt TOP.out q hq).1
            have FZ : Hid (Far c w wz) := Lib.hid (((F.out.trans (Far.alloc _ _)).trans (Far.alloc _ _)).own hgz hrow)
            have RZ : Hid (Rd wz c (p + 200)) := Lib.hid (((R.out.alloc _).alloc _).up hgz (fun q hq => by have := hrow q hq; omega))
            have SL : Hid (sliceLen o' = m.length + 1) := Lib.hid (by
              obtain ⟨a, cap, e, _⟩ := DZ.out.st.tab.top
              rw [e]; simp [sliceLen])
            clear hoz hgz hrow TOP
            go_wp2_with fail
            go_roundw
            case rel => exact ⟨FZ.out, RZ.out, _, _, by simp; omega, DZ.out⟩
            case measure => rw [SL.out]; simp [sliceLen]; omega
          · go_wp2_with fail
            go_ret
            exact ⟨_, vs, m, rfl, F.out, R.out, hm9, D.out⟩
      · have hj' : (j == 0) = false := by simp [hj]
        go_wp2_with fail
        go_ret
        exact ⟨_, vs, m, rfl, F2.out, R2.out.mono (by omega), by omega, D2.out⟩
end Go.Proofs.Ytdbajokjhllekaa
