/-
  The contracts of the model's row reduction: l3Less, l3Add, l3Tidy.
  Conditions: rows of four numbers (l3Less: of at most 64).
-/
import Derived.Test.YtbpkfcaokbidnabSpanSpec
import Derived.Test.YtbpkfcaokbidnabSpanHelp2
import Derived.Deep.RegionHeld3
namespace Go.Proofs.Ytbpkfcaokbidnab
open Go.RowKit
set_option linter.unusedVariables false

/-- a slice over a block of integers. -/
def IntRow (w : World) (u : Value) : Prop := ∀ x n cap, u = .slice (some x) n cap → ∃ cur fr, w.heap[x.block]? = some (.cells cur 3 fr)
theorem Own.intRow {w : World} {base : Nat} {v : Value} {l : List Int} (h : Own w base v l) : IntRow w v := by
  intro x n cap e
  rcases h.2 with ⟨e', _⟩ | ⟨g, cap', cur, e', _, hg, _⟩
  · rw [e'] at e; cases e
  · rw [e'] at e
    injection e with e
    injection e with e
    subst e
    exact ⟨cur, (0, 0), hg⟩
theorem IntRow.still {w w' : World} {u : Value} (h : IntRow w u) (hg : w.grownBy w' none) : IntRow w' u := by
  intro x n cap e
  obtain ⟨cur, fr, hx⟩ := h x n cap e
  exact ⟨cur, fr, (hg.block _ (Array.getElem?_eq_some_iff.1 hx).1 (by simp)).trans hx⟩
theorem IntRow.ne {w : World} {base n : Nat} {u o : Value} {xs : List Value} (h : IntRow w u) (ho : w.ownsRow base 33 1 o n xs) {x : Addr} {m cap : Nat} (e : u = .slice (some x) m cap) : some x.block ≠ o.ownBlock := by
  obtain ⟨cur, fr, hx⟩ := h x m cap e
  rcases ho.2 with ⟨e', _⟩ | ⟨g, cap', cur', e', _, hg, _⟩
  · rw [e']; simp [Value.ownBlock]
  · rw [e']
    intro h'
    have : x.block = g := by simpa [Value.ownBlock] using h'
    rw [this, hg] at hx
    injection hx with hx
    injection hx with _ hx
    exact absurd hx (by decide)
/-- rows stay while the slice over them is written. -/
theorem row_kept {w w' : World} {base n : Nat} {u o : Value} {l : List Int} {xs : List Value} (h : Sl w u l ∧ IntRow w u) (ho : w.ownsRow base 33 1 o n xs) (hg : w.grownBy w' o.ownBlock) : Sl w' u l ∧ IntRow w' u := by
  obtain ⟨⟨a, cap, rfl, h1, h2, h3⟩, hi⟩ := h
  refine ⟨⟨a, cap, rfl, h1, h2, ?_⟩, fun x n cap e => ?_⟩
  · rcases h3 with h3 | ⟨b, o', rfl, h3⟩
    · exact .inl h3
    · refine .inr ⟨b, o', rfl, fun i hi' => ?_⟩
      exact hg.cell (h3 i hi') (hi.ne ho (x := ⟨b, o', none⟩) rfl)
  · obtain ⟨cur, fr, hx⟩ := hi x n cap e
    exact ⟨cur, fr, (hg.block _ (Array.getElem?_eq_some_iff.1 hx).1 (hi.ne ho e)).trans hx⟩

/-- a table whose slice is owned; its rows lie in blocks of integers. -/
structure STab (w : World) (base : Nat) (v : Value) (us : List Value) (m : List (List Int)) : Prop where
  top : w.ownsRow base 33 1 v us.length us
  len : us.length = m.length
  rows : ∀ (i : Nat) (u : Value) (l : List Int), us[i]? = some u → m[i]? = some l → Sl w u l ∧ IntRow w u
namespace STab
variable {w w' : World} {base base' : Nat} {v : Value} {us : List Value} {m : List (List Int)}
theorem still (h : STab w base v us m) (hg : w.grownBy w' none) : STab w' base v us m :=
  ⟨World.ownsRow.kept h.top hg (by cases v.ownBlock <;> simp), h.len, fun i u l hu hl => ⟨(h.rows i u l hu hl).1.grown hg, (h.rows i u l hu hl).2.still hg⟩⟩
theorem lower (h : STab w base v us m) (hb : base' ≤ base) : STab w base' v us m :=
  ⟨(show Item.Own w base' ⟨v, 33, us⟩ from Item.Own.lower (x := ⟨v, 33, us⟩) h.top hb), h.len, h.rows⟩
theorem tab (h : STab w base v us m) : Tab w v us m := by
  refine ⟨h.len, ?_, fun i u l hu hl => (h.rows i u l hu hl).1⟩
  rcases h.top.2 with ⟨e, hn⟩ | ⟨g, cap, cur, e, _, hg, h1, h2, _, ht⟩
  · have hu : us = [] := List.eq_nil_of_length_eq_zero hn
    subst hu
    have hm : m = [] := List.eq_nil_of_length_eq_zero h.len.symm
    subst hm
    exact ⟨none, 0, e, by simp, by omega, .inl rfl⟩
  · refine ⟨some ⟨g, 0, none⟩, cap, by rw [← h.len]; exact e, by rw [← h.len]; exact h1, h2, .inr ⟨g, 0, rfl, fun i u hu => ?_⟩⟩
    rw [cell_of_row w g (0 + i) cur 33 (0, 0) hg]
    have ht' : cur.toList.take (us.length * 1) = us := ht
    rw [← ht', List.getElem?_take] at hu
    split at hu
    · simpa using hu
    · cases hu
theorem none_ (w : World) (base : Nat) : STab w base (.slice none 0 0) [] [] := ⟨World.ownsRow_nil _ _ _ _, rfl, by simp⟩
/-- '[][]int{}'. -/
theorem made (w : World) (base : Nat) (hb : base ≤ w.heap.size) : STab (w.alloc (.cells #[] 33)) base (.slice (some ⟨w.heap.size, 0, none⟩) 0 0) [] [] :=
  ⟨⟨by simp, .inr ⟨w.heap.size, 0, #[], rfl, hb, heap_alloc_new w _, Nat.le_refl _, by simp [maxLen], by simp, by simp⟩⟩, rfl, by simp⟩
theorem snoc {w1 w2 : World} {o' u : Value} {l : List Int} {m' : List (List Int)} {n : Nat} (h : STab w base v us m) (hg : w.grownBy w1 none) (hu : Sl w1 u l ∧ IntRow w1 u) (hg2 : w1.grownBy w2 v.ownBlock) (ho2 : w2.ownsRow base 33 1 o' n (us ++ [u])) (hn : n = us.length + 1) (e : m ++ [l] = m') :
    STab w2 base o' (us ++ [u]) m' := by
  subst e hn
  have h1 := h.still hg
  refine ⟨by rw [List.length_append]; exact ho2, by simp [h.len], fun i x r hx hr => ?_⟩
  by_cases hi : i < us.length
  · rw [List.getElem?_append_left hi] at hx
    rw [List.getElem?_append_left (by rw [← h.len]; exact hi)] at hr
    exact row_kept (h1.rows i x r hx hr) h1.top hg2
  · have hi' : i = us.length := by
      have := (List.getElem?_eq_some_iff.1 hx).1
      simp at this; omega
    subst hi'
    rw [List.getElem?_append_right (Nat.le_refl _), Nat.sub_self] at hx
    rw [List.getElem?_append_right (by rw [h.len]; exact Nat.le_refl _), h.len, Nat.sub_self] at hr
    simp at hx hr
    subst hx hr
    exact row_kept hu h1.top hg2
end STab

set_option maxHeartbeats 2000000 in
set_option maxRecDepth 20000 in
theorem specLess (u v : Value) (n p : Nat) (l m : List Int) (w : World) (h : Sl w u l) (h' : Sl w v m) (hl : Sp.Row n l) (hm : Sp.Row n m) (hn : n ≤ 64) (hp : Vec.first m 0 = p) (hpn : p < n) (hz : m.getD p 0 ≠ 0) :
    Calls Try.prog 148 #[u, v] w (NewInts (Sp.lless l m) w) := by
  have SU := Lib.hid h
  have SV := Lib.hid h'
  have L := Lib.hid (specL2Lead v m w h')
  rw [hp] at L
  have RL := Lib.hid hl
  have RM := Lib.hid hm
  have hpl : p < l.length := by rw [hl.1]; exact hpn
  have hpm : p < m.length := by rw [hm.1]; exact hpn
  have LE : Hid (Sp.lless l m = Sp.ladd l (Sp.lmul m ((31 - l.getD p 0 * Fld.inv (m.getD p 0) % 31) % 31))) := Lib.hid (by unfold Sp.lless; rw [hp]; rfl)
  have x0 := hl.get p
  have y0 := hm.get p
  obtain ⟨a, cap, rfl, hlc, hcm, hr⟩ := h
  obtain ⟨a', cap', rfl, hlc', hcm', hr'⟩ := h'
  obtain ⟨b, o, rfl, hx⟩ := hr.at_ hpl
  obtain ⟨b', o', rfl, hy⟩ := hr'.at_ hpm
  obtain ⟨x, hxe⟩ : ∃ x, l.getD p 0 = x := ⟨_, rfl⟩
  obtain ⟨y, hye⟩ : ∃ y, m.getD p 0 = y := ⟨_, rfl⟩
  rw [hxe] at hx x0 LE
  rw [hye] at hy y0 LE hz
  have c0 := Fld.inv_is y0
  obtain ⟨c, hce⟩ : ∃ c, Fld.inv y = c := ⟨_, rfl⟩
  have IV := Lib.hid (specSearch y w.drew y0 hz)
  rw [hce] at c0 LE IV
  have ⟨m0, m1⟩ := Fld.mul_le x0 c0
  have ws : IntKind.i64.wrap (x * c) = x * c := IntWalk.i64_in _ (by omega)
  have wt : (x * c).tmod 31 = x * c % 31 := Int.tmod_eq_emod_of_nonneg (by omega)
  obtain ⟨k, hke⟩ : ∃ k, x * c % 31 = k := ⟨_, rfl⟩
  rw [hke] at wt LE
  have k0 : 0 ≤ k ∧ k ≤ 30 := by omega
  have ws2 : IntKind.i64.wrap (31 - k) = 31 - k := IntWalk.i64_in _ (by omega)
  have wt2 : (31 - k).tmod 31 = (31 - k) % 31 := Int.tmod_eq_emod_of_nonneg (by omega)
  obtain ⟨d, hde⟩ : ∃ d, (31 - k) % 31 = d := ⟨_, rfl⟩
  rw [hde] at wt2 LE
  have d0 : Hid (Fld.ok d = true) := Lib.hid (hde ▸ Vec.mod_is _)
  have hpl' : (p : Int) < (l.length : Int) := by omega
  have hpm' : (p : Int) < (m.length : Int) := by omega
  unfold maxLen at hcm hcm'
  have hx' : w.drew.cell? ⟨b, o + p, none⟩ = some (.int .i64 x) := hx
  have hy' : w.drew.cell? ⟨b', o' + p, none⟩ = some (.int .i64 y) := hy
  clear hp hl hm hxe hye hce hke hde hr hr' x0 y0 c0 m0 m1 hx hy
  go_enter Try.func148, Try.ntmps148
  go_wp2_with fail
  refine L.out.mono ?_
  rintro e w' ⟨rfl, rfl⟩
  go_wp2_with fail
  go_region_held3 (fun w' => w'.cell? ⟨b, o + p, none⟩ = some (.int .i64 x) ∧ w'.cell? ⟨b', o' + p, none⟩ = some (.int .i64 y))
    (first
      | with_reducible exact ⟨hx', hy'⟩
      | with_reducible exact ⟨e1, e2⟩
      | with_reducible exact ⟨f1, f2⟩)
    (first
      | (go_at_call 150; refine IV.out.mono ?_; rintro e w' ⟨rfl, rfl⟩)
      | (go_at_call 66; refine (specMul _ n m d _ (SV.out.grown (grown_still _ 1)) RM.out d0.out hn).mono ?_; rintro e w1 ⟨v1, rfl, hg1, ho1⟩
         have G1 := Lib.hid hg1
         have O1 := Lib.hid ho1
         have e1 := hg1.cell hx' (by simp)
         have e2 := hg1.cell hy' (by simp)
         clear hg1 ho1)
      | (go_at_call 65; refine (specAdd _ _ n l (Sp.lmul m d) _ ((SU.out.grown (grown_still _ 1)).grown G1.out) O1.out.sl RL.out (Sp.row_lmul RM.out d) hn).mono ?_; rintro e w2 ⟨v2, rfl, hg2, ho2⟩
         have G2 := Lib.hid hg2
         have O2 := Lib.hid ho2
         have f1 := hg2.cell e1 (by simp)
         have f2 := hg2.cell e2 (by simp)
         clear hg2 ho2))
  clear hx' hy' e1 e2 f1 f2 ws wt ws2 wt2
  go_wp2_with fail
  go_ret
  refine ⟨_, rfl, grown_trans (grown_trans (grown_still w 1) G1.out) G2.out, ?_⟩
  rw [LE.out]
  exact O2.out.lower G1.out.size
end Go.Proofs.Ytbpkfcaokbidnab
