/-
  What this claim wants of the texts of earlier chapters.
  Conditions: none.
-/
import Derived.Test.YthglkgicckodaaaZStripeSpec3
import Derived.Maps.AppendAt
namespace Go.Proofs.Ythglkgicckodaaa
open Go.RowKit Go.Shelf
set_option linter.unusedVariables false
set_option linter.unusedSimpArgs false
attribute [local go_sem] Oper.semAt_some
theorem readyThree {P : Program} {md : Region.Mode} {ops : Array Oper} {Q : Exit → Act → World → Prop} {S : World → Prop} {fuel i j k : Nat} {listed : Array Bool} {a : Act} {w : World} {o p q : Oper} (hr : Region.ready md ops listed = [i, j, k]) (ho : ops[i]? = some o) (hp : ops[j]? = some p) (hq : ops[k]? = some q)
    (hw : Region.wanted o (yielded ops a.tmps) = true) (hv : Region.wanted p (yielded ops a.tmps) = true) (hu : Region.wanted q (yielded ops a.tmps) = true)
    (h : o.wp P a w (fun a' w' => S w' ∧ wpAnyH P md ops Q S fuel (listed.setIfInBounds i true) a' w') Q) (h' : p.wp P a w (fun a' w' => S w' ∧ wpAnyH P md ops Q S fuel (listed.setIfInBounds j true) a' w') Q) (h'' : q.wp P a w (fun a' w' => S w' ∧ wpAnyH P md ops Q S fuel (listed.setIfInBounds k true) a' w') Q) : wpAnyH P md ops Q S (fuel + 1) listed a w :=
  wpAnyH_all hr (by simp) (fun m hm => by
    rcases (by simpa using hm : m = i ∨ m = j ∨ m = k) with rfl | rfl | rfl
    · unfold wpOp
      rw [ho]
      simp only [hw, if_true]
      exact .inl h
    · unfold wpOp
      rw [hp]
      simp only [hv, if_true]
      exact .inl h'
    · unfold wpOp
      rw [hq]
      simp only [hu, if_true]
      exact .inl h'')
theorem appendFresh {P : Program} (w : World) (t ty e : TypeId) (i : TypeInfo) (z : Value) (ht : P.underlying t = some (.slice e)) (hi : P.info? e = some i) (hz : i.zero = some z) (hsize : i.size = 1) (hzs : z.cells.size = 1) (hb : i.bytes ≤ 8)
    (g b o c : Nat) (news : List Value) (hl : news.length = 8) (hr : w.rangeAt b o news) :
    ∃ v' w', (Builtin.append_ #[t, t] ty #[.slice (some ⟨g, 0, none⟩) 0 0, .slice (some ⟨b, o, none⟩) 8 c]).run P w = .ok v' w' ∧ w'.ownsRow w.heap.size e 1 v' 8 news ∧ w.grownBy w' none := by
  have h := run_append_grow (P := P) w t ty e i z ht hi hz ⟨g, 0, none⟩ 0 0 [] (by simp) (by simp) ⟨b, o, none⟩ 8 c news (by rw [hl, hsize]) (fun j u hj => by rw [Addr.add_mid]; exact hr j u hj) (by omega) (by omega) (growslice_fits (by omega) (by omega))
  refine ⟨_, _, h, ⟨by rw [hl], .inr ⟨w.heap.size, _, _, rfl, Nat.le_refl _, heap_alloc_new w.drew _, grownCap_ge w _ _ e, grownCap_le_maxLen w _ _ e (by simp [maxLen]), ?_, ?_⟩⟩, ⟨rfl, rfl, rfl, by simp, fun k hk _ => (World.grownBy_alloc w.drew _ none).block k hk (by simp)⟩⟩
  · have := grownCap_ge w (0 + 8) 0 e
    simp only [Array.size_append, List.size_toArray, size_zeroCells, hzs, hl, List.length_nil]
    omega
  · simp only [Array.toList_append, List.nil_append, Array.empty_append]
    have e8 : (0 + 8) * 1 = news.length := by rw [hl]
    rw [show (8 * 1 : Nat) = news.length by rw [hl]]
    simp
theorem appendWp {P : Program} {o : Oper} {a : Act} {w : World} {K : Act → World → Prop} {Q : Exit → Act → World → Prop} (d : Option Tmp) (t e : TypeId) {s x : Operand} {g b o' c : Nat} (hd : o.dst = d)
    (ho : o.op = .call { callee := .builtin .append, args := #[s, x], argTypes := #[t, t] }) (hs : a.eval s = .slice (some ⟨g, 0, none⟩) 0 0) (hx : a.eval x = .slice (some ⟨b, o', none⟩) 8 c)
    (i : TypeInfo) (z : Value) (ht : P.underlying t = some (.slice e)) (hi : P.info? e = some i) (hz : i.zero = some z) (hsize : i.size = 1) (hzs : z.cells.size = 1) (hb : i.bytes ≤ 8) (news : List Value) (hl : news.length = 8) (hr : w.rangeAt b o' news)
    (h : ∀ v' w', w'.ownsRow w.heap.size e 1 v' 8 news → w.grownBy w' none → K (a.put d v') w') : o.wp P a w K Q := by
  subst hd
  obtain ⟨v', w', hr, h2, h3⟩ := appendFresh (P := P) w t o.type e i z ht hi hz hsize hzs hb g b o' c news hl hr
  unfold Oper.wp execOp
  simp only [ho, resolve, invoke, builtin, Sem.run_bind, Sem.run_pure, Result.andThen_ok, List.map_toArray, List.map_cons, List.map_nil, hs, hx, hr]
  exact h v' w' h2 h3
theorem own_len' {w : World} {base : Nat} {u : Value} {l : List Int} (h : w.ownsRow base 3 1 u 8 (vals l)) (hl : l.length = 8) : Own w base u l := by
  unfold Own; rw [hl]; exact h
theorem bown_len' {w : World} {base : Nat} {u : Value} {l : List Bool} (h : w.ownsRow base 4 1 u 8 (bvals l)) (hl : l.length = 8) : BOwn w base u l := by
  unfold BOwn; rw [hl]; exact h
def OutC (w : World) (g : Nat) : Prop := ∃ old, w.heap[g]? = some (.cells old 45 (0, 0)) ∧ old.size = 4
structure HeldC (g gz b1 o1 b2 o2 b3 o3 : Nat) (cs : List Value) (a v : List Int) (f : List Bool) (W : World) : Prop where
  blk : Blk W g 45 cs
  out : OutC W gz
  aR : W.rangeAt b1 o1 (vals a)
  vR : W.rangeAt b2 o2 (vals v)
  fR : W.rangeAt b3 o3 (bvals f)
theorem HeldC.still {g gz b1 o1 b2 o2 b3 o3 : Nat} {cs : List Value} {a v : List Int} {f : List Bool} {W W' : World} (h : HeldC g gz b1 o1 b2 o2 b3 o3 cs a v f W) (hg : W.grownBy W' none) : HeldC g gz b1 o1 b2 o2 b3 o3 cs a v f W' := by
  refine ⟨h.blk.kept hg (by simp), ?_, rangeAt_grown h.aR hg, rangeAt_grown h.vR hg, rangeAt_grown h.fR hg⟩
  obtain ⟨old, h1, h2⟩ := h.out
  exact ⟨old, (hg.block gz (Array.getElem?_eq_some_iff.1 h1).1 (by simp)).trans h1, h2⟩
theorem copyEnd {k : Int} {a4 a5 a6 : Option Addr} {c4 c5 c6 g gz b1 o1 b2 o2 b3 o3 : Nat} {cs : List Value} {a v : List Int} {f : List Bool} {w w8 w9 : World} {old : Array Value} (SO : StOwn w8 w.heap.size (.slice a4 8 c4) (.slice a5 8 c5) (.slice a6 8 c6) a v f) (G : w.grownBy w8 none) (H : HeldC g gz b1 o1 b2 o2 b3 o3 cs a v f w8) (ho : w8.heap[gz]? = some (.cells old 45 (0, 0))) (LZ : w.heap.size ≤ gz)
    (NE : g ≠ gz ∧ b1 < w.heap.size ∧ b2 < w.heap.size ∧ b3 < w.heap.size) (E : w9 = w8.setRow gz #[.int .i64 k, .slice a4 8 c4, .slice a5 8 c5, .slice a6 8 c6]) :
    NewSt k a v f w (.returned (.agg #[.int .i64 k, .slice a4 8 c4, .slice a5 8 c5, .slice a6 8 c6])) w9 ∧ w9.heap[gz]? = some (.cells #[.int .i64 k, .slice a4 8 c4, .slice a5 8 c5, .slice a6 8 c6] 45 (0, 0)) ∧ HeldC g gz b1 o1 b2 o2 b3 o3 cs a v f w9 := by
  subst E
  have gr := grownRow ho #[.int .i64 k, .slice a4 8 c4, .slice a5 8 c5, .slice a6 8 c6]
  have B9 := setRow_heap w8 gz old #[.int .i64 k, .slice a4 8 c4, .slice a5 8 c5, .slice a6 8 c6] 45 (0, 0) ho
  have far : ∀ {b o : Nat} {l : List Value}, b < w.heap.size → w8.rangeAt b o l → (w8.setRow gz #[.int .i64 k, .slice a4 8 c4, .slice a5 8 c5, .slice a6 8 c6]).rangeAt b o l := fun hb h j u hj => gr.cell (h j u hj) (by simp; omega)
  exact ⟨⟨_, _, _, rfl, grown_own G gr (fun i hi => by injection hi with hi; omega), outRow SO gr ho⟩, B9, ⟨H.blk.kept gr (by simp; exact NE.1), ⟨_, B9, rfl⟩, far NE.2.1 H.aR, far NE.2.2.1 H.vR, far NE.2.2.2 H.fR⟩⟩
theorem range_lt {w : World} {b o : Nat} {l : List Value} (h : w.rangeAt b o l) (hl : 0 < l.length) : b < w.heap.size := by
  have := h 0 l[0] (by simp)
  exact lt_of_cell this
theorem range_of {w : World} {b o : Nat} {l : List Int} (h : Rds w (some ⟨b, o, none⟩) l) : w.rangeAt b o (vals l) := fun j u hj => by
  have := rds_news h j u hj
  rwa [Addr.add_mid] at this
theorem brange_of {w : World} {b o : Nat} {l : List Bool} (h : BRds w (some ⟨b, o, none⟩) l) : w.rangeAt b o (bvals l) := fun j u hj => by
  have := brds_news h j u hj
  rwa [Addr.add_mid] at this
set_option maxHeartbeats 40000000 in
set_option maxRecDepth 40000 in
theorem specCopy (k : Int) (u x y : Value) (a v : List Int) (f : List Bool) (w : World) (hu : Sl w u a) (hx : Sl w x v) (hy : Bl w y f) (ha : a.length = 8) (hv : v.length = 8) (hf : f.length = 8) : Calls Try.prog 75 #[.agg #[.int .i64 k, u, x, y]] w (NewSt k a v f w) := by
  have U := Lib.hid hu
  have X := Lib.hid hx
  have Y := Lib.hid hy
  obtain ⟨a1, c1, e1, -, -, -⟩ := hu
  obtain ⟨a2, c2, e2, -, -, -⟩ := hx
  obtain ⟨a3, c3, e3, -, -, -⟩ := hy
  subst e1 e2 e3
  obtain ⟨l1, hl1⟩ : ∃ n, n = a.length := ⟨_, rfl⟩
  obtain ⟨l2, hl2⟩ : ∃ n, n = v.length := ⟨_, rfl⟩
  obtain ⟨l3, hl3⟩ : ∃ n, n = f.length := ⟨_, rfl⟩
  rw [← hl1] at U ⊢
  rw [← hl2] at X ⊢
  rw [← hl3] at Y ⊢
  have NL1 := Lib.hid hl1
  have NL2 := Lib.hid hl2
  have NL3 := Lib.hid hl3
  clear hl1 hl2 hl3
  obtain rfl : l1 = 8 := NL1.out.trans ha
  obtain rfl : l2 = 8 := NL2.out.trans hv
  obtain rfl : l3 = 8 := NL3.out.trans hf
  obtain ⟨b1, o1, rfl, R1⟩ : ∃ b o, a1 = some ⟨b, o, none⟩ ∧ w.rangeAt b o (vals a) := by
    obtain ⟨a', c', e, _, _, hr⟩ := U.out
    injection e with e _ _
    subst e
    obtain ⟨b, o, rfl, _⟩ := hr.at_ (k := 0) (by omega)
    exact ⟨b, o, rfl, range_of hr⟩
  obtain ⟨b2, o2, rfl, R2⟩ : ∃ b o, a2 = some ⟨b, o, none⟩ ∧ w.rangeAt b o (vals v) := by
    obtain ⟨a', c', e, _, _, hr⟩ := X.out
    injection e with e _ _
    subst e
    obtain ⟨b, o, rfl, _⟩ := hr.at_ (k := 0) (by omega)
    exact ⟨b, o, rfl, range_of hr⟩
  obtain ⟨b3, o3, rfl, R3⟩ : ∃ b o, a3 = some ⟨b, o, none⟩ ∧ w.rangeAt b o (bvals f) := by
    obtain ⟨a', c', e, _, _, hr⟩ := Y.out
    injection e with e _ _
    subst e
    obtain ⟨b, o, rfl, _⟩ := hr.at_ (k := 0) (by omega)
    exact ⟨b, o, rfl, brange_of hr⟩
  have EA := Lib.hid ha
  have EV := Lib.hid hv
  have EF := Lib.hid hf
  have K0 : Blk ((w.alloc (.cells #[.int .i64 k, .slice (some ⟨b1, o1, none⟩) 8 c1, .slice (some ⟨b2, o2, none⟩) 8 c2, .slice (some ⟨b3, o3, none⟩) 8 c3] 45)).alloc (.cells #[.int .i64 0, .slice none 0 0, .slice none 0 0, .slice none 0 0] 45)) w.heap.size 45 [.int .i64 k, .slice (some ⟨b1, o1, none⟩) 8 c1, .slice (some ⟨b2, o2, none⟩) 8 c2, .slice (some ⟨b3, o3, none⟩) 8 c3] := by
    have h : Blk (w.alloc (.cells #[.int .i64 k, .slice (some ⟨b1, o1, none⟩) 8 c1, .slice (some ⟨b2, o2, none⟩) 8 c2, .slice (some ⟨b3, o3, none⟩) 8 c3] 45)) w.heap.size 45 [.int .i64 k, .slice (some ⟨b1, o1, none⟩) 8 c1, .slice (some ⟨b2, o2, none⟩) 8 c2, .slice (some ⟨b3, o3, none⟩) 8 c3] := heap_alloc_new _ _
    exact h.kept (World.grownBy_alloc _ _ none) (by simp)
  have Z0 : OutC ((w.alloc (.cells #[.int .i64 k, .slice (some ⟨b1, o1, none⟩) 8 c1, .slice (some ⟨b2, o2, none⟩) 8 c2, .slice (some ⟨b3, o3, none⟩) 8 c3] 45)).alloc (.cells #[.int .i64 0, .slice none 0 0, .slice none 0 0, .slice none 0 0] 45)) (w.heap.size + 1) := by
    have := heap_alloc_new (w.alloc (.cells #[.int .i64 k, .slice (some ⟨b1, o1, none⟩) 8 c1, .slice (some ⟨b2, o2, none⟩) 8 c2, .slice (some ⟨b3, o3, none⟩) 8 c3] 45)) (.cells #[.int .i64 0, .slice none 0 0, .slice none 0 0, .slice none 0 0] 45)
    rw [World.size_alloc] at this
    exact ⟨_, this, rfl⟩
  have G0 := grown_alloc (World.grownBy_alloc w (.cells #[.int .i64 k, .slice (some ⟨b1, o1, none⟩) 8 c1, .slice (some ⟨b2, o2, none⟩) 8 c2, .slice (some ⟨b3, o3, none⟩) 8 c3] 45) none) (.cells #[.int .i64 0, .slice none 0 0, .slice none 0 0, .slice none 0 0] 45)
  have LL : w.heap.size + 1 < ((w.alloc (.cells #[.int .i64 k, .slice (some ⟨b1, o1, none⟩) 8 c1, .slice (some ⟨b2, o2, none⟩) 8 c2, .slice (some ⟨b3, o3, none⟩) 8 c3] 45)).alloc (.cells #[.int .i64 0, .slice none 0 0, .slice none 0 0, .slice none 0 0] 45)).heap.size := by simp
  have H0 : Hid (HeldC w.heap.size (w.heap.size + 1) b1 o1 b2 o2 b3 o3 [.int .i64 k, .slice (some ⟨b1, o1, none⟩) 8 c1, .slice (some ⟨b2, o2, none⟩) 8 c2, .slice (some ⟨b3, o3, none⟩) 8 c3] a v f ((w.alloc (.cells #[.int .i64 k, .slice (some ⟨b1, o1, none⟩) 8 c1, .slice (some ⟨b2, o2, none⟩) 8 c2, .slice (some ⟨b3, o3, none⟩) 8 c3] 45)).alloc (.cells #[.int .i64 0, .slice none 0 0, .slice none 0 0, .slice none 0 0] 45)).drew) := Lib.hid ⟨K0, Z0, rangeAt_grown R1 (grown_drew G0), rangeAt_grown R2 (grown_drew G0), rangeAt_grown R3 (grown_drew G0)⟩
  have G0 := Lib.hid (grown_drew G0)
  have O0 := Lib.hid (own_nil ((w.alloc (.cells #[.int .i64 k, .slice (some ⟨b1, o1, none⟩) 8 c1, .slice (some ⟨b2, o2, none⟩) 8 c2, .slice (some ⟨b3, o3, none⟩) 8 c3] 45)).alloc (.cells #[.int .i64 0, .slice none 0 0, .slice none 0 0, .slice none 0 0] 45)).drew w.heap.size)
  have NE0 := And.intro (range_lt R1 (by rw [vals_length, ha]; omega)) (And.intro (range_lt R2 (by rw [vals_length, hv]; omega)) (range_lt R3 (by rw [bvals_length, hf]; omega)))
  clear K0 Z0 R1 R2 R3 ha hv hf
  go_enter Try.func75, Try.ntmps75
  go_upto_region 1 with fail
  generalize (w.alloc (.cells #[.int .i64 k, .slice (some ⟨b1, o1, none⟩) 8 c1, .slice (some ⟨b2, o2, none⟩) 8 c2, .slice (some ⟨b3, o3, none⟩) 8 c3] 45)).alloc (.cells #[.int .i64 0, .slice none 0 0, .slice none 0 0, .slice none 0 0] 45) = W0 at *
  obtain ⟨g, hg⟩ : ∃ g, g = w.heap.size := ⟨_, rfl⟩
  obtain ⟨gz, hgz⟩ : ∃ g, g = w.heap.size + 1 := ⟨_, rfl⟩
  have LZ : w.heap.size ≤ gz := by omega
  have NE : Hid (g ≠ gz ∧ b1 < w.heap.size ∧ b2 < w.heap.size ∧ b3 < w.heap.size) := Lib.hid ⟨by omega, NE0⟩
  rw [← hgz, ← hg] at H0
  rw [← hgz, ← hg]
  clear hg hgz LL NE0
  refine wp_region_held (S := HeldC g gz b1 o1 b2 o2 b3 o3 [.int .i64 k, .slice (some ⟨b1, o1, none⟩) 8 c1, .slice (some ⟨b2, o2, none⟩) 8 c2, .slice (some ⟨b3, o3, none⟩) 8 c3] a v f) (by kernel_rfl) ?_
  change wpAnyH _ _ _ _ _ _ _ _ W0.drew
  generalize W0.drew = w0 at *
  refine Rg.take_ 0 (some 3) (.pointer (some ⟨g, 0, none⟩)) rfl rfl (by kernel_rfl) (by kernel_rfl) (by kernel_rfl) (fun _ _ _ h => h) (.inl ⟨by rfl, fun W' hS => (by go_simp)⟩) H0.out ?_
  simp only [Act.put, List.setIfInBounds_toArray, List.set_cons_zero, List.set_cons_succ]
  refine Rg.take_ 1 (some 4) (.int .i64 k) rfl rfl (by kernel_rfl) (by kernel_rfl) (by kernel_rfl) (fun _ _ _ h => h) (.inl ⟨by rfl, fun W' hS => (by have c0 := hS.blk.cell (i := 0) rfl; go_simp)⟩) H0.out ?_
  simp only [Act.put, List.setIfInBounds_toArray, List.set_cons_zero, List.set_cons_succ]
  refine Rg.take_ 3 (some 6) (.pointer (some ⟨g, 1, none⟩)) rfl rfl (by kernel_rfl) (by kernel_rfl) (by kernel_rfl) (fun _ _ _ h => h) (.inl ⟨by rfl, fun W' hS => (by go_simp)⟩) H0.out ?_
  simp only [Act.put, List.setIfInBounds_toArray, List.set_cons_zero, List.set_cons_succ]
  refine Rg.take_ 4 (some 7) (.slice (some ⟨b1, o1, none⟩) 8 c1) rfl rfl (by kernel_rfl) (by kernel_rfl) (by kernel_rfl) (fun _ _ _ h => h) (.inl ⟨by rfl, fun W' hS => (by have c0 := hS.blk.cell (i := 1) rfl; go_simp)⟩) H0.out ?_
  simp only [Act.put, List.setIfInBounds_toArray, List.set_cons_zero, List.set_cons_succ]
  refine Rg.take_ 7 (some 10) (.pointer (some ⟨g, 2, none⟩)) rfl rfl (by kernel_rfl) (by kernel_rfl) (by kernel_rfl) (fun _ _ _ h => h) (.inl ⟨by rfl, fun W' hS => (by go_simp)⟩) H0.out ?_
  simp only [Act.put, List.setIfInBounds_toArray, List.set_cons_zero, List.set_cons_succ]
  refine Rg.take_ 8 (some 11) (.slice (some ⟨b2, o2, none⟩) 8 c2) rfl rfl (by kernel_rfl) (by kernel_rfl) (by kernel_rfl) (fun _ _ _ h => h) (.inl ⟨by rfl, fun W' hS => (by have c0 := hS.blk.cell (i := 2) rfl; go_simp)⟩) H0.out ?_
  simp only [Act.put, List.setIfInBounds_toArray, List.set_cons_zero, List.set_cons_succ]
  refine Rg.take_ 11 (some 14) (.pointer (some ⟨g, 3, none⟩)) rfl rfl (by kernel_rfl) (by kernel_rfl) (by kernel_rfl) (fun _ _ _ h => h) (.inl ⟨by rfl, fun W' hS => (by go_simp)⟩) H0.out ?_
  simp only [Act.put, List.setIfInBounds_toArray, List.set_cons_zero, List.set_cons_succ]
  refine Rg.take_ 12 (some 15) (.slice (some ⟨b3, o3, none⟩) 8 c3) rfl rfl (by kernel_rfl) (by kernel_rfl) (by kernel_rfl) (fun _ _ _ h => h) (.inl ⟨by rfl, fun W' hS => (by have c0 := hS.blk.cell (i := 3) rfl; go_simp)⟩) H0.out ?_
  simp only [Act.put, List.setIfInBounds_toArray, List.set_cons_zero, List.set_cons_succ]
  refine readyThree (i := 2) (j := 6) (k := 10) (by kernel_rfl) rfl rfl rfl rfl rfl rfl ?_ ?_ ?_
  · refine Rg.value_at (some 5) (.slice (some ⟨w0.heap.size, 0, none⟩) 0 0) (w0.alloc (.cells #[] 3)) rfl (by go_simp) ?_
    have ga := World.grownBy_alloc w0 (.cells #[] 3) none
    have H1 := Lib.hid (H0.out.still ga)
    have G1 := Lib.hid (grown_trans G0.out ga)
    have O1 := Lib.hid (O0.out.still ga)
    clear ga
    refine ⟨H1.out, ?_⟩
    simp only [Act.put, List.setIfInBounds_toArray, List.set_cons_zero, List.set_cons_succ]
    generalize w0.alloc (.cells #[] 3) = w1 at *
    generalize w0.heap.size = e5 at *
    refine readyThree (i := 5) (j := 6) (k := 10) (by kernel_rfl) rfl rfl rfl rfl rfl rfl ?_ ?_ ?_
    · obtain ⟨i0, hi, hz0, hz1, hz2⟩ := info_parts infoInt
      refine appendWp (some 8) 23 3 rfl rfl rfl rfl i0 _ Try.underlying23 hi hz0 hz1 rfl (by omega) (vals a) (by first | rw [vals_length, EA.out] | rw [vals_length, EV.out] | rw [bvals_length, EF.out]) H1.out.aR ?_
      intro u w2 ho hg
      have hg' := hg
      have H2 := Lib.hid (H1.out.still hg)
      have G2 := Lib.hid (grown_trans G1.out hg)
      have O2 := Lib.hid (O1.out.join hg (own_one (row1_own.2 (own_len' ho EA.out))) G1.out.size)
      clear ho hg hg' hi hz0 hz1 hz2
      refine ⟨H2.out, ?_⟩
      simp only [Act.put, List.setIfInBounds_toArray, List.set_cons_zero, List.set_cons_succ]
      refine Rg.ready_two (i := 6) (k := 10) (by kernel_rfl) rfl rfl rfl rfl ?_ ?_
      · refine Rg.value_at (some 9) (.slice (some ⟨w2.heap.size, 0, none⟩) 0 0) (w2.alloc (.cells #[] 3)) rfl (by go_simp) ?_
        have ga := World.grownBy_alloc w2 (.cells #[] 3) none
        have H3 := Lib.hid (H2.out.still ga)
        have G3 := Lib.hid (grown_trans G2.out ga)
        have O3 := Lib.hid (O2.out.still ga)
        clear ga
        refine ⟨H3.out, ?_⟩
        simp only [Act.put, List.setIfInBounds_toArray, List.set_cons_zero, List.set_cons_succ]
        generalize w2.alloc (.cells #[] 3) = w3 at *
        generalize w2.heap.size = e9 at *
        refine Rg.ready_two (i := 9) (k := 10) (by kernel_rfl) rfl rfl rfl rfl ?_ ?_
        · obtain ⟨i0, hi, hz0, hz1, hz2⟩ := info_parts infoInt
          refine appendWp (some 12) 23 3 rfl rfl rfl rfl i0 _ Try.underlying23 hi hz0 hz1 rfl (by omega) (vals v) (by first | rw [vals_length, EA.out] | rw [vals_length, EV.out] | rw [bvals_length, EF.out]) H3.out.vR ?_
          intro x w4 ho hg
          have hg' := hg
          have H4 := Lib.hid (H3.out.still hg)
          have G4 := Lib.hid (grown_trans G3.out hg)
          have O4 := Lib.hid (O3.out.join hg (own_one (row1_own.2 (own_len' ho EV.out))) G3.out.size)
          clear ho hg hg' hi hz0 hz1 hz2
          refine ⟨H4.out, ?_⟩
          simp only [Act.put, List.setIfInBounds_toArray, List.set_cons_zero, List.set_cons_succ]
          refine Rg.ready_one (i := 10) (by kernel_rfl) rfl rfl ?_
          refine Rg.value_at (some 13) (.slice (some ⟨w4.heap.size, 0, none⟩) 0 0) (w4.alloc (.cells #[] 4)) rfl (by go_simp) ?_
          have ga := World.grownBy_alloc w4 (.cells #[] 4) none
          have H5 := Lib.hid (H4.out.still ga)
          have G5 := Lib.hid (grown_trans G4.out ga)
          have O5 := Lib.hid (O4.out.still ga)
          clear ga
          refine ⟨H5.out, ?_⟩
          simp only [Act.put, List.setIfInBounds_toArray, List.set_cons_zero, List.set_cons_succ]
          generalize w4.alloc (.cells #[] 4) = w5 at *
          generalize w4.heap.size = e13 at *
          refine Rg.ready_one (i := 13) (by kernel_rfl) rfl rfl ?_
          obtain ⟨i0, hi, hz0, hz1, hz2⟩ := info_parts infoBool
          refine appendWp (some 16) 41 4 rfl rfl rfl rfl i0 _ Try.underlying41 hi hz0 hz1 rfl (by omega) (bvals f) (by first | rw [vals_length, EA.out] | rw [vals_length, EV.out] | rw [bvals_length, EF.out]) H5.out.fR ?_
          intro y w6 ho hg
          have hg' := hg
          have H6 := Lib.hid (H5.out.still hg)
          have G6 := Lib.hid (grown_trans G5.out hg)
          have O6 := Lib.hid (O5.out.join hg (own_one (bool1_own.2 (bown_len' ho EF.out))) G5.out.size)
          clear ho hg hg' hi hz0 hz1 hz2
          refine ⟨H6.out, ?_⟩
          simp only [Act.put, List.setIfInBounds_toArray, List.set_cons_zero, List.set_cons_succ]
          obtain ⟨h0, h1, h2, ab, ac, bc⟩ := own3 O6.out
          have SO : Hid (StOwn w6 w.heap.size u x y a v f) := Lib.hid (mk3 h2 h1 h0 bc.symm ac.symm ab.symm)
          clear h0 h1 h2 ab ac bc
          obtain ⟨a4, c4, e4, -, -, -⟩ := SO.out.a
          obtain ⟨a5, c5, e5, -, -, -⟩ := SO.out.v
          obtain ⟨a6, c6, e6, -, -, -⟩ := SO.out.f
          rw [EA.out] at e4
          rw [EV.out] at e5
          rw [EF.out] at e6
          subst e4 e5 e6
          refine Rg.take_ 14 (some 17) (.agg #[.int .i64 k, .slice a4 8 c4, .slice a5 8 c5, .slice a6 8 c6]) rfl rfl (by kernel_rfl) (by kernel_rfl) (by kernel_rfl) (fun _ _ _ h => h) (yieldsBuild rfl _ _ rfl _ _ (by rfl) (builtPub k a4 a5 a6 8 8 8 c4 c5 c6)) H6.out ?_
          simp only [Act.put, List.setIfInBounds_toArray, List.set_cons_zero, List.set_cons_succ]
          refine Rg.ready_one (i := 15) (by kernel_rfl) rfl rfl ?_
          obtain ⟨old, ho, hz⟩ := H6.out.out
          refine storeAt none 45 _ _ rfl rfl gz #[.int .i64 k, .slice a4 8 c4, .slice a5 8 c5, .slice a6 8 c6] rfl rfl _ _ ho infoPub (by rw [hz]; rfl) (by kernel_rfl) ?_
          obtain ⟨w9, E9⟩ : ∃ W, W = w6.setRow gz #[.int .i64 k, .slice a4 8 c4, .slice a5 8 c5, .slice a6 8 c6] := ⟨_, rfl⟩
          obtain ⟨FIN, B9, H9⟩ := copyEnd SO.out G6.out H6.out ho LZ NE.out E9
          rw [← E9]
          refine ⟨H9, ?_⟩
          simp only [Act.put, List.setIfInBounds_toArray]
          refine wpAnyH_done (by kernel_rfl) ?_ _
          clear ho hz E9 H9
          go_wp2_with fail
          refine bodyPost_ret (v := .agg #[.int .i64 k, .slice a4 8 c4, .slice a5 8 c5, .slice a6 8 c6]) ?_ rfl FIN
          exact results_cell_row Try.results75 _ _ gz _ _ _ _ rfl B9 Try.underlying45 rfl infoPub
        · refine Rg.value_at (some 13) (.slice (some ⟨w3.heap.size, 0, none⟩) 0 0) (w3.alloc (.cells #[] 4)) rfl (by go_simp) ?_
          have ga := World.grownBy_alloc w3 (.cells #[] 4) none
          have H4 := Lib.hid (H3.out.still ga)
          have G4 := Lib.hid (grown_trans G3.out ga)
          have O4 := Lib.hid (O3.out.still ga)
          clear ga
          refine ⟨H4.out, ?_⟩
          simp only [Act.put, List.setIfInBounds_toArray, List.set_cons_zero, List.set_cons_succ]
          generalize w3.alloc (.cells #[] 4) = w4 at *
          generalize w3.heap.size = e13 at *
          refine Rg.ready_one (i := 9) (by kernel_rfl) rfl rfl ?_
          obtain ⟨i0, hi, hz0, hz1, hz2⟩ := info_parts infoInt
          refine appendWp (some 12) 23 3 rfl rfl rfl rfl i0 _ Try.underlying23 hi hz0 hz1 rfl (by omega) (vals v) (by first | rw [vals_length, EA.out] | rw [vals_length, EV.out] | rw [bvals_length, EF.out]) H4.out.vR ?_
          intro x w5 ho hg
          have hg' := hg
          have H5 := Lib.hid (H4.out.still hg)
          have G5 := Lib.hid (grown_trans G4.out hg)
          have O5 := Lib.hid (O4.out.join hg (own_one (row1_own.2 (own_len' ho EV.out))) G4.out.size)
          clear ho hg hg' hi hz0 hz1 hz2
          refine ⟨H5.out, ?_⟩
          simp only [Act.put, List.setIfInBounds_toArray, List.set_cons_zero, List.set_cons_succ]
          refine Rg.ready_one (i := 13) (by kernel_rfl) rfl rfl ?_
          obtain ⟨i0, hi, hz0, hz1, hz2⟩ := info_parts infoBool
          refine appendWp (some 16) 41 4 rfl rfl rfl rfl i0 _ Try.underlying41 hi hz0 hz1 rfl (by omega) (bvals f) (by first | rw [vals_length, EA.out] | rw [vals_length, EV.out] | rw [bvals_length, EF.out]) H5.out.fR ?_
          intro y w6 ho hg
          have hg' := hg
          have H6 := Lib.hid (H5.out.still hg)
          have G6 := Lib.hid (grown_trans G5.out hg)
          have O6 := Lib.hid (O5.out.join hg (own_one (bool1_own.2 (bown_len' ho EF.out))) G5.out.size)
          clear ho hg hg' hi hz0 hz1 hz2
          refine ⟨H6.out, ?_⟩
          simp only [Act.put, List.setIfInBounds_toArray, List.set_cons_zero, List.set_cons_succ]
          obtain ⟨h0, h1, h2, ab, ac, bc⟩ := own3 O6.out
          have SO : Hid (StOwn w6 w.heap.size u x y a v f) := Lib.hid (mk3 h2 h1 h0 bc.symm ac.symm ab.symm)
          clear h0 h1 h2 ab ac bc
          obtain ⟨a4, c4, e4, -, -, -⟩ := SO.out.a
          obtain ⟨a5, c5, e5, -, -, -⟩ := SO.out.v
          obtain ⟨a6, c6, e6, -, -, -⟩ := SO.out.f
          rw [EA.out] at e4
          rw [EV.out] at e5
          rw [EF.out] at e6
          subst e4 e5 e6
          refine Rg.take_ 14 (some 17) (.agg #[.int .i64 k, .slice a4 8 c4, .slice a5 8 c5, .slice a6 8 c6]) rfl rfl (by kernel_rfl) (by kernel_rfl) (by kernel_rfl) (fun _ _ _ h => h) (yieldsBuild rfl _ _ rfl _ _ (by rfl) (builtPub k a4 a5 a6 8 8 8 c4 c5 c6)) H6.out ?_
          simp only [Act.put, List.setIfInBounds_toArray, List.set_cons_zero, List.set_cons_succ]
          refine Rg.ready_one (i := 15) (by kernel_rfl) rfl rfl ?_
          obtain ⟨old, ho, hz⟩ := H6.out.out
          refine storeAt none 45 _ _ rfl rfl gz #[.int .i64 k, .slice a4 8 c4, .slice a5 8 c5, .slice a6 8 c6] rfl rfl _ _ ho infoPub (by rw [hz]; rfl) (by kernel_rfl) ?_
          obtain ⟨w9, E9⟩ : ∃ W, W = w6.setRow gz #[.int .i64 k, .slice a4 8 c4, .slice a5 8 c5, .slice a6 8 c6] := ⟨_, rfl⟩
          obtain ⟨FIN, B9, H9⟩ := copyEnd SO.out G6.out H6.out ho LZ NE.out E9
          rw [← E9]
          refine ⟨H9, ?_⟩
          simp only [Act.put, List.setIfInBounds_toArray]
          refine wpAnyH_done (by kernel_rfl) ?_ _
          clear ho hz E9 H9
          go_wp2_with fail
          refine bodyPost_ret (v := .agg #[.int .i64 k, .slice a4 8 c4, .slice a5 8 c5, .slice a6 8 c6]) ?_ rfl FIN
          exact results_cell_row Try.results75 _ _ gz _ _ _ _ rfl B9 Try.underlying45 rfl infoPub
      · refine Rg.value_at (some 13) (.slice (some ⟨w2.heap.size, 0, none⟩) 0 0) (w2.alloc (.cells #[] 4)) rfl (by go_simp) ?_
        have ga := World.grownBy_alloc w2 (.cells #[] 4) none
        have H3 := Lib.hid (H2.out.still ga)
        have G3 := Lib.hid (grown_trans G2.out ga)
        have O3 := Lib.hid (O2.out.still ga)
        clear ga
        refine ⟨H3.out, ?_⟩
        simp only [Act.put, List.setIfInBounds_toArray, List.set_cons_zero, List.set_cons_succ]
        generalize w2.alloc (.cells #[] 4) = w3 at *
        generalize w2.heap.size = e13 at *
        refine Rg.ready_one (i := 6) (by kernel_rfl) rfl rfl ?_
        refine Rg.value_at (some 9) (.slice (some ⟨w3.heap.size, 0, none⟩) 0 0) (w3.alloc (.cells #[] 3)) rfl (by go_simp) ?_
        have ga := World.grownBy_alloc w3 (.cells #[] 3) none
        have H4 := Lib.hid (H3.out.still ga)
        have G4 := Lib.hid (grown_trans G3.out ga)
        have O4 := Lib.hid (O3.out.still ga)
        clear ga
        refine ⟨H4.out, ?_⟩
        simp only [Act.put, List.setIfInBounds_toArray, List.set_cons_zero, List.set_cons_succ]
        generalize w3.alloc (.cells #[] 3) = w4 at *
        generalize w3.heap.size = e9 at *
        refine Rg.ready_one (i := 9) (by kernel_rfl) rfl rfl ?_
        obtain ⟨i0, hi, hz0, hz1, hz2⟩ := info_parts infoInt
        refine appendWp (some 12) 23 3 rfl rfl rfl rfl i0 _ Try.underlying23 hi hz0 hz1 rfl (by omega) (vals v) (by first | rw [vals_length, EA.out] | rw [vals_length, EV.out] | rw [bvals_length, EF.out]) H4.out.vR ?_
        intro x w5 ho hg
        have hg' := hg
        have H5 := Lib.hid (H4.out.still hg)
        have G5 := Lib.hid (grown_trans G4.out hg)
        have O5 := Lib.hid (O4.out.join hg (own_one (row1_own.2 (own_len' ho EV.out))) G4.out.size)
        clear ho hg hg' hi hz0 hz1 hz2
        refine ⟨H5.out, ?_⟩
        simp only [Act.put, List.setIfInBounds_toArray, List.set_cons_zero, List.set_cons_succ]
        refine Rg.ready_one (i := 13) (by kernel_rfl) rfl rfl ?_
        obtain ⟨i0, hi, hz0, hz1, hz2⟩ := info_parts infoBool
        refine appendWp (some 16) 41 4 rfl rfl rfl rfl i0 _ Try.underlying41 hi hz0 hz1 rfl (by omega) (bvals f) (by first | rw [vals_length, EA.out] | rw [vals_length, EV.out] | rw [bvals_length, EF.out]) H5.out.fR ?_
        intro y w6 ho hg
        have hg' := hg
        have H6 := Lib.hid (H5.out.still hg)
        have G6 := Lib.hid (grown_trans G5.out hg)
        have O6 := Lib.hid (O5.out.join hg (own_one (bool1_own.2 (bown_len' ho EF.out))) G5.out.size)
        clear ho hg hg' hi hz0 hz1 hz2
        refine ⟨H6.out, ?_⟩
        simp only [Act.put, List.setIfInBounds_toArray, List.set_cons_zero, List.set_cons_succ]
        obtain ⟨h0, h1, h2, ab, ac, bc⟩ := own3 O6.out
        have SO : Hid (StOwn w6 w.heap.size u x y a v f) := Lib.hid (mk3 h2 h1 h0 bc.symm ac.symm ab.symm)
        clear h0 h1 h2 ab ac bc
        obtain ⟨a4, c4, e4, -, -, -⟩ := SO.out.a
        obtain ⟨a5, c5, e5, -, -, -⟩ := SO.out.v
        obtain ⟨a6, c6, e6, -, -, -⟩ := SO.out.f
        rw [EA.out] at e4
        rw [EV.out] at e5
        rw [EF.out] at e6
        subst e4 e5 e6
        refine Rg.take_ 14 (some 17) (.agg #[.int .i64 k, .slice a4 8 c4, .slice a5 8 c5, .slice a6 8 c6]) rfl rfl (by kernel_rfl) (by kernel_rfl) (by kernel_rfl) (fun _ _ _ h => h) (yieldsBuild rfl _ _ rfl _ _ (by rfl) (builtPub k a4 a5 a6 8 8 8 c4 c5 c6)) H6.out ?_
        simp only [Act.put, List.setIfInBounds_toArray, List.set_cons_zero, List.set_cons_succ]
        refine Rg.ready_one (i := 15) (by kernel_rfl) rfl rfl ?_
        obtain ⟨old, ho, hz⟩ := H6.out.out
        refine storeAt none 45 _ _ rfl rfl gz #[.int .i64 k, .slice a4 8 c4, .slice a5 8 c5, .slice a6 8 c6] rfl rfl _ _ ho infoPub (by rw [hz]; rfl) (by kernel_rfl) ?_
        obtain ⟨w9, E9⟩ : ∃ W, W = w6.setRow gz #[.int .i64 k, .slice a4 8 c4, .slice a5 8 c5, .slice a6 8 c6] := ⟨_, rfl⟩
        obtain ⟨FIN, B9, H9⟩ := copyEnd SO.out G6.out H6.out ho LZ NE.out E9
        rw [← E9]
        refine ⟨H9, ?_⟩
        simp only [Act.put, List.setIfInBounds_toArray]
        refine wpAnyH_done (by kernel_rfl) ?_ _
        clear ho hz E9 H9
        go_wp2_with fail
        refine bodyPost_ret (v := .agg #[.int .i64 k, .slice a4 8 c4, .slice a5 8 c5, .slice a6 8 c6]) ?_ rfl FIN
        exact results_cell_row Try.results75 _ _ gz _ _ _ _ rfl B9 Try.underlying45 rfl infoPub
    · refine Rg.value_at (some 9) (.slice (some ⟨w1.heap.size, 0, none⟩) 0 0) (w1.alloc (.cells #[] 3)) rfl (by go_simp) ?_
      have ga := World.grownBy_alloc w1 (.cells #[] 3) none
      have H2 := Lib.hid (H1.out.still ga)
      have G2 := Lib.hid (grown_trans G1.out ga)
      have O2 := Lib.hid (O1.out.still ga)
      clear ga
      refine ⟨H2.out, ?_⟩
      simp only [Act.put, List.setIfInBounds_toArray, List.set_cons_zero, List.set_cons_succ]
      generalize w1.alloc (.cells #[] 3) = w2 at *
      generalize w1.heap.size = e9 at *
      refine Rg.ready_two (i := 5) (k := 10) (by kernel_rfl) rfl rfl rfl rfl ?_ ?_
      · obtain ⟨i0, hi, hz0, hz1, hz2⟩ := info_parts infoInt
        refine appendWp (some 8) 23 3 rfl rfl rfl rfl i0 _ Try.underlying23 hi hz0 hz1 rfl (by omega) (vals a) (by first | rw [vals_length, EA.out] | rw [vals_length, EV.out] | rw [bvals_length, EF.out]) H2.out.aR ?_
        intro u w3 ho hg
        have hg' := hg
        have H3 := Lib.hid (H2.out.still hg)
        have G3 := Lib.hid (grown_trans G2.out hg)
        have O3 := Lib.hid (O2.out.join hg (own_one (row1_own.2 (own_len' ho EA.out))) G2.out.size)
        clear ho hg hg' hi hz0 hz1 hz2
        refine ⟨H3.out, ?_⟩
        simp only [Act.put, List.setIfInBounds_toArray, List.set_cons_zero, List.set_cons_succ]
        refine Rg.ready_two (i := 9) (k := 10) (by kernel_rfl) rfl rfl rfl rfl ?_ ?_
        · obtain ⟨i0, hi, hz0, hz1, hz2⟩ := info_parts infoInt
          refine appendWp (some 12) 23 3 rfl rfl rfl rfl i0 _ Try.underlying23 hi hz0 hz1 rfl (by omega) (vals v) (by first | rw [vals_length, EA.out] | rw [vals_length, EV.out] | rw [bvals_length, EF.out]) H3.out.vR ?_
          intro x w4 ho hg
          have hg' := hg
          have H4 := Lib.hid (H3.out.still hg)
          have G4 := Lib.hid (grown_trans G3.out hg)
          have O4 := Lib.hid (O3.out.join hg (own_one (row1_own.2 (own_len' ho EV.out))) G3.out.size)
          clear ho hg hg' hi hz0 hz1 hz2
          refine ⟨H4.out, ?_⟩
          simp only [Act.put, List.setIfInBounds_toArray, List.set_cons_zero, List.set_cons_succ]
          refine Rg.ready_one (i := 10) (by kernel_rfl) rfl rfl ?_
          refine Rg.value_at (some 13) (.slice (some ⟨w4.heap.size, 0, none⟩) 0 0) (w4.alloc (.cells #[] 4)) rfl (by go_simp) ?_
          have ga := World.grownBy_alloc w4 (.cells #[] 4) none
          have H5 := Lib.hid (H4.out.still ga)
          have G5 := Lib.hid (grown_trans G4.out ga)
          have O5 := Lib.hid (O4.out.still ga)
          clear ga
          refine ⟨H5.out, ?_⟩
          simp only [Act.put, List.setIfInBounds_toArray, List.set_cons_zero, List.set_cons_succ]
          generalize w4.alloc (.cells #[] 4) = w5 at *
          generalize w4.heap.size = e13 at *
          refine Rg.ready_one (i := 13) (by kernel_rfl) rfl rfl ?_
          obtain ⟨i0, hi, hz0, hz1, hz2⟩ := info_parts infoBool
          refine appendWp (some 16) 41 4 rfl rfl rfl rfl i0 _ Try.underlying41 hi hz0 hz1 rfl (by omega) (bvals f) (by first | rw [vals_length, EA.out] | rw [vals_length, EV.out] | rw [bvals_length, EF.out]) H5.out.fR ?_
          intro y w6 ho hg
          have hg' := hg
          have H6 := Lib.hid (H5.out.still hg)
          have G6 := Lib.hid (grown_trans G5.out hg)
          have O6 := Lib.hid (O5.out.join hg (own_one (bool1_own.2 (bown_len' ho EF.out))) G5.out.size)
          clear ho hg hg' hi hz0 hz1 hz2
          refine ⟨H6.out, ?_⟩
          simp only [Act.put, List.setIfInBounds_toArray, List.set_cons_zero, List.set_cons_succ]
          obtain ⟨h0, h1, h2, ab, ac, bc⟩ := own3 O6.out
          have SO : Hid (StOwn w6 w.heap.size u x y a v f) := Lib.hid (mk3 h2 h1 h0 bc.symm ac.symm ab.symm)
          clear h0 h1 h2 ab ac bc
          obtain ⟨a4, c4, e4, -, -, -⟩ := SO.out.a
          obtain ⟨a5, c5, e5, -, -, -⟩ := SO.out.v
          obtain ⟨a6, c6, e6, -, -, -⟩ := SO.out.f
          rw [EA.out] at e4
          rw [EV.out] at e5
          rw [EF.out] at e6
          subst e4 e5 e6
          refine Rg.take_ 14 (some 17) (.agg #[.int .i64 k, .slice a4 8 c4, .slice a5 8 c5, .slice a6 8 c6]) rfl rfl (by kernel_rfl) (by kernel_rfl) (by kernel_rfl) (fun _ _ _ h => h) (yieldsBuild rfl _ _ rfl _ _ (by rfl) (builtPub k a4 a5 a6 8 8 8 c4 c5 c6)) H6.out ?_
          simp only [Act.put, List.setIfInBounds_toArray, List.set_cons_zero, List.set_cons_succ]
          refine Rg.ready_one (i := 15) (by kernel_rfl) rfl rfl ?_
          obtain ⟨old, ho, hz⟩ := H6.out.out
          refine storeAt none 45 _ _ rfl rfl gz #[.int .i64 k, .slice a4 8 c4, .slice a5 8 c5, .slice a6 8 c6] rfl rfl _ _ ho infoPub (by rw [hz]; rfl) (by kernel_rfl) ?_
          obtain ⟨w9, E9⟩ : ∃ W, W = w6.setRow gz #[.int .i64 k, .slice a4 8 c4, .slice a5 8 c5, .slice a6 8 c6] := ⟨_, rfl⟩
          obtain ⟨FIN, B9, H9⟩ := copyEnd SO.out G6.out H6.out ho LZ NE.out E9
          rw [← E9]
          refine ⟨H9, ?_⟩
          simp only [Act.put, List.setIfInBounds_toArray]
          refine wpAnyH_done (by kernel_rfl) ?_ _
          clear ho hz E9 H9
          go_wp2_with fail
          refine bodyPost_ret (v := .agg #[.int .i64 k, .slice a4 8 c4, .slice a5 8 c5, .slice a6 8 c6]) ?_ rfl FIN
          exact results_cell_row Try.results75 _ _ gz _ _ _ _ rfl B9 Try.underlying45 rfl infoPub
        · refine Rg.value_at (some 13) (.slice (some ⟨w3.heap.size, 0, none⟩) 0 0) (w3.alloc (.cells #[] 4)) rfl (by go_simp) ?_
          have ga := World.grownBy_alloc w3 (.cells #[] 4) none
          have H4 := Lib.hid (H3.out.still ga)
          have G4 := Lib.hid (grown_trans G3.out ga)
          have O4 := Lib.hid (O3.out.still ga)
          clear ga
          refine ⟨H4.out, ?_⟩
          simp only [Act.put, List.setIfInBounds_toArray, List.set_cons_zero, List.set_cons_succ]
          generalize w3.alloc (.cells #[] 4) = w4 at *
          generalize w3.heap.size = e13 at *
          refine Rg.ready_one (i := 9) (by kernel_rfl) rfl rfl ?_
          obtain ⟨i0, hi, hz0, hz1, hz2⟩ := info_parts infoInt
          refine appendWp (some 12) 23 3 rfl rfl rfl rfl i0 _ Try.underlying23 hi hz0 hz1 rfl (by omega) (vals v) (by first | rw [vals_length, EA.out] | rw [vals_length, EV.out] | rw [bvals_length, EF.out]) H4.out.vR ?_
          intro x w5 ho hg
          have hg' := hg
          have H5 := Lib.hid (H4.out.still hg)
          have G5 := Lib.hid (grown_trans G4.out hg)
          have O5 := Lib.hid (O4.out.join hg (own_one (row1_own.2 (own_len' ho EV.out))) G4.out.size)
          clear ho hg hg' hi hz0 hz1 hz2
          refine ⟨H5.out, ?_⟩
          simp only [Act.put, List.setIfInBounds_toArray, List.set_cons_zero, List.set_cons_succ]
          refine Rg.ready_one (i := 13) (by kernel_rfl) rfl rfl ?_
          obtain ⟨i0, hi, hz0, hz1, hz2⟩ := info_parts infoBool
          refine appendWp (some 16) 41 4 rfl rfl rfl rfl i0 _ Try.underlying41 hi hz0 hz1 rfl (by omega) (bvals f) (by first | rw [vals_length, EA.out] | rw [vals_length, EV.out] | rw [bvals_length, EF.out]) H5.out.fR ?_
          intro y w6 ho hg
          have hg' := hg
          have H6 := Lib.hid (H5.out.still hg)
          have G6 := Lib.hid (grown_trans G5.out hg)
          have O6 := Lib.hid (O5.out.join hg (own_one (bool1_own.2 (bown_len' ho EF.out))) G5.out.size)
          clear ho hg hg' hi hz0 hz1 hz2
          refine ⟨H6.out, ?_⟩
          simp only [Act.put, List.setIfInBounds_toArray, List.set_cons_zero, List.set_cons_succ]
          obtain ⟨h0, h1, h2, ab, ac, bc⟩ := own3 O6.out
          have SO : Hid (StOwn w6 w.heap.size u x y a v f) := Lib.hid (mk3 h2 h1 h0 bc.symm ac.symm ab.symm)
          clear h0 h1 h2 ab ac bc
          obtain ⟨a4, c4, e4, -, -, -⟩ := SO.out.a
          obtain ⟨a5, c5, e5, -, -, -⟩ := SO.out.v
          obtain ⟨a6, c6, e6, -, -, -⟩ := SO.out.f
          rw [EA.out] at e4
          rw [EV.out] at e5
          rw [EF.out] at e6
          subst e4 e5 e6
          refine Rg.take_ 14 (some 17) (.agg #[.int .i64 k, .slice a4 8 c4, .slice a5 8 c5, .slice a6 8 c6]) rfl rfl (by kernel_rfl) (by kernel_rfl) (by kernel_rfl) (fun _ _ _ h => h) (yieldsBuild rfl _ _ rfl _ _ (by rfl) (builtPub k a4 a5 a6 8 8 8 c4 c5 c6)) H6.out ?_
          simp only [Act.put, List.setIfInBounds_toArray, List.set_cons_zero, List.set_cons_succ]
          refine Rg.ready_one (i := 15) (by kernel_rfl) rfl rfl ?_
          obtain ⟨old, ho, hz⟩ := H6.out.out
          refine storeAt none 45 _ _ rfl rfl gz #[.int .i64 k, .slice a4 8 c4, .slice a5 8 c5, .slice a6 8 c6] rfl rfl _ _ ho infoPub (by rw [hz]; rfl) (by kernel_rfl) ?_
          obtain ⟨w9, E9⟩ : ∃ W, W = w6.setRow gz #[.int .i64 k, .slice a4 8 c4, .slice a5 8 c5, .slice a6 8 c6] := ⟨_, rfl⟩
          obtain ⟨FIN, B9, H9⟩ := copyEnd SO.out G6.out H6.out ho LZ NE.out E9
          rw [← E9]
          refine ⟨H9, ?_⟩
          simp only [Act.put, List.setIfInBounds_toArray]
          refine wpAnyH_done (by kernel_rfl) ?_ _
          clear ho hz E9 H9
          go_wp2_with fail
          refine bodyPost_ret (v := .agg #[.int .i64 k, .slice a4 8 c4, .slice a5 8 c5, .slice a6 8 c6]) ?_ rfl FIN
          exact results_cell_row Try.results75 _ _ gz _ _ _ _ rfl B9 Try.underlying45 rfl infoPub
      · refine Rg.value_at (some 13) (.slice (some ⟨w2.heap.size, 0, none⟩) 0 0) (w2.alloc (.cells #[] 4)) rfl (by go_simp) ?_
        have ga := World.grownBy_alloc w2 (.cells #[] 4) none
        have H3 := Lib.hid (H2.out.still ga)
        have G3 := Lib.hid (grown_trans G2.out ga)
        have O3 := Lib.hid (O2.out.still ga)
        clear ga
        refine ⟨H3.out, ?_⟩
        simp only [Act.put, List.setIfInBounds_toArray, List.set_cons_zero, List.set_cons_succ]
        generalize w2.alloc (.cells #[] 4) = w3 at *
        generalize w2.heap.size = e13 at *
        refine Rg.ready_one (i := 5) (by kernel_rfl) rfl rfl ?_
        obtain ⟨i0, hi, hz0, hz1, hz2⟩ := info_parts infoInt
        refine appendWp (some 8) 23 3 rfl rfl rfl rfl i0 _ Try.underlying23 hi hz0 hz1 rfl (by omega) (vals a) (by first | rw [vals_length, EA.out] | rw [vals_length, EV.out] | rw [bvals_length, EF.out]) H3.out.aR ?_
        intro u w4 ho hg
        have hg' := hg
        have H4 := Lib.hid (H3.out.still hg)
        have G4 := Lib.hid (grown_trans G3.out hg)
        have O4 := Lib.hid (O3.out.join hg (own_one (row1_own.2 (own_len' ho EA.out))) G3.out.size)
        clear ho hg hg' hi hz0 hz1 hz2
        refine ⟨H4.out, ?_⟩
        simp only [Act.put, List.setIfInBounds_toArray, List.set_cons_zero, List.set_cons_succ]
        refine Rg.ready_one (i := 9) (by kernel_rfl) rfl rfl ?_
        obtain ⟨i0, hi, hz0, hz1, hz2⟩ := info_parts infoInt
        refine appendWp (some 12) 23 3 rfl rfl rfl rfl i0 _ Try.underlying23 hi hz0 hz1 rfl (by omega) (vals v) (by first | rw [vals_length, EA.out] | rw [vals_length, EV.out] | rw [bvals_length, EF.out]) H4.out.vR ?_
        intro x w5 ho hg
        have hg' := hg
        have H5 := Lib.hid (H4.out.still hg)
        have G5 := Lib.hid (grown_trans G4.out hg)
        have O5 := Lib.hid (O4.out.join hg (own_one (row1_own.2 (own_len' ho EV.out))) G4.out.size)
        clear ho hg hg' hi hz0 hz1 hz2
        refine ⟨H5.out, ?_⟩
        simp only [Act.put, List.setIfInBounds_toArray, List.set_cons_zero, List.set_cons_succ]
        refine Rg.ready_one (i := 13) (by kernel_rfl) rfl rfl ?_
        obtain ⟨i0, hi, hz0, hz1, hz2⟩ := info_parts infoBool
        refine appendWp (some 16) 41 4 rfl rfl rfl rfl i0 _ Try.underlying41 hi hz0 hz1 rfl (by omega) (bvals f) (by first | rw [vals_length, EA.out] | rw [vals_length, EV.out] | rw [bvals_length, EF.out]) H5.out.fR ?_
        intro y w6 ho hg
        have hg' := hg
        have H6 := Lib.hid (H5.out.still hg)
        have G6 := Lib.hid (grown_trans G5.out hg)
        have O6 := Lib.hid (O5.out.join hg (own_one (bool1_own.2 (bown_len' ho EF.out))) G5.out.size)
        clear ho hg hg' hi hz0 hz1 hz2
        refine ⟨H6.out, ?_⟩
        simp only [Act.put, List.setIfInBounds_toArray, List.set_cons_zero, List.set_cons_succ]
        obtain ⟨h0, h1, h2, ab, ac, bc⟩ := own3 O6.out
        have SO : Hid (StOwn w6 w.heap.size u x y a v f) := Lib.hid (mk3 h2 h1 h0 bc.symm ac.symm ab.symm)
        clear h0 h1 h2 ab ac bc
        obtain ⟨a4, c4, e4, -, -, -⟩ := SO.out.a
        obtain ⟨a5, c5, e5, -, -, -⟩ := SO.out.v
        obtain ⟨a6, c6, e6, -, -, -⟩ := SO.out.f
        rw [EA.out] at e4
        rw [EV.out] at e5
        rw [EF.out] at e6
        subst e4 e5 e6
        refine Rg.take_ 14 (some 17) (.agg #[.int .i64 k, .slice a4 8 c4, .slice a5 8 c5, .slice a6 8 c6]) rfl rfl (by kernel_rfl) (by kernel_rfl) (by kernel_rfl) (fun _ _ _ h => h) (yieldsBuild rfl _ _ rfl _ _ (by rfl) (builtPub k a4 a5 a6 8 8 8 c4 c5 c6)) H6.out ?_
        simp only [Act.put, List.setIfInBounds_toArray, List.set_cons_zero, List.set_cons_succ]
        refine Rg.ready_one (i := 15) (by kernel_rfl) rfl rfl ?_
        obtain ⟨old, ho, hz⟩ := H6.out.out
        refine storeAt none 45 _ _ rfl rfl gz #[.int .i64 k, .slice a4 8 c4, .slice a5 8 c5, .slice a6 8 c6] rfl rfl _ _ ho infoPub (by rw [hz]; rfl) (by kernel_rfl) ?_
        obtain ⟨w9, E9⟩ : ∃ W, W = w6.setRow gz #[.int .i64 k, .slice a4 8 c4, .slice a5 8 c5, .slice a6 8 c6] := ⟨_, rfl⟩
        obtain ⟨FIN, B9, H9⟩ := copyEnd SO.out G6.out H6.out ho LZ NE.out E9
        rw [← E9]
        refine ⟨H9, ?_⟩
        simp only [Act.put, List.setIfInBounds_toArray]
        refine wpAnyH_done (by kernel_rfl) ?_ _
        clear ho hz E9 H9
        go_wp2_with fail
        refine bodyPost_ret (v := .agg #[.int .i64 k, .slice a4 8 c4, .slice a5 8 c5, .slice a6 8 c6]) ?_ rfl FIN
        exact results_cell_row Try.results75 _ _ gz _ _ _ _ rfl B9 Try.underlying45 rfl infoPub
    · refine Rg.value_at (some 13) (.slice (some ⟨w1.heap.size, 0, none⟩) 0 0) (w1.alloc (.cells #[] 4)) rfl (by go_simp) ?_
      have ga := World.grownBy_alloc w1 (.cells #[] 4) none
      have H2 := Lib.hid (H1.out.still ga)
      have G2 := Lib.hid (grown_trans G1.out ga)
      have O2 := Lib.hid (O1.out.still ga)
      clear ga
      refine ⟨H2.out, ?_⟩
      simp only [Act.put, List.setIfInBounds_toArray, List.set_cons_zero, List.set_cons_succ]
      generalize w1.alloc (.cells #[] 4) = w2 at *
      generalize w1.heap.size = e13 at *
      refine Rg.ready_two (i := 5) (k := 6) (by kernel_rfl) rfl rfl rfl rfl ?_ ?_
      · obtain ⟨i0, hi, hz0, hz1, hz2⟩ := info_parts infoInt
        refine appendWp (some 8) 23 3 rfl rfl rfl rfl i0 _ Try.underlying23 hi hz0 hz1 rfl (by omega) (vals a) (by first | rw [vals_length, EA.out] | rw [vals_length, EV.out] | rw [bvals_length, EF.out]) H2.out.aR ?_
        intro u w3 ho hg
        have hg' := hg
        have H3 := Lib.hid (H2.out.still hg)
        have G3 := Lib.hid (grown_trans G2.out hg)
        have O3 := Lib.hid (O2.out.join hg (own_one (row1_own.2 (own_len' ho EA.out))) G2.out.size)
        clear ho hg hg' hi hz0 hz1 hz2
        refine ⟨H3.out, ?_⟩
        simp only [Act.put, List.setIfInBounds_toArray, List.set_cons_zero, List.set_cons_succ]
        refine Rg.ready_one (i := 6) (by kernel_rfl) rfl rfl ?_
        refine Rg.value_at (some 9) (.slice (some ⟨w3.heap.size, 0, none⟩) 0 0) (w3.alloc (.cells #[] 3)) rfl (by go_simp) ?_
        have ga := World.grownBy_alloc w3 (.cells #[] 3) none
        have H4 := Lib.hid (H3.out.still ga)
        have G4 := Lib.hid (grown_trans G3.out ga)
        have O4 := Lib.hid (O3.out.still ga)
        clear ga
        refine ⟨H4.out, ?_⟩
        simp only [Act.put, List.setIfInBounds_toArray, List.set_cons_zero, List.set_cons_succ]
        generalize w3.alloc (.cells #[] 3) = w4 at *
        generalize w3.heap.size = e9 at *
        refine Rg.ready_one (i := 9) (by kernel_rfl) rfl rfl ?_
        obtain ⟨i0, hi, hz0, hz1, hz2⟩ := info_parts infoInt
        refine appendWp (some 12) 23 3 rfl rfl rfl rfl i0 _ Try.underlying23 hi hz0 hz1 rfl (by omega) (vals v) (by first | rw [vals_length, EA.out] | rw [vals_length, EV.out] | rw [bvals_length, EF.out]) H4.out.vR ?_
        intro x w5 ho hg
        have hg' := hg
        have H5 := Lib.hid (H4.out.still hg)
        have G5 := Lib.hid (grown_trans G4.out hg)
        have O5 := Lib.hid (O4.out.join hg (own_one (row1_own.2 (own_len' ho EV.out))) G4.out.size)
        clear ho hg hg' hi hz0 hz1 hz2
        refine ⟨H5.out, ?_⟩
        simp only [Act.put, List.setIfInBounds_toArray, List.set_cons_zero, List.set_cons_succ]
        refine Rg.ready_one (i := 13) (by kernel_rfl) rfl rfl ?_
        obtain ⟨i0, hi, hz0, hz1, hz2⟩ := info_parts infoBool
        refine appendWp (some 16) 41 4 rfl rfl rfl rfl i0 _ Try.underlying41 hi hz0 hz1 rfl (by omega) (bvals f) (by first | rw [vals_length, EA.out] | rw [vals_length, EV.out] | rw [bvals_length, EF.out]) H5.out.fR ?_
        intro y w6 ho hg
        have hg' := hg
        have H6 := Lib.hid (H5.out.still hg)
        have G6 := Lib.hid (grown_trans G5.out hg)
        have O6 := Lib.hid (O5.out.join hg (own_one (bool1_own.2 (bown_len' ho EF.out))) G5.out.size)
        clear ho hg hg' hi hz0 hz1 hz2
        refine ⟨H6.out, ?_⟩
        simp only [Act.put, List.setIfInBounds_toArray, List.set_cons_zero, List.set_cons_succ]
        obtain ⟨h0, h1, h2, ab, ac, bc⟩ := own3 O6.out
        have SO : Hid (StOwn w6 w.heap.size u x y a v f) := Lib.hid (mk3 h2 h1 h0 bc.symm ac.symm ab.symm)
        clear h0 h1 h2 ab ac bc
        obtain ⟨a4, c4, e4, -, -, -⟩ := SO.out.a
        obtain ⟨a5, c5, e5, -, -, -⟩ := SO.out.v
        obtain ⟨a6, c6, e6, -, -, -⟩ := SO.out.f
        rw [EA.out] at e4
        rw [EV.out] at e5
        rw [EF.out] at e6
        subst e4 e5 e6
        refine Rg.take_ 14 (some 17) (.agg #[.int .i64 k, .slice a4 8 c4, .slice a5 8 c5, .slice a6 8 c6]) rfl rfl (by kernel_rfl) (by kernel_rfl) (by kernel_rfl) (fun _ _ _ h => h) (yieldsBuild rfl _ _ rfl _ _ (by rfl) (builtPub k a4 a5 a6 8 8 8 c4 c5 c6)) H6.out ?_
        simp only [Act.put, List.setIfInBounds_toArray, List.set_cons_zero, List.set_cons_succ]
        refine Rg.ready_one (i := 15) (by kernel_rfl) rfl rfl ?_
        obtain ⟨old, ho, hz⟩ := H6.out.out
        refine storeAt none 45 _ _ rfl rfl gz #[.int .i64 k, .slice a4 8 c4, .slice a5 8 c5, .slice a6 8 c6] rfl rfl _ _ ho infoPub (by rw [hz]; rfl) (by kernel_rfl) ?_
        obtain ⟨w9, E9⟩ : ∃ W, W = w6.setRow gz #[.int .i64 k, .slice a4 8 c4, .slice a5 8 c5, .slice a6 8 c6] := ⟨_, rfl⟩
        obtain ⟨FIN, B9, H9⟩ := copyEnd SO.out G6.out H6.out ho LZ NE.out E9
        rw [← E9]
        refine ⟨H9, ?_⟩
        simp only [Act.put, List.setIfInBounds_toArray]
        refine wpAnyH_done (by kernel_rfl) ?_ _
        clear ho hz E9 H9
        go_wp2_with fail
        refine bodyPost_ret (v := .agg #[.int .i64 k, .slice a4 8 c4, .slice a5 8 c5, .slice a6 8 c6]) ?_ rfl FIN
        exact results_cell_row Try.results75 _ _ gz _ _ _ _ rfl B9 Try.underlying45 rfl infoPub
      · refine Rg.value_at (some 9) (.slice (some ⟨w2.heap.size, 0, none⟩) 0 0) (w2.alloc (.cells #[] 3)) rfl (by go_simp) ?_
        have ga := World.grownBy_alloc w2 (.cells #[] 3) none
        have H3 := Lib.hid (H2.out.still ga)
        have G3 := Lib.hid (grown_trans G2.out ga)
        have O3 := Lib.hid (O2.out.still ga)
        clear ga
        refine ⟨H3.out, ?_⟩
        simp only [Act.put, List.setIfInBounds_toArray, List.set_cons_zero, List.set_cons_succ]
        generalize w2.alloc (.cells #[] 3) = w3 at *
        generalize w2.heap.size = e9 at *
        refine Rg.ready_one (i := 5) (by kernel_rfl) rfl rfl ?_
        obtain ⟨i0, hi, hz0, hz1, hz2⟩ := info_parts infoInt
        refine appendWp (some 8) 23 3 rfl rfl rfl rfl i0 _ Try.underlying23 hi hz0 hz1 rfl (by omega) (vals a) (by first | rw [vals_length, EA.out] | rw [vals_length, EV.out] | rw [bvals_length, EF.out]) H3.out.aR ?_
        intro u w4 ho hg
        have hg' := hg
        have H4 := Lib.hid (H3.out.still hg)
        have G4 := Lib.hid (grown_trans G3.out hg)
        have O4 := Lib.hid (O3.out.join hg (own_one (row1_own.2 (own_len' ho EA.out))) G3.out.size)
        clear ho hg hg' hi hz0 hz1 hz2
        refine ⟨H4.out, ?_⟩
        simp only [Act.put, List.setIfInBounds_toArray, List.set_cons_zero, List.set_cons_succ]
        refine Rg.ready_one (i := 9) (by kernel_rfl) rfl rfl ?_
        obtain ⟨i0, hi, hz0, hz1, hz2⟩ := info_parts infoInt
        refine appendWp (some 12) 23 3 rfl rfl rfl rfl i0 _ Try.underlying23 hi hz0 hz1 rfl (by omega) (vals v) (by first | rw [vals_length, EA.out] | rw [vals_length, EV.out] | rw [bvals_length, EF.out]) H4.out.vR ?_
        intro x w5 ho hg
        have hg' := hg
        have H5 := Lib.hid (H4.out.still hg)
        have G5 := Lib.hid (grown_trans G4.out hg)
        have O5 := Lib.hid (O4.out.join hg (own_one (row1_own.2 (own_len' ho EV.out))) G4.out.size)
        clear ho hg hg' hi hz0 hz1 hz2
        refine ⟨H5.out, ?_⟩
        simp only [Act.put, List.setIfInBounds_toArray, List.set_cons_zero, List.set_cons_succ]
        refine Rg.ready_one (i := 13) (by kernel_rfl) rfl rfl ?_
        obtain ⟨i0, hi, hz0, hz1, hz2⟩ := info_parts infoBool
        refine appendWp (some 16) 41 4 rfl rfl rfl rfl i0 _ Try.underlying41 hi hz0 hz1 rfl (by omega) (bvals f) (by first | rw [vals_length, EA.out] | rw [vals_length, EV.out] | rw [bvals_length, EF.out]) H5.out.fR ?_
        intro y w6 ho hg
        have hg' := hg
        have H6 := Lib.hid (H5.out.still hg)
        have G6 := Lib.hid (grown_trans G5.out hg)
        have O6 := Lib.hid (O5.out.join hg (own_one (bool1_own.2 (bown_len' ho EF.out))) G5.out.size)
        clear ho hg hg' hi hz0 hz1 hz2
        refine ⟨H6.out, ?_⟩
        simp only [Act.put, List.setIfInBounds_toArray, List.set_cons_zero, List.set_cons_succ]
        obtain ⟨h0, h1, h2, ab, ac, bc⟩ := own3 O6.out
        have SO : Hid (StOwn w6 w.heap.size u x y a v f) := Lib.hid (mk3 h2 h1 h0 bc.symm ac.symm ab.symm)
        clear h0 h1 h2 ab ac bc
        obtain ⟨a4, c4, e4, -, -, -⟩ := SO.out.a
        obtain ⟨a5, c5, e5, -, -, -⟩ := SO.out.v
        obtain ⟨a6, c6, e6, -, -, -⟩ := SO.out.f
        rw [EA.out] at e4
        rw [EV.out] at e5
        rw [EF.out] at e6
        subst e4 e5 e6
        refine Rg.take_ 14 (some 17) (.agg #[.int .i64 k, .slice a4 8 c4, .slice a5 8 c5, .slice a6 8 c6]) rfl rfl (by kernel_rfl) (by kernel_rfl) (by kernel_rfl) (fun _ _ _ h => h) (yieldsBuild rfl _ _ rfl _ _ (by rfl) (builtPub k a4 a5 a6 8 8 8 c4 c5 c6)) H6.out ?_
        simp only [Act.put, List.setIfInBounds_toArray, List.set_cons_zero, List.set_cons_succ]
        refine Rg.ready_one (i := 15) (by kernel_rfl) rfl rfl ?_
        obtain ⟨old, ho, hz⟩ := H6.out.out
        refine storeAt none 45 _ _ rfl rfl gz #[.int .i64 k, .slice a4 8 c4, .slice a5 8 c5, .slice a6 8 c6] rfl rfl _ _ ho infoPub (by rw [hz]; rfl) (by kernel_rfl) ?_
        obtain ⟨w9, E9⟩ : ∃ W, W = w6.setRow gz #[.int .i64 k, .slice a4 8 c4, .slice a5 8 c5, .slice a6 8 c6] := ⟨_, rfl⟩
        obtain ⟨FIN, B9, H9⟩ := copyEnd SO.out G6.out H6.out ho LZ NE.out E9
        rw [← E9]
        refine ⟨H9, ?_⟩
        simp only [Act.put, List.setIfInBounds_toArray]
        refine wpAnyH_done (by kernel_rfl) ?_ _
        clear ho hz E9 H9
        go_wp2_with fail
        refine bodyPost_ret (v := .agg #[.int .i64 k, .slice a4 8 c4, .slice a5 8 c5, .slice a6 8 c6]) ?_ rfl FIN
        exact results_cell_row Try.results75 _ _ gz _ _ _ _ rfl B9 Try.underlying45 rfl infoPub
  · refine Rg.value_at (some 9) (.slice (some ⟨w0.heap.size, 0, none⟩) 0 0) (w0.alloc (.cells #[] 3)) rfl (by go_simp) ?_
    have ga := World.grownBy_alloc w0 (.cells #[] 3) none
    have H1 := Lib.hid (H0.out.still ga)
    have G1 := Lib.hid (grown_trans G0.out ga)
    have O1 := Lib.hid (O0.out.still ga)
    clear ga
    refine ⟨H1.out, ?_⟩
    simp only [Act.put, List.setIfInBounds_toArray, List.set_cons_zero, List.set_cons_succ]
    generalize w0.alloc (.cells #[] 3) = w1 at *
    generalize w0.heap.size = e9 at *
    refine Rg.ready_two (i := 2) (k := 10) (by kernel_rfl) rfl rfl rfl rfl ?_ ?_
    · refine Rg.value_at (some 5) (.slice (some ⟨w1.heap.size, 0, none⟩) 0 0) (w1.alloc (.cells #[] 3)) rfl (by go_simp) ?_
      have ga := World.grownBy_alloc w1 (.cells #[] 3) none
      have H2 := Lib.hid (H1.out.still ga)
      have G2 := Lib.hid (grown_trans G1.out ga)
      have O2 := Lib.hid (O1.out.still ga)
      clear ga
      refine ⟨H2.out, ?_⟩
      simp only [Act.put, List.setIfInBounds_toArray, List.set_cons_zero, List.set_cons_succ]
      generalize w1.alloc (.cells #[] 3) = w2 at *
      generalize w1.heap.size = e5 at *
      refine Rg.ready_two (i := 5) (k := 10) (by kernel_rfl) rfl rfl rfl rfl ?_ ?_
      · obtain ⟨i0, hi, hz0, hz1, hz2⟩ := info_parts infoInt
        refine appendWp (some 8) 23 3 rfl rfl rfl rfl i0 _ Try.underlying23 hi hz0 hz1 rfl (by omega) (vals a) (by first | rw [vals_length, EA.out] | rw [vals_length, EV.out] | rw [bvals_length, EF.out]) H2.out.aR ?_
        intro u w3 ho hg
        have hg' := hg
        have H3 := Lib.hid (H2.out.still hg)
        have G3 := Lib.hid (grown_trans G2.out hg)
        have O3 := Lib.hid (O2.out.join hg (own_one (row1_own.2 (own_len' ho EA.out))) G2.out.size)
        clear ho hg hg' hi hz0 hz1 hz2
        refine ⟨H3.out, ?_⟩
        simp only [Act.put, List.setIfInBounds_toArray, List.set_cons_zero, List.set_cons_succ]
        refine Rg.ready_two (i := 9) (k := 10) (by kernel_rfl) rfl rfl rfl rfl ?_ ?_
        · obtain ⟨i0, hi, hz0, hz1, hz2⟩ := info_parts infoInt
          refine appendWp (some 12) 23 3 rfl rfl rfl rfl i0 _ Try.underlying23 hi hz0 hz1 rfl (by omega) (vals v) (by first | rw [vals_length, EA.out] | rw [vals_length, EV.out] | rw [bvals_length, EF.out]) H3.out.vR ?_
          intro x w4 ho hg
          have hg' := hg
          have H4 := Lib.hid (H3.out.still hg)
          have G4 := Lib.hid (grown_trans G3.out hg)
          have O4 := Lib.hid (O3.out.join hg (own_one (row1_own.2 (own_len' ho EV.out))) G3.out.size)
          clear ho hg hg' hi hz0 hz1 hz2
          refine ⟨H4.out, ?_⟩
          simp only [Act.put, List.setIfInBounds_toArray, List.set_cons_zero, List.set_cons_succ]
          refine Rg.ready_one (i := 10) (by kernel_rfl) rfl rfl ?_
          refine Rg.value_at (some 13) (.slice (some ⟨w4.heap.size, 0, none⟩) 0 0) (w4.alloc (.cells #[] 4)) rfl (by go_simp) ?_
          have ga := World.grownBy_alloc w4 (.cells #[] 4) none
          have H5 := Lib.hid (H4.out.still ga)
          have G5 := Lib.hid (grown_trans G4.out ga)
          have O5 := Lib.hid (O4.out.still ga)
          clear ga
          refine ⟨H5.out, ?_⟩
          simp only [Act.put, List.setIfInBounds_toArray, List.set_cons_zero, List.set_cons_succ]
          generalize w4.alloc (.cells #[] 4) = w5 at *
          generalize w4.heap.size = e13 at *
          refine Rg.ready_one (i := 13) (by kernel_rfl) rfl rfl ?_
          obtain ⟨i0, hi, hz0, hz1, hz2⟩ := info_parts infoBool
          refine appendWp (some 16) 41 4 rfl rfl rfl rfl i0 _ Try.underlying41 hi hz0 hz1 rfl (by omega) (bvals f) (by first | rw [vals_length, EA.out] | rw [vals_length, EV.out] | rw [bvals_length, EF.out]) H5.out.fR ?_
          intro y w6 ho hg
          have hg' := hg
          have H6 := Lib.hid (H5.out.still hg)
          have G6 := Lib.hid (grown_trans G5.out hg)
          have O6 := Lib.hid (O5.out.join hg (own_one (bool1_own.2 (bown_len' ho EF.out))) G5.out.size)
          clear ho hg hg' hi hz0 hz1 hz2
          refine ⟨H6.out, ?_⟩
          simp only [Act.put, List.setIfInBounds_toArray, List.set_cons_zero, List.set_cons_succ]
          obtain ⟨h0, h1, h2, ab, ac, bc⟩ := own3 O6.out
          have SO : Hid (StOwn w6 w.heap.size u x y a v f) := Lib.hid (mk3 h2 h1 h0 bc.symm ac.symm ab.symm)
          clear h0 h1 h2 ab ac bc
          obtain ⟨a4, c4, e4, -, -, -⟩ := SO.out.a
          obtain ⟨a5, c5, e5, -, -, -⟩ := SO.out.v
          obtain ⟨a6, c6, e6, -, -, -⟩ := SO.out.f
          rw [EA.out] at e4
          rw [EV.out] at e5
          rw [EF.out] at e6
          subst e4 e5 e6
          refine Rg.take_ 14 (some 17) (.agg #[.int .i64 k, .slice a4 8 c4, .slice a5 8 c5, .slice a6 8 c6]) rfl rfl (by kernel_rfl) (by kernel_rfl) (by kernel_rfl) (fun _ _ _ h => h) (yieldsBuild rfl _ _ rfl _ _ (by rfl) (builtPub k a4 a5 a6 8 8 8 c4 c5 c6)) H6.out ?_
          simp only [Act.put, List.setIfInBounds_toArray, List.set_cons_zero, List.set_cons_succ]
          refine Rg.ready_one (i := 15) (by kernel_rfl) rfl rfl ?_
          obtain ⟨old, ho, hz⟩ := H6.out.out
          refine storeAt none 45 _ _ rfl rfl gz #[.int .i64 k, .slice a4 8 c4, .slice a5 8 c5, .slice a6 8 c6] rfl rfl _ _ ho infoPub (by rw [hz]; rfl) (by kernel_rfl) ?_
          obtain ⟨w9, E9⟩ : ∃ W, W = w6.setRow gz #[.int .i64 k, .slice a4 8 c4, .slice a5 8 c5, .slice a6 8 c6] := ⟨_, rfl⟩
          obtain ⟨FIN, B9, H9⟩ := copyEnd SO.out G6.out H6.out ho LZ NE.out E9
          rw [← E9]
          refine ⟨H9, ?_⟩
          simp only [Act.put, List.setIfInBounds_toArray]
          refine wpAnyH_done (by kernel_rfl) ?_ _
          clear ho hz E9 H9
          go_wp2_with fail
          refine bodyPost_ret (v := .agg #[.int .i64 k, .slice a4 8 c4, .slice a5 8 c5, .slice a6 8 c6]) ?_ rfl FIN
          exact results_cell_row Try.results75 _ _ gz _ _ _ _ rfl B9 Try.underlying45 rfl infoPub
        · refine Rg.value_at (some 13) (.slice (some ⟨w3.heap.size, 0, none⟩) 0 0) (w3.alloc (.cells #[] 4)) rfl (by go_simp) ?_
          have ga := World.grownBy_alloc w3 (.cells #[] 4) none
          have H4 := Lib.hid (H3.out.still ga)
          have G4 := Lib.hid (grown_trans G3.out ga)
          have O4 := Lib.hid (O3.out.still ga)
          clear ga
          refine ⟨H4.out, ?_⟩
          simp only [Act.put, List.setIfInBounds_toArray, List.set_cons_zero, List.set_cons_succ]
          generalize w3.alloc (.cells #[] 4) = w4 at *
          generalize w3.heap.size = e13 at *
          refine Rg.ready_one (i := 9) (by kernel_rfl) rfl rfl ?_
          obtain ⟨i0, hi, hz0, hz1, hz2⟩ := info_parts infoInt
          refine appendWp (some 12) 23 3 rfl rfl rfl rfl i0 _ Try.underlying23 hi hz0 hz1 rfl (by omega) (vals v) (by first | rw [vals_length, EA.out] | rw [vals_length, EV.out] | rw [bvals_length, EF.out]) H4.out.vR ?_
          intro x w5 ho hg
          have hg' := hg
          have H5 := Lib.hid (H4.out.still hg)
          have G5 := Lib.hid (grown_trans G4.out hg)
          have O5 := Lib.hid (O4.out.join hg (own_one (row1_own.2 (own_len' ho EV.out))) G4.out.size)
          clear ho hg hg' hi hz0 hz1 hz2
          refine ⟨H5.out, ?_⟩
          simp only [Act.put, List.setIfInBounds_toArray, List.set_cons_zero, List.set_cons_succ]
          refine Rg.ready_one (i := 13) (by kernel_rfl) rfl rfl ?_
          obtain ⟨i0, hi, hz0, hz1, hz2⟩ := info_parts infoBool
          refine appendWp (some 16) 41 4 rfl rfl rfl rfl i0 _ Try.underlying41 hi hz0 hz1 rfl (by omega) (bvals f) (by first | rw [vals_length, EA.out] | rw [vals_length, EV.out] | rw [bvals_length, EF.out]) H5.out.fR ?_
          intro y w6 ho hg
          have hg' := hg
          have H6 := Lib.hid (H5.out.still hg)
          have G6 := Lib.hid (grown_trans G5.out hg)
          have O6 := Lib.hid (O5.out.join hg (own_one (bool1_own.2 (bown_len' ho EF.out))) G5.out.size)
          clear ho hg hg' hi hz0 hz1 hz2
          refine ⟨H6.out, ?_⟩
          simp only [Act.put, List.setIfInBounds_toArray, List.set_cons_zero, List.set_cons_succ]
          obtain ⟨h0, h1, h2, ab, ac, bc⟩ := own3 O6.out
          have SO : Hid (StOwn w6 w.heap.size u x y a v f) := Lib.hid (mk3 h2 h1 h0 bc.symm ac.symm ab.symm)
          clear h0 h1 h2 ab ac bc
          obtain ⟨a4, c4, e4, -, -, -⟩ := SO.out.a
          obtain ⟨a5, c5, e5, -, -, -⟩ := SO.out.v
          obtain ⟨a6, c6, e6, -, -, -⟩ := SO.out.f
          rw [EA.out] at e4
          rw [EV.out] at e5
          rw [EF.out] at e6
          subst e4 e5 e6
          refine Rg.take_ 14 (some 17) (.agg #[.int .i64 k, .slice a4 8 c4, .slice a5 8 c5, .slice a6 8 c6]) rfl rfl (by kernel_rfl) (by kernel_rfl) (by kernel_rfl) (fun _ _ _ h => h) (yieldsBuild rfl _ _ rfl _ _ (by rfl) (builtPub k a4 a5 a6 8 8 8 c4 c5 c6)) H6.out ?_
          simp only [Act.put, List.setIfInBounds_toArray, List.set_cons_zero, List.set_cons_succ]
          refine Rg.ready_one (i := 15) (by kernel_rfl) rfl rfl ?_
          obtain ⟨old, ho, hz⟩ := H6.out.out
          refine storeAt none 45 _ _ rfl rfl gz #[.int .i64 k, .slice a4 8 c4, .slice a5 8 c5, .slice a6 8 c6] rfl rfl _ _ ho infoPub (by rw [hz]; rfl) (by kernel_rfl) ?_
          obtain ⟨w9, E9⟩ : ∃ W, W = w6.setRow gz #[.int .i64 k, .slice a4 8 c4, .slice a5 8 c5, .slice a6 8 c6] := ⟨_, rfl⟩
          obtain ⟨FIN, B9, H9⟩ := copyEnd SO.out G6.out H6.out ho LZ NE.out E9
          rw [← E9]
          refine ⟨H9, ?_⟩
          simp only [Act.put, List.setIfInBounds_toArray]
          refine wpAnyH_done (by kernel_rfl) ?_ _
          clear ho hz E9 H9
          go_wp2_with fail
          refine bodyPost_ret (v := .agg #[.int .i64 k, .slice a4 8 c4, .slice a5 8 c5, .slice a6 8 c6]) ?_ rfl FIN
          exact results_cell_row Try.results75 _ _ gz _ _ _ _ rfl B9 Try.underlying45 rfl infoPub
      · refine Rg.value_at (some 13) (.slice (some ⟨w2.heap.size, 0, none⟩) 0 0) (w2.alloc (.cells #[] 4)) rfl (by go_simp) ?_
        have ga := World.grownBy_alloc w2 (.cells #[] 4) none
        have H3 := Lib.hid (H2.out.still ga)
        have G3 := Lib.hid (grown_trans G2.out ga)
        have O3 := Lib.hid (O2.out.still ga)
        clear ga
        refine ⟨H3.out, ?_⟩
        simp only [Act.put, List.setIfInBounds_toArray, List.set_cons_zero, List.set_cons_succ]
        generalize w2.alloc (.cells #[] 4) = w3 at *
        generalize w2.heap.size = e13 at *
        refine Rg.ready_one (i := 5) (by kernel_rfl) rfl rfl ?_
        obtain ⟨i0, hi, hz0, hz1, hz2⟩ := info_parts infoInt
        refine appendWp (some 8) 23 3 rfl rfl rfl rfl i0 _ Try.underlying23 hi hz0 hz1 rfl (by omega) (vals a) (by first | rw [vals_length, EA.out] | rw [vals_length, EV.out] | rw [bvals_length, EF.out]) H3.out.aR ?_
        intro u w4 ho hg
        have hg' := hg
        have H4 := Lib.hid (H3.out.still hg)
        have G4 := Lib.hid (grown_trans G3.out hg)
        have O4 := Lib.hid (O3.out.join hg (own_one (row1_own.2 (own_len' ho EA.out))) G3.out.size)
        clear ho hg hg' hi hz0 hz1 hz2
        refine ⟨H4.out, ?_⟩
        simp only [Act.put, List.setIfInBounds_toArray, List.set_cons_zero, List.set_cons_succ]
        refine Rg.ready_one (i := 9) (by kernel_rfl) rfl rfl ?_
        obtain ⟨i0, hi, hz0, hz1, hz2⟩ := info_parts infoInt
        refine appendWp (some 12) 23 3 rfl rfl rfl rfl i0 _ Try.underlying23 hi hz0 hz1 rfl (by omega) (vals v) (by first | rw [vals_length, EA.out] | rw [vals_length, EV.out] | rw [bvals_length, EF.out]) H4.out.vR ?_
        intro x w5 ho hg
        have hg' := hg
        have H5 := Lib.hid (H4.out.still hg)
        have G5 := Lib.hid (grown_trans G4.out hg)
        have O5 := Lib.hid (O4.out.join hg (own_one (row1_own.2 (own_len' ho EV.out))) G4.out.size)
        clear ho hg hg' hi hz0 hz1 hz2
        refine ⟨H5.out, ?_⟩
        simp only [Act.put, List.setIfInBounds_toArray, List.set_cons_zero, List.set_cons_succ]
        refine Rg.ready_one (i := 13) (by kernel_rfl) rfl rfl ?_
        obtain ⟨i0, hi, hz0, hz1, hz2⟩ := info_parts infoBool
        refine appendWp (some 16) 41 4 rfl rfl rfl rfl i0 _ Try.underlying41 hi hz0 hz1 rfl (by omega) (bvals f) (by first | rw [vals_length, EA.out] | rw [vals_length, EV.out] | rw [bvals_length, EF.out]) H5.out.fR ?_
        intro y w6 ho hg
        have hg' := hg
        have H6 := Lib.hid (H5.out.still hg)
        have G6 := Lib.hid (grown_trans G5.out hg)
        have O6 := Lib.hid (O5.out.join hg (own_one (bool1_own.2 (bown_len' ho EF.out))) G5.out.size)
        clear ho hg hg' hi hz0 hz1 hz2
        refine ⟨H6.out, ?_⟩
        simp only [Act.put, List.setIfInBounds_toArray, List.set_cons_zero, List.set_cons_succ]
        obtain ⟨h0, h1, h2, ab, ac, bc⟩ := own3 O6.out
        have SO : Hid (StOwn w6 w.heap.size u x y a v f) := Lib.hid (mk3 h2 h1 h0 bc.symm ac.symm ab.symm)
        clear h0 h1 h2 ab ac bc
        obtain ⟨a4, c4, e4, -, -, -⟩ := SO.out.a
        obtain ⟨a5, c5, e5, -, -, -⟩ := SO.out.v
        obtain ⟨a6, c6, e6, -, -, -⟩ := SO.out.f
        rw [EA.out] at e4
        rw [EV.out] at e5
        rw [EF.out] at e6
        subst e4 e5 e6
        refine Rg.take_ 14 (some 17) (.agg #[.int .i64 k, .slice a4 8 c4, .slice a5 8 c5, .slice a6 8 c6]) rfl rfl (by kernel_rfl) (by kernel_rfl) (by kernel_rfl) (fun _ _ _ h => h) (yieldsBuild rfl _ _ rfl _ _ (by rfl) (builtPub k a4 a5 a6 8 8 8 c4 c5 c6)) H6.out ?_
        simp only [Act.put, List.setIfInBounds_toArray, List.set_cons_zero, List.set_cons_succ]
        refine Rg.ready_one (i := 15) (by kernel_rfl) rfl rfl ?_
        obtain ⟨old, ho, hz⟩ := H6.out.out
        refine storeAt none 45 _ _ rfl rfl gz #[.int .i64 k, .slice a4 8 c4, .slice a5 8 c5, .slice a6 8 c6] rfl rfl _ _ ho infoPub (by rw [hz]; rfl) (by kernel_rfl) ?_
        obtain ⟨w9, E9⟩ : ∃ W, W = w6.setRow gz #[.int .i64 k, .slice a4 8 c4, .slice a5 8 c5, .slice a6 8 c6] := ⟨_, rfl⟩
        obtain ⟨FIN, B9, H9⟩ := copyEnd SO.out G6.out H6.out ho LZ NE.out E9
        rw [← E9]
        refine ⟨H9, ?_⟩
        simp only [Act.put, List.setIfInBounds_toArray]
        refine wpAnyH_done (by kernel_rfl) ?_ _
        clear ho hz E9 H9
        go_wp2_with fail
        refine bodyPost_ret (v := .agg #[.int .i64 k, .slice a4 8 c4, .slice a5 8 c5, .slice a6 8 c6]) ?_ rfl FIN
        exact results_cell_row Try.results75 _ _ gz _ _ _ _ rfl B9 Try.underlying45 rfl infoPub
    · refine Rg.value_at (some 13) (.slice (some ⟨w1.heap.size, 0, none⟩) 0 0) (w1.alloc (.cells #[] 4)) rfl (by go_simp) ?_
      have ga := World.grownBy_alloc w1 (.cells #[] 4) none
      have H2 := Lib.hid (H1.out.still ga)
      have G2 := Lib.hid (grown_trans G1.out ga)
      have O2 := Lib.hid (O1.out.still ga)
      clear ga
      refine ⟨H2.out, ?_⟩
      simp only [Act.put, List.setIfInBounds_toArray, List.set_cons_zero, List.set_cons_succ]
      generalize w1.alloc (.cells #[] 4) = w2 at *
      generalize w1.heap.size = e13 at *
      refine Rg.ready_one (i := 2) (by kernel_rfl) rfl rfl ?_
      refine Rg.value_at (some 5) (.slice (some ⟨w2.heap.size, 0, none⟩) 0 0) (w2.alloc (.cells #[] 3)) rfl (by go_simp) ?_
      have ga := World.grownBy_alloc w2 (.cells #[] 3) none
      have H3 := Lib.hid (H2.out.still ga)
      have G3 := Lib.hid (grown_trans G2.out ga)
      have O3 := Lib.hid (O2.out.still ga)
      clear ga
      refine ⟨H3.out, ?_⟩
      simp only [Act.put, List.setIfInBounds_toArray, List.set_cons_zero, List.set_cons_succ]
      generalize w2.alloc (.cells #[] 3) = w3 at *
      generalize w2.heap.size = e5 at *
      refine Rg.ready_one (i := 5) (by kernel_rfl) rfl rfl ?_
      obtain ⟨i0, hi, hz0, hz1, hz2⟩ := info_parts infoInt
      refine appendWp (some 8) 23 3 rfl rfl rfl rfl i0 _ Try.underlying23 hi hz0 hz1 rfl (by omega) (vals a) (by first | rw [vals_length, EA.out] | rw [vals_length, EV.out] | rw [bvals_length, EF.out]) H3.out.aR ?_
      intro u w4 ho hg
      have hg' := hg
      have H4 := Lib.hid (H3.out.still hg)
      have G4 := Lib.hid (grown_trans G3.out hg)
      have O4 := Lib.hid (O3.out.join hg (own_one (row1_own.2 (own_len' ho EA.out))) G3.out.size)
      clear ho hg hg' hi hz0 hz1 hz2
      refine ⟨H4.out, ?_⟩
      simp only [Act.put, List.setIfInBounds_toArray, List.set_cons_zero, List.set_cons_succ]
      refine Rg.ready_one (i := 9) (by kernel_rfl) rfl rfl ?_
      obtain ⟨i0, hi, hz0, hz1, hz2⟩ := info_parts infoInt
      refine appendWp (some 12) 23 3 rfl rfl rfl rfl i0 _ Try.underlying23 hi hz0 hz1 rfl (by omega) (vals v) (by first | rw [vals_length, EA.out] | rw [vals_length, EV.out] | rw [bvals_length, EF.out]) H4.out.vR ?_
      intro x w5 ho hg
      have hg' := hg
      have H5 := Lib.hid (H4.out.still hg)
      have G5 := Lib.hid (grown_trans G4.out hg)
      have O5 := Lib.hid (O4.out.join hg (own_one (row1_own.2 (own_len' ho EV.out))) G4.out.size)
      clear ho hg hg' hi hz0 hz1 hz2
      refine ⟨H5.out, ?_⟩
      simp only [Act.put, List.setIfInBounds_toArray, List.set_cons_zero, List.set_cons_succ]
      refine Rg.ready_one (i := 13) (by kernel_rfl) rfl rfl ?_
      obtain ⟨i0, hi, hz0, hz1, hz2⟩ := info_parts infoBool
      refine appendWp (some 16) 41 4 rfl rfl rfl rfl i0 _ Try.underlying41 hi hz0 hz1 rfl (by omega) (bvals f) (by first | rw [vals_length, EA.out] | rw [vals_length, EV.out] | rw [bvals_length, EF.out]) H5.out.fR ?_
      intro y w6 ho hg
      have hg' := hg
      have H6 := Lib.hid (H5.out.still hg)
      have G6 := Lib.hid (grown_trans G5.out hg)
      have O6 := Lib.hid (O5.out.join hg (own_one (bool1_own.2 (bown_len' ho EF.out))) G5.out.size)
      clear ho hg hg' hi hz0 hz1 hz2
      refine ⟨H6.out, ?_⟩
      simp only [Act.put, List.setIfInBounds_toArray, List.set_cons_zero, List.set_cons_succ]
      obtain ⟨h0, h1, h2, ab, ac, bc⟩ := own3 O6.out
      have SO : Hid (StOwn w6 w.heap.size u x y a v f) := Lib.hid (mk3 h2 h1 h0 bc.symm ac.symm ab.symm)
      clear h0 h1 h2 ab ac bc
      obtain ⟨a4, c4, e4, -, -, -⟩ := SO.out.a
      obtain ⟨a5, c5, e5, -, -, -⟩ := SO.out.v
      obtain ⟨a6, c6, e6, -, -, -⟩ := SO.out.f
      rw [EA.out] at e4
      rw [EV.out] at e5
      rw [EF.out] at e6
      subst e4 e5 e6
      refine Rg.take_ 14 (some 17) (.agg #[.int .i64 k, .slice a4 8 c4, .slice a5 8 c5, .slice a6 8 c6]) rfl rfl (by kernel_rfl) (by kernel_rfl) (by kernel_rfl) (fun _ _ _ h => h) (yieldsBuild rfl _ _ rfl _ _ (by rfl) (builtPub k a4 a5 a6 8 8 8 c4 c5 c6)) H6.out ?_
      simp only [Act.put, List.setIfInBounds_toArray, List.set_cons_zero, List.set_cons_succ]
      refine Rg.ready_one (i := 15) (by kernel_rfl) rfl rfl ?_
      obtain ⟨old, ho, hz⟩ := H6.out.out
      refine storeAt none 45 _ _ rfl rfl gz #[.int .i64 k, .slice a4 8 c4, .slice a5 8 c5, .slice a6 8 c6] rfl rfl _ _ ho infoPub (by rw [hz]; rfl) (by kernel_rfl) ?_
      obtain ⟨w9, E9⟩ : ∃ W, W = w6.setRow gz #[.int .i64 k, .slice a4 8 c4, .slice a5 8 c5, .slice a6 8 c6] := ⟨_, rfl⟩
      obtain ⟨FIN, B9, H9⟩ := copyEnd SO.out G6.out H6.out ho LZ NE.out E9
      rw [← E9]
      refine ⟨H9, ?_⟩
      simp only [Act.put, List.setIfInBounds_toArray]
      refine wpAnyH_done (by kernel_rfl) ?_ _
      clear ho hz E9 H9
      go_wp2_with fail
      refine bodyPost_ret (v := .agg #[.int .i64 k, .slice a4 8 c4, .slice a5 8 c5, .slice a6 8 c6]) ?_ rfl FIN
      exact results_cell_row Try.results75 _ _ gz _ _ _ _ rfl B9 Try.underlying45 rfl infoPub
  · refine Rg.value_at (some 13) (.slice (some ⟨w0.heap.size, 0, none⟩) 0 0) (w0.alloc (.cells #[] 4)) rfl (by go_simp) ?_
    have ga := World.grownBy_alloc w0 (.cells #[] 4) none
    have H1 := Lib.hid (H0.out.still ga)
    have G1 := Lib.hid (grown_trans G0.out ga)
    have O1 := Lib.hid (O0.out.still ga)
    clear ga
    refine ⟨H1.out, ?_⟩
    simp only [Act.put, List.setIfInBounds_toArray, List.set_cons_zero, List.set_cons_succ]
    generalize w0.alloc (.cells #[] 4) = w1 at *
    generalize w0.heap.size = e13 at *
    refine Rg.ready_two (i := 2) (k := 6) (by kernel_rfl) rfl rfl rfl rfl ?_ ?_
    · refine Rg.value_at (some 5) (.slice (some ⟨w1.heap.size, 0, none⟩) 0 0) (w1.alloc (.cells #[] 3)) rfl (by go_simp) ?_
      have ga := World.grownBy_alloc w1 (.cells #[] 3) none
      have H2 := Lib.hid (H1.out.still ga)
      have G2 := Lib.hid (grown_trans G1.out ga)
      have O2 := Lib.hid (O1.out.still ga)
      clear ga
      refine ⟨H2.out, ?_⟩
      simp only [Act.put, List.setIfInBounds_toArray, List.set_cons_zero, List.set_cons_succ]
      generalize w1.alloc (.cells #[] 3) = w2 at *
      generalize w1.heap.size = e5 at *
      refine Rg.ready_two (i := 5) (k := 6) (by kernel_rfl) rfl rfl rfl rfl ?_ ?_
      · obtain ⟨i0, hi, hz0, hz1, hz2⟩ := info_parts infoInt
        refine appendWp (some 8) 23 3 rfl rfl rfl rfl i0 _ Try.underlying23 hi hz0 hz1 rfl (by omega) (vals a) (by first | rw [vals_length, EA.out] | rw [vals_length, EV.out] | rw [bvals_length, EF.out]) H2.out.aR ?_
        intro u w3 ho hg
        have hg' := hg
        have H3 := Lib.hid (H2.out.still hg)
        have G3 := Lib.hid (grown_trans G2.out hg)
        have O3 := Lib.hid (O2.out.join hg (own_one (row1_own.2 (own_len' ho EA.out))) G2.out.size)
        clear ho hg hg' hi hz0 hz1 hz2
        refine ⟨H3.out, ?_⟩
        simp only [Act.put, List.setIfInBounds_toArray, List.set_cons_zero, List.set_cons_succ]
        refine Rg.ready_one (i := 6) (by kernel_rfl) rfl rfl ?_
        refine Rg.value_at (some 9) (.slice (some ⟨w3.heap.size, 0, none⟩) 0 0) (w3.alloc (.cells #[] 3)) rfl (by go_simp) ?_
        have ga := World.grownBy_alloc w3 (.cells #[] 3) none
        have H4 := Lib.hid (H3.out.still ga)
        have G4 := Lib.hid (grown_trans G3.out ga)
        have O4 := Lib.hid (O3.out.still ga)
        clear ga
        refine ⟨H4.out, ?_⟩
        simp only [Act.put, List.setIfInBounds_toArray, List.set_cons_zero, List.set_cons_succ]
        generalize w3.alloc (.cells #[] 3) = w4 at *
        generalize w3.heap.size = e9 at *
        refine Rg.ready_one (i := 9) (by kernel_rfl) rfl rfl ?_
        obtain ⟨i0, hi, hz0, hz1, hz2⟩ := info_parts infoInt
        refine appendWp (some 12) 23 3 rfl rfl rfl rfl i0 _ Try.underlying23 hi hz0 hz1 rfl (by omega) (vals v) (by first | rw [vals_length, EA.out] | rw [vals_length, EV.out] | rw [bvals_length, EF.out]) H4.out.vR ?_
        intro x w5 ho hg
        have hg' := hg
        have H5 := Lib.hid (H4.out.still hg)
        have G5 := Lib.hid (grown_trans G4.out hg)
        have O5 := Lib.hid (O4.out.join hg (own_one (row1_own.2 (own_len' ho EV.out))) G4.out.size)
        clear ho hg hg' hi hz0 hz1 hz2
        refine ⟨H5.out, ?_⟩
        simp only [Act.put, List.setIfInBounds_toArray, List.set_cons_zero, List.set_cons_succ]
        refine Rg.ready_one (i := 13) (by kernel_rfl) rfl rfl ?_
        obtain ⟨i0, hi, hz0, hz1, hz2⟩ := info_parts infoBool
        refine appendWp (some 16) 41 4 rfl rfl rfl rfl i0 _ Try.underlying41 hi hz0 hz1 rfl (by omega) (bvals f) (by first | rw [vals_length, EA.out] | rw [vals_length, EV.out] | rw [bvals_length, EF.out]) H5.out.fR ?_
        intro y w6 ho hg
        have hg' := hg
        have H6 := Lib.hid (H5.out.still hg)
        have G6 := Lib.hid (grown_trans G5.out hg)
        have O6 := Lib.hid (O5.out.join hg (own_one (bool1_own.2 (bown_len' ho EF.out))) G5.out.size)
        clear ho hg hg' hi hz0 hz1 hz2
        refine ⟨H6.out, ?_⟩
        simp only [Act.put, List.setIfInBounds_toArray, List.set_cons_zero, List.set_cons_succ]
        obtain ⟨h0, h1, h2, ab, ac, bc⟩ := own3 O6.out
        have SO : Hid (StOwn w6 w.heap.size u x y a v f) := Lib.hid (mk3 h2 h1 h0 bc.symm ac.symm ab.symm)
        clear h0 h1 h2 ab ac bc
        obtain ⟨a4, c4, e4, -, -, -⟩ := SO.out.a
        obtain ⟨a5, c5, e5, -, -, -⟩ := SO.out.v
        obtain ⟨a6, c6, e6, -, -, -⟩ := SO.out.f
        rw [EA.out] at e4
        rw [EV.out] at e5
        rw [EF.out] at e6
        subst e4 e5 e6
        refine Rg.take_ 14 (some 17) (.agg #[.int .i64 k, .slice a4 8 c4, .slice a5 8 c5, .slice a6 8 c6]) rfl rfl (by kernel_rfl) (by kernel_rfl) (by kernel_rfl) (fun _ _ _ h => h) (yieldsBuild rfl _ _ rfl _ _ (by rfl) (builtPub k a4 a5 a6 8 8 8 c4 c5 c6)) H6.out ?_
        simp only [Act.put, List.setIfInBounds_toArray, List.set_cons_zero, List.set_cons_succ]
        refine Rg.ready_one (i := 15) (by kernel_rfl) rfl rfl ?_
        obtain ⟨old, ho, hz⟩ := H6.out.out
        refine storeAt none 45 _ _ rfl rfl gz #[.int .i64 k, .slice a4 8 c4, .slice a5 8 c5, .slice a6 8 c6] rfl rfl _ _ ho infoPub (by rw [hz]; rfl) (by kernel_rfl) ?_
        obtain ⟨w9, E9⟩ : ∃ W, W = w6.setRow gz #[.int .i64 k, .slice a4 8 c4, .slice a5 8 c5, .slice a6 8 c6] := ⟨_, rfl⟩
        obtain ⟨FIN, B9, H9⟩ := copyEnd SO.out G6.out H6.out ho LZ NE.out E9
        rw [← E9]
        refine ⟨H9, ?_⟩
        simp only [Act.put, List.setIfInBounds_toArray]
        refine wpAnyH_done (by kernel_rfl) ?_ _
        clear ho hz E9 H9
        go_wp2_with fail
        refine bodyPost_ret (v := .agg #[.int .i64 k, .slice a4 8 c4, .slice a5 8 c5, .slice a6 8 c6]) ?_ rfl FIN
        exact results_cell_row Try.results75 _ _ gz _ _ _ _ rfl B9 Try.underlying45 rfl infoPub
      · refine Rg.value_at (some 9) (.slice (some ⟨w2.heap.size, 0, none⟩) 0 0) (w2.alloc (.cells #[] 3)) rfl (by go_simp) ?_
        have ga := World.grownBy_alloc w2 (.cells #[] 3) none
        have H3 := Lib.hid (H2.out.still ga)
        have G3 := Lib.hid (grown_trans G2.out ga)
        have O3 := Lib.hid (O2.out.still ga)
        clear ga
        refine ⟨H3.out, ?_⟩
        simp only [Act.put, List.setIfInBounds_toArray, List.set_cons_zero, List.set_cons_succ]
        generalize w2.alloc (.cells #[] 3) = w3 at *
        generalize w2.heap.size = e9 at *
        refine Rg.ready_one (i := 5) (by kernel_rfl) rfl rfl ?_
        obtain ⟨i0, hi, hz0, hz1, hz2⟩ := info_parts infoInt
        refine appendWp (some 8) 23 3 rfl rfl rfl rfl i0 _ Try.underlying23 hi hz0 hz1 rfl (by omega) (vals a) (by first | rw [vals_length, EA.out] | rw [vals_length, EV.out] | rw [bvals_length, EF.out]) H3.out.aR ?_
        intro u w4 ho hg
        have hg' := hg
        have H4 := Lib.hid (H3.out.still hg)
        have G4 := Lib.hid (grown_trans G3.out hg)
        have O4 := Lib.hid (O3.out.join hg (own_one (row1_own.2 (own_len' ho EA.out))) G3.out.size)
        clear ho hg hg' hi hz0 hz1 hz2
        refine ⟨H4.out, ?_⟩
        simp only [Act.put, List.setIfInBounds_toArray, List.set_cons_zero, List.set_cons_succ]
        refine Rg.ready_one (i := 9) (by kernel_rfl) rfl rfl ?_
        obtain ⟨i0, hi, hz0, hz1, hz2⟩ := info_parts infoInt
        refine appendWp (some 12) 23 3 rfl rfl rfl rfl i0 _ Try.underlying23 hi hz0 hz1 rfl (by omega) (vals v) (by first | rw [vals_length, EA.out] | rw [vals_length, EV.out] | rw [bvals_length, EF.out]) H4.out.vR ?_
        intro x w5 ho hg
        have hg' := hg
        have H5 := Lib.hid (H4.out.still hg)
        have G5 := Lib.hid (grown_trans G4.out hg)
        have O5 := Lib.hid (O4.out.join hg (own_one (row1_own.2 (own_len' ho EV.out))) G4.out.size)
        clear ho hg hg' hi hz0 hz1 hz2
        refine ⟨H5.out, ?_⟩
        simp only [Act.put, List.setIfInBounds_toArray, List.set_cons_zero, List.set_cons_succ]
        refine Rg.ready_one (i := 13) (by kernel_rfl) rfl rfl ?_
        obtain ⟨i0, hi, hz0, hz1, hz2⟩ := info_parts infoBool
        refine appendWp (some 16) 41 4 rfl rfl rfl rfl i0 _ Try.underlying41 hi hz0 hz1 rfl (by omega) (bvals f) (by first | rw [vals_length, EA.out] | rw [vals_length, EV.out] | rw [bvals_length, EF.out]) H5.out.fR ?_
        intro y w6 ho hg
        have hg' := hg
        have H6 := Lib.hid (H5.out.still hg)
        have G6 := Lib.hid (grown_trans G5.out hg)
        have O6 := Lib.hid (O5.out.join hg (own_one (bool1_own.2 (bown_len' ho EF.out))) G5.out.size)
        clear ho hg hg' hi hz0 hz1 hz2
        refine ⟨H6.out, ?_⟩
        simp only [Act.put, List.setIfInBounds_toArray, List.set_cons_zero, List.set_cons_succ]
        obtain ⟨h0, h1, h2, ab, ac, bc⟩ := own3 O6.out
        have SO : Hid (StOwn w6 w.heap.size u x y a v f) := Lib.hid (mk3 h2 h1 h0 bc.symm ac.symm ab.symm)
        clear h0 h1 h2 ab ac bc
        obtain ⟨a4, c4, e4, -, -, -⟩ := SO.out.a
        obtain ⟨a5, c5, e5, -, -, -⟩ := SO.out.v
        obtain ⟨a6, c6, e6, -, -, -⟩ := SO.out.f
        rw [EA.out] at e4
        rw [EV.out] at e5
        rw [EF.out] at e6
        subst e4 e5 e6
        refine Rg.take_ 14 (some 17) (.agg #[.int .i64 k, .slice a4 8 c4, .slice a5 8 c5, .slice a6 8 c6]) rfl rfl (by kernel_rfl) (by kernel_rfl) (by kernel_rfl) (fun _ _ _ h => h) (yieldsBuild rfl _ _ rfl _ _ (by rfl) (builtPub k a4 a5 a6 8 8 8 c4 c5 c6)) H6.out ?_
        simp only [Act.put, List.setIfInBounds_toArray, List.set_cons_zero, List.set_cons_succ]
        refine Rg.ready_one (i := 15) (by kernel_rfl) rfl rfl ?_
        obtain ⟨old, ho, hz⟩ := H6.out.out
        refine storeAt none 45 _ _ rfl rfl gz #[.int .i64 k, .slice a4 8 c4, .slice a5 8 c5, .slice a6 8 c6] rfl rfl _ _ ho infoPub (by rw [hz]; rfl) (by kernel_rfl) ?_
        obtain ⟨w9, E9⟩ : ∃ W, W = w6.setRow gz #[.int .i64 k, .slice a4 8 c4, .slice a5 8 c5, .slice a6 8 c6] := ⟨_, rfl⟩
        obtain ⟨FIN, B9, H9⟩ := copyEnd SO.out G6.out H6.out ho LZ NE.out E9
        rw [← E9]
        refine ⟨H9, ?_⟩
        simp only [Act.put, List.setIfInBounds_toArray]
        refine wpAnyH_done (by kernel_rfl) ?_ _
        clear ho hz E9 H9
        go_wp2_with fail
        refine bodyPost_ret (v := .agg #[.int .i64 k, .slice a4 8 c4, .slice a5 8 c5, .slice a6 8 c6]) ?_ rfl FIN
        exact results_cell_row Try.results75 _ _ gz _ _ _ _ rfl B9 Try.underlying45 rfl infoPub
    · refine Rg.value_at (some 9) (.slice (some ⟨w1.heap.size, 0, none⟩) 0 0) (w1.alloc (.cells #[] 3)) rfl (by go_simp) ?_
      have ga := World.grownBy_alloc w1 (.cells #[] 3) none
      have H2 := Lib.hid (H1.out.still ga)
      have G2 := Lib.hid (grown_trans G1.out ga)
      have O2 := Lib.hid (O1.out.still ga)
      clear ga
      refine ⟨H2.out, ?_⟩
      simp only [Act.put, List.setIfInBounds_toArray, List.set_cons_zero, List.set_cons_succ]
      generalize w1.alloc (.cells #[] 3) = w2 at *
      generalize w1.heap.size = e9 at *
      refine Rg.ready_one (i := 2) (by kernel_rfl) rfl rfl ?_
      refine Rg.value_at (some 5) (.slice (some ⟨w2.heap.size, 0, none⟩) 0 0) (w2.alloc (.cells #[] 3)) rfl (by go_simp) ?_
      have ga := World.grownBy_alloc w2 (.cells #[] 3) none
      have H3 := Lib.hid (H2.out.still ga)
      have G3 := Lib.hid (grown_trans G2.out ga)
      have O3 := Lib.hid (O2.out.still ga)
      clear ga
      refine ⟨H3.out, ?_⟩
      simp only [Act.put, List.setIfInBounds_toArray, List.set_cons_zero, List.set_cons_succ]
      generalize w2.alloc (.cells #[] 3) = w3 at *
      generalize w2.heap.size = e5 at *
      refine Rg.ready_one (i := 5) (by kernel_rfl) rfl rfl ?_
      obtain ⟨i0, hi, hz0, hz1, hz2⟩ := info_parts infoInt
      refine appendWp (some 8) 23 3 rfl rfl rfl rfl i0 _ Try.underlying23 hi hz0 hz1 rfl (by omega) (vals a) (by first | rw [vals_length, EA.out] | rw [vals_length, EV.out] | rw [bvals_length, EF.out]) H3.out.aR ?_
      intro u w4 ho hg
      have hg' := hg
      have H4 := Lib.hid (H3.out.still hg)
      have G4 := Lib.hid (grown_trans G3.out hg)
      have O4 := Lib.hid (O3.out.join hg (own_one (row1_own.2 (own_len' ho EA.out))) G3.out.size)
      clear ho hg hg' hi hz0 hz1 hz2
      refine ⟨H4.out, ?_⟩
      simp only [Act.put, List.setIfInBounds_toArray, List.set_cons_zero, List.set_cons_succ]
      refine Rg.ready_one (i := 9) (by kernel_rfl) rfl rfl ?_
      obtain ⟨i0, hi, hz0, hz1, hz2⟩ := info_parts infoInt
      refine appendWp (some 12) 23 3 rfl rfl rfl rfl i0 _ Try.underlying23 hi hz0 hz1 rfl (by omega) (vals v) (by first | rw [vals_length, EA.out] | rw [vals_length, EV.out] | rw [bvals_length, EF.out]) H4.out.vR ?_
      intro x w5 ho hg
      have hg' := hg
      have H5 := Lib.hid (H4.out.still hg)
      have G5 := Lib.hid (grown_trans G4.out hg)
      have O5 := Lib.hid (O4.out.join hg (own_one (row1_own.2 (own_len' ho EV.out))) G4.out.size)
      clear ho hg hg' hi hz0 hz1 hz2
      refine ⟨H5.out, ?_⟩
      simp only [Act.put, List.setIfInBounds_toArray, List.set_cons_zero, List.set_cons_succ]
      refine Rg.ready_one (i := 13) (by kernel_rfl) rfl rfl ?_
      obtain ⟨i0, hi, hz0, hz1, hz2⟩ := info_parts infoBool
      refine appendWp (some 16) 41 4 rfl rfl rfl rfl i0 _ Try.underlying41 hi hz0 hz1 rfl (by omega) (bvals f) (by first | rw [vals_length, EA.out] | rw [vals_length, EV.out] | rw [bvals_length, EF.out]) H5.out.fR ?_
      intro y w6 ho hg
      have hg' := hg
      have H6 := Lib.hid (H5.out.still hg)
      have G6 := Lib.hid (grown_trans G5.out hg)
      have O6 := Lib.hid (O5.out.join hg (own_one (bool1_own.2 (bown_len' ho EF.out))) G5.out.size)
      clear ho hg hg' hi hz0 hz1 hz2
      refine ⟨H6.out, ?_⟩
      simp only [Act.put, List.setIfInBounds_toArray, List.set_cons_zero, List.set_cons_succ]
      obtain ⟨h0, h1, h2, ab, ac, bc⟩ := own3 O6.out
      have SO : Hid (StOwn w6 w.heap.size u x y a v f) := Lib.hid (mk3 h2 h1 h0 bc.symm ac.symm ab.symm)
      clear h0 h1 h2 ab ac bc
      obtain ⟨a4, c4, e4, -, -, -⟩ := SO.out.a
      obtain ⟨a5, c5, e5, -, -, -⟩ := SO.out.v
      obtain ⟨a6, c6, e6, -, -, -⟩ := SO.out.f
      rw [EA.out] at e4
      rw [EV.out] at e5
      rw [EF.out] at e6
      subst e4 e5 e6
      refine Rg.take_ 14 (some 17) (.agg #[.int .i64 k, .slice a4 8 c4, .slice a5 8 c5, .slice a6 8 c6]) rfl rfl (by kernel_rfl) (by kernel_rfl) (by kernel_rfl) (fun _ _ _ h => h) (yieldsBuild rfl _ _ rfl _ _ (by rfl) (builtPub k a4 a5 a6 8 8 8 c4 c5 c6)) H6.out ?_
      simp only [Act.put, List.setIfInBounds_toArray, List.set_cons_zero, List.set_cons_succ]
      refine Rg.ready_one (i := 15) (by kernel_rfl) rfl rfl ?_
      obtain ⟨old, ho, hz⟩ := H6.out.out
      refine storeAt none 45 _ _ rfl rfl gz #[.int .i64 k, .slice a4 8 c4, .slice a5 8 c5, .slice a6 8 c6] rfl rfl _ _ ho infoPub (by rw [hz]; rfl) (by kernel_rfl) ?_
      obtain ⟨w9, E9⟩ : ∃ W, W = w6.setRow gz #[.int .i64 k, .slice a4 8 c4, .slice a5 8 c5, .slice a6 8 c6] := ⟨_, rfl⟩
      obtain ⟨FIN, B9, H9⟩ := copyEnd SO.out G6.out H6.out ho LZ NE.out E9
      rw [← E9]
      refine ⟨H9, ?_⟩
      simp only [Act.put, List.setIfInBounds_toArray]
      refine wpAnyH_done (by kernel_rfl) ?_ _
      clear ho hz E9 H9
      go_wp2_with fail
      refine bodyPost_ret (v := .agg #[.int .i64 k, .slice a4 8 c4, .slice a5 8 c5, .slice a6 8 c6]) ?_ rfl FIN
      exact results_cell_row Try.results75 _ _ gz _ _ _ _ rfl B9 Try.underlying45 rfl infoPub
end Go.Proofs.Ythglkgicckodaaa
