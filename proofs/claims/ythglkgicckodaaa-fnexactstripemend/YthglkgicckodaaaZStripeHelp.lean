/-
  What this claim wants of the texts of earlier chapters.
  Conditions: none.
-/
import Derived.Test.YthglkgicckodaaaZStripePub
import Derived.Test.YthglkgicckodaaaZG3
namespace Go.Proofs.Ythglkgicckodaaa
open Go.RowKit Go.Shelf
set_option linter.unusedVariables false
set_option linter.unusedSimpArgs false
set_option maxHeartbeats 400000 in
set_option maxRecDepth 20000 in
theorem szBools (v : Value) (l : List Bool) (k : Int) (w : World) (h : Bl w v l) (k0 : 0 ≤ k) (k1 : k ≤ 1048576) :
    Calls Try.prog 56 #[v, .int .i64 k] w fun e w' => e = .returned (.int .i64 (if k - l.length < 0 then -1 else k - l.length)) ∧ w = w' := by
  obtain ⟨a, cap, rfl, hlc, hcm, hr⟩ := h
  clear hr
  unfold maxLen at hcm
  by_cases hb : k - (l.length : Int) < 0
  · rw [if_pos hb]
    go_enter Try.func56, Try.ntmps56
    go_wp2_with fail
    go_ret
    exact ⟨rfl, rfl⟩
  · rw [if_neg hb]
    go_enter Try.func56, Try.ntmps56
    go_wp2_with fail
    go_ret
    exact ⟨rfl, rfl⟩
set_option maxHeartbeats 4000000 in
set_option maxRecDepth 20000 in
theorem szStripe (k : Int) (u x y : Value) (a v : List Int) (f : List Bool) (w : World) (hu : Sl w u a) (hx : Sl w x v) (hy : Bl w y f) :
    Calls Try.prog 23 #[.agg #[.int .i64 k, u, x, y], .int .i64 1048576] w fun e w' => (∃ q : Int, e = .returned (.int .i64 q) ∧ (q < 0 ∨ (0 ≤ q ∧ a.length ≤ 1048576 ∧ v.length ≤ 1048576 ∧ f.length ≤ 1048576))) ∧ w.grownBy w' none := by
  have U := Lib.hid hu
  have X := Lib.hid hx
  have Y := Lib.hid hy
  obtain ⟨a1, c1, e1, -, -, -⟩ := hu
  obtain ⟨a2, c2, e2, -, -, -⟩ := hx
  obtain ⟨a3, c3, e3, -, -, -⟩ := hy
  subst e1 e2 e3
  obtain ⟨l1, hl1⟩ : ∃ n, n = a.length := ⟨_, rfl⟩
  obtain ⟨l2, hl2⟩ : ∃ n, n = v.length := ⟨_, rfl⟩
  obtain ⟨l3, hl3⟩ : ∃ n, n = f.length := ⟨_, rfl⟩
  rw [← hl1] at U ⊢
  rw [← hl2] at X ⊢
  rw [← hl3] at Y ⊢
  have NL1 := Lib.hid hl1
  have NL2 := Lib.hid hl2
  have NL3 := Lib.hid hl3
  clear hl1 hl2 hl3
  have K0 : Hid (Blk (w.alloc (.cells #[.int .i64 k, .slice a1 l1 c1, .slice a2 l2 c2, .slice a3 l3 c3] 43)) w.heap.size 43 [.int .i64 k, .slice a1 l1 c1, .slice a2 l2 c2, .slice a3 l3 c3]) := Lib.hid (heap_alloc_new _ _)
  have G0 := Lib.hid (World.grownBy_alloc w (.cells #[.int .i64 k, .slice a1 l1 c1, .slice a2 l2 c2, .slice a3 l3 c3] 43) none)
  go_enter Try.func23, Try.ntmps23
  go_upto_region 1 with fail
  generalize w.alloc (.cells #[.int .i64 k, .slice a1 l1 c1, .slice a2 l2 c2, .slice a3 l3 c3] 43) = w0 at *
  generalize w.heap.size = bp at *
  have k1 := K0.out.cell (i := 1) rfl
  have k2 := K0.out.cell (i := 2) rfl
  have k3 := K0.out.cell (i := 3) rfl
  go_wp2_with fail
  refine (szIntS _ a 1048576 _ (U.out.grown G0.out) (by omega) (by omega)).mono ?_
  rintro e w' ⟨rfl, rfl⟩
  rw [← NL1.out]
  by_cases h1 : (1048576 : Int) - l1 < 0
  · rw [if_pos h1]
    go_wp2_with fail
    go_ret
    exact ⟨⟨-1, rfl, .inl (by omega)⟩, G0.out⟩
  · rw [if_neg h1]
    go_wp2_with fail
    refine (szIntS _ v (1048576 - l1) _ (X.out.grown G0.out) (by omega) (by omega)).mono ?_
    rintro e w' ⟨rfl, rfl⟩
    rw [← NL2.out]
    by_cases h2 : (1048576 : Int) - l1 - l2 < 0
    · rw [if_pos h2]
      go_wp2_with fail
      go_ret
      exact ⟨⟨-1, rfl, .inl (by omega)⟩, G0.out⟩
    · rw [if_neg h2]
      go_wp2_with fail
      refine (szBools _ f (1048576 - l1 - l2) _ (Y.out.grown G0.out) (by omega) (by omega)).mono ?_
      rintro e w' ⟨rfl, rfl⟩
      rw [← NL3.out]
      by_cases h3 : (1048576 : Int) - l1 - l2 - l3 < 0
      · rw [if_pos h3]
        go_wp2_with fail
        go_ret
        exact ⟨⟨-1, rfl, .inl (by omega)⟩, G0.out⟩
      · rw [if_neg h3]
        go_wp2_with fail
        go_ret
        exact ⟨⟨_, rfl, .inr ⟨by omega, by omega, by omega, by omega⟩⟩, G0.out⟩
set_option maxHeartbeats 4000000 in
set_option maxRecDepth 20000 in
theorem eqStripeSame (k : Int) (u x y u' x' y' : Value) (a v : List Int) (f : List Bool) (w : World) (hu : Sl w u a) (hx : Sl w x v) (hy : Bl w y f) (hu' : Sl w u' a) (hx' : Sl w x' v) (hy' : Bl w y' f) :
    Calls Try.prog 27 #[.agg #[.int .i64 k, u, x, y], .agg #[.int .i64 k, u', x', y']] w fun e w' => e = .returned (.bool true) ∧ w.grownBy w' none := by
  have U := Lib.hid hu
  have X := Lib.hid hx
  have Y := Lib.hid hy
  have U' := Lib.hid hu'
  have X' := Lib.hid hx'
  have Y' := Lib.hid hy'
  obtain ⟨a1, c1, e1, -, -, -⟩ := hu
  obtain ⟨a2, c2, e2, -, -, -⟩ := hx
  obtain ⟨a3, c3, e3, -, -, -⟩ := hy
  obtain ⟨a4, c4, e4, -, -, -⟩ := hu'
  obtain ⟨a5, c5, e5, -, -, -⟩ := hx'
  obtain ⟨a6, c6, e6, -, -, -⟩ := hy'
  subst e1 e2 e3 e4 e5 e6
  obtain ⟨l1, hl1⟩ : ∃ n, n = a.length := ⟨_, rfl⟩
  obtain ⟨l2, hl2⟩ : ∃ n, n = v.length := ⟨_, rfl⟩
  obtain ⟨l3, hl3⟩ : ∃ n, n = f.length := ⟨_, rfl⟩
  rw [← hl1] at U U' ⊢
  rw [← hl2] at X X' ⊢
  rw [← hl3] at Y Y' ⊢
  clear hl1 hl2 hl3
  have A0 : Hid (Blk ((w.alloc (.cells #[.int .i64 k, .slice a1 l1 c1, .slice a2 l2 c2, .slice a3 l3 c3] 45)).alloc (.cells #[.int .i64 k, .slice a4 l1 c4, .slice a5 l2 c5, .slice a6 l3 c6] 45)) w.heap.size 45 [.int .i64 k, .slice a1 l1 c1, .slice a2 l2 c2, .slice a3 l3 c3]) := Lib.hid (by
    have h : Blk (w.alloc (.cells #[.int .i64 k, .slice a1 l1 c1, .slice a2 l2 c2, .slice a3 l3 c3] 45)) w.heap.size 45 [.int .i64 k, .slice a1 l1 c1, .slice a2 l2 c2, .slice a3 l3 c3] := heap_alloc_new _ _
    exact h.kept (World.grownBy_alloc _ _ none) (by simp))
  have B0 : Hid (Blk ((w.alloc (.cells #[.int .i64 k, .slice a1 l1 c1, .slice a2 l2 c2, .slice a3 l3 c3] 45)).alloc (.cells #[.int .i64 k, .slice a4 l1 c4, .slice a5 l2 c5, .slice a6 l3 c6] 45)) (w.heap.size + 1) 45 [.int .i64 k, .slice a4 l1 c4, .slice a5 l2 c5, .slice a6 l3 c6]) := Lib.hid (by
    have h := heap_alloc_new (w.alloc (.cells #[.int .i64 k, .slice a1 l1 c1, .slice a2 l2 c2, .slice a3 l3 c3] 45)) (.cells #[.int .i64 k, .slice a4 l1 c4, .slice a5 l2 c5, .slice a6 l3 c6] 45)
    rw [World.size_alloc] at h
    exact h)
  have G0 := Lib.hid (grown_alloc (World.grownBy_alloc w (.cells #[.int .i64 k, .slice a1 l1 c1, .slice a2 l2 c2, .slice a3 l3 c3] 45) none) (.cells #[.int .i64 k, .slice a4 l1 c4, .slice a5 l2 c5, .slice a6 l3 c6] 45))
  have hkk : (k != k) = false := by simp
  have hke : (k == k) = true := by simp
  go_enter Try.func27, Try.ntmps27
  go_upto_region 1 with fail
  generalize (w.alloc (.cells #[.int .i64 k, .slice a1 l1 c1, .slice a2 l2 c2, .slice a3 l3 c3] 45)).alloc (.cells #[.int .i64 k, .slice a4 l1 c4, .slice a5 l2 c5, .slice a6 l3 c6] 45) = W0 at *
  obtain ⟨g, hg⟩ : ∃ g, g = w.heap.size := ⟨_, rfl⟩
  obtain ⟨h, hh⟩ : ∃ g, g = w.heap.size + 1 := ⟨_, rfl⟩
  rw [← hg] at A0
  rw [← hh] at B0
  rw [← hh, ← hg]
  clear hg hh
  have p0 := A0.out.cell (i := 0) rfl
  have p1 := A0.out.cell (i := 1) rfl
  have p2 := A0.out.cell (i := 2) rfl
  have p3 := A0.out.cell (i := 3) rfl
  have r0 := B0.out.cell (i := 0) rfl
  have r1 := B0.out.cell (i := 1) rfl
  have r2 := B0.out.cell (i := 2) rfl
  have r3 := B0.out.cell (i := 3) rfl
  go_wp2_with fail
  refine (eqSame _ _ a _ (U.out.grown G0.out) (U'.out.grown G0.out)).mono ?_
  rintro e w1 ⟨rfl, hg⟩
  have G1 := Lib.hid (grown_trans G0.out hg)
  have A1 := Lib.hid (A0.out.kept hg (by simp))
  have B1 := Lib.hid (B0.out.kept hg (by simp))
  clear hg G0 A0 B0 p0 p1 p2 p3 r0 r1 r2 r3
  have p2 := A1.out.cell (i := 2) rfl
  have p3 := A1.out.cell (i := 3) rfl
  have r2 := B1.out.cell (i := 2) rfl
  have r3 := B1.out.cell (i := 3) rfl
  go_wp2_with fail
  refine (eqSame _ _ v _ (X.out.grown G1.out) (X'.out.grown G1.out)).mono ?_
  rintro e w2 ⟨rfl, hg⟩
  have G2 := Lib.hid (grown_trans G1.out hg)
  have A2 := Lib.hid (A1.out.kept hg (by simp))
  have B2 := Lib.hid (B1.out.kept hg (by simp))
  clear hg G1 A1 B1 p2 p3 r2 r3
  have p3 := A2.out.cell (i := 3) rfl
  have r3 := B2.out.cell (i := 3) rfl
  go_wp2_with fail
  refine (eqSameB _ _ f _ (Y.out.grown G2.out) (Y'.out.grown G2.out)).mono ?_
  rintro e w3 ⟨rfl, hg⟩
  have G3 := Lib.hid (grown_trans G2.out hg)
  clear hg
  go_wp2_with fail
  go_ret
  exact ⟨rfl, G3.out⟩
structure StCopying (s : Nat) (src cur : List Value) (w : World) : Prop where
  src : Blk w s 43 src
  res : Blk w (s + 1) 45 [.int .i64 0, .slice none 0 0, .slice none 0 0, .slice none 0 0]
  cur : Blk w (s + 2) 45 cur
  size : s + 3 ≤ w.heap.size
theorem StCopying.still {s : Nat} {src cur : List Value} {w w' : World} (h : StCopying s src cur w) (hg : w.grownBy w' none) : StCopying s src cur w' :=
  ⟨h.src.kept hg (by simp), h.res.kept hg (by simp), h.cur.kept hg (by simp), Nat.le_trans h.size hg.size⟩
theorem StCopying.put {s : Nat} {src cur : List Value} {w : World} (h : StCopying s src cur w) (i : Nat) (u : Value) : StCopying s src (cur.set i u) (w.setCell ⟨s + 2, i, none⟩ u) :=
  ⟨(Below.heap_setCell _ _ _ _ (by simp)).trans h.src, (Below.heap_setCell _ _ _ _ (by simp)).trans h.res, h.cur.put i u, by simpa using h.size⟩
theorem own_put {w : World} {s i : Nat} {u : Value} {x : Item} (h : x.Own w (s + 3)) : x.Own (w.setCell ⟨s + 2, i, none⟩ u) (s + 3) :=
  World.ownsRow.kept h (grownCell w _ u) (by
    rcases h.2 with ⟨h0, _⟩ | ⟨g, cap, cur, h0, hb, _⟩
    · left; rw [h0]; rfl
    · right
      rw [h0]
      intro e
      injection e with e
      have : g = s + 2 := e
      omega)
theorem all_put {w : World} {s i : Nat} {u : Value} {L : List Item} (h : OwnAll w (s + 3) L) : OwnAll (w.setCell ⟨s + 2, i, none⟩ u) (s + 3) L := ⟨fun x hx => own_put (h.1 x hx), h.2⟩
set_option maxHeartbeats 8000000 in
set_option maxRecDepth 20000 in
theorem toStripe (k : Int) (u x y : Value) (a v : List Int) (f : List Bool) (w : World) (hu : Sl w u a) (hx : Sl w x v) (hy : Bl w y f) (h1 : a.length ≤ 1048576) (h2 : v.length ≤ 1048576) (h3 : f.length ≤ 1048576) :
    Calls Try.prog 25 #[.agg #[.int .i64 k, u, x, y]] w (NewSt k a v f w) := by
  have U := Lib.hid hu
  have X := Lib.hid hx
  have Y := Lib.hid hy
  obtain ⟨a1, c1, e1, -, -, -⟩ := hu
  obtain ⟨a2, c2, e2, -, -, -⟩ := hx
  obtain ⟨a3, c3, e3, -, -, -⟩ := hy
  subst e1 e2 e3
  obtain ⟨l1, hl1⟩ : ∃ n, n = a.length := ⟨_, rfl⟩
  obtain ⟨l2, hl2⟩ : ∃ n, n = v.length := ⟨_, rfl⟩
  obtain ⟨l3, hl3⟩ : ∃ n, n = f.length := ⟨_, rfl⟩
  rw [← hl1] at U ⊢
  rw [← hl2] at X ⊢
  rw [← hl3] at Y ⊢
  have NL1 := Lib.hid hl1
  have NL2 := Lib.hid hl2
  have NL3 := Lib.hid hl3
  clear hl1 hl2 hl3
  have C0 : Hid (StCopying w.heap.size [.int .i64 k, .slice a1 l1 c1, .slice a2 l2 c2, .slice a3 l3 c3] [.int .i64 0, .slice none 0 0, .slice none 0 0, .slice none 0 0] (((w.alloc (.cells #[.int .i64 k, .slice a1 l1 c1, .slice a2 l2 c2, .slice a3 l3 c3] 43)).alloc (.cells #[.int .i64 0, .slice none 0 0, .slice none 0 0, .slice none 0 0] 45)).alloc (.cells #[.int .i64 0, .slice none 0 0, .slice none 0 0, .slice none 0 0] 45))) := Lib.hid (by
    have b1 : Blk (w.alloc (.cells #[.int .i64 k, .slice a1 l1 c1, .slice a2 l2 c2, .slice a3 l3 c3] 43)) w.heap.size 43 [.int .i64 k, .slice a1 l1 c1, .slice a2 l2 c2, .slice a3 l3 c3] := heap_alloc_new _ _
    have b2 := heap_alloc_new (w.alloc (.cells #[.int .i64 k, .slice a1 l1 c1, .slice a2 l2 c2, .slice a3 l3 c3] 43)) (.cells #[.int .i64 0, .slice none 0 0, .slice none 0 0, .slice none 0 0] 45)
    have b3 := heap_alloc_new ((w.alloc (.cells #[.int .i64 k, .slice a1 l1 c1, .slice a2 l2 c2, .slice a3 l3 c3] 43)).alloc (.cells #[.int .i64 0, .slice none 0 0, .slice none 0 0, .slice none 0 0] 45)) (.cells #[.int .i64 0, .slice none 0 0, .slice none 0 0, .slice none 0 0] 45)
    rw [World.size_alloc] at b2
    rw [World.size_alloc, World.size_alloc] at b3
    have b2' : Blk ((w.alloc (.cells #[.int .i64 k, .slice a1 l1 c1, .slice a2 l2 c2, .slice a3 l3 c3] 43)).alloc (.cells #[.int .i64 0, .slice none 0 0, .slice none 0 0, .slice none 0 0] 45)) (w.heap.size + 1) 45 [.int .i64 0, .slice none 0 0, .slice none 0 0, .slice none 0 0] := b2
    exact ⟨(b1.kept (World.grownBy_alloc _ _ none) (by simp)).kept (World.grownBy_alloc _ _ none) (by simp), b2'.kept (World.grownBy_alloc _ _ none) (by simp), b3, by simp⟩)
  have G0 : Hid (w.grownBy (((w.alloc (.cells #[.int .i64 k, .slice a1 l1 c1, .slice a2 l2 c2, .slice a3 l3 c3] 43)).alloc (.cells #[.int .i64 0, .slice none 0 0, .slice none 0 0, .slice none 0 0] 45)).alloc (.cells #[.int .i64 0, .slice none 0 0, .slice none 0 0, .slice none 0 0] 45)) none) := Lib.hid (grown_alloc (grown_alloc (grown_alloc (World.grownBy.refl _ _) _) _) _)
  have LE := Nat.le_refl w.heap.size
  go_enter Try.func25, Try.ntmps25
  go_upto_region 2 with fail
  generalize (((w.alloc (.cells #[.int .i64 k, .slice a1 l1 c1, .slice a2 l2 c2, .slice a3 l3 c3] 43)).alloc (.cells #[.int .i64 0, .slice none 0 0, .slice none 0 0, .slice none 0 0] 45)).alloc (.cells #[.int .i64 0, .slice none 0 0, .slice none 0 0, .slice none 0 0] 45)) = w0 at *
  obtain ⟨s, hs⟩ : ∃ s, s = w.heap.size := ⟨_, rfl⟩
  rw [← hs] at C0 ⊢
  have BS : w.heap.size ≤ s := by omega
  have SE := Lib.hid hs
  clear hs LE
  have k0 := C0.out.src.cell (i := 0) rfl
  have b0 := C0.out.cur.cell (i := 0) rfl
  have f0 := C0.out.cur.frozen 0
  have C1 : Hid (StCopying s [.int .i64 k, .slice a1 l1 c1, .slice a2 l2 c2, .slice a3 l3 c3] [.int .i64 k, .slice none 0 0, .slice none 0 0, .slice none 0 0] (w0.setCell ⟨s + 2, 0, none⟩ (.int .i64 k))) := Lib.hid (C0.out.put 0 (.int .i64 k))
  have G1 : Hid (w.grownBy (w0.setCell ⟨s + 2, 0, none⟩ (.int .i64 k)) none) := Lib.hid (grown_set G0.out (by rw [SE.out]; simp) _)
  go_upto_region 3 with fail
  clear k0 b0 f0 C0 G0
  generalize w0.setCell ⟨s + 2, 0, none⟩ (.int .i64 k) = w1 at *
  have k1 := C1.out.src.cell (i := 1) rfl
  go_wp2_with fail
  refine (toIntS _ a _ (U.out.grown G1.out) h1).mono ?_
  rintro e w2 ⟨p, rfl, hg, ho⟩
  obtain ⟨b1, d1, ep, -, -, -⟩ := ho.sl
  rw [← NL1.out] at ep
  subst ep
  have C2 := Lib.hid (C1.out.still hg)
  have O2 := Lib.hid ((own_one (row1_own.2 ho)).lower C1.out.size)
  have G2 := Lib.hid (grown_trans G1.out hg)
  clear hg ho C1 G1 k1
  have b1' := C2.out.cur.cell (i := 1) rfl
  have f1 := C2.out.cur.frozen 1
  have C3 : Hid (StCopying s [.int .i64 k, .slice a1 l1 c1, .slice a2 l2 c2, .slice a3 l3 c3] [.int .i64 k, .slice b1 l1 d1, .slice none 0 0, .slice none 0 0] (w2.setCell ⟨s + 2, 1, none⟩ (.slice b1 l1 d1))) := Lib.hid (C2.out.put 1 _)
  have O3 : Hid (OwnAll (w2.setCell ⟨s + 2, 1, none⟩ (.slice b1 l1 d1)) (s + 3) [row1 (.slice b1 l1 d1) a]) := Lib.hid (all_put O2.out)
  have G3 : Hid (w.grownBy (w2.setCell ⟨s + 2, 1, none⟩ (.slice b1 l1 d1)) none) := Lib.hid (grown_set G2.out (by rw [SE.out]; simp) _)
  go_upto_region 4 with fail
  clear b1' f1 C2 O2 G2
  generalize w2.setCell ⟨s + 2, 1, none⟩ (.slice b1 l1 d1) = w3 at *
  have k2 := C3.out.src.cell (i := 2) rfl
  go_wp2_with fail
  refine (toIntS _ v _ (X.out.grown G3.out) h2).mono ?_
  rintro e w4 ⟨p, rfl, hg, ho⟩
  obtain ⟨b2, d2, ep, -, -, -⟩ := ho.sl
  rw [← NL2.out] at ep
  subst ep
  have C4 := Lib.hid (C3.out.still hg)
  have O4 := Lib.hid (O3.out.join hg (own_one (row1_own.2 ho)) C3.out.size)
  have G4 := Lib.hid (grown_trans G3.out hg)
  clear hg ho C3 G3 O3 k2
  have b2' := C4.out.cur.cell (i := 2) rfl
  have f2 := C4.out.cur.frozen 2
  have C5 : Hid (StCopying s [.int .i64 k, .slice a1 l1 c1, .slice a2 l2 c2, .slice a3 l3 c3] [.int .i64 k, .slice b1 l1 d1, .slice b2 l2 d2, .slice none 0 0] (w4.setCell ⟨s + 2, 2, none⟩ (.slice b2 l2 d2))) := Lib.hid (C4.out.put 2 _)
  have O5 : Hid (OwnAll (w4.setCell ⟨s + 2, 2, none⟩ (.slice b2 l2 d2)) (s + 3) [row1 (.slice b2 l2 d2) v, row1 (.slice b1 l1 d1) a]) := Lib.hid (all_put O4.out)
  have G5 : Hid (w.grownBy (w4.setCell ⟨s + 2, 2, none⟩ (.slice b2 l2 d2)) none) := Lib.hid (grown_set G4.out (by rw [SE.out]; simp) _)
  go_upto_region 5 with fail
  clear b2' f2 C4 O4 G4
  generalize w4.setCell ⟨s + 2, 2, none⟩ (.slice b2 l2 d2) = w5 at *
  have k3 := C5.out.src.cell (i := 3) rfl
  go_wp2_with fail
  refine (toBoolS _ f _ (Y.out.grown G5.out) h3).mono ?_
  rintro e w6 ⟨p, rfl, hg, ho⟩
  obtain ⟨b3, d3, ep, -, -, -⟩ := ho.bl
  rw [← NL3.out] at ep
  subst ep
  have C6 := Lib.hid (C5.out.still hg)
  have O6 := Lib.hid (O5.out.join hg (own_one (bool1_own.2 ho)) C5.out.size)
  have G6 := Lib.hid (grown_trans G5.out hg)
  clear hg ho C5 G5 O5 k3
  have b3' := C6.out.cur.cell (i := 3) rfl
  have f3 := C6.out.cur.frozen 3
  have C7 : Hid (StCopying s [.int .i64 k, .slice a1 l1 c1, .slice a2 l2 c2, .slice a3 l3 c3] [.int .i64 k, .slice b1 l1 d1, .slice b2 l2 d2, .slice b3 l3 d3] (w6.setCell ⟨s + 2, 3, none⟩ (.slice b3 l3 d3))) := Lib.hid (C6.out.put 3 _)
  have O7 : Hid (OwnAll (w6.setCell ⟨s + 2, 3, none⟩ (.slice b3 l3 d3)) (s + 3) [bool1 (.slice b3 l3 d3) f, row1 (.slice b2 l2 d2) v, row1 (.slice b1 l1 d1) a]) := Lib.hid (all_put O6.out)
  have G7 : Hid (w.grownBy (w6.setCell ⟨s + 2, 3, none⟩ (.slice b3 l3 d3)) none) := Lib.hid (grown_set G6.out (by rw [SE.out]; simp) _)
  go_upto_region 6 with fail
  clear b3' f3 C6 O6 G6
  generalize w6.setCell ⟨s + 2, 3, none⟩ (.slice b3 l3 d3) = w7 at *
  have SO : Hid (StOwn w7 (s + 3) (.slice b1 l1 d1) (.slice b2 l2 d2) (.slice b3 l3 d3) a v f) := Lib.hid (by
    obtain ⟨h0, h1, h2, ab, ac, bc⟩ := own3 O7.out
    exact mk3 h2 h1 h0 bc.symm ac.symm ab.symm)
  apply wp_region_lit
  refine wpList_load_row rfl _ _ rfl (s + 2) rfl _ _ _ _ C7.out.cur Try.underlying45 rfl infoPub ?_
  simp only [Act.put, List.setIfInBounds_toArray, List.set_cons_succ, List.set_cons_zero]
  refine wpList_store_row rfl _ _ _ rfl (s + 1) #[.int .i64 k, .slice b1 l1 d1, .slice b2 l2 d2, .slice b3 l3 d3] rfl rfl _ _ C7.out.res infoPub rfl (by kernel_rfl) ?_
  have B9 : Hid ((w7.setRow (s + 1) #[.int .i64 k, .slice b1 l1 d1, .slice b2 l2 d2, .slice b3 l3 d3]).heap[s + 1]? = some (.cells #[.int .i64 k, .slice b1 l1 d1, .slice b2 l2 d2, .slice b3 l3 d3] 45 (0, 0))) := Lib.hid (setRow_heap w7 (s + 1) _ _ _ (0, 0) C7.out.res)
  have gr := grownRow C7.out.res #[.int .i64 k, .slice b1 l1 d1, .slice b2 l2 d2, .slice b3 l3 d3]
  have FIN : Hid (NewSt k a v f w (.returned (.agg #[.int .i64 k, .slice b1 l1 d1, .slice b2 l2 d2, .slice b3 l3 d3])) (w7.setRow (s + 1) #[.int .i64 k, .slice b1 l1 d1, .slice b2 l2 d2, .slice b3 l3 d3])) := Lib.hid ⟨_, _, _, rfl, grown_own G7.out gr (fun i hi => by injection hi with hi; omega), (outRow SO.out gr C7.out.res).lower (by omega)⟩
  clear gr
  generalize w7.setRow (s + 1) #[.int .i64 k, .slice b1 l1 d1, .slice b2 l2 d2, .slice b3 l3 d3] = w9 at *
  go_wp2_with fail
  refine bodyPost_ret (v := .agg #[.int .i64 k, .slice b1 l1 d1, .slice b2 l2 d2, .slice b3 l3 d3]) ?_ rfl FIN.out
  exact results_cell_row Try.results25 _ _ (s + 1) _ _ _ _ rfl B9.out Try.underlying45 rfl infoPub
end Go.Proofs.Ythglkgicckodaaa
