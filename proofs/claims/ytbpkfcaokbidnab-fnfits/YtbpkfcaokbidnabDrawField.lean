/-
  The contracts of the model's drawing of numbers: from whatever bytes the drawn numbers come, they are integers from -5 to 35, and nothing that was there is changed.
  Conditions: none.
-/
import Derived.Test.YtbpkfcaokbidnabDraw
namespace Go.Proofs.Ytbpkfcaokbidnab
open Go.RowKit
set_option linter.unusedVariables false

/-- what a slice of bytes that came in is: nil, or a row of bytes. -/
def Code (w : World) (a : Option Addr) (len cap : Nat) : Prop :=
  len ≤ cap ∧ cap ≤ maxLen ∧ (len = 0 ∨ ∃ xb xo z, a = some ⟨xb, xo, none⟩ ∧ xb < w.heap.size ∧ Bytes w w.heap.size xb xo len z)

theorem code_of {w : World} {a : Option Addr} {len cap : Nat} {zs : List Int}
    (h : (a = none ∧ len = 0 ∧ cap = 0 ∧ zs = []) ∨ ∃ x, a = some x ∧ len ≤ cap ∧ cap ≤ maxLen ∧ zs.length = cap ∧ (∀ i, i < zs.length → w.cell? (x.add i) = some (.int .u8 (zs.getD i 0))) ∧ ∀ n ∈ zs, (Lit.int .u8 n).wf = true) : Code w a len cap := by
  rcases h with ⟨rfl, rfl, rfl, rfl⟩ | ⟨x, rfl, hl, hm, hz, hc, hw⟩
  · exact ⟨Nat.le_refl _, Nat.zero_le _, .inl rfl⟩
  · refine ⟨hl, hm, ?_⟩
    by_cases h0 : len = 0
    · exact .inl h0
    · obtain ⟨xb, xo, rfl, hx⟩ := ints_at hc (by omega)
      have hlt : xb < w.heap.size := lt_of_cell (hx 0 (by omega))
      refine .inr ⟨xb, xo, fun i => zs.getD i 0, rfl, hlt, by omega, fun i hi => ⟨hx i (by omega), ?_⟩⟩
      have hi' : i < zs.length := by omega
      have := bounds_u8 (hw (zs.getD i 0) (by simp [List.getD_eq_getElem?_getD, List.getElem?_eq_getElem hi']))
      exact this
theorem Code.below {w w' : World} {a : Option Addr} {len cap : Nat} (h : Code w a len cap) (hb : Below w.heap.size w w') : Code w' a len cap := by
  obtain ⟨h1, h2, h⟩ := h
  refine ⟨h1, h2, ?_⟩
  rcases h with h | ⟨xb, xo, z, rfl, hx, hz⟩
  · exact .inl h
  · have := hb.size
    exact .inr ⟨xb, xo, z, rfl, by omega, by omega, fun i hi => ⟨(hb.cell (p := ⟨xb, xo + i, none⟩) hx).trans (hz.2 i hi).1, (hz.2 i hi).2⟩⟩

/-- what opening leaves: a reader in a new block. -/
def Opened (w : World) (e : Ending) (w' : World) : Prop :=
  e = .returned (.pointer (some ⟨w.heap.size, 0, none⟩)) ∧ Below w.heap.size w w' ∧ Rd w' w.heap.size 0

theorem opened_of {w : World} {a : Option Addr} {len cap : Nat} (hl : len ≤ 2000) (h : len = 0 ∨ ∃ xb xo z, a = some ⟨xb, xo, none⟩ ∧ xb < w.heap.size ∧ Bytes w w.heap.size xb xo len z) (t : TypeId) :
    Rd (w.alloc (.cells #[.slice a len cap, .int .i64 0] t)) w.heap.size 0 := by
  refine ⟨0, Nat.le_refl _, ?_, ?_, a, len, cap, ?_, hl, ?_⟩
  · simp [go_sem]
  · simp [go_sem]
  · simp [go_sem]
  · rcases h with h | ⟨xb, xo, z, rfl, hx, hb⟩
    · exact .inl h
    · exact .inr ⟨xb, xo, z, rfl, hb.far (d := w.heap.size) (Far.alloc _ _) (Nat.ne_of_lt hb.1)⟩

set_option maxHeartbeats 400000 in
set_option maxRecDepth 20000 in
theorem openR (a : Option Addr) (len cap : Nat) (w : World) (h : Code w a len cap) : Calls Try.prog 61 #[.slice a len cap] w (Opened w) := by
  obtain ⟨hlc, hcm, h⟩ := h
  unfold maxLen at hcm
  by_cases hl : (len : Int) > 2000
  · obtain ⟨xb, xo, z, rfl, hx, hb⟩ := h.resolve_left (by omega)
    go_enter Try.func61, Try.ntmps61
    go_wp2
    go_ret
    exact ⟨rfl, (Below.refl _ _).alloc (Nat.le_refl _) _, opened_of (by omega) (.inr ⟨xb, xo, z, rfl, hx, hb.1, fun i hi => hb.2 i (by omega)⟩) _⟩
  · go_enter Try.func61, Try.ntmps61
    go_wp2
    go_ret
    exact ⟨rfl, (Below.refl _ _).alloc (Nat.le_refl _) _, opened_of (by omega) h _⟩

/-- what drawing a number leaves: one from lo to hi, the reader at most k further. -/
def Drawn (c p k : Nat) (lo hi : Int) (w : World) (e : Ending) (w' : World) : Prop :=
  ∃ m : Int, lo ≤ m ∧ m ≤ hi ∧ e = .returned (.int .i64 m) ∧ Far c w w' ∧ Rd w' c (p + k)

theorem Rd.far {w w' : World} {c d p : Nat} (h : Rd w c p) (hf : Far d w w') (hd : w.heap.size ≤ d) : Rd w' c p := by
  obtain ⟨q, hq, hc, hz, a, len, cap, hs, hl, hb⟩ := h
  have hlt := lt_of_cell hc
  have hcd : c ≠ d := by have : c < w.heap.size := hlt; omega
  refine ⟨q, hq, (hf.cell (p := ⟨c, 1, none⟩) hlt hcd).trans hc, (hf.frozen (p := ⟨c, 1, none⟩) hlt hcd).trans hz, a, len, cap, (hf.cell (p := ⟨c, 0, none⟩) hlt hcd).trans hs, hl, ?_⟩
  rcases hb with h | ⟨xb, xo, z, rfl, hb⟩
  · exact .inl h
  · by_cases h0 : len = 0
    · exact .inl h0
    · have hx : xb < w.heap.size := lt_of_cell (hb.2 0 (by omega)).1
      exact .inr ⟨xb, xo, z, rfl, hb.far hf (by omega)⟩
theorem Rd.alloc {w : World} {c p : Nat} (h : Rd w c p) (o : Obj) : Rd (w.alloc o) c p := h.far (Far.alloc (c := w.heap.size) w o) (Nat.le_refl _)

theorem far_two {w w2 : World} {c : Nat} {v0 v1 : Value} {t : TypeId} (hf : Far c (w.alloc (.cells #[v0, v1] t)) w2) (hc : c < w.heap.size) :
    w2.cell? ⟨w.heap.size, 0, none⟩ = some v0 ∧ w2.cell? ⟨w.heap.size, 1, none⟩ = some v1 := by
  have h0 := hf.cell (p := ⟨w.heap.size, 0, none⟩) (by simp [go_sem]) (by show w.heap.size ≠ c; omega)
  have h1 := hf.cell (p := ⟨w.heap.size, 1, none⟩) (by simp [go_sem]) (by show w.heap.size ≠ c; omega)
  rw [h0, h1]; simp [go_sem]

theorem below_two {m : Int} (h0 : 0 ≤ m) (h1 : m < 2) : m = 0 ∨ m = 1 := by omega

set_option maxHeartbeats 1000000 in
set_option maxRecDepth 20000 in
theorem num (c p : Nat) (w : World) (h : Rd w c p) (hp : p ≤ 999990) : Calls Try.prog 119 #[.pointer (some ⟨c, 0, none⟩)] w (Drawn c p 5 (-1) 31 w) := by
  have H := Lib.hid h
  clear h
  go_enter Try.func119, Try.ntmps119
  go_wp2_with fail
  refine (pick c p _ _ H.out (by omega) (by omega) (by omega)).mono ?_
  rintro e w1 ⟨m, m0, m1, rfl, hf1, h1⟩
  have F1 := Lib.hid hf1
  have H1 := Lib.hid h1
  clear hf1 h1
  by_cases c0 : m = 0
  · subst c0
    go_wp2_with fail
    go_ret
    exact ⟨0, by omega, by omega, rfl, F1.out, H1.out.mono (by omega)⟩
  · have b0 : (m == 0) = false := by rw [beq_eq_false_iff_ne]; exact c0
    by_cases c1 : m = 1
    · subst c1
      clear c0 b0 m0 m1
      go_wp2_with fail
      refine (pick c (p + 1) _ _ (H1.out.alloc _) (by omega) (by omega) (by omega)).mono ?_
      rintro e w2 ⟨m, m0, m1, rfl, hf2, h2⟩
      have F2 := Lib.hid hf2
      have H2 := Lib.hid h2
      obtain ⟨g0, g1⟩ := far_two hf2 H1.out.lt
      clear hf2 h2
      rcases below_two m0 m1 with rfl | rfl
      · go_wp2_with fail
        go_ret
        exact ⟨1, by omega, by omega, rfl, F1.out.trans ((Far.alloc _ _).trans F2.out), H2.out.mono (by omega)⟩
      · go_wp2_with fail
        go_ret
        exact ⟨30, by omega, by omega, rfl, F1.out.trans ((Far.alloc _ _).trans F2.out), H2.out.mono (by omega)⟩
    · have b1 : (m == 1) = false := by rw [beq_eq_false_iff_ne]; exact c1
      by_cases c2 : m = 2
      · subst c2
        clear c0 b0 c1 b1 m0 m1
        go_wp2_with fail
        refine (pick c (p + 1) _ _ H1.out (by omega) (by omega) (by omega)).mono ?_
        rintro e w2 ⟨m, m0, m1, rfl, hf2, h2⟩
        have F2 := Lib.hid hf2
        have H2 := Lib.hid h2
        clear hf2 h2
        by_cases c3 : m = 0
        · subst c3
          clear m0 m1
          go_wp2_with fail
          refine (pick c (p + 1 + 1) _ _ (H2.out.alloc _) (by omega) (by omega) (by omega)).mono ?_
          rintro e w3 ⟨m, m0, m1, rfl, hf3, h3⟩
          have F3 := Lib.hid hf3
          have H3 := Lib.hid h3
          obtain ⟨g0, g1⟩ := far_two hf3 H2.out.lt
          clear hf3 h3
          rcases below_two m0 m1 with rfl | rfl
          · go_wp2_with fail
            go_ret
            exact ⟨-1, by omega, by omega, rfl, F1.out.trans (F2.out.trans ((Far.alloc _ _).trans F3.out)), H3.out.mono (by omega)⟩
          · go_wp2_with fail
            go_ret
            exact ⟨31, by omega, by omega, rfl, F1.out.trans (F2.out.trans ((Far.alloc _ _).trans F3.out)), H3.out.mono (by omega)⟩
        · have b3 : (m == 0) = false := by rw [beq_eq_false_iff_ne]; exact c3
          go_wp2_with fail
          refine (pick c (p + 1 + 1) _ _ H2.out (by omega) (by omega) (by omega)).mono ?_
          rintro e w3 ⟨n, n0, n1, rfl, hf3, h3⟩
          have F3 := Lib.hid hf3
          have H3 := Lib.hid h3
          clear hf3 h3
          go_wp2_with fail
          go_ret
          exact ⟨n, by omega, by omega, rfl, F1.out.trans (F2.out.trans F3.out), H3.out.mono (by omega)⟩
      · have b2 : (m == 2) = false := by rw [beq_eq_false_iff_ne]; exact c2
        go_wp2_with fail
        refine (pick c (p + 1) _ _ H1.out (by omega) (by omega) (by omega)).mono ?_
        rintro e w2 ⟨n, n0, n1, rfl, hf2, h2⟩
        have F2 := Lib.hid hf2
        have H2 := Lib.hid h2
        clear hf2 h2
        go_wp2_with fail
        go_ret
        exact ⟨n, by omega, by omega, rfl, F1.out.trans F2.out, H2.out.mono (by omega)⟩

/-- what drawing two numbers leaves. -/
def Drawn2 (w : World) (e : Ending) (w' : World) : Prop :=
  ∃ m n : Int, -1 ≤ m ∧ m ≤ 31 ∧ -1 ≤ n ∧ n ≤ 31 ∧ e = .returned (.tuple #[.int .i64 m, .int .i64 n]) ∧ Below w.heap.size w w'
def Drawn1 (lo hi : Int) (w : World) (e : Ending) (w' : World) : Prop :=
  ∃ m : Int, lo ≤ m ∧ m ≤ hi ∧ e = .returned (.int .i64 m) ∧ Below w.heap.size w w'