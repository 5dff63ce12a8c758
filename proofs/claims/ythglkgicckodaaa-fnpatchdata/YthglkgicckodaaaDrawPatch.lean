/-
  The contracts of what the laws of chapter 22 draw.
  Conditions: the reader has been read at most 900,000 times.
-/
import Derived.Test.YthglkgicckodaaaDrawRow3
import Derived.Test.YthglkgicckodaaaPatchHelp
namespace Go.Proofs.Ythglkgicckodaaa
open Go.RowKit
set_option linter.unusedVariables false

theorem arr2 (x y : Int) : #[Value.int .i64 x, .int .i64 y] = (vals [x, y]).toArray := rfl
theorem Arr.two {w : World} {g : Nat} {t : TypeId} {a b : Int} (h : Arr w g t [a, b]) (x y : Int) : Arr ((w.setCell ⟨g, 0, none⟩ (.int .i64 x)).setCell ⟨g, 1, none⟩ (.int .i64 y)) g t [x, y] := (h.put 0 x).put 1 y
theorem Far.arr {w w' : World} {c g : Nat} {t : TypeId} {l : List Int} (hf : Far c w w') (h : Arr w g t l) (hc : g ≠ c) : Arr w' g t l := h.kept (far_grown hf) (by intro e; injection e with e; exact hc e)

/-- a patch that is drawn. -/
def DrawnPat (c p : Nat) (w : World) (e : Ending) (w' : World) : Prop := ∃ s : Pat, e = .returned (.agg #[.int .i64 s.at', .int .i64 s.dif]) ∧ 0 ≤ s.at' ∧ s.at' < 4 ∧ -30 ≤ s.dif ∧ s.dif ≤ 30 ∧ Far c w w' ∧ Rd w' c (p + 3)

set_option maxHeartbeats 2000000 in
set_option maxRecDepth 20000 in
theorem drawPat (c p : Nat) (w : World) (h : Rd w c p) (hp : p ≤ 900000) : Calls Try.prog 51 #[.pointer (some ⟨c, 0, none⟩)] w (DrawnPat c p w) := by
  have H := Lib.hid h
  have cl := h.lt
  clear h
  have K0 : Hid (Arr (w.alloc (.cells #[.int .i64 0, .int .i64 0] 32)) w.heap.size 32 [0, 0]) := Lib.hid (heap_alloc_new _ _)
  have F0 := Lib.hid (Far.alloc (c := c) w (.cells #[.int .i64 0, .int .i64 0] 32))
  have R0 := Lib.hid (H.out.alloc (.cells #[.int .i64 0, .int .i64 0] 32))
  go_enter Try.func51, Try.ntmps51
  go_wp2_with fail
  generalize w.alloc (.cells #[.int .i64 0, .int .i64 0] 32) = W at *
  obtain ⟨g, hgs⟩ : ∃ g, g = w.heap.size := ⟨_, rfl⟩
  rw [← hgs] at K0 cl ⊢
  have GE := Lib.hid hgs
  clear hgs H
  refine (pick c p _ _ R0.out (by omega) (by omega) (by omega)).mono ?_
  rintro e w1 ⟨a, a0, a1, rfl, hf, hr⟩
  have F1 := Lib.hid (F0.out.trans hf)
  have K1 := Lib.hid (hf.arr K0.out (by omega))
  have R1 := Lib.hid hr
  clear hf hr F0 K0 R0
  go_wp2_with fail
  refine (pick c (p + 1) _ _ R1.out (by omega) (by omega) (by omega)).mono ?_
  rintro e w2 ⟨b, b0, b1, rfl, hf, hr⟩
  have F2 := Lib.hid (F1.out.trans hf)
  have K2 := Lib.hid (hf.arr K1.out (by omega))
  have R2 := Lib.hid hr
  clear hf hr F1 K1 R1
  go_wp2_with fail
  refine (pick c (p + 1 + 1) _ _ R2.out (by omega) (by omega) (by omega)).mono ?_
  rintro e w3 ⟨m, m0, m1, rfl, hf, hr⟩
  have F3 := Lib.hid (F2.out.trans hf)
  have K3 := Lib.hid (hf.arr K2.out (by omega))
  have R3 := Lib.hid hr
  clear hf hr F2 K2 R2
  have hq : m.tdiv 39 = if m = 39 then 1 else 0 := by
    by_cases h : m = 39
    · subst h; rfl
    · rw [if_neg h]; exact Int.tdiv_eq_zero_of_lt m0 (by omega)
  obtain ⟨q, hq'⟩ : ∃ q, m.tdiv 39 = q := ⟨_, rfl⟩
  have hq0 : q = 0 ∨ q = 1 := by rw [hq'] at hq; rw [hq]; split <;> simp
  clear hq
  have wq : IntKind.i64.wrap q = q := IntWalk.i64_in _ (by omega)
  have dd : -30 ≤ 1 + b - q * 31 ∧ 1 + b - q * 31 ≤ 30 := by omega
  have k0 := K3.out.cell (i := 0) (by simp)
  have k1 := K3.out.cell (i := 1) (by simp)
  have f0 := K3.out.frozen 0
  have f1 := K3.out.frozen 1
  have K4 := Lib.hid (K3.out.two a (1 + b - q * 31))
  have z0 := K4.out.cell (i := 0) (by simp)
  have z1 := K4.out.cell (i := 1) (by simp)
  have F4 := Lib.hid (F3.out.own (w' := (w3.setCell ⟨g, 0, none⟩ (.int .i64 a)).setCell ⟨g, 1, none⟩ (.int .i64 (1 + b - q * 31))) (r := some g) (grown_trans (far_grown (Far.set _ _ _ _)) (far_grown (Far.set _ _ _ _))) (fun k hk => by injection hk with hk; have := GE.out; omega))
  have R4 := Lib.hid (R3.out.up (w' := (w3.setCell ⟨g, 0, none⟩ (.int .i64 a)).setCell ⟨g, 1, none⟩ (.int .i64 (1 + b - q * 31))) (r := some g) (grown_trans (far_grown (Far.set _ _ _ _)) (far_grown (Far.set _ _ _ _))) (fun k hk => by injection hk with hk; omega))
  have AA := Lib.hid (And.intro a0 a1)
  have DD := Lib.hid dd
  clear K3 K4 F3 R3 dd a0 a1
  go_wp2_with fail
  exact bodyPost_ret (v := .agg #[.int .i64 a, .int .i64 (1 + b - q * 31)]) (by simp [results, Try.results51, go_sem, z0, z1]) rfl ⟨⟨a, 1 + b - q * 31⟩, rfl, AA.out.1, AA.out.2, DD.out.1, DD.out.2, F4.out, R4.out⟩
end Go.Proofs.Ythglkgicckodaaa
