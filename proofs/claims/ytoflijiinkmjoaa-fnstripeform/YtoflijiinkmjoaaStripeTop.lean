/-
  The contracts of the program's StripeOk, StripeTop, StripeLose and StripeRead.
  Conditions: none.
-/
import Derived.Test.YtoflijiinkmjoaaStripePub
namespace Go.Proofs.Ytoflijiinkmjoaa
open Go.RowKit Go.Shelf
set_option linter.unusedVariables false
set_option linter.unusedSimpArgs false
attribute [local go_sem] Oper.semAt_some

set_option maxHeartbeats 4000000 in
set_option maxRecDepth 20000 in
theorem implStripeOk (k : Int) (u x y : Value) (a v : List Int) (f : List Bool) (w : World) (hu : Sl w u a) (hx : Sl w x v) (hy : Bl w y f) : Calls Try.prog 25 #[.agg #[.int .i64 k, u, x, y]] w fun e w' => ∃ q, e = .returned (.bool q) ∧ (q = true ↔ StOk k a v f) ∧ w.grownBy w' none := by
  have U := Lib.hid hu
  have X := Lib.hid hx
  have Y := Lib.hid hy
  obtain ⟨a1, c1, e1, _, _, _⟩ := hu
  obtain ⟨a2, c2, e2, _, _, _⟩ := hx
  obtain ⟨a3, c3, e3, _, _, _⟩ := hy
  subst e1 e2 e3
  obtain ⟨l1, hl1⟩ : ∃ n, n = a.length := ⟨_, rfl⟩
  obtain ⟨l2, hl2⟩ : ∃ n, n = v.length := ⟨_, rfl⟩
  obtain ⟨l3, hl3⟩ : ∃ n, n = f.length := ⟨_, rfl⟩
  rw [← hl1] at U ⊢
  rw [← hl2] at X ⊢
  rw [← hl3] at Y ⊢
  clear hl1 hl2 hl3
  have G0 := Lib.hid (World.grownBy_alloc w (.cells #[.int .i64 k, .slice a1 l1 c1, .slice a2 l2 c2, .slice a3 l3 c3] 26) none)
  have SO := Lib.hid (stripeOf_ k _ _ _ a v f _ (U.out.grown G0.out) (X.out.grown G0.out) (Y.out.grown G0.out))
  go_enter Try.func25, Try.ntmps25
  go_wp2_with fail
  refine SO.out.mono ?_
  rintro e w1 ⟨hg, k', L, A, V, F, b, rfl, hlen, hb, hE⟩
  have B := Lib.hid hb
  have hs := storeSt w1 (k := k') hlen
  have hvl := stv_len (k := k') hlen
  have G1 := Lib.hid (grown_alloc (grown_trans G0.out hg) (.cells (stv k' L A V F).toArray 67))
  clear hg hb hE SO
  go_wp2_with fail
  go_ret
  exact ⟨b, rfl, B.out, G1.out⟩

set_option maxHeartbeats 4000000 in
set_option maxRecDepth 20000 in
theorem implStripeTop (k : Int) (u x y : Value) (a v : List Int) (f : List Bool) (w : World) (hu : Sl w u a) (hx : Sl w x v) (hy : Bl w y f) : Calls Try.prog 20 #[.agg #[.int .i64 k, u, x, y]] w fun e w' => ∃ n : Int, e = .returned (.int .i64 n) ∧ (StOk k a v f → n = topN v 8) ∧ (¬ StOk k a v f → n = -1) ∧ w.grownBy w' none := by
  have U := Lib.hid hu
  have X := Lib.hid hx
  have Y := Lib.hid hy
  obtain ⟨a1, c1, e1, _, _, _⟩ := hu
  obtain ⟨a2, c2, e2, _, _, _⟩ := hx
  obtain ⟨a3, c3, e3, _, _, _⟩ := hy
  subst e1 e2 e3
  obtain ⟨l1, hl1⟩ : ∃ n, n = a.length := ⟨_, rfl⟩
  obtain ⟨l2, hl2⟩ : ∃ n, n = v.length := ⟨_, rfl⟩
  obtain ⟨l3, hl3⟩ : ∃ n, n = f.length := ⟨_, rfl⟩
  rw [← hl1] at U ⊢
  rw [← hl2] at X ⊢
  rw [← hl3] at Y ⊢
  clear hl1 hl2 hl3
  have G0 := Lib.hid (World.grownBy_alloc w (.cells #[.int .i64 k, .slice a1 l1 c1, .slice a2 l2 c2, .slice a3 l3 c3] 26) none)
  have SO := Lib.hid (stripeOf_ k _ _ _ a v f _ (U.out.grown G0.out) (X.out.grown G0.out) (Y.out.grown G0.out))
  go_enter Try.func20, Try.ntmps20
  go_wp2_with fail
  refine SO.out.mono ?_
  rintro e w1 ⟨hg, k', L, A, V, F, b, rfl, hlen, hb, hE⟩
  have B := Lib.hid hb
  have E := Lib.hid hE
  have LN := Lib.hid hlen
  have HS := Lib.hid (infoSt (k := k') hlen)
  have hs := storeSt w1 (k := k') hlen
  have hvl := stv_len (k := k') hlen
  have G1 := Lib.hid (grown_alloc (grown_trans G0.out hg) (.cells (stv k' L A V F).toArray 67))
  have S1 := Lib.hid (SB.new w1 k' L A V F)
  clear hg hb hE SO hlen
  go_upto_region 2 with fail
  clear hs hvl
  generalize w1.alloc (.cells (stv k' L A V F).toArray 67) = w2 at *
  generalize w1.heap.size = g at *
  cases b with
  | false =>
    have NO : Hid (¬ StOk k a v f) := Lib.hid (fun h => by have := B.out.2 h; cases this)
    go_wp2_with fail
    go_ret
    exact ⟨-1, rfl, fun h => absurd h NO.out, fun _ => rfl, G1.out⟩
  | true =>
    have OK := Lib.hid (B.out.1 rfl)
    obtain ⟨rfl, rfl, rfl, rfl, rfl⟩ := E.out rfl
    have ST := Lib.hid (fun w => stTop (k := k') LN.out (OK.out.clean.nonneg (i := 0) (by omega)).1 w)
    clear E B
    go_upto_region 4 with fail
    apply wp_region_lit
    refine wpList_load_row rfl _ _ rfl g rfl _ _ _ _ S1.out Try.underlying67 rfl HS.out ?_
    simp only [Act.put, List.setIfInBounds_toArray, List.set_cons_succ, List.set_cons_zero]
    go_wp2_with fail
    refine (ST.out _).mono ?_
    rintro e w3 ⟨rfl, hg⟩
    have G3 := Lib.hid (grown_trans G1.out hg)
    clear hg
    go_wp2_with fail
    go_ret
    exact ⟨_, rfl, fun _ => rfl, fun h => absurd OK.out h, G3.out⟩
end Go.Proofs.Ytoflijiinkmjoaa
