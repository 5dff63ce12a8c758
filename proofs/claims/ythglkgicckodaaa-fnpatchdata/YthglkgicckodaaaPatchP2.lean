/-
  The change that a patch makes, done to numbers.
  Conditions: the patch is ok.
-/
import Derived.Test.YthglkgicckodaaaPatchP
namespace Go.Proofs.Ythglkgicckodaaa
open Go.RowKit
set_option linter.unusedVariables false

theorem row_of4 {l : List Int} (h : l.length = 4) : (vals l).toArray = #[.int .i64 (l.getD 0 0), .int .i64 (l.getD 1 0), .int .i64 (l.getD 2 0), .int .i64 (l.getD 3 0)] := by
  match l, h with
  | [_, _, _, _], _ => rfl

set_option maxHeartbeats 2000000 in
set_option maxRecDepth 20000 in
theorem changeDo (d : List Int) (p x : Int) (b c : Nat) (w : World) (hd : Vec.ok d = true) (h : patOk ⟨p, x⟩ = true) (hb : w.cell? ⟨b, 0, none⟩ = some (.int .i64 p)) (hc : w.cell? ⟨c, 0, none⟩ = some (.int .i64 x)) :
    Calls Try.prog 69 #[.agg (vals d).toArray, .pointer (some ⟨b, 0, none⟩), .pointer (some ⟨c, 0, none⟩)] w fun e w' => e = .returned (.agg (vals (patOne d ⟨p, x⟩)).toArray) ∧ w.grownBy w' none := by
  have O := Lib.hid hd
  have D4 := Lib.hid (Vec.ok_len hd)
  obtain ⟨k, hk, hp⟩ := patOk_at h
  have hp : p = k := hp
  subst hp
  have X := Lib.hid (patOk_dif h)
  clear h hd
  obtain ⟨q, hq⟩ : ∃ q, d.getD k 0 = q := ⟨_, rfl⟩
  have Q1 : Hid (Fld.ok q = true) := Lib.hid (by rw [← hq]; exact Vec.ok_get O.out hk)
  have E : Hid (patOne d ⟨(k : Int), x⟩ = d.set k ((q + x) % 31)) := Lib.hid (by unfold patOne; dsimp only; rw [Int.toNat_natCast, hq])
  rw [E.out]
  have QQ := Lib.hid hq
  clear hq
  have A : Hid (Arr ((w.alloc (.cells (vals d).toArray 68)).alloc (.cells (vals [0, 0, 0, 0]).toArray 68)) w.heap.size 68 d) := Lib.hid ((Arr.new _ _ _).alloc _)
  have B : Hid (Arr ((w.alloc (.cells (vals d).toArray 68)).alloc (.cells (vals [0, 0, 0, 0]).toArray 68)) (w.heap.size + 1) 68 [0, 0, 0, 0]) := Lib.hid (by
    have := Arr.new (w.alloc (.cells (vals d).toArray 68)) 68 [0, 0, 0, 0]
    simpa using this)
  have gr : w.grownBy ((w.alloc (.cells (vals d).toArray 68)).alloc (.cells (vals [0, 0, 0, 0]).toArray 68)) none := grown_alloc (grown_alloc (World.grownBy.refl _ _) _) _
  have cb := gr.cell hb (by simp)
  have cc := gr.cell hc (by simp)
  have G := Lib.hid gr
  clear gr hb hc
  rw [← vals4 0] at A B cb cc G
  obtain ⟨x0, x1, x2, x3, rfl, _⟩ := Vec.ok_four O.out
  rw [← vals4 x0] at A B cb cc G
  rw [← vals4 x0]
  go_enter Try.func69, Try.ntmps69
  go_upto_region 1 with fail
  generalize (w.alloc (.cells #[.int .i64 x0, .int .i64 x1, .int .i64 x2, .int .i64 x3] 68)).alloc (.cells #[.int .i64 0, .int .i64 0, .int .i64 0, .int .i64 0] 68) = W at *
  have NW := Lib.hid (show w.heap.size ≤ w.heap.size from Nat.le_refl _)
  generalize hg : w.heap.size = g at A B NW ⊢
  have a0 := A.out.cell (i := k) (by rw [D4.out]; exact hk)
  rw [QQ.out] at a0
  have fz := A.out.frozen k
  have hlt : (k : Int) < 4 := by omega
  have hq1 : Fld.ok q = true := Q1.out
  have hx1 : Fld.ok x = true := X.out
  refine wp_region_still_tail 7 (by kernel_rfl) (by kernel_rfl) ?_
  simp only [List.take_succ_cons, List.take_zero, List.drop_succ_cons, List.drop_zero]
  change wpStill _ _ W.drew (fun a' => wpList _ _ _ _ a' W.drew) _ _
  have a0' : W.drew.cell? ⟨g, k, none⟩ = some (.int .i64 q) := a0
  have cb' : W.drew.cell? ⟨b, 0, none⟩ = some (.int .i64 k) := cb
  have cc' : W.drew.cell? ⟨c, 0, none⟩ = some (.int .i64 x) := cc
  have fz' : W.drew.frozen? ⟨g, k, none⟩ = false := fz
  have A2 := Lib.hid ((A.out.drew).put k ((q + x) % 31))
  have B2 := Lib.hid ((B.out.drew).far (p := ⟨g, k, none⟩) (by simp) (.int .i64 ((q + x) % 31)))
  have G2 := Lib.hid (grown_set (grown_drew G.out) (p := ⟨g, k, none⟩) (Nat.le_of_eq hg) (.int .i64 ((q + x) % 31)))
  clear A B G a0 cb cc fz
  generalize W.drew = w2 at *
  repeat still_step
  refine wpStill_step (fun K hK => ?_)
  go_simp
  refine ⟨_, stillSum _ _ _ hq1 hx1, hK _ ?_⟩
  clear hK K
  repeat still_step
  refine wpStill_nil ?_
  have l4 : ([x0, x1, x2, x3].set k ((q + x) % 31)).length = 4 := by rw [List.length_set]; exact D4.out
  have S4 := Lib.hid (row_of4 l4)
  have r0 := A2.out.cell (i := 0) (by rw [l4]; omega)
  have r1 := A2.out.cell (i := 1) (by rw [l4]; omega)
  have r2 := A2.out.cell (i := 2) (by rw [l4]; omega)
  have r3 := A2.out.cell (i := 3) (by rw [l4]; omega)
  have b0 := B2.out.cell (i := 0) (by simp)
  have b1 := B2.out.cell (i := 1) (by simp)
  have b2 := B2.out.cell (i := 2) (by simp)
  have b3 := B2.out.cell (i := 3) (by simp)
  have f0 := B2.out.frozen 0
  have f1 := B2.out.frozen 1
  have f2 := B2.out.frozen 2
  have f3 := B2.out.frozen 3
  clear A2 B2 l4
  generalize ([x0, x1, x2, x3].set k ((q + x) % 31)).getD 0 0 = y0 at *
  generalize ([x0, x1, x2, x3].set k ((q + x) % 31)).getD 1 0 = y1 at *
  generalize ([x0, x1, x2, x3].set k ((q + x) % 31)).getD 2 0 = y2 at *
  generalize ([x0, x1, x2, x3].set k ((q + x) % 31)).getD 3 0 = y3 at *
  go_wp2_with fail
  refine bodyPost_ret (v := .agg #[.int .i64 y0, .int .i64 y1, .int .i64 y2, .int .i64 y3]) (by simp [results, Try.results69, go_sem, b0, b1, b2, b3]) rfl ⟨by rw [S4.out], ?_⟩
  repeat' first | exact G2.out | refine grown_set ?_ (by simp; try omega) _
end Go.Proofs.Ythglkgicckodaaa
