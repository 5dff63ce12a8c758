/-
  The contracts of the program's SpanBy and SpanHas.
  Conditions: none.
-/
import Derived.Test.YtbpkfcaokbidnabSpanSpec4
namespace Go.Proofs.Ytbpkfcaokbidnab
open Go.RowKit
set_option linter.unusedVariables false

theorem eight_of {l : List Int} (h : l.length = 12) : ∃ x y z t a b c d e f g i, l = [x, y, z, t, a, b, c, d, e, f, g, i] := by
  match l, h with
  | [x, y, z, t, a, b, c, d, e, f, g, i], _ => exact ⟨x, y, z, t, a, b, c, d, e, f, g, i, rfl⟩

/-- what 'by' leaves: the times of the rows, if nothing of the row is left. -/
def ByOf (r : List Int) (w : World) (e : Ending) (w' : World) : Prop :=
  w.grownBy w' none ∧ ((Vec.first (r.take 4) 0 < 0 ∧ e = .returned (.tuple #[.agg (vals ((Sp.lmul r 30).drop 4)).toArray, .bool true])) ∨
    (¬ Vec.first (r.take 4) 0 < 0 ∧ e = .returned (.tuple #[.agg #[.int .i64 0, .int .i64 0, .int .i64 0, .int .i64 0, .int .i64 0, .int .i64 0, .int .i64 0, .int .i64 0], .bool false])))

set_option maxHeartbeats 4000000 in
set_option maxRecDepth 20000 in
theorem echBy (base g : Nat) (q : Nat → Option Addr) (S : Sp.Cols) (pv : Value) (ps : List Int) (x y z t : Int) (w : World) (hE : Ech w base g q S pv ps) (hS : ∀ j l, S j = some l → Sp.Row 12 l) (hv : Vec.ok [x, y, z, t] = true) :
    Calls Try.prog 102 #[.pointer (some ⟨g, 0, none⟩), .agg #[.int .i64 x, .int .i64 y, .int .i64 z, .int .i64 t]] w (ByOf (Sp.red S 4 ([x, y, z, t] ++ Sp.none8)) w) := by
  have E := Lib.hid hE
  have RS := Lib.hid hS
  have RV : Hid (Sp.Row 12 ([x, y, z, t] ++ Sp.none8)) := Lib.hid (Sp.row_join (Sp.row_ok.1 hv) Sp.row_none8)
  have NE : Hid (∀ j b, q j = some ⟨b, 0, none⟩ → b ≠ w.heap.size + 2) := Lib.hid (fun j b hq e => by
    obtain ⟨l, _, _, ha⟩ := hE.some_ hq
    have := ha.lt
    omega)
  obtain ⟨W0, hW0⟩ : ∃ W, W = ((w.alloc (.cells #[.int .i64 x, .int .i64 y, .int .i64 z, .int .i64 t] 74)).alloc (.cells #[.int .i64 0, .int .i64 0, .int .i64 0, .int .i64 0, .int .i64 0, .int .i64 0, .int .i64 0, .int .i64 0] 88)).alloc (.cells #[.int .i64 x, .int .i64 y, .int .i64 z, .int .i64 t, .int .i64 0, .int .i64 0, .int .i64 0, .int .i64 0, .int .i64 0, .int .i64 0, .int .i64 0, .int .i64 0] 157) := ⟨_, rfl⟩
  have G0 : Hid (w.grownBy W0 none) := Lib.hid (by rw [hW0]; exact grown_alloc (grown_alloc (grown_alloc (World.grownBy.refl _ _) _) _) _)
  have A0 : Hid (Arr W0 (w.heap.size + 2) 157 ([x, y, z, t] ++ Sp.none8)) := Lib.hid (by
    rw [hW0]
    have := Arr.new ((w.alloc (.cells #[.int .i64 x, .int .i64 y, .int .i64 z, .int .i64 t] 74)).alloc (.cells #[.int .i64 0, .int .i64 0, .int .i64 0, .int .i64 0, .int .i64 0, .int .i64 0, .int .i64 0, .int .i64 0] 88)) 157 ([x, y, z, t] ++ Sp.none8)
    rw [World.size_alloc, World.size_alloc] at this
    exact this)
  have B0 : Hid (Arr W0 (w.heap.size + 1) 88 [0, 0, 0, 0, 0, 0, 0, 0]) := Lib.hid (by
    rw [hW0]
    have := (Arr.new (w.alloc (.cells #[.int .i64 x, .int .i64 y, .int .i64 z, .int .i64 t] 74)) 88 [0, 0, 0, 0, 0, 0, 0, 0]).alloc (.cells #[.int .i64 x, .int .i64 y, .int .i64 z, .int .i64 t, .int .i64 0, .int .i64 0, .int .i64 0, .int .i64 0, .int .i64 0, .int .i64 0, .int .i64 0, .int .i64 0] 157)
    rw [World.size_alloc] at this
    exact this)
  have E0 := Lib.hid (E.out.grown G0.out)
  obtain ⟨r, hr⟩ : ∃ r, Sp.red S 4 ([x, y, z, t] ++ Sp.none8) = r := ⟨_, rfl⟩
  rw [hr]
  have HR := Lib.hid hr
  clear hE hS hv hr
  go_enter Try.func102, Try.ntmps102
  go_wp2_with fail
  rw [← hW0]
  clear hW0
  obtain ⟨a, hA⟩ : ∃ a, a = w.heap.size + 2 := ⟨_, rfl⟩
  obtain ⟨d, hD⟩ : ∃ d, d = w.heap.size + 1 := ⟨_, rfl⟩
  rw [← hA] at A0 NE ⊢
  rw [← hD] at B0 ⊢
  have da : d ≠ a ∧ w.heap.size ≤ d ∧ w.heap.size ≤ a := by omega
  clear hA hD
  refine (echReduce base g a q S pv ps ([x, y, z, t] ++ Sp.none8) W0 E0.out A0.out RV.out RS.out NE.out).mono ?_
  rintro e w2 ⟨rfl, hg, hA2⟩
  have RR := Lib.hid (Sp.red_row RS.out RV.out 4)
  rw [HR.out] at hA2 RR
  have B2 := Lib.hid (B0.out.kept hg (fun e => da.1 (by injection e)))
  have A2 := Lib.hid hA2
  have G2 : Hid (w.grownBy w2 none) := Lib.hid (grown_own G0.out hg (fun k hk => by injection hk with hk; omega))
  clear hg hA2 E0 A0 B0 G0 E
  obtain ⟨x1, y1, z1, t1, r1, hre, _, _⟩ := four_of_row RR.out
  have a0 : w2.cell? ⟨a, 0, none⟩ = some (.int .i64 x1) := by have := A2.out.cell (i := 0) (by rw [RR.out.1]; omega); rw [hre] at this; exact this
  have a1 : w2.cell? ⟨a, 1, none⟩ = some (.int .i64 y1) := by have := A2.out.cell (i := 1) (by rw [RR.out.1]; omega); rw [hre] at this; exact this
  have a2 : w2.cell? ⟨a, 2, none⟩ = some (.int .i64 z1) := by have := A2.out.cell (i := 2) (by rw [RR.out.1]; omega); rw [hre] at this; exact this
  have a3 : w2.cell? ⟨a, 3, none⟩ = some (.int .i64 t1) := by have := A2.out.cell (i := 3) (by rw [RR.out.1]; omega); rw [hre] at this; exact this
  have TK : Hid (r.take 4 = [x1, y1, z1, t1]) := Lib.hid (by rw [hre]; rfl)
  clear hre
  go_wp2_with fail
  refine (rowLead x1 y1 z1 t1 _).mono ?_
  rintro e w3 ⟨rfl, hg⟩
  have A3 := Lib.hid (A2.out.still hg)
  have B3 := Lib.hid (B2.out.still hg)
  have G3 := Lib.hid (grown_trans G2.out hg)
  clear hg a0 a1 a2 a3 A2 B2 G2
  obtain ⟨ld, hld⟩ : ∃ ld, Vec.first [x1, y1, z1, t1] 0 = ld := ⟨_, rfl⟩
  rw [hld]
  have LD : Hid (Vec.first (r.take 4) 0 = ld) := Lib.hid (by rw [TK.out]; exact hld)
  clear hld TK
  by_cases hpos : ld ≥ 0
  · have d0 : w3.cell? ⟨d, 0, none⟩ = some (.int .i64 0) := B3.out.cell (by simp)
    have d1 : w3.cell? ⟨d, 1, none⟩ = some (.int .i64 0) := B3.out.cell (by simp)
    have d2 : w3.cell? ⟨d, 2, none⟩ = some (.int .i64 0) := B3.out.cell (by simp)
    have d3 : w3.cell? ⟨d, 3, none⟩ = some (.int .i64 0) := B3.out.cell (by simp)
    have d4 : w3.cell? ⟨d, 4, none⟩ = some (.int .i64 0) := B3.out.cell (by simp)
    have d5 : w3.cell? ⟨d, 5, none⟩ = some (.int .i64 0) := B3.out.cell (by simp)
    have d6 : w3.cell? ⟨d, 6, none⟩ = some (.int .i64 0) := B3.out.cell (by simp)
    have d7 : w3.cell? ⟨d, 7, none⟩ = some (.int .i64 0) := B3.out.cell (by simp)
    have f0 := B3.out.frozen 0
    have f1 := B3.out.frozen 1
    have f2 := B3.out.frozen 2
    have f3 := B3.out.frozen 3
    have f4 := B3.out.frozen 4
    have f5 := B3.out.frozen 5
    have f6 := B3.out.frozen 6
    have f7 := B3.out.frozen 7
    have NN : Hid (0 ≤ Vec.first (r.take 4) 0) := Lib.hid (by rw [LD.out]; omega)
    have sd := da.2.1
    go_wp2_with fail
    refine bodyPost_ret (v := .tuple #[.agg #[.int .i64 0, .int .i64 0, .int .i64 0, .int .i64 0, .int .i64 0, .int .i64 0, .int .i64 0, .int .i64 0], .bool false]) (by simp [results, Try.results102, go_sem, d0, d1, d2, d3, d4, d5, d6, d7]) rfl ⟨?_, .inr ⟨Int.not_lt.2 NN.out, rfl⟩⟩
    repeat' first | with_reducible exact G3.out | refine grown_set ?_ sd _
  · have NN : Hid (Vec.first (r.take 4) 0 < 0) := Lib.hid (by rw [LD.out]; omega)
    go_wp2_with fail
    refine (elemDif 0 1 _ rfl rfl).mono ?_
    rintro e w' ⟨rfl, rfl⟩
    rw [show ((0 : Int) - 1) % 31 = 30 by decide]
    go_wp2_with fail
    refine (lineScale a r 30 _ A3.out RR.out rfl).mono ?_
    rintro e w4 ⟨rfl, hg, hA4⟩
    have B4 := B3.out.kept hg (fun e => da.1 (by injection e))
    have G4 := Lib.hid (grown_own G3.out hg (fun k hk => by injection hk with hk; omega))
    have hl12 := (Sp.row_lmul RR.out 30).1
    obtain ⟨s, hs⟩ : ∃ s, Sp.lmul r 30 = s := ⟨_, rfl⟩
    rw [hs] at hA4 hl12
    have HS := Lib.hid hs
    clear hg hs
    obtain ⟨s0, s1, s2, s3, s4, s5, s6, s7, s8, s9, sa, sb, rfl⟩ := eight_of hl12
    have c4 : w4.cell? ⟨a, 4, none⟩ = some (.int .i64 s4) := hA4.cell (by simp)
    have c5 : w4.cell? ⟨a, 5, none⟩ = some (.int .i64 s5) := hA4.cell (by simp)
    have c6 : w4.cell? ⟨a, 6, none⟩ = some (.int .i64 s6) := hA4.cell (by simp)
    have c7 : w4.cell? ⟨a, 7, none⟩ = some (.int .i64 s7) := hA4.cell (by simp)
    have c8 : w4.cell? ⟨a, 8, none⟩ = some (.int .i64 s8) := hA4.cell (by simp)
    have c9 : w4.cell? ⟨a, 9, none⟩ = some (.int .i64 s9) := hA4.cell (by simp)
    have ca : w4.cell? ⟨a, 10, none⟩ = some (.int .i64 sa) := hA4.cell (by simp)
    have cb : w4.cell? ⟨a, 11, none⟩ = some (.int .i64 sb) := hA4.cell (by simp)
    have d0 : w4.cell? ⟨d, 0, none⟩ = some (.int .i64 0) := B4.cell (by simp)
    have d1 : w4.cell? ⟨d, 1, none⟩ = some (.int .i64 0) := B4.cell (by simp)
    have d2 : w4.cell? ⟨d, 2, none⟩ = some (.int .i64 0) := B4.cell (by simp)
    have d3 : w4.cell? ⟨d, 3, none⟩ = some (.int .i64 0) := B4.cell (by simp)
    have d4 : w4.cell? ⟨d, 4, none⟩ = some (.int .i64 0) := B4.cell (by simp)
    have d5 : w4.cell? ⟨d, 5, none⟩ = some (.int .i64 0) := B4.cell (by simp)
    have d6 : w4.cell? ⟨d, 6, none⟩ = some (.int .i64 0) := B4.cell (by simp)
    have d7 : w4.cell? ⟨d, 7, none⟩ = some (.int .i64 0) := B4.cell (by simp)
    have f0 := B4.frozen 0
    have f1 := B4.frozen 1
    have f2 := B4.frozen 2
    have f3 := B4.frozen 3
    have f4 := B4.frozen 4
    have f5 := B4.frozen 5
    have f6 := B4.frozen 6
    have f7 := B4.frozen 7
    have sd := da.2.1
    clear hA4 B4 hl12
    go_wp2_with fail
    refine bodyPost_ret (v := .tuple #[.agg #[.int .i64 s4, .int .i64 s5, .int .i64 s6, .int .i64 s7, .int .i64 s8, .int .i64 s9, .int .i64 sa, .int .i64 sb], .bool true]) (by simp [results, Try.results102, go_sem, d0, d1, d2, d3, d4, d5, d6, d7]) rfl ⟨?_, .inl ⟨NN.out, by rw [HS.out]; rfl⟩⟩
    repeat' first | with_reducible exact G4.out | refine grown_set ?_ sd _
end Go.Proofs.Ytbpkfcaokbidnab
