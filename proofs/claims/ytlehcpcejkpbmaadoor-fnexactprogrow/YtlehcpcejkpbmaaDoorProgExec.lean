/-
  The contract of the program's execute, on elements: what operations make of values.
  Conditions: none.
-/
import Derived.Test.YtlehcpcejkpbmaaDoorProgOfP
import Derived.Deep.RegionHeld3
namespace Go.Proofs.YtlehcpcejkpbmaaDoor
open Go.RowKit
set_option linter.unusedVariables false

/-- the results behind the first n steps. -/
def resL (a : List Int) (L : List Stp) (n : Nat) : List Int := runS a (L.take n) ++ List.replicate (16 - n) 0
theorem resL_len {a : List Int} {L : List Stp} {n : Nat} (hn : n ≤ L.length) (h : n ≤ 16) : (resL a L n).length = 16 := by
  rw [resL, List.length_append, runS_len, List.length_take, List.length_replicate]; omega
theorem resL_get {a : List Int} {L : List Stp} {n p : Nat} (hn : n ≤ L.length) (hp : p < n) : (resL a L n).getD p 0 = (runS a (L.take n)).getD p 0 :=
  getD_left (by rw [runS_len, List.length_take]; omega)
theorem resL_set {a : List Int} {L : List Stp} {n : Nat} (hn : n < L.length) (h : n < 16) : (resL a L n).set n (stepV a (runS a (L.take n)) (L.getD n szero)) = resL a L (n + 1) := by
  have hl : (runS a (L.take n)).length = n := by rw [runS_len, List.length_take]; omega
  unfold resL
  rw [List.set_append_right _ _ (by omega), hl, Nat.sub_self, take_snocS hn, runS_snoc, List.append_assoc]
  congr 1
  rw [show 16 - n = (16 - (n + 1)) + 1 by omega, List.replicate_succ]
  rfl
theorem below_m {m : Int} {n : Nat} (h0 : 0 ≤ m) (h1 : m < n) : ∃ j : Nat, j < n ∧ m = j := ⟨m.toNat, by omega, by omega⟩
theorem resL_zero (a : List Int) (L : List Stp) : resL a L 0 = [0, 0, 0, 0, 0, 0, 0, 0, 0, 0, 0, 0, 0, 0, 0, 0] := rfl
theorem elemScale (a b : Int) (w : World) (ha : Fld.ok a = true) (hb : Fld.ok b = true) : Calls Tryd.prog 120 #[.int .i64 a, .int .i64 b] w fun e w' => e = .returned (.int .i64 (a * b % 31)) ∧ w' = w := by
  go_enter Tryd.func120, Tryd.ntmps120
  go_wp2_with fail
  refine (elemMul a b _ ha hb).mono ?_
  rintro e w' ⟨rfl, rfl⟩
  go_wp2_with fail
  go_ret
  exact ⟨rfl, rfl⟩
theorem taLL (x y : Int) (W : World) : (Instr.typeAssert (.iface 121 (.agg #[.int .i64 x, .int .i64 y])) 113 121 true).run Tryd.prog W = .ok (.tuple #[.agg #[.int .i64 x, .int .i64 y], .bool true]) W := by kernel_rfl
theorem taLM (x y : Int) (W : World) : (Instr.typeAssert (.iface 121 (.agg #[.int .i64 x, .int .i64 y])) 113 123 true).run Tryd.prog W = .ok (.tuple #[.agg #[.int .i64 0, .int .i64 0], .bool false]) W := by kernel_rfl
theorem taLA (x y : Int) (W : World) : (Instr.typeAssert (.iface 121 (.agg #[.int .i64 x, .int .i64 y])) 113 125 true).run Tryd.prog W = .ok (.tuple #[.agg #[.int .i64 0, .int .i64 0], .bool false]) W := by kernel_rfl
theorem taML (x y : Int) (W : World) : (Instr.typeAssert (.iface 123 (.agg #[.int .i64 x, .int .i64 y])) 113 121 true).run Tryd.prog W = .ok (.tuple #[.agg #[.int .i64 0, .int .i64 0], .bool false]) W := by kernel_rfl
theorem taMM (x y : Int) (W : World) : (Instr.typeAssert (.iface 123 (.agg #[.int .i64 x, .int .i64 y])) 113 123 true).run Tryd.prog W = .ok (.tuple #[.agg #[.int .i64 x, .int .i64 y], .bool true]) W := by kernel_rfl
theorem taMA (x y : Int) (W : World) : (Instr.typeAssert (.iface 123 (.agg #[.int .i64 x, .int .i64 y])) 113 125 true).run Tryd.prog W = .ok (.tuple #[.agg #[.int .i64 0, .int .i64 0], .bool false]) W := by kernel_rfl
theorem taAL (x y : Int) (W : World) : (Instr.typeAssert (.iface 125 (.agg #[.int .i64 x, .int .i64 y])) 113 121 true).run Tryd.prog W = .ok (.tuple #[.agg #[.int .i64 0, .int .i64 0], .bool false]) W := by kernel_rfl
theorem taAM (x y : Int) (W : World) : (Instr.typeAssert (.iface 125 (.agg #[.int .i64 x, .int .i64 y])) 113 123 true).run Tryd.prog W = .ok (.tuple #[.agg #[.int .i64 0, .int .i64 0], .bool false]) W := by kernel_rfl
theorem taAA (x y : Int) (W : World) : (Instr.typeAssert (.iface 125 (.agg #[.int .i64 x, .int .i64 y])) 113 125 true).run Tryd.prog W = .ok (.tuple #[.agg #[.int .i64 x, .int .i64 y], .bool true]) W := by kernel_rfl
/-- where the run stands. -/
structure Running (w : World) (ga gr : Nat) (a : List Int) (L : List Stp) (n : Nat) (wr : World) : Prop where
  grown : w.grownBy wr none
  arg : Arr wr ga 68 a
  res : Arr wr gr 119 (resL a L n)

set_option maxHeartbeats 8000000 in
set_option maxRecDepth 20000 in
theorem execElem (v : Value) (L : List Stp) (a : List Int) (base : Nat) (w : World) (h8 : a.length = 8) (hok : ∀ i, Fld.ok (a.getD i 0) = true) (hP : Prg w base v L) (hL : Oks L) (h1 : 1 ≤ L.length) (h16 : L.length ≤ 16) :
    Calls Tryd.prog 52 #[v, .agg (vals a).toArray] w fun e w' => e = .returned (.int .i64 (runV a L)) ∧ w.grownBy w' none := by
  have A0 : Hid (Arr ((w.alloc (.cells (vals a).toArray 68)).alloc (.cells #[.int .i64 0, .int .i64 0, .int .i64 0, .int .i64 0, .int .i64 0, .int .i64 0, .int .i64 0, .int .i64 0, .int .i64 0, .int .i64 0, .int .i64 0, .int .i64 0, .int .i64 0, .int .i64 0, .int .i64 0, .int .i64 0] 119)) w.heap.size 68 a) := Lib.hid ((Arr.new w _ _).alloc _)
  have S0 : Hid (Arr ((w.alloc (.cells (vals a).toArray 68)).alloc (.cells #[.int .i64 0, .int .i64 0, .int .i64 0, .int .i64 0, .int .i64 0, .int .i64 0, .int .i64 0, .int .i64 0, .int .i64 0, .int .i64 0, .int .i64 0, .int .i64 0, .int .i64 0, .int .i64 0, .int .i64 0, .int .i64 0] 119)) (w.heap.size + 1) 119 (resL a L 0)) := Lib.hid (by
    have := Arr.new (w.alloc (.cells (vals a).toArray 68)) 119 [0, 0, 0, 0, 0, 0, 0, 0, 0, 0, 0, 0, 0, 0, 0, 0]
    rw [World.size_alloc] at this
    rw [resL_zero]
    exact this)
  have G0 : Hid (w.grownBy ((w.alloc (.cells (vals a).toArray 68)).alloc (.cells #[.int .i64 0, .int .i64 0, .int .i64 0, .int .i64 0, .int .i64 0, .int .i64 0, .int .i64 0, .int .i64 0, .int .i64 0, .int .i64 0, .int .i64 0, .int .i64 0, .int .i64 0, .int .i64 0, .int .i64 0, .int .i64 0] 119)) none) := Lib.hid (grown_alloc (grown_alloc (World.grownBy.refl _ _) _) _)
  have PH := Lib.hid hP
  have LO := Lib.hid hL
  have OKV := Lib.hid hok
  have H8 := Lib.hid h8
  obtain ⟨pa, pc, pe, p1, p2⟩ := hP.form
  subst pe
  unfold maxLen at p2
  obtain ⟨len, hlen⟩ : ∃ n, n = L.length := ⟨_, rfl⟩
  rw [← hlen] at h1 h16 p1 ⊢
  have LN := Lib.hid hlen
  clear hP hL hok h8 hlen
  go_enter Tryd.func52, Tryd.ntmps52
  go_upto_region 2 with fail
  generalize ((w.alloc (.cells (vals a).toArray 68)).alloc (.cells #[.int .i64 0, .int .i64 0, .int .i64 0, .int .i64 0, .int .i64 0, .int .i64 0, .int .i64 0, .int .i64 0, .int .i64 0, .int .i64 0, .int .i64 0, .int .i64 0, .int .i64 0, .int .i64 0, .int .i64 0, .int .i64 0] 119)) = W0 at *
  obtain ⟨ga, hga⟩ : ∃ g, g = w.heap.size := ⟨_, rfl⟩
  obtain ⟨gr, hgr⟩ : ∃ g, g = w.heap.size + 1 := ⟨_, rfl⟩
  rw [← hga] at A0
  rw [← hgr] at S0
  have BG : ga ≠ gr ∧ w.heap.size ≤ gr := by omega
  rw [← hgr, ← hga]
  clear hga hgr
  have RU0 : Hid (Running w ga gr a L 0 W0) := Lib.hid ⟨G0.out, A0.out, S0.out⟩
  clear G0 A0 S0
  go_wp2_with fail
  go_loopw [13] (fun i wr => ∃ n : Nat, n ≤ len ∧ i = .int .i64 n ∧ Running w ga gr a L n wr) (fun i _ => len - (intOf i).toNat)
  case atStart => exact ⟨0, by omega, rfl, RU0.out⟩
  case round =>
    obtain ⟨n, hn, rfl, hru⟩ := hrel
    have RU := Lib.hid hru
    clear hru RU0
    by_cases hlt : n < len
    · have hlt' : (n : Int) < (len : Int) := by omega
      have hn16 : (n : Int) < 16 := by omega
      have hnL : n < L.length := by rw [← LN.out]; exact hlt
      obtain ⟨g, c, e, _, cx⟩ := (PH.out.still RU.out.grown).at_ hnL
      injection e with e1 e2 e3
      subst e1 e3
      clear e2
      have OK := LO.out n hnL
      have SET := Lib.hid (resL_set (a := a) hnL (show n < 16 by omega))
      have LEN : (resL a L n).length = 16 := resL_len (by omega) (by omega)
      have GET := Lib.hid (fun p (hp : p < n) => resL_get (a := a) (L := L) (n := n) (by omega) hp)
      generalize hs : L.getD n szero = s at *
      clear hs
      obtain ⟨o, x, y⟩ := s
      rcases OK with ⟨ho, hx, hy⟩ | ⟨ho, hx, hy⟩ | ⟨ho, hx, hy⟩
      · have ho' : o = 1 := ho
        have hy' : y = 0 := hy
        subst ho' hy'
        obtain ⟨j, hj, rfl⟩ := below_m (n := 8) hx.1 hx.2
        clear ho hy hx
        have cx' : wr.cell? ⟨g, n, none⟩ = some (.iface 121 (.agg #[.int .i64 j, .int .i64 0])) := cx
        clear cx
        have AL := Lib.hid (RU.out.arg.alloc (.cells #[.int .i64 j, .int .i64 0] 121))
        have SL := Lib.hid (RU.out.res.alloc (.cells #[.int .i64 j, .int .i64 0] 121))
        have GL : Hid (w.grownBy (wr.alloc (.cells #[.int .i64 j, .int .i64 0] 121)) none) := Lib.hid (grown_alloc RU.out.grown _)
        have KL : Hid (Blk (wr.alloc (.cells #[.int .i64 j, .int .i64 0] 121)) wr.heap.size 121 [.int .i64 j, .int .i64 0]) := Lib.hid (heap_alloc_new _ _)
        have hj' : (j : Int) < 8 := by omega
        have tL := taLL (j) (0) wr
        have tM := taLM (j) (0) wr
        have tA := taLA (j) (0) wr
        go_upto_region 8 with fail
        clear tL tM tA
        generalize wr.alloc (.cells #[.int .i64 j, .int .i64 0] 121) = w1 at *
        generalize wr.heap.size = bp at *
        clear cx'
        have k0 := KL.out.cell (i := 0) rfl
        have ca := AL.out.cell (i := j) (by rw [H8.out]; omega)
        have fr := SL.out.frozen n
        have cr := SL.out.cell (i := n) (by rw [LEN]; omega)
        obtain ⟨x, hx⟩ : ∃ x, a.getD j 0 = x := ⟨_, rfl⟩
        rw [hx] at ca
        have RN : Hid (Running w ga gr a L (n + 1) (w1.setCell ⟨gr, n, none⟩ (.int .i64 x))) := Lib.hid ⟨grown_set GL.out (p := ⟨gr, n, none⟩) BG.2 _, AL.out.far (p := ⟨gr, n, none⟩) BG.1 _, by
          rw [← SET.out, show stepV a (runS a (L.take n)) ⟨1, (j : Int), 0⟩ = x by rw [← hx]; rfl]; exact SL.out.put n x⟩
        obtain ⟨old, hold⟩ : ∃ x, (resL a L n).getD n 0 = x := ⟨_, rfl⟩
        rw [hold] at cr
        clear hold hx AL SL GL KL RU SET GET
        go_wp2_with fail
        go_roundw
        case rel => exact ⟨n + 1, by omega, by go_num, RN.out⟩
        case measure => simp [intOf]; omega
      · have ho' : o = 2 := ho
        subst ho'
        obtain ⟨j, hj, hje⟩ := below_m (n := n) hx.1 hx.2
        have hje' : x = j := hje
        subst hje'
        have OY : Hid (Fld.ok y = true) := Lib.hid hy
        clear ho hy hx hje
        have cx' : wr.cell? ⟨g, n, none⟩ = some (.iface 123 (.agg #[.int .i64 j, .int .i64 y])) := cx
        clear cx
        have AL := Lib.hid (RU.out.arg.alloc (.cells #[.int .i64 j, .int .i64 y] 123))
        have SL := Lib.hid (RU.out.res.alloc (.cells #[.int .i64 j, .int .i64 y] 123))
        have hbp : gr < wr.heap.size := RU.out.res.lt
        have GL : Hid (w.grownBy (wr.alloc (.cells #[.int .i64 j, .int .i64 y] 123)) none) := Lib.hid (grown_alloc RU.out.grown _)
        have KL : Hid (Blk (wr.alloc (.cells #[.int .i64 j, .int .i64 y] 123)) wr.heap.size 123 [.int .i64 j, .int .i64 y]) := Lib.hid (heap_alloc_new _ _)
        have hj' : (j : Int) < 16 := by omega
        have tL := taML (j) (y) wr
        have tM := taMM (j) (y) wr
        have tA := taMA (j) (y) wr
        go_upto_region 11 with fail
        clear tL tM tA
        generalize wr.alloc (.cells #[.int .i64 j, .int .i64 y] 123) = w1 at *
        generalize wr.heap.size = bp at *
        clear cx'
        obtain ⟨r, hr⟩ : ∃ r, (resL a L n).getD j 0 = r := ⟨_, rfl⟩
        have hr2 : (runS a (L.take n)).getD j 0 = r := by rw [← GET.out j hj]; exact hr
        have OR : Hid (Fld.ok r = true) := Lib.hid (by rw [← hr2]; exact runS_ok OKV.out _ _)
        have RN : Hid (Running w ga gr a L (n + 1) (w1.drew.setCell ⟨gr, n, none⟩ (.int .i64 (r * y % 31)))) := Lib.hid ⟨grown_set (grown_drew GL.out) (p := ⟨gr, n, none⟩) BG.2 _, AL.out.drew.far (p := ⟨gr, n, none⟩) BG.1 _, by
          rw [← SET.out, show stepV a (runS a (L.take n)) ⟨2, (j : Int), y⟩ = r * y % 31 by rw [← hr2]; rfl]; exact SL.out.drew.put n _⟩
        have x1 : w1.drew.cell? ⟨bp, 0, none⟩ = some (.int .i64 j) := KL.out.cell (i := 0) rfl
        have x2 : w1.drew.cell? ⟨bp, 1, none⟩ = some (.int .i64 y) := KL.out.cell (i := 1) rfl
        have x3 : w1.drew.cell? ⟨gr, j, none⟩ = some (.int .i64 r) := by rw [← hr]; exact SL.out.drew.cell (by rw [LEN]; omega)
        have KZ : Blk (w1.setCell ⟨gr, n, none⟩ (.int .i64 (r * y % 31))) bp 123 [.int .i64 j, .int .i64 y] := (Below.heap_setCell _ _ _ _ (by show bp ≠ gr; omega)).trans KL.out
        have SZ : Arr (w1.setCell ⟨gr, n, none⟩ (.int .i64 (r * y % 31))) gr 119 ((resL a L n).set n (r * y % 31)) := SL.out.put n _
        have z1 : (w1.setCell ⟨gr, n, none⟩ (.int .i64 (r * y % 31))).drew.cell? ⟨bp, 0, none⟩ = some (.int .i64 j) := KZ.cell (i := 0) rfl
        have z2 : (w1.setCell ⟨gr, n, none⟩ (.int .i64 (r * y % 31))).drew.cell? ⟨bp, 1, none⟩ = some (.int .i64 y) := KZ.cell (i := 1) rfl
        have z3 : (w1.setCell ⟨gr, n, none⟩ (.int .i64 (r * y % 31))).drew.cell? ⟨gr, j, none⟩ = some (.int .i64 r) := by
          have := SZ.cell (i := j) (by rw [List.length_set, LEN]; omega)
          rw [show ((resL a L n).set n (r * y % 31)).getD j 0 = r from Eq.trans (by simp [List.getD_eq_getElem?_getD, show n ≠ j by omega]) hr] at this
          exact this
        clear KZ SZ
        have fr := SL.out.drew.frozen n
        have cr := SL.out.drew.cell (i := n) (by rw [LEN]; omega)
        obtain ⟨old, hold⟩ : ∃ x, (resL a L n).getD n 0 = x := ⟨_, rfl⟩
        rw [hold] at cr
        clear hold hr hr2 AL SL GL KL RU SET GET
        go_wp2_with fail
        go_region_held3 (fun w' => w'.cell? ⟨bp, 0, none⟩ = some (.int .i64 j) ∧ w'.cell? ⟨bp, 1, none⟩ = some (.int .i64 y) ∧ w'.cell? ⟨gr, j, none⟩ = some (.int .i64 r))
          (first | with_reducible exact ⟨x1, x2, x3⟩ | with_reducible exact ⟨z1, z2, z3⟩)
          (first | (go_at_call 120; refine (elemScale r y _ OR.out OY.out).mono ?_; rintro e w2 ⟨rfl, rfl⟩))
        go_wp2_with fail
        go_roundw
        case rel => exact ⟨n + 1, by omega, by go_num, RN.out⟩
        case measure => simp [intOf]; omega
      · have ho' : o = 3 := ho
        subst ho'
        obtain ⟨j, hj, hje⟩ := below_m (n := n) hx.1 hx.2
        have hje' : x = j := hje
        subst hje'
        obtain ⟨i, hi, hie⟩ := below_m (n := n) hy.1 hy.2
        have hie' : y = i := hie
        subst hie'
        clear ho hy hx hje hie
        have cx' : wr.cell? ⟨g, n, none⟩ = some (.iface 125 (.agg #[.int .i64 j, .int .i64 i])) := cx
        clear cx
        have AL := Lib.hid (RU.out.arg.alloc (.cells #[.int .i64 j, .int .i64 i] 125))
        have SL := Lib.hid (RU.out.res.alloc (.cells #[.int .i64 j, .int .i64 i] 125))
        have hbp : gr < wr.heap.size := RU.out.res.lt
        have GL : Hid (w.grownBy (wr.alloc (.cells #[.int .i64 j, .int .i64 i] 125)) none) := Lib.hid (grown_alloc RU.out.grown _)
        have KL : Hid (Blk (wr.alloc (.cells #[.int .i64 j, .int .i64 i] 125)) wr.heap.size 125 [.int .i64 j, .int .i64 i]) := Lib.hid (heap_alloc_new _ _)
        have hj' : (j : Int) < 16 := by omega
        have hi' : (i : Int) < 16 := by omega
        have tL := taAL (j) (i) wr
        have tM := taAM (j) (i) wr
        have tA := taAA (j) (i) wr
        go_upto_region 14 with fail
        clear tL tM tA
        generalize wr.alloc (.cells #[.int .i64 j, .int .i64 i] 125) = w1 at *
        generalize wr.heap.size = bp at *
        clear cx'
        obtain ⟨r, hr⟩ : ∃ r, (resL a L n).getD j 0 = r := ⟨_, rfl⟩
        have hr2 : (runS a (L.take n)).getD j 0 = r := by rw [← GET.out j hj]; exact hr
        obtain ⟨s, hs⟩ : ∃ s, (resL a L n).getD i 0 = s := ⟨_, rfl⟩
        have hs2 : (runS a (L.take n)).getD i 0 = s := by rw [← GET.out i hi]; exact hs
        have OR : Hid (Fld.ok r = true) := Lib.hid (by rw [← hr2]; exact runS_ok OKV.out _ _)
        have OS : Hid (Fld.ok s = true) := Lib.hid (by rw [← hs2]; exact runS_ok OKV.out _ _)
        have RN : Hid (Running w ga gr a L (n + 1) (w1.drew.setCell ⟨gr, n, none⟩ (.int .i64 ((r + s) % 31)))) := Lib.hid ⟨grown_set (grown_drew GL.out) (p := ⟨gr, n, none⟩) BG.2 _, AL.out.drew.far (p := ⟨gr, n, none⟩) BG.1 _, by
          rw [← SET.out, show stepV a (runS a (L.take n)) ⟨3, (j : Int), (i : Int)⟩ = (r + s) % 31 by rw [← hr2, ← hs2]; rfl]; exact SL.out.drew.put n _⟩
        have x1 : w1.drew.cell? ⟨bp, 0, none⟩ = some (.int .i64 j) := KL.out.cell (i := 0) rfl
        have x2 : w1.drew.cell? ⟨bp, 1, none⟩ = some (.int .i64 i) := KL.out.cell (i := 1) rfl
        have x3 : w1.drew.cell? ⟨gr, j, none⟩ = some (.int .i64 r) := by rw [← hr]; exact SL.out.drew.cell (by rw [LEN]; omega)
        have x4 : w1.drew.cell? ⟨gr, i, none⟩ = some (.int .i64 s) := by rw [← hs]; exact SL.out.drew.cell (by rw [LEN]; omega)
        have KZ : Blk (w1.setCell ⟨gr, n, none⟩ (.int .i64 ((r + s) % 31))) bp 125 [.int .i64 j, .int .i64 i] := (Below.heap_setCell _ _ _ _ (by show bp ≠ gr; omega)).trans KL.out
        have SZ : Arr (w1.setCell ⟨gr, n, none⟩ (.int .i64 ((r + s) % 31))) gr 119 ((resL a L n).set n ((r + s) % 31)) := SL.out.put n _
        have z1 : (w1.setCell ⟨gr, n, none⟩ (.int .i64 ((r + s) % 31))).drew.cell? ⟨bp, 0, none⟩ = some (.int .i64 j) := KZ.cell (i := 0) rfl
        have z2 : (w1.setCell ⟨gr, n, none⟩ (.int .i64 ((r + s) % 31))).drew.cell? ⟨bp, 1, none⟩ = some (.int .i64 i) := KZ.cell (i := 1) rfl
        have z3 : (w1.setCell ⟨gr, n, none⟩ (.int .i64 ((r + s) % 31))).drew.cell? ⟨gr, j, none⟩ = some (.int .i64 r) := by
          have := SZ.cell (i := j) (by rw [List.length_set, LEN]; omega)
          rw [show ((resL a L n).set n ((r + s) % 31)).getD j 0 = r from Eq.trans (by simp [List.getD_eq_getElem?_getD, show n ≠ j by omega]) hr] at this
          exact this
        have z4 : (w1.setCell ⟨gr, n, none⟩ (.int .i64 ((r + s) % 31))).drew.cell? ⟨gr, i, none⟩ = some (.int .i64 s) := by
          have := SZ.cell (i := i) (by rw [List.length_set, LEN]; omega)
          rw [show ((resL a L n).set n ((r + s) % 31)).getD i 0 = s from Eq.trans (by simp [List.getD_eq_getElem?_getD, show n ≠ i by omega]) hs] at this
          exact this
        clear KZ SZ
        have fr := SL.out.drew.frozen n
        have cr := SL.out.drew.cell (i := n) (by rw [LEN]; omega)
        obtain ⟨old, hold⟩ : ∃ x, (resL a L n).getD n 0 = x := ⟨_, rfl⟩
        rw [hold] at cr
        clear hold hr hr2 hs hs2 AL SL GL KL RU SET GET
        go_wp2_with fail
        go_region_held3 (fun w' => w'.cell? ⟨bp, 0, none⟩ = some (.int .i64 j) ∧ w'.cell? ⟨bp, 1, none⟩ = some (.int .i64 i) ∧ w'.cell? ⟨gr, j, none⟩ = some (.int .i64 r) ∧ w'.cell? ⟨gr, i, none⟩ = some (.int .i64 s))
          (first | with_reducible exact ⟨x1, x2, x3, x4⟩ | with_reducible exact ⟨z1, z2, z3, z4⟩)
          (first | (go_at_call 70; refine (stillSum r s _ OR.out OS.out).mono ?_; rintro e w2 ⟨rfl, rfl⟩))
        go_wp2_with fail
        go_roundw
        case rel => exact ⟨n + 1, by omega, by go_num, RN.out⟩
        case measure => simp [intOf]; omega
    · obtain rfl : n = len := by omega
      have hi : ¬ (n : Int) < (n : Int) := by omega
      have LEN : (resL a L n).length = 16 := resL_len (by rw [LN.out]; omega) (by omega)
      obtain ⟨m, rfl⟩ : ∃ m, n = m + 1 := ⟨n - 1, by omega⟩
      have VAL : Hid ((resL a L (m + 1)).getD m 0 = runV a L) := Lib.hid (by
        rw [resL_get (by rw [← LN.out]; omega) (by omega), LN.out, List.take_length]
        unfold runV
        rw [← LN.out]; rfl)
      have cr := RU.out.res.cell (i := m) (by rw [LEN]; omega)
      obtain ⟨x, hx⟩ : ∃ x, (resL a L (m + 1)).getD m 0 = x := ⟨_, rfl⟩
      rw [hx] at cr
      have XV := Lib.hid hx
      have hm1 : ((m + 1 : Nat) : Int) - 1 = m := by omega
      have hm2 : (m : Int) < 16 := by omega
      clear hx LEN
      go_wp2_with fail
      go_ret
      exact ⟨by rw [← VAL.out, XV.out]; rfl, RU.out.grown⟩
end Go.Proofs.YtlehcpcejkpbmaaDoor
