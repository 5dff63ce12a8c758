/-
  The contract of the program's ProgRow.
  Conditions: none.
-/
import Derived.Test.YtlehcpcejkpbmaaDoorProgExecR
import Derived.Test.YtlehcpcejkpbmaaDoorG3
namespace Go.Proofs.YtlehcpcejkpbmaaDoor
open Go.RowKit
set_option linter.unusedVariables false

/-- what ProgRow answers. -/
def prB (k : Int) (L : List Stp) : Bool := decide (k = 1 ∨ k = 2) && progOk L
def prR (k : Int) (L : List Stp) : List Int := bif prB k L then rowV k.toNat L else []
theorem prB_yes {k : Nat} (hk : k = 1 ∨ k = 2) (L : List Stp) : prB (k : Int) L = progOk L := by
  unfold prB
  rw [decide_eq_true (show (k : Int) = 1 ∨ (k : Int) = 2 by omega)]
  rfl
theorem prB_no {k : Int} (h1 : k ≠ 1) (h2 : k ≠ 2) (L : List Stp) : prB k L = false := by
  unfold prB
  rw [decide_eq_false (by omega)]
  rfl

set_option maxHeartbeats 4000000 in
set_option maxRecDepth 20000 in
theorem progRowYes {k : Nat} (hk : k = 1 ∨ k = 2) (v : Value) (L : List Stp) (e : Addr) (w : World) (h : SSl w v L) (hE : Sent w e) :
    Calls Tryd.prog 24 #[.int .i64 k, v] w (NewInts2 (prR k L) (prB k L) w) := by
  have H := Lib.hid h
  have E := Lib.hid hE
  obtain ⟨a1, c1, rfl, _, _, _⟩ := h
  obtain ⟨n, hn⟩ : ∃ n, n = L.length := ⟨_, rfl⟩
  rw [← hn] at H ⊢
  clear hn hE
  have PB := Lib.hid (prB_yes hk L)
  have PR : Hid (prR (k : Int) L = bif prB (k : Int) L then rowV k L else []) := Lib.hid (by unfold prR; rw [Int.toNat_natCast])
  generalize prR (k : Int) L = ar at *
  generalize prB (k : Int) L = ab at *
  have GY := Lib.hid (fun w => genYes hk w)
  have EX := Lib.hid (fun v base w hP hL h1 h16 => execRow hk v L base w hP hL h1 h16)
  have GL := grid_len k hk
  have RO : Hid (Vec.ok (rowV k L) = true) := Lib.hid (rowR_ok hk L _)
  have R4 := Lib.hid (rowR_four k L (L.length - 1))
  obtain ⟨r0, r1, r2, r3, hr⟩ : ∃ a b c d, rowV k L = [a, b, c, d] := R4.out
  rw [hr] at PR EX RO
  clear R4 hr
  generalize grid k = l at *
  go_enter Tryd.func24, Tryd.ntmps24
  go_wp2_with fail
  refine (GY.out _).mono ?_
  rintro en w1 ⟨rfl, hg⟩
  have hs := storeNew w1 GL
  have hv : (vals l).length = 32 := by rw [vals_length]; exact GL
  have G2 := Lib.hid (grown_alloc hg (.cells (vals l).toArray 85))
  have A2 := Lib.hid (Arr.new w1 85 l)
  have LL := Lib.hid GL
  clear GL GY hg
  go_upto_region 2 with fail
  clear hs hv
  generalize w1.alloc (.cells (vals l).toArray 85) = w2 at *
  generalize w1.heap.size = gg at *
  go_wp2_with fail
  refine (programOf _ L e _ (H.out.grown G2.out) (E.out.grown G2.out)).mono ?_
  rintro e' w3 ⟨u, rfl, hg, hpr⟩
  have G3 := Lib.hid (grown_trans G2.out hg)
  have A3 := Lib.hid (A2.out.still hg)
  have PO := Lib.hid (progOk_out (L := L))
  have PG := Lib.hid hpr
  obtain ⟨q, hq⟩ : ∃ q, progOk L = q := ⟨_, rfl⟩
  rw [hq] at PB PO PG ⊢
  clear hq hg hpr A2 G2
  cases q with
  | false =>
    obtain rfl : ab = false := PB.out
    obtain rfl : ar = [] := PR.out
    go_wp2_with fail
    go_ret2
    exact ⟨_, rfl, G3.out, Own.none_ _ _⟩
  | true =>
    obtain rfl : ab = true := PB.out
    obtain rfl : ar = [r0, r1, r2, r3] := PR.out
    obtain ⟨⟨l1, l16⟩, lo⟩ := PO.out (by first | rfl | trivial)
    have LO := Lib.hid lo
    have P3 := Lib.hid (PG.out rfl)
    obtain ⟨pa, pc, pe, _, _⟩ := P3.out.form
    subst pe
    have zs : (Tryd.prog.info? 85).map (·.size) = some (vals l).toArray.size := by rw [show (vals l).toArray.size = 32 by simp [vals_length, LL.out]]; kernel_rfl
    clear lo PO PG PB PR
    go_upto_region 5 with fail
    apply wp_region_lit
    refine wpList_plain rfl (fun K hK => ?_)
    go_simp
    refine hK _ _ ?_
    clear hK
    refine wpList_load_row rfl _ _ rfl gg rfl _ _ _ _ A3.out Tryd.underlying85 rfl zs ?_
    clear zs
    go_wp2_with fail
    refine (EX.out _ _ _ P3.out LO.out l1 l16).mono ?_
    rintro en w4 ⟨rfl, hg⟩
    have G4 := Lib.hid (grown_trans G3.out hg)
    clear hg
    go_wp2_with fail
    refine (rowInts r0 r1 r2 r3 _).mono ?_
    rintro en w5 ⟨v, rfl, hg, ho⟩
    have G5 := Lib.hid hg
    have O := Lib.hid ho
    clear hg ho
    go_wp2_with fail
    go_ret2
    exact new2_after G4.out G5.out O.out

set_option maxHeartbeats 4000000 in
set_option maxRecDepth 20000 in
theorem progRowNo {k : Int} (h1 : k ≠ 1) (h2 : k ≠ 2) (v : Value) (L : List Stp) (e : Addr) (w : World) (h : SSl w v L) (hE : Sent w e) :
    Calls Tryd.prog 24 #[.int .i64 k, v] w (NewInts2 [] false w) := by
  have H := Lib.hid h
  have E := Lib.hid hE
  obtain ⟨a1, c1, rfl, _, _, _⟩ := h
  obtain ⟨n, hn⟩ : ∃ n, n = L.length := ⟨_, rfl⟩
  rw [← hn] at H ⊢
  clear hn hE
  have GY := Lib.hid (fun w => genNone k w h1 h2)
  have GL : (List.replicate 32 (0 : Int)).length = 32 := rfl
  generalize List.replicate 32 (0 : Int) = l at *
  clear h1 h2
  go_enter Tryd.func24, Tryd.ntmps24
  go_wp2_with fail
  refine (GY.out _).mono ?_
  rintro en w1 ⟨rfl, hg⟩
  have hs := storeNew w1 GL
  have hv : (vals l).length = 32 := by rw [vals_length]; exact GL
  have G2 := Lib.hid (grown_alloc hg (.cells (vals l).toArray 85))
  clear GL GY hg
  go_upto_region 2 with fail
  clear hs hv
  generalize w1.alloc (.cells (vals l).toArray 85) = w2 at *
  generalize w1.heap.size = gg at *
  go_wp2_with fail
  refine (programOf _ L e _ (H.out.grown G2.out) (E.out.grown G2.out)).mono ?_
  rintro e' w3 ⟨u, rfl, hg, hpr⟩
  have G3 := Lib.hid (grown_trans G2.out hg)
  clear hg hpr G2
  go_wp2_with fail
  go_ret2
  exact ⟨_, rfl, G3.out, Own.none_ _ _⟩

theorem implProgRow (k : Int) (v : Value) (L : List Stp) (e : Addr) (w : World) (h : SSl w v L) (hE : Sent w e) :
    Calls Tryd.prog 24 #[.int .i64 k, v] w (NewInts2 (prR k L) (prB k L) w) := by
  by_cases hk : k = 1 ∨ k = 2
  · obtain ⟨n, rfl⟩ : ∃ n : Nat, k = n := ⟨k.toNat, by omega⟩
    exact progRowYes (by omega) v L e w h hE
  · have hb : prB k L = false := prB_no (by omega) (by omega) L
    have hr : prR k L = [] := by unfold prR; rw [hb]; rfl
    rw [hb, hr]
    exact progRowNo (by omega) (by omega) v L e w h hE
end Go.Proofs.YtlehcpcejkpbmaaDoor
