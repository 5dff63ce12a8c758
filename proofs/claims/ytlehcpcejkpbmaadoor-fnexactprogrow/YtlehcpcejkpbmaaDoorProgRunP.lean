/-
  The contracts of ProgOk, ProgMany, ProgRun, of the program.
  Conditions: none.
-/
import Derived.Test.YtlehcpcejkpbmaaDoorProgExec
import Derived.Test.YtlehcpcejkpbmaaDoorProgMath
import Derived.Test.YtlehcpcejkpbmaaDoorPlanDoOk
namespace Go.Proofs.YtlehcpcejkpbmaaDoor
open Go.RowKit
set_option linter.unusedVariables false

set_option maxRecDepth 20000 in
theorem implProgOk (v : Value) (L : List Stp) (e : Addr) (w : World) (h : SSl w v L) (hE : Sent w e) : Calls Tryd.prog 19 #[v] w fun en w' => en = .returned (.bool (progOk L)) ∧ w.grownBy w' none := by
  have H := Lib.hid h
  have E := Lib.hid hE
  obtain ⟨a, cap, rfl, _, _, _⟩ := h
  obtain ⟨q, hq⟩ : ∃ q, progOk L = q := ⟨_, rfl⟩
  rw [hq]
  have Q := Lib.hid hq
  clear hq
  go_enter Tryd.func19, Tryd.ntmps19
  go_wp2_with fail
  refine (programOf _ L e _ H.out E.out).mono ?_
  rintro e' w' ⟨u, rfl, hg, _⟩
  have G := Lib.hid hg
  rw [Q.out]
  clear hg
  go_wp2_with fail
  go_ret
  exact ⟨rfl, G.out⟩

/-- what ProgMany answers. -/
def manyN (L : List Stp) (o : Int) : Int := bif progOk L then (manyS o L : Int) else -1

set_option maxHeartbeats 2000000 in
set_option maxRecDepth 20000 in
theorem implProgMany (v : Value) (L : List Stp) (o : Int) (e : Addr) (w : World) (h : SSl w v L) (hE : Sent w e) : Calls Tryd.prog 20 #[v, .int .i64 o] w fun en w' => en = .returned (.int .i64 (manyN L o)) ∧ w.grownBy w' none := by
  have H := Lib.hid h
  have E := Lib.hid hE
  obtain ⟨a, cap, rfl, p1, p2, hr⟩ := h
  have R : Hid (Rds w a (sflat L)) := Lib.hid hr
  unfold maxLen at p2
  obtain ⟨n, hn⟩ : ∃ n, n = L.length := ⟨_, rfl⟩
  rw [← hn] at H p1 ⊢
  have N := Lib.hid hn
  have MN : Hid (manyN L o = bif progOk L then (manyS o L : Int) else -1) := Lib.hid rfl
  have LE : Hid (progOk L = true → n ≤ 16) := Lib.hid (fun h => by have := (progOk_out h).1; omega)
  generalize manyN L o = ans at *
  clear hr hn
  go_enter Tryd.func20, Tryd.ntmps20
  go_wp2_with fail
  refine (implProgOk _ L e _ H.out E.out).mono ?_
  rintro e' w' ⟨rfl, hg⟩
  have G := Lib.hid hg
  obtain ⟨q, hq⟩ : ∃ q, progOk L = q := ⟨_, rfl⟩
  rw [hq] at MN LE ⊢
  clear hq hg
  cases q with
  | false =>
    obtain rfl : ans = -1 := MN.out
    go_wp2_with fail
    go_ret
    exact ⟨rfl, G.out⟩
  | true =>
    have h16 := LE.out rfl
    have AN : Hid (ans = (manyS o L : Int)) := Lib.hid MN.out
    clear MN LE
    go_wp2_with fail
    go_loopw [5, 13] (fun c i wr => ∃ m : Nat, m ≤ n ∧ i = .int .i64 m ∧ c = .int .i64 (manyS o (L.take m) : Nat) ∧ w.grownBy wr none) (fun _ i _ => n - (intOf i).toNat)
    case atStart => exact ⟨0, by omega, rfl, rfl, G.out⟩
    case round =>
      obtain ⟨m, hm, rfl, rfl, hg⟩ := hrel
      have G1 := Lib.hid hg
      clear hg G
      by_cases hlt : m < n
      · have hlt' : (m : Int) < (n : Int) := by omega
        have hmL : m < L.length := by rw [← N.out]; exact hlt
        obtain ⟨b, of, rfl, c0, c1, c2⟩ := cells3 (R.out.grown G1.out) hmL
        have MX := Lib.hid (many_next (o := o) hmL)
        have ML := manyS_le o (L.take m)
        rw [List.length_take] at ML
        generalize hs : L.getD m szero = s at *
        clear hs
        obtain ⟨p, x, y⟩ := s
        have c0' : wr.cell? ⟨b, of + m * 3, none⟩ = some (.int .i64 p) := c0
        have c1' : wr.cell? ⟨b, of + m * 3 + 1, none⟩ = some (.int .i64 x) := c1
        have c2' : wr.cell? ⟨b, of + m * 3 + 2, none⟩ = some (.int .i64 y) := c2
        clear c0 c1 c2
        have G2 : Hid (w.grownBy (wr.alloc (.cells #[.int .i64 p, .int .i64 x, .int .i64 y] 49)) none) := Lib.hid (grown_alloc G1.out _)
        have k0 : (wr.alloc (.cells #[.int .i64 p, .int .i64 x, .int .i64 y] 49)).cell? ⟨wr.heap.size, 0, none⟩ = some (.int .i64 p) := cells_of3 0 _ rfl
        generalize hk : manyS o (L.take m) = k at *
        clear hk
        by_cases ho : p = o
        · have MX' : Hid (manyS o (L.take (m + 1)) = k + 1) := Lib.hid (by rw [MX.out, if_pos ho])
          subst ho
          clear MX
          go_upto_region 7 with fail
          generalize wr.alloc (.cells #[.int .i64 p, .int .i64 x, .int .i64 y] 49) = w2 at *
          generalize wr.heap.size = bp at *
          clear c0' c1' c2'
          go_wp2_with fail
          go_roundw
          case rel => exact ⟨m + 1, by omega, by go_num, by rw [MX'.out]; go_num, G2.out⟩
          case measure => simp [intOf]; omega
        · have MX' : Hid (manyS o (L.take (m + 1)) = k) := Lib.hid (by rw [MX.out, if_neg ho]; rfl)
          have d0 : (p == o) = false := by rw [beq_eq_false_iff_ne]; exact ho
          clear MX
          go_upto_region 7 with fail
          generalize wr.alloc (.cells #[.int .i64 p, .int .i64 x, .int .i64 y] 49) = w2 at *
          generalize wr.heap.size = bp at *
          clear c0' c1' c2' ho
          go_wp2_with fail
          go_roundw
          case rel => exact ⟨m + 1, by omega, by go_num, by rw [MX'.out], G2.out⟩
          case measure => simp [intOf]; omega
      · obtain rfl : m = n := by omega
        have TA : Hid (L.take m = L) := Lib.hid (by rw [N.out]; exact List.take_length)
        have AM : Hid (ans = (manyS o (L.take m) : Nat)) := Lib.hid (by rw [TA.out]; exact AN.out)
        go_wp2_with fail
        go_ret
        exact ⟨by rw [AM.out]; rfl, G1.out⟩

set_option maxHeartbeats 4000000 in
set_option maxRecDepth 20000 in
theorem implProgRun (v x : Value) (L : List Stp) (a : List Int) (e : Addr) (w : World) (h : SSl w v L) (hx : Sl w x a) (hE : Sent w e) :
    Calls Tryd.prog 17 #[v, x] w fun en w' => en = .returned (.tuple #[.int .i64 (runN L a), .bool (runP L a)]) ∧ w.grownBy w' none := by
  have H := Lib.hid h
  have X := Lib.hid hx
  have E := Lib.hid hE
  obtain ⟨a1, c1, rfl, _, _, _⟩ := h
  obtain ⟨a2, c2, rfl, _, _, _⟩ := hx
  obtain ⟨n, hn⟩ : ∃ n, n = L.length := ⟨_, rfl⟩
  obtain ⟨al, hal⟩ : ∃ n, n = a.length := ⟨_, rfl⟩
  rw [← hn] at H ⊢
  rw [← hal] at X ⊢
  clear hn hal
  have RN : Hid (runN L a = bif (progOk L && shOk a) then runV a L else 0) := Lib.hid rfl
  have RP : Hid (runP L a = (progOk L && shOk a)) := Lib.hid rfl
  generalize runN L a = an at *
  generalize runP L a = ap at *
  go_enter Tryd.func17, Tryd.ntmps17
  go_wp2_with fail
  refine (programOf _ L e _ H.out E.out).mono ?_
  rintro e' w1 ⟨u, rfl, hg, hpr⟩
  have G1 := Lib.hid hg
  have PR := Lib.hid hpr
  have PO := Lib.hid (progOk_out (L := L))
  obtain ⟨q, hq⟩ : ∃ q, progOk L = q := ⟨_, rfl⟩
  rw [hq] at RN RP PR PO ⊢
  clear hq hg hpr
  go_wp2_with fail
  refine (implShards _ a _ (X.out.grown G1.out)).mono ?_
  rintro e w7 ⟨rfl, hg⟩
  have hS := shOr_len a
  have RA : Hid (shOk a = true → shOr a = a ∧ ∀ i, Fld.ok (a.getD i 0) = true) := Lib.hid (fun h => ⟨by simp [shOr, h], sh_each h⟩)
  obtain ⟨b, hb⟩ : ∃ b, shOr a = b := ⟨_, rfl⟩
  rw [hb] at hS RA ⊢
  clear hb
  have hs := storeS w7 hS
  have hvl : (vals b).length = 8 := by rw [vals_length]; exact hS
  have G8 := Lib.hid (grown_alloc (grown_trans G1.out hg) (.cells (vals b).toArray 77))
  have G18 := Lib.hid (grown_alloc hg (.cells (vals b).toArray 77))
  have S8 := Lib.hid (Arr.new w7 77 b)
  have HS := Lib.hid hS
  obtain ⟨p, hp⟩ : ∃ q, shOk a = q := ⟨_, rfl⟩
  rw [hp] at RA RN RP ⊢
  clear hp hg hS
  go_upto_region 3 with fail
  clear hs hvl
  generalize w7.alloc (.cells (vals b).toArray 77) = w8 at *
  generalize w7.heap.size = gs at *
  cases q with
  | false =>
    obtain rfl : an = 0 := RN.out
    obtain rfl : ap = false := RP.out
    go_wp2_with fail
    exact bodyPost_ret (v := .tuple #[.int .i64 0, .bool false]) (by simp [results, Tryd.results17, go_sem]) rfl ⟨rfl, G8.out⟩
  | true =>
    cases p with
    | false =>
      obtain rfl : an = 0 := RN.out
      obtain rfl : ap = false := RP.out
      go_wp2_with fail
      exact bodyPost_ret (v := .tuple #[.int .i64 0, .bool false]) (by simp [results, Tryd.results17, go_sem]) rfl ⟨rfl, G8.out⟩
    | true =>
      obtain rfl : an = runV a L := RN.out
      obtain rfl : ap = true := RP.out
      obtain ⟨rfl, oa⟩ := RA.out rfl
      have OA := Lib.hid oa
      have P8 := Lib.hid ((PR.out rfl).still G18.out)
      obtain ⟨⟨l1, l16⟩, lo⟩ := PO.out rfl
      have LO := Lib.hid lo
      obtain ⟨pa, pc, pe, _, _⟩ := P8.out.form
      subst pe
      clear oa lo PR PO RA RN RP
      have zs : (Tryd.prog.info? 77).map (·.size) = some (vals b).toArray.size := by rw [show (vals b).toArray.size = 8 by simp [vals_length, HS.out]]; kernel_rfl
      go_upto_region 5 with fail
      apply wp_region_lit
      refine wpList_plain rfl (fun K hK => ?_)
      go_simp
      refine hK _ _ ?_
      clear hK
      refine wpList_load_row rfl _ _ rfl gs rfl _ _ _ _ S8.out Tryd.underlying77 rfl zs ?_
      clear zs
      go_wp2_with fail
      refine (execElem _ L b _ _ HS.out OA.out P8.out LO.out l1 l16).mono ?_
      rintro e w9 ⟨rfl, hg⟩
      have G9 := Lib.hid (grown_trans G8.out hg)
      clear hg
      go_wp2_with fail
      exact bodyPost_ret (v := .tuple #[.int .i64 (runV b L), .bool true]) (by simp [results, Tryd.results17, go_sem]) rfl ⟨rfl, G9.out⟩
end Go.Proofs.YtlehcpcejkpbmaaDoor
