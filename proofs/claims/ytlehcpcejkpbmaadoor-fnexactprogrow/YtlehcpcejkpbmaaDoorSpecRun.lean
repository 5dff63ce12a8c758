/-
  The contract of the model's ProgRun.
  Conditions: the values are at most 2^20.
-/
import Derived.Test.YtlehcpcejkpbmaaDoorSpecProg
import Derived.Test.YtlehcpcejkpbmaaDoorAppendKeeps
import Derived.Deep.RegionHeld3
namespace Go.Proofs.YtlehcpcejkpbmaaDoor
open Go.RowKit
set_option linter.unusedVariables false

/-- what is known while numbers are made. -/
structure SRun (w : World) (a : List Int) (L : List Stp) (m : Nat) (o : Value) (wr : World) : Prop where
  grown : w.grownBy wr none
  own : wr.ownsRow w.heap.size 3 1 o m (vals (runS a (L.take m)))
theorem SRun.next {w wr w1 : World} {a : List Int} {L : List Stp} {m n : Nat} {o o' : Value} {x : Int} {r : Option Nat} (h : SRun w a L m o wr) (hm : m < L.length) (hx : stepV a (runS a (L.take m)) (L.getD m szero) = x) (hg : wr.grownBy w1 r) (hr : ∀ k, r = some k → w.heap.size ≤ k)
    (ho : w1.ownsRow w.heap.size 3 1 o' n (vals (runS a (L.take m)) ++ [.int .i64 x])) (hn : n = m + 1) : SRun w a L (m + 1) o' w1 := by
  subst hn hx
  refine ⟨grown_own h.grown hg hr, ?_⟩
  rw [take_snocS hm, runS_snoc]
  simpa [vals] using ho

set_option maxHeartbeats 8000000 in
set_option maxRecDepth 20000 in
theorem specProgRun (v x : Value) (L : List Stp) (a : List Int) (w : World) (h : SSl w v L) (hx : Sl w x a) (hal : a.length ≤ 1048576) :
    Calls Tryd.prog 28 #[v, x] w fun en w' => en = .returned (.tuple #[.int .i64 (runN L a), .bool (runP L a)]) ∧ w.grownBy w' none := by
  have H := Lib.hid h
  have X := Lib.hid hx
  obtain ⟨a1, c1, rfl, p1, p2, hr1⟩ := h
  obtain ⟨a2, c2, rfl, p3, p4, hr2⟩ := hx
  have R1 : Hid (Rds w a1 (sflat L)) := Lib.hid hr1
  have R2 : Hid (Rds w a2 a) := Lib.hid hr2
  unfold maxLen at p2 p4
  obtain ⟨n, hn⟩ : ∃ n, n = L.length := ⟨_, rfl⟩
  obtain ⟨al, hala⟩ : ∃ n, n = a.length := ⟨_, rfl⟩
  rw [← hn] at H p1 ⊢
  rw [← hala] at X p3 hal ⊢
  have N := Lib.hid hn
  have AL := Lib.hid hala
  clear hr1 hr2 hn hala
  have RN : Hid (runN L a = bif (progOk L && shOk a) then runV a L else 0) := Lib.hid rfl
  have RP : Hid (runP L a = (progOk L && shOk a)) := Lib.hid rfl
  generalize runN L a = an at *
  generalize runP L a = ap at *
  obtain ⟨i0, hi, hz0, hz1, hz2⟩ := info_parts infoInt
  have I1 := Lib.hid hi
  have I2 := Lib.hid hz0
  have I3 := Lib.hid hz1
  have I4 := Lib.hid hz2
  clear hi hz0 hz1 hz2
  go_enter Tryd.func28, Tryd.ntmps28
  go_wp2_with fail
  refine (specProgOk _ L _ H.out).mono ?_
  rintro e' w1 ⟨rfl, hg⟩
  have G1 := Lib.hid hg
  have PO := Lib.hid (progOk_out (L := L))
  obtain ⟨q, hq⟩ : ∃ q, progOk L = q := ⟨_, rfl⟩
  rw [hq] at RN RP PO ⊢
  clear hq hg
  cases q with
  | false =>
    obtain rfl : an = 0 := RN.out
    obtain rfl : ap = false := RP.out
    go_wp2_with fail
    exact bodyPost_ret (v := .tuple #[.int .i64 0, .bool false]) (by simp [results, Tryd.results28, go_sem]) rfl ⟨rfl, G1.out⟩
  | true =>
    obtain ⟨⟨l1, l16⟩, lo⟩ := PO.out (by first | rfl | trivial)
    rw [← N.out] at l1 l16
    have LO := Lib.hid lo
    have hm := makeEight w1
    have B2 : Hid (Bl (w1.alloc (.cells #[.bool false, .bool false, .bool false, .bool false, .bool false, .bool false, .bool false, .bool false] 4)) (.slice (some ⟨w1.heap.size, 0, none⟩) 8 8) [false, false, false, false, false, false, false, false]) := Lib.hid (by
      have h : BOwn (w1.alloc (.cells (bvals [false, false, false, false, false, false, false, false]).toArray 4)) w1.heap.size (.slice (some ⟨w1.heap.size, 0, none⟩) 8 8) [false, false, false, false, false, false, false, false] :=
        ⟨rfl, .inr ⟨w1.heap.size, 8, _, rfl, Nat.le_refl _, heap_alloc_new w1 _, Nat.le_refl _, by simp [maxLen], rfl, rfl⟩⟩
      exact h.bl)
    have G2 := Lib.hid (grown_alloc G1.out (.cells #[.bool false, .bool false, .bool false, .bool false, .bool false, .bool false, .bool false, .bool false] 4))
    clear lo PO
    go_wp2_with fail
    clear hm
    generalize w1.alloc (.cells #[.bool false, .bool false, .bool false, .bool false, .bool false, .bool false, .bool false, .bool false] 4) = w2 at *
    generalize w1.heap.size = gb at *
    refine (specVals _ _ a [false, false, false, false, false, false, false, false] _ (X.out.grown G2.out) B2.out (by rw [← AL.out]; exact hal)).mono ?_
    rintro e w' ⟨rfl, rfl⟩
    rw [show (shOk a && decide ([false, false, false, false, false, false, false, false].length = 8)) = shOk a by simp]
    obtain ⟨p, hp⟩ : ∃ p, shOk a = p := ⟨_, rfl⟩
    have HP := Lib.hid hp
    rw [hp] at RN RP ⊢
    clear hp
    cases p with
    | false =>
      obtain rfl : an = 0 := RN.out
      obtain rfl : ap = false := RP.out
      go_wp2_with fail
      exact bodyPost_ret (v := .tuple #[.int .i64 0, .bool false]) (by simp [results, Tryd.results28, go_sem]) rfl ⟨rfl, G2.out⟩
    | true =>
      obtain rfl : an = runV a L := RN.out
      obtain rfl : ap = true := RP.out
      have OA := Lib.hid (sh_each HP.out)
      have a8 : al = 8 := by rw [AL.out]; exact (shOk_row.1 HP.out).1
      have A8 := Lib.hid a8
      subst a8
      have S0 : Hid (SRun w a L 0 (.slice (some ⟨w2.heap.size, 0, none⟩) 0 0) (w2.alloc (.cells #[] 3))) := Lib.hid ⟨grown_alloc G2.out _, ⟨rfl, .inr ⟨w2.heap.size, 0, #[], rfl, G2.out.size, heap_alloc_new w2 _, Nat.le_refl _, by simp [maxLen], by simp, by simp [runS, vals]⟩⟩⟩
      clear RN RP HP B2
      go_wp2_with fail
      generalize w2.alloc (.cells #[] 3) = w3 at *
      generalize w2.heap.size = gn0 at *
      go_loopw [6, 7] (fun o i wr => ∃ m : Nat, m ≤ n ∧ i = .int .i64 m ∧ SRun w a L m o wr) (fun _ i _ => n - (intOf i).toNat)
      case atStart => exact ⟨0, by omega, rfl, S0.out⟩
      case round =>
        obtain ⟨m, hm, rfl, hs⟩ := hrel
        have S := Lib.hid hs
        clear hs S0
        have szw : w.heap.size ≤ wr.heap.size := S.out.grown.size
        by_cases hlt : m < n
        · have hlt' : (m : Int) < (n : Int) := by omega
          have hmL : m < L.length := by rw [← N.out]; exact hlt
          obtain ⟨b, o, rfl, c0, c1, c2⟩ := cells3 (R1.out.grown S.out.grown) hmL
          have lbw : b < w.heap.size := by
            obtain ⟨b', o', e', d0, _⟩ := cells3 R1.out hmL
            injection e' with e'
            injection e' with e1 _
            subst e1
            exact lt_of_cell d0
          have lb : b < wr.heap.size := lt_of_cell c0
          have OK := LO.out m hmL
          have NX := Lib.hid (fun (x : Int) (hx : stepV a (runS a (L.take m)) (L.getD m szero) = x) => hx)
          obtain ⟨s, hs⟩ : ∃ s, L.getD m szero = s := ⟨_, rfl⟩
          rw [hs] at c0 c1 c2 OK
          have HS := Lib.hid hs
          clear hs NX
          obtain ⟨po, x, y⟩ := s
          have c0' : wr.cell? ⟨b, o + m * 3, none⟩ = some (.int .i64 po) := c0
          have c1' : wr.cell? ⟨b, o + m * 3 + 1, none⟩ = some (.int .i64 x) := c1
          have c2' : wr.cell? ⟨b, o + m * 3 + 2, none⟩ = some (.int .i64 y) := c2
          clear c0 c1 c2
          rcases OK with ⟨ho, hx, hy⟩ | ⟨ho, hx, hy⟩ | ⟨ho, hx, hy⟩
          · have ho' : po = 1 := ho
            have hy' : y = 0 := hy
            subst ho' hy'
            obtain ⟨j, hj, hje⟩ := below_m (n := 8) hx.1 hx.2
            have hje' : x = j := hje
            subst hje'
            clear ho hy hx hje
            obtain ⟨bx, ox, rfl, hcx⟩ := (R2.out.grown S.out.grown).at_ (k := j) (by rw [← AL.out]; exact hj)
            obtain ⟨z, hz⟩ : ∃ z, a.getD j 0 = z := ⟨_, rfl⟩
            rw [hz] at hcx
            have ST : Hid (stepV a (runS a (L.take m)) (L.getD m szero) = z) := Lib.hid (by rw [HS.out, ← hz]; rfl)
            have hj' : (j : Int) < 8 := by omega
            clear hz
            go_wp2_with (first
              | (at_builtin; refine wpList_append_own _ rfl _ _ 23 rfl w.heap.size 3 i0 (.int .i64 0) 1 8 Tryd.underlying23 I1.out I2.out I3.out I4.out rfl (by decide) _ _ _ rfl (World.ownsRow.alloc S.out.own _) ⟨wr.heap.size, 0, none⟩ 1 1 [.int .i64 z] rfl rfl (one_cell (g := 0)) (vals_one [z]) ?c3 ?c4 ?c5 ?_))
            case c3 => unfold maxLen; omega
            case c4 => omega
            case c5 => simp; omega
            intro o' w9 ho hg _
            have S9 : Hid (SRun w a L (m + 1) o' w9) := Lib.hid (S.out.next hmL ST.out (grown_trans (World.grownBy_alloc _ _ _) hg) (fun k hk => (World.ownsRow.lt S.out.own k hk).1) ho rfl)
            clear ho hg S c0' c1' c2' hcx
            go_wp2_with fail
            go_roundw
            case rel => exact ⟨m + 1, by omega, by go_num, S9.out⟩
            case measure => simp [intOf]; omega
          · have ho' : po = 2 := ho
            subst ho'
            obtain ⟨j, hj, hje⟩ := below_m (n := m) hx.1 hx.2
            have hje' : x = j := hje
            subst hje'
            have OY : Hid (Fld.ok y = true) := Lib.hid hy
            clear ho hy hx hje
            have RL : (runS a (L.take m)).length = m := by rw [runS_len, List.length_take]; omega
            obtain ⟨z, hz⟩ : ∃ z, (runS a (L.take m)).getD j 0 = z := ⟨_, rfl⟩
            have OZ : Hid (Fld.ok z = true) := Lib.hid (by rw [← hz]; exact runS_ok OA.out _ _)
            have ST : Hid (stepV a (runS a (L.take m)) (L.getD m szero) = z * y % 31) := Lib.hid (by rw [HS.out, ← hz]; rfl)
            obtain ⟨gn, cn, hv, hbn, hgn⟩ := World.ownsRow.form S.out.own (by omega)
            subst hv
            have JV : Hid ((vals (runS a (L.take m)))[j]? = some (.int .i64 z)) := Lib.hid (by rw [← hz]; exact vals_get _ j (by rw [RL]; exact hj))
            have d0 : wr.cell? ⟨gn, j, none⟩ = some (.int .i64 z) := by
              have := World.ownsRow.cells S.out.own (g := gn) rfl j _ JV.out
              rw [Addr.add_lit] at this
              simpa using this
            have NB : Hid (some b ≠ some gn) := Lib.hid (fun e => by injection e with e; omega)
            have hj' : (j : Int) < (m : Int) := by omega
            have FM : Fld.mul z y = z * y % 31 := Fld.mul_ok OZ.out OY.out
            clear hz RL
            go_wp2_with fail
            go_region_held3 (fun w' => w'.cell? ⟨b, o + m * 3 + 1, none⟩ = some (.int .i64 j) ∧ w'.cell? ⟨b, o + m * 3 + 2, none⟩ = some (.int .i64 y) ∧ w'.cell? ⟨gn, j, none⟩ = some (.int .i64 z))
              (first
                | with_reducible exact K9.out
                | go_keep)
              (first
                | (refine step_append_keeps _ (by rfl) _ _ _ (by rfl) w.heap.size 3 i0 (.int .i64 0) 1 8 Tryd.underlying23 I1.out I2.out I3.out I4.out rfl (by omega) gn cn m (vals (runS a (L.take m))) (by rfl) (World.ownsRow.drew (World.ownsRow.alloc S.out.own _))
                    ⟨wr.heap.size, 0, none⟩ 1 1 [.int .i64 (z * y % 31)] (by rfl) (by rfl) (one_cell (g := 0)) (vals_one [z * y % 31])
                    (by omega) (by unfold maxLen; omega) (by omega) (by simp; omega) ?_; intro v9 w9 ho hg hkp
                   have K9 : Hid (w9.cell? ⟨b, o + m * 3 + 1, none⟩ = some (.int .i64 j) ∧ w9.cell? ⟨b, o + m * 3 + 2, none⟩ = some (.int .i64 y) ∧ w9.cell? ⟨gn, j, none⟩ = some (.int .i64 z)) := Lib.hid (by
                     refine ⟨?_, ?_, hkp j _ JV.out⟩
                     · rw [hg.cell_far _ (by simp; omega) NB.out]; go_keep
                     · rw [hg.cell_far _ (by simp; omega) NB.out]; go_keep))
                | (go_at_call 67; refine (specFMul z y _).mono ?_; rintro en w5 ⟨rfl, rfl⟩; rw [FM]))
            have S9 : Hid (SRun w a L (m + 1) v9 w9) := Lib.hid (S.out.next hmL ST.out (grown_trans (grown_drew (World.grownBy_alloc _ _ _)) hg) (fun k hk => by injection hk with hk; omega) ho rfl)
            clear ho hg hkp K9 S c0' c1' c2' d0
            go_wp2_with fail
            go_roundw
            case rel => exact ⟨m + 1, by omega, by go_num, S9.out⟩
            case measure => simp [intOf]; omega
          · have ho' : po = 3 := ho
            subst ho'
            obtain ⟨j, hj, hje⟩ := below_m (n := m) hx.1 hx.2
            have hje' : x = j := hje
            subst hje'
            obtain ⟨i, hi, hie⟩ := below_m (n := m) hy.1 hy.2
            have hie' : y = i := hie
            subst hie'
            clear ho hy hx hje hie
            have RL : (runS a (L.take m)).length = m := by rw [runS_len, List.length_take]; omega
            obtain ⟨z, hz⟩ : ∃ z, (runS a (L.take m)).getD j 0 = z := ⟨_, rfl⟩
            have OZ : Hid (Fld.ok z = true) := Lib.hid (by rw [← hz]; exact runS_ok OA.out _ _)
            obtain ⟨y, hy⟩ : ∃ y, (runS a (L.take m)).getD i 0 = y := ⟨_, rfl⟩
            have OY : Hid (Fld.ok y = true) := Lib.hid (by rw [← hy]; exact runS_ok OA.out _ _)
            have ST : Hid (stepV a (runS a (L.take m)) (L.getD m szero) = (z + y) % 31) := Lib.hid (by rw [HS.out, ← hz, ← hy]; rfl)
            obtain ⟨gn, cn, hv, hbn, hgn⟩ := World.ownsRow.form S.out.own (by omega)
            subst hv
            have JV : Hid ((vals (runS a (L.take m)))[j]? = some (.int .i64 z)) := Lib.hid (by rw [← hz]; exact vals_get _ j (by rw [RL]; exact hj))
            have d0 : wr.cell? ⟨gn, j, none⟩ = some (.int .i64 z) := by
              have := World.ownsRow.cells S.out.own (g := gn) rfl j _ JV.out
              rw [Addr.add_lit] at this
              simpa using this
            have JY : Hid ((vals (runS a (L.take m)))[i]? = some (.int .i64 y)) := Lib.hid (by rw [← hy]; exact vals_get _ i (by rw [RL]; exact hi))
            have d1 : wr.cell? ⟨gn, i, none⟩ = some (.int .i64 y) := by
              have := World.ownsRow.cells S.out.own (g := gn) rfl i _ JY.out
              rw [Addr.add_lit] at this
              simpa using this
            have hi' : (i : Int) < (m : Int) := by omega
            have NB : Hid (some b ≠ some gn) := Lib.hid (fun e => by injection e with e; omega)
            have hj' : (j : Int) < (m : Int) := by omega
            have FM : Fld.sum z y = (z + y) % 31 := Fld.sum_ok OZ.out OY.out
            clear hz hy RL
            go_wp2_with fail
            go_region_held3 (fun w' => w'.cell? ⟨b, o + m * 3 + 1, none⟩ = some (.int .i64 j) ∧ w'.cell? ⟨b, o + m * 3 + 2, none⟩ = some (.int .i64 i) ∧ w'.cell? ⟨gn, j, none⟩ = some (.int .i64 z) ∧ w'.cell? ⟨gn, i, none⟩ = some (.int .i64 y))
              (first
                | with_reducible exact K9.out
                | go_keep)
              (first
                | (refine step_append_keeps _ (by rfl) _ _ _ (by rfl) w.heap.size 3 i0 (.int .i64 0) 1 8 Tryd.underlying23 I1.out I2.out I3.out I4.out rfl (by omega) gn cn m (vals (runS a (L.take m))) (by rfl) (World.ownsRow.drew (World.ownsRow.alloc S.out.own _))
                    ⟨wr.heap.size, 0, none⟩ 1 1 [.int .i64 ((z + y) % 31)] (by rfl) (by rfl) (one_cell (g := 0)) (vals_one [(z + y) % 31])
                    (by omega) (by unfold maxLen; omega) (by omega) (by simp; omega) ?_; intro v9 w9 ho hg hkp
                   have K9 : Hid (w9.cell? ⟨b, o + m * 3 + 1, none⟩ = some (.int .i64 j) ∧ w9.cell? ⟨b, o + m * 3 + 2, none⟩ = some (.int .i64 i) ∧ w9.cell? ⟨gn, j, none⟩ = some (.int .i64 z) ∧ w9.cell? ⟨gn, i, none⟩ = some (.int .i64 y)) := Lib.hid (by
                     refine ⟨?_, ?_, hkp j _ JV.out, hkp i _ JY.out⟩
                     · rw [hg.cell_far _ (by simp; omega) NB.out]; go_keep
                     · rw [hg.cell_far _ (by simp; omega) NB.out]; go_keep))
                | (go_at_call 68; refine (specFSum z y _).mono ?_; rintro en w5 ⟨rfl, rfl⟩; rw [FM]))
            have S9 : Hid (SRun w a L (m + 1) v9 w9) := Lib.hid (S.out.next hmL ST.out (grown_trans (grown_drew (World.grownBy_alloc _ _ _)) hg) (fun k hk => by injection hk with hk; omega) ho rfl)
            clear ho hg hkp K9 S c0' c1' c2' d0 d1
            go_wp2_with fail
            go_roundw
            case rel => exact ⟨m + 1, by omega, by go_num, S9.out⟩
            case measure => simp [intOf]; omega
        · obtain rfl : m = n := by omega
          have TA : Hid (L.take m = L) := Lib.hid (by rw [N.out]; exact List.take_length)
          obtain ⟨k, rfl⟩ : ∃ k, m = k + 1 := ⟨m - 1, by omega⟩
          obtain ⟨gn, cn, hv, _, _⟩ := World.ownsRow.form S.out.own (by omega)
          subst hv
          have RL : (runS a (L.take (k + 1))).length = k + 1 := by rw [runS_len, TA.out, N.out]
          obtain ⟨z, hz⟩ : ∃ z, (runS a (L.take (k + 1))).getD k 0 = z := ⟨_, rfl⟩
          have d0 : wr.cell? ⟨gn, k, none⟩ = some (.int .i64 z) := by
            have := World.ownsRow.cells S.out.own (g := gn) rfl k _ (vals_get _ k (by rw [RL]; omega))
            rw [Addr.add_lit, hz] at this
            simpa using this
          have VV : Hid (runV a L = z) := Lib.hid (by rw [← hz, TA.out]; unfold runV; rw [← N.out]; rfl)
          have hm1 : ((k + 1 : Nat) : Int) - 1 = k := by omega
          have hm2 : (k : Int) < ((k + 1 : Nat) : Int) := by omega
          clear hz RL
          go_wp2_with fail
          exact bodyPost_ret (v := .tuple #[.int .i64 z, .bool true]) (by simp [results, Tryd.results28, go_sem]) rfl ⟨by rw [VV.out], S.out.grown⟩
end Go.Proofs.YtlehcpcejkpbmaaDoor
