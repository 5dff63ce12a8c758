/-
  The model's PlanOf.
  Conditions: none.
-/
import Derived.Test.YtlehcpcejkpbmaaDoorPlanSearch
namespace Go.Proofs.YtlehcpcejkpbmaaDoor
open Go.RowKit
set_option linter.unusedVariables false

set_option maxHeartbeats 6000000 in
set_option maxRecDepth 20000 in
theorem specL11Of {k lost : Nat} (hk : k = 1 ∨ k = 2) (hl : lost < 8) (f : List Bool) (hf : f.length = 8) (v : Value) (w : World) (hv : Bl w v f) : Calls Tryd.prog 88 #[.int .i64 k, .int .i64 lost, v] w (FoundP k lost (Sp.planM k lost f) w) := by
  have BV := Lib.hid hv
  obtain ⟨av, cv, rfl, d1, d2, hrb⟩ := hv
  rw [hf] at BV d1 ⊢
  clear hrb
  have SE : Hid (∀ (n : Nat), n < 4 → ∀ (b cap : Nat) (w : World), Bl w (.slice av 8 cv) f → Sl w (.slice (some ⟨b, 0, none⟩) 0 cap) [] → Calls Tryd.prog 94 #[.int .i64 k, .int .i64 lost, .slice av 8 cv, .slice (some ⟨b, 0, none⟩) 0 cap, .int .i64 0, .int .i64 ((n : Int) + 1)] w (FoundP k lost (Sp.search k lost f (n + 1) [] 0) w)) := Lib.hid (fun n hn b cap w h1 h2 => by
    have := specL11Search hk hl f hf av cv (n + 1) [] 0 (by simp) (by simp; omega) (by simp) (by omega) b 0 cap w h1 h2
    rwa [Int.natCast_succ] at this)
  have HIT : Hid (∀ n r, n < 4 → (∀ m, m < n → Sp.search k lost f (m + 1) [] 0 = none) → Sp.search k lost f (n + 1) [] 0 = some r → Sp.planM k lost f = some r) := Lib.hid fun n r h1 h2 h3 => Sp.findSome_some (g := fun n => Sp.search k lost f (n + 1) [] 0) h1 h2 h3
  have MISS : Hid ((∀ m, m < 4 → Sp.search k lost f (m + 1) [] 0 = none) → Sp.planM k lost f = none) := Lib.hid fun h => Sp.findSome_none (g := fun n => Sp.search k lost f (n + 1) [] 0) h
  generalize Sp.planM k lost f = q at *
  have R0 : Hid (Zp (w.alloc (.cells #[.int .i64 0, .slice none 0 0, .slice none 0 0] 25)) w.heap.size) := Lib.hid (heap_alloc_new _ _)
  have G0 := Lib.hid (grown_alloc (World.grownBy.refl w none) (.cells #[.int .i64 0, .slice none 0 0, .slice none 0 0] 25))
  clear hf
  go_enter Tryd.func88, Tryd.ntmps88
  go_upto_region 1 with fail
  generalize w.alloc (.cells #[.int .i64 0, .slice none 0 0, .slice none 0 0] 25) = w0 at *
  obtain ⟨r, hr⟩ : ∃ r, r = w.heap.size := ⟨_, rfl⟩
  rw [← hr] at R0 ⊢
  have RL : w.heap.size ≤ r := by omega
  clear hr
  go_wp2_with fail
  go_loopw [8] (fun i wr => ∃ n : Nat, n ≤ 4 ∧ i = .int .i64 ((n : Int) + 1) ∧ w.grownBy wr none ∧ Zp wr r ∧ ∀ m, m < n → Sp.search k lost f (m + 1) [] 0 = none) (fun i _ => 5 - (intOf i).toNat)
  case atStart => exact ⟨0, by omega, rfl, G0.out, R0.out, fun i hi => by omega⟩
  case round =>
    obtain ⟨n, hn, rfl, hg, hrr, hno⟩ := hrel
    have GR := Lib.hid hg
    have RR := Lib.hid hrr
    have NO := Lib.hid hno
    clear hg hrr hno R0 G0
    by_cases hlt : n < 4
    · have hlt' : (n : Int) + 1 ≤ 4 := by omega
      have SN := Lib.hid (SE.out n hlt)
      have HT := Lib.hid (fun r h => HIT.out n r hlt NO.out h)
      have ST : Hid (Sp.search k lost f (n + 1) [] 0 = none → ∀ m, m < n + 1 → Sp.search k lost f (m + 1) [] 0 = none) := Lib.hid fun h m hm => by
        rcases Nat.lt_or_ge m n with h' | h'
        · exact NO.out m h'
        · obtain rfl : m = n := by omega
          exact h
      have O0 : Hid (Sl (wr.alloc (.cells #[] 3)) (.slice (some ⟨wr.heap.size, 0, none⟩) 0 0) []) := Lib.hid (Own.made wr wr.heap.size [] (Nat.le_refl _) (by simp)).sl
      have ga := World.grownBy_alloc wr (.cells #[] 3) none
      have R1 := Lib.hid (RR.out.kept ga (by simp))
      have G1 := Lib.hid (grown_trans GR.out ga)
      clear ga
      generalize Sp.search k lost f (n + 1) [] 0 = q' at *
      go_wp2_with fail
      refine (SN.out _ _ _ (BV.out.grown G1.out) O0.out).mono ?_
      rintro e w6 ⟨hg, hc⟩
      have R6 := Lib.hid (R1.out.kept hg (by simp))
      have G6 := Lib.hid (grown_trans G1.out hg)
      have s5 : r + 1 ≤ (wr.alloc (.cells #[] 3)).heap.size := R1.out.lt
      clear SN O0
      rcases hc with ⟨S', c, p, x, hq, hb, rfl, ht⟩ | ⟨hq, rfl⟩
      · obtain ⟨a1, n1, c1, a2, n2, c2, rfl, rfl⟩ := ht.form
        have Q := Lib.hid (HT.out S' hq)
        have ga := World.grownBy_alloc w6 (.cells #[.int .i64 lost, .slice a1 n1 c1, .slice a2 n2 c2] 25) none
        have R7 := Lib.hid (R6.out.kept ga (by simp))
        have T7 := Lib.hid (put3_two ((ht.lower s5).still ga) RL (.int .i64 lost) (.slice a1 n1 c1) (.slice a2 n2 c2))
        have G7 := Lib.hid (put3_grown (grown_trans G6.out ga) RL (.int .i64 lost) (.slice a1 n1 c1) (.slice a2 n2 c2))
        have R8 := Lib.hid (Zp.put3 R7.out (.int .i64 lost) (.slice a1 n1 c1) (.slice a2 n2 c2))
        have k0 := R7.out.cell (i := 0) rfl
        have k1 := R7.out.cell (i := 1) rfl
        have k2 := R7.out.cell (i := 2) rfl
        have f0 := R7.out.frozen 0
        have f1 := R7.out.frozen 1
        have f2 := R7.out.frozen 2
        clear hg hq ht ga HT ST s5
        go_wp2_with fail
        exact bodyPost_ret (v := .tuple #[.agg #[.int .i64 lost, .slice a1 n1 c1, .slice a2 n2 c2], .bool true]) (results_row_slot Tryd.results88 _ _ r _ _ _ _ _ rfl rfl R8.out Tryd.underlying25 rfl (by kernel_rfl)) rfl ⟨G7.out, .inl ⟨S', c, _, _, Q.out, hb, rfl, T7.out⟩⟩
      · have ga := World.grownBy_alloc w6 (.cells #[.int .i64 0, .slice none 0 0, .slice none 0 0] 25) none
        have R7 := Lib.hid (R6.out.kept ga (by simp))
        have G7 := Lib.hid (grown_trans G6.out ga)
        have ST' := Lib.hid (ST.out hq)
        clear hg hq ga HT ST s5
        go_wp2_with fail
        go_roundw
        case rel => exact ⟨n + 1, by omega, by go_num, G7.out, R7.out, ST'.out⟩
        case measure => simp [intOf]; omega
    · obtain rfl : n = 4 := by omega
      have QN := Lib.hid (MISS.out NO.out)
      have k0 := RR.out.cell (i := 0) rfl
      have k1 := RR.out.cell (i := 1) rfl
      have k2 := RR.out.cell (i := 2) rfl
      have f0 := RR.out.frozen 0
      have f1 := RR.out.frozen 1
      have f2 := RR.out.frozen 2
      have G2 := Lib.hid (put3_grown GR.out RL (.int .i64 0) (.slice none 0 0) (.slice none 0 0))
      have R2 := Lib.hid (Zp.put3 RR.out (.int .i64 0) (.slice none 0 0) (.slice none 0 0))
      go_wp2_with fail
      exact bodyPost_ret (v := .tuple #[.agg #[.int .i64 0, .slice none 0 0, .slice none 0 0], .bool false]) (results_row_slot Tryd.results88 _ _ r _ _ _ _ _ rfl rfl R2.out Tryd.underlying25 rfl (by kernel_rfl)) rfl ⟨G2.out, .inr ⟨QN.out, rfl⟩⟩

set_option maxHeartbeats 4000000 in
set_option maxRecDepth 20000 in
theorem specPlanOf (k lost : Int) (v : Value) (f : List Bool) (w : World) (hv : Bl w v f) : Calls Tryd.prog 77 #[.int .i64 k, .int .i64 lost, v] w (NewP k lost f w) := by
  have BV := Lib.hid hv
  obtain ⟨av, cv, rfl, d1, d2, hrb⟩ := hv
  unfold maxLen at d2
  have R0 : Hid (Zp (w.alloc (.cells #[.int .i64 0, .slice none 0 0, .slice none 0 0] 25)) w.heap.size) := Lib.hid (heap_alloc_new _ _)
  have G0 := Lib.hid (grown_alloc (World.grownBy.refl w none) (.cells #[.int .i64 0, .slice none 0 0, .slice none 0 0] 25))
  have IN := Lib.hid (fun w => specIn lost 0 7 w)
  obtain ⟨qi, hqi⟩ : ∃ q, (decide (0 ≤ lost) && decide (lost ≤ 7)) = q := ⟨_, rfl⟩
  rw [hqi] at IN
  have QI : Hid (qi = true ↔ 0 ≤ lost ∧ lost < 8) := Lib.hid (by rw [← hqi, Bool.and_eq_true, decide_eq_true_eq, decide_eq_true_eq]; omega)
  have KI := Lib.hid (fun w => specKind k w)
  obtain ⟨qk, hqk⟩ : ∃ q, kindM k = q := ⟨_, rfl⟩
  rw [hqk] at KI
  have QK : Hid (qk = true ↔ k = 1 ∨ k = 2) := Lib.hid (by
    rcases kind_cases k with ⟨n, rfl, hn⟩ | ⟨h1, h2⟩
    · rw [← hqk, kindM_yes hn]; exact ⟨fun _ => by omega, fun _ => rfl⟩
    · rw [← hqk, kindM_no h1 h2]; exact ⟨fun h => (by cases h), fun h => by omega⟩)
  clear hrb hqi hqk
  go_enter Tryd.func77, Tryd.ntmps77
  go_upto_region 1 with fail
  generalize w.alloc (.cells #[.int .i64 0, .slice none 0 0, .slice none 0 0] 25) = w0 at *
  obtain ⟨r, hr⟩ : ∃ r, r = w.heap.size := ⟨_, rfl⟩
  rw [← hr] at R0 ⊢
  have RL : w.heap.size ≤ r := by omega
  clear hr
  have k0 := R0.out.cell (i := 0) rfl
  have k1 := R0.out.cell (i := 1) rfl
  have k2 := R0.out.cell (i := 2) rfl
  have f0 := R0.out.frozen 0
  have f1 := R0.out.frozen 1
  have f2 := R0.out.frozen 2
  have G2 := Lib.hid (put3_grown G0.out RL (.int .i64 0) (.slice none 0 0) (.slice none 0 0))
  have R2 := Lib.hid (Zp.put3 R0.out (.int .i64 0) (.slice none 0 0) (.slice none 0 0))
  go_wp2_with fail
  refine (KI.out _).mono ?_
  rintro e w' ⟨rfl, rfl⟩
  cases qk with
  | false =>
    have NO : Hid (PlanT k lost f 0 [] [] false) := Lib.hid (PlanT.nope fun h => by have := QK.out.2 h.1; cases this)
    go_wp2_with fail
    exact bodyPost_ret (v := .tuple #[.agg #[.int .i64 0, .slice none 0 0, .slice none 0 0], .bool false]) (results_row_slot Tryd.results77 _ _ r _ _ _ _ _ rfl rfl R2.out Tryd.underlying25 rfl (by kernel_rfl)) rfl ⟨0, [], [], false, _, _, NO.out, rfl, G2.out, Own.none_ _ _, Own.none_ _ _, .inl rfl⟩
  | true =>
    go_wp2_with fail
    refine (IN.out _).mono ?_
    rintro e w' ⟨rfl, rfl⟩
    cases qi with
    | false =>
      have NO : Hid (PlanT k lost f 0 [] [] false) := Lib.hid (PlanT.nope fun h => by have := QI.out.2 h.2.1; cases this)
      go_wp2_with fail
      exact bodyPost_ret (v := .tuple #[.agg #[.int .i64 0, .slice none 0 0, .slice none 0 0], .bool false]) (results_row_slot Tryd.results77 _ _ r _ _ _ _ _ rfl rfl R2.out Tryd.underlying25 rfl (by kernel_rfl)) rfl ⟨0, [], [], false, _, _, NO.out, rfl, G2.out, Own.none_ _ _, Own.none_ _ _, .inl rfl⟩
    | true =>
      have kk := QK.out.1 (by first | rfl | trivial)
      have ll := QI.out.1 (by first | rfl | trivial)
      obtain ⟨j, rfl, hj⟩ : ∃ j : Nat, k = j ∧ (j = 1 ∨ j = 2) := ⟨k.toNat, by omega, by omega⟩
      obtain ⟨n, rfl, hn⟩ : ∃ n : Nat, lost = n ∧ n < 8 := ⟨lost.toNat, by omega, by omega⟩
      clear kk ll QK QI IN KI
      by_cases h8 : f.length = 8
      · have e8 : ((f.length : Int) != 8) = false := by simp [h8]
        have SO : Hid (∀ w, Bl w (.slice av f.length cv) f → Calls Tryd.prog 88 #[.int .i64 j, .int .i64 n, .slice av f.length cv] w (NewP j n f w)) := Lib.hid fun w h => (specL11Of hj hn f h8 _ w h).mono fun e w' h => PlanOut.told hj hn h8 h
        clear h8 G2 R2 hj
        go_wp2_with fail
        refine (SO.out _ (BV.out.grown G0.out)).mono ?_
        rintro e w8 ⟨m, l, c, b, p, q, hT, rfl, hg, ht⟩
        have R8 := Lib.hid (R0.out.kept hg (by simp))
        have G8 := Lib.hid (grown_trans G0.out hg)
        have s1 := R0.out.lt
        obtain ⟨a1, n1, c1, a2, n2, c2, rfl, rfl⟩ := ht.form
        have T1 := Lib.hid (put3_two (ht.lower (show r + 1 ≤ w0.heap.size from s1)) RL (.int .i64 m) (.slice a1 n1 c1) (.slice a2 n2 c2))
        have G9 := Lib.hid (put3_grown G8.out RL (.int .i64 m) (.slice a1 n1 c1) (.slice a2 n2 c2))
        have R9 := Lib.hid (Zp.put3 R8.out (.int .i64 m) (.slice a1 n1 c1) (.slice a2 n2 c2))
        have HT := Lib.hid hT
        clear k0 k1 k2 f0 f1 f2 hg ht hT SO
        have k0 := R8.out.cell (i := 0) rfl
        have k1 := R8.out.cell (i := 1) rfl
        have k2 := R8.out.cell (i := 2) rfl
        have f0 := R8.out.frozen 0
        have f1 := R8.out.frozen 1
        have f2 := R8.out.frozen 2
        go_wp2_with fail
        exact bodyPost_ret (v := .tuple #[.agg #[.int .i64 m, .slice a1 n1 c1, .slice a2 n2 c2], .bool b]) (results_row_slot Tryd.results77 _ _ r _ _ _ _ _ rfl rfl R9.out Tryd.underlying25 rfl (by kernel_rfl)) rfl ⟨m, l, c, b, _, _, HT.out, rfl, G9.out, T1.out⟩
      · have NO : Hid (PlanT j n f 0 [] [] false) := Lib.hid (PlanT.nope fun h => h8 h.2.2)
        have e8 : ((f.length : Int) != 8) = true := by rw [bne_iff_ne]; omega
        go_wp2_with fail
        exact bodyPost_ret (v := .tuple #[.agg #[.int .i64 0, .slice none 0 0, .slice none 0 0], .bool false]) (results_row_slot Tryd.results77 _ _ r _ _ _ _ _ rfl rfl R2.out Tryd.underlying25 rfl (by kernel_rfl)) rfl ⟨0, [], [], false, _, _, NO.out, rfl, G2.out, Own.none_ _ _, Own.none_ _ _, .inl rfl⟩
end Go.Proofs.YtlehcpcejkpbmaaDoor
