/-
  What a plan makes of values, and whether it makes its row: in the model.
  Conditions: none.
-/
import Derived.Test.YtlehcpcejkpbmaaDoorPlanSpecForm
namespace Go.Proofs.YtlehcpcejkpbmaaDoor
open Go.RowKit
set_option linter.unusedVariables false

theorem small_prod {x y : Int} (hx : Fld.ok x = true) (hy : Fld.ok y = true) : 0 ≤ x * y ∧ x * y ≤ 900 := by
  have h1 := Fld.ok_iff.1 hx
  have h2 := Fld.ok_iff.1 hy
  refine ⟨Int.mul_nonneg h1.1 h2.1, ?_⟩
  have h3 : x * y ≤ 30 * y := Int.mul_le_mul_of_nonneg_right (by omega) h2.1
  omega

theorem planV_succ {k : Nat} (hk : k = 1 ∨ k = 2) {l m : List Int} {i xn : Nat} (hx : l.getD i 0 = xn) (h8 : xn < 8) : planV k l m (i + 1) = Sp.ladd (planV k l m i) (Sp.lmul (Sp.crow k xn) (m.getD i 0)) := by
  obtain ⟨r0, r1, r2, r3, hc, _⟩ := crow_four hk h8
  simp only [planV, dsum, hx, Int.toNat_natCast, col_get k _ h8, hc, Sp.ladd, Sp.lmul, List.map_cons, List.map_nil, List.zipWith_cons_cons, List.zipWith_nil_right, add_short]
  simp only [Int.mul_comm (m.getD i 0)]
  rfl
theorem tabOne {w : World} {g : Nat} {u : Value} {l : List Int} (hg : Blk w g 23 [u]) (hu : Sl w u l) : Tab w (.slice (some ⟨g, 0, none⟩) 1 1) [u] [l] := by
  refine ⟨rfl, ⟨_, _, rfl, by simp, by simp [maxLen], .inr ⟨g, 0, rfl, fun i v hv => ?_⟩⟩, fun i v m hv hm => ?_⟩
  · cases i with
    | zero => simp at hv; subst hv; exact hg.cell (i := 0) rfl
    | succ i => simp at hv
  · cases i with
    | zero => simp at hv hm; subst hv hm; exact hu
    | succ i => simp at hv
theorem makeZeros (W : World) : (Instr.makeSlice 23 (.int .i64 4) (.int .i64 4)).run Tryd.prog W = .ok (.slice (some ⟨W.heap.size, 0, none⟩) 4 4) (W.alloc (.cells #[.int .i64 0, .int .i64 0, .int .i64 0, .int .i64 0] 3)) := makeFour W

set_option maxHeartbeats 8000000 in
set_option maxRecDepth 20000 in
theorem specPlanOk (k n : Int) (u v : Value) (l m : List Int) (w : World) (hu : Sl w u l) (hv : Sl w v m) :
    Calls Tryd.prog 23 #[.int .i64 k, .agg #[.int .i64 n, u, v]] w fun e w' => e = .returned (.bool (okP k n l m)) ∧ w.grownBy w' none := by
  have U := Lib.hid hu
  have V := Lib.hid hv
  obtain ⟨a1, c1, e1, q1, q2, hr1⟩ := hu
  obtain ⟨a2, c2, e2, q3, q4, hr2⟩ := hv
  have R1 := Lib.hid hr1
  have R2 := Lib.hid hr2
  subst e1 e2
  unfold maxLen at q2 q4
  obtain ⟨nl, hnl⟩ : ∃ x, x = l.length := ⟨_, rfl⟩
  obtain ⟨ml, hml⟩ : ∃ x, x = m.length := ⟨_, rfl⟩
  rw [← hnl] at U q1 ⊢
  rw [← hml] at V q3 ⊢
  have NL := Lib.hid hnl
  have ML := Lib.hid hml
  clear hnl hml hr1 hr2
  have K0 : Hid (Blk (w.alloc (.cells #[.int .i64 n, .slice a1 nl c1, .slice a2 ml c2] 25)) w.heap.size 25 [.int .i64 n, .slice a1 nl c1, .slice a2 ml c2]) := Lib.hid (heap_alloc_new _ _)
  have G0 := Lib.hid (grown_alloc (World.grownBy.refl w none) (.cells #[.int .i64 n, .slice a1 nl c1, .slice a2 ml c2] 25))
  have KO : Hid (okP k n l m = (decide (k = 1 ∨ k = 2) && (pForm n l m && decide (planV k.toNat l m l.length = Sp.crow k.toNat n.toNat)))) := Lib.hid rfl
  have PF : Hid (pForm n l m = true → (0 ≤ n ∧ n < 8) ∧ m.length = l.length ∧ ∀ i, i < l.length → pAt n l m i = true) := Lib.hid (fun h => ⟨(of_decide_eq_true (pForm_out h).1).1, (of_decide_eq_true (pForm_out h).1).2.2.2, (pForm_out h).2⟩)
  cases hkm : kindM k with
  | false =>
    have NO : Hid (okP k n l m = false) := Lib.hid (by rw [KO.out, show decide (k = 1 ∨ k = 2) = false from decide_eq_false (fun h => by unfold kindM at hkm; rw [Bool.and_eq_false_iff] at hkm; simp only [decide_eq_false_iff_not] at hkm; omega)]; rfl)
    have SK := Lib.hid (fun W => specKind k W)
    rw [hkm] at SK
    clear hkm KO PF
    go_enter Tryd.func23, Tryd.ntmps23
    go_wp2_with fail
    refine (SK.out _).mono ?_
    rintro e w' ⟨rfl, rfl⟩
    go_wp2_with fail
    go_ret
    exact ⟨by rw [NO.out]; rfl, G0.out⟩
  | true =>
    have SK := Lib.hid (fun W => specKind k W)
    rw [hkm] at SK
    have hk12 : k = 1 ∨ k = 2 := by unfold kindM at hkm; simp only [Bool.and_eq_true, decide_eq_true_eq] at hkm; omega
    obtain ⟨j, rfl, hj⟩ : ∃ j : Nat, k = j ∧ (j = 1 ∨ j = 2) := ⟨k.toNat, by omega, by omega⟩
    clear hkm
    rw [show decide ((j : Int) = 1 ∨ (j : Int) = 2) = true from decide_eq_true hk12, Bool.true_and, Int.toNat_natCast] at KO
    go_enter Tryd.func23, Tryd.ntmps23
    go_wp2_with fail
    generalize (w.alloc (.cells #[.int .i64 n, .slice a1 nl c1, .slice a2 ml c2] 25)) = w0 at *
    generalize w.heap.size = bp at *
    have k0 := K0.out.cell (i := 0) rfl
    have k1 := K0.out.cell (i := 1) rfl
    have k2 := K0.out.cell (i := 2) rfl
    refine (SK.out _).mono ?_
    rintro e w' ⟨rfl, rfl⟩
    go_wp2_with fail
    refine (specL11Form n _ _ l m _ (U.out.grown G0.out) (V.out.grown G0.out)).mono ?_
    rintro e w1 ⟨rfl, hg⟩
    have G1 := Lib.hid (grown_trans G0.out hg)
    have K1 := Lib.hid (K0.out.kept hg (by simp))
    obtain ⟨q, hq⟩ : ∃ q, pForm n l m = q := ⟨_, rfl⟩
    rw [hq] at KO PF ⊢
    clear hg G0 K0 k0 k1 k2 hq
    cases q with
    | false =>
      have NO : Hid (okP j n l m = false) := Lib.hid (by rw [KO.out]; rfl)
      clear KO PF
      go_wp2_with fail
      go_ret
      exact ⟨by rw [NO.out]; rfl, G1.out⟩
    | true =>
      obtain ⟨hn, hme, hpa⟩ := PF.out rfl
      have ME := Lib.hid hme
      have PA := Lib.hid hpa
      clear hme hpa PF
      obtain ⟨i, rfl⟩ : ∃ i : Nat, n = i := ⟨n.toNat, by omega⟩
      have hi8 : i < 8 := by omega
      have hm := makeZeros w1
      have Z2 : Hid (Sl (w1.alloc (.cells #[.int .i64 0, .int .i64 0, .int .i64 0, .int .i64 0] 3)) (.slice (some ⟨w1.heap.size, 0, none⟩) 4 4) (planV j l m 0)) := Lib.hid ((Arr.new w1 3 [0, 0, 0, 0]).own rfl 0 (Nat.zero_le _) (by simp [maxLen])).sl
      have G2 := Lib.hid (grown_alloc G1.out (.cells #[.int .i64 0, .int .i64 0, .int .i64 0, .int .i64 0] 3))
      have K2 := Lib.hid (K1.out.kept (World.grownBy_alloc w1 (.cells #[.int .i64 0, .int .i64 0, .int .i64 0, .int .i64 0] 3) none) (by simp))
      clear K1 G1
      go_wp2_with fail
      clear hm
      generalize w1.alloc (.cells #[.int .i64 0, .int .i64 0, .int .i64 0, .int .i64 0] 3) = w2 at *
      generalize w1.heap.size = gb at *
      go_loopw [5, 6] (fun o p wr => ∃ t : Nat, t ≤ nl ∧ p = .int .i64 t ∧ Sl wr o (planV j l m t) ∧ w.grownBy wr none ∧ Blk wr bp 25 [.int .i64 i, .slice a1 nl c1, .slice a2 ml c2]) (fun _ p _ => nl - (intOf p).toNat)
      case atStart => exact ⟨0, by omega, rfl, Z2.out, G2.out, K2.out⟩
      case round =>
        obtain ⟨t, ht, rfl, hs, hg, hb⟩ := hrel
        have S0 := Lib.hid hs
        have G := Lib.hid hg
        have K := Lib.hid hb
        clear hs hg hb Z2 G2 K2
        have k1 := K.out.cell (i := 1) rfl
        by_cases hlt' : t < nl
        · have hlt : t < l.length := by rw [← NL.out]; exact hlt'
          have hi : (t : Int) < (nl : Int) := by omega
          have hi2 : (t : Int) < (ml : Int) := by have := ML.out; have := NL.out; have := ME.out; omega
          obtain ⟨b1, o1, rfl, hx⟩ := (R1.out.grown G.out).at_ (k := t) hlt
          obtain ⟨b2, o2, rfl, hy⟩ := (R2.out.grown G.out).at_ (k := t) (by rw [ME.out]; exact hlt)
          have P := pAt_out (PA.out t hlt)
          obtain ⟨xn, hxn⟩ : ∃ p : Nat, l.getD t 0 = p := ⟨(l.getD t 0).toNat, by have := P.1; omega⟩
          rw [hxn] at hx P
          have hx8 : xn < 8 := by have := P.1; omega
          have oy := P.2.2.2.1
          have PS := Lib.hid (planV_succ hj (m := m) hxn hx8)
          have RP : Hid (Sp.Row 4 (planV j l m t)) := Lib.hid (Sp.row_ok.1 (planV_ok j l m t))
          have RC := Lib.hid (Sp.crow_row hj hx8)
          have HJ := Lib.hid hj
          generalize planV j l m t = pv at *
          generalize m.getD t 0 = y at *
          have OY := Lib.hid oy
          have x1 : wr.drew.cell? ⟨bp, 1, none⟩ = some (.slice (some ⟨b1, o1, none⟩) nl c1) := K.out.cell (i := 1) rfl
          have x2 : wr.drew.cell? ⟨bp, 2, none⟩ = some (.slice (some ⟨b2, o2, none⟩) ml c2) := K.out.cell (i := 2) rfl
          have x3 : wr.drew.cell? ⟨b1, o1 + t, none⟩ = some (.int .i64 xn) := hx
          have x4 : wr.drew.cell? ⟨b2, o2 + t, none⟩ = some (.int .i64 y) := hy
          have G' := Lib.hid (grown_drew G.out)
          have S' := Lib.hid (S0.out.grown (grown_drew (World.grownBy.refl wr none)))
          have K' : Hid (Blk wr.drew bp 25 [.int .i64 i, .slice (some ⟨b1, o1, none⟩) nl c1, .slice (some ⟨b2, o2, none⟩) ml c2]) := Lib.hid K.out
          clear P hxn hlt hlt' hx hy oy G S0 K hj
          go_wp2_with fail
          clear k1
          go_region_held3 (fun w' => w'.cell? ⟨bp, 1, none⟩ = some (.slice (some ⟨b1, o1, none⟩) nl c1) ∧ w'.cell? ⟨bp, 2, none⟩ = some (.slice (some ⟨b2, o2, none⟩) ml c2) ∧ w'.cell? ⟨b1, o1 + t, none⟩ = some (.int .i64 xn) ∧ w'.cell? ⟨b2, o2 + t, none⟩ = some (.int .i64 y))
            (first
              | with_reducible exact ⟨x1, x2, x3, x4⟩
              | with_reducible exact H1.out
              | with_reducible exact H2.out
              | with_reducible exact H3.out)
            (first
              | (go_at_call 57; refine (specAdd u5 s2 4 pv (Sp.lmul (Sp.crow j xn) y) _ ((S'.out.grown D1.out).grown D2.out) ho2.sl RP.out (Sp.row_lmul RC.out _) (by omega)).mono ?_; rintro e w6 ⟨s3, rfl, hg3, ho3⟩
                 have H3 := Lib.hid (And.intro (hg3.cell H2.out.1 (by simp)) (And.intro (hg3.cell H2.out.2.1 (by simp)) (And.intro (hg3.cell H2.out.2.2.1 (by simp)) (hg3.cell H2.out.2.2.2 (by simp)))))
                 have D3 := Lib.hid hg3)
              | (go_at_call 58; refine (specMul s1 4 (Sp.crow j xn) y _ ho1.sl RC.out OY.out (by omega)).mono ?_; rintro e w5 ⟨s2, rfl, hg2, ho2⟩
                 have H2 := Lib.hid (And.intro (hg2.cell H1.out.1 (by simp)) (And.intro (hg2.cell H1.out.2.1 (by simp)) (And.intro (hg2.cell H1.out.2.2.1 (by simp)) (hg2.cell H1.out.2.2.2 (by simp)))))
                 have D2 := Lib.hid hg2)
              | (go_at_call 59; refine (specL4Row HJ.out hx8 _).mono ?_; rintro e w4 ⟨s1, rfl, hg1, ho1⟩
                 have H1 := Lib.hid (And.intro (hg1.cell x1 (by simp)) (And.intro (hg1.cell x2 (by simp)) (And.intro (hg1.cell x3 (by simp)) (hg1.cell x4 (by simp)))))
                 have D1 := Lib.hid hg1))
          have DD : Hid (wr.drew.grownBy w6 none) := Lib.hid (grown_trans (grown_trans D1.out D2.out) D3.out)
          have G6 := Lib.hid (grown_trans G'.out DD.out)
          have K6 := Lib.hid (K'.out.kept DD.out (by simp))
          have S6 : Hid (Sl w6 s3 (planV j l m (t + 1))) := Lib.hid (by rw [PS.out]; exact ho3.sl)
          have hj := HJ.out
          clear x1 x2 x3 x4 H1 H2 H3 D1 D2 D3 DD hg1 hg2 hg3 ho1 ho2 ho3 G' S' K' PS
          go_wp2_with fail
          go_roundw
          case rel => exact ⟨t + 1, by omega, by go_num, S6.out, G6.out, K6.out⟩
          case measure => simp [intOf]; omega
        · obtain rfl : t = nl := by omega
          have hi : ¬ (t : Int) < (t : Int) := by omega
          obtain ⟨a5, c5, e5, _, _, _⟩ := S0.out
          rw [show (planV j l m t).length = 4 from rfl] at e5
          subst e5
          have k0 := K.out.cell (i := 0) rfl
          have TB : Hid (Blk (wr.alloc (.cells #[.slice a5 4 c5] 23)) wr.heap.size 23 [.slice a5 4 c5]) := Lib.hid (heap_alloc_new _ _)
          have G1 := Lib.hid (grown_alloc G.out (.cells #[.slice a5 4 c5] 23))
          have S1 := Lib.hid (S0.out.grown (World.grownBy_alloc wr (.cells #[.slice a5 4 c5] 23) none))
          have c0 := (K.out.kept (World.grownBy_alloc wr (.cells #[.slice a5 4 c5] 23) none) (by simp)).cell (i := 0) rfl
          have RP : Hid (Sp.Row 4 (planV j l m t)) := Lib.hid (Sp.row_ok.1 (planV_ok j l m t))
          have RC := Lib.hid (Sp.crow_row hj hi8)
          have FIN : Hid (okP j i l m = decide ([planV j l m t] = [Sp.crow j i])) := Lib.hid (by
            rw [KO.out, NL.out]
            simp)
          clear K G S0 KO k0
          go_wp2_with fail
          generalize wr.alloc (.cells #[.slice a5 4 c5] 23) = wa at *
          generalize wr.heap.size = ga at *
          clear k1
          refine (specL4Row hj hi8 _).mono ?_
          rintro e w4 ⟨s1, rfl, hg1, ho1⟩
          obtain ⟨a6, c6, e6, _, _, _⟩ := ho1.sl
          rw [RC.out.1] at e6
          subst e6
          have TC : Hid (Blk (w4.alloc (.cells #[.slice a6 4 c6] 23)) w4.heap.size 23 [.slice a6 4 c6]) := Lib.hid (heap_alloc_new _ _)
          have ga2 := World.grownBy_alloc w4 (.cells #[.slice a6 4 c6] 23) none
          have T1 : Hid (Tab (w4.alloc (.cells #[.slice a6 4 c6] 23)) (.slice (some ⟨ga, 0, none⟩) 1 1) [.slice a5 4 c5] [planV j l m t]) := Lib.hid (tabOne ((TB.out.kept hg1 (by simp)).kept ga2 (by simp)) ((S1.out.grown hg1).grown ga2))
          have T2 : Hid (Tab (w4.alloc (.cells #[.slice a6 4 c6] 23)) (.slice (some ⟨w4.heap.size, 0, none⟩) 1 1) [.slice a6 4 c6] [Sp.crow j i]) := Lib.hid (tabOne TC.out (ho1.sl.grown ga2))
          have G2 := Lib.hid (grown_alloc (grown_trans G1.out hg1) (.cells #[.slice a6 4 c6] 23))
          clear hg1 ho1 ga2 TB TC S1 G1 c0
          go_wp2_with fail
          generalize w4.alloc (.cells #[.slice a6 4 c6] 23) = wb at *
          generalize w4.heap.size = gd at *
          refine (specL3Same _ _ [.slice a5 4 c5] [.slice a6 4 c6] [planV j l m t] [Sp.crow j i] _ T1.out T2.out (by simpa using RP.out) (by simpa using RC.out)).mono ?_
          rintro e w5 ⟨rfl, hg⟩
          have G3 := Lib.hid (grown_trans G2.out hg)
          generalize decide ([planV j l m t] = [Sp.crow j i]) = r at *
          clear hg T1 T2 G2
          go_wp2_with fail
          go_ret
          exact ⟨by rw [FIN.out]; rfl, G3.out⟩
end Go.Proofs.YtlehcpcejkpbmaaDoor
