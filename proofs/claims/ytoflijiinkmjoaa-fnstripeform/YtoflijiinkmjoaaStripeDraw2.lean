/-
  The contract of drawing a stripe.
  Conditions: the reader has been read at most 800000 times.
-/
import Derived.Test.YtoflijiinkmjoaaStripeDraw
namespace Go.Proofs.Ytoflijiinkmjoaa
open Go.RowKit Go.Shelf
set_option linter.unusedVariables false
set_option linter.unusedSimpArgs false
attribute [local go_sem] Oper.semAt_some

/-- a stripe's rows are no block of a stripe. -/
theorem StAt.neZ {w : World} {base s g1 g2 g3 d1 d2 d3 gz : Nat} {k : Int} {a v : List Int} {f : List Bool} (h : StAt w base s g1 g2 g3 d1 d2 d3 k a v f) (hz : OutC w gz) : gz ≠ g1 ∧ gz ≠ g2 ∧ gz ≠ g3 := by
  obtain ⟨h0, h1, h2, _⟩ := own3 h.own
  exact ⟨fun e => item_neC h0 hz (show (3 : Nat) ≠ 26 by decide) (by rw [e]; rfl), fun e => item_neC h1 hz (show (3 : Nat) ≠ 26 by decide) (by rw [e]; rfl), fun e => item_neC h2 hz (show (4 : Nat) ≠ 26 by decide) (by rw [e]; rfl)⟩
/-- what drawing a stripe leaves: one whose three rows are of eight, in memory of their own. -/
def DrawnSt (c p : Nat) (w : World) (e : Ending) (w' : World) : Prop := ∃ (k : Int) (u x y : Value) (a v : List Int) (f : List Bool), a.length = 8 ∧ v.length = 8 ∧ f.length = 8 ∧ e = .returned (.agg #[.int .i64 k, u, x, y]) ∧ Far c w w' ∧ Rd w' c (p + 200) ∧ StOwn w' w.heap.size u x y a v f

set_option maxHeartbeats 64000000 in
set_option maxRecDepth 60000 in
theorem drawStripe (c p : Nat) (w : World) (h : Rd w c p) (hp : p ≤ 800000) : Calls Try.prog 39 #[.pointer (some ⟨c, 0, none⟩)] w (DrawnSt c p w) := by
  have R0 := Lib.hid h
  have HC := h.lt
  clear h
  have EP := enters_of (P := Try.prog) Try.func58 (by kernel_rfl) rfl
  have EN := enters_of (P := Try.prog) Try.func78 (by kernel_rfl) rfl
  have EL := enters_of (P := Try.prog) Try.func63 (by kernel_rfl) rfl
  have ED := enters_of (P := Try.prog) Try.func75 (by kernel_rfl) rfl
  have EW := enters_of (P := Try.prog) Try.func77 (by kernel_rfl) rfl
  have ES := enters_of (P := Try.prog) Try.func76 (by kernel_rfl) rfl
  have ET := enters_of (P := Try.prog) Try.func69 (by kernel_rfl) rfl
  go_enter Try.func39, Try.ntmps39
  go_upto_region 1 with fail
  have D : Hid (DS w c w.heap.size p (w.alloc (.cells #[.int .i64 0, .slice none 0 0, .slice none 0 0, .slice none 0 0] 26))) := Lib.hid ⟨Far.alloc w _, R0.out.alloc _, ⟨_, heap_alloc_new _ _, rfl⟩⟩
  generalize w.alloc (.cells #[.int .i64 0, .slice none 0 0, .slice none 0 0, .slice none 0 0] 26) = wr at *
  obtain ⟨gz, hgz⟩ : ∃ g, g = w.heap.size := ⟨_, rfl⟩
  rw [← hgz] at D ⊢
  have HZ : w.heap.size ≤ gz := by omega
  have HCZ : c < gz := by omega
  clear hgz R0
  go_wp2_with fail
  refine (pick c p _ _ D.out.rd (by omega) (by omega) (by omega)).mono ?_
  rintro e wr ⟨m, m0, m1, rfl, hf, hr⟩
  replace D := Lib.hid (D.out.go hf hr HCZ)
  clear hf hr
  obtain ⟨j, hj, hj2⟩ : ∃ j : Nat, 1 + m = j ∧ (j = 1 ∨ j = 2) := ⟨(1 + m).toNat, by omega, by omega⟩
  have wm : IntKind.i64.wrap (1 + m) = (j : Int) := (IntWalk.i64_in _ (by omega)).trans hj
  have J2 := Lib.hid hj2
  clear hj m0 m1 hj2
  have C0 := D.out.rd.lt
  go_wp2_with fail
  refine (drawData c _ _ D.out.rd (by omega)).mono ?_
  rintro e wr ⟨dd, dv, hd, rfl, hf, hr, ho⟩
  have HD := Lib.hid hd
  have OV := Lib.hid ho
  replace D := Lib.hid (D.out.go hf hr HCZ)
  clear hf hr hd ho
  go_wp2_with fail
  refine (pick c _ _ _ D.out.rd (by omega) (by omega) (by omega)).mono ?_
  rintro e wr ⟨m', m0, m1, rfl, hf, hr⟩
  replace OV := Lib.hid (OV.out.far hf C0)
  replace D := Lib.hid (D.out.go hf hr HCZ)
  clear hf hr C0
  have wn : IntKind.i64.wrap (1 + m') = 1 + m' := IntWalk.i64_in _ (by omega)
  clear m0 m1
  go_wp2_with fail
  refine (specL21New J2.out dv dd (1 + m') _ OV.out.sl HD.out).mono ?_
  rintro e wr ⟨u, x, y, rfl, hg, ho⟩
  obtain ⟨g1, g2, g3, d1, d2, d3, e1, e2, e3, hS⟩ := StAt.new (w := wr) (w' := wr) (k := (j : Int)) ho (allK_len _ _ _) (by simp) (by simp)
  subst e1 e2 e3
  have ga := World.grownBy_alloc wr (.cells #[.int .i64 j, .slice (some ⟨g1, 0, none⟩) 8 d1, .slice (some ⟨g2, 0, none⟩) 8 d2, .slice (some ⟨g3, 0, none⟩) 8 d3] 26) none
  have A : Hid (StAt (wr.alloc (.cells #[.int .i64 j, .slice (some ⟨g1, 0, none⟩) 8 d1, .slice (some ⟨g2, 0, none⟩) 8 d2, .slice (some ⟨g3, 0, none⟩) 8 d3] 26)) w.heap.size wr.heap.size g1 g2 g3 d1 d2 d3 j _ _ _) := Lib.hid ⟨hS.blk, hS.own.lower D.out.far.size, hS.la, hS.lv, hS.lf, hS.ne1, hS.ne2, hS.ne3⟩
  replace D := Lib.hid (D.out.still hg)
  have SZ := outC_lt D.out.out
  have SC := D.out.rd.lt
  have SW := D.out.far.size
  replace D := Lib.hid (D.out.still ga)
  clear hg ho ga hS OV wm wn
  go_upto_region 2 with fail
  generalize wr.alloc (.cells #[.int .i64 j, .slice (some ⟨g1, 0, none⟩) 8 d1, .slice (some ⟨g2, 0, none⟩) 8 d2, .slice (some ⟨g3, 0, none⟩) 8 d3] 26) = w4 at *
  obtain ⟨s, hs⟩ : ∃ g, g = wr.heap.size := ⟨_, rfl⟩
  rw [← hs] at A SZ SC SW ⊢
  clear hs
  have HS : w.heap.size ≤ s := SW
  have HSC : s ≠ c := by omega
  have NSZ : s ≠ gz := by omega
  have I0 : Hid (InD w c gz s (p + 1 + 4 + 1) w4) := Lib.hid ⟨D.out, _, _, _, _, _, _, _, _, _, _, A.out⟩
  clear A SZ SC SW HD J2
  go_wp2_with fail
  refine (pick c _ _ _ D.out.rd (by omega) (by omega) (by omega)).mono ?_
  rintro e wr ⟨n, n0, n1, rfl, hf, hr⟩
  have I1 : Hid (InD w c gz s (p + 20) wr) := Lib.hid (by
    obtain ⟨hD, _, _, _, _, _, _, _, _, _, _, hA⟩ := I0.out
    exact ⟨(hD.go hf hr HCZ).more (by omega), _, _, _, _, _, _, _, _, _, _, hA.far hf HC HSC⟩)
  clear hf hr I0 D
  obtain ⟨n, rfl⟩ : ∃ i : Nat, n = i := ⟨n.toNat, by omega⟩
  have hn3 : n ≤ 3 := by omega
  clear n0 n1
  go_wp2_with fail
  go_loopw [4, 5, 6] (fun i _ _ wr => ∃ n : Nat, n ≤ 3 ∧ i = .int .i64 n ∧ InD w c gz s (p + 20 + 10 * (3 - n)) wr) (fun i _ _ _ => (intOf i).toNat)
  case atStart => exact ⟨n, hn3, rfl, by obtain ⟨h1, h2⟩ := I1.out; exact ⟨h1.more (by omega), h2⟩⟩
  case round =>
    clear I1 hn3
    obtain ⟨n, hn, rfl, hI⟩ := hrel
    obtain ⟨hD, g1, g2, g3, d1, d2, d3, k, a, v, f, hA⟩ := hI
    have D := Lib.hid hD
    have A := Lib.hid hA
    clear hD hA
    by_cases hlt : 0 < n
    · have hlt' : (0 : Int) < (n : Int) := by omega
      go_wp2_with fail
      refine (pick c _ _ _ D.out.rd (by omega) (by omega) (by omega)).mono ?_
      rintro e wr ⟨q, q0, q1, rfl, hf, hr⟩
      replace D := Lib.hid (D.out.go hf hr HCZ)
      replace A := Lib.hid (A.out.far hf HC HSC)
      clear hf hr
      by_cases hq : q = 0
      · subst hq
        clear q0 q1
        go_upto_region 8 with fail
        refine wp_region_held (S := fun W => Blk W s 26 [.int .i64 k, .slice (some ⟨g1, 0, none⟩) 8 d1, .slice (some ⟨g2, 0, none⟩) 8 d2, .slice (some ⟨g3, 0, none⟩) 8 d3]) (by kernel_rfl) ?_
        change wpAnyH _ _ _ _ _ _ _ _ wr.drew
        have gd := grown_drew (World.grownBy.refl wr none)
        replace D := Lib.hid (D.out.still gd)
        replace A := Lib.hid (A.out.still gd)
        clear gd
        generalize wr.drew = wr at *
        refine Rg.take_ 0 (some 32) (.agg #[.int .i64 k, .slice (some ⟨g1, 0, none⟩) 8 d1, .slice (some ⟨g2, 0, none⟩) 8 d2, .slice (some ⟨g3, 0, none⟩) 8 d3]) rfl rfl (by kernel_rfl) (by kernel_rfl) (by kernel_rfl) (fun _ _ _ h => h) (.inl ⟨by rfl, fun W' hS => (by have c0 := hS.cell (i := 0) rfl; have c1 := hS.cell (i := 1) rfl; have c2 := hS.cell (i := 2) rfl; have c3 := hS.cell (i := 3) rfl; go_simp)⟩) A.out.blk ?_
        simp only [Act.put, List.setIfInBounds_toArray, List.set_cons_zero, List.set_cons_succ]
        refine Rg.take_ 1 (some 33) (.pointer (some ⟨c, 0, none⟩)) rfl rfl (by kernel_rfl) (by kernel_rfl) (by kernel_rfl) (fun _ _ _ h => h) (.inl ⟨by rfl, fun W' hS => (by go_simp)⟩) A.out.blk ?_
        simp only [Act.put, List.setIfInBounds_toArray, List.set_cons_zero, List.set_cons_succ]
        refine Rg.take_ 3 (some 35) (.pointer (some ⟨c, 0, none⟩)) rfl rfl (by kernel_rfl) (by kernel_rfl) (by kernel_rfl) (fun _ _ _ h => h) (.inl ⟨by rfl, fun W' hS => (by go_simp)⟩) A.out.blk ?_
        simp only [Act.put, List.setIfInBounds_toArray, List.set_cons_zero, List.set_cons_succ]
        refine Rg.ready_two (i := 2) (k := 9) (by kernel_rfl) rfl rfl rfl rfl ?_ ?_
        · have C0 := D.out.rd.lt
          refine Rg.call_at (some 34) (f := 75) (args := #[.pointer (some ⟨c, 0, none⟩)]) rfl (by go_simp) ((drawData c _ _ D.out.rd (by omega)).mono ?_)
          rintro e wr ⟨dd, dv, hd, rfl, hf, hr, ho⟩
          have HD := Lib.hid hd
          have OV := Lib.hid ho
          replace D := Lib.hid (D.out.go hf hr HCZ)
          replace A := Lib.hid (A.out.far hf HC HSC)
          clear hd hf hr ho
          refine ⟨_, rfl, A.out.blk, ?_⟩
          simp only [Act.put, List.setIfInBounds_toArray, List.set_cons_zero, List.set_cons_succ]
          refine Rg.ready_two (i := 4) (k := 9) (by kernel_rfl) rfl rfl rfl rfl ?_ ?_
          · have C1 := D.out.rd.lt
            refine Rg.call_at (some 36) (f := 77) (args := #[.pointer (some ⟨c, 0, none⟩)]) rfl (by go_simp) ((drawWhich c _ _ D.out.rd (by omega)).mono ?_)
            rintro e wr ⟨qq, qv, hq, rfl, hf, hr, ho⟩
            have HQ := Lib.hid hq
            have OQ := Lib.hid ho
            replace OV := Lib.hid (OV.out.far hf C0)
            replace D := Lib.hid (D.out.go hf hr HCZ)
            replace A := Lib.hid (A.out.far hf HC HSC)
            clear hq hf hr ho
            refine ⟨_, rfl, A.out.blk, ?_⟩
            simp only [Act.put, List.setIfInBounds_toArray, List.set_cons_zero, List.set_cons_succ]
            refine Rg.ready_two (i := 5) (k := 9) (by kernel_rfl) rfl rfl rfl rfl ?_ ?_
            · refine Rg.call_at (some 37) (f := 76) (args := #[.agg #[.int .i64 k, .slice (some ⟨g1, 0, none⟩) 8 d1, .slice (some ⟨g2, 0, none⟩) 8 d2, .slice (some ⟨g3, 0, none⟩) 8 d3], dv, qv]) rfl (by go_simp) ((specStripeWrite k _ _ _ dv qv a v dd f qq _ A.out.own.a A.out.own.v A.out.own.f OV.out.sl OQ.out.bl (by rw [A.out.la]; omega)).mono ?_)
              rintro e wr ⟨k', a', v', f', b, hT, u5, x5, y5, rfl, hg, ho⟩
              have OX := Lib.hid (ho.lower D.out.far.size)
              have LX : Hid (b = true → a'.length = 8 ∧ v'.length = 8 ∧ f'.length = 8) := Lib.hid (fun hb => by
                rcases hT with ⟨_, _, _, _, _, _, ea, ev, ef⟩ | ⟨h, _⟩ | ⟨h, _⟩
                · rw [ea, ev, ef, wrI_len, wrI_len, wrB_len]; exact ⟨A.out.la, A.out.lv, A.out.lf⟩
                · rw [hb] at h; cases h
                · rw [hb] at h; cases h)
              replace D := Lib.hid (D.out.still hg)
              replace A := Lib.hid (A.out.still hg)
              clear hT hg ho OV OQ
              obtain ⟨b4, d4, e4, -, -, -⟩ := OX.out.a
              obtain ⟨b5, d5, e5, -, -, -⟩ := OX.out.v
              obtain ⟨b6, d6, e6, -, -, -⟩ := OX.out.f
              obtain ⟨n4, hn4⟩ : ∃ n, n = a'.length := ⟨_, rfl⟩
              obtain ⟨n5, hn5⟩ : ∃ n, n = v'.length := ⟨_, rfl⟩
              obtain ⟨n6, hn6⟩ : ∃ n, n = f'.length := ⟨_, rfl⟩
              rw [← hn4] at e4
              rw [← hn5] at e5
              rw [← hn6] at e6
              subst e4 e5 e6
              clear hn4 hn5 hn6
              refine ⟨_, rfl, A.out.blk, ?_⟩
              simp only [Act.put, List.setIfInBounds_toArray, List.set_cons_zero, List.set_cons_succ]
              refine Rg.take_ 6 (some 31) (.tuple #[.agg #[.int .i64 k', .slice b4 n4 d4, .slice b5 n5 d5, .slice b6 n6 d6], .bool b]) rfl rfl (by kernel_rfl) (by kernel_rfl) (by kernel_rfl) (fun _ _ _ h => h) (.inl ⟨by rfl, fun W' hS => (by go_simp)⟩) A.out.blk ?_
              simp only [Act.put, List.setIfInBounds_toArray, List.set_cons_zero, List.set_cons_succ]
              refine Rg.take_ 7 (some 38) (.agg #[.int .i64 k', .slice b4 n4 d4, .slice b5 n5 d5, .slice b6 n6 d6]) rfl rfl (by kernel_rfl) (by kernel_rfl) (by kernel_rfl) (fun _ _ _ h => h) (.inl ⟨by rfl, fun W' hS => (by go_simp)⟩) A.out.blk ?_
              simp only [Act.put, List.setIfInBounds_toArray, List.set_cons_zero, List.set_cons_succ]
              refine Rg.take_ 8 (some 39) (.bool b) rfl rfl (by kernel_rfl) (by kernel_rfl) (by kernel_rfl) (fun _ _ _ h => h) (.inl ⟨by rfl, fun W' hS => (by go_simp)⟩) A.out.blk ?_
              simp only [Act.put, List.setIfInBounds_toArray, List.set_cons_zero, List.set_cons_succ]
              refine Rg.ready_one (i := 9) (by kernel_rfl) rfl rfl ?_
              refine Rg.value_at (some 5) (.pointer (some ⟨wr.heap.size, 0, none⟩)) (wr.alloc (.cells #[.int .i64 0, .slice none 0 0, .slice none 0 0, .slice none 0 0] 26)) rfl (by go_simp) ?_
              have ga := World.grownBy_alloc wr (.cells #[.int .i64 0, .slice none 0 0, .slice none 0 0, .slice none 0 0] 26) none
              have T : Hid (OutC (wr.alloc (.cells #[.int .i64 0, .slice none 0 0, .slice none 0 0, .slice none 0 0] 26)) wr.heap.size) := Lib.hid ⟨_, heap_alloc_new _ _, rfl⟩
              have TZ : gz < wr.heap.size ∧ s < wr.heap.size ∧ w.heap.size ≤ wr.heap.size ∧ c < wr.heap.size := ⟨outC_lt D.out.out, blk_lt A.out.blk, D.out.far.size, D.out.rd.lt⟩
              replace D := Lib.hid (D.out.still ga)
              replace A := Lib.hid (A.out.still ga)
              replace OX := Lib.hid (OX.out.still ga)
              clear ga
              refine ⟨A.out.blk, ?_⟩
              simp only [Act.put, List.setIfInBounds_toArray, List.set_cons_zero, List.set_cons_succ]
              generalize wr.heap.size = t5 at *
              generalize wr.alloc (.cells #[.int .i64 0, .slice none 0 0, .slice none 0 0, .slice none 0 0] 26) = wr at *
              refine Rg.ready_one (i := 10) (by kernel_rfl) rfl rfl ?_
              obtain ⟨old, hT, hz⟩ := T.out
              refine storeAt none 26 _ _ rfl rfl t5 #[.int .i64 k', .slice b4 n4 d4, .slice b5 n5 d5, .slice b6 n6 d6] rfl rfl _ _ hT infoPub (by rw [hz]; rfl) (by kernel_rfl) ?_
              have gr := grownRow hT #[.int .i64 k', .slice b4 n4 d4, .slice b5 n5 d5, .slice b6 n6 d6]
              have T6 : Hid (Blk (wr.setRow t5 #[.int .i64 k', .slice b4 n4 d4, .slice b5 n5 d5, .slice b6 n6 d6]) t5 26 [.int .i64 k', .slice b4 n4 d4, .slice b5 n5 d5, .slice b6 n6 d6]) := Lib.hid (setRow_heap wr t5 old _ _ (0, 0) hT)
              replace OX := Lib.hid (outRow OX.out gr hT)
              replace A : Hid (StAt (wr.setRow t5 #[.int .i64 k', .slice b4 n4 d4, .slice b5 n5 d5, .slice b6 n6 d6]) w.heap.size s g1 g2 g3 d1 d2 d3 k a v f) := Lib.hid ⟨A.out.blk.kept gr (fun e => by injection e; omega), outRow A.out.own gr hT, A.out.la, A.out.lv, A.out.lf, A.out.ne1, A.out.ne2, A.out.ne3⟩
              replace D := Lib.hid (D.out.set gr HC (by omega) (by omega))
              clear gr hT hz T
              refine ⟨A.out.blk, ?_⟩
              simp only [Act.put, List.setIfInBounds_toArray]
              generalize wr.setRow t5 #[.int .i64 k', .slice b4 n4 d4, .slice b5 n5 d5, .slice b6 n6 d6] = wr at *
              refine Rg.take_ 11 (some 6) (.bool b) rfl rfl (by kernel_rfl) (by kernel_rfl) (by kernel_rfl) (fun _ _ _ h => h) (.inl ⟨by rfl, fun W' hS => (by go_simp)⟩) A.out.blk ?_
              simp only [Act.put, List.setIfInBounds_toArray, List.set_cons_zero, List.set_cons_succ]
              refine wpAnyH_done (by kernel_rfl) ?_ _
              cases b with
              | false =>
                go_wp2_with fail
                go_roundw
                case rel => exact ⟨n - 1, by omega, by go_num, D.out.more (by omega), _, _, _, _, _, _, _, _, _, _, A.out⟩
                case measure => simp [intOf]; omega
              | true =>
                obtain ⟨l1, l2, l3⟩ := LX.out rfl
                have LX8 := Lib.hid (And.intro l1 (And.intro l2 l3))
                clear LX l1 l2 l3
                go_upto_region 10 with fail
                apply wp_region_lit
                refine wpList_load_row rfl _ _ rfl t5 rfl _ _ _ _ T6.out Try.underlying26 rfl infoPub ?_
                simp only [Act.put, List.setIfInBounds_toArray, List.set_cons_succ, List.set_cons_zero]
                refine wpList_store_row rfl _ _ _ rfl s #[.int .i64 k', .slice b4 n4 d4, .slice b5 n5 d5, .slice b6 n6 d6] rfl rfl _ _ A.out.blk infoPub rfl (by kernel_rfl) ?_
                have gr := grownRow A.out.blk #[.int .i64 k', .slice b4 n4 d4, .slice b5 n5 d5, .slice b6 n6 d6]
                have C6 : Blk (wr.setRow s #[.int .i64 k', .slice b4 n4 d4, .slice b5 n5 d5, .slice b6 n6 d6]) s 26 [.int .i64 k', .slice b4 n4 d4, .slice b5 n5 d5, .slice b6 n6 d6] := setRow_heap wr s _ _ _ (0, 0) A.out.blk
                have O6 := outRow OX.out gr A.out.blk
                obtain ⟨h1, h2, h3, b1, b2, b3, e1, e2, e3, A6⟩ := StAt.of C6 O6 LX8.out.1 LX8.out.2.1 LX8.out.2.2
                replace D := Lib.hid (D.out.set gr HC HS (by omega))
                replace A := Lib.hid A6
                clear gr C6 O6 A6
                generalize wr.setRow s #[.int .i64 k', .slice b4 n4 d4, .slice b5 n5 d5, .slice b6 n6 d6] = wr at *
                clear OX LX8 T6 e1 e2 e3
                go_wp2_with fail
                go_roundw
                case rel => exact ⟨n - 1, by omega, by go_num, D.out.more (by omega), _, _, _, _, _, _, _, _, _, _, A.out⟩
                case measure => simp [intOf]; omega
            · refine Rg.value_at (some 5) (.pointer (some ⟨wr.heap.size, 0, none⟩)) (wr.alloc (.cells #[.int .i64 0, .slice none 0 0, .slice none 0 0, .slice none 0 0] 26)) rfl (by go_simp) ?_
              have ga := World.grownBy_alloc wr (.cells #[.int .i64 0, .slice none 0 0, .slice none 0 0, .slice none 0 0] 26) none
              have T : Hid (OutC (wr.alloc (.cells #[.int .i64 0, .slice none 0 0, .slice none 0 0, .slice none 0 0] 26)) wr.heap.size) := Lib.hid ⟨_, heap_alloc_new _ _, rfl⟩
              have TZ : gz < wr.heap.size ∧ s < wr.heap.size ∧ w.heap.size ≤ wr.heap.size ∧ c < wr.heap.size := ⟨outC_lt D.out.out, blk_lt A.out.blk, D.out.far.size, D.out.rd.lt⟩
              replace D := Lib.hid (D.out.still ga)
              replace A := Lib.hid (A.out.still ga)
              replace OV := Lib.hid (OV.out.still ga)
              replace OQ := Lib.hid (OQ.out.still ga)
              clear ga
              refine ⟨A.out.blk, ?_⟩
              simp only [Act.put, List.setIfInBounds_toArray, List.set_cons_zero, List.set_cons_succ]
              generalize wr.heap.size = t5 at *
              generalize wr.alloc (.cells #[.int .i64 0, .slice none 0 0, .slice none 0 0, .slice none 0 0] 26) = wr at *
              refine Rg.ready_one (i := 5) (by kernel_rfl) rfl rfl ?_
              refine Rg.call_at (some 37) (f := 76) (args := #[.agg #[.int .i64 k, .slice (some ⟨g1, 0, none⟩) 8 d1, .slice (some ⟨g2, 0, none⟩) 8 d2, .slice (some ⟨g3, 0, none⟩) 8 d3], dv, qv]) rfl (by go_simp) ((specStripeWrite k _ _ _ dv qv a v dd f qq _ A.out.own.a A.out.own.v A.out.own.f OV.out.sl OQ.out.bl (by rw [A.out.la]; omega)).mono ?_)
              rintro e wr ⟨k', a', v', f', b, hT, u5, x5, y5, rfl, hg, ho⟩
              have OX := Lib.hid (ho.lower D.out.far.size)
              have LX : Hid (b = true → a'.length = 8 ∧ v'.length = 8 ∧ f'.length = 8) := Lib.hid (fun hb => by
                rcases hT with ⟨_, _, _, _, _, _, ea, ev, ef⟩ | ⟨h, _⟩ | ⟨h, _⟩
                · rw [ea, ev, ef, wrI_len, wrI_len, wrB_len]; exact ⟨A.out.la, A.out.lv, A.out.lf⟩
                · rw [hb] at h; cases h
                · rw [hb] at h; cases h)
              replace D := Lib.hid (D.out.still hg)
              replace A := Lib.hid (A.out.still hg)
              replace T := Lib.hid (outC_kept T.out hg (by simp))
              clear hT hg ho OV OQ
              obtain ⟨b4, d4, e4, -, -, -⟩ := OX.out.a
              obtain ⟨b5, d5, e5, -, -, -⟩ := OX.out.v
              obtain ⟨b6, d6, e6, -, -, -⟩ := OX.out.f
              obtain ⟨n4, hn4⟩ : ∃ n, n = a'.length := ⟨_, rfl⟩
              obtain ⟨n5, hn5⟩ : ∃ n, n = v'.length := ⟨_, rfl⟩
              obtain ⟨n6, hn6⟩ : ∃ n, n = f'.length := ⟨_, rfl⟩
              rw [← hn4] at e4
              rw [← hn5] at e5
              rw [← hn6] at e6
              subst e4 e5 e6
              clear hn4 hn5 hn6
              refine ⟨_, rfl, A.out.blk, ?_⟩
              simp only [Act.put, List.setIfInBounds_toArray, List.set_cons_zero, List.set_cons_succ]
              refine Rg.take_ 6 (some 31) (.tuple #[.agg #[.int .i64 k', .slice b4 n4 d4, .slice b5 n5 d5, .slice b6 n6 d6], .bool b]) rfl rfl (by kernel_rfl) (by kernel_rfl) (by kernel_rfl) (fun _ _ _ h => h) (.inl ⟨by rfl, fun W' hS => (by go_simp)⟩) A.out.blk ?_
              simp only [Act.put, List.setIfInBounds_toArray, List.set_cons_zero, List.set_cons_succ]
              refine Rg.take_ 7 (some 38) (.agg #[.int .i64 k', .slice b4 n4 d4, .slice b5 n5 d5, .slice b6 n6 d6]) rfl rfl (by kernel_rfl) (by kernel_rfl) (by kernel_rfl) (fun _ _ _ h => h) (.inl ⟨by rfl, fun W' hS => (by go_simp)⟩) A.out.blk ?_
              simp only [Act.put, List.setIfInBounds_toArray, List.set_cons_zero, List.set_cons_succ]
              refine Rg.take_ 8 (some 39) (.bool b) rfl rfl (by kernel_rfl) (by kernel_rfl) (by kernel_rfl) (fun _ _ _ h => h) (.inl ⟨by rfl, fun W' hS => (by go_simp)⟩) A.out.blk ?_
              simp only [Act.put, List.setIfInBounds_toArray, List.set_cons_zero, List.set_cons_succ]
              refine Rg.ready_one (i := 10) (by kernel_rfl) rfl rfl ?_
              obtain ⟨old, hT, hz⟩ := T.out
              refine storeAt none 26 _ _ rfl rfl t5 #[.int .i64 k', .slice b4 n4 d4, .slice b5 n5 d5, .slice b6 n6 d6] rfl rfl _ _ hT infoPub (by rw [hz]; rfl) (by kernel_rfl) ?_
              have gr := grownRow hT #[.int .i64 k', .slice b4 n4 d4, .slice b5 n5 d5, .slice b6 n6 d6]
              have T6 : Hid (Blk (wr.setRow t5 #[.int .i64 k', .slice b4 n4 d4, .slice b5 n5 d5, .slice b6 n6 d6]) t5 26 [.int .i64 k', .slice b4 n4 d4, .slice b5 n5 d5, .slice b6 n6 d6]) := Lib.hid (setRow_heap wr t5 old _ _ (0, 0) hT)
              replace OX := Lib.hid (outRow OX.out gr hT)
              replace A : Hid (StAt (wr.setRow t5 #[.int .i64 k', .slice b4 n4 d4, .slice b5 n5 d5, .slice b6 n6 d6]) w.heap.size s g1 g2 g3 d1 d2 d3 k a v f) := Lib.hid ⟨A.out.blk.kept gr (fun e => by injection e; omega), outRow A.out.own gr hT, A.out.la, A.out.lv, A.out.lf, A.out.ne1, A.out.ne2, A.out.ne3⟩
              replace D := Lib.hid (D.out.set gr HC (by omega) (by omega))
              clear gr hT hz T
              refine ⟨A.out.blk, ?_⟩
              simp only [Act.put, List.setIfInBounds_toArray]
              generalize wr.setRow t5 #[.int .i64 k', .slice b4 n4 d4, .slice b5 n5 d5, .slice b6 n6 d6] = wr at *
              refine Rg.take_ 11 (some 6) (.bool b) rfl rfl (by kernel_rfl) (by kernel_rfl) (by kernel_rfl) (fun _ _ _ h => h) (.inl ⟨by rfl, fun W' hS => (by go_simp)⟩) A.out.blk ?_
              simp only [Act.put, List.setIfInBounds_toArray, List.set_cons_zero, List.set_cons_succ]
              refine wpAnyH_done (by kernel_rfl) ?_ _
              cases b with
              | false =>
                go_wp2_with fail
                go_roundw
                case rel => exact ⟨n - 1, by omega, by go_num, D.out.more (by omega), _, _, _, _, _, _, _, _, _, _, A.out⟩
                case measure => simp [intOf]; omega
              | true =>
                obtain ⟨l1, l2, l3⟩ := LX.out rfl
                have LX8 := Lib.hid (And.intro l1 (And.intro l2 l3))
                clear LX l1 l2 l3
                go_upto_region 10 with fail
                apply wp_region_lit
                refine wpList_load_row rfl _ _ rfl t5 rfl _ _ _ _ T6.out Try.underlying26 rfl infoPub ?_
                simp only [Act.put, List.setIfInBounds_toArray, List.set_cons_succ, List.set_cons_zero]
                refine wpList_store_row rfl _ _ _ rfl s #[.int .i64 k', .slice b4 n4 d4, .slice b5 n5 d5, .slice b6 n6 d6] rfl rfl _ _ A.out.blk infoPub rfl (by kernel_rfl) ?_
                have gr := grownRow A.out.blk #[.int .i64 k', .slice b4 n4 d4, .slice b5 n5 d5, .slice b6 n6 d6]
                have C6 : Blk (wr.setRow s #[.int .i64 k', .slice b4 n4 d4, .slice b5 n5 d5, .slice b6 n6 d6]) s 26 [.int .i64 k', .slice b4 n4 d4, .slice b5 n5 d5, .slice b6 n6 d6] := setRow_heap wr s _ _ _ (0, 0) A.out.blk
                have O6 := outRow OX.out gr A.out.blk
                obtain ⟨h1, h2, h3, b1, b2, b3, e1, e2, e3, A6⟩ := StAt.of C6 O6 LX8.out.1 LX8.out.2.1 LX8.out.2.2
                replace D := Lib.hid (D.out.set gr HC HS (by omega))
                replace A := Lib.hid A6
                clear gr C6 O6 A6
                generalize wr.setRow s #[.int .i64 k', .slice b4 n4 d4, .slice b5 n5 d5, .slice b6 n6 d6] = wr at *
                clear OX LX8 T6 e1 e2 e3
                go_wp2_with fail
                go_roundw
                case rel => exact ⟨n - 1, by omega, by go_num, D.out.more (by omega), _, _, _, _, _, _, _, _, _, _, A.out⟩
                case measure => simp [intOf]; omega
          · refine Rg.value_at (some 5) (.pointer (some ⟨wr.heap.size, 0, none⟩)) (wr.alloc (.cells #[.int .i64 0, .slice none 0 0, .slice none 0 0, .slice none 0 0] 26)) rfl (by go_simp) ?_
            have ga := World.grownBy_alloc wr (.cells #[.int .i64 0, .slice none 0 0, .slice none 0 0, .slice none 0 0] 26) none
            have T : Hid (OutC (wr.alloc (.cells #[.int .i64 0, .slice none 0 0, .slice none 0 0, .slice none 0 0] 26)) wr.heap.size) := Lib.hid ⟨_, heap_alloc_new _ _, rfl⟩
            have TZ : gz < wr.heap.size ∧ s < wr.heap.size ∧ w.heap.size ≤ wr.heap.size ∧ c < wr.heap.size := ⟨outC_lt D.out.out, blk_lt A.out.blk, D.out.far.size, D.out.rd.lt⟩
            replace D := Lib.hid (D.out.still ga)
            replace A := Lib.hid (A.out.still ga)
            replace OV := Lib.hid (OV.out.still ga)
            clear ga
            refine ⟨A.out.blk, ?_⟩
            simp only [Act.put, List.setIfInBounds_toArray, List.set_cons_zero, List.set_cons_succ]
            generalize wr.heap.size = t5 at *
            generalize wr.alloc (.cells #[.int .i64 0, .slice none 0 0, .slice none 0 0, .slice none 0 0] 26) = wr at *
            refine Rg.ready_one (i := 4) (by kernel_rfl) rfl rfl ?_
            have C1 := D.out.rd.lt
            refine Rg.call_at (some 36) (f := 77) (args := #[.pointer (some ⟨c, 0, none⟩)]) rfl (by go_simp) ((drawWhich c _ _ D.out.rd (by omega)).mono ?_)
            rintro e wr ⟨qq, qv, hq, rfl, hf, hr, ho⟩
            have HQ := Lib.hid hq
            have OQ := Lib.hid ho
            replace OV := Lib.hid (OV.out.far hf C0)
            replace D := Lib.hid (D.out.go hf hr HCZ)
            replace A := Lib.hid (A.out.far hf HC HSC)
            replace T := Lib.hid (outC_far T.out hf (by omega))
            clear hq hf hr ho
            refine ⟨_, rfl, A.out.blk, ?_⟩
            simp only [Act.put, List.setIfInBounds_toArray, List.set_cons_zero, List.set_cons_succ]
            refine Rg.ready_one (i := 5) (by kernel_rfl) rfl rfl ?_
            refine Rg.call_at (some 37) (f := 76) (args := #[.agg #[.int .i64 k, .slice (some ⟨g1, 0, none⟩) 8 d1, .slice (some ⟨g2, 0, none⟩) 8 d2, .slice (some ⟨g3, 0, none⟩) 8 d3], dv, qv]) rfl (by go_simp) ((specStripeWrite k _ _ _ dv qv a v dd f qq _ A.out.own.a A.out.own.v A.out.own.f OV.out.sl OQ.out.bl (by rw [A.out.la]; omega)).mono ?_)
            rintro e wr ⟨k', a', v', f', b, hT, u5, x5, y5, rfl, hg, ho⟩
            have OX := Lib.hid (ho.lower D.out.far.size)
            have LX : Hid (b = true → a'.length = 8 ∧ v'.length = 8 ∧ f'.length = 8) := Lib.hid (fun hb => by
              rcases hT with ⟨_, _, _, _, _, _, ea, ev, ef⟩ | ⟨h, _⟩ | ⟨h, _⟩
              · rw [ea, ev, ef, wrI_len, wrI_len, wrB_len]; exact ⟨A.out.la, A.out.lv, A.out.lf⟩
              · rw [hb] at h; cases h
              · rw [hb] at h; cases h)
            replace D := Lib.hid (D.out.still hg)
            replace A := Lib.hid (A.out.still hg)
            replace T := Lib.hid (outC_kept T.out hg (by simp))
            clear hT hg ho OV OQ
            obtain ⟨b4, d4, e4, -, -, -⟩ := OX.out.a
            obtain ⟨b5, d5, e5, -, -, -⟩ := OX.out.v
            obtain ⟨b6, d6, e6, -, -, -⟩ := OX.out.f
            obtain ⟨n4, hn4⟩ : ∃ n, n = a'.length := ⟨_, rfl⟩
            obtain ⟨n5, hn5⟩ : ∃ n, n = v'.length := ⟨_, rfl⟩
            obtain ⟨n6, hn6⟩ : ∃ n, n = f'.length := ⟨_, rfl⟩
            rw [← hn4] at e4
            rw [← hn5] at e5
            rw [← hn6] at e6
            subst e4 e5 e6
            clear hn4 hn5 hn6
            refine ⟨_, rfl, A.out.blk, ?_⟩
            simp only [Act.put, List.setIfInBounds_toArray, List.set_cons_zero, List.set_cons_succ]
            refine Rg.take_ 6 (some 31) (.tuple #[.agg #[.int .i64 k', .slice b4 n4 d4, .slice b5 n5 d5, .slice b6 n6 d6], .bool b]) rfl rfl (by kernel_rfl) (by kernel_rfl) (by kernel_rfl) (fun _ _ _ h => h) (.inl ⟨by rfl, fun W' hS => (by go_simp)⟩) A.out.blk ?_
            simp only [Act.put, List.setIfInBounds_toArray, List.set_cons_zero, List.set_cons_succ]
            refine Rg.take_ 7 (some 38) (.agg #[.int .i64 k', .slice b4 n4 d4, .slice b5 n5 d5, .slice b6 n6 d6]) rfl rfl (by kernel_rfl) (by kernel_rfl) (by kernel_rfl) (fun _ _ _ h => h) (.inl ⟨by rfl, fun W' hS => (by go_simp)⟩) A.out.blk ?_
            simp only [Act.put, List.setIfInBounds_toArray, List.set_cons_zero, List.set_cons_succ]
            refine Rg.take_ 8 (some 39) (.bool b) rfl rfl (by kernel_rfl) (by kernel_rfl) (by kernel_rfl) (fun _ _ _ h => h) (.inl ⟨by rfl, fun W' hS => (by go_simp)⟩) A.out.blk ?_
            simp only [Act.put, List.setIfInBounds_toArray, List.set_cons_zero, List.set_cons_succ]
            refine Rg.ready_one (i := 10) (by kernel_rfl) rfl rfl ?_
            obtain ⟨old, hT, hz⟩ := T.out
            refine storeAt none 26 _ _ rfl rfl t5 #[.int .i64 k', .slice b4 n4 d4, .slice b5 n5 d5, .slice b6 n6 d6] rfl rfl _ _ hT infoPub (by rw [hz]; rfl) (by kernel_rfl) ?_
            have gr := grownRow hT #[.int .i64 k', .slice b4 n4 d4, .slice b5 n5 d5, .slice b6 n6 d6]
            have T6 : Hid (Blk (wr.setRow t5 #[.int .i64 k', .slice b4 n4 d4, .slice b5 n5 d5, .slice b6 n6 d6]) t5 26 [.int .i64 k', .slice b4 n4 d4, .slice b5 n5 d5, .slice b6 n6 d6]) := Lib.hid (setRow_heap wr t5 old _ _ (0, 0) hT)
            replace OX := Lib.hid (outRow OX.out gr hT)
            replace A : Hid (StAt (wr.setRow t5 #[.int .i64 k', .slice b4 n4 d4, .slice b5 n5 d5, .slice b6 n6 d6]) w.heap.size s g1 g2 g3 d1 d2 d3 k a v f) := Lib.hid ⟨A.out.blk.kept gr (fun e => by injection e; omega), outRow A.out.own gr hT, A.out.la, A.out.lv, A.out.lf, A.out.ne1, A.out.ne2, A.out.ne3⟩
            replace D := Lib.hid (D.out.set gr HC (by omega) (by omega))
            clear gr hT hz T
            refine ⟨A.out.blk, ?_⟩
            simp only [Act.put, List.setIfInBounds_toArray]
            generalize wr.setRow t5 #[.int .i64 k', .slice b4 n4 d4, .slice b5 n5 d5, .slice b6 n6 d6] = wr at *
            refine Rg.take_ 11 (some 6) (.bool b) rfl rfl (by kernel_rfl) (by kernel_rfl) (by kernel_rfl) (fun _ _ _ h => h) (.inl ⟨by rfl, fun W' hS => (by go_simp)⟩) A.out.blk ?_
            simp only [Act.put, List.setIfInBounds_toArray, List.set_cons_zero, List.set_cons_succ]
            refine wpAnyH_done (by kernel_rfl) ?_ _
            cases b with
            | false =>
              go_wp2_with fail
              go_roundw
              case rel => exact ⟨n - 1, by omega, by go_num, D.out.more (by omega), _, _, _, _, _, _, _, _, _, _, A.out⟩
              case measure => simp [intOf]; omega
            | true =>
              obtain ⟨l1, l2, l3⟩ := LX.out rfl
              have LX8 := Lib.hid (And.intro l1 (And.intro l2 l3))
              clear LX l1 l2 l3
              go_upto_region 10 with fail
              apply wp_region_lit
              refine wpList_load_row rfl _ _ rfl t5 rfl _ _ _ _ T6.out Try.underlying26 rfl infoPub ?_
              simp only [Act.put, List.setIfInBounds_toArray, List.set_cons_succ, List.set_cons_zero]
              refine wpList_store_row rfl _ _ _ rfl s #[.int .i64 k', .slice b4 n4 d4, .slice b5 n5 d5, .slice b6 n6 d6] rfl rfl _ _ A.out.blk infoPub rfl (by kernel_rfl) ?_
              have gr := grownRow A.out.blk #[.int .i64 k', .slice b4 n4 d4, .slice b5 n5 d5, .slice b6 n6 d6]
              have C6 : Blk (wr.setRow s #[.int .i64 k', .slice b4 n4 d4, .slice b5 n5 d5, .slice b6 n6 d6]) s 26 [.int .i64 k', .slice b4 n4 d4, .slice b5 n5 d5, .slice b6 n6 d6] := setRow_heap wr s _ _ _ (0, 0) A.out.blk
              have O6 := outRow OX.out gr A.out.blk
              obtain ⟨h1, h2, h3, b1, b2, b3, e1, e2, e3, A6⟩ := StAt.of C6 O6 LX8.out.1 LX8.out.2.1 LX8.out.2.2
              replace D := Lib.hid (D.out.set gr HC HS (by omega))
              replace A := Lib.hid A6
              clear gr C6 O6 A6
              generalize wr.setRow s #[.int .i64 k', .slice b4 n4 d4, .slice b5 n5 d5, .slice b6 n6 d6] = wr at *
              clear OX LX8 T6 e1 e2 e3
              go_wp2_with fail
              go_roundw
              case rel => exact ⟨n - 1, by omega, by go_num, D.out.more (by omega), _, _, _, _, _, _, _, _, _, _, A.out⟩
              case measure => simp [intOf]; omega
        · refine Rg.value_at (some 5) (.pointer (some ⟨wr.heap.size, 0, none⟩)) (wr.alloc (.cells #[.int .i64 0, .slice none 0 0, .slice none 0 0, .slice none 0 0] 26)) rfl (by go_simp) ?_
          have ga := World.grownBy_alloc wr (.cells #[.int .i64 0, .slice none 0 0, .slice none 0 0, .slice none 0 0] 26) none
          have T : Hid (OutC (wr.alloc (.cells #[.int .i64 0, .slice none 0 0, .slice none 0 0, .slice none 0 0] 26)) wr.heap.size) := Lib.hid ⟨_, heap_alloc_new _ _, rfl⟩
          have TZ : gz < wr.heap.size ∧ s < wr.heap.size ∧ w.heap.size ≤ wr.heap.size ∧ c < wr.heap.size := ⟨outC_lt D.out.out, blk_lt A.out.blk, D.out.far.size, D.out.rd.lt⟩
          replace D := Lib.hid (D.out.still ga)
          replace A := Lib.hid (A.out.still ga)
          clear ga
          refine ⟨A.out.blk, ?_⟩
          simp only [Act.put, List.setIfInBounds_toArray, List.set_cons_zero, List.set_cons_succ]
          generalize wr.heap.size = t5 at *
          generalize wr.alloc (.cells #[.int .i64 0, .slice none 0 0, .slice none 0 0, .slice none 0 0] 26) = wr at *
          refine Rg.ready_one (i := 2) (by kernel_rfl) rfl rfl ?_
          have C0 := D.out.rd.lt
          refine Rg.call_at (some 34) (f := 75) (args := #[.pointer (some ⟨c, 0, none⟩)]) rfl (by go_simp) ((drawData c _ _ D.out.rd (by omega)).mono ?_)
          rintro e wr ⟨dd, dv, hd, rfl, hf, hr, ho⟩
          have HD := Lib.hid hd
          have OV := Lib.hid ho
          replace D := Lib.hid (D.out.go hf hr HCZ)
          replace A := Lib.hid (A.out.far hf HC HSC)
          replace T := Lib.hid (outC_far T.out hf (by omega))
          clear hd hf hr ho
          refine ⟨_, rfl, A.out.blk, ?_⟩
          simp only [Act.put, List.setIfInBounds_toArray, List.set_cons_zero, List.set_cons_succ]
          refine Rg.ready_one (i := 4) (by kernel_rfl) rfl rfl ?_
          have C1 := D.out.rd.lt
          refine Rg.call_at (some 36) (f := 77) (args := #[.pointer (some ⟨c, 0, none⟩)]) rfl (by go_simp) ((drawWhich c _ _ D.out.rd (by omega)).mono ?_)
          rintro e wr ⟨qq, qv, hq, rfl, hf, hr, ho⟩
          have HQ := Lib.hid hq
          have OQ := Lib.hid ho
          replace OV := Lib.hid (OV.out.far hf C0)
          replace D := Lib.hid (D.out.go hf hr HCZ)
          replace A := Lib.hid (A.out.far hf HC HSC)
          replace T := Lib.hid (outC_far T.out hf (by omega))
          clear hq hf hr ho
          refine ⟨_, rfl, A.out.blk, ?_⟩
          simp only [Act.put, List.setIfInBounds_toArray, List.set_cons_zero, List.set_cons_succ]
          refine Rg.ready_one (i := 5) (by kernel_rfl) rfl rfl ?_
          refine Rg.call_at (some 37) (f := 76) (args := #[.agg #[.int .i64 k, .slice (some ⟨g1, 0, none⟩) 8 d1, .slice (some ⟨g2, 0, none⟩) 8 d2, .slice (some ⟨g3, 0, none⟩) 8 d3], dv, qv]) rfl (by go_simp) ((specStripeWrite k _ _ _ dv qv a v dd f qq _ A.out.own.a A.out.own.v A.out.own.f OV.out.sl OQ.out.bl (by rw [A.out.la]; omega)).mono ?_)
          rintro e wr ⟨k', a', v', f', b, hT, u5, x5, y5, rfl, hg, ho⟩
          have OX := Lib.hid (ho.lower D.out.far.size)
          have LX : Hid (b = true → a'.length = 8 ∧ v'.length = 8 ∧ f'.length = 8) := Lib.hid (fun hb => by
            rcases hT with ⟨_, _, _, _, _, _, ea, ev, ef⟩ | ⟨h, _⟩ | ⟨h, _⟩
            · rw [ea, ev, ef, wrI_len, wrI_len, wrB_len]; exact ⟨A.out.la, A.out.lv, A.out.lf⟩
            · rw [hb] at h; cases h
            · rw [hb] at h; cases h)
          replace D := Lib.hid (D.out.still hg)
          replace A := Lib.hid (A.out.still hg)
          replace T := Lib.hid (outC_kept T.out hg (by simp))
          clear hT hg ho OV OQ
          obtain ⟨b4, d4, e4, -, -, -⟩ := OX.out.a
          obtain ⟨b5, d5, e5, -, -, -⟩ := OX.out.v
          obtain ⟨b6, d6, e6, -, -, -⟩ := OX.out.f
          obtain ⟨n4, hn4⟩ : ∃ n, n = a'.length := ⟨_, rfl⟩
          obtain ⟨n5, hn5⟩ : ∃ n, n = v'.length := ⟨_, rfl⟩
          obtain ⟨n6, hn6⟩ : ∃ n, n = f'.length := ⟨_, rfl⟩
          rw [← hn4] at e4
          rw [← hn5] at e5
          rw [← hn6] at e6
          subst e4 e5 e6
          clear hn4 hn5 hn6
          refine ⟨_, rfl, A.out.blk, ?_⟩
          simp only [Act.put, List.setIfInBounds_toArray, List.set_cons_zero, List.set_cons_succ]
          refine Rg.take_ 6 (some 31) (.tuple #[.agg #[.int .i64 k', .slice b4 n4 d4, .slice b5 n5 d5, .slice b6 n6 d6], .bool b]) rfl rfl (by kernel_rfl) (by kernel_rfl) (by kernel_rfl) (fun _ _ _ h => h) (.inl ⟨by rfl, fun W' hS => (by go_simp)⟩) A.out.blk ?_
          simp only [Act.put, List.setIfInBounds_toArray, List.set_cons_zero, List.set_cons_succ]
          refine Rg.take_ 7 (some 38) (.agg #[.int .i64 k', .slice b4 n4 d4, .slice b5 n5 d5, .slice b6 n6 d6]) rfl rfl (by kernel_rfl) (by kernel_rfl) (by kernel_rfl) (fun _ _ _ h => h) (.inl ⟨by rfl, fun W' hS => (by go_simp)⟩) A.out.blk ?_
          simp only [Act.put, List.setIfInBounds_toArray, List.set_cons_zero, List.set_cons_succ]
          refine Rg.take_ 8 (some 39) (.bool b) rfl rfl (by kernel_rfl) (by kernel_rfl) (by kernel_rfl) (fun _ _ _ h => h) (.inl ⟨by rfl, fun W' hS => (by go_simp)⟩) A.out.blk ?_
          simp only [Act.put, List.setIfInBounds_toArray, List.set_cons_zero, List.set_cons_succ]
          refine Rg.ready_one (i := 10) (by kernel_rfl) rfl rfl ?_
          obtain ⟨old, hT, hz⟩ := T.out
          refine storeAt none 26 _ _ rfl rfl t5 #[.int .i64 k', .slice b4 n4 d4, .slice b5 n5 d5, .slice b6 n6 d6] rfl rfl _ _ hT infoPub (by rw [hz]; rfl) (by kernel_rfl) ?_
          have gr := grownRow hT #[.int .i64 k', .slice b4 n4 d4, .slice b5 n5 d5, .slice b6 n6 d6]
          have T6 : Hid (Blk (wr.setRow t5 #[.int .i64 k', .slice b4 n4 d4, .slice b5 n5 d5, .slice b6 n6 d6]) t5 26 [.int .i64 k', .slice b4 n4 d4, .slice b5 n5 d5, .slice b6 n6 d6]) := Lib.hid (setRow_heap wr t5 old _ _ (0, 0) hT)
          replace OX := Lib.hid (outRow OX.out gr hT)
          replace A : Hid (StAt (wr.setRow t5 #[.int .i64 k', .slice b4 n4 d4, .slice b5 n5 d5, .slice b6 n6 d6]) w.heap.size s g1 g2 g3 d1 d2 d3 k a v f) := Lib.hid ⟨A.out.blk.kept gr (fun e => by injection e; omega), outRow A.out.own gr hT, A.out.la, A.out.lv, A.out.lf, A.out.ne1, A.out.ne2, A.out.ne3⟩
          replace D := Lib.hid (D.out.set gr HC (by omega) (by omega))
          clear gr hT hz T
          refine ⟨A.out.blk, ?_⟩
          simp only [Act.put, List.setIfInBounds_toArray]
          generalize wr.setRow t5 #[.int .i64 k', .slice b4 n4 d4, .slice b5 n5 d5, .slice b6 n6 d6] = wr at *
          refine Rg.take_ 11 (some 6) (.bool b) rfl rfl (by kernel_rfl) (by kernel_rfl) (by kernel_rfl) (fun _ _ _ h => h) (.inl ⟨by rfl, fun W' hS => (by go_simp)⟩) A.out.blk ?_
          simp only [Act.put, List.setIfInBounds_toArray, List.set_cons_zero, List.set_cons_succ]
          refine wpAnyH_done (by kernel_rfl) ?_ _
          cases b with
          | false =>
            go_wp2_with fail
            go_roundw
            case rel => exact ⟨n - 1, by omega, by go_num, D.out.more (by omega), _, _, _, _, _, _, _, _, _, _, A.out⟩
            case measure => simp [intOf]; omega
          | true =>
            obtain ⟨l1, l2, l3⟩ := LX.out rfl
            have LX8 := Lib.hid (And.intro l1 (And.intro l2 l3))
            clear LX l1 l2 l3
            go_upto_region 10 with fail
            apply wp_region_lit
            refine wpList_load_row rfl _ _ rfl t5 rfl _ _ _ _ T6.out Try.underlying26 rfl infoPub ?_
            simp only [Act.put, List.setIfInBounds_toArray, List.set_cons_succ, List.set_cons_zero]
            refine wpList_store_row rfl _ _ _ rfl s #[.int .i64 k', .slice b4 n4 d4, .slice b5 n5 d5, .slice b6 n6 d6] rfl rfl _ _ A.out.blk infoPub rfl (by kernel_rfl) ?_
            have gr := grownRow A.out.blk #[.int .i64 k', .slice b4 n4 d4, .slice b5 n5 d5, .slice b6 n6 d6]
            have C6 : Blk (wr.setRow s #[.int .i64 k', .slice b4 n4 d4, .slice b5 n5 d5, .slice b6 n6 d6]) s 26 [.int .i64 k', .slice b4 n4 d4, .slice b5 n5 d5, .slice b6 n6 d6] := setRow_heap wr s _ _ _ (0, 0) A.out.blk
            have O6 := outRow OX.out gr A.out.blk
            obtain ⟨h1, h2, h3, b1, b2, b3, e1, e2, e3, A6⟩ := StAt.of C6 O6 LX8.out.1 LX8.out.2.1 LX8.out.2.2
            replace D := Lib.hid (D.out.set gr HC HS (by omega))
            replace A := Lib.hid A6
            clear gr C6 O6 A6
            generalize wr.setRow s #[.int .i64 k', .slice b4 n4 d4, .slice b5 n5 d5, .slice b6 n6 d6] = wr at *
            clear OX LX8 T6 e1 e2 e3
            go_wp2_with fail
            go_roundw
            case rel => exact ⟨n - 1, by omega, by go_num, D.out.more (by omega), _, _, _, _, _, _, _, _, _, _, A.out⟩
            case measure => simp [intOf]; omega
      · have hq' : (q == 0) = false := by rw [beq_eq_false_iff_ne]; exact hq
        clear q0 q1 hq
        go_upto_region 6 with fail
        refine wp_region_held (S := fun _ => True) (by kernel_rfl) ?_
        change wpAnyH _ _ _ _ _ _ _ _ wr.drew
        have gd := grown_drew (World.grownBy.refl wr none)
        replace D := Lib.hid (D.out.still gd)
        replace A := Lib.hid (A.out.still gd)
        clear gd
        generalize wr.drew = wr at *
        have TT : Hid True := Lib.hid trivial
        refine Rg.take_ 1 (some 26) (.pointer (some ⟨c, 0, none⟩)) rfl rfl (by kernel_rfl) (by kernel_rfl) (by kernel_rfl) (fun _ _ _ h => h) (.inl ⟨by rfl, fun W' hS => (by go_simp)⟩) TT.out ?_
        simp only [Act.put, List.setIfInBounds_toArray, List.set_cons_zero, List.set_cons_succ]
        refine Rg.ready_two (i := 0) (k := 2) (by kernel_rfl) rfl rfl rfl rfl ?_ ?_
        · refine Rg.value_at (some 25) (.agg #[.int .i64 k, .slice (some ⟨g1, 0, none⟩) 8 d1, .slice (some ⟨g2, 0, none⟩) 8 d2, .slice (some ⟨g3, 0, none⟩) 8 d3]) wr rfl (by have c0 := A.out.blk.cell (i := 0) rfl; have c1 := A.out.blk.cell (i := 1) rfl; have c2 := A.out.blk.cell (i := 2) rfl; have c3 := A.out.blk.cell (i := 3) rfl; go_simp) ?_
          refine ⟨trivial, ?_⟩
          simp only [Act.put, List.setIfInBounds_toArray, List.set_cons_zero, List.set_cons_succ]
          refine Rg.ready_one (i := 2) (by kernel_rfl) rfl rfl ?_
          refine Rg.call_at (some 27) (f := 58) (args := #[.pointer (some ⟨c, 0, none⟩), .int .i64 8]) rfl (by go_simp) ((pick c _ 8 _ D.out.rd (by omega) (by omega) (by omega)).mono ?_)
          rintro e w4 ⟨i, q0, q1, rfl, hf, hr⟩
          replace D := Lib.hid (D.out.go hf hr HCZ)
          replace A := Lib.hid (A.out.far hf HC HSC)
          clear hf hr
          obtain ⟨i, rfl⟩ : ∃ ii : Nat, i = ii := ⟨i.toNat, by omega⟩
          refine ⟨_, rfl, trivial, ?_⟩
          simp only [Act.put, List.setIfInBounds_toArray, List.set_cons_zero, List.set_cons_succ]
          refine Rg.ready_one (i := 3) (by kernel_rfl) rfl rfl ?_
          refine Rg.call_at (some 28) (f := 63) (args := #[.agg #[.int .i64 k, .slice (some ⟨g1, 0, none⟩) 8 d1, .slice (some ⟨g2, 0, none⟩) 8 d2, .slice (some ⟨g3, 0, none⟩) 8 d3], .int .i64 i]) rfl (by go_simp) ((specL21Lose k _ _ _ a v f i (by omega) _ A.out.own.a A.out.own.v A.out.own.f A.out.la A.out.lv A.out.lf).mono ?_)
          rintro e w5 ⟨u5, x5, y5, rfl, hg, ho⟩
          have OX := Lib.hid (ho.lower D.out.far.size)
          have LX := Lib.hid (And.intro A.out.la (And.intro A.out.lv A.out.lf))
          replace D := Lib.hid (D.out.still hg)
          replace A := Lib.hid (A.out.still hg)
          clear hg ho
          obtain ⟨b4, d4, e4, -, -, -⟩ := OX.out.a
          obtain ⟨b5, d5, e5, -, -, -⟩ := OX.out.v
          obtain ⟨b6, d6, e6, -, -, -⟩ := OX.out.f
          rw [List.length_set, LX.out.1] at e4
          rw [List.length_set, LX.out.2.1] at e5
          rw [List.length_set, LX.out.2.2] at e6
          subst e4 e5 e6
          refine ⟨_, rfl, trivial, ?_⟩
          simp only [Act.put, List.setIfInBounds_toArray, List.set_cons_zero, List.set_cons_succ]
          refine Rg.ready_one (i := 4) (by kernel_rfl) rfl rfl ?_
          refine storeAt none 26 _ _ rfl rfl s #[.int .i64 k, .slice b4 8 d4, .slice b5 8 d5, .slice b6 8 d6] rfl rfl _ _ A.out.blk infoPub rfl (by kernel_rfl) ?_
          have gr := grownRow A.out.blk #[.int .i64 k, .slice b4 8 d4, .slice b5 8 d5, .slice b6 8 d6]
          have C6 : Blk (w5.setRow s #[.int .i64 k, .slice b4 8 d4, .slice b5 8 d5, .slice b6 8 d6]) s 26 [.int .i64 k, .slice b4 8 d4, .slice b5 8 d5, .slice b6 8 d6] := setRow_heap w5 s _ _ _ (0, 0) A.out.blk
          have O6 := outRow OX.out gr A.out.blk
          obtain ⟨h1, h2, h3, b1, b2, b3, e1, e2, e3, A6⟩ := StAt.of C6 O6 (by rw [List.length_set]; exact LX.out.1) (by rw [List.length_set]; exact LX.out.2.1) (by rw [List.length_set]; exact LX.out.2.2)
          replace D := Lib.hid (D.out.set gr HC HS (by omega))
          replace A := Lib.hid A6
          clear gr C6 O6 A6
          refine ⟨trivial, ?_⟩
          simp only [Act.put, List.setIfInBounds_toArray]
          generalize w5.setRow s #[.int .i64 k, .slice b4 8 d4, .slice b5 8 d5, .slice b6 8 d6] = w6 at *
          clear OX LX e1 e2 e3
          refine wpAnyH_done (by kernel_rfl) ?_ _
          go_wp2_with fail
          go_roundw
          case rel => exact ⟨n - 1, by omega, by go_num, D.out.more (by omega), _, _, _, _, _, _, _, _, _, _, A.out⟩
          case measure => simp [intOf]; omega
        · refine Rg.call_at (some 27) (f := 58) (args := #[.pointer (some ⟨c, 0, none⟩), .int .i64 8]) rfl (by go_simp) ((pick c _ 8 _ D.out.rd (by omega) (by omega) (by omega)).mono ?_)
          rintro e w4 ⟨i, q0, q1, rfl, hf, hr⟩
          replace D := Lib.hid (D.out.go hf hr HCZ)
          replace A := Lib.hid (A.out.far hf HC HSC)
          clear hf hr
          obtain ⟨i, rfl⟩ : ∃ ii : Nat, i = ii := ⟨i.toNat, by omega⟩
          refine ⟨_, rfl, trivial, ?_⟩
          simp only [Act.put, List.setIfInBounds_toArray, List.set_cons_zero, List.set_cons_succ]
          refine Rg.ready_one (i := 0) (by kernel_rfl) rfl rfl ?_
          refine Rg.value_at (some 25) (.agg #[.int .i64 k, .slice (some ⟨g1, 0, none⟩) 8 d1, .slice (some ⟨g2, 0, none⟩) 8 d2, .slice (some ⟨g3, 0, none⟩) 8 d3]) w4 rfl (by have c0 := A.out.blk.cell (i := 0) rfl; have c1 := A.out.blk.cell (i := 1) rfl; have c2 := A.out.blk.cell (i := 2) rfl; have c3 := A.out.blk.cell (i := 3) rfl; go_simp) ?_
          refine ⟨trivial, ?_⟩
          simp only [Act.put, List.setIfInBounds_toArray, List.set_cons_zero, List.set_cons_succ]
          refine Rg.ready_one (i := 3) (by kernel_rfl) rfl rfl ?_
          refine Rg.call_at (some 28) (f := 63) (args := #[.agg #[.int .i64 k, .slice (some ⟨g1, 0, none⟩) 8 d1, .slice (some ⟨g2, 0, none⟩) 8 d2, .slice (some ⟨g3, 0, none⟩) 8 d3], .int .i64 i]) rfl (by go_simp) ((specL21Lose k _ _ _ a v f i (by omega) _ A.out.own.a A.out.own.v A.out.own.f A.out.la A.out.lv A.out.lf).mono ?_)
          rintro e w5 ⟨u5, x5, y5, rfl, hg, ho⟩
          have OX := Lib.hid (ho.lower D.out.far.size)
          have LX := Lib.hid (And.intro A.out.la (And.intro A.out.lv A.out.lf))
          replace D := Lib.hid (D.out.still hg)
          replace A := Lib.hid (A.out.still hg)
          clear hg ho
          obtain ⟨b4, d4, e4, -, -, -⟩ := OX.out.a
          obtain ⟨b5, d5, e5, -, -, -⟩ := OX.out.v
          obtain ⟨b6, d6, e6, -, -, -⟩ := OX.out.f
          rw [List.length_set, LX.out.1] at e4
          rw [List.length_set, LX.out.2.1] at e5
          rw [List.length_set, LX.out.2.2] at e6
          subst e4 e5 e6
          refine ⟨_, rfl, trivial, ?_⟩
          simp only [Act.put, List.setIfInBounds_toArray, List.set_cons_zero, List.set_cons_succ]
          refine Rg.ready_one (i := 4) (by kernel_rfl) rfl rfl ?_
          refine storeAt none 26 _ _ rfl rfl s #[.int .i64 k, .slice b4 8 d4, .slice b5 8 d5, .slice b6 8 d6] rfl rfl _ _ A.out.blk infoPub rfl (by kernel_rfl) ?_
          have gr := grownRow A.out.blk #[.int .i64 k, .slice b4 8 d4, .slice b5 8 d5, .slice b6 8 d6]
          have C6 : Blk (w5.setRow s #[.int .i64 k, .slice b4 8 d4, .slice b5 8 d5, .slice b6 8 d6]) s 26 [.int .i64 k, .slice b4 8 d4, .slice b5 8 d5, .slice b6 8 d6] := setRow_heap w5 s _ _ _ (0, 0) A.out.blk
          have O6 := outRow OX.out gr A.out.blk
          obtain ⟨h1, h2, h3, b1, b2, b3, e1, e2, e3, A6⟩ := StAt.of C6 O6 (by rw [List.length_set]; exact LX.out.1) (by rw [List.length_set]; exact LX.out.2.1) (by rw [List.length_set]; exact LX.out.2.2)
          replace D := Lib.hid (D.out.set gr HC HS (by omega))
          replace A := Lib.hid A6
          clear gr C6 O6 A6
          refine ⟨trivial, ?_⟩
          simp only [Act.put, List.setIfInBounds_toArray]
          generalize w5.setRow s #[.int .i64 k, .slice b4 8 d4, .slice b5 8 d5, .slice b6 8 d6] = w6 at *
          clear OX LX e1 e2 e3
          refine wpAnyH_done (by kernel_rfl) ?_ _
          go_wp2_with fail
          go_roundw
          case rel => exact ⟨n - 1, by omega, by go_num, D.out.more (by omega), _, _, _, _, _, _, _, _, _, _, A.out⟩
          case measure => simp [intOf]; omega
    · obtain rfl : n = 0 := by omega
      clear hlt hn
      go_wp2_with fail
      refine (pick c _ _ _ D.out.rd (by omega) (by omega) (by omega)).mono ?_
      rintro e wr ⟨q, q0, q1, rfl, hf, hr⟩
      replace D := Lib.hid (D.out.go hf hr HCZ)
      replace A := Lib.hid (A.out.far hf HC HSC)
      clear hf hr
      by_cases e0 : q = 0
      · subst e0
        go_upto_region 13 with fail
        refine wp_region_held (S := fun W => Blk W s 26 [.int .i64 k, .slice (some ⟨g1, 0, none⟩) 8 d1, .slice (some ⟨g2, 0, none⟩) 8 d2, .slice (some ⟨g3, 0, none⟩) 8 d3]) (by kernel_rfl) ?_
        change wpAnyH _ _ _ _ _ _ _ _ wr.drew
        have gd := grown_drew (World.grownBy.refl wr none)
        replace D := Lib.hid (D.out.still gd)
        replace A := Lib.hid (A.out.still gd)
        clear gd
        generalize wr.drew = wr at *
        refine Rg.take_ 0 (some 46) (.pointer (some ⟨s, 1, none⟩)) rfl rfl (by kernel_rfl) (by kernel_rfl) (by kernel_rfl) (fun _ _ _ h => h) (.inl ⟨by rfl, fun W' hS => (by go_simp)⟩) A.out.blk ?_
        simp only [Act.put, List.setIfInBounds_toArray, List.set_cons_zero, List.set_cons_succ]
        refine Rg.take_ 1 (some 47) (.slice (some ⟨g1, 0, none⟩) 8 d1) rfl rfl (by kernel_rfl) (by kernel_rfl) (by kernel_rfl) (fun _ _ _ h => h) (.inl ⟨by rfl, fun W' hS => (by have c0 := hS.cell (i := 1) rfl; go_simp)⟩) A.out.blk ?_
        simp only [Act.put, List.setIfInBounds_toArray, List.set_cons_zero, List.set_cons_succ]
        refine Rg.take_ 2 (some 48) (.pointer (some ⟨c, 0, none⟩)) rfl rfl (by kernel_rfl) (by kernel_rfl) (by kernel_rfl) (fun _ _ _ h => h) (.inl ⟨by rfl, fun W' hS => (by go_simp)⟩) A.out.blk ?_
        simp only [Act.put, List.setIfInBounds_toArray, List.set_cons_zero, List.set_cons_succ]
        refine Rg.take_ 4 (some 50) (.pointer (some ⟨c, 0, none⟩)) rfl rfl (by kernel_rfl) (by kernel_rfl) (by kernel_rfl) (fun _ _ _ h => h) (.inl ⟨by rfl, fun W' hS => (by go_simp)⟩) A.out.blk ?_
        simp only [Act.put, List.setIfInBounds_toArray, List.set_cons_zero, List.set_cons_succ]
        have CP := A.out.cap
        unfold maxLen at CP
        refine Rg.ready_one (i := 3) (by kernel_rfl) rfl rfl ?_
        refine Rg.call_at (some 49) (f := 58) (args := #[.pointer (some ⟨c, 0, none⟩), .int .i64 8]) rfl (by go_simp) ((pick c _ 8 _ D.out.rd (by omega) (by omega) (by omega)).mono ?_)
        rintro e w5 ⟨i, q0, q1, rfl, hf, hr⟩
        replace D := Lib.hid (D.out.go hf hr HCZ)
        replace A := Lib.hid (A.out.far hf HC HSC)
        clear hf hr
        obtain ⟨i, rfl⟩ : ∃ ii : Nat, i = ii := ⟨i.toNat, by omega⟩
        refine ⟨_, rfl, A.out.blk, ?_⟩
        simp only [Act.put, List.setIfInBounds_toArray, List.set_cons_zero, List.set_cons_succ]
        have hi8 : i < 8 := by omega
        have hi8i : (i : Int) < 8 := by omega
        clear q0 q1
        refine Rg.ready_one (i := 5) (by kernel_rfl) rfl rfl ?_
        refine Rg.call_at (some 51) (f := 78) (args := #[.pointer (some ⟨c, 0, none⟩)]) rfl (by go_simp) ((num c _ _ D.out.rd (by omega)).mono ?_)
        rintro e w6 ⟨z, q0, q1, rfl, hf, hr⟩
        replace D := Lib.hid (D.out.go hf hr HCZ)
        replace A := Lib.hid (A.out.far hf HC HSC)
        clear hf hr q0 q1
        refine ⟨_, rfl, A.out.blk, ?_⟩
        simp only [Act.put, List.setIfInBounds_toArray, List.set_cons_zero, List.set_cons_succ]
        refine Rg.take_ 6 (some 52) (.pointer (some ⟨g1, i, none⟩)) rfl rfl (by kernel_rfl) (by kernel_rfl) (by kernel_rfl) (fun _ _ _ h => h) (.inl ⟨by rfl, fun W' hS => (by go_simp)⟩) A.out.blk ?_
        simp only [Act.put, List.setIfInBounds_toArray, List.set_cons_zero, List.set_cons_succ]
        refine Rg.ready_one (i := 7) (by kernel_rfl) rfl rfl ?_
        obtain ⟨x1, f1, b1⟩ := A.out.cellA hi8
        refine storeOne 3 _ _ rfl rfl g1 i (.int .i64 z) (w6.setCell ⟨g1, i, none⟩ (.int .i64 z)) rfl rfl (by go_simp) ?_
        replace D := Lib.hid (D.out.set (grownCell w6 ⟨g1, i, none⟩ (.int .i64 z)) HC b1 (A.out.neZ D.out.out).1)
        replace A := Lib.hid (A.out.putA i z)
        clear x1 f1 b1
        refine ⟨A.out.blk, ?_⟩
        simp only [Act.put, List.setIfInBounds_toArray]
        generalize w6.setCell ⟨g1, i, none⟩ (.int .i64 z) = w7 at *
        refine wpAnyH_done (by kernel_rfl) ?_ _
        go_upto_region 27 with fail
        apply wp_region_lit
        refine wpList_load_row rfl _ _ rfl s rfl _ _ _ _ A.out.blk Try.underlying26 rfl infoPub ?_
        simp only [Act.put, List.setIfInBounds_toArray, List.set_cons_succ, List.set_cons_zero]
        obtain ⟨old, ho, hz⟩ := D.out.out
        refine wpList_store_row rfl _ _ _ rfl gz #[.int .i64 k, .slice (some ⟨g1, 0, none⟩) 8 d1, .slice (some ⟨g2, 0, none⟩) 8 d2, .slice (some ⟨g3, 0, none⟩) 8 d3] rfl rfl _ _ ho infoPub (by rw [hz]; rfl) (by kernel_rfl) ?_
        have B9 : Hid ((w7.setRow gz #[.int .i64 k, .slice (some ⟨g1, 0, none⟩) 8 d1, .slice (some ⟨g2, 0, none⟩) 8 d2, .slice (some ⟨g3, 0, none⟩) 8 d3]).heap[gz]? = some (.cells #[.int .i64 k, .slice (some ⟨g1, 0, none⟩) 8 d1, .slice (some ⟨g2, 0, none⟩) 8 d2, .slice (some ⟨g3, 0, none⟩) 8 d3] 26 (0, 0))) := Lib.hid (setRow_heap w7 gz old _ _ (0, 0) ho)
        have gr := grownRow ho #[.int .i64 k, .slice (some ⟨g1, 0, none⟩) 8 d1, .slice (some ⟨g2, 0, none⟩) 8 d2, .slice (some ⟨g3, 0, none⟩) 8 d3]
        have FIN : Hid (DrawnSt c p w (.returned (.agg #[.int .i64 k, .slice (some ⟨g1, 0, none⟩) 8 d1, .slice (some ⟨g2, 0, none⟩) 8 d2, .slice (some ⟨g3, 0, none⟩) 8 d3])) (w7.setRow gz #[.int .i64 k, .slice (some ⟨g1, 0, none⟩) 8 d1, .slice (some ⟨g2, 0, none⟩) 8 d2, .slice (some ⟨g3, 0, none⟩) 8 d3])) := Lib.hid ⟨_, _, _, _, _, _, _, A.out.la, A.out.lv, A.out.lf, rfl, Far.own D.out.far gr (fun i hi => by injection hi with hi; omega), (D.out.rd.up gr (fun i hi => by injection hi with hi; omega)).mono (by omega), outRow A.out.own gr ho⟩
        clear ho hz gr
        generalize w7.setRow gz #[.int .i64 k, .slice (some ⟨g1, 0, none⟩) 8 d1, .slice (some ⟨g2, 0, none⟩) 8 d2, .slice (some ⟨g3, 0, none⟩) 8 d3] = w9 at *
        go_wp2_with fail
        refine bodyPost_ret (v := .agg #[.int .i64 k, .slice (some ⟨g1, 0, none⟩) 8 d1, .slice (some ⟨g2, 0, none⟩) 8 d2, .slice (some ⟨g3, 0, none⟩) 8 d3]) ?_ rfl FIN.out
        exact results_cell_row Try.results39 _ _ gz _ _ _ _ rfl B9.out Try.underlying26 rfl infoPub
      have f0 : (q == 0) = false := by rw [beq_eq_false_iff_ne]; exact e0
      by_cases e1 : q = 1
      · subst e1
        go_upto_region 15 with fail
        refine wp_region_held (S := fun W => Blk W s 26 [.int .i64 k, .slice (some ⟨g1, 0, none⟩) 8 d1, .slice (some ⟨g2, 0, none⟩) 8 d2, .slice (some ⟨g3, 0, none⟩) 8 d3]) (by kernel_rfl) ?_
        change wpAnyH _ _ _ _ _ _ _ _ wr.drew
        have gd := grown_drew (World.grownBy.refl wr none)
        replace D := Lib.hid (D.out.still gd)
        replace A := Lib.hid (A.out.still gd)
        clear gd
        generalize wr.drew = wr at *
        refine Rg.take_ 0 (some 55) (.pointer (some ⟨s, 2, none⟩)) rfl rfl (by kernel_rfl) (by kernel_rfl) (by kernel_rfl) (fun _ _ _ h => h) (.inl ⟨by rfl, fun W' hS => (by go_simp)⟩) A.out.blk ?_
        simp only [Act.put, List.setIfInBounds_toArray, List.set_cons_zero, List.set_cons_succ]
        refine Rg.take_ 1 (some 56) (.slice (some ⟨g2, 0, none⟩) 8 d2) rfl rfl (by kernel_rfl) (by kernel_rfl) (by kernel_rfl) (fun _ _ _ h => h) (.inl ⟨by rfl, fun W' hS => (by have c0 := hS.cell (i := 2) rfl; go_simp)⟩) A.out.blk ?_
        simp only [Act.put, List.setIfInBounds_toArray, List.set_cons_zero, List.set_cons_succ]
        refine Rg.take_ 2 (some 57) (.pointer (some ⟨c, 0, none⟩)) rfl rfl (by kernel_rfl) (by kernel_rfl) (by kernel_rfl) (fun _ _ _ h => h) (.inl ⟨by rfl, fun W' hS => (by go_simp)⟩) A.out.blk ?_
        simp only [Act.put, List.setIfInBounds_toArray, List.set_cons_zero, List.set_cons_succ]
        refine Rg.take_ 4 (some 59) (.pointer (some ⟨c, 0, none⟩)) rfl rfl (by kernel_rfl) (by kernel_rfl) (by kernel_rfl) (fun _ _ _ h => h) (.inl ⟨by rfl, fun W' hS => (by go_simp)⟩) A.out.blk ?_
        simp only [Act.put, List.setIfInBounds_toArray, List.set_cons_zero, List.set_cons_succ]
        have CP := A.out.cap
        unfold maxLen at CP
        refine Rg.ready_one (i := 3) (by kernel_rfl) rfl rfl ?_
        refine Rg.call_at (some 58) (f := 58) (args := #[.pointer (some ⟨c, 0, none⟩), .int .i64 8]) rfl (by go_simp) ((pick c _ 8 _ D.out.rd (by omega) (by omega) (by omega)).mono ?_)
        rintro e w5 ⟨i, q0, q1, rfl, hf, hr⟩
        replace D := Lib.hid (D.out.go hf hr HCZ)
        replace A := Lib.hid (A.out.far hf HC HSC)
        clear hf hr
        obtain ⟨i, rfl⟩ : ∃ ii : Nat, i = ii := ⟨i.toNat, by omega⟩
        refine ⟨_, rfl, A.out.blk, ?_⟩
        simp only [Act.put, List.setIfInBounds_toArray, List.set_cons_zero, List.set_cons_succ]
        have hi8 : i < 8 := by omega
        have hi8i : (i : Int) < 8 := by omega
        clear q0 q1
        refine Rg.ready_one (i := 5) (by kernel_rfl) rfl rfl ?_
        refine Rg.call_at (some 60) (f := 58) (args := #[.pointer (some ⟨c, 0, none⟩), .int .i64 5]) rfl (by go_simp) ((pick c _ 5 _ D.out.rd (by omega) (by omega) (by omega)).mono ?_)
        rintro e w6 ⟨z, q0, q1, rfl, hf, hr⟩
        replace D := Lib.hid (D.out.go hf hr HCZ)
        replace A := Lib.hid (A.out.far hf HC HSC)
        clear hf hr q0 q1
        refine ⟨_, rfl, A.out.blk, ?_⟩
        simp only [Act.put, List.setIfInBounds_toArray, List.set_cons_zero, List.set_cons_succ]
        refine Rg.take_ 6 (some 61) (.pointer (some ⟨g2, i, none⟩)) rfl rfl (by kernel_rfl) (by kernel_rfl) (by kernel_rfl) (fun _ _ _ h => h) (.inl ⟨by rfl, fun W' hS => (by go_simp)⟩) A.out.blk ?_
        simp only [Act.put, List.setIfInBounds_toArray, List.set_cons_zero, List.set_cons_succ]
        refine Rg.ready_one (i := 7) (by kernel_rfl) rfl rfl ?_
        obtain ⟨x1, f1, b1⟩ := A.out.cellV hi8
        refine storeOne 3 _ _ rfl rfl g2 i (.int .i64 z) (w6.setCell ⟨g2, i, none⟩ (.int .i64 z)) rfl rfl (by go_simp) ?_
        replace D := Lib.hid (D.out.set (grownCell w6 ⟨g2, i, none⟩ (.int .i64 z)) HC b1 (A.out.neZ D.out.out).2.1)
        replace A := Lib.hid (A.out.putV i z)
        clear x1 f1 b1
        refine ⟨A.out.blk, ?_⟩
        simp only [Act.put, List.setIfInBounds_toArray]
        generalize w6.setCell ⟨g2, i, none⟩ (.int .i64 z) = w7 at *
        refine wpAnyH_done (by kernel_rfl) ?_ _
        go_upto_region 27 with fail
        apply wp_region_lit
        refine wpList_load_row rfl _ _ rfl s rfl _ _ _ _ A.out.blk Try.underlying26 rfl infoPub ?_
        simp only [Act.put, List.setIfInBounds_toArray, List.set_cons_succ, List.set_cons_zero]
        obtain ⟨old, ho, hz⟩ := D.out.out
        refine wpList_store_row rfl _ _ _ rfl gz #[.int .i64 k, .slice (some ⟨g1, 0, none⟩) 8 d1, .slice (some ⟨g2, 0, none⟩) 8 d2, .slice (some ⟨g3, 0, none⟩) 8 d3] rfl rfl _ _ ho infoPub (by rw [hz]; rfl) (by kernel_rfl) ?_
        have B9 : Hid ((w7.setRow gz #[.int .i64 k, .slice (some ⟨g1, 0, none⟩) 8 d1, .slice (some ⟨g2, 0, none⟩) 8 d2, .slice (some ⟨g3, 0, none⟩) 8 d3]).heap[gz]? = some (.cells #[.int .i64 k, .slice (some ⟨g1, 0, none⟩) 8 d1, .slice (some ⟨g2, 0, none⟩) 8 d2, .slice (some ⟨g3, 0, none⟩) 8 d3] 26 (0, 0))) := Lib.hid (setRow_heap w7 gz old _ _ (0, 0) ho)
        have gr := grownRow ho #[.int .i64 k, .slice (some ⟨g1, 0, none⟩) 8 d1, .slice (some ⟨g2, 0, none⟩) 8 d2, .slice (some ⟨g3, 0, none⟩) 8 d3]
        have FIN : Hid (DrawnSt c p w (.returned (.agg #[.int .i64 k, .slice (some ⟨g1, 0, none⟩) 8 d1, .slice (some ⟨g2, 0, none⟩) 8 d2, .slice (some ⟨g3, 0, none⟩) 8 d3])) (w7.setRow gz #[.int .i64 k, .slice (some ⟨g1, 0, none⟩) 8 d1, .slice (some ⟨g2, 0, none⟩) 8 d2, .slice (some ⟨g3, 0, none⟩) 8 d3])) := Lib.hid ⟨_, _, _, _, _, _, _, A.out.la, A.out.lv, A.out.lf, rfl, Far.own D.out.far gr (fun i hi => by injection hi with hi; omega), (D.out.rd.up gr (fun i hi => by injection hi with hi; omega)).mono (by omega), outRow A.out.own gr ho⟩
        clear ho hz gr
        generalize w7.setRow gz #[.int .i64 k, .slice (some ⟨g1, 0, none⟩) 8 d1, .slice (some ⟨g2, 0, none⟩) 8 d2, .slice (some ⟨g3, 0, none⟩) 8 d3] = w9 at *
        go_wp2_with fail
        refine bodyPost_ret (v := .agg #[.int .i64 k, .slice (some ⟨g1, 0, none⟩) 8 d1, .slice (some ⟨g2, 0, none⟩) 8 d2, .slice (some ⟨g3, 0, none⟩) 8 d3]) ?_ rfl FIN.out
        exact results_cell_row Try.results39 _ _ gz _ _ _ _ rfl B9.out Try.underlying26 rfl infoPub
      have f1 : (q == 1) = false := by rw [beq_eq_false_iff_ne]; exact e1
      by_cases e2 : q = 2
      · subst e2
        go_upto_region 17 with fail
        refine wp_region_held (S := fun W => Blk W s 26 [.int .i64 k, .slice (some ⟨g1, 0, none⟩) 8 d1, .slice (some ⟨g2, 0, none⟩) 8 d2, .slice (some ⟨g3, 0, none⟩) 8 d3]) (by kernel_rfl) ?_
        change wpAnyH _ _ _ _ _ _ _ _ wr.drew
        have gd := grown_drew (World.grownBy.refl wr none)
        replace D := Lib.hid (D.out.still gd)
        replace A := Lib.hid (A.out.still gd)
        clear gd
        generalize wr.drew = wr at *
        refine Rg.take_ 0 (some 64) (.pointer (some ⟨s, 3, none⟩)) rfl rfl (by kernel_rfl) (by kernel_rfl) (by kernel_rfl) (fun _ _ _ h => h) (.inl ⟨by rfl, fun W' hS => (by go_simp)⟩) A.out.blk ?_
        simp only [Act.put, List.setIfInBounds_toArray, List.set_cons_zero, List.set_cons_succ]
        refine Rg.take_ 1 (some 65) (.slice (some ⟨g3, 0, none⟩) 8 d3) rfl rfl (by kernel_rfl) (by kernel_rfl) (by kernel_rfl) (fun _ _ _ h => h) (.inl ⟨by rfl, fun W' hS => (by have c0 := hS.cell (i := 3) rfl; go_simp)⟩) A.out.blk ?_
        simp only [Act.put, List.setIfInBounds_toArray, List.set_cons_zero, List.set_cons_succ]
        refine Rg.take_ 2 (some 66) (.pointer (some ⟨c, 0, none⟩)) rfl rfl (by kernel_rfl) (by kernel_rfl) (by kernel_rfl) (fun _ _ _ h => h) (.inl ⟨by rfl, fun W' hS => (by go_simp)⟩) A.out.blk ?_
        simp only [Act.put, List.setIfInBounds_toArray, List.set_cons_zero, List.set_cons_succ]
        have CP := A.out.cap
        unfold maxLen at CP
        refine Rg.ready_one (i := 3) (by kernel_rfl) rfl rfl ?_
        refine Rg.call_at (some 67) (f := 58) (args := #[.pointer (some ⟨c, 0, none⟩), .int .i64 8]) rfl (by go_simp) ((pick c _ 8 _ D.out.rd (by omega) (by omega) (by omega)).mono ?_)
        rintro e w5 ⟨i, q0, q1, rfl, hf, hr⟩
        replace D := Lib.hid (D.out.go hf hr HCZ)
        replace A := Lib.hid (A.out.far hf HC HSC)
        clear hf hr
        obtain ⟨i, rfl⟩ : ∃ ii : Nat, i = ii := ⟨i.toNat, by omega⟩
        refine ⟨_, rfl, A.out.blk, ?_⟩
        simp only [Act.put, List.setIfInBounds_toArray, List.set_cons_zero, List.set_cons_succ]
        have hi8 : i < 8 := by omega
        have hi8i : (i : Int) < 8 := by omega
        clear q0 q1
        refine Rg.take_ 4 (some 68) (.pointer (some ⟨g3, i, none⟩)) rfl rfl (by kernel_rfl) (by kernel_rfl) (by kernel_rfl) (fun _ _ _ h => h) (.inl ⟨by rfl, fun W' hS => (by go_simp)⟩) A.out.blk ?_
        simp only [Act.put, List.setIfInBounds_toArray, List.set_cons_zero, List.set_cons_succ]
        refine Rg.ready_one (i := 5) (by kernel_rfl) rfl rfl ?_
        obtain ⟨x1, f1, b1⟩ := A.out.cellF hi8
        refine storeOne 4 _ _ rfl rfl g3 i (.bool false) (w5.setCell ⟨g3, i, none⟩ (.bool false)) rfl rfl (by go_simp) ?_
        replace D := Lib.hid (D.out.set (grownCell w5 ⟨g3, i, none⟩ (.bool false)) HC b1 (A.out.neZ D.out.out).2.2)
        replace A := Lib.hid (A.out.putF i false)
        clear x1 f1 b1
        refine ⟨A.out.blk, ?_⟩
        simp only [Act.put, List.setIfInBounds_toArray]
        generalize w5.setCell ⟨g3, i, none⟩ (.bool false) = w7 at *
        refine wpAnyH_done (by kernel_rfl) ?_ _
        go_upto_region 27 with fail
        apply wp_region_lit
        refine wpList_load_row rfl _ _ rfl s rfl _ _ _ _ A.out.blk Try.underlying26 rfl infoPub ?_
        simp only [Act.put, List.setIfInBounds_toArray, List.set_cons_succ, List.set_cons_zero]
        obtain ⟨old, ho, hz⟩ := D.out.out
        refine wpList_store_row rfl _ _ _ rfl gz #[.int .i64 k, .slice (some ⟨g1, 0, none⟩) 8 d1, .slice (some ⟨g2, 0, none⟩) 8 d2, .slice (some ⟨g3, 0, none⟩) 8 d3] rfl rfl _ _ ho infoPub (by rw [hz]; rfl) (by kernel_rfl) ?_
        have B9 : Hid ((w7.setRow gz #[.int .i64 k, .slice (some ⟨g1, 0, none⟩) 8 d1, .slice (some ⟨g2, 0, none⟩) 8 d2, .slice (some ⟨g3, 0, none⟩) 8 d3]).heap[gz]? = some (.cells #[.int .i64 k, .slice (some ⟨g1, 0, none⟩) 8 d1, .slice (some ⟨g2, 0, none⟩) 8 d2, .slice (some ⟨g3, 0, none⟩) 8 d3] 26 (0, 0))) := Lib.hid (setRow_heap w7 gz old _ _ (0, 0) ho)
        have gr := grownRow ho #[.int .i64 k, .slice (some ⟨g1, 0, none⟩) 8 d1, .slice (some ⟨g2, 0, none⟩) 8 d2, .slice (some ⟨g3, 0, none⟩) 8 d3]
        have FIN : Hid (DrawnSt c p w (.returned (.agg #[.int .i64 k, .slice (some ⟨g1, 0, none⟩) 8 d1, .slice (some ⟨g2, 0, none⟩) 8 d2, .slice (some ⟨g3, 0, none⟩) 8 d3])) (w7.setRow gz #[.int .i64 k, .slice (some ⟨g1, 0, none⟩) 8 d1, .slice (some ⟨g2, 0, none⟩) 8 d2, .slice (some ⟨g3, 0, none⟩) 8 d3])) := Lib.hid ⟨_, _, _, _, _, _, _, A.out.la, A.out.lv, A.out.lf, rfl, Far.own D.out.far gr (fun i hi => by injection hi with hi; omega), (D.out.rd.up gr (fun i hi => by injection hi with hi; omega)).mono (by omega), outRow A.out.own gr ho⟩
        clear ho hz gr
        generalize w7.setRow gz #[.int .i64 k, .slice (some ⟨g1, 0, none⟩) 8 d1, .slice (some ⟨g2, 0, none⟩) 8 d2, .slice (some ⟨g3, 0, none⟩) 8 d3] = w9 at *
        go_wp2_with fail
        refine bodyPost_ret (v := .agg #[.int .i64 k, .slice (some ⟨g1, 0, none⟩) 8 d1, .slice (some ⟨g2, 0, none⟩) 8 d2, .slice (some ⟨g3, 0, none⟩) 8 d3]) ?_ rfl FIN.out
        exact results_cell_row Try.results39 _ _ gz _ _ _ _ rfl B9.out Try.underlying26 rfl infoPub
      have f2 : (q == 2) = false := by rw [beq_eq_false_iff_ne]; exact e2
      by_cases e3 : q = 3
      · subst e3
        go_wp2_with fail
        refine (drawKind c _ _ D.out.rd (by omega)).mono ?_
        rintro e wr ⟨kk, hkk, rfl, hf, hr⟩
        replace D := Lib.hid (D.out.go hf hr HCZ)
        replace A := Lib.hid (A.out.far hf HC HSC)
        clear hf hr
        have c0 := A.out.blk.cell (i := 0) rfl
        have z0 := A.out.blk.frozen 0
        replace D := Lib.hid (D.out.set (grownCell wr ⟨s, 0, none⟩ (.int .i64 kk)) HC HS (Ne.symm NSZ))
        have A7 : Hid (StAt (wr.setCell ⟨s, 0, none⟩ (.int .i64 kk)) w.heap.size s g1 g2 g3 d1 d2 d3 kk a v f) := Lib.hid ⟨A.out.blk.put 0 (.int .i64 kk), outRow A.out.own (grownCell wr ⟨s, 0, none⟩ (.int .i64 kk)) A.out.blk, A.out.la, A.out.lv, A.out.lf, A.out.ne1, A.out.ne2, A.out.ne3⟩
        go_upto_region 27 with fail
        clear c0 z0 A
        generalize wr.setCell ⟨s, 0, none⟩ (.int .i64 kk) = wr at *
        have A := A7
        clear A7
        apply wp_region_lit
        refine wpList_load_row rfl _ _ rfl s rfl _ _ _ _ A.out.blk Try.underlying26 rfl infoPub ?_
        simp only [Act.put, List.setIfInBounds_toArray, List.set_cons_succ, List.set_cons_zero]
        obtain ⟨old, ho, hz⟩ := D.out.out
        refine wpList_store_row rfl _ _ _ rfl gz #[.int .i64 kk, .slice (some ⟨g1, 0, none⟩) 8 d1, .slice (some ⟨g2, 0, none⟩) 8 d2, .slice (some ⟨g3, 0, none⟩) 8 d3] rfl rfl _ _ ho infoPub (by rw [hz]; rfl) (by kernel_rfl) ?_
        have B9 : Hid ((wr.setRow gz #[.int .i64 kk, .slice (some ⟨g1, 0, none⟩) 8 d1, .slice (some ⟨g2, 0, none⟩) 8 d2, .slice (some ⟨g3, 0, none⟩) 8 d3]).heap[gz]? = some (.cells #[.int .i64 kk, .slice (some ⟨g1, 0, none⟩) 8 d1, .slice (some ⟨g2, 0, none⟩) 8 d2, .slice (some ⟨g3, 0, none⟩) 8 d3] 26 (0, 0))) := Lib.hid (setRow_heap wr gz old _ _ (0, 0) ho)
        have gr := grownRow ho #[.int .i64 kk, .slice (some ⟨g1, 0, none⟩) 8 d1, .slice (some ⟨g2, 0, none⟩) 8 d2, .slice (some ⟨g3, 0, none⟩) 8 d3]
        have FIN : Hid (DrawnSt c p w (.returned (.agg #[.int .i64 kk, .slice (some ⟨g1, 0, none⟩) 8 d1, .slice (some ⟨g2, 0, none⟩) 8 d2, .slice (some ⟨g3, 0, none⟩) 8 d3])) (wr.setRow gz #[.int .i64 kk, .slice (some ⟨g1, 0, none⟩) 8 d1, .slice (some ⟨g2, 0, none⟩) 8 d2, .slice (some ⟨g3, 0, none⟩) 8 d3])) := Lib.hid ⟨_, _, _, _, _, _, _, A.out.la, A.out.lv, A.out.lf, rfl, Far.own D.out.far gr (fun i hi => by injection hi with hi; omega), (D.out.rd.up gr (fun i hi => by injection hi with hi; omega)).mono (by omega), outRow A.out.own gr ho⟩
        clear ho hz gr
        generalize wr.setRow gz #[.int .i64 kk, .slice (some ⟨g1, 0, none⟩) 8 d1, .slice (some ⟨g2, 0, none⟩) 8 d2, .slice (some ⟨g3, 0, none⟩) 8 d3] = w9 at *
        go_wp2_with fail
        refine bodyPost_ret (v := .agg #[.int .i64 kk, .slice (some ⟨g1, 0, none⟩) 8 d1, .slice (some ⟨g2, 0, none⟩) 8 d2, .slice (some ⟨g3, 0, none⟩) 8 d3]) ?_ rfl FIN.out
        exact results_cell_row Try.results39 _ _ gz _ _ _ _ rfl B9.out Try.underlying26 rfl infoPub
      have f3 : (q == 3) = false := by rw [beq_eq_false_iff_ne]; exact e3
      by_cases e4 : q = 4
      · subst e4
        go_upto_region 21 with fail
        have c0 := A.out.blk.cell (i := 0) rfl
        have c1 := A.out.blk.cell (i := 1) rfl
        have c2 := A.out.blk.cell (i := 2) rfl
        have c3 := A.out.blk.cell (i := 3) rfl
        go_wp2_with fail
        refine (specStripeOk k _ _ _ a v f _ A.out.own.a A.out.own.v A.out.own.f (by rw [A.out.la]; omega)).mono ?_
        rintro e wr ⟨qs, rfl, -, hg⟩
        replace D := Lib.hid (D.out.still hg)
        replace A := Lib.hid (A.out.still hg)
        clear hg c0 c1 c2 c3
        cases qs with
        | false =>
          go_upto_region 27 with fail
          apply wp_region_lit
          refine wpList_load_row rfl _ _ rfl s rfl _ _ _ _ A.out.blk Try.underlying26 rfl infoPub ?_
          simp only [Act.put, List.setIfInBounds_toArray, List.set_cons_succ, List.set_cons_zero]
          obtain ⟨old, ho, hz⟩ := D.out.out
          refine wpList_store_row rfl _ _ _ rfl gz #[.int .i64 k, .slice (some ⟨g1, 0, none⟩) 8 d1, .slice (some ⟨g2, 0, none⟩) 8 d2, .slice (some ⟨g3, 0, none⟩) 8 d3] rfl rfl _ _ ho infoPub (by rw [hz]; rfl) (by kernel_rfl) ?_
          have B9 : Hid ((wr.setRow gz #[.int .i64 k, .slice (some ⟨g1, 0, none⟩) 8 d1, .slice (some ⟨g2, 0, none⟩) 8 d2, .slice (some ⟨g3, 0, none⟩) 8 d3]).heap[gz]? = some (.cells #[.int .i64 k, .slice (some ⟨g1, 0, none⟩) 8 d1, .slice (some ⟨g2, 0, none⟩) 8 d2, .slice (some ⟨g3, 0, none⟩) 8 d3] 26 (0, 0))) := Lib.hid (setRow_heap wr gz old _ _ (0, 0) ho)
          have gr := grownRow ho #[.int .i64 k, .slice (some ⟨g1, 0, none⟩) 8 d1, .slice (some ⟨g2, 0, none⟩) 8 d2, .slice (some ⟨g3, 0, none⟩) 8 d3]
          have FIN : Hid (DrawnSt c p w (.returned (.agg #[.int .i64 k, .slice (some ⟨g1, 0, none⟩) 8 d1, .slice (some ⟨g2, 0, none⟩) 8 d2, .slice (some ⟨g3, 0, none⟩) 8 d3])) (wr.setRow gz #[.int .i64 k, .slice (some ⟨g1, 0, none⟩) 8 d1, .slice (some ⟨g2, 0, none⟩) 8 d2, .slice (some ⟨g3, 0, none⟩) 8 d3])) := Lib.hid ⟨_, _, _, _, _, _, _, A.out.la, A.out.lv, A.out.lf, rfl, Far.own D.out.far gr (fun i hi => by injection hi with hi; omega), (D.out.rd.up gr (fun i hi => by injection hi with hi; omega)).mono (by omega), outRow A.out.own gr ho⟩
          clear ho hz gr
          generalize wr.setRow gz #[.int .i64 k, .slice (some ⟨g1, 0, none⟩) 8 d1, .slice (some ⟨g2, 0, none⟩) 8 d2, .slice (some ⟨g3, 0, none⟩) 8 d3] = w9 at *
          go_wp2_with fail
          refine bodyPost_ret (v := .agg #[.int .i64 k, .slice (some ⟨g1, 0, none⟩) 8 d1, .slice (some ⟨g2, 0, none⟩) 8 d2, .slice (some ⟨g3, 0, none⟩) 8 d3]) ?_ rfl FIN.out
          exact results_cell_row Try.results39 _ _ gz _ _ _ _ rfl B9.out Try.underlying26 rfl infoPub
        | true =>
          have I2 : Hid (InD w c gz s (p + 60) wr) := Lib.hid ⟨D.out.more (by omega), _, _, _, _, _, _, _, _, _, _, A.out⟩
          clear A D
          go_wp2_with fail
          go_loopw [7] (fun i wr => ∃ n : Nat, n ≤ 8 ∧ i = .int .i64 n ∧ InD w c gz s (p + 60) wr) (fun i _ => 8 - (intOf i).toNat)
          case atStart => exact ⟨0, by omega, rfl, I2.out⟩
          case round =>
            clear I2
            obtain ⟨i, hi, rfl, hI⟩ := hrel
            obtain ⟨hD, g1, g2, g3, d1, d2, d3, k, a, v, f, hA⟩ := hI
            have D := Lib.hid hD
            have A := Lib.hid hA
            clear hD hA
            have CP := A.out.cap
            unfold maxLen at CP
            have c2 := A.out.blk.cell (i := 2) rfl
            by_cases hlt : i < 8
            · have hlt' : (i : Int) < 8 := by omega
              have c3 := A.out.blk.cell (i := 3) rfl
              obtain ⟨x3, f3, b3⟩ := A.out.cellF hlt
              generalize hy : f.getD i false = y at x3
              clear hy
              cases y with
              | false =>
                go_wp2_with fail
                go_roundw
                case rel => exact ⟨i + 1, by omega, by go_num, D.out, _, _, _, _, _, _, _, _, _, _, A.out⟩
                case measure => simp [intOf]; omega
              | true =>
                go_upto_region 26 with fail
                clear c2 c3 x3 f3 b3 CP
                refine wp_region_held (S := fun W => Blk W s 26 [.int .i64 k, .slice (some ⟨g1, 0, none⟩) 8 d1, .slice (some ⟨g2, 0, none⟩) 8 d2, .slice (some ⟨g3, 0, none⟩) 8 d3]) (by kernel_rfl) ?_
                change wpAnyH _ _ _ _ _ _ _ _ wr.drew
                have gd := grown_drew (World.grownBy.refl wr none)
                replace D := Lib.hid (D.out.still gd)
                replace A := Lib.hid (A.out.still gd)
                clear gd
                generalize wr.drew = wr at *
                have CP := A.out.cap
                unfold maxLen at CP
                refine Rg.take_ 0 (some 90) (.pointer (some ⟨s, 2, none⟩)) rfl rfl (by kernel_rfl) (by kernel_rfl) (by kernel_rfl) (fun _ _ _ h => h) (.inl ⟨by rfl, fun W' hS => (by go_simp)⟩) A.out.blk ?_
                simp only [Act.put, List.setIfInBounds_toArray, List.set_cons_zero, List.set_cons_succ]
                refine Rg.take_ 1 (some 91) (.slice (some ⟨g2, 0, none⟩) 8 d2) rfl rfl (by kernel_rfl) (by kernel_rfl) (by kernel_rfl) (fun _ _ _ h => h) (.inl ⟨by rfl, fun W' hS => (by have c0 := hS.cell (i := 2) rfl; go_simp)⟩) A.out.blk ?_
                simp only [Act.put, List.setIfInBounds_toArray, List.set_cons_zero, List.set_cons_succ]
                refine Rg.take_ 2 (some 92) (.int .i64 i) rfl rfl (by kernel_rfl) (by kernel_rfl) (by kernel_rfl) (fun _ _ _ h => h) (.inl ⟨by rfl, fun W' hS => (by go_simp)⟩) A.out.blk ?_
                simp only [Act.put, List.setIfInBounds_toArray, List.set_cons_zero, List.set_cons_succ]
                refine Rg.take_ 3 (some 93) (.pointer (some ⟨s, 2, none⟩)) rfl rfl (by kernel_rfl) (by kernel_rfl) (by kernel_rfl) (fun _ _ _ h => h) (.inl ⟨by rfl, fun W' hS => (by go_simp)⟩) A.out.blk ?_
                simp only [Act.put, List.setIfInBounds_toArray, List.set_cons_zero, List.set_cons_succ]
                refine Rg.take_ 4 (some 94) (.slice (some ⟨g2, 0, none⟩) 8 d2) rfl rfl (by kernel_rfl) (by kernel_rfl) (by kernel_rfl) (fun _ _ _ h => h) (.inl ⟨by rfl, fun W' hS => (by have c0 := hS.cell (i := 2) rfl; go_simp)⟩) A.out.blk ?_
                simp only [Act.put, List.setIfInBounds_toArray, List.set_cons_zero, List.set_cons_succ]
                refine Rg.take_ 5 (some 95) (.int .i64 i) rfl rfl (by kernel_rfl) (by kernel_rfl) (by kernel_rfl) (fun _ _ _ h => h) (.inl ⟨by rfl, fun W' hS => (by go_simp)⟩) A.out.blk ?_
                simp only [Act.put, List.setIfInBounds_toArray, List.set_cons_zero, List.set_cons_succ]
                refine Rg.take_ 6 (some 96) (.pointer (some ⟨g2, i, none⟩)) rfl rfl (by kernel_rfl) (by kernel_rfl) (by kernel_rfl) (fun _ _ _ h => h) (.inl ⟨by rfl, fun W' hS => (by go_simp)⟩) A.out.blk ?_
                simp only [Act.put, List.setIfInBounds_toArray, List.set_cons_zero, List.set_cons_succ]
                refine Rg.take_ 9 (some 99) (.agg #[.int .i64 k, .slice (some ⟨g1, 0, none⟩) 8 d1, .slice (some ⟨g2, 0, none⟩) 8 d2, .slice (some ⟨g3, 0, none⟩) 8 d3]) rfl rfl (by kernel_rfl) (by kernel_rfl) (by kernel_rfl) (fun _ _ _ h => h) (.inl ⟨by rfl, fun W' hS => (by have c0 := hS.cell (i := 0) rfl; have c1 := hS.cell (i := 1) rfl; have c2 := hS.cell (i := 2) rfl; have c3 := hS.cell (i := 3) rfl; go_simp)⟩) A.out.blk ?_
                simp only [Act.put, List.setIfInBounds_toArray, List.set_cons_zero, List.set_cons_succ]
                refine Rg.ready_two (i := 7) (k := 10) (by kernel_rfl) rfl rfl rfl rfl ?_ ?_
                · obtain ⟨x1, f1, b1⟩ := A.out.cellV hlt
                  generalize hx : v.getD i 0 = x at x1
                  clear hx
                  refine Rg.value_at (some 97) (.int .i64 x) wr rfl (by go_simp) ?_
                  refine ⟨A.out.blk, ?_⟩
                  simp only [Act.put, List.setIfInBounds_toArray, List.set_cons_zero, List.set_cons_succ]
                  clear x1 f1 b1
                  obtain ⟨x2, hx2⟩ : ∃ z, IntKind.i64.wrap (x + 99) = z := ⟨_, rfl⟩
                  refine Rg.take_ 8 (some 98) (.int .i64 x2) rfl rfl (by kernel_rfl) (by kernel_rfl) (by kernel_rfl) (fun _ _ _ h => h) (.inl ⟨by rfl, fun W' hS => (by go_simp)⟩) A.out.blk ?_
                  simp only [Act.put, List.setIfInBounds_toArray, List.set_cons_zero, List.set_cons_succ]
                  refine Rg.ready_one (i := 10) (by kernel_rfl) rfl rfl ?_
                  refine Rg.call_at (some 100) (f := 69) (args := #[.agg #[.int .i64 k, .slice (some ⟨g1, 0, none⟩) 8 d1, .slice (some ⟨g2, 0, none⟩) 8 d2, .slice (some ⟨g3, 0, none⟩) 8 d3]]) rfl (by go_simp) ((specL21Top k _ _ _ a v f _ A.out.own.a A.out.own.v A.out.own.f A.out.lv).mono ?_)
                  rintro e wr ⟨rfl, hg⟩
                  replace D := Lib.hid (D.out.still hg)
                  replace A := Lib.hid (A.out.still hg)
                  clear hg
                  generalize topN v 8 = tp
                  refine ⟨_, rfl, A.out.blk, ?_⟩
                  simp only [Act.put, List.setIfInBounds_toArray, List.set_cons_zero, List.set_cons_succ]
                  obtain ⟨x3, hx3⟩ : ∃ z, IntKind.i64.wrap (x2 - tp) = z := ⟨_, rfl⟩
                  refine Rg.take_ 11 (some 101) (.int .i64 x3) rfl rfl (by kernel_rfl) (by kernel_rfl) (by kernel_rfl) (fun _ _ _ h => h) (.inl ⟨by rfl, fun W' hS => (by go_simp)⟩) A.out.blk ?_
                  simp only [Act.put, List.setIfInBounds_toArray, List.set_cons_zero, List.set_cons_succ]
                  refine Rg.take_ 12 (some 102) (.pointer (some ⟨g2, i, none⟩)) rfl rfl (by kernel_rfl) (by kernel_rfl) (by kernel_rfl) (fun _ _ _ h => h) (.inl ⟨by rfl, fun W' hS => (by go_simp)⟩) A.out.blk ?_
                  simp only [Act.put, List.setIfInBounds_toArray, List.set_cons_zero, List.set_cons_succ]
                  refine Rg.ready_one (i := 13) (by kernel_rfl) rfl rfl ?_
                  obtain ⟨x1', f1', b1'⟩ := A.out.cellV hlt
                  refine storeOne 3 _ _ rfl rfl g2 i (.int .i64 x3) (wr.setCell ⟨g2, i, none⟩ (.int .i64 x3)) rfl rfl (by go_simp) ?_
                  replace D := Lib.hid (D.out.set (grownCell wr ⟨g2, i, none⟩ (.int .i64 x3)) HC b1' (A.out.neZ D.out.out).2.1)
                  replace A := Lib.hid (A.out.putV i x3)
                  clear x1' f1' b1'
                  refine ⟨A.out.blk, ?_⟩
                  simp only [Act.put, List.setIfInBounds_toArray]
                  generalize wr.setCell ⟨g2, i, none⟩ (.int .i64 x3) = wr at *
                  refine wpAnyH_done (by kernel_rfl) ?_ _
                  go_wp2_with fail
                  go_roundw
                  case rel => exact ⟨i + 1, by omega, by go_num, D.out, _, _, _, _, _, _, _, _, _, _, A.out⟩
                  case measure => simp [intOf]; omega
                · refine Rg.call_at (some 100) (f := 69) (args := #[.agg #[.int .i64 k, .slice (some ⟨g1, 0, none⟩) 8 d1, .slice (some ⟨g2, 0, none⟩) 8 d2, .slice (some ⟨g3, 0, none⟩) 8 d3]]) rfl (by go_simp) ((specL21Top k _ _ _ a v f _ A.out.own.a A.out.own.v A.out.own.f A.out.lv).mono ?_)
                  rintro e wr ⟨rfl, hg⟩
                  replace D := Lib.hid (D.out.still hg)
                  replace A := Lib.hid (A.out.still hg)
                  clear hg
                  generalize topN v 8 = tp
                  refine ⟨_, rfl, A.out.blk, ?_⟩
                  simp only [Act.put, List.setIfInBounds_toArray, List.set_cons_zero, List.set_cons_succ]
                  refine Rg.ready_one (i := 7) (by kernel_rfl) rfl rfl ?_
                  obtain ⟨x1, f1, b1⟩ := A.out.cellV hlt
                  generalize hx : v.getD i 0 = x at x1
                  clear hx
                  refine Rg.value_at (some 97) (.int .i64 x) wr rfl (by go_simp) ?_
                  refine ⟨A.out.blk, ?_⟩
                  simp only [Act.put, List.setIfInBounds_toArray, List.set_cons_zero, List.set_cons_succ]
                  clear x1 f1 b1
                  obtain ⟨x2, hx2⟩ : ∃ z, IntKind.i64.wrap (x + 99) = z := ⟨_, rfl⟩
                  refine Rg.take_ 8 (some 98) (.int .i64 x2) rfl rfl (by kernel_rfl) (by kernel_rfl) (by kernel_rfl) (fun _ _ _ h => h) (.inl ⟨by rfl, fun W' hS => (by go_simp)⟩) A.out.blk ?_
                  simp only [Act.put, List.setIfInBounds_toArray, List.set_cons_zero, List.set_cons_succ]
                  obtain ⟨x3, hx3⟩ : ∃ z, IntKind.i64.wrap (x2 - tp) = z := ⟨_, rfl⟩
                  refine Rg.take_ 11 (some 101) (.int .i64 x3) rfl rfl (by kernel_rfl) (by kernel_rfl) (by kernel_rfl) (fun _ _ _ h => h) (.inl ⟨by rfl, fun W' hS => (by go_simp)⟩) A.out.blk ?_
                  simp only [Act.put, List.setIfInBounds_toArray, List.set_cons_zero, List.set_cons_succ]
                  refine Rg.take_ 12 (some 102) (.pointer (some ⟨g2, i, none⟩)) rfl rfl (by kernel_rfl) (by kernel_rfl) (by kernel_rfl) (fun _ _ _ h => h) (.inl ⟨by rfl, fun W' hS => (by go_simp)⟩) A.out.blk ?_
                  simp only [Act.put, List.setIfInBounds_toArray, List.set_cons_zero, List.set_cons_succ]
                  refine Rg.ready_one (i := 13) (by kernel_rfl) rfl rfl ?_
                  obtain ⟨x1', f1', b1'⟩ := A.out.cellV hlt
                  refine storeOne 3 _ _ rfl rfl g2 i (.int .i64 x3) (wr.setCell ⟨g2, i, none⟩ (.int .i64 x3)) rfl rfl (by go_simp) ?_
                  replace D := Lib.hid (D.out.set (grownCell wr ⟨g2, i, none⟩ (.int .i64 x3)) HC b1' (A.out.neZ D.out.out).2.1)
                  replace A := Lib.hid (A.out.putV i x3)
                  clear x1' f1' b1'
                  refine ⟨A.out.blk, ?_⟩
                  simp only [Act.put, List.setIfInBounds_toArray]
                  generalize wr.setCell ⟨g2, i, none⟩ (.int .i64 x3) = wr at *
                  refine wpAnyH_done (by kernel_rfl) ?_ _
                  go_wp2_with fail
                  go_roundw
                  case rel => exact ⟨i + 1, by omega, by go_num, D.out, _, _, _, _, _, _, _, _, _, _, A.out⟩
                  case measure => simp [intOf]; omega
            · obtain rfl : i = 8 := by omega
              go_upto_region 27 with fail
              clear c2
              apply wp_region_lit
              refine wpList_load_row rfl _ _ rfl s rfl _ _ _ _ A.out.blk Try.underlying26 rfl infoPub ?_
              simp only [Act.put, List.setIfInBounds_toArray, List.set_cons_succ, List.set_cons_zero]
              obtain ⟨old, ho, hz⟩ := D.out.out
              refine wpList_store_row rfl _ _ _ rfl gz #[.int .i64 k, .slice (some ⟨g1, 0, none⟩) 8 d1, .slice (some ⟨g2, 0, none⟩) 8 d2, .slice (some ⟨g3, 0, none⟩) 8 d3] rfl rfl _ _ ho infoPub (by rw [hz]; rfl) (by kernel_rfl) ?_
              have B9 : Hid ((wr.setRow gz #[.int .i64 k, .slice (some ⟨g1, 0, none⟩) 8 d1, .slice (some ⟨g2, 0, none⟩) 8 d2, .slice (some ⟨g3, 0, none⟩) 8 d3]).heap[gz]? = some (.cells #[.int .i64 k, .slice (some ⟨g1, 0, none⟩) 8 d1, .slice (some ⟨g2, 0, none⟩) 8 d2, .slice (some ⟨g3, 0, none⟩) 8 d3] 26 (0, 0))) := Lib.hid (setRow_heap wr gz old _ _ (0, 0) ho)
              have gr := grownRow ho #[.int .i64 k, .slice (some ⟨g1, 0, none⟩) 8 d1, .slice (some ⟨g2, 0, none⟩) 8 d2, .slice (some ⟨g3, 0, none⟩) 8 d3]
              have FIN : Hid (DrawnSt c p w (.returned (.agg #[.int .i64 k, .slice (some ⟨g1, 0, none⟩) 8 d1, .slice (some ⟨g2, 0, none⟩) 8 d2, .slice (some ⟨g3, 0, none⟩) 8 d3])) (wr.setRow gz #[.int .i64 k, .slice (some ⟨g1, 0, none⟩) 8 d1, .slice (some ⟨g2, 0, none⟩) 8 d2, .slice (some ⟨g3, 0, none⟩) 8 d3])) := Lib.hid ⟨_, _, _, _, _, _, _, A.out.la, A.out.lv, A.out.lf, rfl, Far.own D.out.far gr (fun i hi => by injection hi with hi; omega), (D.out.rd.up gr (fun i hi => by injection hi with hi; omega)).mono (by omega), outRow A.out.own gr ho⟩
              clear ho hz gr
              generalize wr.setRow gz #[.int .i64 k, .slice (some ⟨g1, 0, none⟩) 8 d1, .slice (some ⟨g2, 0, none⟩) 8 d2, .slice (some ⟨g3, 0, none⟩) 8 d3] = w9 at *
              go_wp2_with fail
              refine bodyPost_ret (v := .agg #[.int .i64 k, .slice (some ⟨g1, 0, none⟩) 8 d1, .slice (some ⟨g2, 0, none⟩) 8 d2, .slice (some ⟨g3, 0, none⟩) 8 d3]) ?_ rfl FIN.out
              exact results_cell_row Try.results39 _ _ gz _ _ _ _ rfl B9.out Try.underlying26 rfl infoPub
      have f4 : (q == 4) = false := by rw [beq_eq_false_iff_ne]; exact e4
      go_upto_region 27 with fail
      apply wp_region_lit
      refine wpList_load_row rfl _ _ rfl s rfl _ _ _ _ A.out.blk Try.underlying26 rfl infoPub ?_
      simp only [Act.put, List.setIfInBounds_toArray, List.set_cons_succ, List.set_cons_zero]
      obtain ⟨old, ho, hz⟩ := D.out.out
      refine wpList_store_row rfl _ _ _ rfl gz #[.int .i64 k, .slice (some ⟨g1, 0, none⟩) 8 d1, .slice (some ⟨g2, 0, none⟩) 8 d2, .slice (some ⟨g3, 0, none⟩) 8 d3] rfl rfl _ _ ho infoPub (by rw [hz]; rfl) (by kernel_rfl) ?_
      have B9 : Hid ((wr.setRow gz #[.int .i64 k, .slice (some ⟨g1, 0, none⟩) 8 d1, .slice (some ⟨g2, 0, none⟩) 8 d2, .slice (some ⟨g3, 0, none⟩) 8 d3]).heap[gz]? = some (.cells #[.int .i64 k, .slice (some ⟨g1, 0, none⟩) 8 d1, .slice (some ⟨g2, 0, none⟩) 8 d2, .slice (some ⟨g3, 0, none⟩) 8 d3] 26 (0, 0))) := Lib.hid (setRow_heap wr gz old _ _ (0, 0) ho)
      have gr := grownRow ho #[.int .i64 k, .slice (some ⟨g1, 0, none⟩) 8 d1, .slice (some ⟨g2, 0, none⟩) 8 d2, .slice (some ⟨g3, 0, none⟩) 8 d3]
      have FIN : Hid (DrawnSt c p w (.returned (.agg #[.int .i64 k, .slice (some ⟨g1, 0, none⟩) 8 d1, .slice (some ⟨g2, 0, none⟩) 8 d2, .slice (some ⟨g3, 0, none⟩) 8 d3])) (wr.setRow gz #[.int .i64 k, .slice (some ⟨g1, 0, none⟩) 8 d1, .slice (some ⟨g2, 0, none⟩) 8 d2, .slice (some ⟨g3, 0, none⟩) 8 d3])) := Lib.hid ⟨_, _, _, _, _, _, _, A.out.la, A.out.lv, A.out.lf, rfl, Far.own D.out.far gr (fun i hi => by injection hi with hi; omega), (D.out.rd.up gr (fun i hi => by injection hi with hi; omega)).mono (by omega), outRow A.out.own gr ho⟩
      clear ho hz gr
      generalize wr.setRow gz #[.int .i64 k, .slice (some ⟨g1, 0, none⟩) 8 d1, .slice (some ⟨g2, 0, none⟩) 8 d2, .slice (some ⟨g3, 0, none⟩) 8 d3] = w9 at *
      go_wp2_with fail
      refine bodyPost_ret (v := .agg #[.int .i64 k, .slice (some ⟨g1, 0, none⟩) 8 d1, .slice (some ⟨g2, 0, none⟩) 8 d2, .slice (some ⟨g3, 0, none⟩) 8 d3]) ?_ rfl FIN.out
      exact results_cell_row Try.results39 _ _ gz _ _ _ _ rfl B9.out Try.underlying26 rfl infoPub
end Go.Proofs.Ytoflijiinkmjoaa
