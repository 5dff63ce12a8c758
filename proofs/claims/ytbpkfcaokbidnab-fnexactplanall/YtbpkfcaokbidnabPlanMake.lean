/-
  The program's planBy: a plan out of how often each shard is taken; those taken 0 times are left out.
  Conditions: none.
-/
import Derived.Test.YtbpkfcaokbidnabPlanWork
import Derived.Test.YtbpkfcaokbidnabG4
import Derived.Maps.AppendAt
namespace Go.Proofs.Ytbpkfcaokbidnab
open Go.RowKit
set_option linter.unusedVariables false

/-- two rows, owned, apart. -/
def TwoOwn (w : World) (base : Nat) (u v : Value) (l m : List Int) : Prop := Own w base u l ∧ Own w base v m ∧ (u.ownBlock = none ∨ u.ownBlock ≠ v.ownBlock)
theorem TwoOwn.all {w : World} {base : Nat} {u v : Value} {l m : List Int} (h : TwoOwn w base u v l m) : OwnAll w base [row1 u l, row1 v m] := by
  constructor
  · intro x hx
    rcases List.mem_cons.1 hx with rfl | hx
    · exact row1_own.2 h.1
    · rcases List.mem_cons.1 hx with rfl | hx
      · exact row1_own.2 h.2.1
      · cases hx
  · refine List.pairwise_cons.2 ⟨fun y hy => ?_, List.pairwise_cons.2 ⟨fun y hy => (by cases hy), List.Pairwise.nil⟩⟩
    rcases List.mem_cons.1 hy with rfl | hy
    · exact h.2.2
    · cases hy
theorem TwoOwn.still {w w' : World} {base : Nat} {u v : Value} {l m : List Int} (h : TwoOwn w base u v l m) (hg : w.grownBy w' none) : TwoOwn w' base u v l m := ⟨h.1.still hg, h.2.1.still hg, h.2.2⟩
theorem TwoOwn.lower {w : World} {base base' : Nat} {u v : Value} {l m : List Int} (h : TwoOwn w base u v l m) (hb : base' ≤ base) : TwoOwn w base' u v l m := ⟨h.1.lower hb, h.2.1.lower hb, h.2.2⟩
theorem apart_symm {u v : Value} (h : u.ownBlock = none ∨ u.ownBlock ≠ v.ownBlock) : v.ownBlock = none ∨ v.ownBlock ≠ u.ownBlock := by
  rcases h with h | h
  · cases hv : v.ownBlock with
    | none => exact .inl rfl
    | some k => exact .inr (by rw [h]; simp)
  · exact .inr fun e => h e.symm
/-- a plan that a call has made. -/
def NewPlan (lost : Int) (l m : List Int) (w : World) (e : Ending) (w' : World) : Prop := ∃ u v, e = .returned (.agg #[.int .i64 lost, u, v]) ∧ w.grownBy w' none ∧ TwoOwn w' w.heap.size u v l m

theorem idxT (a0 a1 a2 a3 a4 a5 a6 a7 : Int) {n : Nat} (hn : n < 8) (W : World) : (Instr.index 88 (.agg (vals [a0, a1, a2, a3, a4, a5, a6, a7]).toArray) (.int .i64 n)).run Try.prog W = .ok (.int .i64 ([a0, a1, a2, a3, a4, a5, a6, a7].getD n 0)) W := by
  rcases (by omega : n = 0 ∨ n = 1 ∨ n = 2 ∨ n = 3 ∨ n = 4 ∨ n = 5 ∨ n = 6 ∨ n = 7) with rfl | rfl | rfl | rfl | rfl | rfl | rfl | rfl <;> kernel_rfl

theorem taken_len (c : List Int) (n : Nat) : (Sp.taken c n).length ≤ n := by
  unfold Sp.taken
  exact Nat.le_trans (List.length_filter_le _ _) (by simp)
theorem ints_len (S : List Nat) : (Sp.ints S).length = S.length := by simp [Sp.ints]
theorem nums_len (c : List Int) (S : List Nat) : (Sp.nums c S).length = S.length := by simp [Sp.nums]

set_option maxHeartbeats 4000000 in
set_option maxRecDepth 20000 in
theorem planBy (lost : Int) (c : List Int) (hc : c.length = 8) (w : World) : Calls Try.prog 103 #[.int .i64 lost, .agg (vals c).toArray] w (NewPlan lost (Sp.ints (Sp.taken c 8)) (Sp.nums c (Sp.taken c 8)) w) := by
  have IX : Hid (∀ (n : Nat) (h : n < 8) (W : World), (Instr.index 88 (.agg (vals c).toArray) (.int .i64 n)).run Try.prog W = .ok (.int .i64 (c.getD n 0)) W) := Lib.hid (by
    obtain ⟨a0, a1, a2, a3, a4, a5, a6, a7, rfl⟩ := list_eight hc
    exact fun n h W => idxT a0 a1 a2 a3 a4 a5 a6 a7 h W)
  have z : (vals c).toArray.size = 8 := by simp [vals_length, hc]
  have hi : (Try.prog.info? 88).map (·.size) = some (vals c).toArray.size := by rw [z]; kernel_rfl
  obtain ⟨i0, hi0, hz0, hz1, hz2⟩ := info_parts infoInt
  have I1 := Lib.hid hi0
  have I2 := Lib.hid hz0
  have I3 := Lib.hid hz1
  have I4 := Lib.hid hz2
  clear hi0 hz0 hz1 hz2
  have C0 : Hid (Arr (((w.alloc (.cells (vals c).toArray 88)).alloc (.cells #[.int .i64 0, .slice none 0 0, .slice none 0 0] 35)).alloc (.cells #[.int .i64 lost, .slice none 0 0, .slice none 0 0] 35)) w.heap.size 88 c) := Lib.hid (((Arr.new w _ _).alloc _).alloc _)
  have R0 : Hid (Blk (((w.alloc (.cells (vals c).toArray 88)).alloc (.cells #[.int .i64 0, .slice none 0 0, .slice none 0 0] 35)).alloc (.cells #[.int .i64 lost, .slice none 0 0, .slice none 0 0] 35)) (w.heap.size + 1) 35 [.int .i64 0, .slice none 0 0, .slice none 0 0]) := Lib.hid (by
    have h := heap_alloc_new (w.alloc (.cells (vals c).toArray 88)) (.cells #[.int .i64 0, .slice none 0 0, .slice none 0 0] 35)
    rw [World.size_alloc] at h
    exact (Below.heap_alloc _ _ _ (by simp)).trans h)
  have P0 : Hid (Blk (((w.alloc (.cells (vals c).toArray 88)).alloc (.cells #[.int .i64 0, .slice none 0 0, .slice none 0 0] 35)).alloc (.cells #[.int .i64 lost, .slice none 0 0, .slice none 0 0] 35)) (w.heap.size + 2) 35 [.int .i64 lost, .slice none 0 0, .slice none 0 0]) := Lib.hid (by
    have h := heap_alloc_new ((w.alloc (.cells (vals c).toArray 88)).alloc (.cells #[.int .i64 0, .slice none 0 0, .slice none 0 0] 35)) (.cells #[.int .i64 lost, .slice none 0 0, .slice none 0 0] 35)
    rw [World.size_alloc, World.size_alloc] at h
    exact h)
  have G0 : Hid (w.grownBy (((w.alloc (.cells (vals c).toArray 88)).alloc (.cells #[.int .i64 0, .slice none 0 0, .slice none 0 0] 35)).alloc (.cells #[.int .i64 lost, .slice none 0 0, .slice none 0 0] 35)) none) := Lib.hid (grown_alloc (grown_alloc (grown_alloc (World.grownBy.refl _ _) _) _) _)
  have S0 : w.heap.size + 3 ≤ (((w.alloc (.cells (vals c).toArray 88)).alloc (.cells #[.int .i64 0, .slice none 0 0, .slice none 0 0] 35)).alloc (.cells #[.int .i64 lost, .slice none 0 0, .slice none 0 0] 35)).heap.size := by simp
  clear hc z
  go_enter Try.func103, Try.ntmps103
  go_upto_region 2 with fail
  generalize ((w.alloc (.cells (vals c).toArray 88)).alloc (.cells #[.int .i64 0, .slice none 0 0, .slice none 0 0] 35)).alloc (.cells #[.int .i64 lost, .slice none 0 0, .slice none 0 0] 35) = W0 at *
  apply wp_region_lit
  refine wpList_load_row rfl _ _ rfl w.heap.size rfl _ _ _ _ C0.out Try.underlying88 rfl hi ?_
  clear C0 hi
  generalize hvc : vals c = vc at *
  clear hvc
  obtain ⟨r, hr⟩ : ∃ r, r = w.heap.size + 1 := ⟨_, rfl⟩
  obtain ⟨g, hg⟩ : ∃ g, g = w.heap.size + 1 + 1 := ⟨_, rfl⟩
  rw [show w.heap.size + 2 = g from hg.symm] at P0
  rw [← hr] at R0
  rw [← hg, ← hr]
  have BG : w.heap.size ≤ r ∧ r < g ∧ g + 1 = w.heap.size + 3 := by omega
  clear hr hg
  generalize hB : w.heap.size + 3 = B at *
  have BB : w.heap.size ≤ B := by omega
  clear hB
  go_wp2_with fail
  go_loopw [11] (fun i wr => ∃ n : Nat, n ≤ 8 ∧ i = .int .i64 n ∧ w.grownBy wr none ∧ B ≤ wr.heap.size ∧ Blk wr r 35 [.int .i64 0, .slice none 0 0, .slice none 0 0] ∧ ∃ u v, Blk wr g 35 [.int .i64 lost, u, v] ∧ TwoOwn wr B u v (Sp.ints (Sp.taken c n)) (Sp.nums c (Sp.taken c n))) (fun i _ => 8 - (intOf i).toNat)
  case atStart => exact ⟨0, by omega, rfl, G0.out, S0, R0.out, _, _, P0.out, Own.none_ _ _, Own.none_ _ _, .inl rfl⟩
  case round =>
    obtain ⟨n, hn, rfl, hgr, hsz, hrr, u, v, hgg, hto⟩ := hrel
    have G := Lib.hid hgr
    have R := Lib.hid hrr
    have P := Lib.hid hgg
    have T := Lib.hid hto
    have SZ := Lib.hid hsz
    clear hgr hrr hgg hto hsz G0 S0 R0 P0
    have c1 := P.out.cell (i := 1) rfl
    have c2 := P.out.cell (i := 2) rfl
    have f1 := P.out.frozen 1
    have f2 := P.out.frozen 2
    have TL := taken_len c n
    by_cases hlt : n < 8
    · have hlt' : (n : Int) < 8 := by omega
      have ix := IX.out n hlt wr
      have TS := Lib.hid (Sp.taken_succ c n)
      have NS := Lib.hid (Sp.nums_taken c n)
      obtain ⟨x, hx⟩ : ∃ x, c.getD n 0 = x := ⟨_, rfl⟩
      rw [hx] at ix TS NS
      clear hx
      by_cases h0 : x = 0
      · subst h0
        have e1 : Hid (Sp.taken c (n + 1) = Sp.taken c n) := Lib.hid (by rw [TS.out, if_pos rfl])
        clear TS NS
        go_wp2_with fail
        go_roundw
        case rel => exact ⟨n + 1, by omega, by go_num, G.out, SZ.out, R.out, u, v, P.out, by rw [e1.out]; exact T.out⟩
        case measure => simp [intOf]; omega
      · have e1 : Hid (Sp.taken c (n + 1) = Sp.taken c n ++ [n]) := Lib.hid (by rw [TS.out, if_neg h0])
        have e2 : Hid (Sp.nums c (Sp.taken c (n + 1)) = Sp.nums c (Sp.taken c n) ++ [x]) := Lib.hid (by rw [NS.out, if_neg h0])
        have e3 : Hid (Sp.ints (Sp.taken c (n + 1)) = Sp.ints (Sp.taken c n) ++ [(n : Int)]) := Lib.hid (by rw [e1.out]; simp [Sp.ints])
        clear TS NS e1
        have ne0 : (x != 0) = true := by rw [bne_iff_ne]; exact h0
        have lF : (Sp.ints (Sp.taken c n)).length ≤ 8 := by rw [ints_len]; omega
        have lB : (Sp.nums c (Sp.taken c n)).length ≤ 8 := by rw [nums_len]; omega
        generalize Sp.ints (Sp.taken c n) = lf at *
        generalize Sp.nums c (Sp.taken c n) = lb at *
        have OF := Lib.hid T.out.1
        have s1 := SZ.out
        have b1 := BG.2.2
        clear h0
        go_wp2_with (first
          | (at_builtin; refine wpList_append_own_at _ rfl _ _ 33 rfl B 3 i0 (.int .i64 0) 1 8 Try.underlying33 I1.out I2.out I3.out I4.out rfl (by decide) _ _ _ rfl (World.ownsRow.alloc OF.out _) ⟨wr.heap.size, 0, none⟩ 1 1 [.int .i64 n] rfl rfl (one_cell (g := 0)) (vals_one [(n : Int)]) ?c3 ?c4 ?c5 ?_))
        case c3 => unfold maxLen; omega
        case c4 => omega
        case c5 => simp; omega
        intro u' w1 ho hg _ hat
        have g1 : wr.grownBy w1 u.ownBlock := grown_trans (World.grownBy_alloc _ _ _) hg
        have o1 : Own w1 B u' (lf ++ [(n : Int)]) := own_snoc ho rfl rfl
        have v1 : Own w1 B v lb := (T.out.2.1).kept g1 (apart_symm T.out.2.2)
        have ap1 : u'.ownBlock = none ∨ u'.ownBlock ≠ v.ownBlock := by
          rcases hat with hat | hat
          · rw [hat]; exact T.out.2.2
          · refine .inr fun e => ?_
            rw [hat] at e
            have := (World.ownsRow.lt T.out.2.1 _ e.symm).2
            (try rw [World.size_alloc] at this)
            omega
        have p1 := P.out.kept g1 (far_own T.out.1 (by omega))
        have r1 := R.out.kept g1 (far_own T.out.1 (by omega))
        have G1 := Lib.hid (grown_own G.out g1 (fun j hj => by have := (World.ownsRow.lt T.out.1 j hj).1; omega))
        have S1 := Nat.le_trans s1 g1.size
        obtain ⟨au, cu, eu, _, _, _⟩ := o1.sl
        obtain ⟨nl, hnl⟩ : ∃ k, (lf ++ [(n : Int)]).length = k := ⟨_, rfl⟩
        rw [hnl] at eu
        clear hnl
        subst eu
        have d1 := p1.cell (i := 1) rfl
        have d2 := p1.cell (i := 2) rfl
        have q1 := p1.frozen 1
        have q2 := p1.frozen 2
        have P2 := Lib.hid (p1.put 1 (.slice au nl cu))
        have gs : w1.grownBy (w1.setCell ⟨g, 1, none⟩ (.slice au nl cu)) (some g) := grown_at (World.grownBy.refl w1 (some g)) 1 _
        have T2 : Hid (TwoOwn (w1.setCell ⟨g, 1, none⟩ (.slice au nl cu)) B (.slice au nl cu) v (lf ++ [(n : Int)]) lb) := Lib.hid ⟨o1.kept gs (.inr fun e => far_own o1 (by omega) e.symm), v1.kept gs (.inr fun e => far_own v1 (by omega) e.symm), ap1⟩
        have R2 := Lib.hid (r1.kept gs (by intro e; injection e with e; omega))
        have G2 := Lib.hid (grown_own G1.out gs (fun j hj => by injection hj with hj; omega))
        have S2 : B ≤ (w1.setCell ⟨g, 1, none⟩ (.slice au nl cu)).heap.size := by rw [size_set]; exact S1
        have OB := Lib.hid T2.out.2.1
        have ne1 : w1.cell? ⟨g, 2, none⟩ = some v := d2
        have nx : (w1.setCell ⟨g, 1, none⟩ (.slice au nl cu)).cell? ⟨g, 2, none⟩ = some v := P2.out.cell (i := 2) rfl
        clear ho hg hat g1 o1 v1 ap1 p1 r1 gs G R P T SZ s1 c1 c2 f1 f2 OF G1 S1 ne1
        go_wp2_with (first
          | (at_builtin; refine wpList_append_own_at _ rfl _ _ 33 rfl B 3 i0 (.int .i64 0) 1 8 Try.underlying33 I1.out I2.out I3.out I4.out rfl (by decide) _ _ _ rfl (World.ownsRow.alloc OB.out _) ⟨w1.heap.size, 0, none⟩ 1 1 [.int .i64 x] rfl rfl (one_cell_at (size_set _ _ _)) (vals_one [x]) ?c3 ?c4 ?c5 ?_))
        case c3 => unfold maxLen; omega
        case c4 => omega
        case c5 => have := S2; rw [size_set] at this; simp; omega
        intro v' w3 ho hg _ hat
        have hsz2 := size_set w1 ⟨g, 1, none⟩ (.slice au nl cu)
        generalize w1.setCell ⟨g, 1, none⟩ (.slice au nl cu) = w2 at *
        have g1 : w2.grownBy w3 v.ownBlock := grown_trans (World.grownBy_alloc _ _ _) hg
        have o1 : Own w3 B v' (lb ++ [x]) := own_snoc ho rfl rfl
        have u1 : Own w3 B (.slice au nl cu) (lf ++ [(n : Int)]) := (T2.out.1).kept g1 T2.out.2.2
        have ap1 : (Value.slice au nl cu).ownBlock = none ∨ (Value.slice au nl cu).ownBlock ≠ v'.ownBlock := by
          rcases hat with hat | hat
          · rw [hat]; exact T2.out.2.2
          · refine .inr fun e => ?_
            rw [hat] at e
            have := (World.ownsRow.lt T2.out.1 _ e).2
            (try rw [World.size_alloc] at this)
            omega
        have p1 := P2.out.kept g1 (far_own T2.out.2.1 (by omega))
        have r1 := R2.out.kept g1 (far_own T2.out.2.1 (by omega))
        have G3 := Lib.hid (grown_own G2.out g1 (fun j hj => by have := (World.ownsRow.lt T2.out.2.1 j hj).1; omega))
        have S3 := Nat.le_trans S2 g1.size
        obtain ⟨av, cv, ev, _, _, _⟩ := o1.sl
        obtain ⟨ml, hml⟩ : ∃ k, (lb ++ [x]).length = k := ⟨_, rfl⟩
        rw [hml] at ev
        clear hml
        subst ev
        have d3 := p1.cell (i := 2) rfl
        have q3 := p1.frozen 2
        have P4 := Lib.hid (p1.put 2 (.slice av ml cv))
        have gs : w3.grownBy (w3.setCell ⟨g, 2, none⟩ (.slice av ml cv)) (some g) := grown_at (World.grownBy.refl w3 (some g)) 2 _
        have T4 : Hid (TwoOwn (w3.setCell ⟨g, 2, none⟩ (.slice av ml cv)) B (.slice au nl cu) (.slice av ml cv) (lf ++ [(n : Int)]) (lb ++ [x])) := Lib.hid ⟨u1.kept gs (.inr fun e => far_own u1 (by omega) e.symm), o1.kept gs (.inr fun e => far_own o1 (by omega) e.symm), ap1⟩
        have R4 := Lib.hid (r1.kept gs (by intro e; injection e with e; omega))
        have G4 := Lib.hid (grown_own G3.out gs (fun j hj => by injection hj with hj; omega))
        have S4 : B ≤ (w3.setCell ⟨g, 2, none⟩ (.slice av ml cv)).heap.size := by rw [size_set]; exact S3
        clear ho hg hat g1 o1 u1 ap1 p1 r1 gs T2 P2 R2 G2 S2 OB G3 S3 nx
        go_wp2_with fail
        go_roundw
        case rel => exact ⟨n + 1, by omega, by go_num, G4.out, S4, R4.out, _, _, P4.out, by rw [e2.out, e3.out]; exact T4.out⟩
        case measure => simp [intOf]; omega
    · obtain rfl : n = 8 := by omega
      have fr0 := R.out.frozen 0
      have fr1 := R.out.frozen 1
      have fr2 := R.out.frozen 2
      have k0 := R.out.cell (i := 0) rfl
      have k1 := R.out.cell (i := 1) rfl
      have k2 := R.out.cell (i := 2) rfl
      have c0 := P.out.cell (i := 0) rfl
      have T' := T
      obtain ⟨au, cu, eu, _, _, _⟩ := T.out.1.sl
      obtain ⟨av, cv, ev, _, _, _⟩ := T.out.2.1.sl
      generalize (Sp.ints (Sp.taken c 8)).length = nl at *
      generalize (Sp.nums c (Sp.taken c 8)).length = ml at *
      subst eu ev
      have G5 : Hid (w.grownBy (((wr.setCell ⟨r, 0, none⟩ (.int .i64 lost)).setCell ⟨r, 1, none⟩ (.slice au nl cu)).setCell ⟨r, 2, none⟩ (.slice av ml cv)) none) := Lib.hid (grown_set (grown_set (grown_set G.out BG.1 _) BG.1 _) BG.1 _)
      have R5 : Hid (Blk (((wr.setCell ⟨r, 0, none⟩ (.int .i64 lost)).setCell ⟨r, 1, none⟩ (.slice au nl cu)).setCell ⟨r, 2, none⟩ (.slice av ml cv)) r 35 [.int .i64 lost, .slice au nl cu, .slice av ml cv]) := Lib.hid (((R.out.put 0 (.int .i64 lost)).put 1 (.slice au nl cu)).put 2 (.slice av ml cv))
      have gs : wr.grownBy (((wr.setCell ⟨r, 0, none⟩ (.int .i64 lost)).setCell ⟨r, 1, none⟩ (.slice au nl cu)).setCell ⟨r, 2, none⟩ (.slice av ml cv)) (some r) := grown_at (grown_at (grown_at (World.grownBy.refl wr (some r)) 0 _) 1 _) 2 _
      have T5 : Hid (TwoOwn (((wr.setCell ⟨r, 0, none⟩ (.int .i64 lost)).setCell ⟨r, 1, none⟩ (.slice au nl cu)).setCell ⟨r, 2, none⟩ (.slice av ml cv)) w.heap.size (.slice au nl cu) (.slice av ml cv) (Sp.ints (Sp.taken c 8)) (Sp.nums c (Sp.taken c 8))) := Lib.hid (TwoOwn.lower ⟨T'.out.1.kept gs (.inr fun e => far_own T'.out.1 (by omega) e.symm), T'.out.2.1.kept gs (.inr fun e => far_own T'.out.2.1 (by omega) e.symm), T'.out.2.2⟩ BB)
      clear T gs
      go_wp2_with fail
      refine bodyPost_ret (v := .agg #[.int .i64 lost, .slice au nl cu, .slice av ml cv]) (results_cell_row rfl _ _ r _ _ _ _ rfl R5.out Try.underlying35 rfl (by kernel_rfl)) rfl ⟨_, _, rfl, G5.out, T5.out⟩
end Go.Proofs.Ytbpkfcaokbidnab
