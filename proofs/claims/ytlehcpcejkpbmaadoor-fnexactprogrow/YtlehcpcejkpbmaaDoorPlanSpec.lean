/-
  The model's plans: a plan of just these shards.
  Conditions: none.
-/
import Derived.Test.YtlehcpcejkpbmaaDoorPlanTop
import Derived.Test.YtlehcpcejkpbmaaDoorG3
import Derived.Test.YtlehcpcejkpbmaaDoorG4
namespace Go.Proofs.YtlehcpcejkpbmaaDoor
open Go.RowKit
set_option linter.unusedVariables false

/-- what a search leaves. -/
def FoundP (k lost : Nat) (q : Option (List Nat)) (w : World) (e : Ending) (w' : World) : Prop :=
  w.grownBy w' none ∧ ((∃ S c u v, q = some S ∧ Sp.PlanBy k lost S c ∧ e = .returned (.tuple #[.agg #[.int .i64 lost, u, v], .bool true]) ∧ TwoOwn w' w.heap.size u v (Sp.ints S) c) ∨
    (q = none ∧ e = .returned (.tuple #[.agg #[.int .i64 0, .slice none 0 0, .slice none 0 0], .bool false])))
theorem prow_snoc {k : Nat} {S : List Nat} {n : Nat} (hn : n < S.length) : Sp.prow k (S.take n) ++ [Sp.crow k (S.getD n 0)] = Sp.prow k (S.take (n + 1)) := by
  unfold Sp.prow
  rw [List.take_succ_eq_append_getElem hn, List.map_append]
  simp [List.getD_eq_getElem?_getD, hn]
theorem ints_get {S : List Nat} {n : Nat} (hn : n < S.length) : (Sp.ints S).getD n 0 = (S.getD n 0 : Nat) := by
  simp [Sp.ints, List.getD_eq_getElem?_getD, hn]
theorem getD_lt {S : List Nat} (h : ∀ i ∈ S, i < 8) (n : Nat) : S.getD n 0 < 8 := by
  rw [List.getD_eq_getElem?_getD]
  by_cases hn : n < S.length
  · rw [List.getElem?_eq_getElem hn]; exact h _ (List.getElem_mem hn)
  · rw [List.getElem?_eq_none (by omega)]; decide

set_option maxHeartbeats 4000000 in
set_option maxRecDepth 20000 in
theorem specL11Plan {k lost : Nat} (hk : k = 1 ∨ k = 2) (hl : lost < 8) (S : List Nat) (hS : ∀ i ∈ S, i < 8) (h1 : 1 ≤ S.length) (h4 : S.length ≤ 4) (v : Value) (w : World) (h : Sl w v (Sp.ints S)) :
    Calls Tryd.prog 95 #[.int .i64 k, .int .i64 lost, v] w (FoundP k lost (if Sp.can k lost S then some S else none) w) := by
  obtain ⟨i0, hi, hz0, hz1, hz2⟩ := info_parts infoInts
  have I1 := Lib.hid hi
  have I2 := Lib.hid hz0
  have I3 := Lib.hid hz1
  have I4 := Lib.hid hz2
  clear hi hz0 hz1 hz2
  obtain ⟨j0, hi, hz0, hz1, hz2⟩ := info_parts infoInt
  have J1 := Lib.hid hi
  have J2 := Lib.hid hz0
  have J3 := Lib.hid hz1
  have J4 := Lib.hid hz2
  clear hi hz0 hz1 hz2
  obtain ⟨a, cap, rfl, c1, c2, hr⟩ := h
  have NS : Hid ((Sp.ints S).length = S.length) := Lib.hid (ints_len S)
  rw [NS.out] at c1 ⊢
  obtain ⟨b, o, rfl, _⟩ := hr.at_ (k := 0) (by rw [NS.out]; omega)
  unfold maxLen at c2
  have R := Lib.hid hr
  have HS := Lib.hid hS
  have IG : Hid (∀ n, n < S.length → (Sp.ints S).getD n 0 = (S.getD n 0 : Nat)) := Lib.hid fun n hn => ints_get hn
  have PS : Hid (∀ n, n < S.length → Sp.prow k (S.take n) ++ [Sp.crow k (S.getD n 0)] = Sp.prow k (S.take (n + 1))) := Lib.hid fun n hn => prow_snoc hn
  have PA : Hid (Sp.prow k (S.take S.length) = Sp.prow k S) := Lib.hid (by rw [List.take_length])
  have PL : Hid (∀ n, n ≤ S.length → (Sp.prow k (S.take n)).length = n) := Lib.hid fun n hn => by rw [Sp.prow_len, List.length_take]; omega
  have PR := Lib.hid (Sp.prow_row hk hS)
  have PM := Lib.hid (Sp.prow_len k S)
  have RW := Lib.hid (fun (n : Nat) (h : n < 8) (w : World) => specL4Row hk h w)
  have RL := Lib.hid (fun (w : World) => specL4Row hk hl w)
  have CB := Lib.hid (fun (b : Bool) (c : List Int) hf ha => Sp.can_by hk hl hS (b := b) (c := c) hf ha)
  have CR := Lib.hid (Sp.crow_row hk hl)
  have FR : Hid (Sp.free (Sp.prow k S) = decide ((Sp.firsts Sp.has (Sp.prow k S)).length = (Sp.prow k S).length)) := Lib.hid rfl
  have CF : Hid (Sp.free (Sp.prow k S) = false → Sp.can k lost S = false) := Lib.hid (fun h => by unfold Sp.can; rw [h]; rfl)
  have FL : Hid ((Sp.firsts Sp.has (Sp.prow k S)).length ≤ (Sp.prow k S).length) := Lib.hid (by
    unfold Sp.firsts
    have := List.length_filter_le (fun i => !Sp.has ((Sp.prow k S).take i) ((Sp.prow k S).getD i [])) (List.range (Sp.prow k S).length)
    rwa [List.length_range] at this)
  obtain ⟨q, hq⟩ : ∃ q, (if Sp.can k lost S then some S else none) = q := ⟨_, rfl⟩
  rw [hq]
  have QY : Hid (Sp.can k lost S = true → q = some S) := Lib.hid (fun h => by rw [← hq, h]; rfl)
  have QN : Hid (Sp.can k lost S = false → q = none) := Lib.hid (fun h => by rw [← hq, h]; rfl)
  clear hr hS hq
  have R0 : Hid (Blk (w.alloc (.cells #[.int .i64 0, .slice none 0 0, .slice none 0 0] 25)) w.heap.size 25 [.int .i64 0, .slice none 0 0, .slice none 0 0]) := Lib.hid (heap_alloc_new _ _)
  have G0 := Lib.hid (grown_alloc (World.grownBy.refl w none) (.cells #[.int .i64 0, .slice none 0 0, .slice none 0 0] 25))
  go_enter Tryd.func95, Tryd.ntmps95
  go_upto_region 1 with fail
  have S0 : (w.alloc (.cells #[.int .i64 0, .slice none 0 0, .slice none 0 0] 25)).heap.size = w.heap.size + 1 := World.size_alloc _ _
  generalize w.alloc (.cells #[.int .i64 0, .slice none 0 0, .slice none 0 0] 25) = w0 at *
  obtain ⟨r, hr⟩ : ∃ r, r = w.heap.size := ⟨_, rfl⟩
  rw [← hr] at R0 S0 ⊢
  have RL1 : w.heap.size ≤ r := by omega
  clear hr
  have M0 := Lib.hid (STab.made w0 (r + 1) (by omega))
  have G1 := Lib.hid (grown_alloc G0.out (.cells #[] 23))
  have R1 := Lib.hid (R0.out.kept (World.grownBy_alloc w0 (.cells #[] 23) none) (by simp))
  have S1 : Hid (r + 1 ≤ (w0.alloc (.cells #[] 23)).heap.size) := Lib.hid (by rw [World.size_alloc]; omega)
  clear S0 R0 G0
  go_wp2_with fail
  go_loopw [8, 9] (fun p i wr => ∃ n : Nat, n ≤ S.length ∧ i = .int .i64 n ∧ w.grownBy wr none ∧ r + 1 ≤ wr.heap.size ∧ Blk wr r 25 [.int .i64 0, .slice none 0 0, .slice none 0 0] ∧ ∃ vs, STab wr (r + 1) p vs (Sp.prow k (S.take n))) (fun _ i _ => S.length - (intOf i).toNat)
  case atStart => exact ⟨0, by omega, rfl, G1.out, S1.out, R1.out, [], M0.out⟩
  case round =>
    obtain ⟨n, hn, rfl, hg, hsz, hrr, vs, ho⟩ := hrel
    have GR := Lib.hid hg
    have O := Lib.hid ho
    have RR := Lib.hid hrr
    clear hg ho hrr M0 G1 S1 R1
    by_cases hlt : n < S.length
    · have hlt' : (n : Int) < S.length := by omega
      obtain ⟨b', o', e', hx⟩ := (R.out.grown GR.out).at_ (k := n) (by rw [NS.out]; exact hlt)
      injection e' with e'
      injection e' with e1 e2
      subst e1 e2
      rw [IG.out n hlt] at hx
      have CK := Lib.hid (PS.out n hlt)
      have vl : vs.length ≤ 8 := by rw [O.out.len, PL.out n hn]; omega
      have hi8 : S.getD n 0 < 8 := getD_lt HS.out n
      have C4 := Lib.hid (Sp.crow_row hk hi8).1
      have RN := Lib.hid (RW.out _ hi8)
      generalize S.getD n 0 = sn at *
      generalize Sp.crow k sn = row at *
      go_wp2_with fail
      refine (RN.out _).mono ?_
      rintro e w3 ⟨u, rfl, hg, ho⟩
      have G3 := Lib.hid hg
      have R3 : Hid (Sl w3 u row ∧ IntRow w3 u) := Lib.hid ⟨ho.sl, ho.intRow⟩
      have TOP : Hid (w3.ownsRow (r + 1) 23 1 u8 vs.length vs) := Lib.hid (O.out.still hg).top
      have B3 := Lib.hid (RR.out.kept hg (by simp))
      obtain ⟨au, cu, eu, _, _, _⟩ := ho.sl
      rw [C4.out] at eu
      clear hg ho hx
      subst eu
      have s3 : r + 1 ≤ w3.heap.size := Nat.le_trans hsz G3.out.size
      go_wp2_with (first
        | (at_builtin; refine wpList_append_own _ rfl _ _ 94 rfl (r + 1) 23 i0 (.slice none 0 0) 1 24 Tryd.underlying94 I1.out I2.out I3.out I4.out rfl (by decide) _ _ _ rfl (World.ownsRow.alloc TOP.out _) ⟨w3.heap.size, 0, none⟩ 1 1 [.slice au 4 cu] rfl rfl (one_cell (g := 0)) (by simp [Value.oneCell']) ?c3 ?c4 ?c5 ?_))
      case c3 => unfold maxLen; omega
      case c4 => omega
      case c5 => simp; omega
      intro o' w5 ho2 hg2 _
      have N : Hid (STab w5 (r + 1) o' (vs ++ [.slice au 4 cu]) (Sp.prow k (S.take (n + 1)))) := Lib.hid (O.out.snoc G3.out R3.out (grown_trans (World.grownBy_alloc _ _ _) hg2) ho2 rfl CK.out)
      have g2 : w3.grownBy w5 u8.ownBlock := grown_trans (World.grownBy_alloc _ _ _) hg2
      have B5 := Lib.hid (B3.out.kept g2 (fun e => by have := (World.ownsRow.lt TOP.out r e.symm).1; omega))
      have G5 : Hid (w.grownBy w5 none) := Lib.hid (grown_own (grown_trans GR.out G3.out) g2 (fun j hj => by have := (World.ownsRow.lt TOP.out j hj).1; omega))
      have s5 : r + 1 ≤ w5.heap.size := Nat.le_trans s3 g2.size
      clear ho2 hg2 TOP R3 G3 B3 g2
      go_wp2_with fail
      go_roundw
      case rel => exact ⟨n + 1, by omega, by go_num, G5.out, s5, B5.out, _, N.out⟩
      case measure => simp [intOf]; omega
    · obtain rfl : n = S.length := by omega
      have O2 : Hid (STab wr (r + 1) u8 vs (Sp.prow k S)) := Lib.hid (by rw [← PA.out]; exact O.out)
      have T2 := Lib.hid O2.out.tab
      obtain ⟨ap, cp, ep, _, _, _⟩ := O2.out.tab.top
      rw [PM.out] at ep
      have L3 := Lib.hid (fun (w : World) (h : Tab w u8 vs (Sp.prow k S)) => specL3First u8 vs (Sp.prow k S) w h PR.out (by rw [PM.out]; omega))
      have B3 := Lib.hid (fun (w : World) (vv : Value) (h : Tab w u8 vs (Sp.prow k S)) (hv : Sl w vv (Sp.crow k lost)) => specL3By u8 vv vs (Sp.prow k S) (Sp.crow k lost) w h PR.out (by rw [PM.out]; omega) hv CR.out)
      have FRE : Hid (Sp.free (Sp.prow k S) = true ↔ (Sp.firsts Sp.has (Sp.prow k S)).length = S.length) := Lib.hid (by rw [FR.out, PM.out, decide_eq_true_eq])
      have FLE : (Sp.firsts Sp.has (Sp.prow k S)).length ≤ S.length := by have := FL.out; rwa [PM.out] at this
      have fm : ((Sp.firsts Sp.has (Sp.prow k S)).map fun (i : Nat) => (i : Int)).length = (Sp.firsts Sp.has (Sp.prow k S)).length := List.length_map _
      have CRL := Lib.hid CR.out.1
      clear O PS PA PL IG RW FR FL O2 hn hlt
      generalize Sp.crow k lost = row at *
      generalize Sp.prow k S = M at *
      generalize ((Sp.firsts Sp.has M).map fun (i : Nat) => (i : Int)) = fi at *
      generalize (Sp.firsts Sp.has M).length = nf at *
      subst ep
      go_wp2_with fail
      refine (L3.out _ T2.out).mono ?_
      rintro e w3 ⟨u, rfl, hg, ho⟩
      obtain ⟨au, cu, eu, _, _, _⟩ := ho.sl
      rw [fm] at eu
      subst eu
      have G3 := Lib.hid (grown_trans GR.out hg)
      have RR3 := Lib.hid (RR.out.kept hg (by simp))
      have T3 := Lib.hid (T2.out.grown hg)
      have SL3 := Lib.hid (R.out.grown G3.out)
      have s3 : r + 1 ≤ w3.heap.size := Nat.le_trans hsz hg.size
      clear hg ho GR RR T2 L3 fm
      have k0 := RR3.out.cell (i := 0) rfl
      have k1 := RR3.out.cell (i := 1) rfl
      have k2 := RR3.out.cell (i := 2) rfl
      have f0 := RR3.out.frozen 0
      have f1 := RR3.out.frozen 1
      have f2 := RR3.out.frozen 2
      have R7 : Hid (Blk (((w3.setCell ⟨r, 0, none⟩ (.int .i64 0)).setCell ⟨r, 1, none⟩ (.slice none 0 0)).setCell ⟨r, 2, none⟩ (.slice none 0 0)) r 25 [.int .i64 0, .slice none 0 0, .slice none 0 0]) := Lib.hid (((RR3.out.put 0 (.int .i64 0)).put 1 (.slice none 0 0)).put 2 (.slice none 0 0))
      have G7 : Hid (w.grownBy (((w3.setCell ⟨r, 0, none⟩ (.int .i64 0)).setCell ⟨r, 1, none⟩ (.slice none 0 0)).setCell ⟨r, 2, none⟩ (.slice none 0 0)) none) := Lib.hid (grown_set (grown_set (grown_set G3.out RL1 _) RL1 _) RL1 _)
      by_cases hfree : nf < S.length
      · have NO : Hid (q = none) := Lib.hid (QN.out (CF.out (by
          cases hh : Sp.free M with
          | false => rfl
          | true => have := FRE.out.1 hh; omega)))
        have hf' : (nf : Int) < S.length := by omega
        clear FRE
        go_wp2_with fail
        exact bodyPost_ret (v := .tuple #[.agg #[.int .i64 0, .slice none 0 0, .slice none 0 0], .bool false]) (results_row_slot Tryd.results95 _ _ r _ _ _ _ _ rfl rfl R7.out Tryd.underlying25 rfl (by kernel_rfl)) rfl ⟨G7.out, .inr ⟨NO.out, rfl⟩⟩
      · obtain rfl : nf = S.length := by omega
        have FF := Lib.hid (FRE.out.2 rfl)
        clear FRE R7 G7 hfree FLE
        go_wp2_with fail
        refine (RL.out _).mono ?_
        rintro e w4 ⟨x, rfl, hg, ho⟩
        have G4 := Lib.hid (grown_trans G3.out hg)
        have RR4 := Lib.hid (RR3.out.kept hg (by simp))
        have T4 := Lib.hid (T3.out.grown hg)
        have X4 := Lib.hid ho.sl
        obtain ⟨ax, cx, ex, _, _, _⟩ := ho.sl
        rw [CRL.out] at ex
        subst ex
        have s4 : r + 1 ≤ w4.heap.size := Nat.le_trans s3 hg.size
        clear hg ho G3 RR3 T3 SL3 k0 k1 k2 f0 f1 f2
        go_wp2_with fail
        refine (B3.out _ _ T4.out X4.out).mono ?_
        rintro e w5 ⟨bb, c, hans, y, rfl, hg, ho⟩
        have CA := Lib.hid (CB.out bb c FF.out hans)
        have G5 := Lib.hid (grown_trans G4.out hg)
        have RR5 := Lib.hid (RR4.out.kept hg (by simp))
        have Y5 := Lib.hid ho
        have s5 : r + 1 ≤ w5.heap.size := Nat.le_trans s4 hg.size
        obtain ⟨ay, cy, ey, _, _, _⟩ := ho.sl
        generalize c.length = nc at *
        subst ey
        have SL5 := Lib.hid (R.out.grown G5.out)
        clear hg ho hans G4 RR4 T4 X4 B3 CB FF
        have k0 := RR5.out.cell (i := 0) rfl
        have k1 := RR5.out.cell (i := 1) rfl
        have k2 := RR5.out.cell (i := 2) rfl
        have f0 := RR5.out.frozen 0
        have f1 := RR5.out.frozen 1
        have f2 := RR5.out.frozen 2
        cases bb with
        | false =>
          have R7 : Hid (Blk (((w5.setCell ⟨r, 0, none⟩ (.int .i64 0)).setCell ⟨r, 1, none⟩ (.slice none 0 0)).setCell ⟨r, 2, none⟩ (.slice none 0 0)) r 25 [.int .i64 0, .slice none 0 0, .slice none 0 0]) := Lib.hid (((RR5.out.put 0 (.int .i64 0)).put 1 (.slice none 0 0)).put 2 (.slice none 0 0))
          have G7 : Hid (w.grownBy (((w5.setCell ⟨r, 0, none⟩ (.int .i64 0)).setCell ⟨r, 1, none⟩ (.slice none 0 0)).setCell ⟨r, 2, none⟩ (.slice none 0 0)) none) := Lib.hid (grown_set (grown_set (grown_set G5.out RL1 _) RL1 _) RL1 _)
          have NO : Hid (q = none) := Lib.hid (QN.out CA.out.1.symm)
          clear CA
          go_wp2_with fail
          exact bodyPost_ret (v := .tuple #[.agg #[.int .i64 0, .slice none 0 0, .slice none 0 0], .bool false]) (results_row_slot Tryd.results95 _ _ r _ _ _ _ _ rfl rfl R7.out Tryd.underlying25 rfl (by kernel_rfl)) rfl ⟨G7.out, .inr ⟨NO.out, rfl⟩⟩
        | true =>
          have YES : Hid (q = some S) := Lib.hid (QY.out CA.out.1.symm)
          have PB : Hid (Sp.PlanBy k lost S c) := Lib.hid (CA.out.2 rfl)
          have O0 : Hid (Own (w5.alloc (.cells #[] 3)) w5.heap.size (.slice (some ⟨w5.heap.size, 0, none⟩) 0 0) []) := Lib.hid (Own.made w5 w5.heap.size [] (Nat.le_refl _) (by simp))
          have N0 := Lib.hid (Rds.news (SL5.out.grown (World.grownBy_alloc w5 (.cells #[] 3) none)))
          have vl5 : (vals (Sp.ints S)).length = S.length * 1 := by rw [vals_length, NS.out, Nat.mul_one]
          clear CA QY QN CF
          go_wp2_with (first
            | (at_builtin; refine wpList_append_own _ rfl _ _ 23 rfl w5.heap.size 3 j0 (.int .i64 0) 1 8 Tryd.underlying23 J1.out J2.out J3.out J4.out rfl (by decide) _ _ _ rfl O0.out ⟨b, o, none⟩ S.length cap (vals (Sp.ints S)) rfl vl5 N0.out (vals_one _) ?d3 ?d4 ?d5 ?_))
          case d3 => simp [maxLen]; omega
          case d4 => simp; omega
          case d5 => simp
          intro xb w7 ho hg _
          have G7 : Hid (w5.grownBy w7 none) := Lib.hid (grown_own (grown_alloc (World.grownBy.refl _ _) _) hg (fun j hj => (World.ownsRow.lt O0.out j hj).1))
          have O7 : Own w7 w5.heap.size xb (Sp.ints S) := by
            unfold Own
            rw [NS.out]
            simpa [vals] using ho
          have ap7 : xb.ownBlock = none ∨ xb.ownBlock ≠ (Value.slice ay nc cy).ownBlock := by
            cases hb : xb.ownBlock with
            | none => exact .inl rfl
            | some j =>
              refine .inr fun e => ?_
              have h1 := (World.ownsRow.lt O7 j hb).1
              have h2 := (World.ownsRow.lt Y5.out j e.symm).2
              omega
          have T8 : Hid (TwoOwn w7 (r + 1) xb (.slice ay nc cy) (Sp.ints S) c) := Lib.hid ⟨O7.lower s5, (Y5.out.still G7.out).lower s4, ap7⟩
          have R8 := Lib.hid (RR5.out.kept G7.out (by simp))
          have G8 := Lib.hid (grown_trans G5.out G7.out)
          obtain ⟨ax', cx', ex', _, _, _⟩ := O7.sl
          rw [NS.out] at ex'
          subst ex'
          clear ho hg O7 ap7 O0 N0 vl5 k0 k1 k2 f0 f1 f2 RR5 G5 G7 SL5 Y5
          have k0 := R8.out.cell (i := 0) rfl
          have k1 := R8.out.cell (i := 1) rfl
          have k2 := R8.out.cell (i := 2) rfl
          have f0 := R8.out.frozen 0
          have f1 := R8.out.frozen 1
          have f2 := R8.out.frozen 2
          have gs : w7.grownBy (((w7.setCell ⟨r, 0, none⟩ (.int .i64 lost)).setCell ⟨r, 1, none⟩ (.slice ax' S.length cx')).setCell ⟨r, 2, none⟩ (.slice ay nc cy)) (some r) := grown_at (grown_at (grown_at (World.grownBy.refl w7 (some r)) 0 _) 1 _) 2 _
          have R9 : Hid (Blk (((w7.setCell ⟨r, 0, none⟩ (.int .i64 lost)).setCell ⟨r, 1, none⟩ (.slice ax' S.length cx')).setCell ⟨r, 2, none⟩ (.slice ay nc cy)) r 25 [.int .i64 lost, .slice ax' S.length cx', .slice ay nc cy]) := Lib.hid (((R8.out.put 0 (.int .i64 lost)).put 1 (.slice ax' S.length cx')).put 2 (.slice ay nc cy))
          have T9 : Hid (TwoOwn (((w7.setCell ⟨r, 0, none⟩ (.int .i64 lost)).setCell ⟨r, 1, none⟩ (.slice ax' S.length cx')).setCell ⟨r, 2, none⟩ (.slice ay nc cy)) w.heap.size (.slice ax' S.length cx') (.slice ay nc cy) (Sp.ints S) c) := Lib.hid (TwoOwn.lower ⟨T8.out.1.kept gs (.inr fun e => far_own T8.out.1 (by omega) e.symm), T8.out.2.1.kept gs (.inr fun e => far_own T8.out.2.1 (by omega) e.symm), T8.out.2.2⟩ (by omega))
          have G9 : Hid (w.grownBy (((w7.setCell ⟨r, 0, none⟩ (.int .i64 lost)).setCell ⟨r, 1, none⟩ (.slice ax' S.length cx')).setCell ⟨r, 2, none⟩ (.slice ay nc cy)) none) := Lib.hid (grown_set (grown_set (grown_set G8.out RL1 _) RL1 _) RL1 _)
          clear gs T8 R8 G8
          go_wp2_with fail
          exact bodyPost_ret (v := .tuple #[.agg #[.int .i64 lost, .slice ax' S.length cx', .slice ay nc cy], .bool true]) (results_row_slot Tryd.results95 _ _ r _ _ _ _ _ rfl rfl R9.out Tryd.underlying25 rfl (by kernel_rfl)) rfl ⟨G9.out, .inl ⟨S, c, _, _, YES.out, PB.out, rfl, T9.out⟩⟩
end Go.Proofs.YtlehcpcejkpbmaaDoor
