/-
  What this claim wants of the texts of earlier chapters.
  Conditions: none.
-/
import Derived.Test.YthglkgicckodaaaZP2
import Derived.Test.YthglkgicckodaaaZG3
import Derived.Test.YthglkgicckodaaaZG4
namespace Go.Proofs.Ythglkgicckodaaa
open Go.RowKit
set_option linter.unusedVariables false
def FoundP (k lost : Nat) (q : Option (List Nat)) (w : World) (e : Ending) (w' : World) : Prop :=
  w.grownBy w' none ∧ ((∃ S c u v, q = some S ∧ Sp.PlanBy k lost S c ∧ e = .returned (.tuple #[.agg #[.int .i64 lost, u, v], .bool true]) ∧ TwoOwn w' w.heap.size u v (Sp.ints S) c) ∨
    (q = none ∧ e = .returned (.tuple #[.agg #[.int .i64 0, .slice none 0 0, .slice none 0 0], .bool false])))
theorem prow_snoc {k : Nat} {S : List Nat} {n : Nat} (hn : n < S.length) : Sp.prow k (S.take n) ++ [Sp.crow k (S.getD n 0)] = Sp.prow k (S.take (n + 1)) := by
  unfold Sp.prow
  rw [List.take_succ_eq_append_getElem hn, List.map_append]
  simp [List.getD_eq_getElem?_getD, hn]
theorem ints_getP {S : List Nat} {n : Nat} (hn : n < S.length) : (Sp.ints S).getD n 0 = (S.getD n 0 : Nat) := by
  simp [Sp.ints, List.getD_eq_getElem?_getD, hn]
theorem getD_lt {S : List Nat} (h : ∀ i ∈ S, i < 8) (n : Nat) : S.getD n 0 < 8 := by
  rw [List.getD_eq_getElem?_getD]
  by_cases hn : n < S.length
  · rw [List.getElem?_eq_getElem hn]; exact h _ (List.getElem_mem hn)
  · rw [List.getElem?_eq_none (by omega)]; decide
set_option maxHeartbeats 4000000 in
set_option maxRecDepth 20000 in
theorem specL11Plan {k lost : Nat} (hk : k = 1 ∨ k = 2) (hl : lost < 8) (S : List Nat) (hS : ∀ i ∈ S, i < 8) (h1 : 1 ≤ S.length) (h4 : S.length ≤ 4) (v : Value) (w : World) (h : Sl w v (Sp.ints S)) :
    Calls Try.prog 115 #[.int .i64 k, .int .i64 lost, v] w (FoundP k lost (if Sp.can k lost S then some S else none) w) := by
  obtain ⟨i0, hi, hz0, hz1, hz2⟩ := info_parts infoInts
  have I1 := Lib.hid hi
  have I2 := Lib.hid hz0
  have I3 := Lib.hid hz1
  have I4 := Lib.hid hz2
  clear hi hz0 hz1 hz2
  obtain ⟨j0, hi, hz0, hz1, hz2⟩ := info_parts infoInt
  have J1 := Lib.hid hi
  have J2 := Lib.hid hz0
  have J3 := Lib.hid hz1
  have J4 := Lib.hid hz2
  clear hi hz0 hz1 hz2
  obtain ⟨a, cap, rfl, c1, c2, hr⟩ := h
  have NS : Hid ((Sp.ints S).length = S.length) := Lib.hid (ints_lenP S)
  rw [NS.out] at c1 ⊢
  obtain ⟨b, o, rfl, _⟩ := hr.at_ (k := 0) (by rw [NS.out]; omega)
  unfold maxLen at c2
  have R := Lib.hid hr
  have HS := Lib.hid hS
  have IG : Hid (∀ n, n < S.length → (Sp.ints S).getD n 0 = (S.getD n 0 : Nat)) := Lib.hid fun n hn => ints_getP hn
  have PS : Hid (∀ n, n < S.length → Sp.prow k (S.take n) ++ [Sp.crow k (S.getD n 0)] = Sp.prow k (S.take (n + 1))) := Lib.hid fun n hn => prow_snoc hn
  have PA : Hid (Sp.prow k (S.take S.length) = Sp.prow k S) := Lib.hid (by rw [List.take_length])
  have PL : Hid (∀ n, n ≤ S.length → (Sp.prow k (S.take n)).length = n) := Lib.hid fun n hn => by rw [Sp.prow_len, List.length_take]; omega
  have PR := Lib.hid (Sp.prow_row hk hS)
  have PM := Lib.hid (Sp.prow_len k S)
  have RW := Lib.hid (fun (n : Nat) (h : n < 8) (w : World) => specL4Row hk h w)
  have RL := Lib.hid (fun (w : World) => specL4Row hk hl w)
  have CB := Lib.hid (fun (b : Bool) (c : List Int) hf ha => Sp.can_by hk hl hS (b := b) (c := c) hf ha)
  have CR := Lib.hid (Sp.crow_row hk hl)
  have FR : Hid (Sp.free (Sp.prow k S) = decide ((Sp.firsts Sp.has (Sp.prow k S)).length = (Sp.prow k S).length)) := Lib.hid rfl
  have CF : Hid (Sp.free (Sp.prow k S) = false → Sp.can k lost S = false) := Lib.hid (fun h => by unfold Sp.can; rw [h]; rfl)
  have FL : Hid ((Sp.firsts Sp.has (Sp.prow k S)).length ≤ (Sp.prow k S).length) := Lib.hid (by
    unfold Sp.firsts
    have := List.length_filter_le (fun i => !Sp.has ((Sp.prow k S).take i) ((Sp.prow k S).getD i [])) (List.range (Sp.prow k S).length)
    rwa [List.length_range] at this)
  obtain ⟨q, hq⟩ : ∃ q, (if Sp.can k lost S then some S else none) = q := ⟨_, rfl⟩
  rw [hq]
  have QY : Hid (Sp.can k lost S = true → q = some S) := Lib.hid (fun h => by rw [← hq, h]; rfl)
  have QN : Hid (Sp.can k lost S = false → q = none) := Lib.hid (fun h => by rw [← hq, h]; rfl)
  clear hr hS hq
  have R0 : Hid (Blk (w.alloc (.cells #[.int .i64 0, .slice none 0 0, .slice none 0 0] 110)) w.heap.size 110 [.int .i64 0, .slice none 0 0, .slice none 0 0]) := Lib.hid (heap_alloc_new _ _)
  have G0 := Lib.hid (grown_alloc (World.grownBy.refl w none) (.cells #[.int .i64 0, .slice none 0 0, .slice none 0 0] 110))
  go_enter Try.func115, Try.ntmps115
  go_upto_region 1 with fail
  have S0 : (w.alloc (.cells #[.int .i64 0, .slice none 0 0, .slice none 0 0] 110)).heap.size = w.heap.size + 1 := World.size_alloc _ _
  generalize w.alloc (.cells #[.int .i64 0, .slice none 0 0, .slice none 0 0] 110) = w0 at *
  obtain ⟨r, hr⟩ : ∃ r, r = w.heap.size := ⟨_, rfl⟩
  rw [← hr] at R0 S0 ⊢
  have RL1 : w.heap.size ≤ r := by omega
  clear hr
  have M0 := Lib.hid (STab.made w0 (r + 1) (by omega))
  have G1 := Lib.hid (grown_alloc G0.out (.cells #[] 23))
  have R1 := Lib.hid (R0.out.kept (World.grownBy_alloc w0 (.cells #[] 23) none) (by simp))
  have S1 : Hid (r + 1 ≤ (w0.alloc (.cells #[] 23)).heap.size) := Lib.hid (by rw [World.size_alloc]; omega)
  clear S0 R0 G0
  go_wp2_with fail
  go_loopw [8, 9] (fun p i wr => ∃ n : Nat, n ≤ S.length ∧ i = .int .i64 n ∧ w.grownBy wr none ∧ r + 1 ≤ wr.heap.size ∧ Blk wr r 110 [.int .i64 0, .slice none 0 0, .slice none 0 0] ∧ ∃ vs, STab wr (r + 1) p vs (Sp.prow k (S.take n))) (fun _ i _ => S.length - (intOf i).toNat)
  case atStart => exact ⟨0, by omega, rfl, G1.out, S1.out, R1.out, [], M0.out⟩
  case round =>
    obtain ⟨n, hn, rfl, hg, hsz, hrr, vs, ho⟩ := hrel
    have GR := Lib.hid hg
    have O := Lib.hid ho
    have RR := Lib.hid hrr
    clear hg ho hrr M0 G1 S1 R1
    by_cases hlt : n < S.length
    · have hlt' : (n : Int) < S.length := by omega
      obtain ⟨b', o', e', hx⟩ := (R.out.grown GR.out).at_ (k := n) (by rw [NS.out]; exact hlt)
      injection e' with e'
      injection e' with e1 e2
      subst e1 e2
      rw [IG.out n hlt] at hx
      have CK := Lib.hid (PS.out n hlt)
      have vl : vs.length ≤ 8 := by rw [O.out.len, PL.out n hn]; omega
      have hi8 : S.getD n 0 < 8 := getD_lt HS.out n
      have C4 := Lib.hid (Sp.crow_row hk hi8).1
      have RN := Lib.hid (RW.out _ hi8)
      generalize S.getD n 0 = sn at *
      generalize Sp.crow k sn = row at *
      go_wp2_with fail
      refine (RN.out _).mono ?_
      rintro e w3 ⟨u, rfl, hg, ho⟩
      have G3 := Lib.hid hg
      have R3 : Hid (Sl w3 u row ∧ IntRow w3 u) := Lib.hid ⟨ho.sl, ho.intRow⟩
      have TOP : Hid (w3.ownsRow (r + 1) 23 1 u8 vs.length vs) := Lib.hid (O.out.still hg).top
      have B3 := Lib.hid (RR.out.kept hg (by simp))
      obtain ⟨au, cu, eu, _, _, _⟩ := ho.sl
      rw [C4.out] at eu
      clear hg ho hx
      subst eu
      have s3 : r + 1 ≤ w3.heap.size := Nat.le_trans hsz G3.out.size
      go_wp2_with (first
        | (at_builtin; refine wpList_append_own _ rfl _ _ 126 rfl (r + 1) 23 i0 (.slice none 0 0) 1 24 Try.underlying126 I1.out I2.out I3.out I4.out rfl (by decide) _ _ _ rfl (World.ownsRow.alloc TOP.out _) ⟨w3.heap.size, 0, none⟩ 1 1 [.slice au 4 cu] rfl rfl (one_cell (g := 0)) (by simp [Value.oneCell']) ?c3 ?c4 ?c5 ?_))
      case c3 => unfold maxLen; omega
      case c4 => omega
      case c5 => simp; omega
      intro o' w5 ho2 hg2 _
      have N : Hid (STab w5 (r + 1) o' (vs ++ [.slice au 4 cu]) (Sp.prow k (S.take (n + 1)))) := Lib.hid (O.out.snoc G3.out R3.out (grown_trans (World.grownBy_alloc _ _ _) hg2) ho2 rfl CK.out)
      have g2 : w3.grownBy w5 u8.ownBlock := grown_trans (World.grownBy_alloc _ _ _) hg2
      have B5 := Lib.hid (B3.out.kept g2 (fun e => by have := (World.ownsRow.lt TOP.out r e.symm).1; omega))
      have G5 : Hid (w.grownBy w5 none) := Lib.hid (grown_own (grown_trans GR.out G3.out) g2 (fun j hj => by have := (World.ownsRow.lt TOP.out j hj).1; omega))
      have s5 : r + 1 ≤ w5.heap.size := Nat.le_trans s3 g2.size
      clear ho2 hg2 TOP R3 G3 B3 g2
      go_wp2_with fail
      go_roundw
      case rel => exact ⟨n + 1, by omega, by go_num, G5.out, s5, B5.out, _, N.out⟩
      case measure => simp [intOf]; omega
    · obtain rfl : n = S.length := by omega
      have O2 : Hid (STab wr (r + 1) u8 vs (Sp.prow k S)) := Lib.hid (by rw [← PA.out]; exact O.out)
      have T2 := Lib.hid O2.out.tab
      obtain ⟨ap, cp, ep, _, _, _⟩ := O2.out.tab.top
      rw [PM.out] at ep
      have L3 := Lib.hid (fun (w : World) (h : Tab w u8 vs (Sp.prow k S)) => specL3First u8 vs (Sp.prow k S) w h PR.out (by rw [PM.out]; omega))
      have B3 := Lib.hid (fun (w : World) (vv : Value) (h : Tab w u8 vs (Sp.prow k S)) (hv : Sl w vv (Sp.crow k lost)) => specL3By u8 vv vs (Sp.prow k S) (Sp.crow k lost) w h PR.out (by rw [PM.out]; omega) hv CR.out)
      have FRE : Hid (Sp.free (Sp.prow k S) = true ↔ (Sp.firsts Sp.has (Sp.prow k S)).length = S.length) := Lib.hid (by rw [FR.out, PM.out, decide_eq_true_eq])
      have FLE : (Sp.firsts Sp.has (Sp.prow k S)).length ≤ S.length := by have := FL.out; rwa [PM.out] at this
      have fm : ((Sp.firsts Sp.has (Sp.prow k S)).map fun (i : Nat) => (i : Int)).length = (Sp.firsts Sp.has (Sp.prow k S)).length := List.length_map _
      have CRL := Lib.hid CR.out.1
      clear O PS PA PL IG RW FR FL O2 hn hlt
      generalize Sp.crow k lost = row at *
      generalize Sp.prow k S = M at *
      generalize ((Sp.firsts Sp.has M).map fun (i : Nat) => (i : Int)) = fi at *
      generalize (Sp.firsts Sp.has M).length = nf at *
      subst ep
      go_wp2_with fail
      refine (L3.out _ T2.out).mono ?_
      rintro e w3 ⟨u, rfl, hg, ho⟩
      obtain ⟨au, cu, eu, _, _, _⟩ := ho.sl
      rw [fm] at eu
      subst eu
      have G3 := Lib.hid (grown_trans GR.out hg)
      have RR3 := Lib.hid (RR.out.kept hg (by simp))
      have T3 := Lib.hid (T2.out.grown hg)
      have SL3 := Lib.hid (R.out.grown G3.out)
      have s3 : r + 1 ≤ w3.heap.size := Nat.le_trans hsz hg.size
      clear hg ho GR RR T2 L3 fm
      have k0 := RR3.out.cell (i := 0) rfl
      have k1 := RR3.out.cell (i := 1) rfl
      have k2 := RR3.out.cell (i := 2) rfl
      have f0 := RR3.out.frozen 0
      have f1 := RR3.out.frozen 1
      have f2 := RR3.out.frozen 2
      have R7 : Hid (Blk (((w3.setCell ⟨r, 0, none⟩ (.int .i64 0)).setCell ⟨r, 1, none⟩ (.slice none 0 0)).setCell ⟨r, 2, none⟩ (.slice none 0 0)) r 110 [.int .i64 0, .slice none 0 0, .slice none 0 0]) := Lib.hid (((RR3.out.put 0 (.int .i64 0)).put 1 (.slice none 0 0)).put 2 (.slice none 0 0))
      have G7 : Hid (w.grownBy (((w3.setCell ⟨r, 0, none⟩ (.int .i64 0)).setCell ⟨r, 1, none⟩ (.slice none 0 0)).setCell ⟨r, 2, none⟩ (.slice none 0 0)) none) := Lib.hid (grown_set (grown_set (grown_set G3.out RL1 _) RL1 _) RL1 _)
      by_cases hfree : nf < S.length
      · have NO : Hid (q = none) := Lib.hid (QN.out (CF.out (by
          cases hh : Sp.free M with
          | false => rfl
          | true => have := FRE.out.1 hh; omega)))
        have hf' : (nf : Int) < S.length := by omega
        clear FRE
        go_wp2_with fail
        exact bodyPost_ret (v := .tuple #[.agg #[.int .i64 0, .slice none 0 0, .slice none 0 0], .bool false]) (results_row_slot Try.results115 _ _ r _ _ _ _ _ rfl rfl R7.out Try.underlying110 rfl (by kernel_rfl)) rfl ⟨G7.out, .inr ⟨NO.out, rfl⟩⟩
      · obtain rfl : nf = S.length := by omega
        have FF := Lib.hid (FRE.out.2 rfl)
        clear FRE R7 G7 hfree FLE
        go_wp2_with fail
        refine (RL.out _).mono ?_
        rintro e w4 ⟨x, rfl, hg, ho⟩
        have G4 := Lib.hid (grown_trans G3.out hg)
        have RR4 := Lib.hid (RR3.out.kept hg (by simp))
        have T4 := Lib.hid (T3.out.grown hg)
        have X4 := Lib.hid ho.sl
        obtain ⟨ax, cx, ex, _, _, _⟩ := ho.sl
        rw [CRL.out] at ex
        subst ex
        have s4 : r + 1 ≤ w4.heap.size := Nat.le_trans s3 hg.size
        clear hg ho G3 RR3 T3 SL3 k0 k1 k2 f0 f1 f2
        go_wp2_with fail
        refine (B3.out _ _ T4.out X4.out).mono ?_
        rintro e w5 ⟨bb, c, hans, y, rfl, hg, ho⟩
        have CA := Lib.hid (CB.out bb c FF.out hans)
        have G5 := Lib.hid (grown_trans G4.out hg)
        have RR5 := Lib.hid (RR4.out.kept hg (by simp))
        have Y5 := Lib.hid ho
        have s5 : r + 1 ≤ w5.heap.size := Nat.le_trans s4 hg.size
        obtain ⟨ay, cy, ey, _, _, _⟩ := ho.sl
        generalize c.length = nc at *
        subst ey
        have SL5 := Lib.hid (R.out.grown G5.out)
        clear hg ho hans G4 RR4 T4 X4 B3 CB FF
        have k0 := RR5.out.cell (i := 0) rfl
        have k1 := RR5.out.cell (i := 1) rfl
        have k2 := RR5.out.cell (i := 2) rfl
        have f0 := RR5.out.frozen 0
        have f1 := RR5.out.frozen 1
        have f2 := RR5.out.frozen 2
        cases bb with
        | false =>
          have R7 : Hid (Blk (((w5.setCell ⟨r, 0, none⟩ (.int .i64 0)).setCell ⟨r, 1, none⟩ (.slice none 0 0)).setCell ⟨r, 2, none⟩ (.slice none 0 0)) r 110 [.int .i64 0, .slice none 0 0, .slice none 0 0]) := Lib.hid (((RR5.out.put 0 (.int .i64 0)).put 1 (.slice none 0 0)).put 2 (.slice none 0 0))
          have G7 : Hid (w.grownBy (((w5.setCell ⟨r, 0, none⟩ (.int .i64 0)).setCell ⟨r, 1, none⟩ (.slice none 0 0)).setCell ⟨r, 2, none⟩ (.slice none 0 0)) none) := Lib.hid (grown_set (grown_set (grown_set G5.out RL1 _) RL1 _) RL1 _)
          have NO : Hid (q = none) := Lib.hid (QN.out CA.out.1.symm)
          clear CA
          go_wp2_with fail
          exact bodyPost_ret (v := .tuple #[.agg #[.int .i64 0, .slice none 0 0, .slice none 0 0], .bool false]) (results_row_slot Try.results115 _ _ r _ _ _ _ _ rfl rfl R7.out Try.underlying110 rfl (by kernel_rfl)) rfl ⟨G7.out, .inr ⟨NO.out, rfl⟩⟩
        | true =>
          have YES : Hid (q = some S) := Lib.hid (QY.out CA.out.1.symm)
          have PB : Hid (Sp.PlanBy k lost S c) := Lib.hid (CA.out.2 rfl)
          have O0 : Hid (Own (w5.alloc (.cells #[] 3)) w5.heap.size (.slice (some ⟨w5.heap.size, 0, none⟩) 0 0) []) := Lib.hid (Own.made w5 w5.heap.size [] (Nat.le_refl _) (by simp))
          have N0 := Lib.hid (Rds.news (SL5.out.grown (World.grownBy_alloc w5 (.cells #[] 3) none)))
          have vl5 : (vals (Sp.ints S)).length = S.length * 1 := by rw [vals_length, NS.out, Nat.mul_one]
          clear CA QY QN CF
          go_wp2_with (first
            | (at_builtin; refine wpList_append_own _ rfl _ _ 23 rfl w5.heap.size 3 j0 (.int .i64 0) 1 8 Try.underlying23 J1.out J2.out J3.out J4.out rfl (by decide) _ _ _ rfl O0.out ⟨b, o, none⟩ S.length cap (vals (Sp.ints S)) rfl vl5 N0.out (vals_one _) ?d3 ?d4 ?d5 ?_))
          case d3 => simp [maxLen]; omega
          case d4 => simp; omega
          case d5 => simp
          intro xb w7 ho hg _
          have G7 : Hid (w5.grownBy w7 none) := Lib.hid (grown_own (grown_alloc (World.grownBy.refl _ _) _) hg (fun j hj => (World.ownsRow.lt O0.out j hj).1))
          have O7 : Own w7 w5.heap.size xb (Sp.ints S) := by
            unfold Own
            rw [NS.out]
            simpa [vals] using ho
          have ap7 : xb.ownBlock = none ∨ xb.ownBlock ≠ (Value.slice ay nc cy).ownBlock := by
            cases hb : xb.ownBlock with
            | none => exact .inl rfl
            | some j =>
              refine .inr fun e => ?_
              have h1 := (World.ownsRow.lt O7 j hb).1
              have h2 := (World.ownsRow.lt Y5.out j e.symm).2
              omega
          have T8 : Hid (TwoOwn w7 (r + 1) xb (.slice ay nc cy) (Sp.ints S) c) := Lib.hid ⟨O7.lower s5, (Y5.out.still G7.out).lower s4, ap7⟩
          have R8 := Lib.hid (RR5.out.kept G7.out (by simp))
          have G8 := Lib.hid (grown_trans G5.out G7.out)
          obtain ⟨ax', cx', ex', _, _, _⟩ := O7.sl
          rw [NS.out] at ex'
          subst ex'
          clear ho hg O7 ap7 O0 N0 vl5 k0 k1 k2 f0 f1 f2 RR5 G5 G7 SL5 Y5
          have k0 := R8.out.cell (i := 0) rfl
          have k1 := R8.out.cell (i := 1) rfl
          have k2 := R8.out.cell (i := 2) rfl
          have f0 := R8.out.frozen 0
          have f1 := R8.out.frozen 1
          have f2 := R8.out.frozen 2
          have gs : w7.grownBy (((w7.setCell ⟨r, 0, none⟩ (.int .i64 lost)).setCell ⟨r, 1, none⟩ (.slice ax' S.length cx')).setCell ⟨r, 2, none⟩ (.slice ay nc cy)) (some r) := grown_at (grown_at (grown_at (World.grownBy.refl w7 (some r)) 0 _) 1 _) 2 _
          have R9 : Hid (Blk (((w7.setCell ⟨r, 0, none⟩ (.int .i64 lost)).setCell ⟨r, 1, none⟩ (.slice ax' S.length cx')).setCell ⟨r, 2, none⟩ (.slice ay nc cy)) r 110 [.int .i64 lost, .slice ax' S.length cx', .slice ay nc cy]) := Lib.hid (((R8.out.put 0 (.int .i64 lost)).put 1 (.slice ax' S.length cx')).put 2 (.slice ay nc cy))
          have T9 : Hid (TwoOwn (((w7.setCell ⟨r, 0, none⟩ (.int .i64 lost)).setCell ⟨r, 1, none⟩ (.slice ax' S.length cx')).setCell ⟨r, 2, none⟩ (.slice ay nc cy)) w.heap.size (.slice ax' S.length cx') (.slice ay nc cy) (Sp.ints S) c) := Lib.hid (TwoOwn.lower ⟨T8.out.1.kept gs (.inr fun e => far_own T8.out.1 (by omega) e.symm), T8.out.2.1.kept gs (.inr fun e => far_own T8.out.2.1 (by omega) e.symm), T8.out.2.2⟩ (by omega))
          have G9 : Hid (w.grownBy (((w7.setCell ⟨r, 0, none⟩ (.int .i64 lost)).setCell ⟨r, 1, none⟩ (.slice ax' S.length cx')).setCell ⟨r, 2, none⟩ (.slice ay nc cy)) none) := Lib.hid (grown_set (grown_set (grown_set G8.out RL1 _) RL1 _) RL1 _)
          clear gs T8 R8 G8
          go_wp2_with fail
          exact bodyPost_ret (v := .tuple #[.agg #[.int .i64 lost, .slice ax' S.length cx', .slice ay nc cy], .bool true]) (results_row_slot Try.results115 _ _ r _ _ _ _ _ rfl rfl R9.out Try.underlying110 rfl (by kernel_rfl)) rfl ⟨G9.out, .inl ⟨S, c, _, _, YES.out, PB.out, rfl, T9.out⟩⟩
end Go.Proofs.Ythglkgicckodaaa

namespace Go.Proofs.Ythglkgicckodaaa
open Go.RowKit
set_option linter.unusedVariables false
def stepS (k lost : Nat) (f : List Bool) (n : Nat) (S : List Nat) (at_ i : Nat) : Option (List Nat) := if at_ ≤ i ∧ f.getD i false = true ∧ i ≠ lost then Sp.search k lost f n (S ++ [i]) (i + 1) else none
theorem search_hit {k lost : Nat} {f : List Bool} {n : Nat} {S : List Nat} {at_ j : Nat} {r : List Nat} (hj : j < 8) (h1 : at_ ≤ j) (h2 : f.getD j false = true) (h3 : j ≠ lost) (hno : ∀ i, i < j → stepS k lost f n S at_ i = none) (h : Sp.search k lost f n (S ++ [j]) (j + 1) = some r) : Sp.search k lost f (n + 1) S at_ = some r := by
  show (List.range 8).findSome? (fun i => stepS k lost f n S at_ i) = some r
  refine Sp.findSome_some hj hno ?_
  unfold stepS
  rw [if_pos ⟨h1, h2, h3⟩]; exact h
theorem search_miss {k lost : Nat} {f : List Bool} {n : Nat} {S : List Nat} {at_ : Nat} (hno : ∀ i, i < 8 → stepS k lost f n S at_ i = none) : Sp.search k lost f (n + 1) S at_ = none := by
  show (List.range 8).findSome? (fun i => stepS k lost f n S at_ i) = none
  exact Sp.findSome_none hno
theorem step_skip {k lost : Nat} {f : List Bool} {n : Nat} {S : List Nat} {at_ j : Nat} (h : f.getD j false = false ∨ j = lost) : stepS k lost f n S at_ j = none := by
  unfold stepS
  rw [if_neg]
  rintro ⟨_, h2, h3⟩
  rcases h with h | h
  · rw [h] at h2; cases h2
  · exact h3 h
theorem step_none {k lost : Nat} {f : List Bool} {n : Nat} {S : List Nat} {at_ j : Nat} (h : Sp.search k lost f n (S ++ [j]) (j + 1) = none) : stepS k lost f n S at_ j = none := by
  unfold stepS
  split
  · exact h
  · rfl
theorem step_low {k lost : Nat} {f : List Bool} {n : Nat} {S : List Nat} {at_ j : Nat} (h : j < at_) : stepS k lost f n S at_ j = none := by
  unfold stepS
  rw [if_neg]
  rintro ⟨h1, _⟩
  omega
theorem ints_snoc (S : List Nat) (j : Nat) : Sp.ints S ++ [(j : Int)] = Sp.ints (S ++ [j]) := by simp [Sp.ints]
abbrev Zp (w : World) (r : Nat) : Prop := Blk w r 110 [.int .i64 0, .slice none 0 0, .slice none 0 0]
abbrev put3 (w : World) (r : Nat) (x y z : Value) : World := ((w.setCell ⟨r, 0, none⟩ x).setCell ⟨r, 1, none⟩ y).setCell ⟨r, 2, none⟩ z
theorem Zp.put3 {w : World} {r : Nat} (h : Zp w r) (x y z : Value) : Blk (put3 w r x y z) r 110 [x, y, z] := ((h.put 0 x).put 1 y).put 2 z
theorem put3_grown {w0 w : World} {r : Nat} (hg : w0.grownBy w none) (hr : w0.heap.size ≤ r) (x y z : Value) : w0.grownBy (put3 w r x y z) none := grown_set (grown_set (grown_set hg hr _) hr _) hr _
theorem put3_two {w : World} {r base : Nat} {u v : Value} {l m : List Int} (h : TwoOwn w (r + 1) u v l m) (hb : base ≤ r) (x y z : Value) : TwoOwn (put3 w r x y z) base u v l m := by
  have gs : w.grownBy (Go.Proofs.Ythglkgicckodaaa.put3 w r x y z) (some r) := grown_at (grown_at (grown_at (World.grownBy.refl w (some r)) 0 _) 1 _) 2 _
  exact TwoOwn.lower ⟨h.1.kept gs (.inr fun e => far_own h.1 (by omega) e.symm), h.2.1.kept gs (.inr fun e => far_own h.2.1 (by omega) e.symm), h.2.2⟩ (by omega)
theorem TwoOwn.form {w : World} {base : Nat} {u v : Value} {l m : List Int} (h : TwoOwn w base u v l m) : ∃ a n c b k d, u = .slice a n c ∧ v = .slice b k d := by
  obtain ⟨a, c, e, _⟩ := h.1.sl
  obtain ⟨b, d, e', _⟩ := h.2.1.sl
  exact ⟨a, _, c, b, _, d, e, e'⟩
set_option maxHeartbeats 4000000 in
set_option maxRecDepth 20000 in
theorem searchZero {k lost : Nat} (hk : k = 1 ∨ k = 2) (hl : lost < 8) (f : List Bool) (v : Value) (S : List Nat) (at_ : Nat) (hS : ∀ i ∈ S, i < 8) (h1 : 1 ≤ S.length) (h4 : S.length ≤ 4) (u : Value) (w : World) (h : Sl w u (Sp.ints S)) :
    Calls Try.prog 97 #[.int .i64 k, .int .i64 lost, v, u, .int .i64 at_, .int .i64 0] w (FoundP k lost (Sp.search k lost f 0 S at_) w) := by
  have e : Sp.search k lost f 0 S at_ = if Sp.can k lost S then some S else none := rfl
  rw [e]
  clear e
  have C := Lib.hid (fun (w : World) (h : Sl w u (Sp.ints S)) => specL11Plan hk hl S hS h1 h4 u w h)
  generalize (if Sp.can k lost S then some S else none) = q at *
  have R0 : Hid (Zp (w.alloc (.cells #[.int .i64 0, .slice none 0 0, .slice none 0 0] 110)) w.heap.size) := Lib.hid (heap_alloc_new _ _)
  have G0 := Lib.hid (grown_alloc (World.grownBy.refl w none) (.cells #[.int .i64 0, .slice none 0 0, .slice none 0 0] 110))
  have H := Lib.hid h
  clear h hS h1 h4
  go_enter Try.func97, Try.ntmps97
  go_wp2_with fail
  generalize w.alloc (.cells #[.int .i64 0, .slice none 0 0, .slice none 0 0] 110) = w0 at *
  obtain ⟨r, hr⟩ : ∃ r, r = w.heap.size := ⟨_, rfl⟩
  rw [← hr] at R0 ⊢
  have RL : w.heap.size ≤ r := by omega
  clear hr
  refine (C.out _ (H.out.grown G0.out)).mono ?_
  rintro e w1 ⟨hg, hc⟩
  have R1 := Lib.hid (R0.out.kept hg (by simp))
  have G1 := Lib.hid (grown_trans G0.out hg)
  have s1 := R0.out.lt
  have k0 := R1.out.cell (i := 0) rfl
  have k1 := R1.out.cell (i := 1) rfl
  have k2 := R1.out.cell (i := 2) rfl
  have f0 := R1.out.frozen 0
  have f1 := R1.out.frozen 1
  have f2 := R1.out.frozen 2
  clear hg R0 G0 C H
  rcases hc with ⟨S', c, p, x, hq, hb, rfl, ht⟩ | ⟨hq, rfl⟩
  · obtain ⟨a1, n1, c1, a2, n2, c2, rfl, rfl⟩ := ht.form
    have T1 := Lib.hid (put3_two (ht.lower (show r + 1 ≤ w0.heap.size from s1)) RL (.int .i64 lost) (.slice a1 n1 c1) (.slice a2 n2 c2))
    have G2 := Lib.hid (put3_grown G1.out RL (.int .i64 lost) (.slice a1 n1 c1) (.slice a2 n2 c2))
    have R2 := Lib.hid (Zp.put3 R1.out (.int .i64 lost) (.slice a1 n1 c1) (.slice a2 n2 c2))
    have Q := Lib.hid hq
    clear ht G1 R1 hq
    go_wp2_with fail
    exact bodyPost_ret (v := .tuple #[.agg #[.int .i64 lost, .slice a1 n1 c1, .slice a2 n2 c2], .bool true]) (results_row_slot Try.results97 _ _ r _ _ _ _ _ rfl rfl R2.out Try.underlying110 rfl (by kernel_rfl)) rfl ⟨G2.out, .inl ⟨S', c, _, _, Q.out, hb, rfl, T1.out⟩⟩
  · have G2 := Lib.hid (put3_grown G1.out RL (.int .i64 0) (.slice none 0 0) (.slice none 0 0))
    have R2 := Lib.hid (Zp.put3 R1.out (.int .i64 0) (.slice none 0 0) (.slice none 0 0))
    have Q := Lib.hid hq
    clear G1 R1 hq
    go_wp2_with fail
    exact bodyPost_ret (v := .tuple #[.agg #[.int .i64 0, .slice none 0 0, .slice none 0 0], .bool false]) (results_row_slot Try.results97 _ _ r _ _ _ _ _ rfl rfl R2.out Try.underlying110 rfl (by kernel_rfl)) rfl ⟨G2.out, .inr ⟨Q.out, rfl⟩⟩
set_option maxHeartbeats 6000000 in
set_option maxRecDepth 20000 in
theorem searchMore {k lost : Nat} (hl : lost < 8) (f : List Bool) (hf : f.length = 8) (av : Option Addr) (cv : Nat) (n : Nat) (hn : n ≤ 3) (S : List Nat) (at_ : Nat) (hS : ∀ i ∈ S, i < 8) (h4 : S.length + n ≤ 3) (ha : at_ ≤ 8) (b o cap : Nat) (w : World)
    (hv : Bl w (.slice av 8 cv) f) (h : Sl w (.slice (some ⟨b, o, none⟩) S.length cap) (Sp.ints S))
    (ih : ∀ (S : List Nat) (at_ : Nat), (∀ i ∈ S, i < 8) → S.length + n ≤ 4 → 1 ≤ S.length → at_ ≤ 8 → ∀ (b o cap : Nat) (w : World), Bl w (.slice av 8 cv) f → Sl w (.slice (some ⟨b, o, none⟩) S.length cap) (Sp.ints S) → Calls Try.prog 97 #[.int .i64 k, .int .i64 lost, .slice av 8 cv, .slice (some ⟨b, o, none⟩) S.length cap, .int .i64 at_, .int .i64 n] w (FoundP k lost (Sp.search k lost f n S at_) w)) :
    Calls Try.prog 97 #[.int .i64 k, .int .i64 lost, .slice av 8 cv, .slice (some ⟨b, o, none⟩) S.length cap, .int .i64 at_, .int .i64 ((n : Int) + 1)] w (FoundP k lost (Sp.search k lost f (n + 1) S at_) w) := by
  obtain ⟨j0, hi, hz0, hz1, hz2⟩ := info_parts infoInt
  have J1 := Lib.hid hi
  have J2 := Lib.hid hz0
  have J3 := Lib.hid hz1
  have J4 := Lib.hid hz2
  clear hi hz0 hz1 hz2
  have NS : Hid ((Sp.ints S).length = S.length) := Lib.hid (ints_lenP S)
  obtain ⟨a', cap', e', c1, c2, hr⟩ := h
  injection e' with e1 e2 e3
  subst e1 e3
  rw [NS.out] at c1
  unfold maxLen at c2
  have BV := Lib.hid hv
  obtain ⟨a'', cap'', e', d1, d2, hrb⟩ := hv
  injection e' with e1 e4 e3
  subst e1 e3
  rw [hf] at d1
  unfold maxLen at d2
  have R := Lib.hid hr
  have RB := Lib.hid hrb
  have HS := Lib.hid hS
  have HF := Lib.hid hf
  have IH := Lib.hid ih
  have HIT : Hid (∀ j r, j < 8 → at_ ≤ j → f.getD j false = true → j ≠ lost → (∀ i, i < j → stepS k lost f n S at_ i = none) → Sp.search k lost f n (S ++ [j]) (j + 1) = some r → Sp.search k lost f (n + 1) S at_ = some r) := Lib.hid fun j r h1 h2 h3 h4 h5 h6 => search_hit h1 h2 h3 h4 h5 h6
  have MISS : Hid ((∀ i, i < 8 → stepS k lost f n S at_ i = none) → Sp.search k lost f (n + 1) S at_ = none) := Lib.hid search_miss
  generalize Sp.search k lost f (n + 1) S at_ = q at *
  have R0 : Hid (Zp (w.alloc (.cells #[.int .i64 0, .slice none 0 0, .slice none 0 0] 110)) w.heap.size) := Lib.hid (heap_alloc_new _ _)
  have G0 := Lib.hid (grown_alloc (World.grownBy.refl w none) (.cells #[.int .i64 0, .slice none 0 0, .slice none 0 0] 110))
  have n0 : ((n : Int) + 1 == 0) = false := by rw [beq_eq_false_iff_ne]; omega
  clear hr hrb hS hf ih e2 e4
  go_enter Try.func97, Try.ntmps97
  go_upto_region 1 with fail
  generalize w.alloc (.cells #[.int .i64 0, .slice none 0 0, .slice none 0 0] 110) = w0 at *
  obtain ⟨r, hr⟩ : ∃ r, r = w.heap.size := ⟨_, rfl⟩
  rw [← hr] at R0 ⊢
  have RL : w.heap.size ≤ r := by omega
  clear hr
  go_wp2_with fail
  clear n0
  go_loopw [14] (fun i wr => ∃ j : Nat, at_ ≤ j ∧ j ≤ 8 ∧ i = .int .i64 j ∧ w.grownBy wr none ∧ Zp wr r ∧ ∀ i, i < j → stepS k lost f n S at_ i = none) (fun i _ => 8 - (intOf i).toNat)
  case atStart => exact ⟨at_, by omega, ha, rfl, G0.out, R0.out, fun i hi => step_low hi⟩
  case round =>
    obtain ⟨j, hj, hj8, rfl, hg, hrr, hno⟩ := hrel
    have GR := Lib.hid hg
    have RR := Lib.hid hrr
    have NO := Lib.hid hno
    clear hg hrr hno R0 G0
    by_cases hlt : j < 8
    · have hlt' : (j : Int) < 8 := by omega
      obtain ⟨bb, ob, rfl, hx⟩ := (RB.out.grown GR.out).at_ (k := j) (by rw [HF.out]; exact hlt)
      cases hfj : f.getD j false with
      | false =>
        rw [hfj] at hx
        have NO' : Hid (∀ i, i < j + 1 → stepS k lost f n S at_ i = none) := Lib.hid fun i hi => by
          rcases Nat.lt_or_ge i j with h | h
          · exact NO.out i h
          · obtain rfl : i = j := by omega
            exact step_skip (.inl hfj)
        clear hfj
        go_wp2_with fail
        go_roundw
        case rel => exact ⟨j + 1, by omega, by omega, by go_num, GR.out, RR.out, NO'.out⟩
        case measure => simp [intOf]; omega
      | true =>
        rw [hfj] at hx
        by_cases hjl : j = lost
        · have NO' : Hid (∀ i, i < j + 1 → stepS k lost f n S at_ i = none) := Lib.hid fun i hi => by
            rcases Nat.lt_or_ge i j with h | h
            · exact NO.out i h
            · obtain rfl : i = j := by omega
              exact step_skip (.inr hjl)
          subst hjl
          clear hfj
          go_wp2_with fail
          go_roundw
          case rel => exact ⟨j + 1, by omega, by omega, by go_num, GR.out, RR.out, NO'.out⟩
          case measure => simp [intOf]; omega
        · have ne : ((j : Int) == lost) = false := by rw [beq_eq_false_iff_ne]; omega
          have HT := Lib.hid (fun r hs => HIT.out j r hlt hj hfj hjl NO.out hs)
          clear hfj
          have O0 : Hid (Own (wr.alloc (.cells #[] 3)) wr.heap.size (.slice (some ⟨wr.heap.size, 0, none⟩) 0 0) []) := Lib.hid (Own.made wr wr.heap.size [] (Nat.le_refl _) (by simp))
          have N0 := Lib.hid (Rds.news ((R.out.grown GR.out).grown (World.grownBy_alloc wr (.cells #[] 3) none)))
          have vl5 : (vals (Sp.ints S)).length = S.length * 1 := by rw [vals_length, NS.out, Nat.mul_one]
          have rlt := RR.out.lt
          go_wp2_with (first
            | (at_builtin; refine wpList_append_own _ rfl _ _ 23 rfl wr.heap.size 3 j0 (.int .i64 0) 1 8 Try.underlying23 J1.out J2.out J3.out J4.out rfl (by decide) _ _ _ rfl O0.out ⟨b, o, none⟩ S.length cap (vals (Sp.ints S)) rfl vl5 N0.out (vals_one _) ?d3 ?d4 ?d5 ?_))
          case d3 => simp [maxLen]; omega
          case d4 => simp; omega
          case d5 => simp
          intro xb w3 ho hg _
          have G3 : Hid (wr.grownBy w3 none) := Lib.hid (grown_own (grown_alloc (World.grownBy.refl _ _) _) hg (fun j hj => (World.ownsRow.lt O0.out j hj).1))
          have O3 : Hid (Own w3 wr.heap.size xb (Sp.ints S)) := Lib.hid (by
            unfold Own
            rw [NS.out]
            simpa [vals] using ho)
          have G3' := Lib.hid (grown_trans GR.out G3.out)
          have R3 := Lib.hid (RR.out.kept G3.out (by simp))
          have s3 : wr.heap.size ≤ w3.heap.size := G3.out.size
          have OO := Lib.hid O3.out
          unfold Own at OO
          rw [NS.out] at OO
          clear ho hg O0 N0 vl5
          go_wp2_with (first
            | (at_builtin; refine wpList_append_own _ rfl _ _ 23 rfl wr.heap.size 3 j0 (.int .i64 0) 1 8 Try.underlying23 J1.out J2.out J3.out J4.out rfl (by decide) _ _ _ rfl (World.ownsRow.alloc OO.out _) ⟨w3.heap.size, 0, none⟩ 1 1 [.int .i64 j] rfl rfl (one_cell (g := 0)) (vals_one [(j : Int)]) ?c3 ?c4 ?c5 ?_))
          case c3 => unfold maxLen; omega
          case c4 => omega
          case c5 => simp; omega
          intro x5 w5 ho hg _
          have g5 : w3.grownBy w5 xb.ownBlock := grown_trans (World.grownBy_alloc _ _ _) hg
          have O5 : Own w5 wr.heap.size x5 (Sp.ints (S ++ [j])) := by
            rw [← ints_snoc]
            unfold Own
            rw [List.length_append, NS.out]
            simpa [vals] using ho
          have G5 : Hid (w.grownBy w5 none) := Lib.hid (grown_own G3'.out g5 (fun i hi => Nat.le_trans GR.out.size (World.ownsRow.lt OO.out i hi).1))
          have R5 := Lib.hid (R3.out.kept g5 (fun e => by have := (World.ownsRow.lt OO.out r e.symm).1; omega))
          have s5 : r + 1 ≤ w5.heap.size := R5.out.lt
          obtain ⟨T, hT⟩ : ∃ T, T = S ++ [j] := ⟨_, rfl⟩
          have IHT : Hid (∀ (b o cap : Nat) (w : World), Bl w (.slice (some ⟨bb, ob, none⟩) 8 cv) f → Sl w (.slice (some ⟨b, o, none⟩) T.length cap) (Sp.ints T) → Calls Try.prog 97 #[.int .i64 k, .int .i64 lost, .slice (some ⟨bb, ob, none⟩) 8 cv, .slice (some ⟨b, o, none⟩) T.length cap, .int .i64 ((j : Int) + 1), .int .i64 n] w (FoundP k lost (Sp.search k lost f n T (j + 1)) w)) := Lib.hid (fun b o cap w h1 h2 => by
            have := IH.out T (j + 1) (by
              rw [hT]
              intro i hi
              rcases List.mem_append.1 hi with hi | hi
              · exact HS.out i hi
              · have := List.mem_singleton.1 hi; omega) (by rw [hT, List.length_append, List.length_singleton]; omega) (by rw [hT, List.length_append, List.length_singleton]; omega) (by omega) b o cap w h1 h2
            rwa [Int.natCast_succ] at this)
          have ST : Hid (Sp.search k lost f n T (j + 1) = none → ∀ i, i < j + 1 → stepS k lost f n S at_ i = none) := Lib.hid fun h i hi => by
            rcases Nat.lt_or_ge i j with h' | h'
            · exact NO.out i h'
            · obtain rfl : i = j := by omega
              rw [hT] at h
              exact step_none h
          rw [← hT] at O5 HT
          have IL := ints_lenP T
          obtain ⟨a5, c5, e5, _, _, hr5⟩ := O5.sl
          have TL : 0 < T.length := by rw [hT, List.length_append, List.length_singleton]; omega
          rw [IL] at e5
          obtain ⟨b5, o5, rfl, _⟩ := hr5.at_ (k := 0) (by rw [IL]; exact TL)
          subst e5
          have SL5 := Lib.hid O5.sl
          clear ho hg g5 O5 hT hr5 TL IL OO O3 G3 G3' R3 GR RR HIT NO hx
          generalize Sp.search k lost f n T (j + 1) = q' at *
          generalize T.length = tl at *
          go_wp2_with fail
          refine (IHT.out _ _ _ _ (BV.out.grown G5.out) SL5.out).mono ?_
          rintro e w6 ⟨hg, hc⟩
          have R6 := Lib.hid (R5.out.kept hg (by simp))
          have G6 := Lib.hid (grown_trans G5.out hg)
          have s6 : r + 1 ≤ w6.heap.size := R6.out.lt
          clear IHT SL5
          rcases hc with ⟨S', c, p, x, hq, hb, rfl, ht⟩ | ⟨hq, rfl⟩
          · obtain ⟨a1, n1, c1, a2, n2, c2, rfl, rfl⟩ := ht.form
            have Q := Lib.hid (HT.out S' hq)
            have ga := World.grownBy_alloc w6 (.cells #[.int .i64 lost, .slice a1 n1 c1, .slice a2 n2 c2] 110) none
            have R7 := Lib.hid (R6.out.kept ga (by simp))
            have T7 := Lib.hid (put3_two ((ht.lower s5).still ga) RL (.int .i64 lost) (.slice a1 n1 c1) (.slice a2 n2 c2))
            have G7 := Lib.hid (put3_grown (grown_trans G6.out ga) RL (.int .i64 lost) (.slice a1 n1 c1) (.slice a2 n2 c2))
            have R8 := Lib.hid (Zp.put3 R7.out (.int .i64 lost) (.slice a1 n1 c1) (.slice a2 n2 c2))
            have k0 := R7.out.cell (i := 0) rfl
            have k1 := R7.out.cell (i := 1) rfl
            have k2 := R7.out.cell (i := 2) rfl
            have f0 := R7.out.frozen 0
            have f1 := R7.out.frozen 1
            have f2 := R7.out.frozen 2
            clear hg hq ht ga HT ST R5 G5
            go_wp2_with fail
            exact bodyPost_ret (v := .tuple #[.agg #[.int .i64 lost, .slice a1 n1 c1, .slice a2 n2 c2], .bool true]) (results_row_slot Try.results97 _ _ r _ _ _ _ _ rfl rfl R8.out Try.underlying110 rfl (by kernel_rfl)) rfl ⟨G7.out, .inl ⟨S', c, _, _, Q.out, hb, rfl, T7.out⟩⟩
          · have ga := World.grownBy_alloc w6 (.cells #[.int .i64 0, .slice none 0 0, .slice none 0 0] 110) none
            have R7 := Lib.hid (R6.out.kept ga (by simp))
            have G7 := Lib.hid (grown_trans G6.out ga)
            have ST' := Lib.hid (ST.out hq)
            clear hg hq ga HT ST R5 G5
            go_wp2_with fail
            go_roundw
            case rel => exact ⟨j + 1, by omega, by omega, by go_num, G7.out, R7.out, ST'.out⟩
            case measure => simp [intOf]; omega
    · obtain rfl : j = 8 := by omega
      have QN := Lib.hid (MISS.out NO.out)
      have k0 := RR.out.cell (i := 0) rfl
      have k1 := RR.out.cell (i := 1) rfl
      have k2 := RR.out.cell (i := 2) rfl
      have f0 := RR.out.frozen 0
      have f1 := RR.out.frozen 1
      have f2 := RR.out.frozen 2
      have G2 := Lib.hid (put3_grown GR.out RL (.int .i64 0) (.slice none 0 0) (.slice none 0 0))
      have R2 := Lib.hid (Zp.put3 RR.out (.int .i64 0) (.slice none 0 0) (.slice none 0 0))
      go_wp2_with fail
      exact bodyPost_ret (v := .tuple #[.agg #[.int .i64 0, .slice none 0 0, .slice none 0 0], .bool false]) (results_row_slot Try.results97 _ _ r _ _ _ _ _ rfl rfl R2.out Try.underlying110 rfl (by kernel_rfl)) rfl ⟨G2.out, .inr ⟨QN.out, rfl⟩⟩
theorem specL11Search {k lost : Nat} (hk : k = 1 ∨ k = 2) (hl : lost < 8) (f : List Bool) (hf : f.length = 8) (av : Option Addr) (cv : Nat) : ∀ (n : Nat) (S : List Nat) (at_ : Nat), (∀ i ∈ S, i < 8) → S.length + n ≤ 4 → 1 ≤ S.length + n → at_ ≤ 8 → ∀ (b o cap : Nat) (w : World), Bl w (.slice av 8 cv) f → Sl w (.slice (some ⟨b, o, none⟩) S.length cap) (Sp.ints S) →
    Calls Try.prog 97 #[.int .i64 k, .int .i64 lost, .slice av 8 cv, .slice (some ⟨b, o, none⟩) S.length cap, .int .i64 at_, .int .i64 n] w (FoundP k lost (Sp.search k lost f n S at_) w) := by
  intro n
  induction n with
  | zero => intro S at_ hS h4 h1 ha b o cap w hv h; exact searchZero hk hl f _ S at_ hS (by omega) (by omega) _ w h
  | succ n ih =>
    intro S at_ hS h4 h1 ha b o cap w hv h
    rw [Int.natCast_succ]
    exact searchMore hl f hf av cv n (by omega) S at_ hS (by omega) ha b o cap w hv h (fun S at_ h1 h2 h3 h4 => ih S at_ h1 h2 (by omega) h4)
end Go.Proofs.Ythglkgicckodaaa

namespace Go.Proofs.Ythglkgicckodaaa
open Go.RowKit
set_option linter.unusedVariables false
set_option maxHeartbeats 6000000 in
set_option maxRecDepth 20000 in
theorem specL11Of {k lost : Nat} (hk : k = 1 ∨ k = 2) (hl : lost < 8) (f : List Bool) (hf : f.length = 8) (v : Value) (w : World) (hv : Bl w v f) : Calls Try.prog 77 #[.int .i64 k, .int .i64 lost, v] w (FoundP k lost (Sp.planM k lost f) w) := by
  have BV := Lib.hid hv
  obtain ⟨av, cv, rfl, d1, d2, hrb⟩ := hv
  rw [hf] at BV d1 ⊢
  clear hrb
  have SE : Hid (∀ (n : Nat), n < 4 → ∀ (b cap : Nat) (w : World), Bl w (.slice av 8 cv) f → Sl w (.slice (some ⟨b, 0, none⟩) 0 cap) [] → Calls Try.prog 97 #[.int .i64 k, .int .i64 lost, .slice av 8 cv, .slice (some ⟨b, 0, none⟩) 0 cap, .int .i64 0, .int .i64 ((n : Int) + 1)] w (FoundP k lost (Sp.search k lost f (n + 1) [] 0) w)) := Lib.hid (fun n hn b cap w h1 h2 => by
    have := specL11Search hk hl f hf av cv (n + 1) [] 0 (by simp) (by simp; omega) (by simp) (by omega) b 0 cap w h1 h2
    rwa [Int.natCast_succ] at this)
  have HIT : Hid (∀ n r, n < 4 → (∀ m, m < n → Sp.search k lost f (m + 1) [] 0 = none) → Sp.search k lost f (n + 1) [] 0 = some r → Sp.planM k lost f = some r) := Lib.hid fun n r h1 h2 h3 => Sp.findSome_some (g := fun n => Sp.search k lost f (n + 1) [] 0) h1 h2 h3
  have MISS : Hid ((∀ m, m < 4 → Sp.search k lost f (m + 1) [] 0 = none) → Sp.planM k lost f = none) := Lib.hid fun h => Sp.findSome_none (g := fun n => Sp.search k lost f (n + 1) [] 0) h
  generalize Sp.planM k lost f = q at *
  have R0 : Hid (Zp (w.alloc (.cells #[.int .i64 0, .slice none 0 0, .slice none 0 0] 110)) w.heap.size) := Lib.hid (heap_alloc_new _ _)
  have G0 := Lib.hid (grown_alloc (World.grownBy.refl w none) (.cells #[.int .i64 0, .slice none 0 0, .slice none 0 0] 110))
  clear hf
  go_enter Try.func77, Try.ntmps77
  go_upto_region 1 with fail
  generalize w.alloc (.cells #[.int .i64 0, .slice none 0 0, .slice none 0 0] 110) = w0 at *
  obtain ⟨r, hr⟩ : ∃ r, r = w.heap.size := ⟨_, rfl⟩
  rw [← hr] at R0 ⊢
  have RL : w.heap.size ≤ r := by omega
  clear hr
  go_wp2_with fail
  go_loopw [8] (fun i wr => ∃ n : Nat, n ≤ 4 ∧ i = .int .i64 ((n : Int) + 1) ∧ w.grownBy wr none ∧ Zp wr r ∧ ∀ m, m < n → Sp.search k lost f (m + 1) [] 0 = none) (fun i _ => 5 - (intOf i).toNat)
  case atStart => exact ⟨0, by omega, rfl, G0.out, R0.out, fun i hi => by omega⟩
  case round =>
    obtain ⟨n, hn, rfl, hg, hrr, hno⟩ := hrel
    have GR := Lib.hid hg
    have RR := Lib.hid hrr
    have NO := Lib.hid hno
    clear hg hrr hno R0 G0
    by_cases hlt : n < 4
    · have hlt' : (n : Int) + 1 ≤ 4 := by omega
      have SN := Lib.hid (SE.out n hlt)
      have HT := Lib.hid (fun r h => HIT.out n r hlt NO.out h)
      have ST : Hid (Sp.search k lost f (n + 1) [] 0 = none → ∀ m, m < n + 1 → Sp.search k lost f (m + 1) [] 0 = none) := Lib.hid fun h m hm => by
        rcases Nat.lt_or_ge m n with h' | h'
        · exact NO.out m h'
        · obtain rfl : m = n := by omega
          exact h
      have O0 : Hid (Sl (wr.alloc (.cells #[] 3)) (.slice (some ⟨wr.heap.size, 0, none⟩) 0 0) []) := Lib.hid (Own.made wr wr.heap.size [] (Nat.le_refl _) (by simp)).sl
      have ga := World.grownBy_alloc wr (.cells #[] 3) none
      have R1 := Lib.hid (RR.out.kept ga (by simp))
      have G1 := Lib.hid (grown_trans GR.out ga)
      clear ga
      generalize Sp.search k lost f (n + 1) [] 0 = q' at *
      go_wp2_with fail
      refine (SN.out _ _ _ (BV.out.grown G1.out) O0.out).mono ?_
      rintro e w6 ⟨hg, hc⟩
      have R6 := Lib.hid (R1.out.kept hg (by simp))
      have G6 := Lib.hid (grown_trans G1.out hg)
      have s5 : r + 1 ≤ (wr.alloc (.cells #[] 3)).heap.size := R1.out.lt
      clear SN O0
      rcases hc with ⟨S', c, p, x, hq, hb, rfl, ht⟩ | ⟨hq, rfl⟩
      · obtain ⟨a1, n1, c1, a2, n2, c2, rfl, rfl⟩ := ht.form
        have Q := Lib.hid (HT.out S' hq)
        have ga := World.grownBy_alloc w6 (.cells #[.int .i64 lost, .slice a1 n1 c1, .slice a2 n2 c2] 110) none
        have R7 := Lib.hid (R6.out.kept ga (by simp))
        have T7 := Lib.hid (put3_two ((ht.lower s5).still ga) RL (.int .i64 lost) (.slice a1 n1 c1) (.slice a2 n2 c2))
        have G7 := Lib.hid (put3_grown (grown_trans G6.out ga) RL (.int .i64 lost) (.slice a1 n1 c1) (.slice a2 n2 c2))
        have R8 := Lib.hid (Zp.put3 R7.out (.int .i64 lost) (.slice a1 n1 c1) (.slice a2 n2 c2))
        have k0 := R7.out.cell (i := 0) rfl
        have k1 := R7.out.cell (i := 1) rfl
        have k2 := R7.out.cell (i := 2) rfl
        have f0 := R7.out.frozen 0
        have f1 := R7.out.frozen 1
        have f2 := R7.out.frozen 2
        clear hg hq ht ga HT ST s5
        go_wp2_with fail
        exact bodyPost_ret (v := .tuple #[.agg #[.int .i64 lost, .slice a1 n1 c1, .slice a2 n2 c2], .bool true]) (results_row_slot Try.results77 _ _ r _ _ _ _ _ rfl rfl R8.out Try.underlying110 rfl (by kernel_rfl)) rfl ⟨G7.out, .inl ⟨S', c, _, _, Q.out, hb, rfl, T7.out⟩⟩
      · have ga := World.grownBy_alloc w6 (.cells #[.int .i64 0, .slice none 0 0, .slice none 0 0] 110) none
        have R7 := Lib.hid (R6.out.kept ga (by simp))
        have G7 := Lib.hid (grown_trans G6.out ga)
        have ST' := Lib.hid (ST.out hq)
        clear hg hq ga HT ST s5
        go_wp2_with fail
        go_roundw
        case rel => exact ⟨n + 1, by omega, by go_num, G7.out, R7.out, ST'.out⟩
        case measure => simp [intOf]; omega
    · obtain rfl : n = 4 := by omega
      have QN := Lib.hid (MISS.out NO.out)
      have k0 := RR.out.cell (i := 0) rfl
      have k1 := RR.out.cell (i := 1) rfl
      have k2 := RR.out.cell (i := 2) rfl
      have f0 := RR.out.frozen 0
      have f1 := RR.out.frozen 1
      have f2 := RR.out.frozen 2
      have G2 := Lib.hid (put3_grown GR.out RL (.int .i64 0) (.slice none 0 0) (.slice none 0 0))
      have R2 := Lib.hid (Zp.put3 RR.out (.int .i64 0) (.slice none 0 0) (.slice none 0 0))
      go_wp2_with fail
      exact bodyPost_ret (v := .tuple #[.agg #[.int .i64 0, .slice none 0 0, .slice none 0 0], .bool false]) (results_row_slot Try.results77 _ _ r _ _ _ _ _ rfl rfl R2.out Try.underlying110 rfl (by kernel_rfl)) rfl ⟨G2.out, .inr ⟨QN.out, rfl⟩⟩
end Go.Proofs.Ythglkgicckodaaa

namespace Go.Proofs.Ythglkgicckodaaa
open Go.RowKit
set_option linter.unusedVariables false
theorem BArr.bl8 {w : World} {g : Nat} {t : TypeId} {l : List Bool} (h : BArr w g t l) (h8 : l.length = 8) : Bl w (.slice (some ⟨g, 0, none⟩) 8 8) l :=
  ⟨_, 8, by rw [h8], by omega, by simp [maxLen], .inr ⟨g, 0, rfl, fun i hi => by rw [Nat.zero_add]; exact h.cell hi⟩⟩
end Go.Proofs.Ythglkgicckodaaa

namespace Go.Proofs.Ythglkgicckodaaa
open Go.RowKit
set_option linter.unusedVariables false
theorem PlanT.len {k lost : Int} {f : List Bool} {n : Int} {l m : List Int} {b : Bool} (h : PlanT k lost f n l m b) : l.length ≤ 4 ∧ m.length ≤ 4 := by
  rcases h with ⟨_, k1, l1, S, _, _, _, _, _, hp, hc, rfl, _⟩ | ⟨_, _, rfl, rfl, _⟩
  · have := (Sp.plan_some hp).2.1
    rw [ints_lenP, hc.1.1]; omega
  · simp
theorem own_blk {w : World} {base g : Nat} {v : Value} {l : List Int} {cs : List Value} (h : Own w base v l) (k : Blk w g 110 cs) : some g ≠ v.ownBlock := by
  intro e
  rcases h.2 with ⟨rfl, _⟩ | ⟨g', cap, cur, rfl, _, hg, _⟩
  · cases e
  · have e' : g = g' := by injection e
    subst e'
    unfold Blk at k
    rw [hg] at k
    simp at k
end Go.Proofs.Ythglkgicckodaaa
