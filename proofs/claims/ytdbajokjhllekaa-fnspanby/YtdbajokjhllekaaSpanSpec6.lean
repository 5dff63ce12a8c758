/-
  The contract of the model's SpanBy.
  Conditions: none.
-/
import Derived.Test.YtdbajokjhllekaaSpanSpec5
import Derived.Test.YtdbajokjhllekaaSpanPut
import Derived.Test.YtdbajokjhllekaaSpanTops2
import Derived.StillTailTactics
namespace Go.Proofs.Ytdbajokjhllekaa
open Go.RowKit
set_option linter.unusedVariables false

/-- slices that read as rows. -/
def RowsT (w : World) (vs : List Value) (M : List (List Int)) : Prop := vs.length = M.length ∧ ∀ (a : Nat) (x : Value) (r : List Int), vs[a]? = some x → M[a]? = some r → Sl w x r
theorem RowsT.snoc {w : World} {vs : List Value} {M M' : List (List Int)} {u : Value} {l : List Int} (h : RowsT w vs M) (hu : Sl w u l) (e : M ++ [l] = M') : RowsT w (vs ++ [u]) M' := by
  subst e
  refine ⟨by simp [h.1], fun a x r hx hr => ?_⟩
  by_cases ha : a < vs.length
  · rw [List.getElem?_append_left ha] at hx
    rw [List.getElem?_append_left (by rw [← h.1]; exact ha)] at hr
    exact h.2 a x r hx hr
  · have ha' : a = vs.length := by
      have := (List.getElem?_eq_some_iff.1 hx).1
      simp at this; omega
    subst ha'
    rw [List.getElem?_append_right (Nat.le_refl _), Nat.sub_self] at hx
    rw [List.getElem?_append_right (by rw [h.1]; exact Nat.le_refl _), h.1, Nat.sub_self] at hr
    simp at hx hr
    subst hx hr
    exact hu
theorem RowsT.tab {w w' : World} {base : Nat} {v : Value} {vs : List Value} {M : List (List Int)} (h : RowsT w vs M) (hg : w.grownBy w' none) (ht : w'.ownsRow base 24 1 v vs.length vs) : Tab w' v vs M := by
  refine ⟨h.1, ?_, fun i u l hu hl => (h.2 i u l hu hl).grown hg⟩
  rcases ht.2 with ⟨e, hn⟩ | ⟨g, cap, cur, e, _, hg, h1, h2, _, ht⟩
  · have hu : vs = [] := List.eq_nil_of_length_eq_zero hn
    subst hu
    have hm : M = [] := List.eq_nil_of_length_eq_zero h.1.symm
    subst hm
    exact ⟨none, 0, e, by simp, by omega, .inl rfl⟩
  · refine ⟨some ⟨g, 0, none⟩, cap, by rw [← h.1]; exact e, by rw [← h.1]; exact h1, h2, .inr ⟨g, 0, rfl, fun i u hu => ?_⟩⟩
    rw [cell_of_row w' g (0 + i) cur 24 (0, 0) hg]
    have ht' : cur.toList.take (vs.length * 1) = vs := ht
    rw [← ht', List.getElem?_take] at hu
    split at hu
    · simpa using hu
    · cases hu
theorem sel_made {m : List (List Int)} (hm : okM m = true) (l : List Int) : Sp.Made (Sp.sel m (Sp.firsts Sp.has m)) l ↔ Sp.Made m l := (Sp.sel_same hm).iff _

set_option maxHeartbeats 4000000 in
set_option maxRecDepth 20000 in
theorem specSpanBy (v x : Value) (us : List Value) (m : List (List Int)) (l : List Int) (w : World) (h : Tab w v us m) (hx : Sl w x l) : Calls Try.prog 16 #[v, x] w (NewBy m l w) := by
  have C := Lib.hid (specSpanOk v us m w h)
  have T := Lib.hid h
  have X := Lib.hid hx
  have D := Lib.hid (specVecOk x l w hx)
  obtain ⟨av, capv, ev, hv1, hv2, _⟩ := h.top
  subst ev
  unfold maxLen at hv2
  clear h hx
  obtain ⟨i0, hi, hz0, hz1, hz2⟩ := info_parts infoInts
  have I1 := Lib.hid hi
  have I2 := Lib.hid hz0
  have I3 := Lib.hid hz1
  have I4 := Lib.hid hz2
  clear hi hz0 hz1 hz2
  obtain ⟨j0, hi, hz0, hz1, hz2⟩ := info_parts infoInt
  have J1 := Lib.hid hi
  have J2 := Lib.hid hz0
  have J3 := Lib.hid hz1
  have J4 := Lib.hid hz2
  clear hi hz0 hz1 hz2
  cases hok : okM m with
  | false =>
    rw [hok] at C
    have R : Hid (hasM m l = false) := Lib.hid (by simp [hasM, hok])
    clear hok
    go_enter Try.func16, Try.ntmps16
    go_wp2_with fail
    refine C.out.mono ?_
    rintro e w' ⟨rfl, rfl⟩
    go_wp2_with fail
    go_ret2
    exact ⟨_, false, [], rfl, grown_alloc (World.grownBy.refl _ _) _, Own.made _ _ [] (Nat.le_refl _) (by simp), ByM.no R.out⟩
  | true =>
    rw [hok] at C
    cases hvl : Vec.ok l with
    | false =>
      rw [hvl] at D
      have R : Hid (hasM m l = false) := Lib.hid (by simp [hasM, hvl])
      clear hok hvl
      go_enter Try.func16, Try.ntmps16
      go_wp2_with fail
      refine C.out.mono ?_
      rintro e w' ⟨rfl, rfl⟩
      go_wp2_with fail
      refine D.out.mono ?_
      rintro e w' ⟨rfl, rfl⟩
      go_wp2_with fail
      go_ret2
      exact ⟨_, false, [], rfl, grown_alloc (World.grownBy.refl _ _) _, Own.made _ _ [] (Nat.le_refl _) (by simp), ByM.no R.out⟩
    | true =>
      rw [hvl] at D
      have m8 := okM_len hok
      have HOK := Lib.hid hok
      have HVL := Lib.hid hvl
      have HM := Lib.hid (okM_all hok)
      have RL := Lib.hid (Sp.row_ok.1 hvl)
      obtain ⟨P, hP⟩ : ∃ P, Sp.firsts Sp.has m = P := ⟨_, rfl⟩
      have HPP := Lib.hid hP
      have P8 : P.length ≤ 8 := by rw [← hP]; have := Sp.first_len m; omega
      obtain ⟨F, hF⟩ : ∃ F, (P.map fun (i : Nat) => (i : Int)) = F := ⟨_, rfl⟩
      have HF := Lib.hid hF
      have FL : F.length = P.length := by rw [← hF, List.length_map]
      have HFL := Lib.hid FL
      clear hok hvl hP hF FL
      go_enter Try.func16, Try.ntmps16
      go_wp2_with fail
      refine C.out.mono ?_
      rintro e w' ⟨rfl, rfl⟩
      go_wp2_with fail
      refine D.out.mono ?_
      rintro e w' ⟨rfl, rfl⟩
      go_wp2_with fail
      refine (specL3First _ us m _ T.out HM.out m8).mono ?_
      rintro e W4 ⟨fv, rfl, hg, ho⟩
      rw [HPP.out, HF.out] at ho
      have G4 := Lib.hid hg
      have T4 := Lib.hid (T.out.grown hg)
      have X4 := Lib.hid (X.out.grown hg)
      obtain ⟨fa, fc, ef, hf1, hf2, _⟩ := ho.sl
      rw [HFL.out] at ef
      subst ef
      unfold maxLen at hf2
      have SF4 := Lib.hid ho.sl
      have s4 : w.heap.size ≤ W4.heap.size := hg.size
      clear hg ho T X C D
      have M0 := Lib.hid (STab.made W4 W4.heap.size (Nat.le_refl _))
      go_wp2_with fail
      go_loopw [7, 8] (fun so ii wr => ∃ i : Nat, i ≤ P.length ∧ ii = .int .i64 i ∧ W4.grownBy wr none ∧ ∃ vs, wr.ownsRow W4.heap.size 24 1 so vs.length vs ∧ RowsT W4 vs (Sp.sel m (P.take i))) (fun _ ii _ => P.length - (intOf ii).toNat)
      case atStart => exact ⟨0, Nat.zero_le _, rfl, grown_alloc (World.grownBy.refl _ _) _, [], M0.out.top, ⟨rfl, by simp⟩⟩
      case round =>
        obtain ⟨i, hi, rfl, hg, vs, htop, hrat⟩ := hrel
        have GR := Lib.hid hg
        have TOP := Lib.hid htop
        have RAT := Lib.hid hrat
        clear hg htop hrat M0
        by_cases hlt : i < P.length
        · have hlt' : (i : Int) < (P.length : Int) := by omega
          have SFR := Lib.hid (SF4.out.grown GR.out)
          obtain ⟨a, capf, e, _, _, hr⟩ := SFR.out
          injection e with e1 e2 e3
          subst e1 e3
          clear e2
          obtain ⟨bf, of, rfl, hxf⟩ := hr.at_ (k := i) (by have := HFL.out; omega)
          obtain ⟨p, hpe⟩ : ∃ p, P[i] = p := ⟨_, rfl⟩
          have fv : F.getD i 0 = (p : Int) := by
            rw [← HF.out, List.getD_eq_getElem?_getD, List.getElem?_map, List.getElem?_eq_getElem hlt, hpe]; rfl
          rw [fv] at hxf
          have hpm : p < m.length := by rw [← hpe]; exact Sp.first_lt _ (by rw [HPP.out]; exact List.getElem_mem hlt)
          have hpm' : (p : Int) < (m.length : Int) := by omega
          have PT : Hid (P.take (i + 1) = P.take i ++ [p]) := Lib.hid (by rw [List.take_succ_eq_append_getElem hlt, hpe])
          obtain ⟨b1, o1, cap1, u, e, hu, hx, hs⟩ := (T4.out.grown GR.out).at_ hpm
          injection e with e1 e2 e3
          subst e1 e3
          have RW := Lib.hid (T4.out.rows p u (m.getD p []) hu (by simp [List.getD_eq_getElem?_getD, hpm]))
          have r4 : (m.getD p []).length = 4 := (Sp.fresh_row HM.out hpm).1
          obtain ⟨au, cu, eu, _, _, _⟩ := hs
          rw [r4] at eu
          subst eu
          have sz : W4.heap.size ≤ wr.heap.size := GR.out.size
          have vl : vs.length ≤ 8 := by
            have := RAT.out.1
            unfold Sp.sel at this
            rw [List.length_map, List.length_take] at this
            omega
          clear hr fv hpe r4 hu e2
          go_wp2_with (first
            | (at_builtin; refine wpList_append_own _ rfl _ _ 23 rfl W4.heap.size 24 i0 (.slice none 0 0) 1 24 Try.underlying23 I1.out I2.out I3.out I4.out rfl (by decide) _ _ _ rfl (World.ownsRow.alloc TOP.out _) ⟨wr.heap.size, 0, none⟩ 1 1 [.slice au 4 cu] rfl rfl (one_cell (g := 0)) (by simp [Value.oneCell']) ?d3 ?d4 ?d5 ?_))
          case d3 => unfold maxLen; omega
          case d4 => omega
          case d5 => (try simp only [World.size_alloc]); omega
          intro o5 w5 ho hg _
          have RB : Hid (RowsT W4 (vs ++ [.slice au 4 cu]) (Sp.sel m (P.take (i + 1)))) := Lib.hid (RAT.out.snoc RW.out (by rw [PT.out]; simp [Sp.sel]))
          have TB : Hid (w5.ownsRow W4.heap.size 24 1 o5 (vs ++ [Value.slice au 4 cu]).length (vs ++ [.slice au 4 cu])) := Lib.hid (by rw [List.length_append]; exact ho)
          have G5 : Hid (W4.grownBy w5 none) := Lib.hid (grown_own (grown_alloc GR.out _) hg (fun j hj => (World.ownsRow.lt TOP.out j hj).1))
          clear ho hg TOP hx hxf RAT
          go_wp2_with fail
          go_roundw
          case rel => exact ⟨i + 1, by omega, by go_num, G5.out, _, TB.out, RB.out⟩
          case measure => simp [intOf]; omega
        · have : i = P.length := by omega
          subst this
          have TS : Hid (Tab wr u7 vs (Sp.sel m (Sp.firsts Sp.has m))) := Lib.hid (by have := RAT.out; rw [List.take_length] at this; rw [HPP.out]; exact this.tab GR.out TOP.out)
          have SM := Lib.hid (sel_made HOK.out l)
          have PU : Hid (∀ b, Sp.Row P.length b → (∀ j, Sp.toV l j = Sp.comb (Sp.toV b) ((Sp.sel m (Sp.firsts Sp.has m)).map Sp.toV) j) → Sp.IsBy m l (Sp.put (List.replicate m.length 0) P b P.length)) := Lib.hid (by rw [← HPP.out]; exact fun b hb h => Sp.IsBy.puts hb h)
          obtain ⟨S, hS⟩ : ∃ S, Sp.sel m (Sp.firsts Sp.has m) = S := ⟨_, rfl⟩
          have SL : Hid (S.length = P.length) := Lib.hid (by rw [← hS]; unfold Sp.sel; rw [List.length_map, HPP.out])
          have SK := Sp.sel_ok HOK.out
          rw [hS] at TS SK SM PU
          have HSK := Lib.hid SK
          have HAS : Hid (hasM m l = true ↔ Sp.Made m l) := Lib.hid (by
            unfold hasM
            rw [HOK.out, HVL.out]
            simp only [Bool.true_and]
            exact Sp.has_iff HM.out RL.out)
          clear hS SK RAT TOP
          go_wp2_with fail
          refine (specL3By u7 x vs S l _ TS.out (okM_all HSK.out) (by rw [SL.out]; exact P8) (X4.out.grown GR.out) RL.out).mono ?_
          rintro e W5 ⟨b, l', han, o, rfl, hg, ho⟩
          have G5 := Lib.hid (grown_trans GR.out hg)
          have O5 := Lib.hid ho.sl
          have AN := Lib.hid han
          clear hg ho han
          cases b with
          | false =>
            have R : Hid (hasM m l = false) := Lib.hid (by
              rcases AN.out with ⟨hb, _⟩ | ⟨_, hn, _⟩
              · cases hb
              · cases hh : hasM m l with
                | false => rfl
                | true => exact absurd (SM.out.2 (HAS.out.1 hh)) hn)
            go_wp2_with fail
            go_ret2
            exact ⟨_, false, [], rfl, grown_alloc (grown_trans G4.out G5.out) _, Own.made _ _ [] (grown_trans G4.out G5.out).size (by simp), ByM.no R.out⟩
          | true =>
            have R : Hid (hasM m l = true ∧ Sp.Row P.length l' ∧ Sp.IsBy m l (Sp.put (List.replicate m.length 0) P l' P.length)) := Lib.hid (by
              rcases AN.out with ⟨_, hmade, hrow, hcomb⟩ | ⟨hb, _⟩
              · rw [SL.out] at hrow
                exact ⟨HAS.out.2 (SM.out.1 hmade), hrow, PU.out _ hrow hcomb⟩
              · cases hb)
            obtain ⟨ao, co, eo, ho1, ho2, _⟩ := O5.out
            rw [R.out.2.1.1] at eo ho1
            subst eo
            unfold maxLen at ho2
            have hn0 : (0 : Int) ≤ (m.length : Int) := by omega
            clear AN SM PU HAS TS
            go_wp2_with (at_make; refine wpList_make_full _ rfl _ _ 24 rfl W5.heap.size 3 j0 (.int .i64 0) 1 Try.underlying24 J1.out J2.out J3.out _ _ _ _ m.length rfl rfl rfl rfl ?b1 ?b2 ?b3 ?_)
            case b1 => rw [J4.out]; omega
            case b2 => unfold maxLen; omega
            case b3 => exact Nat.le_refl _
            intro W6 ho hg
            have OW : Hid (Own W6 W5.heap.size (.slice (some ⟨W5.heap.size, 0, none⟩) m.length m.length) (List.replicate m.length 0)) := Lib.hid (by
              refine own_len (n := m.length) ?_ (by rw [List.length_replicate])
              rw [show vals (List.replicate m.length 0) = List.replicate m.length (.int .i64 0) by simp [vals]]
              simpa [toList_madeCells_one] using ho)
            have G6 := Lib.hid hg
            have lt5 : W5.heap.size < W6.heap.size := by
              rcases OW.out.2 with ⟨e, _⟩ | ⟨g, cap, cur, e, _, hh, _⟩
              · cases e
              · injection e with e
                injection e with e
                injection e with e
                subst e
                exact (Array.getElem?_eq_some_iff.1 hh).1
            clear ho hg
            go_wp2_with fail
            go_loopw [12] (fun ii wz => ∃ k : Nat, k ≤ P.length ∧ ii = .int .i64 k ∧ W5.grownBy wz none ∧ Own wz W5.heap.size (.slice (some ⟨W5.heap.size, 0, none⟩) m.length m.length) (Sp.put (List.replicate m.length 0) P l' k)) (fun ii _ => P.length - (intOf ii).toNat)
            case atStart => exact ⟨0, Nat.zero_le _, rfl, G6.out, OW.out⟩
            case round =>
              obtain ⟨k, hk, rfl, hg, ho⟩ := hrel
              have GZ := Lib.hid (grown_drew hg)
              have O := Lib.hid (ho.still (grown_drew (World.grownBy.refl _ _)))
              have GY := Lib.hid hg
              have O' := Lib.hid ho
              clear hg ho OW
              by_cases hlt : k < P.length
              · have hlt' : (k : Int) < (P.length : Int) := by omega
                have SFR := Lib.hid (SF4.out.grown (grown_trans G5.out GZ.out))
                obtain ⟨a, capf, e, _, _, hr⟩ := SFR.out
                injection e with e1 e2 e3
                subst e1 e3
                clear e2
                obtain ⟨bf, of, rfl, hxf⟩ := hr.at_ (k := k) (by have := HFL.out; omega)
                obtain ⟨p, hpe⟩ : ∃ p, P[k] = p := ⟨_, rfl⟩
                have fv : F.getD k 0 = (p : Int) := by
                  rw [← HF.out, List.getD_eq_getElem?_getD, List.getElem?_map, List.getElem?_eq_getElem hlt, hpe]; rfl
                rw [fv] at hxf
                have hpm : p < m.length := by rw [← hpe]; exact Sp.first_lt _ (by rw [HPP.out]; exact List.getElem_mem hlt)
                have hpm' : (p : Int) < (m.length : Int) := by omega
                have OBR := Lib.hid (O5.out.grown GZ.out)
                obtain ⟨a2, capf2, e, _, _, hr2⟩ := OBR.out
                injection e with e1 e2 e3
                subst e1 e3
                clear e2
                obtain ⟨bo, oo, rfl, hxo⟩ := hr2.at_ (k := k) (by rw [R.out.2.1.1]; exact hlt)
                obtain ⟨y, hye⟩ : ∃ y, l'.getD k 0 = y := ⟨_, rfl⟩
                rw [hye] at hxo
                have pl : (Sp.put (List.replicate m.length 0) P l' k).length = m.length := by rw [Sp.put_length, List.length_replicate]
                have PK : Hid (Sp.put (List.replicate m.length 0) P l' (k + 1) = (Sp.put (List.replicate m.length 0) P l' k).set p y) := Lib.hid (by
                  rw [Sp.put, hye]
                  congr 1
                  rw [List.getD_eq_getElem?_getD, List.getElem?_eq_getElem hlt, hpe]; rfl)
                have PL := Lib.hid pl
                have hc0 := World.ownsRow.cells O.out (g := W5.heap.size) rfl p (.int .i64 ((Sp.put (List.replicate m.length 0) P l' k).getD p 0)) (vals_get _ p (by rw [pl]; exact hpm))
                rw [Addr.add_lit] at hc0
                have hc : wr.drew.cell? ⟨W5.heap.size, p, none⟩ = some (.int .i64 ((Sp.put (List.replicate m.length 0) P l' k).getD p 0)) := by simpa using hc0
                have hf : wr.drew.frozen? ⟨W5.heap.size, p, none⟩ = false := by
                  have := O.out
                  unfold Own at this
                  rw [PL.out] at this
                  exact World.ownsRow.frozenAt this p
                obtain ⟨z, hz⟩ : ∃ z, (Sp.put (List.replicate m.length 0) P l' k).getD p 0 = z := ⟨_, rfl⟩
                rw [hz] at hc
                have ST : Hid (Own (wr.drew.setCell ⟨W5.heap.size, p, none⟩ (.int .i64 y)) W5.heap.size (.slice (some ⟨W5.heap.size, 0, none⟩) m.length m.length) ((Sp.put (List.replicate m.length 0) P l' k).set p y)) := Lib.hid (by
                  have := O.out
                  unfold Own at this
                  rw [PL.out] at this
                  have hs := World.ownsRow.stored this p (.int .i64 y)
                  refine own_len (n := m.length) ?_ (by rw [List.length_set]; exact PL.out)
                  rw [← vals_set]
                  exact hs.1)
                have G7 : Hid (W5.grownBy (wr.drew.setCell ⟨W5.heap.size, p, none⟩ (.int .i64 y)) none) := Lib.hid (grown_set GZ.out (p := ⟨W5.heap.size, p, none⟩) (Nat.le_refl _) _)
                clear hr fv hpe hr2 hye pl hc0 hz O O' GZ
                go_wp2_with fail
                refine wp_region_still_tail 10 (by kernel_rfl) (by kernel_rfl) ?_
                simp only [List.take_succ_cons, List.take_zero, List.drop_succ_cons, List.drop_zero]
                change wpStill _ _ wr.drew (fun a' => wpList _ _ _ _ a' wr.drew) _ _
                generalize wr.drew = w3 at *
                repeat still_step
                refine wpStill_nil ?_
                go_wp2_with fail
                clear hc hf hxf hxo
                go_roundw
                case rel => exact ⟨k + 1, by omega, by go_num, G7.out, by rw [PK.out]; exact ST.out⟩
                case measure => simp [intOf]; omega
              · have : k = P.length := by omega
                subst this
                go_wp2_with fail
                go_ret2
                exact ⟨_, true, _, rfl, grown_trans (grown_trans G4.out G5.out) GY.out, O'.out.lower (grown_trans G4.out G5.out).size, R.out.1.symm, .inl ⟨rfl, HOK.out, HVL.out, R.out.2.2⟩⟩
end Go.Proofs.Ytdbajokjhllekaa
