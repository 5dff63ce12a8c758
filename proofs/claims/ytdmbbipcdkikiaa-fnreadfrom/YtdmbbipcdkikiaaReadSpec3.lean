/-
  The contract of ReadFind in the model.
  Conditions: none.
-/
import Derived.Test.YtdmbbipcdkikiaaReadSpec2
import Derived.Test.YtdmbbipcdkikiaaG3
import Derived.Test.YtdmbbipcdkikiaaG4
namespace Go.Proofs.Ytdmbbipcdkikiaa
open Go.RowKit
set_option linter.unusedVariables false

theorem brds_news {w : World} {b o : Nat} {l : List Bool} (h : BRds w (some ⟨b, o, none⟩) l) : ∀ j u, (bvals l)[j]? = some u → w.cell? ((⟨b, o, none⟩ : Addr).add j) = some u := by
  intro j u hj
  have hl : j < l.length := by have := (List.getElem?_eq_some_iff.1 hj).1; rwa [bvals_length] at this
  obtain ⟨b', o', e, hc⟩ := h.at_ hl
  injection e with e
  injection e with e1 e2
  subst e1 e2
  rw [bvals_get l j hl] at hj
  injection hj with hj
  subst hj
  rw [Addr.add_lit]; exact hc

set_option maxHeartbeats 8000000 in
set_option maxRecDepth 20000 in
theorem specReadFind (k : Int) (u v : Value) (l : List Int) (f : List Bool) (w : World) (hu : Sl w u l) (hv : Bl w v f) (h1 : l.length ≤ 1048576) : Calls Try.prog 19 #[.int .i64 k, u, v] w fun e w' => ∃ r, e = .returned (.int .i64 r) ∧ FindT k l f r ∧ w.grownBy w' none := by
  have U := Lib.hid hu
  have V := Lib.hid hv
  have SV := Lib.hid (specVals u v l f w hu hv h1)
  clear hu hv
  rcases kind_cases k with ⟨j, rfl, hj⟩ | ⟨k1, k2⟩
  · have K := kindM_yes hj
    obtain ⟨q, hq⟩ : ∃ q, (shOk l && decide (f.length = 8)) = q := ⟨_, rfl⟩
    rw [hq] at SV
    have Q := Lib.hid hq
    have HJ := Lib.hid hj
    clear hq hj
    cases q with
    | false =>
      have NO : Hid (FindT j l f (-2)) := Lib.hid (.inr ⟨(fun h => by
        have := Q.out
        rw [h.2.1, decide_eq_true h.2.2] at this
        cases this), rfl⟩)
      go_enter Try.func19, Try.ntmps19
      go_wp2_with fail
      refine (specKind j _).mono ?_
      rintro e w' ⟨rfl, rfl⟩
      rw [K]
      go_wp2_with fail
      refine SV.out.mono ?_
      rintro e w' ⟨rfl, rfl⟩
      go_wp2_with fail
      go_ret
      exact ⟨-2, rfl, NO.out, World.grownBy.refl _ _⟩
    | true =>
      have Y : Hid (shOk l = true ∧ f.length = 8) := Lib.hid (by simpa using Q.out)
      have OKR : Hid (okR j l f) := Lib.hid ⟨by have := HJ.out; omega, Y.out.1, Y.out.2⟩
      have RL := Lib.hid (shOk_row.1 Y.out.1)
      have F8 : Hid (f.length = 8) := Lib.hid Y.out.2
      obtain ⟨i0, hi, hz0, hz1, hz2⟩ := info_parts infoBool
      have I1 := Lib.hid hi
      have I2 := Lib.hid hz0
      have I3 := Lib.hid hz1
      have I4 := Lib.hid hz2
      clear hi hz0 hz1 hz2
      obtain ⟨av, cv, ev, c1, c2, _⟩ := V.out
      subst ev
      unfold maxLen at c2
      rw [F8.out] at c1 V ⊢
      go_enter Try.func19, Try.ntmps19
      go_wp2_with fail
      refine (specKind j _).mono ?_
      rintro e w' ⟨rfl, rfl⟩
      rw [K]
      clear K
      go_wp2_with fail
      rw [F8.out] at SV
      refine SV.out.mono ?_
      rintro e w' ⟨rfl, rfl⟩
      go_wp2_with fail
      refine (specL4Fits HJ.out u _ l f _ U.out V.out RL.out F8.out).mono ?_
      rintro e w1 ⟨q, rfl, hq, hg⟩
      have G1 := Lib.hid hg
      have QQ := Lib.hid hq
      clear hg hq SV Q
      cases q with
      | true =>
        have FA := Lib.hid (Sp.found_all (QQ.out.1 rfl))
        go_wp2_with fail
        go_ret
        exact ⟨-1, rfl, .inl ⟨OKR.out, FA.out⟩, G1.out⟩
      | false =>
        have NF : Hid (¬ Sp.Fit j f l) := Lib.hid (fun h => by have := QQ.out.2 h; cases this)
        clear QQ
        go_wp2_with fail
        go_loopw [7, 8] (fun o i wr => ∃ (n : Nat) (r : Int), n ≤ 8 ∧ i = .int .i64 n ∧ o = .int .i64 r ∧ Sp.Looked j f l n r ∧ w.grownBy wr none) (fun _ i _ => 8 - (intOf i).toNat)
        case atStart => exact ⟨0, -2, by omega, rfl, rfl, .start, G1.out⟩
        case round =>
          obtain ⟨n, r, hn, rfl, rfl, hlo, hg⟩ := hrel
          have LO := Lib.hid hlo
          have G := Lib.hid hg
          clear hlo hg G1
          by_cases hlt : n < 8
          · have hlt' : (n : Int) < 8 := by omega
            have B3 := Lib.hid (V.out.grown G.out)
            obtain ⟨a', c', e', _, _, hr⟩ := B3.out
            injection e' with e1 e2 e3
            subst e1 e3
            obtain ⟨b, o, rfl, hxn⟩ := hr.at_ (k := n) (by rw [F8.out]; exact hlt)
            have O0 : Hid (BOwn (wr.alloc (.cells #[] 4)) wr.heap.size (.slice (some ⟨wr.heap.size, 0, none⟩) 0 0) []) := Lib.hid ((BArr.new wr 4 []).own rfl _ (Nat.le_refl _) (by simp [maxLen]))
            have R0 := Lib.hid (brds_news (hr.grown (World.grownBy_alloc wr (.cells #[] 4) none)))
            have fl : (bvals f).length = 8 * 1 := by rw [bvals_length, F8.out]
            have RR := Lib.hid hr
            clear e2 hr hxn
            go_wp2_with (first
              | (at_builtin; refine wpList_append_own _ rfl _ _ 23 rfl wr.heap.size 4 i0 (.bool false) 1 1 Try.underlying23 I1.out I2.out I3.out I4.out rfl (by decide) _ _ _ rfl O0.out ⟨b, o, none⟩ 8 cv (bvals f) rfl fl R0.out (bvals_one f) ?c3 ?c4 ?c5 ?_))
            case c3 => simp [maxLen]
            case c4 => simp
            case c5 => simp
            intro x W4 ho hg _
            have G4 : Hid (wr.grownBy W4 none) := Lib.hid (grown_own (grown_alloc (World.grownBy.refl _ _) _) hg (fun j hj => (World.ownsRow.lt O0.out j hj).1))
            have O4 : BOwn W4 wr.heap.size x f := by
              unfold BOwn
              rw [F8.out]
              simpa [bvals] using ho
            clear ho hg O0 R0 fl
            obtain ⟨g, cq, rfl, gb, gl, cq8, cqm, gc, gf⟩ := O4.eight F8.out
            unfold maxLen at cqm
            have hx := gc n hlt
            have hf := gf n
            generalize f.getD n false = r0 at hx
            have P4 := Lib.hid (O4.put F8.out.symm n false)
            have G5 : Hid (wr.grownBy (W4.setCell ⟨g, n, none⟩ (.bool false)) none) := Lib.hid (grown_own G4.out P4.out.2 (fun q hq => by injection hq with hq; omega))
            have X5 := Lib.hid P4.out.1.bl
            have S8 : Hid ((f.set n false).length = 8) := Lib.hid (by rw [List.length_set]; exact F8.out)
            obtain ⟨b2, o2, e2, hth⟩ := (RR.out.grown G5.out).at_ (k := n) (by rw [F8.out]; exact hlt)
            injection e2 with e2
            injection e2 with e21 e22
            subst e21 e22
            have G6 := Lib.hid (grown_trans G.out G5.out)
            clear O4 gc gf P4 G4 G5 G B3 RR
            cases hfn : f.getD n false with
            | false =>
              rw [hfn] at hth
              have LS := Lib.hid (LO.out.skip (.inl hfn))
              clear hfn
              go_wp2_with fail
              clear hx hf hth
              go_roundw
              case rel => exact ⟨n + 1, r, by omega, by go_num, rfl, LS.out, G6.out⟩
              case measure => simp [intOf]; omega
            | true =>
              rw [hfn] at hth
              have HT := Lib.hid hfn
              clear hfn
              go_wp2_with fail
              clear hx hf hth
              generalize W4.setCell ⟨g, n, none⟩ (.bool false) = W5 at *
              refine (specL4Fits HJ.out u _ l (f.set n false) _ (U.out.grown G6.out) X5.out RL.out S8.out).mono ?_
              rintro e W6 ⟨q, rfl, hq, hg⟩
              have G7 := Lib.hid (grown_trans G6.out hg)
              have Q := Lib.hid hq
              clear hg hq G6 X5
              cases q with
              | false =>
                have LS := Lib.hid (LO.out.skip (.inr fun h => by have := Q.out.2 h; cases this))
                clear Q
                go_wp2_with fail
                go_roundw
                case rel => exact ⟨n + 1, r, by omega, by go_num, rfl, LS.out, G7.out⟩
                case measure => simp [intOf]; omega
              | true =>
                have FI := Lib.hid (Q.out.1 rfl)
                clear Q
                by_cases hr : r = -2
                · subst hr
                  have LS := Lib.hid (LO.out.new HT.out FI.out)
                  go_wp2_with fail
                  go_roundw
                  case rel => exact ⟨n + 1, n, by omega, by go_num, rfl, LS.out, G7.out⟩
                  case measure => simp [intOf]; omega
                · have TW := Lib.hid (LO.out.two hr hlt HT.out FI.out NF.out)
                  have hb : 0 ≤ r := by
                    rcases LO.out with ⟨e, _⟩ | ⟨j', e, _⟩
                    · exact absurd e hr
                    · omega
                  clear hr
                  go_wp2_with fail
                  go_ret
                  exact ⟨-2, rfl, .inl ⟨OKR.out, TW.out⟩, G7.out⟩
          · obtain rfl : n = 8 := by omega
            have DN := Lib.hid (LO.out.done NF.out)
            go_wp2_with fail
            go_ret
            exact ⟨r, rfl, .inl ⟨OKR.out, DN.out⟩, G.out⟩
  · have K := kindM_no k1 k2
    have NO : Hid (FindT k l f (-2)) := Lib.hid (.inr ⟨fun h => by have := h.1; omega, rfl⟩)
    clear k1 k2
    go_enter Try.func19, Try.ntmps19
    go_wp2_with fail
    refine (specKind k _).mono ?_
    rintro e w' ⟨rfl, rfl⟩
    rw [K]
    go_wp2_with fail
    go_ret
    exact ⟨-2, rfl, NO.out, World.grownBy.refl _ _⟩
end Go.Proofs.Ytdmbbipcdkikiaa
