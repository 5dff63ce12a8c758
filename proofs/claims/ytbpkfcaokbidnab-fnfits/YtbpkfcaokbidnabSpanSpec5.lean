/-
  The contract of the model's l3By.
  Conditions: at most eight rows of four numbers.
-/
import Derived.Test.YtbpkfcaokbidnabSpanSpec4
import Derived.Test.YtbpkfcaokbidnabSpanElim
import Derived.Test.YtbpkfcaokbidnabAppendZeros
import Derived.Deep.AppendLies
namespace Go.Proofs.Ytbpkfcaokbidnab
open Go.RowKit
set_option linter.unusedVariables false

/-- a row is written into the table. -/
theorem STab.set {w : World} {base g cap n : Nat} {us : List Value} {m : List (List Int)} {u : Value} {l : List Int} (h : STab w base (.slice (some ⟨g, 0, none⟩) n cap) us m) (hn : n = us.length) (hu : Sl w u l ∧ IntRow w u) (k : Nat) :
    STab (w.setCell ⟨g, k, none⟩ u) base (.slice (some ⟨g, 0, none⟩) n cap) (us.set k u) (m.set k l) ∧ w.grownBy (w.setCell ⟨g, k, none⟩ u) (some g) := by
  subst hn
  have hs := World.ownsRow.stored h.top k u
  refine ⟨⟨by rw [List.length_set]; exact hs.1, by simp [h.len], fun i x r hx hr => ?_⟩, hs.2⟩
  have hg : w.grownBy (w.setCell ⟨g, k, none⟩ u) (Value.slice (some ⟨g, 0, none⟩) us.length cap).ownBlock := hs.2
  by_cases hi : k = i
  · subst hi
    have h1 : k < us.length := by have := (List.getElem?_eq_some_iff.1 hx).1; simpa using this
    rw [List.getElem?_set_self h1] at hx
    rw [List.getElem?_set_self (by rw [← h.len]; exact h1)] at hr
    injection hx with hx
    injection hr with hr
    subst hx hr
    exact row_kept hu h.top hg
  · rw [List.getElem?_set_ne hi] at hx hr
    exact row_kept (h.rows i x r hx hr) h.top hg

theorem STab.frozen {w : World} {base g cap n : Nat} {us : List Value} {m : List (List Int)} (h : STab w base (.slice (some ⟨g, 0, none⟩) n cap) us m) (k : Nat) : w.frozen? ⟨g, k, none⟩ = false := by
  rcases h.top.2 with ⟨e, _⟩ | ⟨g', cap', cur, e, _, hg, _⟩
  · cases e
  · injection e with e
    injection e with e
    injection e with e
    subst e
    exact frozen_of_row w g k _ _ hg
theorem Rds.news {w : World} {b o : Nat} {l : List Int} (h : Rds w (some ⟨b, o, none⟩) l) : ∀ j u, (vals l)[j]? = some u → w.cell? ((⟨b, o, none⟩ : Addr).add j) = some u := by
  intro j u hj
  have hl : j < l.length := by have := (List.getElem?_eq_some_iff.1 hj).1; rwa [vals_length] at this
  obtain ⟨b', o', e, hc⟩ := h.at_ hl
  injection e with e
  injection e with e1 e2
  subst e1 e2
  rw [vals_get l j hl] at hj
  injection hj with hj
  subst hj
  rw [Addr.add_lit]; exact hc

set_option maxHeartbeats 4000000 in
set_option maxRecDepth 4000 in
theorem specL3By (v vv : Value) (us : List Value) (m : List (List Int)) (l : List Int) (w : World) (h : Tab w v us m) (hm : ∀ r ∈ m, Sp.Row 4 r) (h8 : m.length ≤ 8) (hv : Sl w vv l) (hl : Sp.Row 4 l) :
    Calls Try.prog 122 #[v, vv] w fun e w' => ∃ b l', Sp.Answers m l b l' ∧ NewInts2 l' b w e w' := by
  have T := Lib.hid h
  have HM := Lib.hid hm
  have SV := Lib.hid hv
  have RL := Lib.hid hl
  obtain ⟨a, cap, rfl, h1, h2, h3⟩ := h.top
  clear h h3 hm hv hl
  unfold maxLen at h2
  obtain ⟨i0, hi, hz0, hz1, hz2⟩ := info_parts infoInt
  have I1 := Lib.hid hi
  have I2 := Lib.hid hz0
  have I3 := Lib.hid hz1
  have I4 := Lib.hid hz2
  clear hi hz0 hz1 hz2
  obtain ⟨j0, hi, hz0, hz1, hz2⟩ := info_parts infoInts
  have J1 := Lib.hid hi
  have J2 := Lib.hid hz0
  have J3 := Lib.hid hz1
  have J4 := Lib.hid hz2
  clear hi hz0 hz1 hz2
  have M0 := Lib.hid (STab.made w w.heap.size (Nat.le_refl _))
  go_enter Try.func122, Try.ntmps122
  go_wp2_with fail
  go_loopw [6, 7] (fun o i wr => ∃ k : Nat, k ≤ m.length ∧ i = .int .i64 k ∧ w.grownBy wr none ∧ ∃ vs, STab wr w.heap.size o vs (Sp.start m k)) (fun _ i _ => m.length - (intOf i).toNat)
  case atStart => exact ⟨0, Nat.zero_le _, rfl, grown_alloc (World.grownBy.refl _ _) _, [], M0.out⟩
  case round =>
    obtain ⟨k, hk, rfl, hg, vs, hst⟩ := hrel
    have G := Lib.hid hg
    have O := Lib.hid hst
    have vl : vs.length ≤ 8 := by rw [hst.len, Sp.start_length]; omega
    clear hg hst M0
    by_cases hlt : k < m.length
    · have hlt' : (k : Int) < (m.length : Int) := by omega
      have hn0 : (0 : Int) ≤ (m.length : Int) := by omega
      go_wp2_with (at_make; refine wpList_make_full _ rfl _ _ 33 rfl wr.heap.size 3 i0 (.int .i64 0) 1 Try.underlying33 I1.out I2.out I3.out _ _ _ _ m.length rfl rfl rfl rfl ?b1 ?b2 ?b3 ?_)
      case b1 => rw [I4.out]; omega
      case b2 => unfold maxLen; omega
      case b3 => exact Nat.le_refl _
      intro w1 ho hg
      have G1 := Lib.hid (grown_trans G.out hg)
      have O1 := Lib.hid (O.out.still hg)
      have OW : Hid (w1.ownsRow wr.heap.size 3 1 (.slice (some ⟨wr.heap.size, 0, none⟩) m.length m.length) m.length (List.replicate m.length (.int .i64 0))) := Lib.hid (by simpa [toList_madeCells_one] using ho)
      have hc0 := World.ownsRow.cells OW.out (g := wr.heap.size) rfl k (.int .i64 0) (by rw [List.getElem?_replicate, if_pos hlt])
      rw [Addr.add_lit] at hc0
      have hc : w1.cell? ⟨wr.heap.size, k, none⟩ = some (.int .i64 0) := by simpa using hc0
      have hf := World.ownsRow.frozenAt OW.out k
      have ST := Lib.hid (World.ownsRow.stored OW.out k (.int .i64 1))
      obtain ⟨b, o, cap', u, e, hu, hx, hs⟩ := (T.out.grown G1.out).at_ hlt
      injection e with e1 e2 e3
      subst e1 e3
      have blt : b < wr.heap.size := by
        obtain ⟨b', o', cap'', u', e, _, hx', _⟩ := (T.out.grown G.out).at_ hlt
        injection e with e1 e2 e3
        injection e1 with e1
        injection e1 with e1
        subst e1
        exact lt_of_cell hx'
      have hne : b ≠ wr.heap.size := by omega
      have W1 := Lib.hid (grown_alloc (grown_set hg (p := ⟨wr.heap.size, k, none⟩) (Nat.le_refl _) (.int .i64 1)) (.cells #[] 3))
      have lt1 : wr.heap.size < w1.heap.size := lt_of_cell hc
      clear hc0 ho hg hs hx hu
      obtain ⟨_, _, _, u', e, hu, hx, hs⟩ := (T.out.grown (grown_trans G.out W1.out)).at_ hlt
      injection e with e1 e2 e3
      injection e1 with e1
      injection e1 with e1 e5
      subst e1 e5 e3
      have RM := Lib.hid (Sp.fresh_row HM.out hlt)
      obtain ⟨rk, hrk⟩ : ∃ rk, m.getD k [] = rk := ⟨_, rfl⟩
      have RK := Lib.hid hrk
      rw [hrk] at RM hs
      obtain ⟨au, cu, rfl, hu1, hu2, hu3⟩ := hs
      obtain ⟨bu, ou, rfl, _⟩ := hu3.at_ (k := 0) (by rw [RM.out.1]; omega)
      rw [RM.out.1] at hx
      have NEWS := Lib.hid (hu3.news)
      clear hu3 hu hrk
      go_wp2_with (at_builtin; refine wpList_append_lies _ rfl _ _ 33 rfl wr.heap.size 3 i0 (.int .i64 0) 1 8 Try.underlying33 I1.out I2.out I3.out I4.out rfl (by decide) _ 0 [] rfl ?own ⟨bu, ou, none⟩ 4 cu (vals rk) rfl ?nl NEWS.out (vals_one rk) ?d1 ?d2 ?d3 ?d4 _ rfl ?_)
      case own => exact ⟨rfl, .inr ⟨w1.heap.size, 0, #[], by simp, by omega, by simpa using heap_alloc_new (w1.setCell ⟨wr.heap.size, k, none⟩ (.int .i64 1)) (.cells #[] 3), Nat.le_refl _, by simp [maxLen], by simp, by simp⟩⟩
      case nl => rw [vals_length, RM.out.1]
      case d2 => unfold maxLen; omega
      case d4 => omega
      intro g1 c1 w2 hown2 hg2 hat2 hlt2
      have g1ge : w1.heap.size ≤ g1 := by
        rcases hat2 with h | h
        · have : w1.heap.size = g1 := by simpa [Value.ownBlock] using h
          omega
        · omega
      have W2 : Hid (wr.grownBy w2 none) := Lib.hid (grown_own W1.out hg2 (fun j hj => by
        have : w1.heap.size = j := by simpa [Value.ownBlock] using hj
        omega))
      have OT : Hid (w2.ownsRow wr.heap.size 3 1 (.slice (some ⟨wr.heap.size, 0, none⟩) m.length m.length) m.length (vals ((List.replicate m.length 0).set k 1))) := Lib.hid (by
        have h := ST.out.1
        have e : (List.replicate m.length (Value.int .i64 0)).set k (.int .i64 1) = vals ((List.replicate m.length 0).set k 1) := by rw [← vals_set]; simp [vals]
        rw [e] at h
        exact World.ownsRow.kept (World.ownsRow.alloc h _) hg2 (.inr (by simp [Value.ownBlock]; omega)))
      have OW2 := Lib.hid hown2
      have NEWS2 := Lib.hid (World.ownsRow.cells OT.out (g := wr.heap.size) rfl)
      have s2 := W2.out.size
      clear hown2 hg2 hat2 NEWS ST OW hc hf hx W1
      have ul : (vals ((List.replicate m.length (0 : Int)).set k 1)).length = m.length * 1 := by simp [vals_length]
      go_wp2_with (at_builtin; refine wpList_append_lies _ rfl _ _ 33 rfl wr.heap.size 3 i0 (.int .i64 0) 1 8 Try.underlying33 I1.out I2.out I3.out I4.out rfl (by decide) _ 4 (vals rk) rfl OW2.out ⟨wr.heap.size, 0, none⟩ m.length m.length (vals ((List.replicate m.length 0).set k 1)) rfl ul NEWS2.out (vals_one _) ?f1 ?f2 ?f3 ?f4 _ rfl ?_)
      case f1 => omega
      case f2 => unfold maxLen; omega
      case f3 => omega
      case f4 => omega
      intro g2 c2 w3 hown3 hg3 hat3 hlt3
      have W3 : Hid (wr.grownBy w3 none) := Lib.hid (grown_own W2.out hg3 (fun j hj => by
        have : g1 = j := by simpa [Value.ownBlock] using hj
        omega))
      have R3 : Hid (Sl w3 (.slice (some ⟨g2, 0, none⟩) (4 + m.length) c2) (rk ++ (List.replicate m.length 0).set k 1) ∧ IntRow w3 (.slice (some ⟨g2, 0, none⟩) (4 + m.length) c2)) := Lib.hid (by
        have ho : Own w3 wr.heap.size (.slice (some ⟨g2, 0, none⟩) (4 + m.length) c2) (rk ++ (List.replicate m.length 0).set k 1) := by
          unfold Own
          have e1 : (rk ++ (List.replicate m.length (0 : Int)).set k 1).length = 4 + m.length := by simp [RM.out.1]
          have e2 : vals (rk ++ (List.replicate m.length (0 : Int)).set k 1) = vals rk ++ vals ((List.replicate m.length 0).set k 1) := by simp [vals]
          rw [e1, e2]; exact hown3
        exact ⟨ho.sl, ho.intRow⟩)
      have TOP := Lib.hid (O.out.still W3.out).top
      have s3 : w.heap.size ≤ w3.heap.size := Nat.le_trans G.out.size W3.out.size
      clear hown3 hg3 hat3 hlt3 NEWS2 OW2 OT W2 hlt2 ul
      go_wp2_with (at_builtin; refine wpList_append_own _ rfl _ _ 62 rfl w.heap.size 33 j0 (.slice none 0 0) 1 24 Try.underlying62 J1.out J2.out J3.out J4.out rfl (by decide) _ _ _ rfl (World.ownsRow.alloc TOP.out _) ⟨w3.heap.size, 0, none⟩ 1 1 [.slice (some ⟨g2, 0, none⟩) (4 + m.length) c2] rfl rfl (one_cell (g := 0)) (by simp [Value.oneCell']) ?c3 ?c4 ?c5 ?_)
      case c3 => unfold maxLen; omega
      case c4 => omega
      case c5 => simp; omega
      intro o' w5 ho2 hg2 _
      have N : Hid (STab w5 w.heap.size o' (vs ++ [.slice (some ⟨g2, 0, none⟩) (4 + m.length) c2]) (Sp.start m (k + 1))) := Lib.hid (O.out.snoc W3.out R3.out (grown_trans (World.grownBy_alloc _ _ _) hg2) ho2 rfl (by rw [Sp.start_succ, RK.out]))
      have G5 : Hid (w.grownBy w5 none) := Lib.hid (grown_own (grown_alloc (grown_trans G.out W3.out) _) hg2 (fun j hj => (World.ownsRow.lt TOP.out j hj).1))
      clear ho2 hg2 TOP
      go_wp2_with fail
      go_roundw
      case rel => exact ⟨k + 1, by omega, by go_num, G5.out, _, N.out⟩
      case measure => simp [intOf]; omega
    · have : k = m.length := by omega
      subst this
      obtain ⟨av, cv, e, hv1, hv2, hv3⟩ := SV.out
      subst e
      obtain ⟨bv, ov, rfl, _⟩ := hv3.at_ (k := 0) (by rw [RL.out.1]; omega)
      have NEWS := Lib.hid ((hv3.grown (grown_alloc G.out (.cells #[] 3))).news)
      rw [RL.out.1] at *
      have s0 := G.out.size
      have G1 := Lib.hid (grown_alloc G.out (.cells #[] 3))
      clear hv3
      go_wp2_with (at_builtin; refine wpList_append_lies _ rfl _ _ 33 rfl wr.heap.size 3 i0 (.int .i64 0) 1 8 Try.underlying33 I1.out I2.out I3.out I4.out rfl (by decide) _ 0 [] rfl ?own ⟨bv, ov, none⟩ 4 cv (vals l) rfl ?nl NEWS.out (vals_one l) ?d1 ?d2 ?d3 ?d4 _ rfl ?_)
      case own => exact ⟨rfl, .inr ⟨wr.heap.size, 0, #[], rfl, by omega, heap_alloc_new wr (.cells #[] 3), Nat.le_refl _, by simp [maxLen], by simp, by simp⟩⟩
      case nl => rw [vals_length, RL.out.1]
      case d2 => unfold maxLen; omega
      case d4 => simp
      intro g1 c1 w2 hown2 hg2 hat2 hlt2
      have W2 : Hid (wr.grownBy w2 none) := Lib.hid (grown_own (grown_alloc (World.grownBy.refl _ _) _) hg2 (fun j hj => by
        have : wr.heap.size = j := by simpa [Value.ownBlock] using hj
        omega))
      have g1ge : wr.heap.size ≤ g1 := by
        rcases hat2 with h | h
        · have : wr.heap.size = g1 := by simpa [Value.ownBlock] using h
          omega
        · omega
      have OW2 := Lib.hid hown2
      have s2 := W2.out.size
      clear hown2 hg2 hat2 NEWS hlt2 G1
      go_wp2_with (at_builtin; refine wpList_append_zeros _ rfl _ _ 33 3 rfl wr.heap.size 3 i0 .i64 Try.underlying33 Try.underlying3 I1.out I2.out I3.out I4.out g1 4 c1 (vals l) rfl OW2.out m.length rfl ?z1 ?z2 ?_)
      case z1 => omega
      case z2 => omega
      intro g2 c2 w3 hown3 hg3 hat3 hlt3
      have W3 : Hid (wr.grownBy w3 none) := Lib.hid (grown_own W2.out hg3 (fun j hj => by
        have : g1 = j := by simpa using hj
        omega))
      have R3 : Hid (Sl w3 (.slice (some ⟨g2, 0, none⟩) (4 + m.length) c2) (l ++ List.replicate m.length 0) ∧ IntRow w3 (.slice (some ⟨g2, 0, none⟩) (4 + m.length) c2)) := Lib.hid (by
        have ho : Own w3 wr.heap.size (.slice (some ⟨g2, 0, none⟩) (4 + m.length) c2) (l ++ List.replicate m.length 0) := by
          unfold Own
          have e1 : (l ++ List.replicate m.length (0 : Int)).length = 4 + m.length := by simp [RL.out.1]
          have e2 : vals (l ++ List.replicate m.length (0 : Int)) = vals l ++ List.replicate m.length (.int .i64 0) := by simp [vals]
          rw [e1, e2]; exact hown3
        exact ⟨ho.sl, ho.intRow⟩)
      have O3 := Lib.hid (O.out.still W3.out)
      have G3 := Lib.hid (grown_trans G.out W3.out)
      have E0 := Lib.hid (Sp.El.start HM.out RL.out)
      clear hown3 hg3 hat3 hlt3 OW2 W2 O G W3 s2 s0 g1ge
      obtain ⟨atop, ctop, etop, htop1, htop2, _⟩ := O3.out.tab.top
      rw [Sp.start_length] at etop htop1
      unfold maxLen at htop2
      subst etop
      go_wp2_with fail
      go_loopw [9, 10] (fun x i wr => ∃ (p : Nat) (R : List (List Int)) (s : List Int) (vs : List Value), p ≤ 4 ∧ i = .int .i64 p ∧ Sp.El m l p R s ∧ STab wr w.heap.size (.slice atop m.length ctop) vs R ∧ (Sl wr x s ∧ IntRow wr x) ∧ w.grownBy wr none) (fun _ i _ => 4 - (intOf i).toNat)
      case atStart => exact ⟨0, _, _, _, by omega, rfl, E0.out, O3.out, R3.out, G3.out⟩
      case round =>
        obtain ⟨wr2, rfl⟩ : ∃ w4, w4 = wr := ⟨_, rfl⟩
        obtain ⟨x0, rfl⟩ : ∃ x0, x0 = u9 := ⟨_, rfl⟩
        obtain ⟨p, R, s, vs2, hp, rfl, hE, hT, hR, hG⟩ := hrel
        have E := Lib.hid hE
        have TT := Lib.hid hT
        have RS := Lib.hid hR
        have G2 := Lib.hid hG
        clear hE hT hR hG E0 O3 R3 G3
        by_cases hp4 : p < 4
        · have hp4' : (p : Int) < 4 := by omega
          go_wp2_with fail
          go_loopw [9, 11] (fun x i w' => ∃ j : Nat, j ≤ m.length ∧ i = .int .i64 j ∧ w' = wr2 ∧ x = x0 ∧ ∀ q, q < j → Vec.first (R.getD q []) 0 ≠ (p : Int)) (fun _ i _ => m.length - (intOf i).toNat)
          case atStart => exact ⟨0, Nat.zero_le _, rfl, rfl, rfl, fun q hq => by omega⟩
          case round =>
            obtain ⟨j, hj, rfl, rfl, rfl, hno⟩ := hrel
            have NO := Lib.hid hno
            clear hno
            by_cases hjl : j < m.length
            · have hjl' : (j : Int) < (m.length : Int) := by omega
              obtain ⟨b, o, cap', u, e, hu, hx, hs⟩ := TT.out.tab.at_ (i := j) (by rw [E.out.len]; exact hjl)
              injection e with e1 e2 e3
              subst e1 e3
              have FL := Lib.hid (specL2Lead u (R.getD j []) wr hs)
              obtain ⟨fj, hfj⟩ : ∃ fj, Vec.first (R.getD j []) 0 = fj := ⟨_, rfl⟩
              rw [hfj] at FL
              have HF := Lib.hid hfj
              obtain rfl : o = 0 := by
                rcases TT.out.top.2 with ⟨e', _⟩ | ⟨g', cap', cur', e', _⟩
                · cases e'
                · injection e' with e'
                  injection e' with e'
                  injection e'
              simp only [Nat.zero_add] at hx
              clear hfj hs hu e2
              go_wp2_with fail
              refine FL.out.mono ?_
              rintro e w' ⟨rfl, rfl⟩
              by_cases hfp : fj ≠ (p : Int)
              · go_wp2_with fail
                go_roundw
                case rel => exact ⟨j + 1, by omega, by go_num, by first | rfl | trivial, by first | rfl | trivial, fun q hq => by
                  by_cases hqj : q = j
                  · subst hqj; rw [HF.out]; exact hfp
                  · exact NO.out q (by omega)⟩
                case measure => simp [intOf]; omega
              · have hfp : fj = (p : Int) := Classical.not_not.1 hfp
                subst hfp
                go_wp2_with fail
                go_loopw [12] (fun i w' => ∃ (n : Nat) (vs : List Value), n ≤ m.length ∧ i = .int .i64 n ∧ STab w' w.heap.size (.slice (some ⟨b, 0, none⟩) m.length ctop) vs (Sp.clr p j R n) ∧ (Sl w' u9 s ∧ IntRow w' u9) ∧ w.grownBy w' none) (fun i _ => m.length - (intOf i).toNat)
                case atStart => exact ⟨0, vs2, Nat.zero_le _, rfl, TT.out, RS.out, G2.out⟩
                case round =>
                  obtain ⟨wq, rfl⟩ : ∃ w4, w4 = wr := ⟨_, rfl⟩
                  obtain ⟨n, vs3, hn, rfl, hT, hR, hG⟩ := hrel
                  have T3 := Lib.hid hT
                  have R4 := Lib.hid hR
                  have G4 := Lib.hid hG
                  clear hT hR hG hx
                  by_cases hnl : n < m.length
                  · have hnl' : (n : Int) < (m.length : Int) := by omega
                    obtain ⟨b', o', cap', u', e, hu, hx, hs⟩ := T3.out.tab.at_ (i := n) (by rw [Sp.clr_length, E.out.len]; exact hnl)
                    injection e with e1 e2 e3
                    injection e1 with e1
                    injection e1 with e1 e5
                    subst e1 e5 e3
                    simp only [Nat.zero_add] at hx
                    obtain ⟨hjp, hlead⟩ := Sp.lead_of (E.out.row j hjl) HF.out
                    have RW := Lib.hid (Sp.clr_row (p := p) (i := j) (k := 4 + m.length) (R := R) (fun q hq => E.out.row q (by rw [← E.out.len]; exact hq)) (by rw [E.out.len]; exact hjl) n)
                    have RN := Lib.hid (RW.out n (by rw [E.out.len]; exact hnl))
                    have SN := Lib.hid hs
                    obtain ⟨rn, hrn⟩ : ∃ rn, (Sp.clr p j R n).getD n [] = rn := ⟨_, rfl⟩
                    have CL : Hid (Sp.clr p j R (n + 1) = if n ≠ j ∧ rn.getD p 0 ≠ 0 then (Sp.clr p j R n).set n (Sp.lless rn (R.getD j [])) else Sp.clr p j R n) := Lib.hid (by rw [Sp.clr, hrn, Sp.clr_own])
                    rw [hrn] at RN SN
                    have LD := Lib.hid hlead
                    clear e2 hs hu hrn hlead
                    by_cases hnj : n = j
                    · subst hnj
                      go_wp2_with fail
                      go_roundw
                      case rel => exact ⟨n + 1, vs3, by omega, by go_num, by rw [CL.out, if_neg (fun h => h.1 rfl)]; exact T3.out, R4.out, G4.out⟩
                      case measure => simp [intOf]; omega
                    · have hnj' : ¬ (n : Int) = (j : Int) := by omega
                      obtain ⟨au, cu, eu, hu1, hu2, hu3⟩ := SN.out
                      rw [RN.out.1] at eu hu1
                      subst eu
                      obtain ⟨bu, ou, rfl, hy⟩ := hu3.at_ (k := p) (by rw [RN.out.1]; exact hjp)
                      obtain ⟨y, hye⟩ : ∃ y, rn.getD p 0 = y := ⟨_, rfl⟩
                      rw [hye] at hy CL
                      unfold maxLen at hu2
                      have hpp : (p : Int) < 4 + (m.length : Int) := by omega
                      clear hu3 hye
                      by_cases hy0 : y = 0
                      · subst hy0
                        go_wp2_with fail
                        go_roundw
                        case rel => exact ⟨n + 1, vs3, by omega, by go_num, by rw [CL.out, if_neg (fun h => h.2 rfl)]; exact T3.out, R4.out, G4.out⟩
                        case measure => simp [intOf]; omega
                      · skip
                        have hyb : (y != 0) = true := by simpa using hy0
                        have hnb : ((n : Int) != (j : Int)) = true := by simpa using hnj'
                        have LL := Lib.hid (Sp.lless_len RN.out (E.out.row j hjl))
                        obtain ⟨b2, o2, cap2, uj, e, huj, hxj, hsj⟩ := T3.out.tab.at_ (i := j) (by rw [Sp.clr_length, E.out.len]; exact hjl)
                        injection e with e1 e2 e3
                        injection e1 with e1
                        injection e1 with e1 e5
                        subst e1 e5 e3
                        rw [Sp.clr_own] at hsj
                        have SJ := Lib.hid hsj
                        have GD : Hid (wq.grownBy wq.drew none) := Lib.hid (grown_drew (World.grownBy.refl _ _))
                        have LS := Lib.hid (specLess _ uj (4 + m.length) p rn (R.getD j []) wq.drew (SN.out.grown GD.out) (hsj.grown GD.out) RN.out (E.out.row j hjl) (by omega) HF.out hjp (fun e => LD.out.1 (by unfold Sp.toV; rw [e]; rfl)))
                        simp only [Nat.zero_add] at hxj
                        have c1 : wq.drew.cell? ⟨b, n, none⟩ = some (.slice (some ⟨bu, ou, none⟩) (4 + m.length) cu) := hx
                        have c2 : wq.drew.cell? ⟨b, j, none⟩ = some uj := hxj
                        clear e2 hsj huj hxj
                        go_wp2_with fail
                        · go_region_with (first
                            | (go_at_call 148; refine LS.out.mono ?_; rintro e w1 ⟨v1, rfl, hg1, ho1⟩
                               obtain ⟨ar, cr, er, _, _, _⟩ := ho1.sl
                               rw [LL.out] at er
                               subst er
                               have G1 := Lib.hid hg1
                               have O1 := Lib.hid ho1
                               have d1 := hg1.cell c1 (by simp)
                               have d2 := hg1.cell c2 (by simp)
                               have f1 := ((T3.out.still GD.out).still hg1).frozen n
                               clear hg1 ho1))
                          all_goals
                            have R5 := Lib.hid (And.intro O1.out.sl O1.out.intRow)
                            have T5 := Lib.hid (((T3.out.still GD.out).still G1.out).set (by rw [T3.out.len, Sp.clr_length, E.out.len]) R5.out n)
                            have R6 := Lib.hid (row_kept ⟨(R4.out.1.grown GD.out).grown G1.out, (R4.out.2.still GD.out).still G1.out⟩ ((T3.out.still GD.out).still G1.out).top T5.out.2)
                            have G6 := Lib.hid (grown_own (grown_trans (grown_trans G4.out GD.out) G1.out) T5.out.2 (fun q hq => (World.ownsRow.lt ((T3.out.still GD.out).still G1.out).top q hq).1))
                            obtain ⟨wz, hwz⟩ : ∃ wz, w1.setCell ⟨b, n, none⟩ (.slice ar (4 + m.length) cr) = wz := ⟨_, rfl⟩
                            rw [hwz] at T5 R6 G6 ⊢
                            have N5 : Hid (STab wz w.heap.size (.slice (some ⟨b, 0, none⟩) m.length ctop) (vs3.set n (.slice ar (4 + m.length) cr)) (Sp.clr p j R (n + 1))) := Lib.hid (by rw [CL.out, if_pos ⟨hnj, hy0⟩]; exact T5.out.1)
                            clear c1 c2 d1 d2 f1 hx hy hyb hnb hwz T5 R5 O1 G1 LL LS SJ GD CL T3 R4 G4 SN RN RW
                            go_wp2_with fail
                            go_roundw
                            case rel => exact ⟨n + 1, _, by omega, by go_num, N5.out, R6.out, G6.out⟩
                            case measure => simp [intOf]; omega
                  · have : n = m.length := by omega
                    subst this
                    obtain ⟨hjp, hlead⟩ := Sp.lead_of (E.out.row j hjl) HF.out
                    obtain ⟨b', o', cap', u', e, hu, hx, hs⟩ := T3.out.tab.at_ (i := j) (by rw [Sp.clr_length, E.out.len]; exact hjl)
                    injection e with e1 e2 e3
                    injection e1 with e1
                    injection e1 with e1 e5
                    subst e1 e5 e3
                    rw [Sp.clr_own] at hs
                    simp only [Nat.zero_add] at hx
                    have ST := Lib.hid (E.out.step hjl HF.out hlead)
                    have LS := Lib.hid (specLess u9 u' (4 + m.length) p s (R.getD j []) wq R4.out.1 hs E.out.rest (E.out.row j hjl) (by omega) HF.out hjp (fun e => hlead.1 (by unfold Sp.toV; rw [e]; rfl)))
                    clear e2 hs hu
                    go_wp2_with fail
                    refine LS.out.mono ?_
                    rintro e w6 ⟨x6, rfl, hg6, ho6⟩
                    have G6 := Lib.hid (grown_trans G4.out hg6)
                    have T6 := Lib.hid (T3.out.still hg6)
                    have R6 := Lib.hid (And.intro ho6.sl ho6.intRow)
                    clear hg6 ho6 hx
                    go_wp2_with fail
                    go_roundw
                    case rel => exact ⟨p + 1, _, _, vs3, by omega, by go_num, ST.out, T6.out, R6.out, G6.out⟩
                    case measure => simp [intOf]; omega
            · have : j = m.length := by omega
              subst this
              go_wp2_with fail
              go_roundw
              case rel => exact ⟨p + 1, R, s, vs2, by omega, by go_num, E.out.skip NO.out, TT.out, RS.out, G2.out⟩
              case measure => simp [intOf]; omega
        · have : p = 4 := by omega
          subst this
          have FL := Lib.hid (specL2Lead x0 s wr2 RS.out.1)
          obtain ⟨fs, hfs⟩ : ∃ fs, Vec.first s 0 = fs := ⟨_, rfl⟩
          rw [hfs] at FL
          have HF := Lib.hid hfs
          have sl := E.out.rest.1
          obtain ⟨ax, cx, ex, hx1, hx2, hx3⟩ := RS.out.1
          rw [E.out.rest.1] at ex hx1
          subst ex
          unfold maxLen at hx2
          obtain ⟨bx, ox, rfl, _⟩ := hx3.at_ (k := 0) (by rw [E.out.rest.1]; omega)
          have RX := Lib.hid hx3
          clear hfs sl hx3
          go_wp2_with fail
          refine FL.out.mono ?_
          rintro e w' ⟨rfl, rfl⟩
          go_wp2_with fail
          refine (specIn fs 0 3 _).mono ?_
          rintro e w' ⟨rfl, rfl⟩
          by_cases hin : 0 ≤ fs ∧ fs ≤ 3
          · have e : (decide (0 ≤ fs) && decide (fs ≤ 3)) = true := by simp [hin.1, hin.2]
            rw [e]
            go_wp2_with fail
            refine bodyPost_ret (v := .tuple #[.slice (some ⟨wr2.heap.size, 0, none⟩) 0 0, .bool false]) (by simp [results, Try.results122, go_sem]) rfl ?_
            refine ⟨false, [], E.out.no HM.out RL.out (p := fs.toNat) (by rw [HF.out]; omega) (by omega), _, rfl, grown_alloc G2.out _, ?_⟩
            exact Own.made wr2 w.heap.size [] G2.out.size (by simp [maxLen])
          · have e : (decide (0 ≤ fs) && decide (fs ≤ 3)) = false := by
              cases h0 : decide (0 ≤ fs) with
              | false => rfl
              | true =>
                have := of_decide_eq_true h0
                simp only [Bool.true_and, decide_eq_false_iff_not]
                intro h; exact hin ⟨this, h⟩
            rw [e]
            have AN := Lib.hid (E.out.yes HM.out RL.out (fun p hp h => hin ⟨by rw [HF.out] at h; omega, by rw [HF.out] at h; omega⟩))
            have RD : Hid (Sp.Row m.length (s.drop 4)) := Lib.hid ⟨by rw [List.length_drop, E.out.rest.1]; omega, fun x hx => E.out.rest.2 x (List.mem_of_mem_drop hx)⟩
            have SD : Hid (∀ y, Rds wr2 (some y) (s.drop 4) → ∀ c, m.length ≤ c → c ≤ maxLen → Sl wr2 (.slice (some y) m.length c) (s.drop 4)) := Lib.hid (fun y hy c h1 h2 => ⟨some y, c, by rw [RD.out.1], by rw [RD.out.1]; exact h1, h2, hy⟩)
            by_cases hc4 : cx = 4
            · subst hc4
              have m0 : Hid (m.length = 0) := Lib.hid (by omega)
              have D : Hid (Rds wr2 (some ⟨bx, ox, none⟩) (s.drop 4)) := Lib.hid (.inl (List.eq_nil_of_length_eq_zero (by rw [RD.out.1]; exact m0.out)))
              go_wp2_with fail
              refine (specMul (.slice (some ⟨bx, ox, none⟩) 0 0) m.length (s.drop 4) 30 _ ⟨_, 0, by rw [RD.out.1, m0.out], by rw [RD.out.1, m0.out]; exact Nat.le_refl _, Nat.zero_le _, D.out⟩ RD.out (by decide) (by omega)).mono ?_
              rintro e w5 ⟨x5, rfl, hg5, ho5⟩
              have G5 := Lib.hid hg5
              have O5 := Lib.hid ho5
              clear hg5 ho5
              go_wp2_with fail
              refine bodyPost_ret (v := .tuple #[x5, .bool true]) (by simp [results, Try.results122, go_sem]) rfl ?_
              exact ⟨true, _, AN.out, new2_after G2.out G5.out O5.out⟩
            · have c5 : (4 : Int) < (cx : Int) := by omega
              have D : Hid (Rds wr2 (some ⟨bx, ox + 4, none⟩) (s.drop 4)) := Lib.hid (by
                rcases RX.out with h | ⟨b', o', e', h⟩
                · exact .inl (by rw [h]; rfl)
                · injection e' with e'
                  injection e' with e1 e2
                  subst e1 e2
                  refine .inr ⟨bx, ox + 4, rfl, fun i hi => ?_⟩
                  have h1 := h (4 + i) (by rw [List.length_drop] at hi; omega)
                  rw [show ox + 4 + i = ox + (4 + i) by omega, h1]
                  simp [List.getD_eq_getElem?_getD, List.getElem?_drop])
              go_wp2_with fail
              refine (specMul _ m.length (s.drop 4) 30 _ (SD.out _ D.out (cx - 4) (by omega) (by unfold maxLen; omega)) RD.out (by decide) (by omega)).mono ?_
              rintro e w5 ⟨x5, rfl, hg5, ho5⟩
              have G5 := Lib.hid hg5
              have O5 := Lib.hid ho5
              clear hg5 ho5
              go_wp2_with fail
              refine bodyPost_ret (v := .tuple #[x5, .bool true]) (by simp [results, Try.results122, go_sem]) rfl ?_
              exact ⟨true, _, AN.out, new2_after G2.out G5.out O5.out⟩
end Go.Proofs.Ytbpkfcaokbidnab
