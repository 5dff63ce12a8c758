/-
  What this claim wants of the texts of earlier chapters.
  Conditions: none.
-/
import Derived.Test.YthglkgicckodaaaZG3
import Derived.Test.YthglkgicckodaaaZG2
import Derived.Test.YthglkgicckodaaaZG1
import Derived.Test.YthglkgicckodaaaZAppendZeros
import Derived.Deep.AppendLies
import Derived.Deep.RegionHeld3
import Derived.Maps.AppendAt

namespace Go.Proofs.Ythglkgicckodaaa
open Go.RowKit
set_option linter.unusedVariables false
theorem BOwn.far {w w' : World} {base c : Nat} {v : Value} {l : List Bool} (h : BOwn w base v l) (hf : Far c w w') (hc : c < base) : BOwn w' base v l :=
  h.kept (far_grown hf) (.inr fun e => by have := (World.ownsRow.lt h c e).1; omega)
def BlUp (w : World) (B : Nat) (v : Value) (l : List Bool) : Prop := Bl w v l ∧ ∀ x n cap, v = .slice (some x) n cap → B ≤ x.block
theorem BlUp.far {w w' : World} {B c : Nat} {v : Value} {l : List Bool} (h : BlUp w B v l) (hf : Far c w w') (hc : c < B) : BlUp w' B v l := by
  refine ⟨?_, h.2⟩
  obtain ⟨a, cap, rfl, h1, h2, hr⟩ := h.1
  refine ⟨a, cap, rfl, h1, h2, ?_⟩
  rcases hr with h0 | ⟨b, o, rfl, hr⟩
  · exact .inl h0
  · have hb : B ≤ b := h.2 _ _ _ rfl
    refine .inr ⟨b, o, rfl, fun i hi => ?_⟩
    have hx := hr i hi
    exact (hf.cell (p := ⟨b, o + i, none⟩) (lt_of_cell hx) (by show b ≠ c; omega)).trans hx
theorem BOwn.up {w : World} {base : Nat} {v : Value} {l : List Bool} (h : BOwn w base v l) : BlUp w base v l := by
  refine ⟨h.bl, fun x n cap e => ?_⟩
  subst e
  exact (World.ownsRow.lt h x.block rfl).1
theorem BOwn.eight {w : World} {base : Nat} {v : Value} {l : List Bool} (h : BOwn w base v l) (h8 : l.length = 8) :
    ∃ g cap, v = .slice (some ⟨g, 0, none⟩) 8 cap ∧ base ≤ g ∧ g < w.heap.size ∧ 8 ≤ cap ∧ cap ≤ maxLen ∧ (∀ j, j < 8 → w.cell? ⟨g, j, none⟩ = some (.bool (l.getD j false))) ∧ ∀ j, w.frozen? ⟨g, j, none⟩ = false := by
  unfold BOwn at h
  rw [h8] at h
  rcases h.2 with ⟨_, h0⟩ | ⟨g, cap, cur, rfl, hb, hg, h1, h2, h3, ht⟩
  · omega
  · refine ⟨g, cap, rfl, hb, (Array.getElem?_eq_some_iff.1 hg).1, h1, h2, fun j hj => ?_, fun j => World.ownsRow.frozenAt h j⟩
    have hc := World.ownsRow.cells h (g := g) rfl j _ (bvals_get l j (by omega))
    rw [Addr.add_lit] at hc
    simpa using hc
theorem BOwn.put {w : World} {base g cap n : Nat} {l : List Bool} (h : BOwn w base (.slice (some ⟨g, 0, none⟩) n cap) l) (hn : n = l.length) (j : Nat) (x : Bool) :
    BOwn (w.setCell ⟨g, j, none⟩ (.bool x)) base (.slice (some ⟨g, 0, none⟩) n cap) (l.set j x) ∧ w.grownBy (w.setCell ⟨g, j, none⟩ (.bool x)) (some g) := by
  subst hn
  have hs := World.ownsRow.stored h j (.bool x)
  refine ⟨?_, hs.2⟩
  have := hs.1
  rw [bvals_set] at this
  unfold BOwn
  rw [List.length_set]
  exact this
theorem BOwn.tail {w : World} {base g cap : Nat} {l : List Bool} (h : BOwn w base (.slice (some ⟨g, 0, none⟩) 8 cap) l) (h8 : l.length = 8) :
    BlUp w base (.slice (some ⟨g, 1, none⟩) 7 (cap - 1)) l.tail := by
  obtain ⟨g', cap', e, hb, _, h1, h2, hc, _⟩ := h.eight h8
  injection e with e1 e2 e3
  injection e1 with e1
  injection e1 with e1
  subst e1 e3
  have e3 : l.tail.length = 7 := by rw [List.length_tail]; omega
  refine ⟨⟨some ⟨g, 1, none⟩, cap - 1, by rw [e3], by omega, by omega, .inr ⟨g, 1, rfl, fun i hi => ?_⟩⟩, fun x n c e => ?_⟩
  · rw [Nat.add_comm 1 i, hc (i + 1) (by omega)]
    congr 2
    cases l with
    | nil => simp at h8
    | cons y l => rfl
  · injection e with e
    injection e with e
    subst e
    exact hb
end Go.Proofs.Ythglkgicckodaaa
namespace Go.Proofs.Ythglkgicckodaaa
open Go.RowKit
set_option linter.unusedVariables false
end Go.Proofs.Ythglkgicckodaaa
namespace Go.Proofs.Ythglkgicckodaaa
open Go.RowKit
set_option linter.unusedVariables false
end Go.Proofs.Ythglkgicckodaaa
namespace Go.Proofs.Ythglkgicckodaaa
open Go.RowKit
set_option linter.unusedVariables false
theorem BlUp.kept {w w' : World} {B g : Nat} {v : Value} {l : List Bool} (h : BlUp w B v l) (hg : w.grownBy w' (some g)) (hb : g < B) : BlUp w' B v l := by
  refine ⟨?_, h.2⟩
  obtain ⟨a, cap, rfl, h1, h2, hr⟩ := h.1
  refine ⟨a, cap, rfl, h1, h2, ?_⟩
  rcases hr with h0 | ⟨b, o, rfl, hr⟩
  · exact .inl h0
  · have hb' : B ≤ b := h.2 _ _ _ rfl
    exact .inr ⟨b, o, rfl, fun i hi => hg.cell (hr i hi) (fun e => by injection e with e; have : b = g := e; omega)⟩
theorem Own.eight {w : World} {base : Nat} {v : Value} {l : List Int} (h : Own w base v l) (h8 : l.length = 8) :
    ∃ g cap, v = .slice (some ⟨g, 0, none⟩) 8 cap ∧ base ≤ g ∧ g < w.heap.size ∧ 8 ≤ cap ∧ cap ≤ maxLen ∧ (∀ j, j < 8 → w.cell? ⟨g, j, none⟩ = some (.int .i64 (l.getD j 0))) ∧ ∀ j, w.frozen? ⟨g, j, none⟩ = false := by
  unfold Own at h
  rw [h8] at h
  rcases h.2 with ⟨_, h0⟩ | ⟨g, cap, cur, rfl, hb, hg, h1, h2, h3, ht⟩
  · omega
  · refine ⟨g, cap, rfl, hb, (Array.getElem?_eq_some_iff.1 hg).1, h1, h2, fun j hj => ?_, fun j => World.ownsRow.frozenAt h j⟩
    have hc := World.ownsRow.cells h (g := g) rfl j _ (vals_get l j (by omega))
    rw [Addr.add_lit] at hc
    simpa using hc
end Go.Proofs.Ythglkgicckodaaa
namespace Go.Proofs.Ythglkgicckodaaa
open Go.RowKit
set_option linter.unusedVariables false
theorem STab.set {w : World} {base g cap n : Nat} {us : List Value} {m : List (List Int)} {u : Value} {l : List Int} (h : STab w base (.slice (some ⟨g, 0, none⟩) n cap) us m) (hn : n = us.length) (hu : Sl w u l ∧ IntRow w u) (k : Nat) :
    STab (w.setCell ⟨g, k, none⟩ u) base (.slice (some ⟨g, 0, none⟩) n cap) (us.set k u) (m.set k l) ∧ w.grownBy (w.setCell ⟨g, k, none⟩ u) (some g) := by
  subst hn
  have hs := World.ownsRow.stored h.top k u
  refine ⟨⟨by rw [List.length_set]; exact hs.1, by simp [h.len], fun i x r hx hr => ?_⟩, hs.2⟩
  have hg : w.grownBy (w.setCell ⟨g, k, none⟩ u) (Value.slice (some ⟨g, 0, none⟩) us.length cap).ownBlock := hs.2
  by_cases hi : k = i
  · subst hi
    have h1 : k < us.length := by have := (List.getElem?_eq_some_iff.1 hx).1; simpa using this
    rw [List.getElem?_set_self h1] at hx
    rw [List.getElem?_set_self (by rw [← h.len]; exact h1)] at hr
    injection hx with hx
    injection hr with hr
    subst hx hr
    exact row_kept hu h.top hg
  · rw [List.getElem?_set_ne hi] at hx hr
    exact row_kept (h.rows i x r hx hr) h.top hg
theorem STab.frozen {w : World} {base g cap n : Nat} {us : List Value} {m : List (List Int)} (h : STab w base (.slice (some ⟨g, 0, none⟩) n cap) us m) (k : Nat) : w.frozen? ⟨g, k, none⟩ = false := by
  rcases h.top.2 with ⟨e, _⟩ | ⟨g', cap', cur, e, _, hg, _⟩
  · cases e
  · injection e with e
    injection e with e
    injection e with e
    subst e
    exact frozen_of_row w g k _ _ hg
theorem Rds.news {w : World} {b o : Nat} {l : List Int} (h : Rds w (some ⟨b, o, none⟩) l) : ∀ j u, (vals l)[j]? = some u → w.cell? ((⟨b, o, none⟩ : Addr).add j) = some u := by
  intro j u hj
  have hl : j < l.length := by have := (List.getElem?_eq_some_iff.1 hj).1; rwa [vals_length] at this
  obtain ⟨b', o', e, hc⟩ := h.at_ hl
  injection e with e
  injection e with e1 e2
  subst e1 e2
  rw [vals_get l j hl] at hj
  injection hj with hj
  subst hj
  rw [Addr.add_lit]; exact hc
set_option maxHeartbeats 4000000 in
set_option maxRecDepth 4000 in
theorem specL3By (v vv : Value) (us : List Value) (m : List (List Int)) (l : List Int) (w : World) (h : Tab w v us m) (hm : ∀ r ∈ m, Sp.Row 4 r) (h8 : m.length ≤ 8) (hv : Sl w vv l) (hl : Sp.Row 4 l) :
    Calls Try.prog 93 #[v, vv] w fun e w' => ∃ b l', Sp.Answers m l b l' ∧ NewInts2 l' b w e w' := by
  have T := Lib.hid h
  have HM := Lib.hid hm
  have SV := Lib.hid hv
  have RL := Lib.hid hl
  obtain ⟨a, cap, rfl, h1, h2, h3⟩ := h.top
  clear h h3 hm hv hl
  unfold maxLen at h2
  obtain ⟨i0, hi, hz0, hz1, hz2⟩ := info_parts infoInt
  have I1 := Lib.hid hi
  have I2 := Lib.hid hz0
  have I3 := Lib.hid hz1
  have I4 := Lib.hid hz2
  clear hi hz0 hz1 hz2
  obtain ⟨j0, hi, hz0, hz1, hz2⟩ := info_parts infoInts
  have J1 := Lib.hid hi
  have J2 := Lib.hid hz0
  have J3 := Lib.hid hz1
  have J4 := Lib.hid hz2
  clear hi hz0 hz1 hz2
  have M0 := Lib.hid (STab.made w w.heap.size (Nat.le_refl _))
  go_enter Try.func93, Try.ntmps93
  go_wp2_with fail
  go_loopw [6, 7] (fun o i wr => ∃ k : Nat, k ≤ m.length ∧ i = .int .i64 k ∧ w.grownBy wr none ∧ ∃ vs, STab wr w.heap.size o vs (Sp.start m k)) (fun _ i _ => m.length - (intOf i).toNat)
  case atStart => exact ⟨0, Nat.zero_le _, rfl, grown_alloc (World.grownBy.refl _ _) _, [], M0.out⟩
  case round =>
    obtain ⟨k, hk, rfl, hg, vs, hst⟩ := hrel
    have G := Lib.hid hg
    have O := Lib.hid hst
    have vl : vs.length ≤ 8 := by rw [hst.len, Sp.start_length]; omega
    clear hg hst M0
    by_cases hlt : k < m.length
    · have hlt' : (k : Int) < (m.length : Int) := by omega
      have hn0 : (0 : Int) ≤ (m.length : Int) := by omega
      go_wp2_with (at_make; refine wpList_make_full _ rfl _ _ 23 rfl wr.heap.size 3 i0 (.int .i64 0) 1 Try.underlying23 I1.out I2.out I3.out _ _ _ _ m.length rfl rfl rfl rfl ?b1 ?b2 ?b3 ?_)
      case b1 => rw [I4.out]; omega
      case b2 => unfold maxLen; omega
      case b3 => exact Nat.le_refl _
      intro w1 ho hg
      have G1 := Lib.hid (grown_trans G.out hg)
      have O1 := Lib.hid (O.out.still hg)
      have OW : Hid (w1.ownsRow wr.heap.size 3 1 (.slice (some ⟨wr.heap.size, 0, none⟩) m.length m.length) m.length (List.replicate m.length (.int .i64 0))) := Lib.hid (by simpa [toList_madeCells_one] using ho)
      have hc0 := World.ownsRow.cells OW.out (g := wr.heap.size) rfl k (.int .i64 0) (by rw [List.getElem?_replicate, if_pos hlt])
      rw [Addr.add_lit] at hc0
      have hc : w1.cell? ⟨wr.heap.size, k, none⟩ = some (.int .i64 0) := by simpa using hc0
      have hf := World.ownsRow.frozenAt OW.out k
      have ST := Lib.hid (World.ownsRow.stored OW.out k (.int .i64 1))
      obtain ⟨b, o, cap', u, e, hu, hx, hs⟩ := (T.out.grown G1.out).at_ hlt
      injection e with e1 e2 e3
      subst e1 e3
      have blt : b < wr.heap.size := by
        obtain ⟨b', o', cap'', u', e, _, hx', _⟩ := (T.out.grown G.out).at_ hlt
        injection e with e1 e2 e3
        injection e1 with e1
        injection e1 with e1
        subst e1
        exact lt_of_cell hx'
      have hne : b ≠ wr.heap.size := by omega
      have W1 := Lib.hid (grown_alloc (grown_set hg (p := ⟨wr.heap.size, k, none⟩) (Nat.le_refl _) (.int .i64 1)) (.cells #[] 3))
      have lt1 : wr.heap.size < w1.heap.size := lt_of_cell hc
      clear hc0 ho hg hs hx hu
      obtain ⟨_, _, _, u', e, hu, hx, hs⟩ := (T.out.grown (grown_trans G.out W1.out)).at_ hlt
      injection e with e1 e2 e3
      injection e1 with e1
      injection e1 with e1 e5
      subst e1 e5 e3
      have RM := Lib.hid (Sp.fresh_row HM.out hlt)
      obtain ⟨rk, hrk⟩ : ∃ rk, m.getD k [] = rk := ⟨_, rfl⟩
      have RK := Lib.hid hrk
      rw [hrk] at RM hs
      obtain ⟨au, cu, rfl, hu1, hu2, hu3⟩ := hs
      obtain ⟨bu, ou, rfl, _⟩ := hu3.at_ (k := 0) (by rw [RM.out.1]; omega)
      rw [RM.out.1] at hx
      have NEWS := Lib.hid (hu3.news)
      clear hu3 hu hrk
      go_wp2_with (at_builtin; refine wpList_append_lies _ rfl _ _ 23 rfl wr.heap.size 3 i0 (.int .i64 0) 1 8 Try.underlying23 I1.out I2.out I3.out I4.out rfl (by decide) _ 0 [] rfl ?own ⟨bu, ou, none⟩ 4 cu (vals rk) rfl ?nl NEWS.out (vals_one rk) ?d1 ?d2 ?d3 ?d4 _ rfl ?_)
      case own => exact ⟨rfl, .inr ⟨w1.heap.size, 0, #[], by simp, by omega, by simpa using heap_alloc_new (w1.setCell ⟨wr.heap.size, k, none⟩ (.int .i64 1)) (.cells #[] 3), Nat.le_refl _, by simp [maxLen], by simp, by simp⟩⟩
      case nl => rw [vals_length, RM.out.1]
      case d2 => unfold maxLen; omega
      case d4 => omega
      intro g1 c1 w2 hown2 hg2 hat2 hlt2
      have g1ge : w1.heap.size ≤ g1 := by
        rcases hat2 with h | h
        · have : w1.heap.size = g1 := by simpa [Value.ownBlock] using h
          omega
        · omega
      have W2 : Hid (wr.grownBy w2 none) := Lib.hid (grown_own W1.out hg2 (fun j hj => by
        have : w1.heap.size = j := by simpa [Value.ownBlock] using hj
        omega))
      have OT : Hid (w2.ownsRow wr.heap.size 3 1 (.slice (some ⟨wr.heap.size, 0, none⟩) m.length m.length) m.length (vals ((List.replicate m.length 0).set k 1))) := Lib.hid (by
        have h := ST.out.1
        have e : (List.replicate m.length (Value.int .i64 0)).set k (.int .i64 1) = vals ((List.replicate m.length 0).set k 1) := by rw [← vals_set]; simp [vals]
        rw [e] at h
        exact World.ownsRow.kept (World.ownsRow.alloc h _) hg2 (.inr (by simp [Value.ownBlock]; omega)))
      have OW2 := Lib.hid hown2
      have NEWS2 := Lib.hid (World.ownsRow.cells OT.out (g := wr.heap.size) rfl)
      have s2 := W2.out.size
      clear hown2 hg2 hat2 NEWS ST OW hc hf hx W1
      have ul : (vals ((List.replicate m.length (0 : Int)).set k 1)).length = m.length * 1 := by simp [vals_length]
      go_wp2_with (at_builtin; refine wpList_append_lies _ rfl _ _ 23 rfl wr.heap.size 3 i0 (.int .i64 0) 1 8 Try.underlying23 I1.out I2.out I3.out I4.out rfl (by decide) _ 4 (vals rk) rfl OW2.out ⟨wr.heap.size, 0, none⟩ m.length m.length (vals ((List.replicate m.length 0).set k 1)) rfl ul NEWS2.out (vals_one _) ?f1 ?f2 ?f3 ?f4 _ rfl ?_)
      case f1 => omega
      case f2 => unfold maxLen; omega
      case f3 => omega
      case f4 => omega
      intro g2 c2 w3 hown3 hg3 hat3 hlt3
      have W3 : Hid (wr.grownBy w3 none) := Lib.hid (grown_own W2.out hg3 (fun j hj => by
        have : g1 = j := by simpa [Value.ownBlock] using hj
        omega))
      have R3 : Hid (Sl w3 (.slice (some ⟨g2, 0, none⟩) (4 + m.length) c2) (rk ++ (List.replicate m.length 0).set k 1) ∧ IntRow w3 (.slice (some ⟨g2, 0, none⟩) (4 + m.length) c2)) := Lib.hid (by
        have ho : Own w3 wr.heap.size (.slice (some ⟨g2, 0, none⟩) (4 + m.length) c2) (rk ++ (List.replicate m.length 0).set k 1) := by
          unfold Own
          have e1 : (rk ++ (List.replicate m.length (0 : Int)).set k 1).length = 4 + m.length := by simp [RM.out.1]
          have e2 : vals (rk ++ (List.replicate m.length (0 : Int)).set k 1) = vals rk ++ vals ((List.replicate m.length 0).set k 1) := by simp [vals]
          rw [e1, e2]; exact hown3
        exact ⟨ho.sl, ho.intRow⟩)
      have TOP := Lib.hid (O.out.still W3.out).top
      have s3 : w.heap.size ≤ w3.heap.size := Nat.le_trans G.out.size W3.out.size
      clear hown3 hg3 hat3 hlt3 NEWS2 OW2 OT W2 hlt2 ul
      go_wp2_with (at_builtin; refine wpList_append_own _ rfl _ _ 126 rfl w.heap.size 23 j0 (.slice none 0 0) 1 24 Try.underlying126 J1.out J2.out J3.out J4.out rfl (by decide) _ _ _ rfl (World.ownsRow.alloc TOP.out _) ⟨w3.heap.size, 0, none⟩ 1 1 [.slice (some ⟨g2, 0, none⟩) (4 + m.length) c2] rfl rfl (one_cell (g := 0)) (by simp [Value.oneCell']) ?c3 ?c4 ?c5 ?_)
      case c3 => unfold maxLen; omega
      case c4 => omega
      case c5 => simp; omega
      intro o' w5 ho2 hg2 _
      have N : Hid (STab w5 w.heap.size o' (vs ++ [.slice (some ⟨g2, 0, none⟩) (4 + m.length) c2]) (Sp.start m (k + 1))) := Lib.hid (O.out.snoc W3.out R3.out (grown_trans (World.grownBy_alloc _ _ _) hg2) ho2 rfl (by rw [Sp.start_succ, RK.out]))
      have G5 : Hid (w.grownBy w5 none) := Lib.hid (grown_own (grown_alloc (grown_trans G.out W3.out) _) hg2 (fun j hj => (World.ownsRow.lt TOP.out j hj).1))
      clear ho2 hg2 TOP
      go_wp2_with fail
      go_roundw
      case rel => exact ⟨k + 1, by omega, by go_num, G5.out, _, N.out⟩
      case measure => simp [intOf]; omega
    · have : k = m.length := by omega
      subst this
      obtain ⟨av, cv, e, hv1, hv2, hv3⟩ := SV.out
      subst e
      obtain ⟨bv, ov, rfl, _⟩ := hv3.at_ (k := 0) (by rw [RL.out.1]; omega)
      have NEWS := Lib.hid ((hv3.grown (grown_alloc G.out (.cells #[] 3))).news)
      rw [RL.out.1] at *
      have s0 := G.out.size
      have G1 := Lib.hid (grown_alloc G.out (.cells #[] 3))
      clear hv3
      go_wp2_with (at_builtin; refine wpList_append_lies _ rfl _ _ 23 rfl wr.heap.size 3 i0 (.int .i64 0) 1 8 Try.underlying23 I1.out I2.out I3.out I4.out rfl (by decide) _ 0 [] rfl ?own ⟨bv, ov, none⟩ 4 cv (vals l) rfl ?nl NEWS.out (vals_one l) ?d1 ?d2 ?d3 ?d4 _ rfl ?_)
      case own => exact ⟨rfl, .inr ⟨wr.heap.size, 0, #[], rfl, by omega, heap_alloc_new wr (.cells #[] 3), Nat.le_refl _, by simp [maxLen], by simp, by simp⟩⟩
      case nl => rw [vals_length, RL.out.1]
      case d2 => unfold maxLen; omega
      case d4 => simp
      intro g1 c1 w2 hown2 hg2 hat2 hlt2
      have W2 : Hid (wr.grownBy w2 none) := Lib.hid (grown_own (grown_alloc (World.grownBy.refl _ _) _) hg2 (fun j hj => by
        have : wr.heap.size = j := by simpa [Value.ownBlock] using hj
        omega))
      have g1ge : wr.heap.size ≤ g1 := by
        rcases hat2 with h | h
        · have : wr.heap.size = g1 := by simpa [Value.ownBlock] using h
          omega
        · omega
      have OW2 := Lib.hid hown2
      have s2 := W2.out.size
      clear hown2 hg2 hat2 NEWS hlt2 G1
      go_wp2_with (at_builtin; refine wpList_append_zeros _ rfl _ _ 23 3 rfl wr.heap.size 3 i0 .i64 Try.underlying23 Try.underlying3 I1.out I2.out I3.out I4.out g1 4 c1 (vals l) rfl OW2.out m.length rfl ?z1 ?z2 ?_)
      case z1 => omega
      case z2 => omega
      intro g2 c2 w3 hown3 hg3 hat3 hlt3
      have W3 : Hid (wr.grownBy w3 none) := Lib.hid (grown_own W2.out hg3 (fun j hj => by
        have : g1 = j := by simpa using hj
        omega))
      have R3 : Hid (Sl w3 (.slice (some ⟨g2, 0, none⟩) (4 + m.length) c2) (l ++ List.replicate m.length 0) ∧ IntRow w3 (.slice (some ⟨g2, 0, none⟩) (4 + m.length) c2)) := Lib.hid (by
        have ho : Own w3 wr.heap.size (.slice (some ⟨g2, 0, none⟩) (4 + m.length) c2) (l ++ List.replicate m.length 0) := by
          unfold Own
          have e1 : (l ++ List.replicate m.length (0 : Int)).length = 4 + m.length := by simp [RL.out.1]
          have e2 : vals (l ++ List.replicate m.length (0 : Int)) = vals l ++ List.replicate m.length (.int .i64 0) := by simp [vals]
          rw [e1, e2]; exact hown3
        exact ⟨ho.sl, ho.intRow⟩)
      have O3 := Lib.hid (O.out.still W3.out)
      have G3 := Lib.hid (grown_trans G.out W3.out)
      have E0 := Lib.hid (Sp.El.start HM.out RL.out)
      clear hown3 hg3 hat3 hlt3 OW2 W2 O G W3 s2 s0 g1ge
      obtain ⟨atop, ctop, etop, htop1, htop2, _⟩ := O3.out.tab.top
      rw [Sp.start_length] at etop htop1
      unfold maxLen at htop2
      subst etop
      go_wp2_with fail
      go_loopw [9, 10] (fun x i wr => ∃ (p : Nat) (R : List (List Int)) (s : List Int) (vs : List Value), p ≤ 4 ∧ i = .int .i64 p ∧ Sp.El m l p R s ∧ STab wr w.heap.size (.slice atop m.length ctop) vs R ∧ (Sl wr x s ∧ IntRow wr x) ∧ w.grownBy wr none) (fun _ i _ => 4 - (intOf i).toNat)
      case atStart => exact ⟨0, _, _, _, by omega, rfl, E0.out, O3.out, R3.out, G3.out⟩
      case round =>
        obtain ⟨wr2, rfl⟩ : ∃ w4, w4 = wr := ⟨_, rfl⟩
        obtain ⟨x0, rfl⟩ : ∃ x0, x0 = u9 := ⟨_, rfl⟩
        obtain ⟨p, R, s, vs2, hp, rfl, hE, hT, hR, hG⟩ := hrel
        have E := Lib.hid hE
        have TT := Lib.hid hT
        have RS := Lib.hid hR
        have G2 := Lib.hid hG
        clear hE hT hR hG E0 O3 R3 G3
        by_cases hp4 : p < 4
        · have hp4' : (p : Int) < 4 := by omega
          go_wp2_with fail
          go_loopw [9, 11] (fun x i w' => ∃ j : Nat, j ≤ m.length ∧ i = .int .i64 j ∧ w' = wr2 ∧ x = x0 ∧ ∀ q, q < j → Vec.first (R.getD q []) 0 ≠ (p : Int)) (fun _ i _ => m.length - (intOf i).toNat)
          case atStart => exact ⟨0, Nat.zero_le _, rfl, rfl, rfl, fun q hq => by omega⟩
          case round =>
            obtain ⟨j, hj, rfl, rfl, rfl, hno⟩ := hrel
            have NO := Lib.hid hno
            clear hno
            by_cases hjl : j < m.length
            · have hjl' : (j : Int) < (m.length : Int) := by omega
              obtain ⟨b, o, cap', u, e, hu, hx, hs⟩ := TT.out.tab.at_ (i := j) (by rw [E.out.len]; exact hjl)
              injection e with e1 e2 e3
              subst e1 e3
              have FL := Lib.hid (specL2Lead u (R.getD j []) wr hs)
              obtain ⟨fj, hfj⟩ : ∃ fj, Vec.first (R.getD j []) 0 = fj := ⟨_, rfl⟩
              rw [hfj] at FL
              have HF := Lib.hid hfj
              obtain rfl : o = 0 := by
                rcases TT.out.top.2 with ⟨e', _⟩ | ⟨g', cap', cur', e', _⟩
                · cases e'
                · injection e' with e'
                  injection e' with e'
                  injection e'
              simp only [Nat.zero_add] at hx
              clear hfj hs hu e2
              go_wp2_with fail
              refine FL.out.mono ?_
              rintro e w' ⟨rfl, rfl⟩
              by_cases hfp : fj ≠ (p : Int)
              · go_wp2_with fail
                go_roundw
                case rel => exact ⟨j + 1, by omega, by go_num, by first | rfl | trivial, by first | rfl | trivial, fun q hq => by
                  by_cases hqj : q = j
                  · subst hqj; rw [HF.out]; exact hfp
                  · exact NO.out q (by omega)⟩
                case measure => simp [intOf]; omega
              · have hfp : fj = (p : Int) := Classical.not_not.1 hfp
                subst hfp
                go_wp2_with fail
                go_loopw [12] (fun i w' => ∃ (n : Nat) (vs : List Value), n ≤ m.length ∧ i = .int .i64 n ∧ STab w' w.heap.size (.slice (some ⟨b, 0, none⟩) m.length ctop) vs (Sp.clr p j R n) ∧ (Sl w' u9 s ∧ IntRow w' u9) ∧ w.grownBy w' none) (fun i _ => m.length - (intOf i).toNat)
                case atStart => exact ⟨0, vs2, Nat.zero_le _, rfl, TT.out, RS.out, G2.out⟩
                case round =>
                  obtain ⟨wq, rfl⟩ : ∃ w4, w4 = wr := ⟨_, rfl⟩
                  obtain ⟨n, vs3, hn, rfl, hT, hR, hG⟩ := hrel
                  have T3 := Lib.hid hT
                  have R4 := Lib.hid hR
                  have G4 := Lib.hid hG
                  clear hT hR hG hx
                  by_cases hnl : n < m.length
                  · have hnl' : (n : Int) < (m.length : Int) := by omega
                    obtain ⟨b', o', cap', u', e, hu, hx, hs⟩ := T3.out.tab.at_ (i := n) (by rw [Sp.clr_length, E.out.len]; exact hnl)
                    injection e with e1 e2 e3
                    injection e1 with e1
                    injection e1 with e1 e5
                    subst e1 e5 e3
                    simp only [Nat.zero_add] at hx
                    obtain ⟨hjp, hlead⟩ := Sp.lead_of (E.out.row j hjl) HF.out
                    have RW := Lib.hid (Sp.clr_row (p := p) (i := j) (k := 4 + m.length) (R := R) (fun q hq => E.out.row q (by rw [← E.out.len]; exact hq)) (by rw [E.out.len]; exact hjl) n)
                    have RN := Lib.hid (RW.out n (by rw [E.out.len]; exact hnl))
                    have SN := Lib.hid hs
                    obtain ⟨rn, hrn⟩ : ∃ rn, (Sp.clr p j R n).getD n [] = rn := ⟨_, rfl⟩
                    have CL : Hid (Sp.clr p j R (n + 1) = if n ≠ j ∧ rn.getD p 0 ≠ 0 then (Sp.clr p j R n).set n (Sp.lless rn (R.getD j [])) else Sp.clr p j R n) := Lib.hid (by rw [Sp.clr, hrn, Sp.clr_own])
                    rw [hrn] at RN SN
                    have LD := Lib.hid hlead
                    clear e2 hs hu hrn hlead
                    by_cases hnj : n = j
                    · subst hnj
                      go_wp2_with fail
                      go_roundw
                      case rel => exact ⟨n + 1, vs3, by omega, by go_num, by rw [CL.out, if_neg (fun h => h.1 rfl)]; exact T3.out, R4.out, G4.out⟩
                      case measure => simp [intOf]; omega
                    · have hnj' : ¬ (n : Int) = (j : Int) := by omega
                      obtain ⟨au, cu, eu, hu1, hu2, hu3⟩ := SN.out
                      rw [RN.out.1] at eu hu1
                      subst eu
                      obtain ⟨bu, ou, rfl, hy⟩ := hu3.at_ (k := p) (by rw [RN.out.1]; exact hjp)
                      obtain ⟨y, hye⟩ : ∃ y, rn.getD p 0 = y := ⟨_, rfl⟩
                      rw [hye] at hy CL
                      unfold maxLen at hu2
                      have hpp : (p : Int) < 4 + (m.length : Int) := by omega
                      clear hu3 hye
                      by_cases hy0 : y = 0
                      · subst hy0
                        go_wp2_with fail
                        go_roundw
                        case rel => exact ⟨n + 1, vs3, by omega, by go_num, by rw [CL.out, if_neg (fun h => h.2 rfl)]; exact T3.out, R4.out, G4.out⟩
                        case measure => simp [intOf]; omega
                      · skip
                        have hyb : (y != 0) = true := by simpa using hy0
                        have hnb : ((n : Int) != (j : Int)) = true := by simpa using hnj'
                        have LL := Lib.hid (Sp.lless_len RN.out (E.out.row j hjl))
                        obtain ⟨b2, o2, cap2, uj, e, huj, hxj, hsj⟩ := T3.out.tab.at_ (i := j) (by rw [Sp.clr_length, E.out.len]; exact hjl)
                        injection e with e1 e2 e3
                        injection e1 with e1
                        injection e1 with e1 e5
                        subst e1 e5 e3
                        rw [Sp.clr_own] at hsj
                        have SJ := Lib.hid hsj
                        have GD : Hid (wq.grownBy wq.drew none) := Lib.hid (grown_drew (World.grownBy.refl _ _))
                        have LS := Lib.hid (specLess _ uj (4 + m.length) p rn (R.getD j []) wq.drew (SN.out.grown GD.out) (hsj.grown GD.out) RN.out (E.out.row j hjl) (by omega) HF.out hjp (fun e => LD.out.1 (by unfold Sp.toV; rw [e]; rfl)))
                        simp only [Nat.zero_add] at hxj
                        have c1 : wq.drew.cell? ⟨b, n, none⟩ = some (.slice (some ⟨bu, ou, none⟩) (4 + m.length) cu) := hx
                        have c2 : wq.drew.cell? ⟨b, j, none⟩ = some uj := hxj
                        clear e2 hsj huj hxj
                        go_wp2_with fail
                        · go_region_with (first
                            | (go_at_call 110; refine LS.out.mono ?_; rintro e w1 ⟨v1, rfl, hg1, ho1⟩
                               obtain ⟨ar, cr, er, _, _, _⟩ := ho1.sl
                               rw [LL.out] at er
                               subst er
                               have G1 := Lib.hid hg1
                               have O1 := Lib.hid ho1
                               have d1 := hg1.cell c1 (by simp)
                               have d2 := hg1.cell c2 (by simp)
                               have f1 := ((T3.out.still GD.out).still hg1).frozen n
                               clear hg1 ho1))
                          all_goals
                            have R5 := Lib.hid (And.intro O1.out.sl O1.out.intRow)
                            have T5 := Lib.hid (((T3.out.still GD.out).still G1.out).set (by rw [T3.out.len, Sp.clr_length, E.out.len]) R5.out n)
                            have R6 := Lib.hid (row_kept ⟨(R4.out.1.grown GD.out).grown G1.out, (R4.out.2.still GD.out).still G1.out⟩ ((T3.out.still GD.out).still G1.out).top T5.out.2)
                            have G6 := Lib.hid (grown_own (grown_trans (grown_trans G4.out GD.out) G1.out) T5.out.2 (fun q hq => (World.ownsRow.lt ((T3.out.still GD.out).still G1.out).top q hq).1))
                            obtain ⟨wz, hwz⟩ : ∃ wz, w1.setCell ⟨b, n, none⟩ (.slice ar (4 + m.length) cr) = wz := ⟨_, rfl⟩
                            rw [hwz] at T5 R6 G6 ⊢
                            have N5 : Hid (STab wz w.heap.size (.slice (some ⟨b, 0, none⟩) m.length ctop) (vs3.set n (.slice ar (4 + m.length) cr)) (Sp.clr p j R (n + 1))) := Lib.hid (by rw [CL.out, if_pos ⟨hnj, hy0⟩]; exact T5.out.1)
                            clear c1 c2 d1 d2 f1 hx hy hyb hnb hwz T5 R5 O1 G1 LL LS SJ GD CL T3 R4 G4 SN RN RW
                            go_wp2_with fail
                            go_roundw
                            case rel => exact ⟨n + 1, _, by omega, by go_num, N5.out, R6.out, G6.out⟩
                            case measure => simp [intOf]; omega
                  · have : n = m.length := by omega
                    subst this
                    obtain ⟨hjp, hlead⟩ := Sp.lead_of (E.out.row j hjl) HF.out
                    obtain ⟨b', o', cap', u', e, hu, hx, hs⟩ := T3.out.tab.at_ (i := j) (by rw [Sp.clr_length, E.out.len]; exact hjl)
                    injection e with e1 e2 e3
                    injection e1 with e1
                    injection e1 with e1 e5
                    subst e1 e5 e3
                    rw [Sp.clr_own] at hs
                    simp only [Nat.zero_add] at hx
                    have ST := Lib.hid (E.out.step hjl HF.out hlead)
                    have LS := Lib.hid (specLess u9 u' (4 + m.length) p s (R.getD j []) wq R4.out.1 hs E.out.rest (E.out.row j hjl) (by omega) HF.out hjp (fun e => hlead.1 (by unfold Sp.toV; rw [e]; rfl)))
                    clear e2 hs hu
                    go_wp2_with fail
                    refine LS.out.mono ?_
                    rintro e w6 ⟨x6, rfl, hg6, ho6⟩
                    have G6 := Lib.hid (grown_trans G4.out hg6)
                    have T6 := Lib.hid (T3.out.still hg6)
                    have R6 := Lib.hid (And.intro ho6.sl ho6.intRow)
                    clear hg6 ho6 hx
                    go_wp2_with fail
                    go_roundw
                    case rel => exact ⟨p + 1, _, _, vs3, by omega, by go_num, ST.out, T6.out, R6.out, G6.out⟩
                    case measure => simp [intOf]; omega
            · have : j = m.length := by omega
              subst this
              go_wp2_with fail
              go_roundw
              case rel => exact ⟨p + 1, R, s, vs2, by omega, by go_num, E.out.skip NO.out, TT.out, RS.out, G2.out⟩
              case measure => simp [intOf]; omega
        · have : p = 4 := by omega
          subst this
          have FL := Lib.hid (specL2Lead x0 s wr2 RS.out.1)
          obtain ⟨fs, hfs⟩ : ∃ fs, Vec.first s 0 = fs := ⟨_, rfl⟩
          rw [hfs] at FL
          have HF := Lib.hid hfs
          have sl := E.out.rest.1
          obtain ⟨ax, cx, ex, hx1, hx2, hx3⟩ := RS.out.1
          rw [E.out.rest.1] at ex hx1
          subst ex
          unfold maxLen at hx2
          obtain ⟨bx, ox, rfl, _⟩ := hx3.at_ (k := 0) (by rw [E.out.rest.1]; omega)
          have RX := Lib.hid hx3
          clear hfs sl hx3
          go_wp2_with fail
          refine FL.out.mono ?_
          rintro e w' ⟨rfl, rfl⟩
          go_wp2_with fail
          refine (specIn fs 0 3 _).mono ?_
          rintro e w' ⟨rfl, rfl⟩
          by_cases hin : 0 ≤ fs ∧ fs ≤ 3
          · have e : (decide (0 ≤ fs) && decide (fs ≤ 3)) = true := by simp [hin.1, hin.2]
            rw [e]
            go_wp2_with fail
            refine bodyPost_ret (v := .tuple #[.slice (some ⟨wr2.heap.size, 0, none⟩) 0 0, .bool false]) (by simp [results, Try.results93, go_sem]) rfl ?_
            refine ⟨false, [], E.out.no HM.out RL.out (p := fs.toNat) (by rw [HF.out]; omega) (by omega), _, rfl, grown_alloc G2.out _, ?_⟩
            exact Own.made wr2 w.heap.size [] G2.out.size (by simp [maxLen])
          · have e : (decide (0 ≤ fs) && decide (fs ≤ 3)) = false := by
              cases h0 : decide (0 ≤ fs) with
              | false => rfl
              | true =>
                have := of_decide_eq_true h0
                simp only [Bool.true_and, decide_eq_false_iff_not]
                intro h; exact hin ⟨this, h⟩
            rw [e]
            have AN := Lib.hid (E.out.yes HM.out RL.out (fun p hp h => hin ⟨by rw [HF.out] at h; omega, by rw [HF.out] at h; omega⟩))
            have RD : Hid (Sp.Row m.length (s.drop 4)) := Lib.hid ⟨by rw [List.length_drop, E.out.rest.1]; omega, fun x hx => E.out.rest.2 x (List.mem_of_mem_drop hx)⟩
            have SD : Hid (∀ y, Rds wr2 (some y) (s.drop 4) → ∀ c, m.length ≤ c → c ≤ maxLen → Sl wr2 (.slice (some y) m.length c) (s.drop 4)) := Lib.hid (fun y hy c h1 h2 => ⟨some y, c, by rw [RD.out.1], by rw [RD.out.1]; exact h1, h2, hy⟩)
            by_cases hc4 : cx = 4
            · subst hc4
              have m0 : Hid (m.length = 0) := Lib.hid (by omega)
              have D : Hid (Rds wr2 (some ⟨bx, ox, none⟩) (s.drop 4)) := Lib.hid (.inl (List.eq_nil_of_length_eq_zero (by rw [RD.out.1]; exact m0.out)))
              go_wp2_with fail
              refine (specMul (.slice (some ⟨bx, ox, none⟩) 0 0) m.length (s.drop 4) 30 _ ⟨_, 0, by rw [RD.out.1, m0.out], by rw [RD.out.1, m0.out]; exact Nat.le_refl _, Nat.zero_le _, D.out⟩ RD.out (by decide) (by omega)).mono ?_
              rintro e w5 ⟨x5, rfl, hg5, ho5⟩
              have G5 := Lib.hid hg5
              have O5 := Lib.hid ho5
              clear hg5 ho5
              go_wp2_with fail
              refine bodyPost_ret (v := .tuple #[x5, .bool true]) (by simp [results, Try.results93, go_sem]) rfl ?_
              exact ⟨true, _, AN.out, new2_after G2.out G5.out O5.out⟩
            · have c5 : (4 : Int) < (cx : Int) := by omega
              have D : Hid (Rds wr2 (some ⟨bx, ox + 4, none⟩) (s.drop 4)) := Lib.hid (by
                rcases RX.out with h | ⟨b', o', e', h⟩
                · exact .inl (by rw [h]; rfl)
                · injection e' with e'
                  injection e' with e1 e2
                  subst e1 e2
                  refine .inr ⟨bx, ox + 4, rfl, fun i hi => ?_⟩
                  have h1 := h (4 + i) (by rw [List.length_drop] at hi; omega)
                  rw [show ox + 4 + i = ox + (4 + i) by omega, h1]
                  simp [List.getD_eq_getElem?_getD, List.getElem?_drop])
              go_wp2_with fail
              refine (specMul _ m.length (s.drop 4) 30 _ (SD.out _ D.out (cx - 4) (by omega) (by unfold maxLen; omega)) RD.out (by decide) (by omega)).mono ?_
              rintro e w5 ⟨x5, rfl, hg5, ho5⟩
              have G5 := Lib.hid hg5
              have O5 := Lib.hid ho5
              clear hg5 ho5
              go_wp2_with fail
              refine bodyPost_ret (v := .tuple #[x5, .bool true]) (by simp [results, Try.results93, go_sem]) rfl ?_
              exact ⟨true, _, AN.out, new2_after G2.out G5.out O5.out⟩
end Go.Proofs.Ythglkgicckodaaa
namespace Go.Proofs.Ythglkgicckodaaa
open Go.RowKit
set_option linter.unusedVariables false
theorem idxS (a0 a1 a2 a3 a4 a5 a6 a7 : Int) {n : Nat} (hn : n < 8) (W : World) : (Instr.index 89 (.agg (vals [a0, a1, a2, a3, a4, a5, a6, a7]).toArray) (.int .i64 n)).run Try.prog W = .ok (.int .i64 ([a0, a1, a2, a3, a4, a5, a6, a7].getD n 0)) W := by
  rcases (by omega : n = 0 ∨ n = 1 ∨ n = 2 ∨ n = 3 ∨ n = 4 ∨ n = 5 ∨ n = 6 ∨ n = 7) with rfl | rfl | rfl | rfl | rfl | rfl | rfl | rfl <;> kernel_rfl
theorem getD_ok {l : List Int} (h : ∀ x ∈ l, Fld.ok x = true) (n : Nat) : Fld.ok (l.getD n 0) = true := by
  rw [List.getD_eq_getElem?_getD]
  cases e : l[n]? with
  | none => rfl
  | some x => exact h x (List.mem_of_getElem? e)
set_option maxHeartbeats 4000000 in
set_option maxRecDepth 20000 in
theorem combine (a c : List Int) (ha : a.length = 8) (hc : c.length = 8) (oa : ∀ x ∈ a, Fld.ok x = true) (oc : ∀ x ∈ c, Fld.ok x = true) (w : World) :
    Calls Try.prog 106 #[.agg (vals a).toArray, .agg (vals c).toArray] w fun e w' => e = .returned (.int .i64 (Sp.csum a c 8)) ∧ w.grownBy w' none := by
  have IX : Hid (∀ (n : Nat) (h : n < 8) (W : World), (Instr.index 89 (.agg (vals a).toArray) (.int .i64 n)).run Try.prog W = .ok (.int .i64 (a.getD n 0)) W) := Lib.hid (by
    obtain ⟨a0, a1, a2, a3, a4, a5, a6, a7, rfl⟩ := list_eight ha
    exact fun n h W => idxS a0 a1 a2 a3 a4 a5 a6 a7 h W)
  have OA := Lib.hid (getD_ok oa)
  have OC := Lib.hid (getD_ok oc)
  have z : (vals a).toArray.size = 8 := by simp [vals_length, ha]
  have hi : (Try.prog.info? 89).map (·.size) = some (vals a).toArray.size := by rw [z]; kernel_rfl
  have A0 : Hid (Arr ((w.alloc (.cells (vals a).toArray 89)).alloc (.cells (vals c).toArray 88)) w.heap.size 89 a) := Lib.hid ((Arr.new w _ _).alloc _)
  have C0 : Hid (Arr ((w.alloc (.cells (vals a).toArray 89)).alloc (.cells (vals c).toArray 88)) (w.heap.size + 1) 88 c) := Lib.hid (by
    have := Arr.new (w.alloc (.cells (vals a).toArray 89)) 88 c
    rw [World.size_alloc] at this
    exact this)
  have G0 : Hid (w.grownBy ((w.alloc (.cells (vals a).toArray 89)).alloc (.cells (vals c).toArray 88)) none) := Lib.hid (grown_alloc (grown_alloc (World.grownBy.refl _ _) _) _)
  have HC := Lib.hid hc
  go_enter Try.func106, Try.ntmps106
  go_upto_region 2 with fail
  generalize (w.alloc (.cells (vals a).toArray 89)).alloc (.cells (vals c).toArray 88) = W0 at *
  apply wp_region_lit
  refine wpList_load_row rfl _ _ rfl w.heap.size rfl _ _ _ _ A0.out Try.underlying89 rfl hi ?_
  clear z hi A0 oa oc ha hc
  generalize hva : vals a = va at *
  clear hva
  go_wp2_with fail
  go_loopw [5, 9] (fun o i wr => ∃ n : Nat, n ≤ 8 ∧ i = .int .i64 n ∧ o = .int .i64 (Sp.csum a c n) ∧ wr = W0) (fun _ i _ => 8 - (intOf i).toNat)
  case atStart => exact ⟨0, by omega, rfl, rfl, rfl⟩
  case round =>
    obtain ⟨n, hn, rfl, rfl, rfl⟩ := hrel
    by_cases hlt : n < 8
    · have hlt' : (n : Int) < 8 := by omega
      have ix := IX.out n hlt wr
      have cc : wr.cell? ⟨w.heap.size + 1, n, none⟩ = some (.int .i64 (c.getD n 0)) := C0.out.cell (by rw [HC.out]; exact hlt)
      have ox := OA.out n
      have oy := OC.out n
      have CS : Hid (Sp.csum a c (n + 1) = (Sp.csum a c n + a.getD n 0 * c.getD n 0 % 31) % 31) := Lib.hid rfl
      have os := Sp.csum_ok a c n
      have om : Fld.ok (a.getD n 0 * c.getD n 0 % 31) = true := Vec.mod_is _
      have OX := Lib.hid ox
      have OY := Lib.hid oy
      have OS := Lib.hid os
      have OM := Lib.hid om
      clear ox oy os om
      generalize a.getD n 0 = x at *
      generalize c.getD n 0 = y at *
      generalize Sp.csum a c n = s at *
      go_wp2_with fail
      refine (elemMul x y _ OX.out OY.out).mono ?_
      rintro e w' ⟨rfl, rfl⟩
      generalize x * y % 31 = p at *
      go_wp2_with fail
      refine (elemSum s p _ OS.out OM.out).mono ?_
      rintro e w' ⟨rfl, rfl⟩
      go_wp2_with fail
      go_roundw
      case rel => exact ⟨n + 1, by omega, by go_num, by rw [CS.out], by first | rfl | trivial⟩
      case measure => simp [intOf]; omega
    · obtain rfl : n = 8 := by omega
      go_wp2_with fail
      go_ret
      exact ⟨rfl, G0.out⟩
def shOk (l : List Int) : Bool := decide (l.length = 8) && l.all Fld.ok
def shOr (l : List Int) : List Int := bif shOk l then l else [0, 0, 0, 0, 0, 0, 0, 0]
theorem shOk_row {l : List Int} : shOk l = true ↔ Sp.Row 8 l := by
  simp only [shOk, Bool.and_eq_true, decide_eq_true_eq, List.all_eq_true]
  exact ⟨fun h => ⟨h.1, h.2⟩, fun h => ⟨h.1, h.2⟩⟩
theorem shOk_get {l : List Int} (h8 : l.length = 8) (h : ∀ i, i < 8 → Fld.ok (l.getD i 0) = true) : shOk l = true := by
  refine shOk_row.2 ⟨h8, fun x hx => ?_⟩
  obtain ⟨i, hi, rfl⟩ := List.mem_iff_getElem.1 hx
  have := h i (by omega)
  rwa [List.getD_eq_getElem?_getD, List.getElem?_eq_getElem hi] at this
theorem shOk_not {l : List Int} {i : Nat} (h : Fld.ok (l.getD i 0) = false) : shOk l = false := by
  cases e : shOk l with
  | false => rfl
  | true =>
    have := getD_ok (shOk_row.1 e).2 i
    rw [h] at this; cases this
set_option maxHeartbeats 4000000 in
set_option maxRecDepth 20000 in
theorem shardsShort (v : Value) (l : List Int) (w : World) (h : Sl w v l) (hl : l.length ≠ 8) :
    Calls Try.prog 80 #[v] w fun e w' => e = .returned (.tuple #[.agg (vals [0, 0, 0, 0, 0, 0, 0, 0]).toArray, .bool false]) ∧ w.grownBy w' none := by
  obtain ⟨a, cap, rfl, h1, h2, hr⟩ := h
  unfold maxLen at h2
  have hne : ((l.length : Int) != 8) = true := by rw [bne_iff_ne]; omega
  clear hr hl
  go_enter Try.func80, Try.ntmps80
  go_wp2_with fail
  refine bodyPost_ret (v := .tuple #[.agg #[.int .i64 0, .int .i64 0, .int .i64 0, .int .i64 0, .int .i64 0, .int .i64 0, .int .i64 0, .int .i64 0], .bool false]) (by simp [results, Try.results80, go_sem]) rfl ⟨rfl, ?_⟩
  repeat' first | exact World.grownBy.refl _ _ | refine grown_alloc ?_ _ | refine grown_set ?_ (by simp) _
set_option maxHeartbeats 4000000 in
set_option maxRecDepth 20000 in
theorem shardsLong (v : Value) (l : List Int) (w : World) (h : Sl w v l) (hl : l.length = 8) :
    Calls Try.prog 80 #[v] w fun e w' => e = .returned (.tuple #[.agg (vals (shOr l)).toArray, .bool (shOk l)]) ∧ w.grownBy w' none := by
  obtain ⟨a, cap, rfl, h1, h2, hr⟩ := h
  rw [hl] at h1 ⊢
  unfold maxLen at h2
  have R := Lib.hid hr
  have L8 := Lib.hid hl
  clear hr hl
  have Z0 : Hid (Arr ((w.alloc (.cells #[.int .i64 0, .int .i64 0, .int .i64 0, .int .i64 0, .int .i64 0, .int .i64 0, .int .i64 0, .int .i64 0] 89)).alloc (.cells #[.int .i64 0, .int .i64 0, .int .i64 0, .int .i64 0, .int .i64 0, .int .i64 0, .int .i64 0, .int .i64 0] 89)) w.heap.size 89 [0, 0, 0, 0, 0, 0, 0, 0]) := Lib.hid ((Arr.new w _ [0, 0, 0, 0, 0, 0, 0, 0]).alloc _)
  have P0 : Hid (Arr ((w.alloc (.cells #[.int .i64 0, .int .i64 0, .int .i64 0, .int .i64 0, .int .i64 0, .int .i64 0, .int .i64 0, .int .i64 0] 89)).alloc (.cells #[.int .i64 0, .int .i64 0, .int .i64 0, .int .i64 0, .int .i64 0, .int .i64 0, .int .i64 0, .int .i64 0] 89)) (w.heap.size + 1) 89 (part l 0)) := Lib.hid (by
    have := Arr.new (w.alloc (.cells #[.int .i64 0, .int .i64 0, .int .i64 0, .int .i64 0, .int .i64 0, .int .i64 0, .int .i64 0, .int .i64 0] 89)) 89 [0, 0, 0, 0, 0, 0, 0, 0]
    rw [World.size_alloc] at this
    rw [show part l 0 = [0, 0, 0, 0, 0, 0, 0, 0] by simp [part, L8.out, List.replicate]]
    exact this)
  have G0 : Hid (w.grownBy ((w.alloc (.cells #[.int .i64 0, .int .i64 0, .int .i64 0, .int .i64 0, .int .i64 0, .int .i64 0, .int .i64 0, .int .i64 0] 89)).alloc (.cells #[.int .i64 0, .int .i64 0, .int .i64 0, .int .i64 0, .int .i64 0, .int .i64 0, .int .i64 0, .int .i64 0] 89)) none) := Lib.hid (grown_alloc (grown_alloc (World.grownBy.refl _ _) _) _)
  go_enter Try.func80, Try.ntmps80
  go_wp2_with fail
  go_loopw [13] (fun i wr => ∃ k : Nat, k ≤ 8 ∧ i = .int .i64 k ∧ (∀ j, j < k → Fld.ok (l.getD j 0) = true) ∧ w.grownBy wr none ∧ Arr wr w.heap.size 89 [0, 0, 0, 0, 0, 0, 0, 0] ∧ Arr wr (w.heap.size + 1) 89 (part l k)) (fun i _ => 8 - (intOf i).toNat)
  case atStart => exact ⟨0, by omega, rfl, fun j hj => by omega, G0.out, Z0.out, P0.out⟩
  case round =>
    obtain ⟨k, hk, rfl, hok, hg, hz, hp⟩ := hrel
    have OK := Lib.hid hok
    have G := Lib.hid hg
    have Z := Lib.hid hz
    have P := Lib.hid hp
    clear hok hg hz hp Z0 P0 G0
    have b0 : wr.cell? ⟨w.heap.size, 0, none⟩ = some (.int .i64 0) := Z.out.cell (by simp)
    have b1 : wr.cell? ⟨w.heap.size, 1, none⟩ = some (.int .i64 0) := Z.out.cell (by simp)
    have b2 : wr.cell? ⟨w.heap.size, 2, none⟩ = some (.int .i64 0) := Z.out.cell (by simp)
    have b3 : wr.cell? ⟨w.heap.size, 3, none⟩ = some (.int .i64 0) := Z.out.cell (by simp)
    have b4 : wr.cell? ⟨w.heap.size, 4, none⟩ = some (.int .i64 0) := Z.out.cell (by simp)
    have b5 : wr.cell? ⟨w.heap.size, 5, none⟩ = some (.int .i64 0) := Z.out.cell (by simp)
    have b6 : wr.cell? ⟨w.heap.size, 6, none⟩ = some (.int .i64 0) := Z.out.cell (by simp)
    have b7 : wr.cell? ⟨w.heap.size, 7, none⟩ = some (.int .i64 0) := Z.out.cell (by simp)
    have f0 := Z.out.frozen 0
    have f1 := Z.out.frozen 1
    have f2 := Z.out.frozen 2
    have f3 := Z.out.frozen 3
    have f4 := Z.out.frozen 4
    have f5 := Z.out.frozen 5
    have f6 := Z.out.frozen 6
    have f7 := Z.out.frozen 7
    by_cases hlt : k < 8
    · have hlt' : (k : Int) < 8 := by omega
      obtain ⟨b, o, rfl, hx⟩ := (R.out.grown G.out).at_ (k := k) (by rw [L8.out]; exact hlt)
      have pc : wr.cell? ⟨w.heap.size + 1, k, none⟩ = some (.int .i64 ((part l k).getD k 0)) := P.out.cell (by rw [part_length l k (by rw [L8.out]; omega), L8.out]; exact hlt)
      have pf := P.out.frozen k
      have PS := Lib.hid (part_set l k (by rw [L8.out]; exact hlt))
      obtain ⟨x, hxe⟩ : ∃ x, l.getD k 0 = x := ⟨_, rfl⟩
      rw [hxe] at hx PS
      have XE := Lib.hid hxe
      clear hxe
      generalize (part l k).getD k 0 = y at *
      cases hq : Fld.ok x with
      | false =>
        have NO : Hid (shOk l = false) := Lib.hid (shOk_not (i := k) (by rw [XE.out]; exact hq))
        have IO := Lib.hid (implOk x wr)
        rw [hq] at IO
        clear hq pc pf PS
        go_wp2_with fail
        refine IO.out.mono ?_
        rintro e w' ⟨rfl, rfl⟩
        go_wp2_with fail
        refine bodyPost_ret (v := .tuple #[.agg #[.int .i64 0, .int .i64 0, .int .i64 0, .int .i64 0, .int .i64 0, .int .i64 0, .int .i64 0, .int .i64 0], .bool false]) (by simp [results, Try.results80, go_sem, b0, b1, b2, b3, b4, b5, b6, b7]) rfl ⟨by simp [shOr, NO.out, vals], ?_⟩
        repeat' first | with_reducible exact G.out | refine grown_set ?_ (by simp) _
      | true =>
        have IO := Lib.hid (implOk x wr)
        rw [hq] at IO
        have OK' : Hid (∀ j, j < k + 1 → Fld.ok (l.getD j 0) = true) := Lib.hid (fun j hj => by
          by_cases e : j = k
          · subst e; rw [XE.out]; exact hq
          · exact OK.out j (by omega))
        have Z1 := Lib.hid (Z.out.far (p := ⟨w.heap.size + 1, k, none⟩) (by simp) (.int .i64 x))
        have P1 := Lib.hid (P.out.put k x)
        rw [PS.out] at P1
        have G1 := Lib.hid (grown_set G.out (p := ⟨w.heap.size + 1, k, none⟩) (by simp) (.int .i64 x))
        clear hq b0 b1 b2 b3 b4 b5 b6 b7 f0 f1 f2 f3 f4 f5 f6 f7
        go_wp2_with fail
        refine IO.out.mono ?_
        rintro e w' ⟨rfl, rfl⟩
        go_wp2_with fail
        clear pc pf hx
        go_roundw
        case rel => exact ⟨k + 1, by omega, by go_num, OK'.out, G1.out, Z1.out, P1.out⟩
        case measure => simp [intOf]; omega
    · obtain rfl : k = 8 := by omega
      have YES : Hid (shOk l = true) := Lib.hid (shOk_get L8.out OK.out)
      have PA : Arr wr (w.heap.size + 1) 89 l := by have := P.out; rwa [← L8.out, part_all] at this
      obtain ⟨x0, x1, x2, x3, x4, x5, x6, x7, rfl⟩ := list_eight L8.out
      have a0 : wr.cell? ⟨w.heap.size + 1, 0, none⟩ = some (.int .i64 x0) := PA.cell (by simp)
      have a1 : wr.cell? ⟨w.heap.size + 1, 1, none⟩ = some (.int .i64 x1) := PA.cell (by simp)
      have a2 : wr.cell? ⟨w.heap.size + 1, 2, none⟩ = some (.int .i64 x2) := PA.cell (by simp)
      have a3 : wr.cell? ⟨w.heap.size + 1, 3, none⟩ = some (.int .i64 x3) := PA.cell (by simp)
      have a4 : wr.cell? ⟨w.heap.size + 1, 4, none⟩ = some (.int .i64 x4) := PA.cell (by simp)
      have a5 : wr.cell? ⟨w.heap.size + 1, 5, none⟩ = some (.int .i64 x5) := PA.cell (by simp)
      have a6 : wr.cell? ⟨w.heap.size + 1, 6, none⟩ = some (.int .i64 x6) := PA.cell (by simp)
      have a7 : wr.cell? ⟨w.heap.size + 1, 7, none⟩ = some (.int .i64 x7) := PA.cell (by simp)
      clear PA
      go_wp2_with fail
      refine bodyPost_ret (v := .tuple #[.agg #[.int .i64 x0, .int .i64 x1, .int .i64 x2, .int .i64 x3, .int .i64 x4, .int .i64 x5, .int .i64 x6, .int .i64 x7], .bool true]) (by simp [results, Try.results80, go_sem, b0, b1, b2, b3, b4, b5, b6, b7]) rfl ⟨by simp [shOr, YES.out, vals], ?_⟩
      repeat' first | with_reducible exact G.out | refine grown_set ?_ (by simp) _
theorem implShards (v : Value) (l : List Int) (w : World) (h : Sl w v l) :
    Calls Try.prog 80 #[v] w fun e w' => e = .returned (.tuple #[.agg (vals (shOr l)).toArray, .bool (shOk l)]) ∧ w.grownBy w' none := by
  by_cases hl : l.length = 8
  · exact shardsLong v l w h hl
  · have e : shOk l = false := by simp [shOk, hl]
    have e2 : shOr l = [0, 0, 0, 0, 0, 0, 0, 0] := by simp [shOr, e]
    rw [e2, e]; exact shardsShort v l w h hl
end Go.Proofs.Ythglkgicckodaaa
namespace Go.Proofs.Ythglkgicckodaaa
open Go.RowKit
set_option linter.unusedVariables false
theorem padd_has {k : Nat} (hk : k = 1 ∨ k = 2) {f : List Bool} {n : Nat} (hn : n < 8) (ht : f.getD n false = true) : Sp.has (Sp.padd k f) (Sp.crow k n) = true := by
  refine (Sp.has_iff (Sp.padd_row hk f) (Sp.crow_row hk hn)).2 ?_
  have hl : n < (Sp.padd k f).length := by rw [Sp.padd_len]; exact hn
  have e : (Sp.padd k f).getD n [] = Sp.crow k n := by rw [Sp.padd_get hn, ht]; rfl
  have : Sp.toV (Sp.crow k n) ∈ (Sp.padd k f).map Sp.toV := by
    refine List.mem_map.2 ⟨_, ?_, rfl⟩
    rw [← e, List.getD_eq_getElem?_getD, List.getElem?_eq_getElem hl]
    exact List.getElem_mem hl
  exact Sp.In.mem this
theorem keep17 {w w' : World} (hg : w.grownBy w' none) {ga gt n : Nat} {a0 a1 a2 a3 a4 a5 a6 a7 s0 s1 s2 s3 s4 s5 s6 s7 y : Int} (h : (w.cell? ⟨ga, 0, none⟩ = some (.int .i64 a0) ∧ w.cell? ⟨ga, 1, none⟩ = some (.int .i64 a1) ∧ w.cell? ⟨ga, 2, none⟩ = some (.int .i64 a2) ∧ w.cell? ⟨ga, 3, none⟩ = some (.int .i64 a3) ∧ w.cell? ⟨ga, 4, none⟩ = some (.int .i64 a4) ∧ w.cell? ⟨ga, 5, none⟩ = some (.int .i64 a5) ∧ w.cell? ⟨ga, 6, none⟩ = some (.int .i64 a6) ∧ w.cell? ⟨ga, 7, none⟩ = some (.int .i64 a7)) ∧ (w.cell? ⟨gt, 0, none⟩ = some (.int .i64 s0) ∧ w.cell? ⟨gt, 1, none⟩ = some (.int .i64 s1) ∧ w.cell? ⟨gt, 2, none⟩ = some (.int .i64 s2) ∧ w.cell? ⟨gt, 3, none⟩ = some (.int .i64 s3) ∧ w.cell? ⟨gt, 4, none⟩ = some (.int .i64 s4) ∧ w.cell? ⟨gt, 5, none⟩ = some (.int .i64 s5) ∧ w.cell? ⟨gt, 6, none⟩ = some (.int .i64 s6) ∧ w.cell? ⟨gt, 7, none⟩ = some (.int .i64 s7)) ∧ w.cell? ⟨ga, n, none⟩ = some (.int .i64 y)) :
    (w'.cell? ⟨ga, 0, none⟩ = some (.int .i64 a0) ∧ w'.cell? ⟨ga, 1, none⟩ = some (.int .i64 a1) ∧ w'.cell? ⟨ga, 2, none⟩ = some (.int .i64 a2) ∧ w'.cell? ⟨ga, 3, none⟩ = some (.int .i64 a3) ∧ w'.cell? ⟨ga, 4, none⟩ = some (.int .i64 a4) ∧ w'.cell? ⟨ga, 5, none⟩ = some (.int .i64 a5) ∧ w'.cell? ⟨ga, 6, none⟩ = some (.int .i64 a6) ∧ w'.cell? ⟨ga, 7, none⟩ = some (.int .i64 a7)) ∧ (w'.cell? ⟨gt, 0, none⟩ = some (.int .i64 s0) ∧ w'.cell? ⟨gt, 1, none⟩ = some (.int .i64 s1) ∧ w'.cell? ⟨gt, 2, none⟩ = some (.int .i64 s2) ∧ w'.cell? ⟨gt, 3, none⟩ = some (.int .i64 s3) ∧ w'.cell? ⟨gt, 4, none⟩ = some (.int .i64 s4) ∧ w'.cell? ⟨gt, 5, none⟩ = some (.int .i64 s5) ∧ w'.cell? ⟨gt, 6, none⟩ = some (.int .i64 s6) ∧ w'.cell? ⟨gt, 7, none⟩ = some (.int .i64 s7)) ∧ w'.cell? ⟨ga, n, none⟩ = some (.int .i64 y) := by
  obtain ⟨⟨h0, h1, h2, h3, h4, h5, h6, h7⟩, ⟨k0, k1, k2, k3, k4, k5, k6, k7⟩, hn⟩ := h
  exact ⟨⟨hg.cell h0 (by simp), hg.cell h1 (by simp), hg.cell h2 (by simp), hg.cell h3 (by simp), hg.cell h4 (by simp), hg.cell h5 (by simp), hg.cell h6 (by simp), hg.cell h7 (by simp)⟩, ⟨hg.cell k0 (by simp), hg.cell k1 (by simp), hg.cell k2 (by simp), hg.cell k3 (by simp), hg.cell k4 (by simp), hg.cell k5 (by simp), hg.cell k6 (by simp), hg.cell k7 (by simp)⟩, hg.cell hn (by simp)⟩
def FitsOf (k : Nat) (f : List Bool) (a : List Int) (w : World) (e : Ending) (w' : World) : Prop := ∃ q, e = .returned (.bool q) ∧ (q = true ↔ Sp.Fit k f a) ∧ w.grownBy w' none
set_option maxHeartbeats 8000000 in
set_option maxRecDepth 20000 in
theorem genFits {k : Nat} (hk : k = 1 ∨ k = 2) (f : List Bool) (hf : f.length = 8) (a : List Int) (ra : Sp.Row 8 a) (w : World) : Calls Try.prog 102 #[.agg (vals (grid k)).toArray, .agg (vals a).toArray, .agg (bvals f).toArray] w (FitsOf k f a w) := by
  have GL := grid_len k hk
  have IX := Lib.hid (fun (n : Nat) (h : n < 8) (W : World) => idxG hk h W)
  have z : (vals (grid k)).toArray.size = 32 := by simp [vals_length, GL]
  have z8 : (bvals f).toArray.size = 8 := by simp [bvals_length, hf]
  have hi : (Try.prog.info? 87).map (·.size) = some (vals (grid k)).toArray.size := by rw [z]; kernel_rfl
  have hj : (Try.prog.info? 92).map (·.size) = some (bvals f).toArray.size := by rw [z8]; kernel_rfl
  obtain ⟨W0, hW0⟩ : ∃ W, W = ((w.alloc (.cells (vals (grid k)).toArray 87)).alloc (.cells (vals a).toArray 89)).alloc (.cells (bvals f).toArray 92) := ⟨_, rfl⟩
  have A0 : Hid (Arr W0 w.heap.size 87 (grid k)) := Lib.hid (by rw [hW0]; exact ((Arr.new w _ _).alloc _).alloc _)
  have V0 : Hid (Arr W0 (w.heap.size + 1) 89 a) := Lib.hid (by
    rw [hW0]
    have := (Arr.new (w.alloc (.cells (vals (grid k)).toArray 87)) 89 a).alloc (.cells (bvals f).toArray 92)
    rw [World.size_alloc] at this
    exact this)
  have F0 : Hid (BArr W0 (w.heap.size + 2) 92 f) := Lib.hid (by
    rw [hW0]
    have := BArr.new ((w.alloc (.cells (vals (grid k)).toArray 87)).alloc (.cells (vals a).toArray 89)) 92 f
    rw [World.size_alloc, World.size_alloc] at this
    exact this)
  have G0 : Hid (w.grownBy W0 none) := Lib.hid (by rw [hW0]; exact grown_alloc (grown_alloc (grown_alloc (World.grownBy.refl _ _) _) _) _)
  have RA := Lib.hid ra
  have HF8 := Lib.hid hf
  have GR := Lib.hid (fun w => genReduce hk f hf w)
  go_enter Try.func102, Try.ntmps102
  go_upto_region 1 with fail
  rw [← hW0]
  clear hW0
  obtain ⟨ga, hga⟩ : ∃ b, b = w.heap.size + 1 := ⟨_, rfl⟩
  obtain ⟨gf, hgf⟩ : ∃ g, g = w.heap.size + 1 + 1 := ⟨_, rfl⟩
  rw [← hga] at V0
  rw [show w.heap.size + 2 = gf from hgf.symm] at F0
  rw [← hgf, ← hga]
  obtain ⟨gg, hgg⟩ : ∃ g, g = w.heap.size := ⟨_, rfl⟩
  rw [← hgg] at A0 ⊢
  clear hga hgf hgg
  apply wp_region_lit
  refine wpList_load_row rfl _ _ rfl gg rfl _ _ _ _ A0.out Try.underlying87 rfl hi ?_
  refine wpList_load_row rfl _ _ rfl gf rfl _ _ _ _ F0.out Try.underlying92 rfl hj ?_
  have HI := Lib.hid hi
  clear GL z z8 hi hj hf ra
  generalize hfv : bvals f = fv at GR ⊢
  clear hfv
  generalize hgr : grid k = l at *
  clear hgr
  go_wp2_with fail
  refine (GR.out _).mono ?_
  rintro e w1 ⟨hg, b, g, q, S, pv, pn, rfl, hb, he, hst⟩
  have G1 := Lib.hid (grown_trans G0.out hg)
  have E1 := Lib.hid he
  have BY := Lib.hid (fun (v : List Int) (hv : Sp.Row 4 v) => hst.by (Sp.padd_row hk f) (by rw [Sp.padd_len]; exact Nat.le_refl _) hv)
  have RS := Lib.hid hst.row
  have A1 := Lib.hid (A0.out.still hg)
  have V1 := Lib.hid (V0.out.still hg)
  have F1 := Lib.hid (F0.out.still hg)
  clear hg hb he hst A0 V0 F0 GR G0
  go_upto_region 2 with fail
  apply wp_region_lit
  refine wpList_load_row rfl _ _ rfl gg rfl _ _ _ _ A1.out Try.underlying87 rfl HI.out ?_
  clear A1 HI
  go_wp2_with fail
  go_loopw [16] (fun i wr => ∃ n : Nat, n ≤ 8 ∧ i = .int .i64 n ∧ w.grownBy wr none ∧ Ech wr b g q S pv (pn.map fun (i : Nat) => (i : Int)) ∧ Arr wr ga 89 a ∧ BArr wr gf 92 f ∧ ∀ i, i < n → f.getD i false = true → ∃ c, Sp.IsBy (Sp.padd k f) (Sp.crow k i) c ∧ Sp.csum a c 8 = a.getD i 0) (fun i _ => 8 - (intOf i).toNat)
  case atStart => exact ⟨0, by omega, rfl, G1.out, E1.out, V1.out, F1.out, fun i hi => by omega⟩
  case round =>
    obtain ⟨n, hn, rfl, hgr, he, hv, hfl, hin⟩ := hrel
    have G := Lib.hid hgr
    have E := Lib.hid he
    have V := Lib.hid hv
    have F := Lib.hid hfl
    have IN := Lib.hid hin
    clear hgr he hv hfl hin G1 E1 V1 F1
    by_cases hlt : n < 8
    · have hlt' : (n : Int) < 8 := by omega
      obtain ⟨x, y, zz, t, hc, hok⟩ := crow_four hk hlt
      have ix0 := IX.out n hlt wr
      rw [hc] at ix0
      have ix : (Instr.index 87 (.agg (vals l).toArray) (.int .i64 n)).run Try.prog wr = .ok (.agg #[.int .i64 x, .int .i64 y, .int .i64 zz, .int .i64 t]) wr := ix0
      clear ix0
      have HC := Lib.hid hc
      have V4 : Hid (Vec.ok [x, y, zz, t] = true) := Lib.hid (by rw [← hc]; exact Sp.row_ok.2 (Sp.crow_row hk hlt))
      clear hc hok
      have fl : wr.cell? ⟨gf, n, none⟩ = some (.bool (f.getD n false)) := F.out.cell (by rw [HF8.out]; exact hlt)
      have FL := F.out.lt
      have G1 := Lib.hid (grown_alloc G.out (.cells (vals [x, y, zz, t]).toArray 68))
      have F1 := Lib.hid (F.out.alloc (.cells (vals [x, y, zz, t]).toArray 68))
      have V1 := Lib.hid (V.out.alloc (.cells (vals [x, y, zz, t]).toArray 68))
      have E1 := Lib.hid (E.out.grown (World.grownBy_alloc wr (.cells (vals [x, y, zz, t]).toArray 68) none))
      cases hfn : f.getD n false with
      | false =>
        rw [hfn] at fl
        have IN1 : Hid (∀ i, i < n + 1 → f.getD i false = true → ∃ c, Sp.IsBy (Sp.padd k f) (Sp.crow k i) c ∧ Sp.csum a c 8 = a.getD i 0) := Lib.hid (fun i hi ht => by
          by_cases e : i = n
          · subst e; rw [hfn] at ht; cases ht
          · exact IN.out i (by omega) ht)
        clear hfn G F E V IN
        go_wp2_with fail
        go_roundw
        case rel => exact ⟨n + 1, by omega, by go_num, G1.out, E1.out, V1.out, F1.out, IN1.out⟩
        case measure => simp [intOf]; omega
      | true =>
        rw [hfn] at fl
        have HT := Lib.hid hfn
        have BN := Lib.hid (BY.out (Sp.crow k n) (Sp.crow_row hk hlt))
        have NG := Lib.hid (BN.out.2.1.1 (padd_has hk hlt hfn))
        rw [HC.out] at BN NG
        obtain ⟨r, hr⟩ : ∃ r, Sp.red S 4 ([x, y, zz, t] ++ Sp.none8) = r := ⟨_, rfl⟩
        rw [hr] at BN NG
        have HR := Lib.hid hr
        clear hfn G F E V hr
        go_wp2_with fail
        change Calls _ _ _ (wr.alloc (.cells (vals [x, y, zz, t]).toArray 68)) _
        clear fl ix
        generalize wr.alloc (.cells (vals [x, y, zz, t]).toArray 68) = w2 at *
        refine (echBy b g q S pv _ x y zz t _ E1.out RS.out V4.out).mono ?_
        rw [HR.out]
        rintro e w3 ⟨hg, ⟨hneg, rfl⟩ | ⟨hpos, rfl⟩⟩
        · have G3 := Lib.hid (grown_trans G1.out hg)
          have E3 := Lib.hid (E1.out.grown hg)
          have V3 := Lib.hid (V1.out.still hg)
          have F3 := Lib.hid (F1.out.still hg)
          have IB := Lib.hid (BN.out.2.2 hneg)
          have RR := Lib.hid (Sp.row_lmul BN.out.1 30)
          have hs8 : ((Sp.lmul r 30).drop 4).length = 8 := by rw [List.length_drop, RR.out.1]
          have OS : Hid (∀ x ∈ (Sp.lmul r 30).drop 4, Fld.ok x = true) := Lib.hid (fun x hx => RR.out.2 x (List.mem_of_mem_drop hx))
          have IB' : Hid (Sp.IsBy (Sp.padd k f) (Sp.crow k n) ((Sp.lmul r 30).drop 4)) := Lib.hid (by
            have := IB.out
            rw [Sp.padd_len, List.take_of_length_le (by rw [hs8]; exact Nat.le_refl _)] at this
            rw [HC.out]; exact this)
          obtain ⟨s, hs⟩ : ∃ s, (Sp.lmul r 30).drop 4 = s := ⟨_, rfl⟩
          rw [hs] at IB' hs8 OS ⊢
          have S8 := Lib.hid hs8
          clear hg hneg hs BN NG HR IB RR G1 E1 V1 F1
          have CB := Lib.hid (fun w => combine a s RA.out.1 S8.out RA.out.2 OS.out w)
          have an : a.getD n 0 = a.getD n 0 := rfl
          obtain ⟨cs, hcs⟩ : ∃ cs, Sp.csum a s 8 = cs := ⟨_, rfl⟩
          obtain ⟨s0, s1, s2, s3, s4, s5, s6, s7, rfl⟩ := list_eight hs8
          obtain ⟨a0, a1, a2, a3, a4, a5, a6, a7, rfl⟩ := list_eight RA.out.1
          rw [show (vals [s0, s1, s2, s3, s4, s5, s6, s7]).toArray = #[.int .i64 s0, .int .i64 s1, .int .i64 s2, .int .i64 s3, .int .i64 s4, .int .i64 s5, .int .i64 s6, .int .i64 s7] from rfl]
          rw [show (vals [s0, s1, s2, s3, s4, s5, s6, s7]).toArray = #[.int .i64 s0, .int .i64 s1, .int .i64 s2, .int .i64 s3, .int .i64 s4, .int .i64 s5, .int .i64 s6, .int .i64 s7] from rfl,
            show (vals [a0, a1, a2, a3, a4, a5, a6, a7]).toArray = #[.int .i64 a0, .int .i64 a1, .int .i64 a2, .int .i64 a3, .int .i64 a4, .int .i64 a5, .int .i64 a6, .int .i64 a7] from rfl, hcs] at CB
          obtain ⟨w4, hw4⟩ : ∃ W, w3.alloc (.cells #[.int .i64 s0, .int .i64 s1, .int .i64 s2, .int .i64 s3, .int .i64 s4, .int .i64 s5, .int .i64 s6, .int .i64 s7] 88) = W := ⟨_, rfl⟩
          have T4 : Arr w4 w3.heap.size 88 [s0, s1, s2, s3, s4, s5, s6, s7] := by rw [← hw4]; exact Arr.new w3 88 [s0, s1, s2, s3, s4, s5, s6, s7]
          have G4 : Hid (w.grownBy w4 none) := Lib.hid (by rw [← hw4]; exact grown_alloc G3.out _)
          have E4 : Hid (Ech w4 b g q S pv (pn.map fun (i : Nat) => (i : Int))) := Lib.hid (by rw [← hw4]; exact E3.out.grown (World.grownBy_alloc _ _ _))
          have V5 : Arr w4 ga 89 [a0, a1, a2, a3, a4, a5, a6, a7] := by rw [← hw4]; exact V3.out.alloc _
          have V4' := Lib.hid V5
          have F4 : Hid (BArr w4 gf 92 f) := Lib.hid (by rw [← hw4]; exact F3.out.alloc _)
          have lt3 : w3.heap.size < w4.heap.size := T4.lt
          have va0 : w4.drew.cell? ⟨ga, 0, none⟩ = some (.int .i64 a0) := V5.cell (by simp)
          have va1 : w4.drew.cell? ⟨ga, 1, none⟩ = some (.int .i64 a1) := V5.cell (by simp)
          have va2 : w4.drew.cell? ⟨ga, 2, none⟩ = some (.int .i64 a2) := V5.cell (by simp)
          have va3 : w4.drew.cell? ⟨ga, 3, none⟩ = some (.int .i64 a3) := V5.cell (by simp)
          have va4 : w4.drew.cell? ⟨ga, 4, none⟩ = some (.int .i64 a4) := V5.cell (by simp)
          have va5 : w4.drew.cell? ⟨ga, 5, none⟩ = some (.int .i64 a5) := V5.cell (by simp)
          have va6 : w4.drew.cell? ⟨ga, 6, none⟩ = some (.int .i64 a6) := V5.cell (by simp)
          have va7 : w4.drew.cell? ⟨ga, 7, none⟩ = some (.int .i64 a7) := V5.cell (by simp)
          have vs0 : w4.drew.cell? ⟨w3.heap.size, 0, none⟩ = some (.int .i64 s0) := T4.cell (by simp)
          have vs1 : w4.drew.cell? ⟨w3.heap.size, 1, none⟩ = some (.int .i64 s1) := T4.cell (by simp)
          have vs2 : w4.drew.cell? ⟨w3.heap.size, 2, none⟩ = some (.int .i64 s2) := T4.cell (by simp)
          have vs3 : w4.drew.cell? ⟨w3.heap.size, 3, none⟩ = some (.int .i64 s3) := T4.cell (by simp)
          have vs4 : w4.drew.cell? ⟨w3.heap.size, 4, none⟩ = some (.int .i64 s4) := T4.cell (by simp)
          have vs5 : w4.drew.cell? ⟨w3.heap.size, 5, none⟩ = some (.int .i64 s5) := T4.cell (by simp)
          have vs6 : w4.drew.cell? ⟨w3.heap.size, 6, none⟩ = some (.int .i64 s6) := T4.cell (by simp)
          have vs7 : w4.drew.cell? ⟨w3.heap.size, 7, none⟩ = some (.int .i64 s7) := T4.cell (by simp)
          have vn : w4.drew.cell? ⟨ga, n, none⟩ = some (.int .i64 ([a0, a1, a2, a3, a4, a5, a6, a7].getD n 0)) := V5.cell (by simp; omega)
          obtain ⟨an', han⟩ : ∃ y, [a0, a1, a2, a3, a4, a5, a6, a7].getD n 0 = y := ⟨_, rfl⟩
          rw [han] at vn
          have HAN := Lib.hid han
          have HCS := Lib.hid hcs
          have W4 := Lib.hid hw4
          have S1 : Hid (w4.drew.cell? ⟨ga, n, none⟩ = some (.int .i64 an')) := Lib.hid vn
          clear T4 V5 an hcs han hw4 V3 F3 E3 G3 hs8
          obtain ⟨gt, hgt⟩ : ∃ gt, w3.heap.size = gt := ⟨_, rfl⟩
          rw [hgt] at vs0 vs1 vs2 vs3 vs4 vs5 vs6 vs7
          go_wp2_with fail
          rw [W4.out]
          clear hgt
          go_region_held3 (fun w' => ((w'.cell? ⟨ga, 0, none⟩ = some (.int .i64 a0) ∧ w'.cell? ⟨ga, 1, none⟩ = some (.int .i64 a1) ∧ w'.cell? ⟨ga, 2, none⟩ = some (.int .i64 a2) ∧ w'.cell? ⟨ga, 3, none⟩ = some (.int .i64 a3) ∧ w'.cell? ⟨ga, 4, none⟩ = some (.int .i64 a4) ∧ w'.cell? ⟨ga, 5, none⟩ = some (.int .i64 a5) ∧ w'.cell? ⟨ga, 6, none⟩ = some (.int .i64 a6) ∧ w'.cell? ⟨ga, 7, none⟩ = some (.int .i64 a7)) ∧ (w'.cell? ⟨gt, 0, none⟩ = some (.int .i64 s0) ∧ w'.cell? ⟨gt, 1, none⟩ = some (.int .i64 s1) ∧ w'.cell? ⟨gt, 2, none⟩ = some (.int .i64 s2) ∧ w'.cell? ⟨gt, 3, none⟩ = some (.int .i64 s3) ∧ w'.cell? ⟨gt, 4, none⟩ = some (.int .i64 s4) ∧ w'.cell? ⟨gt, 5, none⟩ = some (.int .i64 s5) ∧ w'.cell? ⟨gt, 6, none⟩ = some (.int .i64 s6) ∧ w'.cell? ⟨gt, 7, none⟩ = some (.int .i64 s7)) ∧ w'.cell? ⟨ga, n, none⟩ = some (.int .i64 an')))
            (first
              | with_reducible exact ⟨⟨va0, va1, va2, va3, va4, va5, va6, va7⟩, ⟨vs0, vs1, vs2, vs3, vs4, vs5, vs6, vs7⟩, vn⟩
              | with_reducible exact HS.out)
            (first
              | (go_at_call 106; refine (CB.out _).mono ?_; rintro e w5 ⟨rfl, hg5⟩
                 have HS := Lib.hid (keep17 hg5 ⟨⟨va0, va1, va2, va3, va4, va5, va6, va7⟩, ⟨vs0, vs1, vs2, vs3, vs4, vs5, vs6, vs7⟩, vn⟩)))
          have GD : Hid (w4.grownBy w5 none) := Lib.hid (grown_trans (grown_drew (World.grownBy.refl _ none)) hg5)
          have G5 := Lib.hid (grown_trans G4.out GD.out)
          have E5 := Lib.hid (E4.out.grown GD.out)
          have V5 := Lib.hid (V4'.out.still GD.out)
          have F5 := Lib.hid (F4.out.still GD.out)
          clear va0 va1 va2 va3 va4 va5 va6 va7 vs0 vs1 vs2 vs3 vs4 vs5 vs6 vs7 vn HS hg5 GD G4 E4 V4' F4 S1 CB W4 S8 OS
          by_cases hne : cs = an'
          · have IN1 : Hid (∀ i, i < n + 1 → f.getD i false = true → ∃ c, Sp.IsBy (Sp.padd k f) (Sp.crow k i) c ∧ Sp.csum [a0, a1, a2, a3, a4, a5, a6, a7] c 8 = [a0, a1, a2, a3, a4, a5, a6, a7].getD i 0) := Lib.hid (fun i hi ht => by
              by_cases e : i = n
              · subst e; exact ⟨_, IB'.out, by rw [HCS.out, HAN.out]; exact hne⟩
              · exact IN.out i (by omega) ht)
            subst hne
            clear IN HCS HAN IB'
            go_wp2_with fail
            go_roundw
            case rel => exact ⟨n + 1, by omega, by go_num, G5.out, E5.out, V5.out, F5.out, IN1.out⟩
            case measure => simp [intOf]; omega
          · have NF : Hid (¬ Sp.Fit k f [a0, a1, a2, a3, a4, a5, a6, a7]) := Lib.hid (Sp.fit_no hk RA.out hlt HT.out IB'.out (by rw [HCS.out, HAN.out]; exact hne))
            have hnb : (cs != an') = true := by rw [bne_iff_ne]; exact hne
            clear IN HCS HAN IB'
            go_wp2_with fail
            go_ret
            exact ⟨false, rfl, ⟨fun h => (by cases h), fun h => absurd h NF.out⟩, G5.out⟩
        · exact absurd NG.out hpos
    · obtain rfl : n = 8 := by omega
      have Y := Lib.hid (Sp.fit_yes hk (vals := a) (fun i hi ht => IN.out i hi ht))
      go_wp2_with fail
      go_ret
      exact ⟨true, rfl, ⟨fun _ => Y.out, fun _ => rfl⟩, G.out⟩
def FitM (k : Int) (l : List Int) (f : List Bool) : Prop := (k = 1 ∨ k = 2) ∧ shOk l = true ∧ f.length = 8 ∧ Sp.Fit k.toNat f l
theorem storeS (w : World) {l : List Int} (hl : l.length = 8) : (storeCells ⟨w.heap.size, 0, none⟩ (vals l) 0).run Try.prog (w.alloc (.cells #[.int .i64 0, .int .i64 0, .int .i64 0, .int .i64 0, .int .i64 0, .int .i64 0, .int .i64 0, .int .i64 0] 89)) = .ok () (w.alloc (.cells (vals l).toArray 89)) := by
  have h := run_storeCells_from (P := Try.prog) w.heap.size 89 (vals l) 0 _ (w.alloc (.cells #[.int .i64 0, .int .i64 0, .int .i64 0, .int .i64 0, .int .i64 0, .int .i64 0, .int .i64 0, .int .i64 0] 89)) (heap_alloc_last w _) (by rw [vals_length, hl]; rfl) (vals_one l)
  rw [h, World.setRow_alloc_new]
  rfl
theorem shOr_len (l : List Int) : (shOr l).length = 8 := by
  unfold shOr
  cases h : shOk l with
  | false => rfl
  | true => exact (shOk_row.1 h).1
end Go.Proofs.Ythglkgicckodaaa
namespace Go.Proofs.Ythglkgicckodaaa
open Go.RowKit
set_option linter.unusedVariables false
theorem implGen (k : Int) (w : World) : Calls Try.prog 79 #[.int .i64 k] w fun e w' => ∃ (L : List Int) (b : Bool), L.length = 32 ∧ (b = true ↔ k = 1 ∨ k = 2) ∧ (b = true → L = grid k.toNat) ∧ e = .returned (.tuple #[.agg (vals L).toArray, .bool b]) ∧ w.grownBy w' none := by
  rcases kind_cases k with ⟨n, rfl, hn⟩ | ⟨h1, h2⟩
  · refine (genYes hn w).mono fun e w' ⟨h1, h2⟩ => ⟨grid n, true, grid_len n hn, ⟨fun _ => by omega, fun _ => rfl⟩, fun _ => by simp, h1, h2⟩
  · refine (genNone k w h1 h2).mono fun e w' ⟨h3, h4⟩ => ⟨List.replicate 32 0, false, rfl, ⟨fun h => (by cases h), fun h => by omega⟩, fun h => (by cases h), h3, h4⟩
theorem implFlags (v : Value) (f : List Bool) (w : World) (h : Bl w v f) : Calls Try.prog 81 #[v] w fun e w' => ∃ (F : List Bool) (b : Bool), F.length = 8 ∧ (b = true ↔ f.length = 8) ∧ (b = true → F = f) ∧ e = .returned (.tuple #[.agg (bvals F).toArray, .bool b]) ∧ w.grownBy w' none := by
  by_cases hf : f.length = 8
  · obtain ⟨b0, b1, b2, b3, b4, b5, b6, b7, rfl⟩ := list_eight hf
    exact (flagsYes v b0 b1 b2 b3 b4 b5 b6 b7 w h).mono fun e w' ⟨h1, h2⟩ => ⟨_, true, rfl, ⟨fun _ => rfl, fun _ => rfl⟩, fun _ => rfl, h1, h2⟩
  · exact (flagsNo v f w h hf).mono fun e w' ⟨h1, h2⟩ => ⟨_, false, rfl, ⟨fun h => (by cases h), fun h => absurd h hf⟩, fun h => (by cases h), h1, h2⟩
theorem storeF (w : World) {l : List Bool} (hl : l.length = 8) : (storeCells ⟨w.heap.size, 0, none⟩ (bvals l) 0).run Try.prog (w.alloc (.cells #[.bool false, .bool false, .bool false, .bool false, .bool false, .bool false, .bool false, .bool false] 92)) = .ok () (w.alloc (.cells (bvals l).toArray 92)) := by
  have h := run_storeCells_from (P := Try.prog) w.heap.size 92 (bvals l) 0 _ (w.alloc (.cells #[.bool false, .bool false, .bool false, .bool false, .bool false, .bool false, .bool false, .bool false] 92)) (heap_alloc_last w _) (by rw [bvals_length, hl]; rfl) (bvals_one l)
  rw [h, World.setRow_alloc_new]
  rfl
end Go.Proofs.Ythglkgicckodaaa
namespace Go.Proofs.Ythglkgicckodaaa
open Go.RowKit
set_option linter.unusedVariables false
set_option maxHeartbeats 2000000 in
set_option maxRecDepth 20000 in
theorem specVals (u v : Value) (l : List Int) (f : List Bool) (w : World) (hu : Sl w u l) (hv : Bl w v f) (h1 : l.length ≤ 1048576) : Calls Try.prog 72 #[u, v] w fun e w' => e = .returned (.bool (shOk l && decide (f.length = 8))) ∧ w = w' := by
  obtain ⟨a, cap, rfl, h2, h3, hr⟩ := hu
  obtain ⟨a', cap', rfl, h2', h3', _⟩ := hv
  unfold maxLen at h3 h3'
  have R := Lib.hid hr
  clear hr
  go_enter Try.func72, Try.ntmps72
  go_wp2_with fail
  go_loopw [5] (fun i wr => ∃ k : Nat, k ≤ l.length ∧ i = .int .i64 k ∧ (∀ j, j < k → Fld.ok (l.getD j 0) = true) ∧ wr = w) (fun i _ => l.length - (intOf i).toNat)
  case atStart => exact ⟨0, Nat.zero_le _, rfl, fun j hj => by omega, rfl⟩
  case round =>
    obtain ⟨k, hk, rfl, hok, rfl⟩ := hrel
    have OK := Lib.hid hok
    clear hok
    by_cases hlt : k < l.length
    · have hlt' : (k : Int) < (l.length : Int) := by omega
      obtain ⟨b, o, rfl, hx⟩ := R.out.at_ hlt
      obtain ⟨x, hxe⟩ : ∃ x, l.getD k 0 = x := ⟨_, rfl⟩
      rw [hxe] at hx
      have XE := Lib.hid hxe
      clear hxe
      have IO := Lib.hid (specOk x wr)
      cases hq : Fld.ok x with
      | false =>
        rw [hq] at IO
        have NO : Hid (shOk l = false) := Lib.hid (shOk_not (i := k) (by rw [XE.out]; exact hq))
        clear hq
        go_wp2_with fail
        refine IO.out.mono ?_
        rintro e w' ⟨rfl, rfl⟩
        go_wp2_with fail
        go_ret
        exact ⟨ret_bool (by rw [NO.out]; rfl), rfl⟩
      | true =>
        rw [hq] at IO
        have OK' : Hid (∀ j, j < k + 1 → Fld.ok (l.getD j 0) = true) := Lib.hid (fun j hj => by
          by_cases e : j = k
          · subst e; rw [XE.out]; exact hq
          · exact OK.out j (by omega))
        clear hq
        go_wp2_with fail
        refine IO.out.mono ?_
        rintro e w' ⟨rfl, rfl⟩
        go_wp2_with fail
        go_roundw
        case rel => exact ⟨k + 1, by omega, by go_num, OK'.out, by first | rfl | trivial⟩
        case measure => simp [intOf]; omega
    · have : k = l.length := by omega
      subst this
      have E : Hid (shOk l = decide (l.length = 8)) := Lib.hid (by
        by_cases h8 : l.length = 8
        · rw [decide_eq_true h8]; exact shOk_get h8 (fun i hi => OK.out i (by omega))
        · rw [decide_eq_false h8]; simp [shOk, h8])
      by_cases h8 : l.length = 8
      · have e8 : ((l.length : Int) == 8) = true := by rw [beq_iff_eq]; omega
        have E1 : Hid (shOk l = true) := Lib.hid (by rw [E.out, decide_eq_true h8])
        clear E h8
        by_cases h9 : f.length = 8
        · have e9 : ((f.length : Int) == 8) = true := by rw [beq_iff_eq]; omega
          have E2 : Hid (decide (f.length = 8) = true) := Lib.hid (decide_eq_true h9)
          clear h9
          go_wp2_with fail
          go_ret
          exact ⟨ret_bool (by rw [E1.out, E2.out]; rfl), rfl⟩
        · have e9 : ((f.length : Int) == 8) = false := by rw [beq_eq_false_iff_ne]; omega
          have E2 : Hid (decide (f.length = 8) = false) := Lib.hid (decide_eq_false h9)
          clear h9
          go_wp2_with fail
          go_ret
          exact ⟨ret_bool (by rw [E1.out, E2.out]; rfl), rfl⟩
      · have e8 : ((l.length : Int) == 8) = false := by rw [beq_eq_false_iff_ne]; omega
        have E1 : Hid (shOk l = false) := Lib.hid (by rw [E.out, decide_eq_false h8])
        clear E h8
        go_wp2_with fail
        go_ret
        exact ⟨ret_bool (by rw [E1.out]; rfl), rfl⟩
def Away (vs : List Value) (p : Value) : Prop := ∀ x ∈ vs, ∀ ad n c, x = .slice (some ad) n c → p.ownBlock ≠ some ad.block
theorem STab.far {w w' : World} {base : Nat} {v p : Value} {us : List Value} {m : List (List Int)} (h : STab w base v us m) (hg : w.grownBy w' p.ownBlock) (hv : v.ownBlock = none ∨ v.ownBlock ≠ p.ownBlock) (hr : Away us p) : STab w' base v us m := by
  refine ⟨World.ownsRow.kept h.top hg hv, h.len, fun i u l hu hl => ?_⟩
  obtain ⟨⟨a, cap, rfl, h1, h2, h3⟩, hi⟩ := h.rows i u l hu hl
  have hm : Value.slice a l.length cap ∈ us := List.mem_of_getElem? hu
  refine ⟨⟨a, cap, rfl, h1, h2, ?_⟩, fun x n c e => ?_⟩
  · rcases h3 with h3 | ⟨b, o', rfl, h3⟩
    · exact .inl h3
    · exact .inr ⟨b, o', rfl, fun i hi' => hg.cell (h3 i hi') (fun e => hr _ hm _ _ _ rfl e.symm)⟩
  · obtain ⟨cur, fr, hx⟩ := hi x n c e
    exact ⟨cur, fr, (hg.block _ (Array.getElem?_eq_some_iff.1 hx).1 (fun e' => hr _ hm _ _ _ e e'.symm)).trans hx⟩
theorem STab.below {w : World} {base : Nat} {v : Value} {us : List Value} {m : List (List Int)} (h : STab w base v us m) : ∀ x ∈ us, ∀ ad n c, x = .slice (some ad) n c → ad.block < w.heap.size := by
  intro x hx ad n c e
  obtain ⟨i, hi, rfl⟩ := List.mem_iff_getElem.1 hx
  have hl : i < m.length := by rw [← h.len]; exact hi
  obtain ⟨cur, fr, hh⟩ := (h.rows i us[i] m[i] (List.getElem?_eq_getElem hi) (List.getElem?_eq_getElem hl)).2 ad n c e
  exact (Array.getElem?_eq_some_iff.1 hh).1
set_option maxHeartbeats 8000000 in
set_option maxRecDepth 20000 in
theorem specL4Fits {k : Nat} (hk : k = 1 ∨ k = 2) (u v : Value) (a : List Int) (f : List Bool) (w : World) (hu : Sl w u a) (hv : Bl w v f) (ra : Sp.Row 8 a) (hf : f.length = 8) : Calls Try.prog 73 #[.int .i64 k, u, v] w (FitsOf k f a w) := by
  obtain ⟨i0, hi, hz0, hz1, hz2⟩ := info_parts infoInts
  have I1 := Lib.hid hi
  have I2 := Lib.hid hz0
  have I3 := Lib.hid hz1
  have I4 := Lib.hid hz2
  clear hi hz0 hz1 hz2
  obtain ⟨j0, hi, hz0, hz1, hz2⟩ := info_parts infoInt
  have J1 := Lib.hid hi
  have J2 := Lib.hid hz0
  have J3 := Lib.hid hz1
  have J4 := Lib.hid hz2
  clear hi hz0 hz1 hz2
  obtain ⟨ua, uc, rfl, u1, u2, hru⟩ := hu
  obtain ⟨va, vc, rfl, v1, v2, hrv⟩ := hv
  rw [ra.1] at u1 ⊢
  rw [hf] at v1 ⊢
  unfold maxLen at u2 v2
  have RU := Lib.hid hru
  have RV := Lib.hid hrv
  have RA := Lib.hid ra
  have HF := Lib.hid hf
  clear hru hrv ra hf
  have M0 := Lib.hid (STab.made w w.heap.size (Nat.le_refl _))
  have N0 : Hid (Own ((w.alloc (.cells #[] 23)).alloc (.cells #[] 3)) w.heap.size (.slice (some ⟨w.heap.size + 1, 0, none⟩) 0 0) []) := Lib.hid (by
    have := Own.made (w.alloc (.cells #[] 23)) w.heap.size [] (by simp) (by simp)
    rw [World.size_alloc] at this
    exact this)
  have RW := Lib.hid (fun (n : Nat) (h : n < 8) (w : World) => specL4Row hk h w)
  go_enter Try.func73, Try.ntmps73
  go_wp2_with fail
  go_loopw [7, 8, 9] (fun o p i wr => ∃ n : Nat, n ≤ 8 ∧ i = .int .i64 n ∧ w.grownBy wr none ∧ ∃ vs R G, STab wr w.heap.size o vs R ∧ Own wr w.heap.size p G ∧ Sp.Fits k f a n R G ∧ Away vs p) (fun _ _ i _ => 8 - (intOf i).toNat)
  case atStart => exact ⟨0, by omega, rfl, grown_alloc (grown_alloc (World.grownBy.refl _ _) _) _, [], [], [], M0.out.still (World.grownBy_alloc _ _ _), N0.out, Sp.Fits.start k f a, fun x hx => (by cases hx)⟩
  case round =>
    obtain ⟨n, hn, rfl, hg, vs, R, G, hst, how, hfi, haw⟩ := hrel
    have AW := Lib.hid haw
    have GR := Lib.hid hg
    have ST := Lib.hid hst
    have OW := Lib.hid how
    have FI := Lib.hid hfi
    clear hg hst how hfi haw M0 N0
    by_cases hlt : n < 8
    · have hlt' : (n : Int) < 8 := by omega
      obtain ⟨b, o, rfl, hx⟩ := (RV.out.grown GR.out).at_ (k := n) (by rw [HF.out]; exact hlt)
      cases hfn : f.getD n false with
      | false =>
        rw [hfn] at hx
        have FS := Lib.hid (FI.out.skip hfn)
        clear hfn
        go_wp2_with fail
        go_roundw
        case rel => exact ⟨n + 1, by omega, by go_num, GR.out, vs, R, G, ST.out, OW.out, FS.out, AW.out⟩
        case measure => simp [intOf]; omega
      | true =>
        rw [hfn] at hx
        have HT := Lib.hid hfn
        have RL : R.length ≤ 8 := by have := FI.out.few; omega
        have GL : G.length = R.length := FI.out.got.1
        have HGL := Lib.hid GL
        have vl : vs.length ≤ 8 := by rw [ST.out.len]; exact RL
        have gl : G.length ≤ 8 := by omega
        have CR := Lib.hid (Sp.crow_row hk hlt)
        have RN := Lib.hid (RW.out n hlt)
        have FN : Hid (∀ l', (∀ j, Sp.toV (Sp.crow k n) j = Sp.comb (Sp.toV l') (R.map Sp.toV) j) → (Sp.msum l' G R.length = a.getD n 0 → Sp.Fits k f a (n + 1) R G) ∧ (Sp.msum l' G R.length ≠ a.getD n 0 → ¬ Sp.Fit k f a)) := Lib.hid (fun l' hl => ⟨fun e => FI.out.made hl e, fun e => FI.out.no RA.out hlt hfn hl e⟩)
        have FM : Hid (¬ Sp.Made R (Sp.crow k n) → Sp.Fits k f a (n + 1) (R ++ [Sp.crow k n]) (G ++ [a.getD n 0])) := Lib.hid (fun h => FI.out.more hk RA.out hlt hfn h)
        obtain ⟨row, hrow⟩ : ∃ r, Sp.crow k n = r := ⟨_, rfl⟩
        rw [hrow] at CR RN FN FM
        have C4 := Lib.hid CR.out.1
        have hsz : w.heap.size ≤ wr.heap.size := GR.out.size
        obtain ⟨bu, ou, hua, hxu⟩ := (RU.out.grown GR.out).at_ (k := n) (by rw [RA.out.1]; exact hlt)
        obtain ⟨an, han⟩ : ∃ y, a.getD n 0 = y := ⟨_, rfl⟩
        rw [han] at hxu FN FM
        have HAN := Lib.hid han
        subst hua
        clear hfn hrow han GL
        go_wp2_with fail
        refine (RN.out _).mono ?_
        rintro e w3 ⟨x, rfl, hg, ho⟩
        have G3 := Lib.hid (grown_trans GR.out hg)
        have R3 : Hid (Sl w3 x row ∧ IntRow w3 x) := Lib.hid ⟨ho.sl, ho.intRow⟩
        have ST3 := Lib.hid (ST.out.still hg)
        have OW3 := Lib.hid (OW.out.still hg)
        have hxu3 := hg.cell hxu (by simp)
        obtain ⟨au, cu, eu, _, _, _⟩ := ho.sl
        rw [C4.out] at eu
        subst eu
        have AN : Hid (∀ ad n c, Value.slice au 4 cu = .slice (some ad) n c → u8.ownBlock ≠ some ad.block) := Lib.hid (by
          intro ad n c e h
          have h1 := (World.ownsRow.lt OW.out _ h).2
          rcases ho.2 with ⟨e', _⟩ | ⟨g, cap', cur, e', hb, _⟩
          · rw [e'] at e; cases e
          · rw [e'] at e
            injection e with e
            injection e with e
            subst e
            have : wr.heap.size ≤ g := hb
            have h2 : g < wr.heap.size := h1
            omega)
        clear hg ho hx hxu GR ST OW RN
        have HA := Lib.hid (specL3Has u7 (.slice au 4 cu) vs R row w3 ST3.out.tab FI.out.row R3.out.1 CR.out)
        cases hh : Sp.has R row with
        | true =>
          have MD := Lib.hid ((Sp.has_iff FI.out.row CR.out).1 hh)
          rw [hh] at HA
          clear hh FM
          go_wp2_with fail
          refine HA.out.mono ?_
          rintro e w4 ⟨rfl, hg⟩
          have G4 := Lib.hid (grown_trans G3.out hg)
          have ST4 := Lib.hid (ST3.out.still hg)
          have OW4 := Lib.hid (OW3.out.still hg)
          have R4 : Hid (Sl w4 (.slice au 4 cu) row) := Lib.hid (R3.out.1.grown hg)
          have hxu4 := hg.cell hxu3 (by simp)
          clear hg G3 ST3 OW3 R3 hxu3 HA
          go_wp2_with fail
          refine (specL3By u7 (.slice au 4 cu) vs R row _ ST4.out.tab FI.out.row RL R4.out CR.out).mono ?_
          rintro e w5 ⟨bb, l', han', ob, rfl, hg, ho⟩
          obtain ⟨rfl, hl'⟩ : bb = true ∧ (Sp.Row R.length l' ∧ ∀ j, Sp.toV row j = Sp.comb (Sp.toV l') (R.map Sp.toV) j) := by
            rcases han' with ⟨h1, _, h2, h3⟩ | ⟨_, h2, _⟩
            · exact ⟨h1, h2, h3⟩
            · exact absurd MD.out h2
          have HL' := Lib.hid hl'
          have FN' := Lib.hid (FN.out l' hl'.2)
          have G5 := Lib.hid (grown_trans G4.out hg)
          have ST5 := Lib.hid (ST4.out.still hg)
          have OW5 := Lib.hid (OW4.out.still hg)
          have hxu5 := hg.cell hxu4 (by simp)
          have OB := Lib.hid ho.sl
          obtain ⟨ab, cb, eb, hb1, hb2, _⟩ := ho.sl
          rw [hl'.1.1] at eb hb1
          subst eb
          unfold maxLen at hb2
          obtain ⟨ag, cg, eg, hg1, hg2, _⟩ := OW5.out.sl
          rw [HGL.out] at eg hg1
          unfold maxLen at hg2
          clear hg ho han' hl' MD FN G4 ST4 OW4 R4 hxu4
          have SG := Lib.hid OW5.out.sl
          subst eg
          go_wp2_with fail
          go_loopw [13, 14] (fun s i wz => ∃ m : Nat, m ≤ R.length ∧ i = .int .i64 m ∧ s = .int .i64 (Sp.msum l' G m) ∧ w5.grownBy wz none) (fun _ i _ => R.length - (intOf i).toNat)
          case atStart => exact ⟨0, Nat.zero_le _, rfl, rfl, World.grownBy.refl _ _⟩
          case round =>
            obtain ⟨m, hm, rfl, rfl, hg⟩ := hrel
            have GZ := Lib.hid hg
            clear hg
            by_cases hml : m < R.length
            · have hml' : (m : Int) < (R.length : Int) := by omega
              obtain ⟨a1, c1, e1, _, _, hr1⟩ := OB.out.grown GZ.out
              injection e1 with e1 e2 e3
              subst e1 e3
              clear e2
              obtain ⟨b1, o1, rfl, hx1⟩ := hr1.at_ (k := m) (by rw [HL'.out.1.1]; exact hml)
              obtain ⟨a2, c2, e1, _, _, hr2⟩ := SG.out.grown GZ.out
              injection e1 with e1 e2 e3
              subst e1 e3
              clear e2
              obtain ⟨b2, o2, rfl, hx2⟩ := hr2.at_ (k := m) (by rw [HGL.out]; exact hml)
              have N : Hid ((Sp.msum l' G m + l'.getD m 0 * G.getD m 0) % 31 = Sp.msum l' G (m + 1)) := Lib.hid rfl
              have D := Sp.msum_ok l' G m
              have hxo := getD_ok HL'.out.1.2 m
              have hyo := getD_ok FI.out.got.2 m
              obtain ⟨d, hd⟩ : ∃ d, Sp.msum l' G m = d := ⟨_, rfl⟩
              obtain ⟨x, hxe⟩ : ∃ x, l'.getD m 0 = x := ⟨_, rfl⟩
              obtain ⟨y, hye⟩ : ∃ y, G.getD m 0 = y := ⟨_, rfl⟩
              rw [hxe] at hx1 hxo
              rw [hye] at hx2 hyo
              rw [hd] at D
              rw [hd, hxe, hye] at N
              rw [hd]
              have ⟨d0, d1⟩ := Fld.ok_iff.1 D
              have ⟨p0, p1⟩ := Fld.mul_le hxo hyo
              have w1 : IntKind.i64.wrap (x * y) = x * y := IntWalk.i64_in _ (by omega)
              have w2 : IntKind.i64.wrap (d + x * y) = d + x * y := IntWalk.i64_in _ (by omega)
              clear hxe hye hd hxo hyo D hr1 hr2
              go_wp2_with fail
              go_quiet (fail)
              clear w1 w2
              go_wp2_with fail
              go_roundw
              case rel => exact ⟨m + 1, by omega, by go_num, by rw [← N.out], grown_draws GZ.out _⟩
              case measure => simp [intOf]; omega
            · obtain rfl : m = R.length := by omega
              have G6 := Lib.hid (grown_trans G5.out GZ.out)
              have ST6 := Lib.hid (ST5.out.still GZ.out)
              have OW6 := Lib.hid (OW5.out.still GZ.out)
              have hxu6 := GZ.out.cell hxu5 (by simp)
              obtain ⟨d, hd⟩ : ∃ d, Sp.msum l' G R.length = d := ⟨_, rfl⟩
              rw [hd] at FN' ⊢
              clear hd ST5 OW5 hxu5 GZ G5
              by_cases hne : d = an
              · subst hne
                have FF := Lib.hid (FN'.out.1 rfl)
                clear FN'
                go_wp2_with fail
                go_roundw
                case rel => exact ⟨n + 1, by omega, by go_num, G6.out, vs, R, G, ST6.out, OW6.out, FF.out, AW.out⟩
                case measure => simp [intOf]; omega
              · have NF := Lib.hid (FN'.out.2 hne)
                have hnb : (d != an) = true := by rw [bne_iff_ne]; exact hne
                clear FN'
                go_wp2_with fail
                go_ret
                exact ⟨false, rfl, ⟨fun h => (by cases h), fun h => absurd h NF.out⟩, G6.out⟩
        | false =>
          have FF : Hid (Sp.Fits k f a (n + 1) (R ++ [row]) (G ++ [an])) := Lib.hid (FM.out (fun hm => by rw [(Sp.has_iff FI.out.row CR.out).2 hm] at hh; cases hh))
          rw [hh] at HA
          clear hh FM FN
          go_wp2_with fail
          refine HA.out.mono ?_
          rintro e w4 ⟨rfl, hg⟩
          have G4 := Lib.hid (grown_trans G3.out hg)
          have ST4 := Lib.hid (ST3.out.still hg)
          have OW4 := Lib.hid (OW3.out.still hg)
          have R4 : Hid (Sl w4 (.slice au 4 cu) row ∧ IntRow w4 (.slice au 4 cu)) := Lib.hid ⟨R3.out.1.grown hg, R3.out.2.still hg⟩
          have TOP : Hid (w4.ownsRow w.heap.size 23 1 u7 vs.length vs) := Lib.hid ST4.out.top
          have hxu4 := hg.cell hxu3 (by simp)
          have s4 : w.heap.size ≤ w4.heap.size := G4.out.size
          clear hg G3 ST3 OW3 R3 hxu3 HA
          go_wp2_with (first
            | (at_builtin; refine wpList_append_own _ rfl _ _ 126 rfl w.heap.size 23 i0 (.slice none 0 0) 1 24 Try.underlying126 I1.out I2.out I3.out I4.out rfl (by decide) _ _ _ rfl (World.ownsRow.alloc TOP.out _) ⟨w4.heap.size, 0, none⟩ 1 1 [.slice au 4 cu] rfl rfl (one_cell (g := 0)) (by simp [Value.oneCell']) ?c3 ?c4 ?c5 ?_))
          case c3 => unfold maxLen; omega
          case c4 => omega
          case c5 => simp; omega
          intro o' w5 ho2 hg2 _
          have N : Hid (STab w5 w.heap.size o' (vs ++ [.slice au 4 cu]) (R ++ [row])) := Lib.hid (ST4.out.snoc (World.grownBy.refl _ _) R4.out (grown_trans (World.grownBy_alloc _ _ _) hg2) ho2 rfl rfl)
          have G5 : Hid (w.grownBy w5 none) := Lib.hid (grown_own (grown_alloc G4.out _) hg2 (fun j hj => (World.ownsRow.lt TOP.out j hj).1))
          have O5 : Hid (Own w5 w.heap.size u8 G) := Lib.hid ((OW4.out.still (World.grownBy_alloc w4 (.cells #[.slice au 4 cu] 23) none)).kept hg2 (by
            have hap := apart_types (x := ⟨u8, 3, vals G⟩) (y := ⟨u7, 23, vs⟩) (row1_own.2 OW4.out) TOP.out (by show (3 : TypeId) ≠ 23; decide)
            exact hap))
          have hxu5 : w5.cell? ⟨bu, ou + n, none⟩ = some (.int .i64 an) := by
            obtain ⟨bq, oq, hq, hxq⟩ := (RU.out.grown G5.out).at_ (k := n) (by rw [RA.out.1]; exact hlt)
            injection hq with hq
            injection hq with hq1 hq2
            subst hq1 hq2
            rw [HAN.out] at hxq
            exact hxq
          have AW5 : Hid (Away (vs ++ [.slice au 4 cu]) u8) := Lib.hid (fun x hx ad n c e => by
            rcases List.mem_append.1 hx with hx | hx
            · exact AW.out x hx ad n c e
            · simp at hx; subst hx; exact AN.out ad n c e)
          have s5 : w.heap.size ≤ w5.heap.size := G5.out.size
          clear ho2 hg2 TOP R4 ST4 OW4 hxu4
          go_wp2_with (first
            | (at_builtin; refine wpList_append_own_at _ rfl _ _ 23 rfl w.heap.size 3 j0 (.int .i64 0) 1 8 Try.underlying23 J1.out J2.out J3.out J4.out rfl (by decide) _ _ _ rfl (World.ownsRow.alloc O5.out _) ⟨w5.heap.size, 0, none⟩ 1 1 [.int .i64 an] rfl rfl (one_cell (g := 0)) (vals_one [an]) ?d3 ?d4 ?d5 ?_))
          case d3 => unfold maxLen; omega
          case d4 => omega
          case d5 => simp; omega
          intro o6 w6 ho hg _ hat
          have O6 := Lib.hid (own_snoc (l := G) (x := an) ho rfl rfl)
          have G6 : Hid (w.grownBy w6 none) := Lib.hid (grown_own (grown_alloc G5.out _) hg (fun j hj => (World.ownsRow.lt O5.out j hj).1))
          have S5 := Lib.hid (N.out.still (World.grownBy_alloc w5 (.cells #[.int .i64 an] 3) none))
          have S6 : Hid (STab w6 w.heap.size o' (vs ++ [.slice au 4 cu]) (R ++ [row])) := Lib.hid (S5.out.far hg (by
            have hap := apart_types (x := ⟨o', 23, vs ++ [Value.slice au 4 cu]⟩) (y := ⟨u8, 3, vals G⟩) N.out.top (row1_own.2 O5.out) (by show (23 : TypeId) ≠ 3; decide)
            exact hap) AW5.out)
          have AW6 : Hid (Away (vs ++ [.slice au 4 cu]) o6) := Lib.hid (fun x hx ad n c e h => by
            rcases hat with hat | hat
            · exact AW5.out x hx ad n c e (hat ▸ h)
            · rw [hat] at h
              injection h with h
              have := N.out.below x hx ad n c e
              (try rw [World.size_alloc] at h)
              omega)
          clear ho hg hat
          go_wp2_with fail
          go_roundw
          case rel => exact ⟨n + 1, by omega, by go_num, G6.out, _, _, _, S6.out, O6.out, FF.out, AW6.out⟩
          case measure => simp [intOf]; omega
    · obtain rfl : n = 8 := by omega
      have FD := Lib.hid FI.out.done
      go_wp2_with fail
      go_ret
      exact ⟨true, rfl, ⟨fun _ => FD.out, fun _ => rfl⟩, GR.out⟩
end Go.Proofs.Ythglkgicckodaaa
