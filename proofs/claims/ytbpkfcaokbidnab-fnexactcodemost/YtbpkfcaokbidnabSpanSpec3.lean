/-
  The contracts of the model's l3Add, l3Tidy and of the functions that are told by them: SpanTidy, SpanRank, l3Has, SpanHas.
  Conditions: none.
-/
import Derived.Test.YtbpkfcaokbidnabSpanSpec2
import Derived.Test.YtbpkfcaokbidnabSpanOk
namespace Go.Proofs.Ytbpkfcaokbidnab
open Go.RowKit
set_option linter.unusedVariables false

namespace Sp
theorem lins_no {p : Nat} {v : List Int} {T : List (List Int)} (h : ∀ r ∈ T, ¬ (p : Int) < Vec.first r 0) : lins p v T = T.map (fun s => lless s v) ++ [v] := by
  induction T with
  | nil => rfl
  | cons r T ih =>
    rw [lins, if_neg (h r (by simp)), ih (fun s hs => h s (by simp [hs]))]; rfl
theorem lins_new {p : Nat} {v r : List Int} {T : List (List Int)} (h : ∀ r ∈ T, ¬ (p : Int) < Vec.first r 0) (hr : (p : Int) < Vec.first r 0) : lins p v (T ++ [r]) = T.map (fun s => lless s v) ++ [v] ++ [lless r v] := by
  induction T with
  | nil => rw [List.nil_append, lins, if_pos hr]; rfl
  | cons s T ih =>
    rw [List.cons_append, lins, if_neg (h s (by simp)), ih (fun s hs => h s (by simp [hs]))]; rfl
theorem lins_more {p : Nat} {v r : List Int} {T : List (List Int)} (h : ∃ r ∈ T, (p : Int) < Vec.first r 0) : lins p v (T ++ [r]) = lins p v T ++ [lless r v] := by
  induction T with
  | nil => obtain ⟨_, h, _⟩ := h; cases h
  | cons s T ih =>
    rw [List.cons_append, lins, lins]
    by_cases hs : (p : Int) < Vec.first s 0
    · rw [if_pos hs, if_pos hs]; simp
    · rw [if_neg hs, if_neg hs, ih ?_]; · rfl
      obtain ⟨r', hr', hp⟩ := h
      rcases List.mem_cons.1 hr' with rfl | h'
      · exact absurd hp hs
      · exact ⟨r', h', hp⟩
theorem lins_len (p : Nat) (v : List Int) (T : List (List Int)) : (lins p v T).length = T.length + 1 := by
  induction T with
  | nil => rfl
  | cons r T ih => rw [lins]; split <;> simp [ih]
/-- how far a row is put among others: of the first k. -/
def linsK (p : Nat) (v : List Int) (T : List (List Int)) (b : Bool) : List (List Int) := bif b then lins p v T else T.map fun s => lless s v
def anyK (p : Nat) (T : List (List Int)) : Bool := T.any fun r => decide ((p : Int) < Vec.first r 0)
theorem anyK_no {p : Nat} {T : List (List Int)} (h : anyK p T = false) : ∀ r ∈ T, ¬ (p : Int) < Vec.first r 0 := by
  intro r hr hp
  have : anyK p T = true := by unfold anyK; rw [List.any_eq_true]; exact ⟨r, hr, by simpa using hp⟩
  rw [h] at this; cases this
theorem anyK_yes {p : Nat} {T : List (List Int)} (h : anyK p T = true) : ∃ r ∈ T, (p : Int) < Vec.first r 0 := by
  unfold anyK at h; rw [List.any_eq_true] at h
  obtain ⟨r, hr, hp⟩ := h
  exact ⟨r, hr, by simpa using hp⟩
theorem anyK_snoc (p : Nat) (T : List (List Int)) (r : List Int) : anyK p (T ++ [r]) = (anyK p T || decide ((p : Int) < Vec.first r 0)) := by simp [anyK]
theorem linsK_yes {p : Nat} {v r : List Int} {T : List (List Int)} (h : anyK p T = true) : linsK p v T true ++ [lless r v] = linsK p v (T ++ [r]) (anyK p (T ++ [r])) := by
  rw [anyK_snoc, h, Bool.true_or]
  exact (lins_more (anyK_yes h)).symm
theorem linsK_new {p : Nat} {v r : List Int} {T : List (List Int)} (h : anyK p T = false) (hr : (p : Int) < Vec.first r 0) : linsK p v T false ++ [v] ++ [lless r v] = linsK p v (T ++ [r]) (anyK p (T ++ [r])) := by
  rw [anyK_snoc, decide_eq_true hr, Bool.or_true]
  exact (lins_new (anyK_no h) hr).symm
theorem linsK_no {p : Nat} {v r : List Int} {T : List (List Int)} (h : anyK p T = false) (hr : ¬ (p : Int) < Vec.first r 0) : linsK p v T false ++ [lless r v] = linsK p v (T ++ [r]) (anyK p (T ++ [r])) := by
  rw [anyK_snoc, decide_eq_false hr, h, Bool.or_false]
  simp [linsK]
theorem linsK_end {p : Nat} {v : List Int} {T : List (List Int)} (h : anyK p T = false) : linsK p v T false ++ [v] = lins p v T := (lins_no (anyK_no h)).symm
theorem lless_len {n : Nat} {v w : List Int} (hv : Row n v) (hw : Row n w) : (lless v w).length = n := (row_lless hv hw).1
end Sp

/-- tidy rows begin somewhere. -/
theorem is_leads {T : List (List Int)} {L : List (Nat × Sp.V)} (h : Sp.Is 4 T L) : ∀ r ∈ T, Sp.Row 4 r ∧ ∃ p : Nat, p < 4 ∧ Vec.first r 0 = p ∧ r.getD p 0 ≠ 0 := by
  intro r hr
  have hrow := h.row r hr
  refine ⟨hrow, ?_⟩
  rcases Sp.lead_or hrow with hz | ⟨p, hp, hl⟩
  · exfalso
    have : Sp.toV r ∈ Sp.rows L := by rw [← h.same]; exact List.mem_map.2 ⟨r, hr, rfl⟩
    obtain ⟨x, hx, e⟩ := List.mem_map.1 this
    have h1 := h.tidy.one x hx
    rw [show x.2 = Sp.toV r from e, hz] at h1
    exact absurd h1 (by decide)
  · exact ⟨p, hp, Sp.first_lead hrow hl, fun e => hl.1 (by unfold Sp.toV; rw [e]; rfl)⟩
theorem fold_snoc (T : List (List Int)) (l : List Int) {k : Nat} (hk : k < T.length) : (T.take (k + 1)).foldl Sp.lless l = Sp.lless ((T.take k).foldl Sp.lless l) (T.getD k []) := by
  rw [take_more T hk, List.foldl_append]; rfl
theorem row_lead {n : Nat} {l : List Int} (h : Sp.Row n l) {p : Int} (hp : Vec.first l 0 = p) (h0 : ¬ p < 0) : ∃ q : Nat, p = q ∧ q < n ∧ l.getD q 0 ≠ 0 := by
  rcases Sp.lead_or h with hz | ⟨q, hq, hl⟩
  · rw [Sp.first_none h hz] at hp; omega
  · rw [Sp.first_lead h hl] at hp
    exact ⟨q, hp.symm, hq, fun e => hl.1 (by unfold Sp.toV; rw [e]; rfl)⟩
theorem lead_lmul {n : Nat} {l : List Int} (h : Sp.Row n l) {q : Nat} (hq : Vec.first l 0 = q) (hz : l.getD q 0 ≠ 0) : Vec.first (Sp.lmul l (Fld.inv (l.getD q 0))) 0 = q ∧ (Sp.lmul l (Fld.inv (l.getD q 0))).getD q 0 ≠ 0 := by
  have hl : Sp.Lead (Sp.toV l) q := by
    rcases Sp.lead_or h with hz' | ⟨q', _, hl⟩
    · rw [Sp.first_none h hz'] at hq; omega
    · rw [Sp.first_lead h hl] at hq
      have : q' = q := by omega
      subst this; exact hl
  have hinv := Sp.toF_inv (h.get q) hz
  have hj : ∀ j, Sp.toV (Sp.lmul l (Fld.inv (l.getD q 0))) j = Sp.toV l j * Sp.toF (Fld.inv (l.getD q 0)) := fun j => Sp.toV_lmul h _ j
  have h1 : Sp.toV (Sp.lmul l (Fld.inv (l.getD q 0))) q = 1 := by rw [hj]; exact hinv
  have hl' : Sp.Lead (Sp.toV (Sp.lmul l (Fld.inv (l.getD q 0)))) q := ⟨by rw [h1]; decide, fun j hjq => by rw [hj, hl.2 j hjq]; grind⟩
  exact ⟨Sp.first_lead (Sp.row_lmul h _) hl', fun e => hl'.1 (by unfold Sp.toV; rw [e]; rfl)⟩

/-- what a call leaves that makes a table, or hands one on. -/
def NewSTab (base : Nat) (m : List (List Int)) (w : World) (e : Ending) (w' : World) : Prop := ∃ o us, e = .returned o ∧ w.grownBy w' none ∧ STab w' base o us m

set_option maxHeartbeats 4000000 in
set_option maxRecDepth 20000 in
theorem specL3Add (base : Nat) (t v : Value) (us : List Value) (T : List (List Int)) (L : List (Nat × Sp.V)) (l : List Int) (w : World) (hT : STab w base t us T) (hb : base ≤ w.heap.size) (h : Sl w v l) (hl : Sp.Row 4 l) (hI : Sp.Is 4 T L) :
    Calls Try.prog 113 #[t, v] w (NewSTab base (Sp.ladd1 T l) w) := by
  have ST := Lib.hid hT
  have TT := Lib.hid hT.tab
  have SL := Lib.hid h
  have RL := Lib.hid hl
  have LE := Lib.hid (is_leads hI)
  have t4 : T.length ≤ 4 := hI.len_le
  obtain ⟨a, cap, rfl, h1, h2, h3⟩ := TT.out.top
  unfold maxLen at h2
  obtain ⟨i0, hi, hz0, hz1, hz2⟩ := info_parts infoInts
  have I1 := Lib.hid hi
  have I2 := Lib.hid hz0
  have I3 := Lib.hid hz1
  have I4 := Lib.hid hz2
  clear hi hz0 hz1 hz2 hT h hl hI h3
  go_enter Try.func113, Try.ntmps113
  go_wp2_with fail
  go_loopw [1, 5] (fun x i wr => ∃ k : Nat, k ≤ T.length ∧ i = .int .i64 k ∧ w.grownBy wr none ∧ Sl wr x ((T.take k).foldl Sp.lless l) ∧ Sp.Row 4 ((T.take k).foldl Sp.lless l)) (fun _ i _ => T.length - (intOf i).toNat)
  case atStart => exact ⟨0, Nat.zero_le _, rfl, World.grownBy.refl _ _, SL.out, RL.out⟩
  case round =>
    obtain ⟨k, hk, rfl, hg, hs, hr⟩ := hrel
    have G := Lib.hid hg
    have S := Lib.hid hs
    have R := Lib.hid hr
    clear hg hs hr
    by_cases hlt : k < T.length
    · have hlt' : (k : Int) < (T.length : Int) := by omega
      obtain ⟨b, o, cap', u, e, hu, hx, hs⟩ := (TT.out.grown G.out).at_ hlt
      injection e with e1 e2 e3
      subst e1 e3
      obtain ⟨hrow, p, hp4, hp, hpz⟩ := LE.out (T.getD k []) (by rw [List.getD_eq_getElem?_getD, List.getElem?_eq_getElem hlt]; exact List.getElem_mem hlt)
      have FS := Lib.hid (fold_snoc T l hlt)
      have C := Lib.hid (specLess u1 u 4 p _ (T.getD k []) wr S.out hs R.out hrow (by omega) hp hp4 hpz)
      have R1 := Lib.hid (Sp.row_lless R.out hrow)
      clear hs hu hrow hp4 hp hpz
      go_wp2_with fail
      refine C.out.mono ?_
      rintro e w2 ⟨x2, rfl, hg, ho⟩
      have G2 := Lib.hid (grown_trans G.out hg)
      have S2 := Lib.hid ho.sl
      clear hg ho hx
      go_wp2_with fail
      go_roundw
      case rel => exact ⟨k + 1, by omega, by go_num, G2.out, by rw [FS.out]; exact S2.out, by rw [FS.out]; exact R1.out⟩
      case measure => simp [intOf]; omega
    · have : k = T.length := by omega
      subst this
      obtain ⟨f, hf⟩ : ∃ f, (T.take T.length).foldl Sp.lless l = f := ⟨_, rfl⟩
      have F : Hid (T.foldl Sp.lless l = f) := Lib.hid (by rw [← hf, List.take_length])
      rw [hf] at S R
      clear hf
      go_wp2_with fail
      refine (specL2Lead u1 f _ S.out).mono ?_
      rintro e w' ⟨rfl, rfl⟩
      obtain ⟨ld, hld⟩ : ∃ ld, Vec.first f 0 = ld := ⟨_, rfl⟩
      rw [hld]
      have LD := Lib.hid hld
      clear hld
      by_cases hneg : ld < 0
      · have E : Hid (Sp.ladd1 T l = T) := Lib.hid (by unfold Sp.ladd1; rw [F.out, LD.out, if_pos hneg])
        go_wp2_with fail
        go_ret
        exact ⟨_, us, rfl, G.out, by rw [E.out]; exact ST.out.still G.out⟩
      obtain ⟨p, rfl, hp4, hpz⟩ := row_lead R.out LD.out hneg
      have E : Hid (Sp.ladd1 T l = Sp.lins p (Sp.lmul f (Fld.inv (f.getD p 0))) T) := Lib.hid (by unfold Sp.ladd1; rw [F.out, LD.out, if_neg hneg]; rfl)
      have LM := Lib.hid (lead_lmul R.out LD.out hpz)
      have yo := R.out.get p
      obtain ⟨af, capf, e, hf1, hf2, hrf⟩ := S.out
      subst e
      obtain ⟨bf, of, rfl, hx⟩ := hrf.at_ (k := p) (by rw [R.out.1]; exact hp4)
      obtain ⟨y, hy⟩ : ∃ y, f.getD p 0 = y := ⟨_, rfl⟩
      rw [hy] at hx yo hpz E LM
      have hpf : (p : Int) < (f.length : Int) := by have := R.out.1; omega
      unfold maxLen at hf2
      clear hrf hy
      go_wp2_with fail
      refine (specSearch y _ yo hpz).mono ?_
      rintro e w' ⟨rfl, rfl⟩
      have co := Fld.inv_is yo
      obtain ⟨c, hc⟩ : ∃ c, Fld.inv y = c := ⟨_, rfl⟩
      rw [hc] at co E LM ⊢
      have CO := Lib.hid co
      clear hc co
      go_wp2_with fail
      refine (specMul _ 4 f c _ S.out R.out CO.out (by omega)).mono ?_
      rintro e w2 ⟨x2, rfl, hg, ho⟩
      obtain ⟨v2, hv2⟩ : ∃ v2, Sp.lmul f c = v2 := ⟨_, rfl⟩
      have RV : Hid (Sp.Row 4 v2) := Lib.hid (hv2 ▸ Sp.row_lmul R.out c)
      rw [hv2] at ho E LM
      have G2 := Lib.hid (grown_trans G.out hg)
      obtain ⟨ax, cx, ex, _, _, _⟩ := ho.sl
      rw [RV.out.1] at ex
      subst ex
      have SV := Lib.hid ho.sl
      have IV := Lib.hid ho.intRow
      have s2 : base ≤ w2.heap.size := Nat.le_trans hb G2.out.size
      clear hg ho hx hv2 S R G
      have M0 := Lib.hid (STab.made w2 w2.heap.size (Nat.le_refl _))
      go_wp2_with fail
      go_loopw [7, 8, 9] (fun o b i wr => ∃ k : Nat, k ≤ T.length ∧ i = .int .i64 k ∧ b = .bool (Sp.anyK p (T.take k)) ∧ w2.grownBy wr none ∧ ∃ vs, STab wr w2.heap.size o vs (Sp.linsK p v2 (T.take k) (Sp.anyK p (T.take k)))) (fun _ _ i _ => T.length - (intOf i).toNat)
      case atStart => exact ⟨0, Nat.zero_le _, rfl, rfl, grown_alloc (World.grownBy.refl _ _) _, [], M0.out⟩
      case round =>
        obtain ⟨k, hk, rfl, rfl, hg, vs, hst⟩ := hrel
        have G := Lib.hid hg
        have O := Lib.hid hst
        have GB : Hid (w.grownBy wr none) := Lib.hid (grown_trans G2.out hg)
        have vl : vs.length ≤ T.length + 1 := by
          rw [hst.len]
          cases hq : Sp.anyK p (T.take k) with
          | false => simp [Sp.linsK]; omega
          | true =>
            have := Sp.lins_len p v2 (T.take k)
            simp only [Sp.linsK, cond_true]
            rw [List.length_take] at this
            omega
        obtain ⟨q, hq⟩ : ∃ q, Sp.anyK p (T.take k) = q := ⟨_, rfl⟩
        have Q := Lib.hid hq
        rw [hq] at O ⊢
        clear hg hst M0 hq
        by_cases hlt : k < T.length
        · have hlt' : (k : Int) < (T.length : Int) := by omega
          obtain ⟨b, o, cap', u, e, hu, hx, hs⟩ := (TT.out.grown GB.out).at_ hlt
          injection e with e1 e2 e3
          subst e1 e3
          obtain ⟨hrow, pk, hpk4, hpk, hpkz⟩ := LE.out (T.getD k []) (by rw [List.getD_eq_getElem?_getD, List.getElem?_eq_getElem hlt]; exact List.getElem_mem hlt)
          have TM := Lib.hid (take_more T hlt)
          have AN : Hid (Sp.anyK p (T.take (k + 1)) = (q || decide ((p : Int) < pk))) := Lib.hid (by rw [TM.out, Sp.anyK_snoc, Q.out, hpk])
          have SU := Lib.hid hs
          have HR := Lib.hid hrow
          have HP := Lib.hid hpk
          have HZ := Lib.hid hpkz
          have HU := Lib.hid hu
          obtain ⟨rk, hrk⟩ : ∃ rk, T.getD k [] = rk := ⟨_, rfl⟩
          have RK := Lib.hid hrk
          rw [hrk] at SU HR HP HZ TM
          clear hs hu hrow hpk hpkz hrk
          have LEADU := Lib.hid (specL2Lead u rk wr SU.out)
          rw [HP.out] at LEADU
          have vs4 : vs.length ≤ 5 := by omega
          cases q with
          | true =>
            go_wp2_with fail
            refine (specLess u (.slice ax 4 cx) 4 p rk v2 _ SU.out (SV.out.grown G.out) HR.out RV.out (by omega) LM.out.1 hp4 LM.out.2).mono ?_
            rintro e w3 ⟨x3, rfl, hg, ho⟩
            obtain ⟨ar, cr, er, _, _, _⟩ := ho.sl
            rw [Sp.lless_len HR.out RV.out] at er
            subst er
            have G3 := Lib.hid hg
            have R3 := Lib.hid (And.intro ho.sl ho.intRow)
            have TOP := Lib.hid (O.out.still hg).top
            have s3 : w2.heap.size ≤ w3.heap.size := Nat.le_trans G.out.size hg.size
            clear hg ho hx
            go_wp2_with (first
              | (at_builtin; refine wpList_append_own _ rfl _ _ 62 rfl w2.heap.size 33 i0 (.slice none 0 0) 1 24 Try.underlying62 I1.out I2.out I3.out I4.out rfl (by decide) _ _ _ rfl (World.ownsRow.alloc TOP.out _) ⟨w3.heap.size, 0, none⟩ 1 1 [.slice ar 4 cr] rfl rfl (one_cell (g := 0)) (by simp [Value.oneCell']) ?c3 ?c4 ?c5 ?_))
            case c3 => unfold maxLen; omega
            case c4 => omega
            case c5 => simp; omega
            intro o' w5 ho2 hg2 _
            have N : Hid (STab w5 w2.heap.size o' (vs ++ [.slice ar 4 cr]) (Sp.linsK p v2 (T.take (k + 1)) (Sp.anyK p (T.take (k + 1))))) := Lib.hid (O.out.snoc G3.out R3.out (grown_trans (World.grownBy_alloc _ _ _) hg2) ho2 rfl (by rw [TM.out]; exact Sp.linsK_yes Q.out))
            have G5 : Hid (w2.grownBy w5 none) := Lib.hid (grown_own (grown_alloc (grown_trans G.out G3.out) _) hg2 (fun j hj => (World.ownsRow.lt TOP.out j hj).1))
            clear ho2 hg2 TOP G3
            go_wp2_with fail
            go_roundw
            case rel => exact ⟨k + 1, by omega, by go_num, by rw [AN.out]; rfl, G5.out, _, N.out⟩
            case measure => simp [intOf]; omega
          | false =>
            go_wp2_with fail
            refine LEADU.out.mono ?_
            rintro e w' ⟨rfl, rfl⟩
            by_cases hpp : (p : Int) < (pk : Int)
            · have D : Hid (decide ((p : Int) < (pk : Int)) = true) := Lib.hid (decide_eq_true hpp)
              have TOP0 := Lib.hid O.out.top
              have sr : w2.heap.size ≤ wr.heap.size := G.out.size
              go_wp2_with (first
                | (at_builtin; refine wpList_append_own _ rfl _ _ 62 rfl w2.heap.size 33 i0 (.slice none 0 0) 1 24 Try.underlying62 I1.out I2.out I3.out I4.out rfl (by decide) _ _ _ rfl (World.ownsRow.alloc TOP0.out _) ⟨wr.heap.size, 0, none⟩ 1 1 [.slice ax 4 cx] rfl rfl (one_cell (g := 0)) (by simp [Value.oneCell']) ?d3 ?d4 ?d5 ?_))
              case d3 => unfold maxLen; omega
              case d4 => omega
              case d5 => simp; omega
              intro o4 w4 ho4 hg4 _
              have O4 : Hid (STab w4 w2.heap.size o4 (vs ++ [.slice ax 4 cx]) (Sp.linsK p v2 (T.take k) false ++ [v2])) := Lib.hid (O.out.snoc (World.grownBy.refl _ _) ⟨SV.out.grown G.out, IV.out.still G.out⟩ (grown_trans (World.grownBy_alloc _ _ _) hg4) ho4 rfl rfl)
              have G4 : Hid (w2.grownBy w4 none) := Lib.hid (grown_own (grown_alloc G.out _) hg4 (fun j hj => (World.ownsRow.lt TOP0.out j hj).1))
              have T4 := (TT.out.grown (grown_trans G2.out G4.out)).at_ hlt
              obtain ⟨b4, o4', cap4, u4', e, hu4, hx4, hs4⟩ := T4
              injection e with e1 e2 e3
              injection e1 with e1
              injection e1 with e1 e5
              subst e1 e5 e3
              have UU : u4' = u := by have := HU.out; rw [hu4] at this; injection this
              subst UU
              have SU4 : Hid (Sl w4 u4' rk) := Lib.hid (by rw [RK.out] at hs4; exact hs4)
              clear ho4 hg4 TOP0 hs4 hu4 hx
              have hx := hx4
              clear hx4
              have vs6 : (vs ++ [Value.slice ax 4 cx]).length ≤ 6 := by simp; omega
              generalize vs ++ [Value.slice ax 4 cx] = vs' at *
              go_wp2_with fail
              refine (specLess u4' (.slice ax 4 cx) 4 p rk v2 _ SU4.out (SV.out.grown G4.out) HR.out RV.out (by omega) LM.out.1 hp4 LM.out.2).mono ?_
              rintro e w3 ⟨x3, rfl, hg, ho⟩
              obtain ⟨ar, cr, er, _, _, _⟩ := ho.sl
              rw [Sp.lless_len HR.out RV.out] at er
              subst er
              have G3 := Lib.hid hg
              have R3 := Lib.hid (And.intro ho.sl ho.intRow)
              have TOP := Lib.hid (O4.out.still hg).top
              have s3 : w2.heap.size ≤ w3.heap.size := Nat.le_trans G4.out.size hg.size
              clear hg ho hx
              go_wp2_with (first
                | (at_builtin; refine wpList_append_own _ rfl _ _ 62 rfl w2.heap.size 33 i0 (.slice none 0 0) 1 24 Try.underlying62 I1.out I2.out I3.out I4.out rfl (by decide) _ _ _ rfl (World.ownsRow.alloc TOP.out _) ⟨w3.heap.size, 0, none⟩ 1 1 [.slice ar 4 cr] rfl rfl (one_cell (g := 0)) (by simp [Value.oneCell']) ?c3 ?c4 ?c5 ?_))
              case c3 => unfold maxLen; omega
              case c4 => omega
              case c5 => simp; omega
              intro o' w5 ho2 hg2 _
              have N : Hid (STab w5 w2.heap.size o' (vs' ++ [.slice ar 4 cr]) (Sp.linsK p v2 (T.take (k + 1)) (Sp.anyK p (T.take (k + 1))))) := Lib.hid (O4.out.snoc G3.out R3.out (grown_trans (World.grownBy_alloc _ _ _) hg2) ho2 rfl (by rw [TM.out]; exact Sp.linsK_new Q.out (by rw [HP.out]; exact hpp)))
              have G5 : Hid (w2.grownBy w5 none) := Lib.hid (grown_own (grown_alloc (grown_trans G4.out G3.out) _) hg2 (fun j hj => (World.ownsRow.lt TOP.out j hj).1))
              clear ho2 hg2 TOP G3
              go_wp2_with fail
              go_roundw
              case rel => exact ⟨k + 1, by omega, by go_num, by rw [AN.out, D.out]; rfl, G5.out, _, N.out⟩
              case measure => simp [intOf]; omega
            · have D : Hid (decide ((p : Int) < (pk : Int)) = false) := Lib.hid (decide_eq_false hpp)
              go_wp2_with fail
              refine (specLess u (.slice ax 4 cx) 4 p rk v2 _ SU.out (SV.out.grown G.out) HR.out RV.out (by omega) LM.out.1 hp4 LM.out.2).mono ?_
              rintro e w3 ⟨x3, rfl, hg, ho⟩
              obtain ⟨ar, cr, er, _, _, _⟩ := ho.sl
              rw [Sp.lless_len HR.out RV.out] at er
              subst er
              have G3 := Lib.hid hg
              have R3 := Lib.hid (And.intro ho.sl ho.intRow)
              have TOP := Lib.hid (O.out.still hg).top
              have s3 : w2.heap.size ≤ w3.heap.size := Nat.le_trans G.out.size hg.size
              clear hg ho hx
              go_wp2_with (first
                | (at_builtin; refine wpList_append_own _ rfl _ _ 62 rfl w2.heap.size 33 i0 (.slice none 0 0) 1 24 Try.underlying62 I1.out I2.out I3.out I4.out rfl (by decide) _ _ _ rfl (World.ownsRow.alloc TOP.out _) ⟨w3.heap.size, 0, none⟩ 1 1 [.slice ar 4 cr] rfl rfl (one_cell (g := 0)) (by simp [Value.oneCell']) ?c3 ?c4 ?c5 ?_))
              case c3 => unfold maxLen; omega
              case c4 => omega
              case c5 => simp; omega
              intro o' w5 ho2 hg2 _
              have N : Hid (STab w5 w2.heap.size o' (vs ++ [.slice ar 4 cr]) (Sp.linsK p v2 (T.take (k + 1)) (Sp.anyK p (T.take (k + 1))))) := Lib.hid (O.out.snoc G3.out R3.out (grown_trans (World.grownBy_alloc _ _ _) hg2) ho2 rfl (by rw [TM.out]; exact Sp.linsK_no Q.out (by rw [HP.out]; omega)))
              have G5 : Hid (w2.grownBy w5 none) := Lib.hid (grown_own (grown_alloc (grown_trans G.out G3.out) _) hg2 (fun j hj => (World.ownsRow.lt TOP.out j hj).1))
              clear ho2 hg2 TOP G3
              go_wp2_with fail
              go_roundw
              case rel => exact ⟨k + 1, by omega, by go_num, by rw [AN.out, D.out]; rfl, G5.out, _, N.out⟩
              case measure => simp [intOf]; omega
        · have : k = T.length := by omega
          subst this
          cases q with
          | true =>
            go_wp2_with fail
            go_ret
            refine ⟨_, vs, rfl, GB.out, ?_⟩
            have := O.out
            rw [List.take_length] at this
            rw [E.out]
            exact this.lower s2
          | false =>
            have TOP0 := Lib.hid O.out.top
            have sr : w2.heap.size ≤ wr.heap.size := G.out.size
            go_wp2_with (first
              | (at_builtin; refine wpList_append_own _ rfl _ _ 62 rfl w2.heap.size 33 i0 (.slice none 0 0) 1 24 Try.underlying62 I1.out I2.out I3.out I4.out rfl (by decide) _ _ _ rfl (World.ownsRow.alloc TOP0.out _) ⟨wr.heap.size, 0, none⟩ 1 1 [.slice ax 4 cx] rfl rfl (one_cell (g := 0)) (by simp [Value.oneCell']) ?d3 ?d4 ?d5 ?_))
            case d3 => unfold maxLen; omega
            case d4 => omega
            case d5 => simp; omega
            intro o4 w4 ho4 hg4 _
            have O4 : Hid (STab w4 w2.heap.size o4 (vs ++ [.slice ax 4 cx]) (Sp.linsK p v2 (T.take T.length) false ++ [v2])) := Lib.hid (O.out.snoc (World.grownBy.refl _ _) ⟨SV.out.grown G.out, IV.out.still G.out⟩ (grown_trans (World.grownBy_alloc _ _ _) hg4) ho4 rfl rfl)
            have G4 : Hid (w2.grownBy w4 none) := Lib.hid (grown_own (grown_alloc G.out _) hg4 (fun j hj => (World.ownsRow.lt TOP0.out j hj).1))
            clear ho4 hg4 TOP0
            go_wp2_with fail
            go_ret
            refine ⟨_, vs ++ [.slice ax 4 cx], rfl, grown_trans G2.out G4.out, ?_⟩
            have := O4.out
            rw [Sp.linsK_end Q.out, List.take_length] at this
            rw [E.out]
            exact this.lower s2
end Go.Proofs.Ytbpkfcaokbidnab
