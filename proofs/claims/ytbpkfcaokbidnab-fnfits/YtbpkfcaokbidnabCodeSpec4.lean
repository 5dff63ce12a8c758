/-
  The contracts of CodeFits in the model.
  Conditions: none.
-/
import Derived.Test.YtbpkfcaokbidnabCodeSpec2
import Derived.Test.YtbpkfcaokbidnabSpanSpec5
import Derived.Test.YtbpkfcaokbidnabCodeFit3
import Derived.Maps.AppendAt
namespace Go.Proofs.Ytbpkfcaokbidnab
open Go.RowKit
set_option linter.unusedVariables false

set_option maxHeartbeats 2000000 in
set_option maxRecDepth 20000 in
theorem specVals (u v : Value) (l : List Int) (f : List Bool) (w : World) (hu : Sl w u l) (hv : Bl w v f) (h1 : l.length ≤ 1048576) : Calls Try.prog 94 #[u, v] w fun e w' => e = .returned (.bool (shOk l && decide (f.length = 8))) ∧ w = w' := by
  obtain ⟨a, cap, rfl, h2, h3, hr⟩ := hu
  obtain ⟨a', cap', rfl, h2', h3', _⟩ := hv
  unfold maxLen at h3 h3'
  have R := Lib.hid hr
  clear hr
  go_enter Try.func94, Try.ntmps94
  go_wp2_with fail
  go_loopw [5] (fun i wr => ∃ k : Nat, k ≤ l.length ∧ i = .int .i64 k ∧ (∀ j, j < k → Fld.ok (l.getD j 0) = true) ∧ wr = w) (fun i _ => l.length - (intOf i).toNat)
  case atStart => exact ⟨0, Nat.zero_le _, rfl, fun j hj => by omega, rfl⟩
  case round =>
    obtain ⟨k, hk, rfl, hok, rfl⟩ := hrel
    have OK := Lib.hid hok
    clear hok
    by_cases hlt : k < l.length
    · have hlt' : (k : Int) < (l.length : Int) := by omega
      obtain ⟨b, o, rfl, hx⟩ := R.out.at_ hlt
      obtain ⟨x, hxe⟩ : ∃ x, l.getD k 0 = x := ⟨_, rfl⟩
      rw [hxe] at hx
      have XE := Lib.hid hxe
      clear hxe
      have IO := Lib.hid (specOk x wr)
      cases hq : Fld.ok x with
      | false =>
        rw [hq] at IO
        have NO : Hid (shOk l = false) := Lib.hid (shOk_not (i := k) (by rw [XE.out]; exact hq))
        clear hq
        go_wp2_with fail
        refine IO.out.mono ?_
        rintro e w' ⟨rfl, rfl⟩
        go_wp2_with fail
        go_ret
        exact ⟨ret_bool (by rw [NO.out]; rfl), rfl⟩
      | true =>
        rw [hq] at IO
        have OK' : Hid (∀ j, j < k + 1 → Fld.ok (l.getD j 0) = true) := Lib.hid (fun j hj => by
          by_cases e : j = k
          · subst e; rw [XE.out]; exact hq
          · exact OK.out j (by omega))
        clear hq
        go_wp2_with fail
        refine IO.out.mono ?_
        rintro e w' ⟨rfl, rfl⟩
        go_wp2_with fail
        go_roundw
        case rel => exact ⟨k + 1, by omega, by go_num, OK'.out, by first | rfl | trivial⟩
        case measure => simp [intOf]; omega
    · have : k = l.length := by omega
      subst this
      have E : Hid (shOk l = decide (l.length = 8)) := Lib.hid (by
        by_cases h8 : l.length = 8
        · rw [decide_eq_true h8]; exact shOk_get h8 (fun i hi => OK.out i (by omega))
        · rw [decide_eq_false h8]; simp [shOk, h8])
      by_cases h8 : l.length = 8
      · have e8 : ((l.length : Int) == 8) = true := by rw [beq_iff_eq]; omega
        have E1 : Hid (shOk l = true) := Lib.hid (by rw [E.out, decide_eq_true h8])
        clear E h8
        by_cases h9 : f.length = 8
        · have e9 : ((f.length : Int) == 8) = true := by rw [beq_iff_eq]; omega
          have E2 : Hid (decide (f.length = 8) = true) := Lib.hid (decide_eq_true h9)
          clear h9
          go_wp2_with fail
          go_ret
          exact ⟨ret_bool (by rw [E1.out, E2.out]; rfl), rfl⟩
        · have e9 : ((f.length : Int) == 8) = false := by rw [beq_eq_false_iff_ne]; omega
          have E2 : Hid (decide (f.length = 8) = false) := Lib.hid (decide_eq_false h9)
          clear h9
          go_wp2_with fail
          go_ret
          exact ⟨ret_bool (by rw [E1.out, E2.out]; rfl), rfl⟩
      · have e8 : ((l.length : Int) == 8) = false := by rw [beq_eq_false_iff_ne]; omega
        have E1 : Hid (shOk l = false) := Lib.hid (by rw [E.out, decide_eq_false h8])
        clear E h8
        go_wp2_with fail
        go_ret
        exact ⟨ret_bool (by rw [E1.out]; rfl), rfl⟩

/-- no row lies in p's own block. -/
def Away (vs : List Value) (p : Value) : Prop := ∀ x ∈ vs, ∀ ad n c, x = .slice (some ad) n c → p.ownBlock ≠ some ad.block
theorem STab.far {w w' : World} {base : Nat} {v p : Value} {us : List Value} {m : List (List Int)} (h : STab w base v us m) (hg : w.grownBy w' p.ownBlock) (hv : v.ownBlock = none ∨ v.ownBlock ≠ p.ownBlock) (hr : Away us p) : STab w' base v us m := by
  refine ⟨World.ownsRow.kept h.top hg hv, h.len, fun i u l hu hl => ?_⟩
  obtain ⟨⟨a, cap, rfl, h1, h2, h3⟩, hi⟩ := h.rows i u l hu hl
  have hm : Value.slice a l.length cap ∈ us := List.mem_of_getElem? hu
  refine ⟨⟨a, cap, rfl, h1, h2, ?_⟩, fun x n c e => ?_⟩
  · rcases h3 with h3 | ⟨b, o', rfl, h3⟩
    · exact .inl h3
    · exact .inr ⟨b, o', rfl, fun i hi' => hg.cell (h3 i hi') (fun e => hr _ hm _ _ _ rfl e.symm)⟩
  · obtain ⟨cur, fr, hx⟩ := hi x n c e
    exact ⟨cur, fr, (hg.block _ (Array.getElem?_eq_some_iff.1 hx).1 (fun e' => hr _ hm _ _ _ e e'.symm)).trans hx⟩
theorem STab.below {w : World} {base : Nat} {v : Value} {us : List Value} {m : List (List Int)} (h : STab w base v us m) : ∀ x ∈ us, ∀ ad n c, x = .slice (some ad) n c → ad.block < w.heap.size := by
  intro x hx ad n c e
  obtain ⟨i, hi, rfl⟩ := List.mem_iff_getElem.1 hx
  have hl : i < m.length := by rw [← h.len]; exact hi
  obtain ⟨cur, fr, hh⟩ := (h.rows i us[i] m[i] (List.getElem?_eq_getElem hi) (List.getElem?_eq_getElem hl)).2 ad n c e
  exact (Array.getElem?_eq_some_iff.1 hh).1

set_option maxHeartbeats 8000000 in
set_option maxRecDepth 20000 in
theorem specL4Fits {k : Nat} (hk : k = 1 ∨ k = 2) (u v : Value) (a : List Int) (f : List Bool) (w : World) (hu : Sl w u a) (hv : Bl w v f) (ra : Sp.Row 8 a) (hf : f.length = 8) : Calls Try.prog 95 #[.int .i64 k, u, v] w (FitsOf k f a w) := by
  obtain ⟨i0, hi, hz0, hz1, hz2⟩ := info_parts infoInts
  have I1 := Lib.hid hi
  have I2 := Lib.hid hz0
  have I3 := Lib.hid hz1
  have I4 := Lib.hid hz2
  clear hi hz0 hz1 hz2
  obtain ⟨j0, hi, hz0, hz1, hz2⟩ := info_parts infoInt
  have J1 := Lib.hid hi
  have J2 := Lib.hid hz0
  have J3 := Lib.hid hz1
  have J4 := Lib.hid hz2
  clear hi hz0 hz1 hz2
  obtain ⟨ua, uc, rfl, u1, u2, hru⟩ := hu
  obtain ⟨va, vc, rfl, v1, v2, hrv⟩ := hv
  rw [ra.1] at u1 ⊢
  rw [hf] at v1 ⊢
  unfold maxLen at u2 v2
  have RU := Lib.hid hru
  have RV := Lib.hid hrv
  have RA := Lib.hid ra
  have HF := Lib.hid hf
  clear hru hrv ra hf
  have M0 := Lib.hid (STab.made w w.heap.size (Nat.le_refl _))
  have N0 : Hid (Own ((w.alloc (.cells #[] 33)).alloc (.cells #[] 3)) w.heap.size (.slice (some ⟨w.heap.size + 1, 0, none⟩) 0 0) []) := Lib.hid (by
    have := Own.made (w.alloc (.cells #[] 33)) w.heap.size [] (by simp) (by simp)
    rw [World.size_alloc] at this
    exact this)
  have RW := Lib.hid (fun (n : Nat) (h : n < 8) (w : World) => specL4Row hk h w)
  go_enter Try.func95, Try.ntmps95
  go_wp2_with fail
  go_loopw [7, 8, 9] (fun o p i wr => ∃ n : Nat, n ≤ 8 ∧ i = .int .i64 n ∧ w.grownBy wr none ∧ ∃ vs R G, STab wr w.heap.size o vs R ∧ Own wr w.heap.size p G ∧ Sp.Fits k f a n R G ∧ Away vs p) (fun _ _ i _ => 8 - (intOf i).toNat)
  case atStart => exact ⟨0, by omega, rfl, grown_alloc (grown_alloc (World.grownBy.refl _ _) _) _, [], [], [], M0.out.still (World.grownBy_alloc _ _ _), N0.out, Sp.Fits.start k f a, fun x hx => (by cases hx)⟩
  case round =>
    obtain ⟨n, hn, rfl, hg, vs, R, G, hst, how, hfi, haw⟩ := hrel
    have AW := Lib.hid haw
    have GR := Lib.hid hg
    have ST := Lib.hid hst
    have OW := Lib.hid how
    have FI := Lib.hid hfi
    clear hg hst how hfi haw M0 N0
    by_cases hlt : n < 8
    · have hlt' : (n : Int) < 8 := by omega
      obtain ⟨b, o, rfl, hx⟩ := (RV.out.grown GR.out).at_ (k := n) (by rw [HF.out]; exact hlt)
      cases hfn : f.getD n false with
      | false =>
        rw [hfn] at hx
        have FS := Lib.hid (FI.out.skip hfn)
        clear hfn
        go_wp2_with fail
        go_roundw
        case rel => exact ⟨n + 1, by omega, by go_num, GR.out, vs, R, G, ST.out, OW.out, FS.out, AW.out⟩
        case measure => simp [intOf]; omega
      | true =>
        rw [hfn] at hx
        have HT := Lib.hid hfn
        have RL : R.length ≤ 8 := by have := FI.out.few; omega
        have GL : G.length = R.length := FI.out.got.1
        have HGL := Lib.hid GL
        have vl : vs.length ≤ 8 := by rw [ST.out.len]; exact RL
        have gl : G.length ≤ 8 := by omega
        have CR := Lib.hid (Sp.crow_row hk hlt)
        have RN := Lib.hid (RW.out n hlt)
        have FN : Hid (∀ l', (∀ j, Sp.toV (Sp.crow k n) j = Sp.comb (Sp.toV l') (R.map Sp.toV) j) → (Sp.msum l' G R.length = a.getD n 0 → Sp.Fits k f a (n + 1) R G) ∧ (Sp.msum l' G R.length ≠ a.getD n 0 → ¬ Sp.Fit k f a)) := Lib.hid (fun l' hl => ⟨fun e => FI.out.made hl e, fun e => FI.out.no RA.out hlt hfn hl e⟩)
        have FM : Hid (¬ Sp.Made R (Sp.crow k n) → Sp.Fits k f a (n + 1) (R ++ [Sp.crow k n]) (G ++ [a.getD n 0])) := Lib.hid (fun h => FI.out.more hk RA.out hlt hfn h)
        obtain ⟨row, hrow⟩ : ∃ r, Sp.crow k n = r := ⟨_, rfl⟩
        rw [hrow] at CR RN FN FM
        have C4 := Lib.hid CR.out.1
        have hsz : w.heap.size ≤ wr.heap.size := GR.out.size
        obtain ⟨bu, ou, hua, hxu⟩ := (RU.out.grown GR.out).at_ (k := n) (by rw [RA.out.1]; exact hlt)
        obtain ⟨an, han⟩ : ∃ y, a.getD n 0 = y := ⟨_, rfl⟩
        rw [han] at hxu FN FM
        have HAN := Lib.hid han
        subst hua
        clear hfn hrow han GL
        go_wp2_with fail
        refine (RN.out _).mono ?_
        rintro e w3 ⟨x, rfl, hg, ho⟩
        have G3 := Lib.hid (grown_trans GR.out hg)
        have R3 : Hid (Sl w3 x row ∧ IntRow w3 x) := Lib.hid ⟨ho.sl, ho.intRow⟩
        have ST3 := Lib.hid (ST.out.still hg)
        have OW3 := Lib.hid (OW.out.still hg)
        have hxu3 := hg.cell hxu (by simp)
        obtain ⟨au, cu, eu, _, _, _⟩ := ho.sl
        rw [C4.out] at eu
        subst eu
        have AN : Hid (∀ ad n c, Value.slice au 4 cu = .slice (some ad) n c → u8.ownBlock ≠ some ad.block) := Lib.hid (by
          intro ad n c e h
          have h1 := (World.ownsRow.lt OW.out _ h).2
          rcases ho.2 with ⟨e', _⟩ | ⟨g, cap', cur, e', hb, _⟩
          · rw [e'] at e; cases e
          · rw [e'] at e
            injection e with e
            injection e with e
            subst e
            have : wr.heap.size ≤ g := hb
            have h2 : g < wr.heap.size := h1
            omega)
        clear hg ho hx hxu GR ST OW RN
        have HA := Lib.hid (specL3Has u7 (.slice au 4 cu) vs R row w3 ST3.out.tab FI.out.row R3.out.1 CR.out)
        cases hh : Sp.has R row with
        | true =>
          have MD := Lib.hid ((Sp.has_iff FI.out.row CR.out).1 hh)
          rw [hh] at HA
          clear hh FM
          go_wp2_with fail
          refine HA.out.mono ?_
          rintro e w4 ⟨rfl, hg⟩
          have G4 := Lib.hid (grown_trans G3.out hg)
          have ST4 := Lib.hid (ST3.out.still hg)
          have OW4 := Lib.hid (OW3.out.still hg)
          have R4 : Hid (Sl w4 (.slice au 4 cu) row) := Lib.hid (R3.out.1.grown hg)
          have hxu4 := hg.cell hxu3 (by simp)
          clear hg G3 ST3 OW3 R3 hxu3 HA
          go_wp2_with fail
          refine (specL3By u7 (.slice au 4 cu) vs R row _ ST4.out.tab FI.out.row RL R4.out CR.out).mono ?_
          rintro e w5 ⟨bb, l', han', ob, rfl, hg, ho⟩
          obtain ⟨rfl, hl'⟩ : bb = true ∧ (Sp.Row R.length l' ∧ ∀ j, Sp.toV row j = Sp.comb (Sp.toV l') (R.map Sp.toV) j) := by
            rcases han' with ⟨h1, _, h2, h3⟩ | ⟨_, h2, _⟩
            · exact ⟨h1, h2, h3⟩
            · exact absurd MD.out h2
          have HL' := Lib.hid hl'
          have FN' := Lib.hid (FN.out l' hl'.2)
          have G5 := Lib.hid (grown_trans G4.out hg)
          have ST5 := Lib.hid (ST4.out.still hg)
          have OW5 := Lib.hid (OW4.out.still hg)
          have hxu5 := hg.cell hxu4 (by simp)
          have OB := Lib.hid ho.sl
          obtain ⟨ab, cb, eb, hb1, hb2, _⟩ := ho.sl
          rw [hl'.1.1] at eb hb1
          subst eb
          unfold maxLen at hb2
          obtain ⟨ag, cg, eg, hg1, hg2, _⟩ := OW5.out.sl
          rw [HGL.out] at eg hg1
          unfold maxLen at hg2
          clear hg ho han' hl' MD FN G4 ST4 OW4 R4 hxu4
          have SG := Lib.hid OW5.out.sl
          subst eg
          go_wp2_with fail
          go_loopw [13, 14] (fun s i wz => ∃ m : Nat, m ≤ R.length ∧ i = .int .i64 m ∧ s = .int .i64 (Sp.msum l' G m) ∧ w5.grownBy wz none) (fun _ i _ => R.length - (intOf i).toNat)
          case atStart => exact ⟨0, Nat.zero_le _, rfl, rfl, World.grownBy.refl _ _⟩
          case round =>
            obtain ⟨m, hm, rfl, rfl, hg⟩ := hrel
            have GZ := Lib.hid hg
            clear hg
            by_cases hml : m < R.length
            · have hml' : (m : Int) < (R.length : Int) := by omega
              obtain ⟨a1, c1, e1, _, _, hr1⟩ := OB.out.grown GZ.out
              injection e1 with e1 e2 e3
              subst e1 e3
              clear e2
              obtain ⟨b1, o1, rfl, hx1⟩ := hr1.at_ (k := m) (by rw [HL'.out.1.1]; exact hml)
              obtain ⟨a2, c2, e1, _, _, hr2⟩ := SG.out.grown GZ.out
              injection e1 with e1 e2 e3
              subst e1 e3
              clear e2
              obtain ⟨b2, o2, rfl, hx2⟩ := hr2.at_ (k := m) (by rw [HGL.out]; exact hml)
              have N : Hid ((Sp.msum l' G m + l'.getD m 0 * G.getD m 0) % 31 = Sp.msum l' G (m + 1)) := Lib.hid rfl
              have D := Sp.msum_ok l' G m
              have hxo := getD_ok HL'.out.1.2 m
              have hyo := getD_ok FI.out.got.2 m
              obtain ⟨d, hd⟩ : ∃ d, Sp.msum l' G m = d := ⟨_, rfl⟩
              obtain ⟨x, hxe⟩ : ∃ x, l'.getD m 0 = x := ⟨_, rfl⟩
              obtain ⟨y, hye⟩ : ∃ y, G.getD m 0 = y := ⟨_, rfl⟩
              rw [hxe] at hx1 hxo
              rw [hye] at hx2 hyo
              rw [hd] at D
              rw [hd, hxe, hye] at N
              rw [hd]
              have ⟨d0, d1⟩ := Fld.ok_iff.1 D
              have ⟨p0, p1⟩ := Fld.mul_le hxo hyo
              have w1 : IntKind.i64.wrap (x * y) = x * y := IntWalk.i64_in _ (by omega)
              have w2 : IntKind.i64.wrap (d + x * y) = d + x * y := IntWalk.i64_in _ (by omega)
              clear hxe hye hd hxo hyo D hr1 hr2
              go_wp2_with fail
              go_quiet (fail)
              clear w1 w2
              go_wp2_with fail
              go_roundw
              case rel => exact ⟨m + 1, by omega, by go_num, by rw [← N.out], grown_draws GZ.out _⟩
              case measure => simp [intOf]; omega
            · obtain rfl : m = R.length := by omega
              have G6 := Lib.hid (grown_trans G5.out GZ.out)
              have ST6 := Lib.hid (ST5.out.still GZ.out)
              have OW6 := Lib.hid (OW5.out.still GZ.out)
              have hxu6 := GZ.out.cell hxu5 (by simp)
              obtain ⟨d, hd⟩ : ∃ d, Sp.msum l' G R.length = d := ⟨_, rfl⟩
              rw [hd] at FN' ⊢
              clear hd ST5 OW5 hxu5 GZ G5
              by_cases hne : d = an
              · subst hne
                have FF := Lib.hid (FN'.out.1 rfl)
                clear FN'
                go_wp2_with fail
                go_roundw
                case rel => exact ⟨n + 1, by omega, by go_num, G6.out, vs, R, G, ST6.out, OW6.out, FF.out, AW.out⟩
                case measure => simp [intOf]; omega
              · have NF := Lib.hid (FN'.out.2 hne)
                have hnb : (d != an) = true := by rw [bne_iff_ne]; exact hne
                clear FN'
                go_wp2_with fail
                go_ret
                exact ⟨false, rfl, ⟨fun h => (by cases h), fun h => absurd h NF.out⟩, G6.out⟩
        | false =>
          have FF : Hid (Sp.Fits k f a (n + 1) (R ++ [row]) (G ++ [an])) := Lib.hid (FM.out (fun hm => by rw [(Sp.has_iff FI.out.row CR.out).2 hm] at hh; cases hh))
          rw [hh] at HA
          clear hh FM FN
          go_wp2_with fail
          refine HA.out.mono ?_
          rintro e w4 ⟨rfl, hg⟩
          have G4 := Lib.hid (grown_trans G3.out hg)
          have ST4 := Lib.hid (ST3.out.still hg)
          have OW4 := Lib.hid (OW3.out.still hg)
          have R4 : Hid (Sl w4 (.slice au 4 cu) row ∧ IntRow w4 (.slice au 4 cu)) := Lib.hid ⟨R3.out.1.grown hg, R3.out.2.still hg⟩
          have TOP : Hid (w4.ownsRow w.heap.size 33 1 u7 vs.length vs) := Lib.hid ST4.out.top
          have hxu4 := hg.cell hxu3 (by simp)
          have s4 : w.heap.size ≤ w4.heap.size := G4.out.size
          clear hg G3 ST3 OW3 R3 hxu3 HA
          go_wp2_with (first
            | (at_builtin; refine wpList_append_own _ rfl _ _ 62 rfl w.heap.size 33 i0 (.slice none 0 0) 1 24 Try.underlying62 I1.out I2.out I3.out I4.out rfl (by decide) _ _ _ rfl (World.ownsRow.alloc TOP.out _) ⟨w4.heap.size, 0, none⟩ 1 1 [.slice au 4 cu] rfl rfl (one_cell (g := 0)) (by simp [Value.oneCell']) ?c3 ?c4 ?c5 ?_))
          case c3 => unfold maxLen; omega
          case c4 => omega
          case c5 => simp; omega
          intro o' w5 ho2 hg2 _
          have N : Hid (STab w5 w.heap.size o' (vs ++ [.slice au 4 cu]) (R ++ [row])) := Lib.hid (ST4.out.snoc (World.grownBy.refl _ _) R4.out (grown_trans (World.grownBy_alloc _ _ _) hg2) ho2 rfl rfl)
          have G5 : Hid (w.grownBy w5 none) := Lib.hid (grown_own (grown_alloc G4.out _) hg2 (fun j hj => (World.ownsRow.lt TOP.out j hj).1))
          have O5 : Hid (Own w5 w.heap.size u8 G) := Lib.hid ((OW4.out.still (World.grownBy_alloc w4 (.cells #[.slice au 4 cu] 33) none)).kept hg2 (by
            have hap := apart_types (x := ⟨u8, 3, vals G⟩) (y := ⟨u7, 33, vs⟩) (row1_own.2 OW4.out) TOP.out (by show (3 : TypeId) ≠ 33; decide)
            exact hap))
          have hxu5 : w5.cell? ⟨bu, ou + n, none⟩ = some (.int .i64 an) := by
            obtain ⟨bq, oq, hq, hxq⟩ := (RU.out.grown G5.out).at_ (k := n) (by rw [RA.out.1]; exact hlt)
            injection hq with hq
            injection hq with hq1 hq2
            subst hq1 hq2
            rw [HAN.out] at hxq
            exact hxq
          have AW5 : Hid (Away (vs ++ [.slice au 4 cu]) u8) := Lib.hid (fun x hx ad n c e => by
            rcases List.mem_append.1 hx with hx | hx
            · exact AW.out x hx ad n c e
            · simp at hx; subst hx; exact AN.out ad n c e)
          have s5 : w.heap.size ≤ w5.heap.size := G5.out.size
          clear ho2 hg2 TOP R4 ST4 OW4 hxu4
          go_wp2_with (first
            | (at_builtin; refine wpList_append_own_at _ rfl _ _ 33 rfl w.heap.size 3 j0 (.int .i64 0) 1 8 Try.underlying33 J1.out J2.out J3.out J4.out rfl (by decide) _ _ _ rfl (World.ownsRow.alloc O5.out _) ⟨w5.heap.size, 0, none⟩ 1 1 [.int .i64 an] rfl rfl (one_cell (g := 0)) (vals_one [an]) ?d3 ?d4 ?d5 ?_))
          case d3 => unfold maxLen; omega
          case d4 => omega
          case d5 => simp; omega
          intro o6 w6 ho hg _ hat
          have O6 := Lib.hid (own_snoc (l := G) (x := an) ho rfl rfl)
          have G6 : Hid (w.grownBy w6 none) := Lib.hid (grown_own (grown_alloc G5.out _) hg (fun j hj => (World.ownsRow.lt O5.out j hj).1))
          have S5 := Lib.hid (N.out.still (World.grownBy_alloc w5 (.cells #[.int .i64 an] 3) none))
          have S6 : Hid (STab w6 w.heap.size o' (vs ++ [.slice au 4 cu]) (R ++ [row])) := Lib.hid (S5.out.far hg (by
            have hap := apart_types (x := ⟨o', 33, vs ++ [Value.slice au 4 cu]⟩) (y := ⟨u8, 3, vals G⟩) N.out.top (row1_own.2 O5.out) (by show (33 : TypeId) ≠ 3; decide)
            exact hap) AW5.out)
          have AW6 : Hid (Away (vs ++ [.slice au 4 cu]) o6) := Lib.hid (fun x hx ad n c e h => by
            rcases hat with hat | hat
            · exact AW5.out x hx ad n c e (hat ▸ h)
            · rw [hat] at h
              injection h with h
              have := N.out.below x hx ad n c e
              (try rw [World.size_alloc] at h)
              omega)
          clear ho hg hat
          go_wp2_with fail
          go_roundw
          case rel => exact ⟨n + 1, by omega, by go_num, G6.out, _, _, _, S6.out, O6.out, FF.out, AW6.out⟩
          case measure => simp [intOf]; omega
    · obtain rfl : n = 8 := by omega
      have FD := Lib.hid FI.out.done
      go_wp2_with fail
      go_ret
      exact ⟨true, rfl, ⟨fun _ => FD.out, fun _ => rfl⟩, GR.out⟩

set_option maxHeartbeats 2000000 in
set_option maxRecDepth 20000 in
theorem specFits (k : Int) (u v : Value) (l : List Int) (f : List Bool) (w : World) (hu : Sl w u l) (hv : Bl w v f) (h1 : l.length ≤ 1048576) : Calls Try.prog 51 #[.int .i64 k, u, v] w (FitsTop k l f w) := by
  have U := Lib.hid hu
  have V := Lib.hid hv
  have SV := Lib.hid (specVals u v l f w hu hv h1)
  clear hu hv
  rcases kind_cases k with ⟨j, rfl, hj⟩ | ⟨k1, k2⟩
  · have K := kindM_yes hj
    obtain ⟨q, hq⟩ : ∃ q, (shOk l && decide (f.length = 8)) = q := ⟨_, rfl⟩
    rw [hq] at SV
    have Q := Lib.hid hq
    have HJ := Lib.hid hj
    clear hq hj
    go_enter Try.func51, Try.ntmps51
    go_wp2_with fail
    refine (specKind j _).mono ?_
    rintro e w' ⟨rfl, rfl⟩
    rw [K]
    go_wp2_with fail
    refine SV.out.mono ?_
    rintro e w' ⟨rfl, rfl⟩
    cases q with
    | false =>
      have NO : Hid (¬ FitM j l f) := Lib.hid (fun h => by
        have := Q.out
        rw [h.2.1, decide_eq_true h.2.2.1] at this
        cases this)
      go_wp2_with fail
      go_ret
      exact ⟨false, rfl, ⟨fun h => (by cases h), fun h => absurd h NO.out⟩, World.grownBy.refl _ _⟩
    | true =>
      have Y : Hid (shOk l = true ∧ f.length = 8) := Lib.hid (by simpa using Q.out)
      have FI : Hid (Sp.Fit j f l ↔ FitM j l f) := Lib.hid (by
        unfold FitM
        have kk : ((j : Int) = 1 ∨ (j : Int) = 2) := by have := HJ.out; omega
        simp [kk, Y.out.1, Y.out.2])
      go_wp2_with fail
      refine (specL4Fits HJ.out u v l f _ U.out V.out (shOk_row.1 Y.out.1) Y.out.2).mono ?_
      rintro e w1 ⟨b, rfl, hb, hg⟩
      have G := Lib.hid hg
      have B := Lib.hid (hb.trans FI.out)
      clear hg hb
      cases b
      · go_wp2_with fail
        go_ret
        exact ⟨false, rfl, B.out, G.out⟩
      · go_wp2_with fail
        go_ret
        exact ⟨true, rfl, ⟨fun _ => B.out.1 (by first | rfl | trivial), fun _ => rfl⟩, G.out⟩
  · have K := kindM_no k1 k2
    have NO : Hid (¬ FitM k l f) := Lib.hid (fun h => by have := h.1; omega)
    clear k1 k2
    go_enter Try.func51, Try.ntmps51
    go_wp2_with fail
    refine (specKind k _).mono ?_
    rintro e w' ⟨rfl, rfl⟩
    rw [K]
    go_wp2_with fail
    go_ret
    exact ⟨false, rfl, ⟨fun h => (by cases h), fun h => absurd h NO.out⟩, World.grownBy.refl _ _⟩
end Go.Proofs.Ytbpkfcaokbidnab
