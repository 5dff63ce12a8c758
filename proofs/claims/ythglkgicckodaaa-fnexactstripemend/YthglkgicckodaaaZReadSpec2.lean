/-
  What this claim wants of the texts of earlier chapters.
  Conditions: none.
-/
import Derived.Test.YthglkgicckodaaaZReadSpec
import Derived.Test.YthglkgicckodaaaZReadTop3
import Derived.Test.YthglkgicckodaaaZG4
import Derived.Maps.AppendAt
namespace Go.Proofs.Ythglkgicckodaaa.Sp
set_option linter.unusedVariables false
theorem okM_padd {k : Nat} (hk : k = 1 ∨ k = 2) (f : List Bool) : okM (padd k f) = true :=
  okM_yes (by rw [padd_len]; exact Nat.le_refl _) fun i hi => by
    rw [List.getD_eq_getElem?_getD, List.getElem?_eq_getElem hi]
    exact row_ok.2 (padd_row hk f _ (List.getElem_mem hi))
theorem from_sel {k : Nat} (hk : k = 1 ∨ k = 2) (f : List Bool) : sel (padd k f) (fromK k f) = (fromK k f).map (crow k) :=
  List.map_congr_left fun i hi => (padd_first hk hi).2.2
theorem from_made {k : Nat} (hk : k = 1 ∨ k = 2) {f : List Bool} (h : bears k f = true) {v : List Int} (hv : Row 4 v) : Made ((fromK k f).map (crow k)) v := by
  have := sel_same (okM_padd hk f)
  have e : sel (padd k f) (firsts has (padd k f)) = (fromK k f).map (crow k) := from_sel hk f
  rw [e] at this
  exact (this.iff _).2 (padd_full hk h hv)
theorem data_msum {k : Nat} (hk : k = 1 ∨ k = 2) {f : List Bool} {a l : List Int} {i : Nat} (hi : i < 4) (hl : ∀ j, toV (un4 i) j = comb (toV l) (((fromK k f).map (crow k)).map toV) j) {d : V} (hd : ∀ i, i < 8 → f.getD i false = true → dot (toV (crow k i)) d = toF (a.getD i 0)) : toF (msum l ((fromK k f).map fun j => a.getD j 0) (fromK k f).length) = d i := by
  have := dot_by (G := (fromK k f).map fun j => a.getD j 0) hl d (fun j hj => by
    rw [List.length_map] at hj
    have hm : (fromK k f)[j] ∈ fromK k f := List.getElem_mem hj
    obtain ⟨h1, h2⟩ := from_lt hk hm
    have e1 : ((fromK k f).map (crow k)).getD j [] = crow k (fromK k f)[j] := by simp [List.getD_eq_getElem?_getD, List.getElem?_eq_getElem hj]
    have e2 : ((fromK k f).map fun j => a.getD j 0).getD j 0 = a.getD (fromK k f)[j] 0 := by simp [List.getD_eq_getElem?_getD, List.getElem?_eq_getElem hj]
    rw [e1, e2, hd _ h1 h2])
  rw [dot_un4 hi, List.length_map] at this
  exact this.symm
def Part (k : Nat) (f : List Bool) (a D : List Int) (n : Nat) : Prop := Row n D ∧ ∀ d : V, (∀ i, i < 8 → f.getD i false = true → dot (toV (crow k i)) d = toF (a.getD i 0)) → ∀ j, j < n → toV D j = d j
theorem Part.start (k : Nat) (f : List Bool) (a : List Int) : Part k f a [] 0 := ⟨⟨rfl, by simp⟩, fun d hd j hj => by omega⟩
theorem Part.next {k : Nat} (hk : k = 1 ∨ k = 2) {f : List Bool} {a D l : List Int} {n : Nat} (h : Part k f a D n) (hn : n < 4) (hl : ∀ j, toV (un4 n) j = comb (toV l) (((fromK k f).map (crow k)).map toV) j) : Part k f a (D ++ [msum l ((fromK k f).map fun j => a.getD j 0) (fromK k f).length]) (n + 1) := by
  refine ⟨⟨by rw [List.length_append, h.1.1]; rfl, fun x hx => ?_⟩, fun d hd j hj => ?_⟩
  · rcases List.mem_append.1 hx with hx | hx
    · exact h.1.2 x hx
    · simp at hx; subst hx; exact msum_ok _ _ _
  · show toF ((D ++ _).getD j 0) = d j
    rcases Nat.lt_succ_iff_lt_or_eq.1 hj with hj | rfl
    · rw [List.getD_eq_getElem?_getD, List.getElem?_append_left (by rw [h.1.1]; exact hj), ← List.getD_eq_getElem?_getD]
      exact h.2 d hd j hj
    · rw [List.getD_eq_getElem?_getD, List.getElem?_append_right (by rw [h.1.1]; exact Nat.le_refl _), h.1.1, Nat.sub_self]
      exact data_msum hk hn hl hd
theorem Part.data {k : Nat} {f : List Bool} {a D : List Int} (h : Part k f a D 4) : IsData k f a D := h
end Go.Proofs.Ythglkgicckodaaa.Sp
namespace Go.Proofs.Ythglkgicckodaaa
open Go.RowKit
set_option linter.unusedVariables false
set_option maxHeartbeats 8000000 in
set_option maxRecDepth 20000 in
theorem specData {k : Nat} (hk : k = 1 ∨ k = 2) (u x : Value) (a : List Int) (f : List Bool) (w : World) (hu : Sl w u a) (ra : Sp.Row 8 a) (hx : Sl w x (ints (Sp.fromK k f))) (hb : Sp.bears k f = true) : Calls Try.prog 113 #[.int .i64 k, u, x] w fun e w' => ∃ D, Sp.IsData k f a D ∧ NewInts D w e w' := by
  obtain ⟨i0, hi, hz0, hz1, hz2⟩ := info_parts infoInts
  have I1 := Lib.hid hi
  have I2 := Lib.hid hz0
  have I3 := Lib.hid hz1
  have I4 := Lib.hid hz2
  clear hi hz0 hz1 hz2
  obtain ⟨j0, hi, hz0, hz1, hz2⟩ := info_parts infoInt
  have J1 := Lib.hid hi
  have J2 := Lib.hid hz0
  have J3 := Lib.hid hz1
  have J4 := Lib.hid hz2
  clear hi hz0 hz1 hz2
  have U := Lib.hid hu
  have X := Lib.hid hx
  obtain ⟨ua, uc, rfl, u1, u2, _⟩ := hu
  obtain ⟨xa, xc, rfl, x1, x2, _⟩ := hx
  have L4 := Sp.from_len hk hb
  have FL := Lib.hid (fun i (hi : i < (Sp.fromK k f).length) => (Sp.from_lt hk (List.getElem_mem hi) : (Sp.fromK k f)[i] < 8 ∧ _))
  have FM := Lib.hid (fun (v : List Int) (hv : Sp.Row 4 v) => Sp.from_made hk hb hv)
  have PN := Lib.hid (fun (D l : List Int) (n : Nat) (h : Sp.Part k f a D n) (hn : n < 4) (hl : ∀ j, Sp.toV (Sp.un4 n) j = Sp.comb (Sp.toV l) (((Sp.fromK k f).map (Sp.crow k)).map Sp.toV) j) => h.next hk hn hl)
  have P0 := Lib.hid (Sp.Part.start k f a)
  have P4 := Lib.hid (fun (D : List Int) (h : Sp.Part k f a D 4) => h.data)
  have RW := Lib.hid (fun (n : Nat) (h : n < 8) (w : World) => specL4Row hk h w)
  have CRW := Lib.hid (fun (n : Nat) (h : n < 8) => Sp.crow_row hk h)
  have HK := Lib.hid hk
  have RA := Lib.hid ra
  rw [ints_len] at x1 X ⊢
  rw [ra.1] at u1 U ⊢
  unfold maxLen at u2 x2
  generalize hF : Sp.fromK k f = F at *
  clear hF ra hk hb
  have FLN := Lib.hid L4
  rw [L4] at x1 X ⊢
  have M0 := Lib.hid (STab.made w w.heap.size (Nat.le_refl _))
  go_enter Try.func113, Try.ntmps113
  go_wp2_with fail
  go_loopw [7, 8] (fun o i wr => ∃ n : Nat, n ≤ 4 ∧ i = .int .i64 n ∧ w.grownBy wr none ∧ ∃ vs, STab wr w.heap.size o vs ((F.take n).map (Sp.crow k))) (fun _ i _ => 4 - (intOf i).toNat)
  case atStart => exact ⟨0, by omega, rfl, grown_alloc (World.grownBy.refl _ _) _, [], M0.out⟩
  case round =>
    obtain ⟨n, hn, rfl, hg, vs, ho⟩ := hrel
    have GR := Lib.hid hg
    have O := Lib.hid ho
    clear hg ho M0
    by_cases hlt : n < 4
    · have hlt' : (n : Int) < 4 := by omega
      have hnF : n < F.length := by rw [FLN.out]; exact hlt
      obtain ⟨a1, c1, e1, _, _, hr1⟩ := X.out.grown GR.out
      injection e1 with e1 e2 e3
      subst e1 e3
      clear e2
      obtain ⟨b, o, rfl, hx⟩ := hr1.at_ (k := n) (by rw [ints_len]; exact hnF)
      rw [ints_get _ hnF] at hx
      have hat := (FL.out n hnF).1
      have eg : F.getD n 0 = F[n] := by rw [List.getD_eq_getElem?_getD, List.getElem?_eq_getElem hnF]; rfl
      rw [eg] at hx
      have TK : Hid ((F.take n).map (Sp.crow k) ++ [Sp.crow k F[n]] = (F.take (n + 1)).map (Sp.crow k)) := Lib.hid (by
        rw [List.take_succ_eq_append_getElem hnF, List.map_append]; rfl)
      generalize F[n] = at_ at *
      have RN := Lib.hid (RW.out at_ hat)
      have C4 := Lib.hid (CRW.out at_ hat).1
      have vl : vs.length ≤ 8 := by
        have := O.out.len
        rw [List.length_map, List.length_take] at this
        omega
      have hsz : w.heap.size ≤ wr.heap.size := GR.out.size
      generalize Sp.crow k at_ = row at *
      clear eg hr1
      go_wp2_with fail
      refine (RN.out _).mono ?_
      rintro e w3 ⟨u, rfl, hg, ho⟩
      have G3 := Lib.hid hg
      have R3 : Hid (Sl w3 u row ∧ IntRow w3 u) := Lib.hid ⟨ho.sl, ho.intRow⟩
      have TOP : Hid (w3.ownsRow w.heap.size 23 1 u7 vs.length vs) := Lib.hid (O.out.still hg).top
      obtain ⟨au, cu, eu, _, _, _⟩ := ho.sl
      rw [C4.out] at eu
      clear hg ho hx
      subst eu
      have s3 : w.heap.size ≤ w3.heap.size := Nat.le_trans hsz G3.out.size
      go_wp2_with (first
        | (at_builtin; refine wpList_append_own _ rfl _ _ 126 rfl w.heap.size 23 i0 (.slice none 0 0) 1 24 Try.underlying126 I1.out I2.out I3.out I4.out rfl (by decide) _ _ _ rfl (World.ownsRow.alloc TOP.out _) ⟨w3.heap.size, 0, none⟩ 1 1 [.slice au 4 cu] rfl rfl (one_cell (g := 0)) (by simp [Value.oneCell']) ?c3 ?c4 ?c5 ?_))
      case c3 => unfold maxLen; omega
      case c4 => omega
      case c5 => simp; omega
      intro o' w5 ho2 hg2 _
      have N : Hid (STab w5 w.heap.size o' (vs ++ [.slice au 4 cu]) ((F.take (n + 1)).map (Sp.crow k))) := Lib.hid (O.out.snoc G3.out R3.out (grown_trans (World.grownBy_alloc _ _ _) hg2) ho2 rfl TK.out)
      have G5 : Hid (w.grownBy w5 none) := Lib.hid (grown_own (grown_alloc (grown_trans GR.out G3.out) _) hg2 (fun j hj => (World.ownsRow.lt TOP.out j hj).1))
      clear ho2 hg2 TOP R3 G3
      go_wp2_with fail
      go_roundw
      case rel => exact ⟨n + 1, by omega, by go_num, G5.out, _, N.out⟩
      case measure => simp [intOf]; omega
    · obtain rfl : n = 4 := by omega
      rw [show ((4 : Nat) : Int) = 4 from rfl]
      have TALL : Hid ((F.take 4).map (Sp.crow k) = F.map (Sp.crow k)) := Lib.hid (by rw [List.take_of_length_le (by rw [FLN.out]; exact Nat.le_refl _)])
      rw [TALL.out] at O
      have RR : Hid (∀ r ∈ F.map (Sp.crow k), Sp.Row 4 r) := Lib.hid (fun r hr => by
        obtain ⟨j, hj, rfl⟩ := List.mem_map.1 hr
        obtain ⟨i, hi, rfl⟩ := List.mem_iff_getElem.1 hj
        exact CRW.out _ (FL.out i hi).1)
      have R4 : Hid ((F.map (Sp.crow k)).length = 4) := Lib.hid (by rw [List.length_map]; exact FLN.out)
      have G4 : Hid ((F.map fun j => a.getD j 0).length = 4) := Lib.hid (by rw [List.length_map]; exact FLN.out)
      have GG : Hid (∀ m, m < 4 → ∃ j : Nat, j < 8 ∧ (ints F).getD m 0 = j ∧ (F.map fun j => a.getD j 0).getD m 0 = a.getD j 0) := Lib.hid (fun m hm => by
        have hmF : m < F.length := by rw [FLN.out]; exact hm
        refine ⟨F[m], (FL.out m hmF).1, ?_, ?_⟩
        · rw [ints_get _ hmF, List.getD_eq_getElem?_getD, List.getElem?_eq_getElem hmF]; rfl
        · simp [List.getD_eq_getElem?_getD, List.getElem?_eq_getElem hmF])
      rw [FLN.out] at PN
      generalize (F.map fun j => a.getD j 0) = G at *
      generalize F.map (Sp.crow k) = R at *
      obtain ⟨wo, hwo⟩ : ∃ W, W = wr := ⟨_, rfl⟩
      subst hwo
      clear TALL RW CRW FL
      go_wp2_with fail
      go_loopw [9, 10] (fun o i wr => ∃ n : Nat, n ≤ 4 ∧ i = .int .i64 n ∧ wo.grownBy wr none ∧ ∃ D, Own wr wo.heap.size o D ∧ Sp.Part k f a D n) (fun _ i _ => 4 - (intOf i).toNat)
      case atStart => exact ⟨0, by omega, rfl, World.grownBy_alloc _ _ _, [], Own.made wo wo.heap.size [] (Nat.le_refl _) (by simp), P0.out⟩
      case round =>
        obtain ⟨n, hn, rfl, hg, D, ho, hp⟩ := hrel
        have G1 := Lib.hid hg
        have OD := Lib.hid ho
        have PA := Lib.hid hp
        clear hg ho hp
        by_cases hlt : n < 4
        · have hlt' : (n : Int) < 4 := by omega
          have UE : Hid (Vec.unit n = Sp.un4 n) := Lib.hid (Vec.unit_four n hlt)
          have UR := Lib.hid (Sp.un4_row n)
          have MD := Lib.hid (FM.out _ UR.out)
          have NX := Lib.hid (fun (l' : List Int) (hl : ∀ j, Sp.toV (Sp.un4 n) j = Sp.comb (Sp.toV l') (R.map Sp.toV) j) => PN.out D l' n PA.out hlt hl)
          have DL : D.length ≤ 4 := by have := PA.out.1.1; omega
          go_wp2_with fail
          refine (specUnitYes (n : Int) _ (by omega) (by omega)).mono ?_
          rintro e w3 ⟨uv, rfl, hg, ho⟩
          rw [UE.out] at ho
          have G3 := Lib.hid (grown_trans G1.out hg)
          have O3 := Lib.hid (OD.out.still hg)
          have US := Lib.hid ho.sl
          clear hg ho G1 OD
          go_wp2_with fail
          refine (specL3By u7 uv vs R (Sp.un4 n) _ (O.out.still G3.out).tab RR.out (by rw [R4.out]; omega) US.out UR.out).mono ?_
          rintro e w5 ⟨bb, l', han', ob, rfl, hg, ho⟩
          obtain ⟨rfl, hl'⟩ : bb = true ∧ (Sp.Row R.length l' ∧ ∀ j, Sp.toV (Sp.un4 n) j = Sp.comb (Sp.toV l') (R.map Sp.toV) j) := by
            rcases han' with ⟨h1, _, h2, h3⟩ | ⟨_, h2, _⟩
            · exact ⟨h1, h2, h3⟩
            · exact absurd MD.out h2
          have NX' := Lib.hid (NX.out l' hl'.2)
          have LR : Hid (Sp.Row 4 l') := Lib.hid (by have := hl'.1; rwa [R4.out] at this)
          have G5 := Lib.hid (grown_trans G3.out hg)
          have O5 := Lib.hid (O3.out.still hg)
          have OB := Lib.hid ho.sl
          obtain ⟨ab, cb, eb, hb1, hb2, _⟩ := ho.sl
          rw [LR.out.1] at eb hb1
          subst eb
          unfold maxLen at hb2
          have U5 := Lib.hid (U.out.grown (grown_trans GR.out G5.out))
          have X5 := Lib.hid (X.out.grown (grown_trans GR.out G5.out))
          clear hg ho han' hl' MD NX G3 O3 US UE
          go_wp2_with fail
          go_loopw [15, 16] (fun s i wz => ∃ m : Nat, m ≤ 4 ∧ i = .int .i64 m ∧ s = .int .i64 (Sp.msum l' G m) ∧ w5.grownBy wz none) (fun _ i _ => 4 - (intOf i).toNat)
          case atStart => exact ⟨0, Nat.zero_le _, rfl, rfl, World.grownBy.refl _ _⟩
          case round =>
            obtain ⟨m, hm, rfl, rfl, hg⟩ := hrel
            have GZ := Lib.hid hg
            clear hg
            by_cases hml : m < 4
            · have hml' : (m : Int) < 4 := by omega
              obtain ⟨q, hq8, hqe, hge⟩ := GG.out m hml
              have hq8' : (q : Int) < 8 := by omega
              obtain ⟨a1, c1, e1, _, _, hr1⟩ := OB.out.grown GZ.out
              injection e1 with e1 e2 e3
              subst e1 e3
              clear e2
              obtain ⟨b1, o1, rfl, hx1⟩ := hr1.at_ (k := m) (by rw [LR.out.1]; exact hml)
              obtain ⟨a2, c2, e1, _, _, hr2⟩ := X5.out.grown GZ.out
              injection e1 with e1 e2 e3
              subst e1 e3
              clear e2
              obtain ⟨b2, o2, rfl, hx2⟩ := hr2.at_ (k := m) (by rw [ints_len, FLN.out]; exact hml)
              obtain ⟨a3, c3, e1, _, _, hr3⟩ := U5.out.grown GZ.out
              injection e1 with e1 e2 e3
              subst e1 e3
              clear e2
              obtain ⟨b3, o3, rfl, hx3⟩ := hr3.at_ (k := q) (by rw [RA.out.1]; exact hq8)
              rw [hqe] at hx2
              have N : Hid ((Sp.msum l' G m + l'.getD m 0 * G.getD m 0) % 31 = Sp.msum l' G (m + 1)) := Lib.hid rfl
              have DK := Sp.msum_ok l' G m
              have hxo := getD_ok LR.out.2 m
              have hyo := getD_ok RA.out.2 q
              rw [hge] at N
              obtain ⟨d, hd⟩ : ∃ d, Sp.msum l' G m = d := ⟨_, rfl⟩
              obtain ⟨xx, hxe⟩ : ∃ x, l'.getD m 0 = x := ⟨_, rfl⟩
              obtain ⟨y, hye⟩ : ∃ y, a.getD q 0 = y := ⟨_, rfl⟩
              rw [hxe] at hx1 hxo
              rw [hye] at hx3 hyo
              rw [hd] at DK
              rw [hd, hxe, hye] at N
              rw [hd]
              have ⟨d0, d1⟩ := Fld.ok_iff.1 DK
              have ⟨p0, p1⟩ := Fld.mul_le hxo hyo
              have w1 : IntKind.i64.wrap (xx * y) = xx * y := IntWalk.i64_in _ (by omega)
              have w2 : IntKind.i64.wrap (d + xx * y) = d + xx * y := IntWalk.i64_in _ (by omega)
              clear hxe hye hd hxo hyo DK hr1 hr2 hr3 hqe hge
              go_wp2_with fail
              go_quiet (fail)
              clear w1 w2
              go_wp2_with fail
              go_roundw
              case rel => exact ⟨m + 1, by omega, by go_num, by rw [← N.out], grown_draws GZ.out _⟩
              case measure => simp [intOf]; omega
            · obtain rfl : m = 4 := by omega
              have G6 := Lib.hid (grown_trans G5.out GZ.out)
              have O6 := Lib.hid (O5.out.still GZ.out)
              have s6 : wo.heap.size ≤ wr.heap.size := G6.out.size
              obtain ⟨d, hd⟩ : ∃ d, Sp.msum l' G 4 = d := ⟨_, rfl⟩
              rw [hd] at NX' ⊢
              clear hd O5 G5 GZ OB
              go_wp2_with (first
                | (at_builtin; refine wpList_append_own _ rfl _ _ 23 rfl wo.heap.size 3 j0 (.int .i64 0) 1 8 Try.underlying23 J1.out J2.out J3.out J4.out rfl (by decide) _ _ _ rfl (World.ownsRow.alloc O6.out _) ⟨wr.heap.size, 0, none⟩ 1 1 [.int .i64 d] rfl rfl (one_cell (g := 0)) (vals_one [d]) ?e3 ?e4 ?e5 ?_))
              case e3 => unfold maxLen; omega
              case e4 => omega
              case e5 => simp; omega
              intro o' w7 ho hg _
              have O7 := Lib.hid (own_snoc (l := D) (x := d) ho rfl rfl)
              have G7 : Hid (wo.grownBy w7 none) := Lib.hid (grown_own (grown_alloc G6.out _) hg (fun j hj => (World.ownsRow.lt O6.out j hj).1))
              clear ho hg
              go_wp2_with fail
              go_roundw
              case rel => exact ⟨n + 1, by omega, by go_num, G7.out, _, O7.out, NX'.out⟩
              case measure => simp [intOf]; omega
        · obtain rfl : n = 4 := by omega
          have DN := Lib.hid (P4.out D PA.out)
          go_wp2_with fail
          go_ret
          exact ⟨D, DN.out, _, rfl, grown_trans GR.out G1.out, OD.out.lower GR.out.size⟩
set_option maxHeartbeats 4000000 in
set_option maxRecDepth 20000 in
theorem specRead {k : Nat} (hk : k = 1 ∨ k = 2) (u v : Value) (a : List Int) (f : List Bool) (w : World) (hu : Sl w u a) (hv : Bl w v f) (ha : shOk a = true) (hf : f.length = 8) : Calls Try.prog 96 #[.int .i64 k, u, v] w (NewRead k a f w) := by
  have U := Lib.hid hu
  have V := Lib.hid hv
  have HK := Lib.hid hk
  have HA := Lib.hid ha
  have HF := Lib.hid hf
  have QE := Lib.hid (bearsM_yes hk hf)
  have FI : Hid (Sp.Fit k f a ↔ FitM k a f) := Lib.hid (by
    unfold FitM
    have kk : ((k : Int) = 1 ∨ (k : Int) = 2) := by omega
    simp [kk, ha, hf])
  clear hu hv hk ha hf
  go_enter Try.func96, Try.ntmps96
  go_wp2_with fail
  refine (specBears k v f _ V.out).mono ?_
  rintro e w1 ⟨rfl, hg⟩
  have G1 := Lib.hid hg
  have U1 := Lib.hid (U.out.grown hg)
  have V1 := Lib.hid (V.out.grown hg)
  clear hg
  cases hq : bearsM k f with
  | false =>
    have NO : Hid (ReadT k a f [] false) := Lib.hid (.inr ⟨rfl, rfl, fun h => by rw [h.2] at hq; cases hq⟩)
    clear hq
    go_wp2_with fail
    go_ret2
    exact ⟨[], false, _, rfl, grown_alloc G1.out _, (Own.made w1 w1.heap.size [] (Nat.le_refl _) (by simp)).lower G1.out.size, NO.out⟩
  | true =>
    have BT := Lib.hid hq
    have SB : Hid (Sp.bears k f = true) := Lib.hid (by rw [← QE.out]; exact hq)
    clear hq
    go_wp2_with fail
    refine (specL4Fits HK.out u v a f _ U1.out V1.out (shOk_row.1 HA.out) HF.out).mono ?_
    rintro e w2 ⟨q, rfl, hq, hg⟩
    have G2 := Lib.hid (grown_trans G1.out hg)
    have U2 := Lib.hid (U1.out.grown hg)
    have V2 := Lib.hid (V1.out.grown hg)
    have QF := Lib.hid (hq.trans FI.out)
    clear hg hq U1 V1 G1
    cases q with
    | false =>
      have NO : Hid (ReadT k a f [] false) := Lib.hid (.inr ⟨rfl, rfl, fun h => by have := QF.out.2 h.1; cases this⟩)
      go_wp2_with fail
      go_ret2
      exact ⟨[], false, _, rfl, grown_alloc G2.out _, (Own.made w2 w2.heap.size [] (Nat.le_refl _) (by simp)).lower G2.out.size, NO.out⟩
    | true =>
      have FM := Lib.hid (QF.out.1 rfl)
      go_wp2_with fail
      refine (specFrom HK.out v f _ V2.out HF.out).mono ?_
      rintro e w3 ⟨x, rfl, hg, ho⟩
      have G3 := Lib.hid (grown_trans G2.out hg)
      have U3 := Lib.hid (U2.out.grown hg)
      have X3 := Lib.hid ho.sl
      clear hg ho U2 V2 G2
      go_wp2_with fail
      refine (specData HK.out u x a f _ U3.out (shOk_row.1 HA.out) X3.out SB.out).mono ?_
      rintro e w4 ⟨D, hD, y, rfl, hg, ho⟩
      have G4 := Lib.hid (grown_trans G3.out hg)
      have O4 := Lib.hid (ho.lower G3.out.size)
      have DD := Lib.hid hD
      clear hg ho hD
      go_wp2_with fail
      go_ret2
      exact ⟨D, true, _, rfl, G4.out, O4.out, .inl ⟨rfl, FM.out, BT.out, DD.out⟩⟩
end Go.Proofs.Ythglkgicckodaaa
