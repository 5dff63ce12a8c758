/-
  The contract of a new stripe in the model.
  Conditions: none.
-/
import Derived.Test.YtoflijiinkmjoaaStripeSpec4
import Derived.Test.YtoflijiinkmjoaaG4
namespace Go.Proofs.Ytoflijiinkmjoaa
open Go.RowKit Go.Shelf
set_option linter.unusedVariables false
set_option linter.unusedSimpArgs false
attribute [local go_sem] Oper.semAt_some

theorem own_lt {w : World} {base : Nat} {p : Item} (h : p.Own w base) {b : Nat} (hb : p.v.ownBlock = some b) : b < w.heap.size := (World.ownsRow.lt h b hb).2
/-- the middle one of three rows is appended to. -/
theorem own3_mid {w w' : World} {base : Nat} {p r : Item} {o o' : Value} {l l' : List Int} (h : OwnAll w base [p, row1 o l, r]) (hg : w.grownBy w' o.ownBlock) (ho : Own w' base o' l') (hl : o'.ownBlock = o.ownBlock ∨ o'.ownBlock = some w.heap.size) : OwnAll w' base [p, row1 o' l', r] := by
  obtain ⟨h0, h1, h2, ab, ac, bc⟩ := own3 h
  have kp : p.Own w' base := World.ownsRow.kept h0 hg (by rcases ab with e | e; exact .inl e; exact .inr e)
  have kr : r.Own w' base := World.ownsRow.kept h2 hg (by rcases bc.symm with e | e; exact .inl e; exact .inr e)
  have far : ∀ q : Item, q.Own w base → q.Apart (row1 o l) → q.Apart (row1 o' l') := fun q hq ha => by
    rcases hl with e | e
    · rcases ha with h | h
      · exact .inl h
      · right; show q.v.ownBlock ≠ o'.ownBlock; rw [e]; exact h
    · cases hb : q.v.ownBlock with
      | none => exact .inl hb
      | some b =>
        right
        show q.v.ownBlock ≠ o'.ownBlock
        rw [e, hb]
        intro e2
        injection e2 with e2
        have := own_lt hq hb
        omega
  exact mk3 kp (row1_own.2 ho) kr (far p h0 ab) ac (far r h2 bc.symm).symm

theorem builtNew (k : Int) (a1 a3 : Option Addr) (n1 n3 c1 c3 : Nat) :
    Try.prog.built 26 [(0, .int .i64 k), (1, .slice a1 n1 c1), (3, .slice a3 n3 c3)] = some #[.int .i64 k, .slice a1 n1 c1, .slice none 0 0, .slice a3 n3 c3] := by kernel_rfl

theorem wpBuildAt {P : Program} {ops : Array Oper} {rest : List Oper} {o : Oper} {a : Act} {w : World} {Q : Exit → Act → World → Prop} (hg : o.guard = none) (t : TypeId) (parts : Array (Nat × Operand)) (ho : o.op = .build t parts) (us : List (Nat × Value)) (cells : Array Value)
    (hp : parts.toList.map (fun (i, x) => (i, a.eval x)) = us) (hf : P.built t us = some cells) (h : wpList P ops Q rest (a.put o.dst (.agg cells)) w) : wpList P ops Q (o :: rest) a w := by
  have e : (parts.map fun (i, x) => (i, a.eval x)).toList = us := by rw [← hp]; simp
  refine wpList_build hg t parts ho (by rw [e, hf]; rfl) ?_
  rw [e, hf]
  exact h
/-- the loop of a new stripe. -/
structure InNew (base s gz : Nat) (k n : Int) (u y o : Value) (A : List Int) (m : Nat) (wr : World) : Prop where
  blk : Blk wr s 26 [.int .i64 k, u, o, y]
  own : OwnAll wr base [row1 u A, row1 o (List.replicate m n), bool1 y (List.replicate 8 true)]
  out : OutC wr gz
theorem bits255 : Sp.bits 255 = List.replicate 8 true := by decide
theorem rep_snoc (n : Int) (m : Nat) : List.replicate m n ++ [n] = List.replicate (m + 1) n := by rw [List.replicate_succ']
theorem outC_put {w : World} {gz : Nat} (h : OutC w gz) {p : Addr} (hp : gz ≠ p.block) (v : Value) : OutC (w.setCell p v) gz := by
  obtain ⟨old, h1, h2⟩ := h
  exact ⟨old, (Below.heap_setCell _ _ _ _ hp).trans h1, h2⟩
theorem outC_kept {w w' : World} {gz : Nat} {r : Option Nat} (h : OutC w gz) (hg : w.grownBy w' r) (hr : some gz ≠ r) : OutC w' gz := by
  obtain ⟨old, h1, h2⟩ := h
  exact ⟨old, (hg.block gz (Array.getElem?_eq_some_iff.1 h1).1 hr).trans h1, h2⟩
theorem outC_lt {w : World} {gz : Nat} (h : OutC w gz) : gz < w.heap.size := by obtain ⟨old, h1, _⟩ := h; exact (Array.getElem?_eq_some_iff.1 h1).1
/-- a block of a stripe is no row's. -/
theorem item_ne {w : World} {base s : Nat} {p : Item} {cs : List Value} (h : p.Own w base) (hs : Blk w s 26 cs) (he : p.e ≠ 26) : some s ≠ p.v.ownBlock := by
  rcases h.2 with ⟨h0, _⟩ | ⟨g, cap, cur, h0, _, hb, _⟩
  · rw [h0]; simp [Value.ownBlock]
  · rw [h0]
    intro e
    injection e with e
    subst e
    have := hb.symm.trans hs
    injection this with this
    injection this with _ this
    exact he this
theorem item_neC {w : World} {base gz : Nat} {p : Item} (h : p.Own w base) (hs : OutC w gz) (he : p.e ≠ 26) : some gz ≠ p.v.ownBlock := by
  obtain ⟨old, h1, _⟩ := hs
  rcases h.2 with ⟨h0, _⟩ | ⟨g, cap, cur, h0, _, hb, _⟩
  · rw [h0]; simp [Value.ownBlock]
  · rw [h0]
    intro e
    injection e with e
    subst e
    have := hb.symm.trans h1
    injection this with this
    injection this with _ this
    exact he this

set_option maxHeartbeats 8000000 in
set_option maxRecDepth 20000 in
theorem specL21New {k : Nat} (hk : k = 1 ∨ k = 2) (u : Value) (d : List Int) (n : Int) (w : World) (hu : Sl w u d) (hd : Vec.ok d = true) : Calls Try.prog 74 #[.int .i64 k, u, .int .i64 n] w (NewSt k (allK k d 8) (List.replicate 8 n) (List.replicate 8 true) w) := by
  obtain ⟨i0, hi, hz0, hz1, hz2⟩ := info_parts infoInt
  have I1 := Lib.hid hi
  have I2 := Lib.hid hz0
  have I3 := Lib.hid hz1
  have I4 := Lib.hid hz2
  clear hi hz0 hz1 hz2
  have U := Lib.hid hu
  have LA := Lib.hid (allK_len k d 8)
  have SA := Lib.hid (fun (W : World) (h : w.grownBy W none) => specL4All hk u d W (U.out.grown h) hd)
  obtain ⟨au, cu, eu, -, -, -⟩ := hu
  subst eu
  obtain ⟨lu, hlu⟩ : ∃ l, l = d.length := ⟨_, rfl⟩
  rw [← hlu] at U SA ⊢
  have Z0 : Hid (OutC (w.alloc (.cells #[.int .i64 0, .slice none 0 0, .slice none 0 0, .slice none 0 0] 26)) w.heap.size) := Lib.hid ⟨_, heap_alloc_new _ _, rfl⟩
  have G0 := Lib.hid (World.grownBy_alloc w (.cells #[.int .i64 0, .slice none 0 0, .slice none 0 0, .slice none 0 0] 26) none)
  have LW : w.heap.size < (w.alloc (.cells #[.int .i64 0, .slice none 0 0, .slice none 0 0, .slice none 0 0] 26)).heap.size := by simp
  clear hk hd hlu
  generalize allK k d 8 = A at *
  go_enter Try.func74, Try.ntmps74
  go_upto_region 1 with fail
  generalize w.alloc (.cells #[.int .i64 0, .slice none 0 0, .slice none 0 0, .slice none 0 0] 26) = W0 at *
  obtain ⟨gz, hgz⟩ : ∃ g, g = w.heap.size := ⟨_, rfl⟩
  rw [← hgz] at Z0 ⊢
  have LG : w.heap.size ≤ gz := by omega
  have LW' : gz < W0.heap.size := by omega
  clear hgz LW
  go_wp2_with fail
  refine (SA.out _ G0.out).mono ?_
  rintro e w1 ⟨p, rfl, hg, ho⟩
  have G1 := Lib.hid (grown_trans G0.out hg)
  have Z1 := Lib.hid (outC_kept Z0.out hg (by simp))
  have O1 := Lib.hid (own_one (row1_own.2 ho))
  obtain ⟨ap, cp, ep, -, -, -⟩ := ho.sl
  rw [LA.out] at ep
  subst ep
  have LB1 := hg.size
  clear hg ho G0 Z0
  go_wp2_with fail
  refine (specL4Set 255 (by omega) _).mono ?_
  rintro e w2 ⟨q, rfl, hg, ho⟩
  rw [bits255] at ho
  have G2 := Lib.hid (grown_trans G1.out hg)
  have Z2 := Lib.hid (outC_kept Z1.out hg (by simp))
  have O2 := Lib.hid (O1.out.join hg (own_one (bool1_own.2 ho)) LB1)
  obtain ⟨aq, cq, eq, -, -, -⟩ := ho.bl
  have e8 : (List.replicate 8 true).length = 8 := rfl
  rw [e8] at eq
  subst eq
  have LB2 := hg.size
  clear hg ho G1 Z1 O1 e8
  rename_i hK
  refine hK _ _ ?_
  clear hK
  refine wpBuildAt rfl _ _ rfl _ _ (by rfl) (builtNew k ap aq 8 8 cp cq) ?_
  simp only [Act.put, List.setIfInBounds_toArray, List.set_cons_succ, List.set_cons_zero]
  go_upto_region 2 with fail
  have ga := World.grownBy_alloc w2 (.cells #[.int .i64 k, .slice ap 8 cp, .slice none 0 0, .slice aq 8 cq] 26) none
  have G3 := Lib.hid (grown_trans G2.out ga)
  have N3 : Hid (InNew W0.heap.size w2.heap.size gz k n (.slice ap 8 cp) (.slice aq 8 cq) (.slice none 0 0) A 0 (w2.alloc (.cells #[.int .i64 k, .slice ap 8 cp, .slice none 0 0, .slice aq 8 cq] 26))) := Lib.hid (by
    refine ⟨heap_alloc_new _ _, ?_, outC_kept Z2.out ga (by simp)⟩
    obtain ⟨h0, h1, ab⟩ : (bool1 (.slice aq 8 cq) (List.replicate 8 true)).Own w2 W0.heap.size ∧ (row1 (.slice ap 8 cp) A).Own w2 W0.heap.size ∧ (bool1 (.slice aq 8 cq) (List.replicate 8 true)).Apart (row1 (.slice ap 8 cp) A) := by
      have := O2.out
      simp only [List.cons_append, List.nil_append] at this
      have h2 := this.2
      simp only [List.pairwise_cons, List.mem_cons, List.not_mem_nil, or_false, forall_eq] at h2
      exact ⟨this.1 _ (by simp), this.1 _ (by simp), h2.1⟩
    exact mk3 (h1.still ga) (row1_own.2 (Own.none_ _ _)) (h0.still ga) (.inr (by
      rcases h1.2 with ⟨h, _⟩ | ⟨g, c, cur, h, _⟩
      · have h' : Value.slice ap 8 cp = .slice none 0 0 := h
        injection h' with _ h' _
        cases h'
      · show (row1 (.slice ap 8 cp) A).v.ownBlock ≠ none
        rw [h]; simp [Value.ownBlock])) ab.symm (.inl rfl))
  have SW : gz < w2.heap.size := by omega
  clear ga G2 O2 Z2
  generalize w2.alloc (.cells #[.int .i64 k, .slice ap 8 cp, .slice none 0 0, .slice aq 8 cq] 26) = w3 at *
  generalize w2.heap.size = s at *
  go_wp2_with fail
  go_loopw [8] (fun i wr => ∃ (m : Nat) (o : Value), m ≤ 8 ∧ i = .int .i64 m ∧ w.grownBy wr none ∧ W0.heap.size ≤ wr.heap.size ∧ InNew W0.heap.size s gz k n (.slice ap 8 cp) (.slice aq 8 cq) o A m wr) (fun i _ => 8 - (intOf i).toNat)
  case atStart => exact ⟨0, _, by omega, rfl, G3.out, by have := N3.out.blk; have := (Array.getElem?_eq_some_iff.1 this).1; omega, N3.out⟩
  case round =>
    obtain ⟨m, o, hm, rfl, hg, hsz, hN⟩ := hrel
    have G := Lib.hid hg
    have N := Lib.hid hN
    clear hg hN G3 N3
    by_cases hlt : m < 8
    · have hlt' : (m : Int) < 8 := by omega
      obtain ⟨h0, h1, h2, ab, ac, bc⟩ := own3 N.out.own
      have OW : Hid (wr.ownsRow W0.heap.size 3 1 o m (vals (List.replicate m n))) := Lib.hid (by have := row1_own.1 h1; unfold Own at this; rw [List.length_replicate] at this; exact this)
      have NB : Hid (some s ≠ o.ownBlock ∧ some gz ≠ o.ownBlock) := Lib.hid ⟨item_ne h1 N.out.blk (show (3 : Nat) ≠ 26 by decide), item_neC h1 N.out.out (show (3 : Nat) ≠ 26 by decide)⟩
      obtain ⟨ao, co, eo, -, -, -⟩ := (row1_own.1 h1).sl
      rw [List.length_replicate] at eo
      subst eo
      have hl2 : (vals (List.replicate m n)).length = m := by rw [vals_length, List.length_replicate]
      have k2 := N.out.blk.cell (i := 2) rfl
      have ON := Lib.hid N.out.own
      have BN := Lib.hid N.out.blk
      have ZN := Lib.hid N.out.out
      clear h0 h1 h2 ab ac bc N
      go_wp2_with (first
          | (at_builtin; refine wpList_append_own_at _ rfl _ _ 23 rfl W0.heap.size 3 i0 (.int .i64 0) 1 8 Try.underlying23 I1.out I2.out I3.out I4.out rfl (by decide) _ _ _ rfl (World.ownsRow.alloc OW.out _) ⟨wr.heap.size, 0, none⟩ 1 1 [.int .i64 n] rfl rfl (one_cell (g := 0)) (vals_one [n]) ?c3 ?c4 ?c5 ?_))
      case c3 => unfold maxLen; omega
      case c4 => omega
      case c5 => simp; omega
      intro o' w5 ho2 hg2 _ hloc
      have ga := World.grownBy_alloc wr (.cells #[.int .i64 n] 3) none
      have OA := ON.out.still ga
      have O5 := Lib.hid (own3_mid OA hg2 (own_len (n := m + 1) (l := List.replicate (m + 1) n) (by rw [← rep_snoc, ← vals_append]; exact ho2) (by simp)) (by rw [World.size_alloc]; exact hloc))
      have B5 := Lib.hid ((BN.out.kept ga (by simp)).kept hg2 NB.out.1)
      have Z5 := Lib.hid (outC_kept (outC_kept ZN.out ga (by simp)) hg2 NB.out.2)
      have G5 : Hid (w.grownBy w5 none) := Lib.hid (grown_own (grown_trans G.out ga) hg2 (fun j hj => by have := (World.ownsRow.lt OW.out j hj).1; omega))
      have S5 : W0.heap.size ≤ w5.heap.size := by have := hg2.size; simp at this; omega
      have k2' := B5.out.cell (i := 2) rfl
      have f2 := B5.out.frozen 2
      have B6 : Hid (Blk (w5.setCell ⟨s, 2, none⟩ o') s 26 [.int .i64 k, .slice ap 8 cp, o', .slice aq 8 cq]) := Lib.hid (B5.out.put 2 o')
      have G6 := Lib.hid (grown_set G5.out (p := ⟨s, 2, none⟩) (by show w.heap.size ≤ s; omega) o')
      have Z6 := Lib.hid (outC_put Z5.out (p := ⟨s, 2, none⟩) (by show gz ≠ s; omega) o')
      have O6 : Hid (OwnAll (w5.setCell ⟨s, 2, none⟩ o') W0.heap.size [row1 (.slice ap 8 cp) A, row1 o' (List.replicate (m + 1) n), bool1 (.slice aq 8 cq) (List.replicate 8 true)]) := Lib.hid (by
        obtain ⟨h0, h1, h2, ab, ac, bc⟩ := own3 O5.out
        have hgc := grownCell w5 ⟨s, 2, none⟩ o'
        have kp : ∀ q : Item, q.Own w5 W0.heap.size → q.e ≠ 26 → q.Own (w5.setCell ⟨s, 2, none⟩ o') W0.heap.size := fun q hq he => World.ownsRow.kept hq hgc (.inr (fun e => item_ne hq B5.out he e.symm))
        exact mk3 (kp _ h0 (show (3 : Nat) ≠ 26 by decide)) (kp _ h1 (show (3 : Nat) ≠ 26 by decide)) (kp _ h2 (show (4 : Nat) ≠ 26 by decide)) ab ac bc)
      obtain ⟨ao', co', eo', -, -, -⟩ := (row1_own.1 (own3 O5.out).2.1).sl
      rw [List.length_replicate] at eo'
      subst eo'
      clear ho2 hg2 hloc ga OA OW
      go_wp2_with fail
      go_roundw
      case rel => exact ⟨m + 1, _, by omega, by go_num, G6.out, by simpa using S5, ⟨B6.out, O6.out, Z6.out⟩⟩
      case measure => simp [intOf]; omega
    · obtain rfl : m = 8 := by omega
      have N' : Hid (StOwn wr W0.heap.size (.slice ap 8 cp) o (.slice aq 8 cq) A (List.replicate 8 n) (List.replicate 8 true)) := Lib.hid N.out.own
      obtain ⟨ao, co, eo, -, -, -⟩ := N'.out.v
      have e8 : (List.replicate 8 n).length = 8 := rfl
      rw [e8] at eo
      subst eo
      have B := Lib.hid N.out.blk
      have LE : w.heap.size ≤ W0.heap.size := by omega
      go_upto_region 6 with fail
      apply wp_region_lit
      refine wpList_load_row rfl _ _ rfl s rfl _ _ _ _ B.out Try.underlying26 rfl infoPub ?_
      simp only [Act.put, List.setIfInBounds_toArray, List.set_cons_succ, List.set_cons_zero]
      obtain ⟨old, ho, hz⟩ := N.out.out
      refine wpList_store_row rfl _ _ _ rfl gz #[.int .i64 k, .slice ap 8 cp, .slice ao 8 co, .slice aq 8 cq] rfl rfl _ _ ho infoPub (by rw [hz]; rfl) (by kernel_rfl) ?_
      have B9 : Hid ((wr.setRow gz #[.int .i64 k, .slice ap 8 cp, .slice ao 8 co, .slice aq 8 cq]).heap[gz]? = some (.cells #[.int .i64 k, .slice ap 8 cp, .slice ao 8 co, .slice aq 8 cq] 26 (0, 0))) := Lib.hid (setRow_heap wr gz old _ _ (0, 0) ho)
      have gr := grownRow ho #[.int .i64 k, .slice ap 8 cp, .slice ao 8 co, .slice aq 8 cq]
      have FIN : Hid (NewSt k A (List.replicate 8 n) (List.replicate 8 true) w (.returned (.agg #[.int .i64 k, .slice ap 8 cp, .slice ao 8 co, .slice aq 8 cq])) (wr.setRow gz #[.int .i64 k, .slice ap 8 cp, .slice ao 8 co, .slice aq 8 cq])) := Lib.hid ⟨_, _, _, rfl, grown_own G.out gr (fun i hi => by injection hi with hi; omega), (outRow N'.out gr ho).lower LE⟩
      clear ho hz gr N N' B
      generalize wr.setRow gz #[.int .i64 k, .slice ap 8 cp, .slice ao 8 co, .slice aq 8 cq] = w9 at *
      go_wp2_with fail
      refine bodyPost_ret (v := .agg #[.int .i64 k, .slice ap 8 cp, .slice ao 8 co, .slice aq 8 cq]) ?_ rfl FIN.out
      exact results_cell_row Try.results74 _ _ gz _ _ _ _ rfl B9.out Try.underlying26 rfl infoPub
end Go.Proofs.Ytoflijiinkmjoaa
