/-
  What this claim wants of the texts of earlier chapters.
  Conditions: none.
-/
import Derived.Test.YthglkgicckodaaaZP1
namespace Go.Proofs.Ythglkgicckodaaa
open Go.RowKit Go.Shelf
set_option linter.unusedVariables false
set_option linter.unusedSimpArgs false
attribute [local go_sem] Oper.semAt_some
def PlanOut (k lost : Nat) (f : List Bool) (w : World) (e : Ending) (w' : World) : Prop :=
  w.grownBy w' none ∧ ((∃ S c u v, Sp.planM k lost f = some S ∧ Sp.PlanBy k lost S c ∧ e = .returned (.tuple #[.agg #[.int .i64 lost, u, v], .bool true]) ∧ TwoOwn w' w.heap.size u v (Sp.ints S) c) ∨
    (Sp.planM k lost f = none ∧ e = .returned (.tuple #[.agg #[.int .i64 0, .slice none 0 0, .slice none 0 0], .bool false])))
def Times (k lost : Nat) (x : List Bool) (w : World) (e : Ending) (w' : World) : Prop :=
  ∃ (c : List Int) (b : Bool), c.length = 8 ∧ e = .returned (.tuple #[.agg (vals c).toArray, .bool b]) ∧ b = Sp.mk k lost x ∧ (b = true → Sp.IsBy (Sp.padd k x) (Sp.crow k lost) c) ∧ w.grownBy w' none
theorem byTimes {k lost : Nat} (hk : k = 1 ∨ k = 2) (hl : lost < 8) {x : List Bool} {b g : Nat} {q : Nat → Option Addr} {S : Sp.Cols} {pv : Value} {pn : List Nat} {w : World} (he : Ech w b g q S pv (pn.map fun (i : Nat) => (i : Int))) (hst : Sp.Stand (Sp.padd k x) 8 S pn) :
    Calls Try.prog 118 #[.pointer (some ⟨g, 0, none⟩), .agg (vals (Sp.crow k lost)).toArray] w (Times k lost x w) := by
  obtain ⟨x0, x1, x2, x3, hc, hok⟩ := crow_four hk hl
  have hst' : Sp.Stand (Sp.padd k x) (Sp.padd k x).length S pn := by rw [Sp.padd_len]; exact hst
  obtain ⟨h1, h2, h3⟩ := hst'.by (Sp.padd_row hk x) (by rw [Sp.padd_len]; exact Nat.le_refl _) (Sp.crow_row hk hl)
  rw [hc] at h1 h2 h3 ⊢
  refine (echBy b g q S pv _ x0 x1 x2 x3 w he hst.row hok).mono ?_
  obtain ⟨r, hr⟩ : ∃ r, Sp.red S 4 ([x0, x1, x2, x3] ++ Sp.none8) = r := ⟨_, rfl⟩
  rw [hr] at h1 h2 h3 ⊢
  rintro e w' ⟨hg, ⟨hneg, rfl⟩ | ⟨hpos, rfl⟩⟩
  · have RR := Sp.row_lmul h1 30
    have hs8 : ((Sp.lmul r 30).drop 4).length = 8 := by rw [List.length_drop, RR.1]
    refine ⟨_, true, hs8, rfl, ?_, fun _ => ?_, hg⟩
    · unfold Sp.mk; rw [hc]; exact (h2.2 hneg).symm
    · have := h3 hneg
      rw [Sp.padd_len, List.take_of_length_le (by rw [hs8]; exact Nat.le_refl _)] at this
      rw [hc]; exact this
  · refine ⟨[0, 0, 0, 0, 0, 0, 0, 0], false, rfl, rfl, ?_, fun h => (by cases h), hg⟩
    unfold Sp.mk
    rw [hc]
    cases hh : Sp.has (Sp.padd k x) [x0, x1, x2, x3] with
    | false => rfl
    | true => exact absurd (h2.1 hh) hpos
def marks_ (Ds : List Nat) : List Deferred := Ds.map fun D => { target := .collected D, args := #[] }
theorem leave_marks {n : Nat} {fn : Func} {tmps : Array Value} {R : Ending → World → Prop} (B : Nat) (I : World → Prop) (hI : ∀ W D, I W → B ≤ D → W.heap[D]? = some (.deferred (some [])) → I (W.putObj D (.deferred none)))
    (hR : ∀ W, I W → ∃ v, (results fn tmps).run Try.prog W = .ok v W ∧ R (.returned v) W) :
    ∀ (Ds : List Nat), Ds.Nodup → ∀ W, I W → (∀ D ∈ Ds, B ≤ D ∧ W.heap[D]? = some (.deferred (some []))) → LeavesInM Fence.wide n Try.prog fn tmps R (marks_ Ds) .returning W
  | [], _, W, h, _ => hR W h
  | D :: Ds, hn, W, h, hd => by
    have h1 := hd D (by simp)
    refine ⟨by simp, .inl ⟨D, _, rfl, run_takeDeferred h1.2, ?_⟩⟩
    have hn' := List.nodup_cons.1 hn
    refine leave_marks B I hI hR Ds hn'.2 _ (hI W D h h1.1 h1.2) fun E hE => ?_
    have hne : E ≠ D := fun e => by subst e; exact hn'.1 hE
    exact ⟨(hd E (by simp [hE])).1, by rw [World.putObj_heap_other hne]; exact (hd E (by simp [hE])).2⟩
theorem own_other {w : World} {base r : Nat} {v : Value} {l : List Int} {o : Obj} (h : Own w base v l) (hr : w.heap[r]? = some o) (hc : Obj.isCells o = false) : v.ownBlock = none ∨ v.ownBlock ≠ some r := by
  rcases h.2 with h0 | ⟨g, cap, cur, hv, hg, hb, _⟩
  · left; rw [h0.1]; rfl
  · right
    intro e
    rw [hv] at e
    injection e with e
    subst e
    rw [hr] at hb
    injection hb with hb
    subst hb
    cases hc
theorem yields_row {P : Program} {ops : Array Oper} {S : World → Prop} {o : Oper} {a : Act} (ty : TypeId) (x : Operand) (ho : o.op = .load ty x) (hw : Region.wanted o (yielded ops a.tmps) = true) (g : Nat) (hx : a.eval x = .pointer (some ⟨g, 0, none⟩)) (t : TypeId) (cs : Array Value) (d : TypeDesc)
    (hS : ∀ W, S W → W.heap[g]? = some (.cells cs t (0, 0))) (hu : P.underlying ty = some d) (hd : (match d with | .struct _ | .array _ _ => true | _ => false) = true) (hi : (P.info? ty).map (·.size) = some cs.size) : YieldsIf P ops S o (.agg cs) a := by
  refine .inl ⟨hw, fun W hW => ?_⟩
  unfold execOp
  simp only [ho, hx, Instr.loadAt, Instr.sureAddr, Sem.run_bind, Sem.run_pure, Result.andThen_ok, run_loadVar_row W g t ty cs (0, 0) d (hS W hW) hu hd hi]
theorem ready_one {P : Program} {md : Region.Mode} {ops : Array Oper} {Q : Exit → Act → World → Prop} {S : World → Prop} {fuel i : Nat} {listed : Array Bool} {a : Act} {w : World} {o : Oper} (hr : Region.ready md ops listed = [i]) (ho : ops[i]? = some o) (hw : Region.wanted o (yielded ops a.tmps) = true)
    (h : o.wp P a w (fun a' w' => S w' ∧ wpAnyH P md ops Q S fuel (listed.setIfInBounds i true) a' w') Q) : wpAnyH P md ops Q S (fuel + 1) listed a w :=
  wpAnyH_all hr (by simp) (fun j hj => by
    obtain rfl : j = i := by simpa using hj
    unfold wpOp
    rw [ho]
    simp only [hw, if_true]
    exact .inl h)
theorem ready_two {P : Program} {md : Region.Mode} {ops : Array Oper} {Q : Exit → Act → World → Prop} {S : World → Prop} {fuel i k : Nat} {listed : Array Bool} {a : Act} {w : World} {o p : Oper} (hr : Region.ready md ops listed = [i, k]) (ho : ops[i]? = some o) (hp : ops[k]? = some p) (hw : Region.wanted o (yielded ops a.tmps) = true) (hv : Region.wanted p (yielded ops a.tmps) = true)
    (h : o.wp P a w (fun a' w' => S w' ∧ wpAnyH P md ops Q S fuel (listed.setIfInBounds i true) a' w') Q) (h' : p.wp P a w (fun a' w' => S w' ∧ wpAnyH P md ops Q S fuel (listed.setIfInBounds k true) a' w') Q) : wpAnyH P md ops Q S (fuel + 1) listed a w :=
  wpAnyH_all hr (by simp) (fun j hj => by
    rcases (by simpa using hj : j = i ∨ j = k) with rfl | rfl
    · unfold wpOp
      rw [ho]
      simp only [hw, if_true]
      exact .inl h
    · unfold wpOp
      rw [hp]
      simp only [hv, if_true]
      exact .inl h')
theorem call_wp {P : Program} {o : Oper} {a : Act} {w : World} {K : Act → World → Prop} {Q : Exit → Act → World → Prop} {f : FuncId} {args : Array Value} (hr : (execOp a.eval o).run P w = .ok (.enter f args) w) (h : Calls P f args w fun e w' => ∃ v, e = .returned v ∧ K (a.put o.dst v) w') : o.wp P a w K Q := by
  unfold Oper.wp
  rw [hr]
  exact h.mono fun e w' ⟨v, he, hk⟩ => by subst he; exact hk
theorem value_wp {P : Program} {o : Oper} {a : Act} {w w' : World} {K : Act → World → Prop} {Q : Exit → Act → World → Prop} {v : Value} (hr : (execOp a.eval o).run P w = .ok (.value v) w') (h : K (a.put o.dst v) w') : o.wp P a w K Q := by
  unfold Oper.wp
  rw [hr]
  exact h
theorem take_ {P : Program} {md : Region.Mode} {ops : Array Oper} {Q : Exit → Act → World → Prop} {S : World → Prop} (i : Nat) (d : Option Tmp) (v : Value) {oi : Oper} {fuel : Nat} {listed : Array Bool} {a : Act} {w : World} (hi : ops[i]? = some oi) (hd : oi.dst = d)
    (hs : Region.noSelect ops = true) (hf : Region.free md ops listed i = true) (hr : (Region.ready md ops listed).contains i = true)
    (hQ : ∀ c a w, Q (.panic c) (a.put d v) w → Q (.panic c) a w) (hy : YieldsIf P ops S oi v a) (hS : S w)
    (h : wpAnyH P md ops Q S fuel (listed.setIfInBounds i true) (a.put d v) w) : wpAnyH P md ops Q S (fuel + 1) listed a w := by
  subst hd
  exact wpAnyH_take hi hs hf hr hQ hy hS h
theorem call_at {P : Program} {o : Oper} {a : Act} {w : World} {K : Act → World → Prop} {Q : Exit → Act → World → Prop} (d : Option Tmp) {f : FuncId} {args : Array Value} (hd : o.dst = d) (hr : (execOp a.eval o).run P w = .ok (.enter f args) w) (h : Calls P f args w fun e w' => ∃ v, e = .returned v ∧ K (a.put d v) w') : o.wp P a w K Q := by
  subst hd
  exact call_wp hr h
theorem value_at {P : Program} {o : Oper} {a : Act} {w : World} {K : Act → World → Prop} {Q : Exit → Act → World → Prop} (d : Option Tmp) (v : Value) (w' : World) (hd : o.dst = d) (hr : (execOp a.eval o).run P w = .ok (.value v) w') (h : K (a.put d v) w') : o.wp P a w K Q := by
  subst hd
  exact value_wp hr h
theorem store_at {P : Program} {o : Oper} {a : Act} {w : World} {K : Act → World → Prop} {Q : Exit → Act → World → Prop} (d : Option Tmp) (ty : TypeId) (x y : Operand) (ho : o.op = .store ty x y) (hd : o.dst = d)
    (g : Nat) (cells : Array Value) (hx : a.eval x = .pointer (some ⟨g, 0, none⟩)) (hy : a.eval y = .agg cells)
    (t : TypeId) (old : Array Value) (hg : w.heap[g]? = some (.cells old t (0, 0))) (hi : (P.info? ty).map (·.size) = some cells.size)
    (hold : old.size = cells.size) (h1 : cells.all (·.oneCell') = true)
    (h : K (a.put d undef) (w.setRow g cells)) : o.wp P a w K Q := by
  subst hd
  exact wp_store_row ty x y ho g cells hx hy t old hg hi hold h1 h
theorem grown_setRow {w : World} {g : Nat} {t : TypeId} {old : Array Value} (h : w.heap[g]? = some (.cells old t (0, 0))) (cs : Array Value) : w.grownBy (w.setRow g cs) (some g) :=
  ⟨rfl, rfl, rfl, by simp, fun i hi hne => setRow_other w g i cs (fun e => hne (by rw [e]))⟩
theorem arr_row {w : World} {g : Nat} {t : TypeId} {old : Array Value} {c : List Int} (h : w.heap[g]? = some (.cells old t (0, 0))) : Arr (w.setRow g (vals c).toArray) g t c := setRow_heap w g old _ t (0, 0) h
structure Got (k lost : Nat) (w : World) (Ds : List Nat) (B bp bb : Nat) (pre : List Fl8) (W : World) : Prop where
  grown : w.grownBy W none
  marks : ∀ D ∈ Ds, W.heap[D]? = some (.deferred (some []))
  is : ∃ pre' x c u v, pre = pre' ++ [x] ∧ (∀ y ∈ pre', Sp.mk k lost y.1 = false) ∧ Sp.mk k lost x.1 = true ∧ Sp.IsBy (Sp.padd k x.1) (Sp.crow k lost) c ∧
    Blk W bp 110 [.int .i64 lost, u, v] ∧ Blk W bb 4 [.bool true] ∧ TwoOwn W B u v (Sp.ints (Sp.taken c 8)) (Sp.nums c (Sp.taken c 8))
theorem kept_low {W W' : World} {D : Nat} {o : Obj} {row : Option Nat} (h : W.heap[D]? = some o) (hg : W.grownBy W' row) (hr : row ≠ some D) : W'.heap[D]? = some o :=
  (hg.block D (Array.getElem?_eq_some_iff.1 h).1 (fun e => hr e.symm)).trans h
theorem Got.kept {k lost : Nat} {w : World} {Ds : List Nat} {B bp bb : Nat} {pre : List Fl8} {W W' : World} {row : Option Nat} (h : Got k lost w Ds B bp bb pre W) (hg : W.grownBy W' row) (hlow : ∀ r, row = some r → w.heap.size ≤ r)
    (hrow : ∀ r, row = some r → ∃ o : Obj, W.heap[r]? = some o ∧ o.isCells = false) (hD : ∀ D ∈ Ds, row ≠ some D) (hp : row ≠ some bp) (hb : row ≠ some bb) : Got k lost w Ds B bp bb pre W' := by
  obtain ⟨pre', x, c, u, v, h1, h2, h3, h4, h5, h6, h7⟩ := h.is
  have key : ∀ {z : Value} {l : List Int}, Own W B z l → Own W' B z l := fun {z l} ho => by
    cases hq : row with
    | none => subst hq; exact ho.still hg
    | some r =>
      subst hq
      obtain ⟨o, ho', hc⟩ := hrow r rfl
      exact ho.kept hg (own_other ho ho' hc)
  exact ⟨grown_own h.grown hg hlow, fun D hd => kept_low (h.marks D hd) hg (hD D hd), pre', x, c, u, v, h1, h2, h3, h4, h5.kept hg (fun e => hp e.symm), h6.kept hg (fun e => hb e.symm), key h7.1, key h7.2.1, h7.2.2⟩
theorem planResults {tmps : Array Value} {bp bb : Nat} (h6 : tmps[6]?.getD undef = .pointer (some ⟨bp, 0, none⟩)) (h7 : tmps[7]?.getD undef = .pointer (some ⟨bb, 0, none⟩)) {W : World} {y u v : Value} {b : Bool} (hp : Blk W bp 110 [y, u, v]) (hb : Blk W bb 4 [.bool b]) :
    (results Try.f104 tmps).run Try.prog W = .ok (.tuple #[.agg #[y, u, v], .bool b]) W := by
  have h1 := run_loadVar_row (P := Try.prog) W bp _ 110 _ (0, 0) _ hp Try.underlying110 rfl (by kernel_rfl)
  have hc := hb.cell (i := 0) rfl
  have h2 : (loadVar 4 ⟨bb, 0, none⟩).run Try.prog W = .ok (.bool b) W := by simp [go_sem, hc]
  simp [results, Try.results104, h6, h7, asAddr, h1, h2, Sem.run_bind, Result.andThen]
theorem find_got {k lost : Nat} {f : List Bool} {f' : Fl8} (hf' : f'.1 = f.set lost false) {n : Nat} {pre' : List Fl8} {x : Fl8} (hp : pre' ++ [x] <+: subsX f'.1 (n + 1) none8 0) (hno : ∀ y ∈ pre', Sp.mk k lost y.1 = false) (hx : Sp.mk k lost x.1 = true) : Sp.planF k lost f n = some x.1 := by
  unfold Sp.planF
  rw [← hf', ← none8_flag, ← subsX_val]
  obtain ⟨r, hr⟩ := hp
  rw [← hr, List.map_append, List.map_append, List.find?_append, List.find?_append]
  have h1 : (pre'.map Subtype.val).find? (Sp.mk k lost) = none := by
    rw [List.find?_eq_none]
    intro y hy
    obtain ⟨z, hz, rfl⟩ := List.mem_map.1 hy
    rw [hno z hz]; simp
  rw [h1]
  simp [List.find?_cons, hx]
theorem find_no {k lost : Nat} {f : List Bool} {f' : Fl8} (hf' : f'.1 = f.set lost false) {n : Nat} (hno : ∀ y ∈ subsX f'.1 (n + 1) none8 0, Sp.mk k lost y.1 = false) : Sp.planF k lost f n = none := by
  unfold Sp.planF
  rw [← hf', ← none8_flag, ← subsX_val, List.find?_eq_none]
  intro y hy
  obtain ⟨z, hz, rfl⟩ := List.mem_map.1 hy
  rw [hno z hz]; simp
structure Held (k lost bg bl Bx : Nat) (x : List Bool) (W : World) : Prop where
  arr : Arr W bg 87 (grid k)
  set : BArr W Bx 92 x
  lost : W.cell? ⟨bl, 0, none⟩ = some (.int .i64 lost)
theorem Held.keep {k lost bg bl Bx : Nat} {x : List Bool} {W W' : World} {r : Option Nat} (h : Held k lost bg bl Bx x W) (hg : W.grownBy W' r) (h1 : some bg ≠ r) (h2 : some Bx ≠ r) (h3 : some bl ≠ r) : Held k lost bg bl Bx x W' :=
  ⟨h.arr.kept hg h1, h.set.kept hg h2, hg.cell h.lost h3⟩
theorem Held.row {k lost bg bl Bx : Nat} {x : List Bool} {W : World} (h : Held k lost bg bl Bx x W) (GG : ∀ i, i < 4 → (grid k).getD (lost * 4 + i) 0 = (Sp.crow k lost).getD i 0) {x0 x1 x2 x3 : Int} (hc : Sp.crow k lost = [x0, x1, x2, x3]) (GL : (grid k).length = 32) (hl : lost < 8) :
    W.cell? ⟨bg, lost * 4, none⟩ = some (.int .i64 x0) ∧ W.cell? ⟨bg, lost * 4 + 1, none⟩ = some (.int .i64 x1) ∧ W.cell? ⟨bg, lost * 4 + 2, none⟩ = some (.int .i64 x2) ∧ W.cell? ⟨bg, lost * 4 + 3, none⟩ = some (.int .i64 x3) := by
  have key : ∀ i, i < 4 → W.cell? ⟨bg, lost * 4 + i, none⟩ = some (.int .i64 ((Sp.crow k lost).getD i 0)) := fun i hi => by rw [h.arr.cell (by omega), GG i hi]
  rw [hc] at key
  exact ⟨key 0 (by omega), key 1 (by omega), key 2 (by omega), key 3 (by omega)⟩
set_option maxHeartbeats 8000000 in
set_option maxRecDepth 100000 in
theorem genPlan {k lost : Nat} (hk : k = 1 ∨ k = 2) (hl : lost < 8) (f : List Bool) (hf : f.length = 8) (w : World) : Calls Try.prog 104 #[.agg (vals (grid k)).toArray, .int .i64 lost, .agg (bvals f).toArray] w (PlanOut k lost f w) := by
  have hl' : (lost : Int) < 8 := by omega
  obtain ⟨f', hf'⟩ : ∃ f' : Fl8, f'.1 = f.set lost false := ⟨⟨f.set lost false, by rw [List.length_set]; exact hf⟩, rfl⟩
  obtain ⟨W0, hW0⟩ : ∃ W, W = ((((w.alloc (.cells (vals (grid k)).toArray 87)).alloc (.cells #[.int .i64 lost] 3)).alloc (.cells (bvals f'.1).toArray 92)).alloc (.cells #[.int .i64 0, .slice none 0 0, .slice none 0 0] 110)).alloc (.cells #[.bool false] 4) := ⟨_, rfl⟩
  have z0 : W0.heap.size = w.heap.size + 5 := by rw [hW0]; simp
  have A0 : Hid (Arr W0 w.heap.size 87 (grid k)) := Lib.hid (by rw [hW0]; exact ((((Arr.new w _ _).alloc _).alloc _).alloc _).alloc _)
  have L0 : Hid (Blk W0 (w.heap.size + 1) 3 [.int .i64 lost]) := Lib.hid (by
    rw [hW0]
    have h := heap_alloc_new (w.alloc (.cells (vals (grid k)).toArray 87)) (.cells #[.int .i64 lost] 3)
    rw [World.size_alloc] at h
    exact (Below.heap_alloc _ _ _ (by simp)).trans ((Below.heap_alloc _ _ _ (by simp)).trans ((Below.heap_alloc _ _ _ (by simp)).trans h)))
  have T0 : Hid (BArr W0 (w.heap.size + 2) 92 f'.1) := Lib.hid (by
    rw [hW0]
    have h := BArr.new ((w.alloc (.cells (vals (grid k)).toArray 87)).alloc (.cells #[.int .i64 lost] 3)) 92 f'.1
    rw [World.size_alloc, World.size_alloc] at h
    exact (h.alloc _).alloc _)
  have P0 : Hid (Blk W0 (w.heap.size + 3) 110 [.int .i64 0, .slice none 0 0, .slice none 0 0]) := Lib.hid (by
    rw [hW0]
    have h := heap_alloc_new (((w.alloc (.cells (vals (grid k)).toArray 87)).alloc (.cells #[.int .i64 lost] 3)).alloc (.cells (bvals f'.1).toArray 92)) (.cells #[.int .i64 0, .slice none 0 0, .slice none 0 0] 110)
    rw [World.size_alloc, World.size_alloc, World.size_alloc] at h
    exact (Below.heap_alloc _ _ _ (by simp)).trans h)
  have B0 : Hid (Blk W0 (w.heap.size + 4) 4 [.bool false]) := Lib.hid (by
    rw [hW0]
    have h := heap_alloc_new ((((w.alloc (.cells (vals (grid k)).toArray 87)).alloc (.cells #[.int .i64 lost] 3)).alloc (.cells (bvals f'.1).toArray 92)).alloc (.cells #[.int .i64 0, .slice none 0 0, .slice none 0 0] 110)) (.cells #[.bool false] 4)
    rw [World.size_alloc, World.size_alloc, World.size_alloc, World.size_alloc] at h
    exact h)
  have G0 : Hid (w.grownBy W0 none) := Lib.hid (by rw [hW0]; exact grown_alloc (grown_alloc (grown_alloc (grown_alloc (grown_alloc (World.grownBy.refl _ _) _) _) _) _) _)
  have T1 : BArr (((((w.alloc (.cells (vals (grid k)).toArray 87)).alloc (.cells #[.int .i64 lost] 3)).alloc (.cells (bvals f).toArray 92)).alloc (.cells #[.int .i64 0, .slice none 0 0, .slice none 0 0] 110)).alloc (.cells #[.bool false] 4)) (w.heap.size + 2) 92 f := by
    have h := BArr.new ((w.alloc (.cells (vals (grid k)).toArray 87)).alloc (.cells #[.int .i64 lost] 3)) 92 f
    rw [World.size_alloc, World.size_alloc] at h
    exact (h.alloc _).alloc _
  have ct := T1.cell (i := lost) (by rw [hf]; exact hl)
  have ft := T1.frozen lost
  have l2 : (lost : Int) ≥ 0 := by omega
  clear T1
  refine (callsIn_wide (n := 3)).1 ?_
  refine callsIn_of_wp_marks Try.func104 rfl trivial ?_ rfl
  simp only [Try.ntmps104, List.size_toArray, List.length_cons, List.length_nil, Nat.reduceAdd, Nat.reduceSub, Array.replicate_succ, Array.replicate_zero, List.push_toArray, List.append_toArray, List.nil_append, List.cons_append]
  gi_wp2
  rw [bvals_set, ← hf', ← hW0]
  clear ct ft
  obtain ⟨bb, hbb⟩ : ∃ b, b = w.heap.size + 1 + 1 + 1 + 1 := ⟨_, rfl⟩
  obtain ⟨bp, hbp⟩ : ∃ b, b = w.heap.size + 1 + 1 + 1 := ⟨_, rfl⟩
  obtain ⟨bt, hbt⟩ : ∃ b, b = w.heap.size + 1 + 1 := ⟨_, rfl⟩
  obtain ⟨bl, hbl⟩ : ∃ b, b = w.heap.size + 1 := ⟨_, rfl⟩
  obtain ⟨bg, hbg⟩ : ∃ b, b = w.heap.size := ⟨_, rfl⟩
  rw [show w.heap.size + 4 = bb from hbb.symm] at B0
  rw [show w.heap.size + 3 = bp from hbp.symm] at P0
  rw [show w.heap.size + 2 = bt from hbt.symm] at T0
  rw [← hbl] at L0
  rw [← hbg] at A0
  rw [← hbb, ← hbp, ← hbt, ← hbl, ← hbg]
  have Z0 : w.heap.size = bg ∧ bl = bg + 1 ∧ bt = bg + 2 ∧ bp = bg + 3 ∧ bb = bg + 4 ∧ W0.heap.size = bg + 5 := by omega
  have ZZ := Lib.hid Z0
  have HF' := Lib.hid hf'
  clear hf' hbb hbp hbt hbl hbg hW0 z0 Z0
  refine wpIn_loop (fun a W => ∃ (n : Nat) (Ds : List Nat) (u14 u15 u16 u17 u18 u19 u20 : Value), a = { tmps := #[.agg (vals (grid k)).toArray, .int .i64 lost, .agg (bvals f).toArray, .pointer (some ⟨bg, 0, none⟩), .pointer (some ⟨bl, 0, none⟩), .pointer (some ⟨bt, 0, none⟩), .pointer (some ⟨bp, 0, none⟩), .pointer (some ⟨bb, 0, none⟩), .int .i64 ((n : Int) + 1), undef, undef, undef, .int .i64 lost, .pointer (some ⟨bt, lost, none⟩), u14, u15, u16, u17, u18, u19, u20, undef, undef, undef, undef, undef, undef, undef, undef, undef, undef, undef, undef, undef, undef, undef, undef], defers := marks_ Ds } ∧ n ≤ 4 ∧ W0.grownBy W none ∧ Ds.Nodup ∧ (∀ D ∈ Ds, W0.heap.size ≤ D ∧ W.heap[D]? = some (.deferred (some []))) ∧ ∀ m, m < n → Sp.planF k lost f m = none) (fun a _ => 5 - (intOf (a.tmps.getD 8 undef)).toNat) ⟨0, [], undef, undef, undef, undef, undef, undef, undef, rfl, by omega, World.grownBy.refl _ _, List.nodup_nil, by simp, by omega⟩ ?round
  rintro a W ⟨n, Ds, u14, u15, u16, u17, u18, u19, u20, rfl, hn, hgW, hnd, hDs, hno⟩
  have G := Lib.hid hgW
  have DD := Lib.hid hDs
  have NO := Lib.hid hno
  have ND := Lib.hid hnd
  clear hgW hDs hno hnd
  by_cases hlt : n < 4
  · have hlt' : (n : Int) + 1 ≤ 4 := by omega
    obtain ⟨t0, t1, t2, t3, t4, t5, t6, t7, h8⟩ := list_eight f'.2
    have hv : bvals f'.1 = [.bool t0, .bool t1, .bool t2, .bool t3, .bool t4, .bool t5, .bool t6, .bool t7] := by rw [h8]; rfl
    have TW := T0.out.still G.out
    have cs : ∀ i, i < 8 → W.cell? ⟨bt, i, none⟩ = some (.bool (f'.1.getD i false)) := fun i hi => TW.cell (by rw [f'.2]; exact hi)
    rw [h8] at cs
    have c0 : W.cell? ⟨bt, 0, none⟩ = some (.bool t0) := cs 0 (by omega)
    have c1 : W.cell? ⟨bt, 1, none⟩ = some (.bool t1) := cs 1 (by omega)
    have c2 : W.cell? ⟨bt, 2, none⟩ = some (.bool t2) := cs 2 (by omega)
    have c3 : W.cell? ⟨bt, 3, none⟩ = some (.bool t3) := cs 3 (by omega)
    have c4 : W.cell? ⟨bt, 4, none⟩ = some (.bool t4) := cs 4 (by omega)
    have c5 : W.cell? ⟨bt, 5, none⟩ = some (.bool t5) := cs 5 (by omega)
    have c6 : W.cell? ⟨bt, 6, none⟩ = some (.bool t6) := cs 6 (by omega)
    have c7 : W.cell? ⟨bt, 7, none⟩ = some (.bool t7) := cs 7 (by omega)
    have SM : Hid (∀ W, Calls Try.prog 119 #[.agg #[.bool t0, .bool t1, .bool t2, .bool t3, .bool t4, .bool t5, .bool t6, .bool t7], .int .i64 ((n : Int) + 1)] W fun e w' => e = .returned (.func (.func 130) #[] #[.pointer (some ⟨W.heap.size, 0, none⟩), .pointer (some ⟨W.heap.size + 1, 0, none⟩)]) ∧ w' = (W.alloc (.cells (bvals f'.1).toArray 92)).alloc (.cells #[.int .i64 ((n : Int) + 1)] 3)) := Lib.hid (fun W => by
      have := subsetsMake f'.1 ((n : Int) + 1) W
      rw [hv] at this ⊢
      exact this)
    clear TW cs h8 hv
    obtain ⟨W2, hW2⟩ : ∃ W2, W2 = (W.alloc (.cells (bvals f'.1).toArray 92)).alloc (.cells #[.int .i64 ((n : Int) + 1)] 3) := ⟨_, rfl⟩
    have z2 : W2.heap.size = W.heap.size + 2 := by rw [hW2]; simp
    have G2 : W.grownBy W2 none := by rw [hW2]; exact grown_alloc (grown_alloc (World.grownBy.refl _ _) _) _
    have F2 : BArr W2 W.heap.size 92 f'.1 := by rw [hW2]; exact (BArr.new W _ _).alloc _
    have C2 : Blk W2 (W.heap.size + 1) 3 [.int .i64 ((n : Int) + 1)] := by
      rw [hW2]
      have h := heap_alloc_new (W.alloc (.cells (bvals f'.1).toArray 92)) (.cells #[.int .i64 ((n : Int) + 1)] 3)
      rw [World.size_alloc] at h
      exact h
    have cc2 : W2.cell? ⟨W.heap.size + 1, 0, none⟩ = some (.int .i64 ((n + 1 : Nat) : Int)) := by rw [show ((n + 1 : Nat) : Int) = (n : Int) + 1 by omega]; exact C2.cell (i := 0) rfl
    have SQ := Lib.hid (subsets_stops f' (n + 1) (by omega) 2 0 W.heap.size (W.heap.size + 1) W2 F2 cc2 (by omega))
    have G02 := Lib.hid (grown_trans G.out G2)
    have HW2 := Lib.hid hW2
    have Z2 := Lib.hid z2
    have D2 : Hid (∀ D ∈ Ds, W0.heap.size ≤ D ∧ D < W2.heap.size ∧ W2.heap[D]? = some (.deferred (some []))) := Lib.hid (fun D hD => by
      have h := DD.out D hD
      have hlt := (Array.getElem?_eq_some_iff.1 h.2).1
      exact ⟨h.1, by omega, (G2.block D hlt (by simp)).trans h.2⟩)
    clear hW2 G2 F2 C2 cc2 z2 DD
    gi_wp2_with (refine ⟨trivial, ?_⟩; gi_at_call 119; refine (callsIn_wide.2 (SM.out _)).mono ?_; rintro e w' ⟨rfl, rfl⟩)
    rw [← HW2.out]
    clear c0 c1 c2 c3 c4 c5 c6 c7 SM HW2
    obtain ⟨bw, hbw⟩ : ∃ b, b = W.heap.size := ⟨_, rfl⟩
    rw [← hbw] at SQ Z2 ⊢
    have HBW := Lib.hid hbw
    clear hbw
    refine wpIn_rangeFunc_ownH rfl (by omega) (gf := 130) (lb := #[.pointer (some ⟨bw, 0, none⟩), .pointer (some ⟨bw + 1, 0, none⟩)]) rfl trivial (enters_of Try.func130 (by kernel_rfl) rfl)
      SQ.out (fun h k => KeepAt.trans h k) (fun W l o o' _ h hc _ => KeepAt.put o' h hc) (Below.refl _ _) (fun _ => rfl)
      (fun pre W' => W0.grownBy W' none ∧ (∀ D ∈ Ds, W'.heap[D]? = some (.deferred (some []))) ∧ ∀ x ∈ pre, Sp.mk k lost x.1 = false)
      (fun c pre W' => c = .ret ∧ Got k lost w Ds W0.heap.size bp bb pre W')
      ?hI ?hIx ⟨G02.out, fun D hD => (D2.out D hD).2.2, by simp⟩
      (fun x a' W' => ∃ Bx, W0.heap.size ≤ Bx ∧ BArr W' Bx 92 x.1 ∧ a' = { tmps := #[.agg (vals (grid k)).toArray, .int .i64 lost, .agg (bvals f).toArray, .pointer (some ⟨bg, 0, none⟩), .pointer (some ⟨bl, 0, none⟩), .pointer (some ⟨bt, 0, none⟩), .pointer (some ⟨bp, 0, none⟩), .pointer (some ⟨bb, 0, none⟩), .int .i64 ((n : Int) + 1), .pointer (some ⟨Bx, 0, none⟩), undef, undef, .int .i64 lost, .pointer (some ⟨bt, lost, none⟩), .int .i64 ((n : Int) + 1), .bool true, u16, u17, .agg #[.bool t0, .bool t1, .bool t2, .bool t3, .bool t4, .bool t5, .bool t6, .bool t7], .int .i64 ((n : Int) + 1), .func (.func 130) #[] #[.pointer (some ⟨bw, 0, none⟩), .pointer (some ⟨bw + 1, 0, none⟩)], .agg (bvals x.1).toArray, undef, undef, undef, undef, undef, undef, undef, undef, undef, undef, undef, undef, undef, undef, undef], defers := [] })
      ?hAx ?assign ?body ?done ?stop
    case hI =>
      rintro s A B row ⟨h1, h2, h3⟩ hg hr
      have s2 := G02.out.size
      exact ⟨grown_own h1 hg (fun r e => by have := (hr r e).1; omega), fun D hD => kept_low (h2 D hD) hg (fun e => by have := (hr D e).1; have := (D2.out D hD).2.1; omega), h3⟩
    case hIx =>
      rintro c s A B row ⟨rfl, h⟩ hg hr
      have s2 := G02.out.size
      exact ⟨rfl, h.kept hg (fun r e => by have := (hr r e).1; have := ZZ.out; omega) (fun r e => (hr r e).2) (fun D hD e => by have := (hr D e).1; have := (D2.out D hD).2.1; omega) (fun e => by have := (hr _ e).1; have := ZZ.out; omega) (fun e => by have := (hr _ e).1; have := ZZ.out; omega)⟩
    case hAx =>
      rintro x a' _ A B row ⟨Bx, h1, h2, h3⟩ hg hr
      exact ⟨Bx, h1, h2.kept hg (fun e => by obtain ⟨_, o, ho, hc⟩ := hr Bx e.symm; rw [show A.heap[Bx]? = _ from h2] at ho; injection ho with ho; subst ho; cases hc), h3⟩
    case assign =>
      rintro l pre x W' K ⟨h1, h2, h3⟩ hK
      have hs := storeF W' x.2
      have hvl : (bvals x.1).length = 8 := by rw [bvals_length]; exact x.2
      have HK := Lib.hid hK
      have G3 := Lib.hid h1
      have D3 := Lib.hid h2
      have X3 := Lib.hid h3
      clear hK h1 h2 h3
      gi_wp2
      have s3 := G3.out.size
      have ga := World.grownBy_alloc W' (.cells (bvals x.1).toArray 92) none
      exact HK.out _ _ ((KeepsOthers.alloc _ _).from _) (KeepAt.grown ga) ⟨grown_trans G3.out ga, fun D hD => kept_low (D3.out D hD) ga (by simp), X3.out⟩ ⟨W'.heap.size, s3, BArr.new W' _ _, rfl⟩
    case body =>
      rintro l pre x a' W' hll ⟨r, hr⟩ ⟨h1, h2, h3⟩ ⟨Bx, hBx, hX, rfl⟩ hlen
      have G3 := Lib.hid h1
      have D3 := Lib.hid h2
      have X3 := Lib.hid h3
      have BX := Lib.hid hX
      have ZL : Hid (bg < W0.heap.size ∧ bl < W0.heap.size ∧ Bx < W'.heap.size ∧ W0.heap.size ≤ W'.heap.size ∧ W0.heap.size ≤ W2.heap.size) := Lib.hid (by have := ZZ.out; have := hX.lt; have := h1.size; have := G02.out.size; omega)
      clear h1 h2 h3 hX hr hlen
      refine wpIn_block ?_
      refine wpIn_seq_k (fun K hK => ?_)
      have FIN : Hid (∀ (wy : World) (Bt : Nat) (c : List Int) (b : Bool) (u22 u23 u24 u25 u26 u27 u28 u29 u30 u31 : Value), c.length = 8 → b = Sp.mk k lost x.1 → (b = true → Sp.IsBy (Sp.padd k x.1) (Sp.crow k lost) c) → W'.grownBy wy none → W'.heap.size ≤ Bt → Arr wy Bt 88 c →
          K { tmps := #[.agg (vals (grid k)).toArray, .int .i64 lost, .agg (bvals f).toArray, .pointer (some ⟨bg, 0, none⟩), .pointer (some ⟨bl, 0, none⟩), .pointer (some ⟨bt, 0, none⟩), .pointer (some ⟨bp, 0, none⟩), .pointer (some ⟨bb, 0, none⟩), .int .i64 ((n : Int) + 1), .pointer (some ⟨Bx, 0, none⟩), .pointer (some ⟨Bt, 0, none⟩), .bool b, .int .i64 lost, .pointer (some ⟨bt, lost, none⟩), .int .i64 ((n : Int) + 1), .bool true, u16, u17, .agg #[.bool t0, .bool t1, .bool t2, .bool t3, .bool t4, .bool t5, .bool t6, .bool t7], .int .i64 ((n : Int) + 1), .func (.func 130) #[] #[.pointer (some ⟨bw, 0, none⟩), .pointer (some ⟨bw + 1, 0, none⟩)], .agg (bvals x.1).toArray, u22, u23, u24, u25, u26, u27, u28, u29, u30, u31, undef, undef, undef, undef, undef], defers := [] } wy) := Lib.hid (by
        intro wy Bt c b u22 u23 u24 u25 u26 u27 u28 u29 u30 u31 hc8 hb hib hgy hBt hA
        refine hK _ _ ?_
        have GY := Lib.hid hgy
        have G4 := Lib.hid (grown_trans G3.out hgy)
        cases b with
        | false =>
          have HB := Lib.hid hb.symm
          clear hgy hK hA hib hb hc8
          gi_wp2
          exact ⟨KeepsFrom.of_grownBy GY.out (by simp), KeepAt.grown GY.out, G4.out, fun D hD => kept_low (D3.out D hD) GY.out (by simp), fun y hy => by
            rcases List.mem_append.1 hy with hy | hy
            · exact X3.out y hy
            · simp at hy; subst hy; exact HB.out⟩
        | true =>
          have PB := Lib.hid (fun w => planBy (lost : Int) c hc8 w)
          have HI := Lib.hid (hib rfl)
          have HB := Lib.hid hb.symm
          obtain ⟨s0, s1, s2, s3, s4, s5, s6, s7, rfl⟩ := list_eight hc8
          have cl : wy.cell? ⟨bl, 0, none⟩ = some (.int .i64 lost) := (L0.out.kept G4.out (by simp)).cell (i := 0) rfl
          have k0 : wy.cell? ⟨Bt, 0, none⟩ = some (.int .i64 s0) := hA.cell (by simp)
          have k1 : wy.cell? ⟨Bt, 1, none⟩ = some (.int .i64 s1) := hA.cell (by simp)
          have k2 : wy.cell? ⟨Bt, 2, none⟩ = some (.int .i64 s2) := hA.cell (by simp)
          have k3 : wy.cell? ⟨Bt, 3, none⟩ = some (.int .i64 s3) := hA.cell (by simp)
          have k4 : wy.cell? ⟨Bt, 4, none⟩ = some (.int .i64 s4) := hA.cell (by simp)
          have k5 : wy.cell? ⟨Bt, 5, none⟩ = some (.int .i64 s5) := hA.cell (by simp)
          have k6 : wy.cell? ⟨Bt, 6, none⟩ = some (.int .i64 s6) := hA.cell (by simp)
          have k7 : wy.cell? ⟨Bt, 7, none⟩ = some (.int .i64 s7) := hA.cell (by simp)
          have PQ : Hid (∀ w, Calls Try.prog 120 #[.int .i64 lost, .agg #[.int .i64 s0, .int .i64 s1, .int .i64 s2, .int .i64 s3, .int .i64 s4, .int .i64 s5, .int .i64 s6, .int .i64 s7]] w (NewPlan lost (Sp.ints (Sp.taken [s0, s1, s2, s3, s4, s5, s6, s7] 8)) (Sp.nums [s0, s1, s2, s3, s4, s5, s6, s7] (Sp.taken [s0, s1, s2, s3, s4, s5, s6, s7] 8)) w)) := Lib.hid PB.out
          clear hgy hK hA hib hb hc8 PB
          generalize hcc : [s0, s1, s2, s3, s4, s5, s6, s7] = cc at *
          clear hcc
          generalize hnl : (Sp.ints (Sp.taken cc 8)) = lf at *
          generalize hml : (Sp.nums cc (Sp.taken cc 8)) = lb at *
          have NL := Lib.hid hnl
          have ML := Lib.hid hml
          clear hnl hml
          gi_wp2_with fail
          refine ⟨trivial, ?_⟩
          refine (CallsIn.inRound l (callsIn_wide.2 (PQ.out _))).mono ?_
          rintro e w5 ⟨u, v, rfl, hg5, hto⟩
          obtain ⟨au, cu, eu, _, _, _⟩ := hto.1.sl
          obtain ⟨av, cv, ev, _, _, _⟩ := hto.2.1.sl
          generalize hn1 : lf.length = n1 at eu
          generalize hn2 : lb.length = n2 at ev
          clear hn1 hn2
          subst eu ev
          have TO := Lib.hid hto
          have G5 := Lib.hid (grown_trans G4.out hg5)
          have GY5 := Lib.hid (grown_trans GY.out hg5)
          have p0 := (P0.out.kept G5.out (by simp)).cell (i := 0) rfl
          have p1 := (P0.out.kept G5.out (by simp)).cell (i := 1) rfl
          have p2 := (P0.out.kept G5.out (by simp)).cell (i := 2) rfl
          have q0 := (P0.out.kept G5.out (by simp)).frozen 0
          have q1 := (P0.out.kept G5.out (by simp)).frozen 1
          have q2 := (P0.out.kept G5.out (by simp)).frozen 2
          have S5 : Hid (W0.heap.size ≤ wy.heap.size) := Lib.hid G4.out.size
          clear hto hg5 cl k0 k1 k2 k3 k4 k5 k6 k7 PQ
          have gs1 : w5.grownBy (((w5.setCell ⟨bp, 0, none⟩ (.int .i64 lost)).setCell ⟨bp, 1, none⟩ (.slice au n1 cu)).setCell ⟨bp, 2, none⟩ (.slice av n2 cv)) (some bp) := grown_at (grown_at (grown_at (World.grownBy.refl w5 (some bp)) 0 _) 1 _) 2 _
          have P6 : Blk (((w5.setCell ⟨bp, 0, none⟩ (.int .i64 lost)).setCell ⟨bp, 1, none⟩ (.slice au n1 cu)).setCell ⟨bp, 2, none⟩ (.slice av n2 cv)) bp 110 [.int .i64 lost, .slice au n1 cu, .slice av n2 cv] := (((P0.out.kept G5.out (by simp)).put 0 (.int .i64 lost)).put 1 (.slice au n1 cu)).put 2 (.slice av n2 cv)
          have zz := ZZ.out
          have zl := ZL.out
          have zs := S5.out
          have o1 := TO.out.1.kept gs1 (.inr fun e => far_own TO.out.1 (by omega) e.symm)
          have o2 := TO.out.2.1.kept gs1 (.inr fun e => far_own TO.out.2.1 (by omega) e.symm)
          have b6 := (B0.out.kept G5.out (by simp)).kept gs1 (by intro e; injection e with e; omega)
          have g6 := grown_own (grown_trans G0.out G5.out) gs1 (fun j hj => by injection hj with hj; omega)
          have d6 : ∀ D ∈ Ds, (((w5.setCell ⟨bp, 0, none⟩ (.int .i64 lost)).setCell ⟨bp, 1, none⟩ (.slice au n1 cu)).setCell ⟨bp, 2, none⟩ (.slice av n2 cv)).heap[D]? = some (.deferred (some [])) := fun D hD => kept_low (kept_low (D3.out D hD) GY5.out (by simp)) gs1 (fun e => by injection e with e; have := (D2.out D hD).1; omega)
          have kf6 : KeepsFrom W2.heap.size W' (((w5.setCell ⟨bp, 0, none⟩ (.int .i64 lost)).setCell ⟨bp, 1, none⟩ (.slice au n1 cu)).setCell ⟨bp, 2, none⟩ (.slice av n2 cv)) := (KeepsFrom.of_grownBy GY5.out (by simp)).trans (KeepsFrom.of_grownBy gs1 (fun j hj => by injection hj with hj; omega))
          have r0 := b6.cell (i := 0) rfl
          have r1 := b6.frozen 0
          have OO := Lib.hid (And.intro o1 o2)
          have BB6 := Lib.hid b6
          have PP6 := Lib.hid P6
          have GG6 := Lib.hid (And.intro g6 (And.intro d6 kf6))
          clear o1 o2 b6 P6 g6 d6 kf6 gs1 zz zl zs
          gi_wp2_with fail
          obtain ⟨o1, o2⟩ := OO.out
          obtain ⟨g6, d6, kf6⟩ := GG6.out
          have b6 := BB6.out
          have P6 := PP6.out
          have zz := ZZ.out
          have zl := ZL.out
          have zs := S5.out
          clear OO GG6 BB6 PP6 p0 p1 p2 q0 q1 q2 r0 r1
          generalize ((w5.setCell ⟨bp, 0, none⟩ (.int .i64 lost)).setCell ⟨bp, 1, none⟩ (.slice au n1 cu)).setCell ⟨bp, 2, none⟩ (.slice av n2 cv) = w6 at *
          have gs2 : w6.grownBy (w6.setCell ⟨bb, 0, none⟩ (.bool true)) (some bb) := grown_at (World.grownBy.refl w6 (some bb)) 0 _
          refine ⟨kf6.trans (KeepsFrom.of_grownBy gs2 (fun j hj => by injection hj with hj; omega)), rfl, ⟨grown_own g6 gs2 (fun j hj => by injection hj with hj; omega), fun D hD => kept_low (d6 D hD) gs2 (fun e => by injection e with e; have := (D2.out D hD).1; omega), pre, x, cc, _, _, rfl, X3.out, HB.out, HI.out, P6.kept gs2 (by intro e; injection e with e; omega), b6.put 0 (.bool true), ?_⟩⟩
          rw [NL.out, ML.out]
          exact TwoOwn.lower ⟨o1.kept gs2 (.inr fun e => far_own o1 (by omega) e.symm), o2.kept gs2 (.inr fun e => far_own o2 (by omega) e.symm), TO.out.2.2⟩ (by omega))
      clear hK
      obtain ⟨x0, x1, x2, x3, hcr, _⟩ := crow_four hk hl
      have GG := Lib.hid (fun i (hi : i < 4) => grid_get hk hl (i := i) hi)
      have SS : Hid (Held k lost bg bl Bx x.1 W'.drew) := Lib.hid ⟨(A0.out.still G3.out).drew, BX.out.drew, (L0.out.kept G3.out (by simp)).cell (i := 0) rfl⟩
      have GL := grid_len k hk
      have zg : (Try.prog.info? 87).map (·.size) = some (vals (grid k)).toArray.size := by rw [show (vals (grid k)).toArray.size = 32 by simp [vals_length, GL]]; kernel_rfl
      have zx : (Try.prog.info? 92).map (·.size) = some (bvals x.1).toArray.size := by rw [show (bvals x.1).toArray.size = 8 by simp [bvals_length, x.2]]; kernel_rfl
      have ER := enters_of (P := Try.prog) Try.func117 (by kernel_rfl) rfl
      have EB := enters_of (P := Try.prog) Try.func118 (by kernel_rfl) rfl
      refine region_inRound (by kernel_rfl) (by kernel_rfl) (fun ⟨_, _, h⟩ => h) (Held k lost bg bl Bx x.1) ?_
      refine take_ 0 (some 23) (.agg (vals (grid k)).toArray) rfl rfl (by kernel_rfl) (by kernel_rfl) (by kernel_rfl) (fun _ _ _ h => h) (yields_row _ _ rfl rfl bg rfl _ _ _ (fun W' hS => hS.arr) Try.underlying87 rfl zg) SS.out ?_
      simp only [Act.put, List.setIfInBounds_toArray, List.set_cons_zero, List.set_cons_succ]
      refine take_ 1 (some 24) (.agg (bvals x.1).toArray) rfl rfl (by kernel_rfl) (by kernel_rfl) (by kernel_rfl) (fun _ _ _ h => h) (yields_row _ _ rfl rfl Bx rfl _ _ _ (fun W' hS => hS.set) Try.underlying92 rfl zx) SS.out ?_
      simp only [Act.put, List.setIfInBounds_toArray, List.set_cons_zero, List.set_cons_succ]
      refine take_ 3 (some 26) (.int .i64 lost) rfl rfl (by kernel_rfl) (by kernel_rfl) (by kernel_rfl) (fun _ _ _ h => h) (.inl ⟨by rfl, fun W' hS => (by have cl := hS.lost; go_simp)⟩) SS.out ?_
      simp only [Act.put, List.setIfInBounds_toArray, List.set_cons_zero, List.set_cons_succ]
      refine take_ 4 (some 27) (.pointer (some ⟨bg, lost * 4, none⟩)) rfl rfl (by kernel_rfl) (by kernel_rfl) (by kernel_rfl) (fun _ _ _ h => h) (.inl ⟨by rfl, fun W' hS => (by go_simp)⟩) SS.out ?_
      simp only [Act.put, List.setIfInBounds_toArray, List.set_cons_zero, List.set_cons_succ]
      refine take_ 5 (some 28) (.agg #[.int .i64 x0, .int .i64 x1, .int .i64 x2, .int .i64 x3]) rfl rfl (by kernel_rfl) (by kernel_rfl) (by kernel_rfl) (fun _ _ _ h => h) (.inl ⟨by rfl, fun W' hS => (by obtain ⟨c0, c1, c2, c3⟩ := hS.row GG.out hcr GL hl; go_simp)⟩) SS.out ?_
      simp only [Act.put, List.setIfInBounds_toArray, List.set_cons_zero, List.set_cons_succ]
      have G3d : Hid (W'.grownBy W'.drew none) := Lib.hid (grown_drew (World.grownBy.refl _ _))
      refine ready_two (i := 2) (k := 10) (by kernel_rfl) rfl rfl rfl rfl ?_ ?_
      · refine call_at (some 25) (f := 117) (args := #[.agg (vals (grid k)).toArray, .agg (bvals x.1).toArray]) rfl (by go_simp) ((genReduce hk x.1 x.2 _).mono ?_)
        rintro e w1 ⟨hg1, b1, g1, q1, S1, pv1, pn1, rfl, _, he1, hst1⟩
        refine ⟨_, rfl, ?_⟩
        simp only [Act.put, List.setIfInBounds_toArray, List.set_cons_zero, List.set_cons_succ]
        have SS := Lib.hid (SS.out.keep hg1 (by simp) (by simp) (by simp))
        have E1 := Lib.hid he1
        have T1 := Lib.hid hst1
        refine ⟨SS.out, ?_⟩
        refine ready_two (i := 6) (k := 10) (by kernel_rfl) rfl rfl rfl rfl ?_ ?_
        · refine call_at (some 29) (f := 118) (args := #[.pointer (some ⟨g1, 0, none⟩), .agg #[.int .i64 x0, .int .i64 x1, .int .i64 x2, .int .i64 x3]]) rfl (by go_simp) ?_
          have hby := byTimes hk hl E1.out T1.out
          rw [hcr] at hby
          refine hby.mono ?_
          rintro e w2 ⟨c, b, hc8, rfl, hb, hib, hg2⟩
          have HIB := Lib.hid hib
          refine ⟨_, rfl, ?_⟩
          simp only [Act.put, List.setIfInBounds_toArray, List.set_cons_zero, List.set_cons_succ]
          have SS := Lib.hid (SS.out.keep hg2 (by simp) (by simp) (by simp))
          refine ⟨SS.out, ?_⟩
          refine take_ 7 (some 22) (.tuple #[.agg (vals c).toArray, .bool b]) rfl rfl (by kernel_rfl) (by kernel_rfl) (by kernel_rfl) (fun _ _ _ h => h) (.inl ⟨by rfl, fun W' hS => (by go_simp)⟩) SS.out ?_
          simp only [Act.put, List.setIfInBounds_toArray, List.set_cons_zero, List.set_cons_succ]
          refine take_ 8 (some 30) (.agg (vals c).toArray) rfl rfl (by kernel_rfl) (by kernel_rfl) (by kernel_rfl) (fun _ _ _ h => h) (.inl ⟨by rfl, fun W' hS => (by go_simp)⟩) SS.out ?_
          simp only [Act.put, List.setIfInBounds_toArray, List.set_cons_zero, List.set_cons_succ]
          refine take_ 9 (some 31) (.bool b) rfl rfl (by kernel_rfl) (by kernel_rfl) (by kernel_rfl) (fun _ _ _ h => h) (.inl ⟨by rfl, fun W' hS => (by go_simp)⟩) SS.out ?_
          simp only [Act.put, List.setIfInBounds_toArray, List.set_cons_zero, List.set_cons_succ]
          refine ready_one (i := 10) (by kernel_rfl) rfl rfl ?_
          refine value_at (some 10) (.pointer (some ⟨w2.heap.size, 0, none⟩)) (w2.alloc (.cells #[.int .i64 0, .int .i64 0, .int .i64 0, .int .i64 0, .int .i64 0, .int .i64 0, .int .i64 0, .int .i64 0] 88)) rfl (by go_simp) ?_
          simp only [Act.put, List.setIfInBounds_toArray, List.set_cons_zero, List.set_cons_succ]
          have ga := World.grownBy_alloc w2 (.cells #[.int .i64 0, .int .i64 0, .int .i64 0, .int .i64 0, .int .i64 0, .int .i64 0, .int .i64 0, .int .i64 0] 88) none
          have BT : Hid ((w2.alloc (.cells #[.int .i64 0, .int .i64 0, .int .i64 0, .int .i64 0, .int .i64 0, .int .i64 0, .int .i64 0, .int .i64 0] 88)).heap[w2.heap.size]? = some (.cells #[.int .i64 0, .int .i64 0, .int .i64 0, .int .i64 0, .int .i64 0, .int .i64 0, .int .i64 0, .int .i64 0] 88 (0, 0))) := Lib.hid (heap_alloc_new w2 _)
          have SS := Lib.hid (SS.out.keep ga (by simp) (by simp) (by simp))
          refine ⟨SS.out, ?_⟩
          have GX := Lib.hid (grown_trans (grown_trans (grown_trans G3d.out hg1) hg2) ga)
          obtain ⟨Bt, hBt0⟩ : ∃ b, b = w2.heap.size := ⟨_, rfl⟩
          rw [← hBt0] at BT ⊢
          have hBt : W'.heap.size ≤ Bt := by have := ((grown_trans (grown_trans G3d.out hg1) hg2)).size; omega
          clear hBt0
          generalize w2.alloc (.cells #[.int .i64 0, .int .i64 0, .int .i64 0, .int .i64 0, .int .i64 0, .int .i64 0, .int .i64 0, .int .i64 0] 88) = wx at *
          refine ready_one (i := 11) (by kernel_rfl) rfl rfl ?_
          refine store_at none _ _ _ rfl rfl Bt (vals c).toArray rfl rfl _ #[.int .i64 0, .int .i64 0, .int .i64 0, .int .i64 0, .int .i64 0, .int .i64 0, .int .i64 0, .int .i64 0] BT.out (by rw [show (vals c).toArray.size = 8 by simp [vals_length, hc8]]; kernel_rfl) (by simp [vals_length, hc8]) (by simp [vals, Value.oneCell']) ?_
          simp only [Act.put, List.setIfInBounds_toArray, List.set_cons_zero, List.set_cons_succ]
          have gs := grown_setRow BT.out (vals c).toArray
          have GY := Lib.hid (grown_own GX.out gs (fun j hj => by injection hj with hj; subst hj; exact hBt))
          have SS := Lib.hid (SS.out.keep gs (fun e => by injection e with e; have := ZL.out; omega) (fun e => by injection e with e; have := ZL.out; omega) (fun e => by injection e with e; have := ZL.out; omega))
          have AY := Lib.hid (arr_row (c := c) BT.out)
          clear gs
          refine ⟨SS.out, ?_⟩
          generalize wx.setRow Bt (vals c).toArray = wy at *
          refine take_ 12 (some 11) (.bool b) rfl rfl (by kernel_rfl) (by kernel_rfl) (by kernel_rfl) (fun _ _ _ h => h) (.inl ⟨by rfl, fun W' hS => (by go_simp)⟩) SS.out ?_
          simp only [Act.put, List.setIfInBounds_toArray, List.set_cons_zero, List.set_cons_succ]
          refine wpAnyH_done (by kernel_rfl) ?_ _
          exact FIN.out wy Bt c b _ _ _ _ _ _ _ _ _ _ hc8 hb HIB.out GY.out hBt AY.out
        · refine value_at (some 10) (.pointer (some ⟨w1.heap.size, 0, none⟩)) (w1.alloc (.cells #[.int .i64 0, .int .i64 0, .int .i64 0, .int .i64 0, .int .i64 0, .int .i64 0, .int .i64 0, .int .i64 0] 88)) rfl (by go_simp) ?_
          simp only [Act.put, List.setIfInBounds_toArray, List.set_cons_zero, List.set_cons_succ]
          have ga := World.grownBy_alloc w1 (.cells #[.int .i64 0, .int .i64 0, .int .i64 0, .int .i64 0, .int .i64 0, .int .i64 0, .int .i64 0, .int .i64 0] 88) none
          have BT : Hid ((w1.alloc (.cells #[.int .i64 0, .int .i64 0, .int .i64 0, .int .i64 0, .int .i64 0, .int .i64 0, .int .i64 0, .int .i64 0] 88)).heap[w1.heap.size]? = some (.cells #[.int .i64 0, .int .i64 0, .int .i64 0, .int .i64 0, .int .i64 0, .int .i64 0, .int .i64 0, .int .i64 0] 88 (0, 0))) := Lib.hid (heap_alloc_new w1 _)
          have SS := Lib.hid (SS.out.keep ga (by simp) (by simp) (by simp))
          refine ⟨SS.out, ?_⟩
          have GX := Lib.hid (grown_trans (grown_trans G3d.out hg1) ga)
          obtain ⟨Bt, hBt0⟩ : ∃ b, b = w1.heap.size := ⟨_, rfl⟩
          rw [← hBt0] at BT ⊢
          have hBt : W'.heap.size ≤ Bt := by have := (grown_trans G3d.out hg1).size; omega
          clear hBt0
          generalize w1.alloc (.cells #[.int .i64 0, .int .i64 0, .int .i64 0, .int .i64 0, .int .i64 0, .int .i64 0, .int .i64 0, .int .i64 0] 88) = wx at *
          have E1 := Lib.hid (E1.out.grown ga)
          clear ga
          refine ready_one (i := 6) (by kernel_rfl) rfl rfl ?_
          refine call_at (some 29) (f := 118) (args := #[.pointer (some ⟨g1, 0, none⟩), .agg #[.int .i64 x0, .int .i64 x1, .int .i64 x2, .int .i64 x3]]) rfl (by go_simp) ?_
          have hby := byTimes hk hl E1.out T1.out
          rw [hcr] at hby
          refine hby.mono ?_
          rintro e w2 ⟨c, b, hc8, rfl, hb, hib, hg2⟩
          have HIB := Lib.hid hib
          refine ⟨_, rfl, ?_⟩
          simp only [Act.put, List.setIfInBounds_toArray, List.set_cons_zero, List.set_cons_succ]
          have SS := Lib.hid (SS.out.keep hg2 (by simp) (by simp) (by simp))
          refine ⟨SS.out, ?_⟩
          have BT := Lib.hid (kept_low BT.out hg2 (by simp))
          have GX := Lib.hid (grown_trans GX.out hg2)
          refine take_ 7 (some 22) (.tuple #[.agg (vals c).toArray, .bool b]) rfl rfl (by kernel_rfl) (by kernel_rfl) (by kernel_rfl) (fun _ _ _ h => h) (.inl ⟨by rfl, fun W' hS => (by go_simp)⟩) SS.out ?_
          simp only [Act.put, List.setIfInBounds_toArray, List.set_cons_zero, List.set_cons_succ]
          refine take_ 8 (some 30) (.agg (vals c).toArray) rfl rfl (by kernel_rfl) (by kernel_rfl) (by kernel_rfl) (fun _ _ _ h => h) (.inl ⟨by rfl, fun W' hS => (by go_simp)⟩) SS.out ?_
          simp only [Act.put, List.setIfInBounds_toArray, List.set_cons_zero, List.set_cons_succ]
          refine take_ 9 (some 31) (.bool b) rfl rfl (by kernel_rfl) (by kernel_rfl) (by kernel_rfl) (fun _ _ _ h => h) (.inl ⟨by rfl, fun W' hS => (by go_simp)⟩) SS.out ?_
          simp only [Act.put, List.setIfInBounds_toArray, List.set_cons_zero, List.set_cons_succ]
          refine ready_one (i := 11) (by kernel_rfl) rfl rfl ?_
          refine store_at none _ _ _ rfl rfl Bt (vals c).toArray rfl rfl _ #[.int .i64 0, .int .i64 0, .int .i64 0, .int .i64 0, .int .i64 0, .int .i64 0, .int .i64 0, .int .i64 0] BT.out (by rw [show (vals c).toArray.size = 8 by simp [vals_length, hc8]]; kernel_rfl) (by simp [vals_length, hc8]) (by simp [vals, Value.oneCell']) ?_
          simp only [Act.put, List.setIfInBounds_toArray, List.set_cons_zero, List.set_cons_succ]
          have gs := grown_setRow BT.out (vals c).toArray
          have GY := Lib.hid (grown_own GX.out gs (fun j hj => by injection hj with hj; subst hj; exact hBt))
          have SS := Lib.hid (SS.out.keep gs (fun e => by injection e with e; have := ZL.out; omega) (fun e => by injection e with e; have := ZL.out; omega) (fun e => by injection e with e; have := ZL.out; omega))
          have AY := Lib.hid (arr_row (c := c) BT.out)
          clear gs
          refine ⟨SS.out, ?_⟩
          generalize w2.setRow Bt (vals c).toArray = wy at *
          refine take_ 12 (some 11) (.bool b) rfl rfl (by kernel_rfl) (by kernel_rfl) (by kernel_rfl) (fun _ _ _ h => h) (.inl ⟨by rfl, fun W' hS => (by go_simp)⟩) SS.out ?_
          simp only [Act.put, List.setIfInBounds_toArray, List.set_cons_zero, List.set_cons_succ]
          refine wpAnyH_done (by kernel_rfl) ?_ _
          exact FIN.out wy Bt c b _ _ _ _ _ _ _ _ _ _ hc8 hb HIB.out GY.out hBt AY.out
      · refine value_at (some 10) (.pointer (some ⟨W'.drew.heap.size, 0, none⟩)) (W'.drew.alloc (.cells #[.int .i64 0, .int .i64 0, .int .i64 0, .int .i64 0, .int .i64 0, .int .i64 0, .int .i64 0, .int .i64 0] 88)) rfl (by go_simp) ?_
        simp only [Act.put, List.setIfInBounds_toArray, List.set_cons_zero, List.set_cons_succ]
        have ga := World.grownBy_alloc W'.drew (.cells #[.int .i64 0, .int .i64 0, .int .i64 0, .int .i64 0, .int .i64 0, .int .i64 0, .int .i64 0, .int .i64 0] 88) none
        have BT : Hid ((W'.drew.alloc (.cells #[.int .i64 0, .int .i64 0, .int .i64 0, .int .i64 0, .int .i64 0, .int .i64 0, .int .i64 0, .int .i64 0] 88)).heap[W'.drew.heap.size]? = some (.cells #[.int .i64 0, .int .i64 0, .int .i64 0, .int .i64 0, .int .i64 0, .int .i64 0, .int .i64 0, .int .i64 0] 88 (0, 0))) := Lib.hid (heap_alloc_new W'.drew _)
        have SS := Lib.hid (SS.out.keep ga (by simp) (by simp) (by simp))
        refine ⟨SS.out, ?_⟩
        have GX := Lib.hid (grown_trans G3d.out ga)
        obtain ⟨Bt, hBt0⟩ : ∃ b, b = W'.drew.heap.size := ⟨_, rfl⟩
        rw [← hBt0] at BT ⊢
        have hBt : W'.heap.size ≤ Bt := by have := G3d.out.size; omega
        clear hBt0
        generalize W'.drew.alloc (.cells #[.int .i64 0, .int .i64 0, .int .i64 0, .int .i64 0, .int .i64 0, .int .i64 0, .int .i64 0, .int .i64 0] 88) = wx at *
        clear ga
        refine ready_one (i := 2) (by kernel_rfl) rfl rfl ?_
        refine call_at (some 25) (f := 117) (args := #[.agg (vals (grid k)).toArray, .agg (bvals x.1).toArray]) rfl (by go_simp) ((genReduce hk x.1 x.2 _).mono ?_)
        rintro e w1 ⟨hg1, b1, g1, q1, S1, pv1, pn1, rfl, _, he1, hst1⟩
        refine ⟨_, rfl, ?_⟩
        simp only [Act.put, List.setIfInBounds_toArray, List.set_cons_zero, List.set_cons_succ]
        have SS := Lib.hid (SS.out.keep hg1 (by simp) (by simp) (by simp))
        have E1 := Lib.hid he1
        have T1 := Lib.hid hst1
        refine ⟨SS.out, ?_⟩
        have BT := Lib.hid (kept_low BT.out hg1 (by simp))
        have GX := Lib.hid (grown_trans GX.out hg1)
        refine ready_one (i := 6) (by kernel_rfl) rfl rfl ?_
        refine call_at (some 29) (f := 118) (args := #[.pointer (some ⟨g1, 0, none⟩), .agg #[.int .i64 x0, .int .i64 x1, .int .i64 x2, .int .i64 x3]]) rfl (by go_simp) ?_
        have hby := byTimes hk hl E1.out T1.out
        rw [hcr] at hby
        refine hby.mono ?_
        rintro e w2 ⟨c, b, hc8, rfl, hb, hib, hg2⟩
        have HIB := Lib.hid hib
        refine ⟨_, rfl, ?_⟩
        simp only [Act.put, List.setIfInBounds_toArray, List.set_cons_zero, List.set_cons_succ]
        have SS := Lib.hid (SS.out.keep hg2 (by simp) (by simp) (by simp))
        refine ⟨SS.out, ?_⟩
        have BT := Lib.hid (kept_low BT.out hg2 (by simp))
        have GX := Lib.hid (grown_trans GX.out hg2)
        refine take_ 7 (some 22) (.tuple #[.agg (vals c).toArray, .bool b]) rfl rfl (by kernel_rfl) (by kernel_rfl) (by kernel_rfl) (fun _ _ _ h => h) (.inl ⟨by rfl, fun W' hS => (by go_simp)⟩) SS.out ?_
        simp only [Act.put, List.setIfInBounds_toArray, List.set_cons_zero, List.set_cons_succ]
        refine take_ 8 (some 30) (.agg (vals c).toArray) rfl rfl (by kernel_rfl) (by kernel_rfl) (by kernel_rfl) (fun _ _ _ h => h) (.inl ⟨by rfl, fun W' hS => (by go_simp)⟩) SS.out ?_
        simp only [Act.put, List.setIfInBounds_toArray, List.set_cons_zero, List.set_cons_succ]
        refine take_ 9 (some 31) (.bool b) rfl rfl (by kernel_rfl) (by kernel_rfl) (by kernel_rfl) (fun _ _ _ h => h) (.inl ⟨by rfl, fun W' hS => (by go_simp)⟩) SS.out ?_
        simp only [Act.put, List.setIfInBounds_toArray, List.set_cons_zero, List.set_cons_succ]
        refine ready_one (i := 11) (by kernel_rfl) rfl rfl ?_
        refine store_at none _ _ _ rfl rfl Bt (vals c).toArray rfl rfl _ #[.int .i64 0, .int .i64 0, .int .i64 0, .int .i64 0, .int .i64 0, .int .i64 0, .int .i64 0, .int .i64 0] BT.out (by rw [show (vals c).toArray.size = 8 by simp [vals_length, hc8]]; kernel_rfl) (by simp [vals_length, hc8]) (by simp [vals, Value.oneCell']) ?_
        simp only [Act.put, List.setIfInBounds_toArray, List.set_cons_zero, List.set_cons_succ]
        have gs := grown_setRow BT.out (vals c).toArray
        have GY := Lib.hid (grown_own GX.out gs (fun j hj => by injection hj with hj; subst hj; exact hBt))
        have SS := Lib.hid (SS.out.keep gs (fun e => by injection e with e; have := ZL.out; omega) (fun e => by injection e with e; have := ZL.out; omega) (fun e => by injection e with e; have := ZL.out; omega))
        have AY := Lib.hid (arr_row (c := c) BT.out)
        clear gs
        refine ⟨SS.out, ?_⟩
        generalize w2.setRow Bt (vals c).toArray = wy at *
        refine take_ 12 (some 11) (.bool b) rfl rfl (by kernel_rfl) (by kernel_rfl) (by kernel_rfl) (fun _ _ _ h => h) (.inl ⟨by rfl, fun W' hS => (by go_simp)⟩) SS.out ?_
        simp only [Act.put, List.setIfInBounds_toArray, List.set_cons_zero, List.set_cons_succ]
        refine wpAnyH_done (by kernel_rfl) ?_ _
        exact FIN.out wy Bt c b _ _ _ _ _ _ _ _ _ _ hc8 hb HIB.out GY.out hBt AY.out
    case done =>
      rintro D xs W5 hD rfl ⟨hg5, hD5, hp5⟩ hK
      have FN := Lib.hid (find_no HF'.out hp5)
      have G5 := Lib.hid hg5
      have D5 := Lib.hid hD5
      have K5 := Lib.hid hK
      clear hg5 hD5 hp5 hK
      gi_wp2
      refine ⟨⟨n + 1, D :: Ds, _, _, _, _, _, _, _, rfl, by omega, G5.out, List.nodup_cons.2 ⟨fun hm => by have := (D2.out D hm).2.1; omega, ND.out⟩, fun E hE => ?_, fun m hm => ?_⟩, ?_⟩
      · rcases List.mem_cons.1 hE with rfl | hE
        · have := G02.out.size
          exact ⟨by omega, K5.out⟩
        · exact ⟨(D2.out E hE).1, D5.out E hE⟩
      · by_cases e : m = n
        · subst e; exact FN.out
        · exact NO.out m (by omega)
      · simp [intOf]; omega
    case stop =>
      rintro D c pre W5 hD hpre ⟨rfl, hgot⟩ hK
      have s2 := G02.out.size
      have zz := ZZ.out
      obtain ⟨pre', x, cc, u, v, e1, e2, e3, e4, e5, e6, e7⟩ := hgot.is
      subst e1
      obtain ⟨S, hS, hxS⟩ := Sp.planF_first hk hl hf hlt NO.out (find_got HF'.out hpre e2 e3)
      rw [hxS] at e4
      obtain ⟨ht, hby⟩ := Sp.taken_plan hk hl hS e4
      have L := leave_marks (n := 3) (fn := Try.f104) (R := PlanOut k lost f w) (tmps := #[.agg (vals (grid k)).toArray, .int .i64 lost, .agg (bvals f).toArray, .pointer (some ⟨bg, 0, none⟩), .pointer (some ⟨bl, 0, none⟩), .pointer (some ⟨bt, 0, none⟩), .pointer (some ⟨bp, 0, none⟩), .pointer (some ⟨bb, 0, none⟩), .int .i64 ((n : Int) + 1), undef, undef, undef, .int .i64 lost, .pointer (some ⟨bt, lost, none⟩), .int .i64 ((n : Int) + 1), .bool true, u16, u17, .agg #[.bool t0, .bool t1, .bool t2, .bool t3, .bool t4, .bool t5, .bool t6, .bool t7], .int .i64 ((n : Int) + 1), .func (.func 130) #[] #[.pointer (some ⟨bw, 0, none⟩), .pointer (some ⟨bw + 1, 0, none⟩)], undef, undef, undef, undef, undef, undef, undef, undef, undef, undef, undef, undef, undef, undef, undef, undef]) W0.heap.size (fun W' => w.grownBy W' none ∧ Blk W' bp 110 [.int .i64 lost, u, v] ∧ Blk W' bb 4 [.bool true] ∧ TwoOwn W' w.heap.size u v (Sp.ints S) (Sp.nums cc S)) ?leaveI ?leaveR (D :: Ds) (List.nodup_cons.2 ⟨fun hm => by have := (D2.out D hm).2.1; omega, ND.out⟩) W5 ⟨hgot.grown, e5, e6, by rw [ht] at e7; exact e7.lower (by omega)⟩ (fun E hE => ?leaveD)
      case leaveI =>
        rintro W' D' ⟨i1, i2, i3, i4⟩ hB hd
        have hp := grownBy_putObj' W' D' (.deferred none)
        exact ⟨grown_own i1 hp (fun j hj => by injection hj with hj; omega), i2.kept hp (by intro e; injection e with e; omega), i3.kept hp (by intro e; injection e with e; omega), i4.1.kept hp (own_other i4.1 hd rfl), i4.2.1.kept hp (own_other i4.2.1 hd rfl), i4.2.2⟩
      case leaveR =>
        rintro W' ⟨i1, i2, i3, i4⟩
        exact ⟨_, planResults rfl rfl i2 i3, i1, .inl ⟨S, _, u, v, hS, hby, rfl, i4⟩⟩
      case leaveD =>
        rcases List.mem_cons.1 hE with rfl | hE
        · exact ⟨by omega, hK⟩
        · exact ⟨(D2.out E hE).1, hgot.marks E hE⟩
      have LL := Lib.hid L
      clear L hgot e2 e3 e4 e5 e6 e7 ht hby zz
      gi_wp2
      exact LL.out
  · obtain rfl : n = 4 := by omega
    have P5 := P0.out.kept G.out (by simp)
    have B5 := B0.out.kept G.out (by simp)
    have p0 := P5.cell (i := 0) rfl
    have p1 := P5.cell (i := 1) rfl
    have p2 := P5.cell (i := 2) rfl
    have q0 := P5.frozen 0
    have q1 := P5.frozen 1
    have q2 := P5.frozen 2
    have zz := ZZ.out
    have gs1 : W.grownBy (((W.setCell ⟨bp, 0, none⟩ (.int .i64 0)).setCell ⟨bp, 1, none⟩ (.slice none 0 0)).setCell ⟨bp, 2, none⟩ (.slice none 0 0)) (some bp) := grown_at (grown_at (grown_at (World.grownBy.refl W (some bp)) 0 _) 1 _) 2 _
    have b6 := B5.kept gs1 (by intro e; injection e with e; omega)
    have r0 := b6.cell (i := 0) rfl
    have r1 := b6.frozen 0
    have P6 : Blk (((W.setCell ⟨bp, 0, none⟩ (.int .i64 0)).setCell ⟨bp, 1, none⟩ (.slice none 0 0)).setCell ⟨bp, 2, none⟩ (.slice none 0 0)) bp 110 [.int .i64 0, .slice none 0 0, .slice none 0 0] := ((P5.put 0 (.int .i64 0)).put 1 (.slice none 0 0)).put 2 (.slice none 0 0)
    have gs2 : (((W.setCell ⟨bp, 0, none⟩ (.int .i64 0)).setCell ⟨bp, 1, none⟩ (.slice none 0 0)).setCell ⟨bp, 2, none⟩ (.slice none 0 0)).grownBy ((((W.setCell ⟨bp, 0, none⟩ (.int .i64 0)).setCell ⟨bp, 1, none⟩ (.slice none 0 0)).setCell ⟨bp, 2, none⟩ (.slice none 0 0)).setCell ⟨bb, 0, none⟩ (.bool false)) (some bb) := grown_at (World.grownBy.refl _ (some bb)) 0 _
    have NM := Lib.hid (Sp.planF_none hk hl hf (fun m hm => NO.out m hm))
    have L := leave_marks (n := 3) (fn := Try.f104) (R := PlanOut k lost f w) (tmps := #[.agg (vals (grid k)).toArray, .int .i64 lost, .agg (bvals f).toArray, .pointer (some ⟨bg, 0, none⟩), .pointer (some ⟨bl, 0, none⟩), .pointer (some ⟨bt, 0, none⟩), .pointer (some ⟨bp, 0, none⟩), .pointer (some ⟨bb, 0, none⟩), .int .i64 5, undef, undef, undef, .int .i64 lost, .pointer (some ⟨bt, lost, none⟩), .int .i64 5, .bool false, u16, u17, u18, u19, u20, undef, undef, undef, undef, undef, undef, undef, undef, undef, undef, undef, undef, undef, undef, undef, .agg #[.int .i64 0, .slice none 0 0, .slice none 0 0]]) W0.heap.size (fun W' => w.grownBy W' none ∧ Blk W' bp 110 [.int .i64 0, .slice none 0 0, .slice none 0 0] ∧ Blk W' bb 4 [.bool false]) ?leaveI ?leaveR Ds ND.out ((((W.setCell ⟨bp, 0, none⟩ (.int .i64 0)).setCell ⟨bp, 1, none⟩ (.slice none 0 0)).setCell ⟨bp, 2, none⟩ (.slice none 0 0)).setCell ⟨bb, 0, none⟩ (.bool false)) ⟨grown_own (grown_own (grown_trans G0.out G.out) gs1 (fun j hj => by injection hj with hj; omega)) gs2 (fun j hj => by injection hj with hj; omega), P6.kept gs2 (by intro e; injection e with e; omega), b6.put 0 (.bool false)⟩ (fun E hE => ?leaveD)
    case leaveI =>
      rintro W' D' ⟨i1, i2, i3⟩ hB hd
      have hp := grownBy_putObj' W' D' (.deferred none)
      exact ⟨grown_own i1 hp (fun j hj => by injection hj with hj; omega), i2.kept hp (by intro e; injection e with e; omega), i3.kept hp (by intro e; injection e with e; omega)⟩
    case leaveR =>
      rintro W' ⟨i1, i2, i3⟩
      exact ⟨_, planResults rfl rfl i2 i3, i1, .inr ⟨NM.out, rfl⟩⟩
    case leaveD =>
      have h := DD.out E hE
      exact ⟨h.1, kept_low (kept_low h.2 gs1 (fun e => by injection e with e; omega)) gs2 (fun e => by injection e with e; omega)⟩
    have LL := Lib.hid L
    clear L P5 B5 b6 P6 gs1 gs2 zz
    gi_wp2
    exact LL.out
end Go.Proofs.Ythglkgicckodaaa

namespace Go.Proofs.Ythglkgicckodaaa
open Go.RowKit
set_option linter.unusedVariables false
def PlanT (k lost : Int) (f : List Bool) (n : Int) (l m : List Int) (b : Bool) : Prop :=
  (b = true ∧ ∃ (k' lost' : Nat) (S : List Nat), k = k' ∧ (k' = 1 ∨ k' = 2) ∧ lost = lost' ∧ lost' < 8 ∧ f.length = 8 ∧ Sp.planM k' lost' f = some S ∧ Sp.PlanBy k' lost' S m ∧ l = Sp.ints S ∧ n = lost') ∨
  (b = false ∧ n = 0 ∧ l = [] ∧ m = [] ∧ ∀ (k' lost' : Nat), k = k' → (k' = 1 ∨ k' = 2) → lost = lost' → lost' < 8 → f.length = 8 → Sp.planM k' lost' f = none)
theorem PlanT.one {k lost : Int} {f : List Bool} {n n' : Int} {l l' m m' : List Int} {b b' : Bool} (h : PlanT k lost f n l m b) (h' : PlanT k lost f n' l' m' b') : n = n' ∧ l = l' ∧ m = m' ∧ b = b' := by
  rcases h with ⟨rfl, k1, l1, S, rfl, hk, rfl, hl, hf, hp, hc, rfl, rfl⟩ | ⟨rfl, rfl, rfl, rfl, h⟩
  · rcases h' with ⟨rfl, k2, l2, S', e1, hk', e2, hl', hf', hp', hc', rfl, rfl⟩ | ⟨rfl, rfl, rfl, rfl, h'⟩
    · obtain rfl : k1 = k2 := by omega
      obtain rfl : l1 = l2 := by omega
      rw [hp] at hp'
      injection hp' with hp'
      subst hp'
      obtain ⟨_, _, hu, hcan, _⟩ := Sp.plan_some hp
      unfold Sp.can at hcan
      rw [Bool.and_eq_true] at hcan
      exact ⟨rfl, rfl, hc.one hk hu.lt hc' hcan.1, rfl⟩
    · have := h' k1 l1 rfl hk rfl hl hf
      rw [hp] at this; cases this
  · rcases h' with ⟨rfl, k2, l2, S', rfl, hk', rfl, hl', hf', hp', hc', rfl, rfl⟩ | ⟨rfl, rfl, rfl, rfl, h'⟩
    · have := h k2 l2 rfl hk' rfl hl' hf'
      rw [hp'] at this; cases this
    · exact ⟨rfl, rfl, rfl, rfl⟩
def NewP (k lost : Int) (f : List Bool) (w : World) (e : Ending) (w' : World) : Prop :=
  ∃ (n : Int) (l m : List Int) (b : Bool) (u v : Value), PlanT k lost f n l m b ∧ e = .returned (.tuple #[.agg #[.int .i64 n, u, v], .bool b]) ∧ w.grownBy w' none ∧ TwoOwn w' w.heap.size u v l m
theorem PlanOut.told {k lost : Nat} (hk : k = 1 ∨ k = 2) (hl : lost < 8) {f : List Bool} (hf : f.length = 8) {w : World} {e : Ending} {w' : World} (h : PlanOut k lost f w e w') : NewP k lost f w e w' := by
  obtain ⟨hg, ⟨S, c, u, v, hp, hc, he, ht⟩ | ⟨hp, he⟩⟩ := h
  · exact ⟨lost, Sp.ints S, c, true, u, v, .inl ⟨rfl, k, lost, S, rfl, hk, rfl, hl, hf, hp, hc, rfl, rfl⟩, he, hg, ht⟩
  · refine ⟨0, [], [], false, _, _, .inr ⟨rfl, rfl, rfl, rfl, fun k' l' e1 _ e2 _ _ => ?_⟩, he, hg, Own.none_ _ _, Own.none_ _ _, .inl rfl⟩
    obtain rfl : k = k' := by omega
    obtain rfl : lost = l' := by omega
    exact hp
theorem PlanT.nope {k lost : Int} {f : List Bool} (h : ¬ ((k = 1 ∨ k = 2) ∧ (0 ≤ lost ∧ lost < 8) ∧ f.length = 8)) : PlanT k lost f 0 [] [] false :=
  .inr ⟨rfl, rfl, rfl, rfl, fun k' l' e1 h1 e2 h2 h3 => absurd ⟨by omega, by omega, h3⟩ h⟩
set_option maxHeartbeats 4000000 in
set_option maxRecDepth 20000 in
theorem implPlanOf (k lost : Int) (v : Value) (f : List Bool) (w : World) (hv : Bl w v f) : Calls Try.prog 85 #[.int .i64 k, .int .i64 lost, v] w (NewP k lost f w) := by
  have R0 : Hid (Blk (w.alloc (.cells #[.int .i64 0, .slice none 0 0, .slice none 0 0] 110)) w.heap.size 110 [.int .i64 0, .slice none 0 0, .slice none 0 0]) := Lib.hid (heap_alloc_new _ _)
  have G0 := Lib.hid (grown_alloc (World.grownBy.refl w none) (.cells #[.int .i64 0, .slice none 0 0, .slice none 0 0] 110))
  have V := Lib.hid hv
  clear hv
  go_enter Try.func85, Try.ntmps85
  go_wp2_with fail
  generalize w.alloc (.cells #[.int .i64 0, .slice none 0 0, .slice none 0 0] 110) = w0 at *
  obtain ⟨r, hr⟩ : ∃ r, r = w.heap.size := ⟨_, rfl⟩
  rw [← hr] at R0 ⊢
  have RL : w.heap.size ≤ r := by omega
  clear hr
  refine (implGen k _).mono ?_
  rintro e w1 ⟨L, bk, hL, hbk, hbL, rfl, hg⟩
  have hs := storeNew w1 hL
  have hvl : (vals L).length = 32 := by rw [vals_length]; exact hL
  have G2 := Lib.hid (grown_alloc (grown_trans G0.out hg) (.cells (vals L).toArray 87))
  have A2 := Lib.hid (Arr.new w1 87 L)
  have R2 := Lib.hid ((R0.out.kept hg (by simp)).kept (World.grownBy_alloc w1 (.cells (vals L).toArray 87) none) (by simp))
  have HL := Lib.hid hL
  have BK := Lib.hid hbk
  have BL := Lib.hid hbL
  clear hg hL hbk hbL R0 G0
  go_wp2_with fail
  clear hs hvl
  generalize w1.alloc (.cells (vals L).toArray 87) = w2 at *
  generalize w1.heap.size = g at *
  refine (implFlags v f _ (V.out.grown G2.out)).mono ?_
  rintro e w5 ⟨F, bf, hF, hbf, hbF, rfl, hg⟩
  have hs := storeF w5 hF
  have hvl : (bvals F).length = 8 := by rw [bvals_length]; exact hF
  have G6 := Lib.hid (grown_alloc (grown_trans G2.out hg) (.cells (bvals F).toArray 92))
  have A6 := Lib.hid ((A2.out.still hg).alloc (.cells (bvals F).toArray 92))
  have R6 := Lib.hid ((R2.out.kept hg (by simp)).kept (World.grownBy_alloc w5 (.cells (bvals F).toArray 92) none) (by simp))
  have F6 := Lib.hid (BArr.new w5 92 F)
  have HF := Lib.hid hF
  have BF := Lib.hid hbf
  have BFF := Lib.hid hbF
  clear hg A2 R2 G2 hF hbf hbF V
  go_upto_region 3 with fail
  clear hs hvl
  generalize w5.alloc (.cells (bvals F).toArray 92) = w6 at *
  generalize w5.heap.size = gf at *
  have k0 := R6.out.cell (i := 0) rfl
  have k1 := R6.out.cell (i := 1) rfl
  have k2 := R6.out.cell (i := 2) rfl
  have f0 := R6.out.frozen 0
  have f1 := R6.out.frozen 1
  have f2 := R6.out.frozen 2
  have R7 : Hid (Blk (((w6.setCell ⟨r, 0, none⟩ (.int .i64 0)).setCell ⟨r, 1, none⟩ (.slice none 0 0)).setCell ⟨r, 2, none⟩ (.slice none 0 0)) r 110 [.int .i64 0, .slice none 0 0, .slice none 0 0]) := Lib.hid (((R6.out.put 0 (.int .i64 0)).put 1 (.slice none 0 0)).put 2 (.slice none 0 0))
  have G7 : Hid (w.grownBy (((w6.setCell ⟨r, 0, none⟩ (.int .i64 0)).setCell ⟨r, 1, none⟩ (.slice none 0 0)).setCell ⟨r, 2, none⟩ (.slice none 0 0)) none) := Lib.hid (grown_set (grown_set (grown_set G6.out RL _) RL _) RL _)
  cases bk with
  | false =>
    have NO : Hid (PlanT k lost f 0 [] [] false) := Lib.hid (PlanT.nope fun h => by have := BK.out.2 h.1; cases this)
    clear A6 F6
    go_wp2_with fail
    exact bodyPost_ret (v := .tuple #[.agg #[.int .i64 0, .slice none 0 0, .slice none 0 0], .bool false]) (results_row_slot Try.results85 _ _ r _ _ _ _ _ rfl rfl R7.out Try.underlying110 rfl (by kernel_rfl)) rfl ⟨0, [], [], false, _, _, NO.out, rfl, G7.out, Own.none_ _ _, Own.none_ _ _, .inl rfl⟩
  | true =>
    have kk := BK.out.1 rfl
    obtain ⟨j, rfl, hj⟩ : ∃ j : Nat, k = j ∧ (j = 1 ∨ j = 2) := ⟨k.toNat, by omega, by omega⟩
    obtain rfl : L = grid j := by have := BL.out rfl; simpa using this
    clear kk BK BL
    cases bf with
    | false =>
      have NO : Hid (PlanT j lost f 0 [] [] false) := Lib.hid (PlanT.nope fun h => by have := BF.out.2 h.2.2; cases this)
      clear A6 F6
      go_wp2_with fail
      exact bodyPost_ret (v := .tuple #[.agg #[.int .i64 0, .slice none 0 0, .slice none 0 0], .bool false]) (results_row_slot Try.results85 _ _ r _ _ _ _ _ rfl rfl R7.out Try.underlying110 rfl (by kernel_rfl)) rfl ⟨0, [], [], false, _, _, NO.out, rfl, G7.out, Own.none_ _ _, Own.none_ _ _, .inl rfl⟩
    | true =>
      obtain rfl : F = f := BFF.out rfl
      clear BF BFF
      by_cases hlo : 0 ≤ lost ∧ lost < 8
      · obtain ⟨n, rfl⟩ : ∃ n : Nat, lost = n := ⟨lost.toNat, by omega⟩
        have hn : n < 8 := by omega
        have GP := Lib.hid (fun w => (genPlan hj hn F HF.out w).mono fun e w' h => PlanOut.told hj hn HF.out h)
        have zl : (vals (grid j)).toArray.size = 32 := by simp [vals_length, HL.out]
        have hi : (Try.prog.info? 87).map (·.size) = some (vals (grid j)).toArray.size := by rw [zl]; kernel_rfl
        have zf : (bvals F).toArray.size = 8 := by simp [bvals_length, HF.out]
        have hj3 : (Try.prog.info? 92).map (·.size) = some (bvals F).toArray.size := by rw [zf]; kernel_rfl
        have H1 := Lib.hid hi
        have H3 := Lib.hid hj3
        have SI := Lib.hid (fun w => shardIn (n : Int) hlo.1 hlo.2 w)
        clear hi hj3 zl zf HL HF R7 G7 hlo
        generalize grid j = L at *
        go_wp2_with fail
        refine (SI.out _).mono ?_
        rintro e w' ⟨rfl, rfl⟩
        go_upto_region 5 with fail
        apply wp_region_lit
        refine wpList_load_row rfl _ _ rfl g rfl _ _ _ _ A6.out Try.underlying87 rfl H1.out ?_
        refine wpList_plain rfl (fun K hK => ?_)
        go_simp
        refine hK _ _ ?_
        clear hK
        refine wpList_load_row rfl _ _ rfl gf rfl _ _ _ _ F6.out Try.underlying92 rfl H3.out ?_
        clear A6 F6 H1 H3 SI
        generalize vals L = lv at *
        generalize bvals F = fv at *
        go_wp2_with fail
        refine (GP.out _).mono ?_
        rintro e w8 ⟨m, l, c, b, p, q, hT, rfl, hg, h2⟩
        have R8 := Lib.hid (R6.out.kept hg (by simp))
        have G8 := Lib.hid (grown_trans G6.out hg)
        have T8 := Lib.hid (h2.lower (show r + 1 ≤ w6.heap.size from R6.out.lt))
        have HT := Lib.hid hT
        clear hg h2 hT G6 R6 k0 k1 k2 f0 f1 f2 GP
        have k0 := R8.out.cell (i := 0) rfl
        have k1 := R8.out.cell (i := 1) rfl
        have k2 := R8.out.cell (i := 2) rfl
        have f0 := R8.out.frozen 0
        have f1 := R8.out.frozen 1
        have f2 := R8.out.frozen 2
        have T' := T8
        obtain ⟨au, cu, eu, _, _, _⟩ := T8.out.1.sl
        obtain ⟨av, cv, ev, _, _, _⟩ := T8.out.2.1.sl
        generalize l.length = nl at *
        generalize c.length = ml at *
        subst eu ev
        clear T8
        have gs : w8.grownBy (((w8.setCell ⟨r, 0, none⟩ (.int .i64 m)).setCell ⟨r, 1, none⟩ (.slice au nl cu)).setCell ⟨r, 2, none⟩ (.slice av ml cv)) (some r) := grown_at (grown_at (grown_at (World.grownBy.refl w8 (some r)) 0 _) 1 _) 2 _
        have R9 : Hid (Blk (((w8.setCell ⟨r, 0, none⟩ (.int .i64 m)).setCell ⟨r, 1, none⟩ (.slice au nl cu)).setCell ⟨r, 2, none⟩ (.slice av ml cv)) r 110 [.int .i64 m, .slice au nl cu, .slice av ml cv]) := Lib.hid (((R8.out.put 0 (.int .i64 m)).put 1 (.slice au nl cu)).put 2 (.slice av ml cv))
        have T9 : Hid (TwoOwn (((w8.setCell ⟨r, 0, none⟩ (.int .i64 m)).setCell ⟨r, 1, none⟩ (.slice au nl cu)).setCell ⟨r, 2, none⟩ (.slice av ml cv)) w.heap.size (.slice au nl cu) (.slice av ml cv) l c) := Lib.hid (TwoOwn.lower ⟨T'.out.1.kept gs (.inr fun e => far_own T'.out.1 (by omega) e.symm), T'.out.2.1.kept gs (.inr fun e => far_own T'.out.2.1 (by omega) e.symm), T'.out.2.2⟩ (by omega))
        have G9 : Hid (w.grownBy (((w8.setCell ⟨r, 0, none⟩ (.int .i64 m)).setCell ⟨r, 1, none⟩ (.slice au nl cu)).setCell ⟨r, 2, none⟩ (.slice av ml cv)) none) := Lib.hid (grown_set (grown_set (grown_set G8.out RL _) RL _) RL _)
        clear gs T' R8 G8
        go_wp2_with fail
        exact bodyPost_ret (v := .tuple #[.agg #[.int .i64 m, .slice au nl cu, .slice av ml cv], .bool b]) (results_row_slot Try.results85 _ _ r _ _ _ _ _ rfl rfl R9.out Try.underlying110 rfl (by kernel_rfl)) rfl ⟨m, l, c, b, _, _, HT.out, rfl, G9.out, T9.out⟩
      · have NO : Hid (PlanT j lost F 0 [] [] false) := Lib.hid (PlanT.nope fun h => hlo h.2.1)
        have SO := Lib.hid (fun w => shardOut lost (by omega) w)
        clear A6 F6 hlo
        go_wp2_with fail
        refine (SO.out _).mono ?_
        rintro e w' ⟨rfl, rfl⟩
        go_wp2_with fail
        exact bodyPost_ret (v := .tuple #[.agg #[.int .i64 0, .slice none 0 0, .slice none 0 0], .bool false]) (results_row_slot Try.results85 _ _ r _ _ _ _ _ rfl rfl R7.out Try.underlying110 rfl (by kernel_rfl)) rfl ⟨0, [], [], false, _, _, NO.out, rfl, G7.out, Own.none_ _ _, Own.none_ _ _, .inl rfl⟩
end Go.Proofs.Ythglkgicckodaaa
