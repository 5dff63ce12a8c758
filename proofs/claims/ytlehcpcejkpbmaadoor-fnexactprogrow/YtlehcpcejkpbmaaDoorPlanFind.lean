/-
  The program's search for a plan: whether there is one, and which.
  Conditions: none.
-/
import Derived.Test.YtlehcpcejkpbmaaDoorChoose2
import Derived.Test.YtlehcpcejkpbmaaDoorPlanMake
namespace Go.Proofs.YtlehcpcejkpbmaaDoor
open Go.RowKit Go.Shelf
set_option linter.unusedVariables false
set_option linter.unusedSimpArgs false
attribute [local go_sem] Oper.semAt_some

/-- what the search leaves. -/
def PlanOut (k lost : Nat) (f : List Bool) (w : World) (e : Ending) (w' : World) : Prop :=
  w.grownBy w' none ∧ ((∃ S c u v, Sp.planM k lost f = some S ∧ Sp.PlanBy k lost S c ∧ e = .returned (.tuple #[.agg #[.int .i64 lost, u, v], .bool true]) ∧ TwoOwn w' w.heap.size u v (Sp.ints S) c) ∨
    (Sp.planM k lost f = none ∧ e = .returned (.tuple #[.agg #[.int .i64 0, .slice none 0 0, .slice none 0 0], .bool false])))

/-- what 'by' tells of a set. -/
def Times (k lost : Nat) (x : List Bool) (w : World) (e : Ending) (w' : World) : Prop :=
  ∃ (c : List Int) (b : Bool), c.length = 8 ∧ e = .returned (.tuple #[.agg (vals c).toArray, .bool b]) ∧ b = Sp.mk k lost x ∧ (b = true → Sp.IsBy (Sp.padd k x) (Sp.crow k lost) c) ∧ w.grownBy w' none

/-- marks of loops that are over, at the function's end. -/
def marks_ (Ds : List Nat) : List Deferred := Ds.map fun D => { target := .collected D, args := #[] }
theorem leave_marks {n : Nat} {fn : Func} {tmps : Array Value} {R : Ending → World → Prop} (B : Nat) (I : World → Prop) (hI : ∀ W D, I W → B ≤ D → W.heap[D]? = some (.deferred (some [])) → I (W.putObj D (.deferred none)))
    (hR : ∀ W, I W → ∃ v, (results fn tmps).run Tryd.prog W = .ok v W ∧ R (.returned v) W) :
    ∀ (Ds : List Nat), Ds.Nodup → ∀ W, I W → (∀ D ∈ Ds, B ≤ D ∧ W.heap[D]? = some (.deferred (some []))) → LeavesInM Fence.wide n Tryd.prog fn tmps R (marks_ Ds) .returning W
  | [], _, W, h, _ => hR W h
  | D :: Ds, hn, W, h, hd => by
    have h1 := hd D (by simp)
    refine ⟨by simp, .inl ⟨D, _, rfl, run_takeDeferred h1.2, ?_⟩⟩
    have hn' := List.nodup_cons.1 hn
    refine leave_marks B I hI hR Ds hn'.2 _ (hI W D h h1.1 h1.2) fun E hE => ?_
    have hne : E ≠ D := fun e => by subst e; exact hn'.1 hE
    exact ⟨(hd E (by simp [hE])).1, by rw [World.putObj_heap_other hne]; exact (hd E (by simp [hE])).2⟩

theorem own_other {w : World} {base r : Nat} {v : Value} {l : List Int} {o : Obj} (h : Own w base v l) (hr : w.heap[r]? = some o) (hc : Obj.isCells o = false) : v.ownBlock = none ∨ v.ownBlock ≠ some r := by
  rcases h.2 with h0 | ⟨g, cap, cur, hv, hg, hb, _⟩
  · left; rw [h0.1]; rfl
  · right
    intro e
    rw [hv] at e
    injection e with e
    subst e
    rw [hr] at hb
    injection hb with hb
    subst hb
    cases hc
theorem yields_row {P : Program} {ops : Array Oper} {S : World → Prop} {o : Oper} {a : Act} (ty : TypeId) (x : Operand) (ho : o.op = .load ty x) (hw : Region.wanted o (yielded ops a.tmps) = true) (g : Nat) (hx : a.eval x = .pointer (some ⟨g, 0, none⟩)) (t : TypeId) (cs : Array Value) (d : TypeDesc)
    (hS : ∀ W, S W → W.heap[g]? = some (.cells cs t (0, 0))) (hu : P.underlying ty = some d) (hd : (match d with | .struct _ | .array _ _ => true | _ => false) = true) (hi : (P.info? ty).map (·.size) = some cs.size) : YieldsIf P ops S o (.agg cs) a := by
  refine .inl ⟨hw, fun W hW => ?_⟩
  unfold execOp
  simp only [ho, hx, Instr.loadAt, Instr.sureAddr, Sem.run_bind, Sem.run_pure, Result.andThen_ok, run_loadVar_row W g t ty cs (0, 0) d (hS W hW) hu hd hi]
theorem ready_one {P : Program} {md : Region.Mode} {ops : Array Oper} {Q : Exit → Act → World → Prop} {S : World → Prop} {fuel i : Nat} {listed : Array Bool} {a : Act} {w : World} {o : Oper} (hr : Region.ready md ops listed = [i]) (ho : ops[i]? = some o) (hw : Region.wanted o (yielded ops a.tmps) = true)
    (h : o.wp P a w (fun a' w' => S w' ∧ wpAnyH P md ops Q S fuel (listed.setIfInBounds i true) a' w') Q) : wpAnyH P md ops Q S (fuel + 1) listed a w :=
  wpAnyH_all hr (by simp) (fun j hj => by
    obtain rfl : j = i := by simpa using hj
    unfold wpOp
    rw [ho]
    simp only [hw, if_true]
    exact .inl h)
theorem ready_two {P : Program} {md : Region.Mode} {ops : Array Oper} {Q : Exit → Act → World → Prop} {S : World → Prop} {fuel i k : Nat} {listed : Array Bool} {a : Act} {w : World} {o p : Oper} (hr : Region.ready md ops listed = [i, k]) (ho : ops[i]? = some o) (hp : ops[k]? = some p) (hw : Region.wanted o (yielded ops a.tmps) = true) (hv : Region.wanted p (yielded ops a.tmps) = true)
    (h : o.wp P a w (fun a' w' => S w' ∧ wpAnyH P md ops Q S fuel (listed.setIfInBounds i true) a' w') Q) (h' : p.wp P a w (fun a' w' => S w' ∧ wpAnyH P md ops Q S fuel (listed.setIfInBounds k true) a' w') Q) : wpAnyH P md ops Q S (fuel + 1) listed a w :=
  wpAnyH_all hr (by simp) (fun j hj => by
    rcases (by simpa using hj : j = i ∨ j = k) with rfl | rfl
    · unfold wpOp
      rw [ho]
      simp only [hw, if_true]
      exact .inl h
    · unfold wpOp
      rw [hp]
      simp only [hv, if_true]
      exact .inl h')
theorem call_wp {P : Program} {o : Oper} {a : Act} {w : World} {K : Act → World → Prop} {Q : Exit → Act → World → Prop} {f : FuncId} {args : Array Value} (hr : (execOp a.eval o).run P w = .ok (.enter f args) w) (h : Calls P f args w fun e w' => ∃ v, e = .returned v ∧ K (a.put o.dst v) w') : o.wp P a w K Q := by
  unfold Oper.wp
  rw [hr]
  exact h.mono fun e w' ⟨v, he, hk⟩ => by subst he; exact hk
theorem value_wp {P : Program} {o : Oper} {a : Act} {w w' : World} {K : Act → World → Prop} {Q : Exit → Act → World → Prop} {v : Value} (hr : (execOp a.eval o).run P w = .ok (.value v) w') (h : K (a.put o.dst v) w') : o.wp P a w K Q := by
  unfold Oper.wp
  rw [hr]
  exact h

theorem take_ {P : Program} {md : Region.Mode} {ops : Array Oper} {Q : Exit → Act → World → Prop} {S : World → Prop} (i : Nat) (d : Option Tmp) (v : Value) {oi : Oper} {fuel : Nat} {listed : Array Bool} {a : Act} {w : World} (hi : ops[i]? = some oi) (hd : oi.dst = d)
    (hs : Region.noSelect ops = true) (hf : Region.free md ops listed i = true) (hr : (Region.ready md ops listed).contains i = true)
    (hQ : ∀ c a w, Q (.panic c) (a.put d v) w → Q (.panic c) a w) (hy : YieldsIf P ops S oi v a) (hS : S w)
    (h : wpAnyH P md ops Q S fuel (listed.setIfInBounds i true) (a.put d v) w) : wpAnyH P md ops Q S (fuel + 1) listed a w := by
  subst hd
  exact wpAnyH_take hi hs hf hr hQ hy hS h
theorem call_at {P : Program} {o : Oper} {a : Act} {w : World} {K : Act → World → Prop} {Q : Exit → Act → World → Prop} (d : Option Tmp) {f : FuncId} {args : Array Value} (hd : o.dst = d) (hr : (execOp a.eval o).run P w = .ok (.enter f args) w) (h : Calls P f args w fun e w' => ∃ v, e = .returned v ∧ K (a.put d v) w') : o.wp P a w K Q := by
  subst hd
  exact call_wp hr h
theorem value_at {P : Program} {o : Oper} {a : Act} {w : World} {K : Act → World → Prop} {Q : Exit → Act → World → Prop} (d : Option Tmp) (v : Value) (w' : World) (hd : o.dst = d) (hr : (execOp a.eval o).run P w = .ok (.value v) w') (h : K (a.put d v) w') : o.wp P a w K Q := by
  subst hd
  exact value_wp hr h
theorem store_at {P : Program} {o : Oper} {a : Act} {w : World} {K : Act → World → Prop} {Q : Exit → Act → World → Prop} (d : Option Tmp) (ty : TypeId) (x y : Operand) (ho : o.op = .store ty x y) (hd : o.dst = d)
    (g : Nat) (cells : Array Value) (hx : a.eval x = .pointer (some ⟨g, 0, none⟩)) (hy : a.eval y = .agg cells)
    (t : TypeId) (old : Array Value) (hg : w.heap[g]? = some (.cells old t (0, 0))) (hi : (P.info? ty).map (·.size) = some cells.size)
    (hold : old.size = cells.size) (h1 : cells.all (·.oneCell') = true)
    (h : K (a.put d undef) (w.setRow g cells)) : o.wp P a w K Q := by
  subst hd
  exact wp_store_row ty x y ho g cells hx hy t old hg hi hold h1 h
theorem grown_setRow {w : World} {g : Nat} {t : TypeId} {old : Array Value} (h : w.heap[g]? = some (.cells old t (0, 0))) (cs : Array Value) : w.grownBy (w.setRow g cs) (some g) :=
  ⟨rfl, rfl, rfl, by simp, fun i hi hne => setRow_other w g i cs (fun e => hne (by rw [e]))⟩
theorem arr_row {w : World} {g : Nat} {t : TypeId} {old : Array Value} {c : List Int} (h : w.heap[g]? = some (.cells old t (0, 0))) : Arr (w.setRow g (vals c).toArray) g t c := setRow_heap w g old _ t (0, 0) h
/-- what a round leaves that has found a plan. -/
structure Got (k lost : Nat) (w : World) (Ds : List Nat) (B bp bb : Nat) (pre : List Fl8) (W : World) : Prop where
  grown : w.grownBy W none
  marks : ∀ D ∈ Ds, W.heap[D]? = some (.deferred (some []))
  is : ∃ pre' x c u v, pre = pre' ++ [x] ∧ (∀ y ∈ pre', Sp.mk k lost y.1 = false) ∧ Sp.mk k lost x.1 = true ∧ Sp.IsBy (Sp.padd k x.1) (Sp.crow k lost) c ∧
    Blk W bp 25 [.int .i64 lost, u, v] ∧ Blk W bb 4 [.bool true] ∧ TwoOwn W B u v (Sp.ints (Sp.taken c 8)) (Sp.nums c (Sp.taken c 8))
theorem kept_low {W W' : World} {D : Nat} {o : Obj} {row : Option Nat} (h : W.heap[D]? = some o) (hg : W.grownBy W' row) (hr : row ≠ some D) : W'.heap[D]? = some o :=
  (hg.block D (Array.getElem?_eq_some_iff.1 h).1 (fun e => hr e.symm)).trans h
theorem Got.kept {k lost : Nat} {w : World} {Ds : List Nat} {B bp bb : Nat} {pre : List Fl8} {W W' : World} {row : Option Nat} (h : Got k lost w Ds B bp bb pre W) (hg : W.grownBy W' row) (hlow : ∀ r, row = some r → w.heap.size ≤ r)
    (hrow : ∀ r, row = some r → ∃ o : Obj, W.heap[r]? = some o ∧ o.isCells = false) (hD : ∀ D ∈ Ds, row ≠ some D) (hp : row ≠ some bp) (hb : row ≠ some bb) : Got k lost w Ds B bp bb pre W' := by
  obtain ⟨pre', x, c, u, v, h1, h2, h3, h4, h5, h6, h7⟩ := h.is
  have key : ∀ {z : Value} {l : List Int}, Own W B z l → Own W' B z l := fun {z l} ho => by
    cases hq : row with
    | none => subst hq; exact ho.still hg
    | some r =>
      subst hq
      obtain ⟨o, ho', hc⟩ := hrow r rfl
      exact ho.kept hg (own_other ho ho' hc)
  exact ⟨grown_own h.grown hg hlow, fun D hd => kept_low (h.marks D hd) hg (hD D hd), pre', x, c, u, v, h1, h2, h3, h4, h5.kept hg (fun e => hp e.symm), h6.kept hg (fun e => hb e.symm), key h7.1, key h7.2.1, h7.2.2⟩
theorem find_got {k lost : Nat} {f : List Bool} {f' : Fl8} (hf' : f'.1 = f.set lost false) {n : Nat} {pre' : List Fl8} {x : Fl8} (hp : pre' ++ [x] <+: subsX f'.1 (n + 1) none8 0) (hno : ∀ y ∈ pre', Sp.mk k lost y.1 = false) (hx : Sp.mk k lost x.1 = true) : Sp.planF k lost f n = some x.1 := by
  unfold Sp.planF
  rw [← hf', ← none8_flag, ← subsX_val]
  obtain ⟨r, hr⟩ := hp
  rw [← hr, List.map_append, List.map_append, List.find?_append, List.find?_append]
  have h1 : (pre'.map Subtype.val).find? (Sp.mk k lost) = none := by
    rw [List.find?_eq_none]
    intro y hy
    obtain ⟨z, hz, rfl⟩ := List.mem_map.1 hy
    rw [hno z hz]; simp
  rw [h1]
  simp [List.find?_cons, hx]
theorem find_no {k lost : Nat} {f : List Bool} {f' : Fl8} (hf' : f'.1 = f.set lost false) {n : Nat} (hno : ∀ y ∈ subsX f'.1 (n + 1) none8 0, Sp.mk k lost y.1 = false) : Sp.planF k lost f n = none := by
  unfold Sp.planF
  rw [← hf', ← none8_flag, ← subsX_val, List.find?_eq_none]
  intro y hy
  obtain ⟨z, hz, rfl⟩ := List.mem_map.1 hy
  rw [hno z hz]; simp
/-- what the round's first lines read. -/
structure Held (k lost bg bl Bx : Nat) (x : List Bool) (W : World) : Prop where
  arr : Arr W bg 85 (grid k)
  set : BArr W Bx 191 x
  lost : W.cell? ⟨bl, 0, none⟩ = some (.int .i64 lost)
theorem Held.keep {k lost bg bl Bx : Nat} {x : List Bool} {W W' : World} {r : Option Nat} (h : Held k lost bg bl Bx x W) (hg : W.grownBy W' r) (h1 : some bg ≠ r) (h2 : some Bx ≠ r) (h3 : some bl ≠ r) : Held k lost bg bl Bx x W' :=
  ⟨h.arr.kept hg h1, h.set.kept hg h2, hg.cell h.lost h3⟩
theorem Held.row {k lost bg bl Bx : Nat} {x : List Bool} {W : World} (h : Held k lost bg bl Bx x W) (GG : ∀ i, i < 4 → (grid k).getD (lost * 4 + i) 0 = (Sp.crow k lost).getD i 0) {x0 x1 x2 x3 : Int} (hc : Sp.crow k lost = [x0, x1, x2, x3]) (GL : (grid k).length = 32) (hl : lost < 8) :
    W.cell? ⟨bg, lost * 4, none⟩ = some (.int .i64 x0) ∧ W.cell? ⟨bg, lost * 4 + 1, none⟩ = some (.int .i64 x1) ∧ W.cell? ⟨bg, lost * 4 + 2, none⟩ = some (.int .i64 x2) ∧ W.cell? ⟨bg, lost * 4 + 3, none⟩ = some (.int .i64 x3) := by
  have key : ∀ i, i < 4 → W.cell? ⟨bg, lost * 4 + i, none⟩ = some (.int .i64 ((Sp.crow k lost).getD i 0)) := fun i hi => by rw [h.arr.cell (by omega), GG i hi]
  rw [hc] at key
  exact ⟨key 0 (by omega), key 1 (by omega), key 2 (by omega), key 3 (by omega)⟩

end Go.Proofs.YtlehcpcejkpbmaaDoor
