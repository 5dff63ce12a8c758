/-
  What this claim wants of the texts of earlier chapters.
  Conditions: none.
-/
import Derived.Test.YthglkgicckodaaaZStripeMath
import Derived.Deep.MidRow
import Derived.Maps.RangeWalk
namespace Go.Proofs.Ythglkgicckodaaa
open Go.RowKit Go.ChangeShapes
set_option linter.unusedVariables false
theorem app_at {α : Type} (A B : List α) {n : Nat} (i : Nat) (h : A.length = n) : (A ++ B)[n + i]? = B[i]? := by
  subst h
  rw [List.getElem?_append_right (by omega)]
  congr 1
  omega
theorem app_set {α : Type} (A B : List α) {n : Nat} (i : Nat) (x : α) (h : A.length = n) : (A ++ B).set (n + i) x = A ++ B.set i x := by
  subst h
  rw [List.set_append_right _ _ (by omega)]
  congr 2
  omega
def stv (k : Int) (L a v : List Int) (F : List Bool) : List Value := [.int .i64 k] ++ (vals L ++ (vals a ++ (vals v ++ bvals F)))
structure SLen (L a v : List Int) (F : List Bool) : Prop where
  l : L.length = 32
  a : a.length = 8
  v : v.length = 8
  f : F.length = 8
section
variable {k : Int} {L a v : List Int} {F : List Bool}
theorem stv_len (h : SLen L a v F) : (stv k L a v F).length = 57 := by
  simp [stv, vals_length, bvals_length, h.l, h.a, h.v, h.f]
theorem stv_size (h : SLen L a v F) : (stv k L a v F).toArray.size = 57 := by rw [List.size_toArray]; exact stv_len h
theorem stv_one : ∀ u ∈ stv k L a v F, u.oneCell' = true := by
  intro u hu
  simp only [stv, List.mem_append, List.mem_singleton] at hu
  rcases hu with rfl | hu | hu | hu | hu
  · rfl
  · exact vals_one _ _ hu
  · exact vals_one _ _ hu
  · exact vals_one _ _ hu
  · exact bvals_one _ _ hu
theorem stv_code (h : SLen L a v F) {i : Nat} (hi : i < 32) : (stv k L a v F)[1 + i]? = some (.int .i64 (L.getD i 0)) := by
  unfold stv
  rw [app_at (n := 1) [_] _ i rfl, List.getElem?_append_left (by rw [vals_length, h.l]; exact hi), vals_get _ _ (by rw [h.l]; exact hi)]
theorem stv_val (h : SLen L a v F) {i : Nat} (hi : i < 8) : (stv k L a v F)[33 + i]? = some (.int .i64 (a.getD i 0)) := by
  unfold stv
  rw [show 33 + i = 1 + (32 + i) by omega, app_at (n := 1) [_] _ (32 + i) rfl, app_at _ _ i (by rw [vals_length, h.l]), List.getElem?_append_left (by rw [vals_length, h.a]; exact hi), vals_get _ _ (by rw [h.a]; exact hi)]
theorem stv_ver (h : SLen L a v F) {i : Nat} (hi : i < 8) : (stv k L a v F)[41 + i]? = some (.int .i64 (v.getD i 0)) := by
  unfold stv
  rw [show 41 + i = 1 + (32 + (8 + i)) by omega, app_at (n := 1) [_] _ _ rfl, app_at _ _ _ (by rw [vals_length, h.l]), app_at _ _ _ (by rw [vals_length, h.a]), List.getElem?_append_left (by rw [vals_length, h.v]; exact hi), vals_get _ _ (by rw [h.v]; exact hi)]
theorem stv_there (h : SLen L a v F) {i : Nat} (hi : i < 8) : (stv k L a v F)[49 + i]? = some (.bool (F.getD i false)) := by
  unfold stv
  rw [show 49 + i = 1 + (32 + (8 + (8 + i))) by omega, app_at (n := 1) [_] _ _ rfl, app_at _ _ _ (by rw [vals_length, h.l]), app_at _ _ _ (by rw [vals_length, h.a]), app_at _ _ _ (by rw [vals_length, h.v]), bvals_get _ _ (by rw [h.f]; exact hi)]
theorem stv_set_val (h : SLen L a v F) {i : Nat} (hi : i < 8) (x : Int) : (stv k L a v F).set (33 + i) (.int .i64 x) = stv k L (a.set i x) v F := by
  unfold stv
  rw [show 33 + i = 1 + (32 + i) by omega, app_set (n := 1) [_] _ _ _ rfl, app_set _ _ _ _ (by rw [vals_length, h.l]), List.set_append_left _ _ (by rw [vals_length, h.a]; exact hi), vals_set]
theorem stv_set_ver (h : SLen L a v F) {i : Nat} (hi : i < 8) (x : Int) : (stv k L a v F).set (41 + i) (.int .i64 x) = stv k L a (v.set i x) F := by
  unfold stv
  rw [show 41 + i = 1 + (32 + (8 + i)) by omega, app_set (n := 1) [_] _ _ _ rfl, app_set _ _ _ _ (by rw [vals_length, h.l]), app_set _ _ _ _ (by rw [vals_length, h.a]), List.set_append_left _ _ (by rw [vals_length, h.v]; exact hi), vals_set]
theorem stv_set_there (h : SLen L a v F) {i : Nat} (hi : i < 8) (x : Bool) : (stv k L a v F).set (49 + i) (.bool x) = stv k L a v (F.set i x) := by
  unfold stv
  rw [show 49 + i = 1 + (32 + (8 + (8 + i))) by omega, app_set (n := 1) [_] _ _ _ rfl, app_set _ _ _ _ (by rw [vals_length, h.l]), app_set _ _ _ _ (by rw [vals_length, h.a]), app_set _ _ _ _ (by rw [vals_length, h.v]), bvals_set]
theorem SLen.setA (h : SLen L a v F) (i : Nat) (x : Int) : SLen L (a.set i x) v F := ⟨h.l, by rw [List.length_set]; exact h.a, h.v, h.f⟩
theorem SLen.setV (h : SLen L a v F) (i : Nat) (x : Int) : SLen L a (v.set i x) F := ⟨h.l, h.a, by rw [List.length_set]; exact h.v, h.f⟩
theorem SLen.setF (h : SLen L a v F) (i : Nat) (x : Bool) : SLen L a v (F.set i x) := ⟨h.l, h.a, h.v, by rw [List.length_set]; exact h.f⟩
end
def SB (w : World) (g : Nat) (k : Int) (L a v : List Int) (F : List Bool) : Prop := w.heap[g]? = some (.cells (stv k L a v F).toArray 94 (0, 0))
namespace SB
variable {w w' : World} {g : Nat} {k : Int} {L a v : List Int} {F : List Bool}
theorem lt (h : SB w g k L a v F) : g < w.heap.size := (Array.getElem?_eq_some_iff.1 h).1
theorem new (w : World) (k : Int) (L a v : List Int) (F : List Bool) : SB (w.alloc (.cells (stv k L a v F).toArray 94)) w.heap.size k L a v F := heap_alloc_new w _
theorem alloc (h : SB w g k L a v F) (o : Obj) : SB (w.alloc o) g k L a v F := (Below.heap_alloc w o g h.lt).trans h
theorem drew (h : SB w g k L a v F) : SB w.drew g k L a v F := h
theorem kept {r : Option Nat} (h : SB w g k L a v F) (hg : w.grownBy w' r) (hr : some g ≠ r) : SB w' g k L a v F := (hg.block g h.lt hr).trans h
theorem still (h : SB w g k L a v F) (hg : w.grownBy w' none) : SB w' g k L a v F := h.kept hg (by simp)
theorem far (h : SB w g k L a v F) {p : Addr} (hp : g ≠ p.block) (u : Value) : SB (w.setCell p u) g k L a v F := (Below.heap_setCell w p u g hp).trans h
theorem frozen (h : SB w g k L a v F) (i : Nat) : w.frozen? ⟨g, i, none⟩ = false := frozen_of_row w g i _ _ h
theorem at_ (h : SB w g k L a v F) (i : Nat) : w.cell? ⟨g, i, none⟩ = (stv k L a v F)[i]? := by
  rw [cell_of_row w g i _ _ (0, 0) h]; simp
theorem kind (h : SB w g k L a v F) : w.cell? ⟨g, 0, none⟩ = some (.int .i64 k) := by rw [h.at_]; rfl
theorem val (h : SB w g k L a v F) (hl : SLen L a v F) {i : Nat} (hi : i < 8) : w.cell? ⟨g, 33 + i, none⟩ = some (.int .i64 (a.getD i 0)) := by rw [h.at_, stv_val hl hi]
theorem ver (h : SB w g k L a v F) (hl : SLen L a v F) {i : Nat} (hi : i < 8) : w.cell? ⟨g, 41 + i, none⟩ = some (.int .i64 (v.getD i 0)) := by rw [h.at_, stv_ver hl hi]
theorem there (h : SB w g k L a v F) (hl : SLen L a v F) {i : Nat} (hi : i < 8) : w.cell? ⟨g, 49 + i, none⟩ = some (.bool (F.getD i false)) := by rw [h.at_, stv_there hl hi]
theorem code_ (h : SB w g k L a v F) (hl : SLen L a v F) : w.rangeAt g 1 (vals L) := by
  intro j u hu
  have hj : j < 32 := by have := (List.getElem?_eq_some_iff.1 hu).1; rwa [vals_length, hl.l] at this
  rw [vals_get _ _ (by rw [hl.l]; exact hj)] at hu
  rw [h.at_, stv_code hl hj]; exact hu
theorem vals_ (h : SB w g k L a v F) (hl : SLen L a v F) : w.rangeAt g 33 (vals a) := by
  intro j u hu
  have hj : j < 8 := by have := (List.getElem?_eq_some_iff.1 hu).1; rwa [vals_length, hl.a] at this
  rw [vals_get _ _ (by rw [hl.a]; exact hj)] at hu
  rw [h.at_, stv_val hl hj]; exact hu
theorem there_ (h : SB w g k L a v F) (hl : SLen L a v F) : w.rangeAt g 49 (bvals F) := by
  intro j u hu
  have hj : j < 8 := by have := (List.getElem?_eq_some_iff.1 hu).1; rwa [bvals_length, hl.f] at this
  rw [bvals_get _ _ (by rw [hl.f]; exact hj)] at hu
  rw [h.at_, stv_there hl hj]; exact hu
theorem put (h : SB w g k L a v F) (i : Nat) (u : Value) {k' : Int} {L' a' v' : List Int} {F' : List Bool} (e : (stv k L a v F).set i u = stv k' L' a' v' F') : SB (w.setCell ⟨g, i, none⟩ u) g k' L' a' v' F' := by
  have e1 := heap_setCell_same w g i _ 94 u h
  unfold SB
  rw [e1, ← e]
  simp
theorem putVal (h : SB w g k L a v F) (hl : SLen L a v F) {i : Nat} (hi : i < 8) (x : Int) : SB (w.setCell ⟨g, 33 + i, none⟩ (.int .i64 x)) g k L (a.set i x) v F := h.put _ _ (stv_set_val hl hi x)
theorem putVer (h : SB w g k L a v F) (hl : SLen L a v F) {i : Nat} (hi : i < 8) (x : Int) : SB (w.setCell ⟨g, 41 + i, none⟩ (.int .i64 x)) g k L a (v.set i x) F := h.put _ _ (stv_set_ver hl hi x)
theorem putThere (h : SB w g k L a v F) (hl : SLen L a v F) {i : Nat} (hi : i < 8) (x : Bool) : SB (w.setCell ⟨g, 49 + i, none⟩ (.bool x)) g k L a v (F.set i x) := h.put _ _ (stv_set_there hl hi x)
end SB
theorem infoSt {k : Int} {L a v : List Int} {F : List Bool} (h : SLen L a v F) : (Try.prog.info? 94).map (·.size) = some (stv k L a v F).toArray.size := by rw [stv_size h]; kernel_rfl
theorem infoG {L : List Int} (h : L.length = 32) : (Try.prog.info? 87).map (·.size) = some (vals L).length := by rw [vals_length, h]; kernel_rfl
theorem infoSh {L : List Int} (h : L.length = 8) : (Try.prog.info? 89).map (·.size) = some (vals L).length := by rw [vals_length, h]; kernel_rfl
theorem infoFl {L : List Bool} (h : L.length = 8) : (Try.prog.info? 92).map (·.size) = some (bvals L).length := by rw [bvals_length, h]; kernel_rfl
theorem storeSt (w : World) {k : Int} {L a v : List Int} {F : List Bool} (h : SLen L a v F) : (storeCells ⟨w.heap.size, 0, none⟩ (stv k L a v F) 0).run Try.prog (w.alloc (.cells #[.int .i64 0, .int .i64 0, .int .i64 0, .int .i64 0, .int .i64 0, .int .i64 0, .int .i64 0, .int .i64 0, .int .i64 0, .int .i64 0, .int .i64 0, .int .i64 0, .int .i64 0, .int .i64 0, .int .i64 0, .int .i64 0, .int .i64 0, .int .i64 0, .int .i64 0, .int .i64 0, .int .i64 0, .int .i64 0, .int .i64 0, .int .i64 0, .int .i64 0, .int .i64 0, .int .i64 0, .int .i64 0, .int .i64 0, .int .i64 0, .int .i64 0, .int .i64 0, .int .i64 0, .int .i64 0, .int .i64 0, .int .i64 0, .int .i64 0, .int .i64 0, .int .i64 0, .int .i64 0, .int .i64 0, .int .i64 0, .int .i64 0, .int .i64 0, .int .i64 0, .int .i64 0, .int .i64 0, .int .i64 0, .int .i64 0, .bool false, .bool false, .bool false, .bool false, .bool false, .bool false, .bool false, .bool false] 94)) = .ok () (w.alloc (.cells (stv k L a v F).toArray 94)) := by
  have h1 := run_storeCells_from (P := Try.prog) w.heap.size 94 (stv k L a v F) 0 _ (w.alloc (.cells #[.int .i64 0, .int .i64 0, .int .i64 0, .int .i64 0, .int .i64 0, .int .i64 0, .int .i64 0, .int .i64 0, .int .i64 0, .int .i64 0, .int .i64 0, .int .i64 0, .int .i64 0, .int .i64 0, .int .i64 0, .int .i64 0, .int .i64 0, .int .i64 0, .int .i64 0, .int .i64 0, .int .i64 0, .int .i64 0, .int .i64 0, .int .i64 0, .int .i64 0, .int .i64 0, .int .i64 0, .int .i64 0, .int .i64 0, .int .i64 0, .int .i64 0, .int .i64 0, .int .i64 0, .int .i64 0, .int .i64 0, .int .i64 0, .int .i64 0, .int .i64 0, .int .i64 0, .int .i64 0, .int .i64 0, .int .i64 0, .int .i64 0, .int .i64 0, .int .i64 0, .int .i64 0, .int .i64 0, .int .i64 0, .int .i64 0, .bool false, .bool false, .bool false, .bool false, .bool false, .bool false, .bool false, .bool false] 94)) (heap_alloc_last w _) (by rw [stv_len h]; rfl) stv_one
  rw [h1, World.setRow_alloc_new]
  rfl
theorem grownCell (w : World) (p : Addr) (v : Value) : w.grownBy (w.setCell p v) (some p.block) :=
  ⟨rfl, rfl, rfl, by simp, fun i hi hne => Below.heap_setCell w p v i (fun e => hne (by rw [e]))⟩
theorem grownRow {w : World} {g : Nat} {t : TypeId} {old : Array Value} (h : w.heap[g]? = some (.cells old t (0, 0))) (cs : Array Value) : w.grownBy (w.setRow g cs) (some g) :=
  ⟨rfl, rfl, rfl, by simp, fun i hi hne => setRow_other w g i cs (fun e => hne (by rw [e]))⟩
theorem storeAt {P : Program} {o : Oper} {a : Act} {w : World} {K : Act → World → Prop} {Q : Exit → Act → World → Prop} (d : Option Tmp) (ty : TypeId) (x y : Operand) (ho : o.op = .store ty x y) (hd : o.dst = d)
    (g : Nat) (cells : Array Value) (hx : a.eval x = .pointer (some ⟨g, 0, none⟩)) (hy : a.eval y = .agg cells)
    (t : TypeId) (old : Array Value) (hg : w.heap[g]? = some (.cells old t (0, 0))) (hi : (P.info? ty).map (·.size) = some cells.size)
    (hold : old.size = cells.size) (h1 : cells.all (·.oneCell') = true)
    (h : K (a.put d undef) (w.setRow g cells)) : o.wp P a w K Q := by
  subst hd
  exact wp_store_row ty x y ho g cells hx hy t old hg hi hold h1 h
theorem sbRow {w : World} {g : Nat} {old : Array Value} (h : w.heap[g]? = some (.cells old 94 (0, 0))) (k : Int) (L a v : List Int) (F : List Bool) : SB (w.setRow g (stv k L a v F).toArray) g k L a v F := setRow_heap w g old _ _ (0, 0) h
theorem barrRow {w : World} {g : Nat} {t : TypeId} {old : Array Value} {F : List Bool} (h : w.heap[g]? = some (.cells old t (0, 0))) : BArr (w.setRow g (bvals F).toArray) g t F := setRow_heap w g old _ t (0, 0) h
noncomputable def flagElem (u : Value) : Option (DataW Unit × List MemPlace) :=
  open Classical in if h : ∃ F : List Bool, F.length = 8 ∧ u = .agg (bvals F).toArray then some (.lit (.int .i64 (Sp.num h.choose)), []) else none
theorem bvals_inj {F G : List Bool} (h : bvals F = bvals G) : F = G := by
  induction F generalizing G with
  | nil => cases G with
    | nil => rfl
    | cons y G => cases h
  | cons x F ih => cases G with
    | nil => cases h
    | cons y G =>
      injection h with h1 h2
      injection h1 with h1
      rw [h1, ih h2]
theorem flagElem_mk {F : List Bool} (h : F.length = 8) : flagElem (.agg (bvals F).toArray) = some (.lit (.int .i64 (Sp.num F)), []) := by
  have hx : ∃ G : List Bool, G.length = 8 ∧ Value.agg (bvals F).toArray = .agg (bvals G).toArray := ⟨F, h, rfl⟩
  unfold flagElem
  rw [dif_pos hx]
  have h2 := hx.choose_spec.2
  injection h2 with h2
  have h3 : bvals F = bvals hx.choose := by simpa using congrArg Array.toList h2
  rw [← bvals_inj h3]
theorem flagElem_inv {u : Value} {y : DataW Unit × List MemPlace} (h : flagElem u = some y) : ∃ F : List Bool, F.length = 8 ∧ u = .agg (bvals F).toArray ∧ y = (.lit (.int .i64 (Sp.num F)), []) := by
  unfold flagElem at h
  split at h
  · rename_i hx
    injection h with h
    exact ⟨hx.choose, hx.choose_spec.1, hx.choose_spec.2, h.symm⟩
  · cases h
theorem num_inj {F G : List Bool} (hF : F.length = 8) (hG : G.length = 8) (h : (DataW.lit (.int .i64 (Sp.num F)) : DataW Unit) = .lit (.int .i64 (Sp.num G))) : F = G := by
  injection h with h
  injection h with _ h
  have h1 := (Sp.bits_num hF).1
  have h2 := (Sp.bits_num hG).1
  have h3 : Sp.num F = Sp.num G := by omega
  rw [← h1, ← h2, h3]
structure MapIs (D : DataW Unit) (v : List Int) (f : List Bool) (n : Nat) : Prop where
  map : Maps.IsMap D
  has : ∀ x : Int, Maps.has D (.int .i64 x) = true ↔ ∃ i, i < n ∧ f.getD i false = true ∧ v.getD i 0 = x
  at_ : ∀ x : Int, D.atKey (.int .i64 x) (.lit (.int .i64 (Sp.num (List.replicate 8 false)))) = .lit (.int .i64 (Sp.num (ofP v f x n)))
theorem MapIs.start (v : List Int) (f : List Bool) : MapIs (.map []) v f 0 :=
  ⟨Maps.isMap_empty, fun x => ⟨fun h => (by cases h), fun ⟨i, hi, _⟩ => (by omega)⟩, fun x => by rw [ofP_none]; rfl⟩
theorem MapIs.skip {D : DataW Unit} {v : List Int} {f : List Bool} {n : Nat} (h : MapIs D v f n) (ht : f.getD n false = false) : MapIs D v f (n + 1) := by
  refine ⟨h.map, fun x => (h.has x).trans ⟨fun ⟨i, hi, h1⟩ => ⟨i, by omega, h1⟩, fun ⟨i, hi, h1, h2⟩ => ?_⟩, fun x => ?_⟩
  · by_cases e : i = n
    · subst e; rw [ht] at h1; cases h1
    · exact ⟨i, by omega, h1, h2⟩
  · rw [h.at_ x, ofP_stay (fun hh => by rw [ht] at hh; cases hh.1)]
theorem key_lit (x : Int) (hx : (Lit.int .i64 x).wf = true) : WideAt.IsKeyLit (.int .i64 x) := by
  trivial
theorem MapIs.next {D : DataW Unit} {v : List Int} {f : List Bool} {n : Nat} (h : MapIs D v f n) (hn : n < 8) (ht : f.getD n false = true) (hk : WideAt.IsKeyLit (.int .i64 (v.getD n 0))) :
    MapIs (D.put (.int .i64 (v.getD n 0)) (.lit (.int .i64 (Sp.num ((ofP v f (v.getD n 0) n).set n true))))) v f (n + 1) := by
  refine ⟨h.map.put _ _, fun x => ?_, fun x => ?_⟩
  · by_cases e : x = v.getD n 0
    · subst e
      rw [Maps.has_put_same h.map hk]
      exact ⟨fun _ => ⟨n, by omega, ht, rfl⟩, fun _ => rfl⟩
    · rw [Maps.has_put_other (fun hh => e (by injection hh)), h.has x]
      refine ⟨fun ⟨i, hi, h1⟩ => ⟨i, by omega, h1⟩, fun ⟨i, hi, h1, h2⟩ => ?_⟩
      by_cases e2 : i = n
      · subst e2; exact absurd h2.symm e
      · exact ⟨i, by omega, h1, h2⟩
  · by_cases e : x = v.getD n 0
    · subst e
      rw [Maps.atKey_put_same h.map hk, ofP_on hn ht]
    · rw [Maps.atKey_put_other (fun hh => e (by injection hh)), h.at_ x, ofP_stay (fun hh => e hh.2.symm)]
theorem keyInt {x : Int} (hx : (Lit.int .i64 x).wf = true) : keyOf Try.prog 3 (.int .i64 x) = some (.int .i64 x) := Maps.keyOf_int_mk Try.underlying3 hx
theorem keyedInt : Maps.Keyed Try.prog 3 := Maps.int_keyed Try.underlying3
end Go.Proofs.Ythglkgicckodaaa
