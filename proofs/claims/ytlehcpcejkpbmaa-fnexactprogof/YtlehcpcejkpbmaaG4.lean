/-
  Texts of earlier chapters, one behind the other; each says what it holds.
  Conditions: none.
-/
import Derived.Test.YtlehcpcejkpbmaaG3
import Derived.Test.YtlehcpcejkpbmaaG2
import Derived.Test.YtlehcpcejkpbmaaG1
import Derived.Test.YtlehcpcejkpbmaaAppendZeros
import Derived.Deep.AppendLies
import Derived.Deep.RegionHeld3
import Derived.Maps.AppendAt

/-
  The contracts of what the laws of chapter 4 draw: which shards are there; a kind and which are there.
  Conditions: the reader has been read at most a million times.
-/
namespace Go.Proofs.Ytlehcpcejkpbmaa
open Go.RowKit
set_option linter.unusedVariables false

theorem BOwn.far {w w' : World} {base c : Nat} {v : Value} {l : List Bool} (h : BOwn w base v l) (hf : Far c w w') (hc : c < base) : BOwn w' base v l :=
  h.kept (far_grown hf) (.inr fun e => by have := (World.ownsRow.lt h c e).1; omega)
/-- a slice that reads as flags, its cells in blocks from B on. -/
def BlUp (w : World) (B : Nat) (v : Value) (l : List Bool) : Prop := Bl w v l ∧ ∀ x n cap, v = .slice (some x) n cap → B ≤ x.block
theorem BlUp.far {w w' : World} {B c : Nat} {v : Value} {l : List Bool} (h : BlUp w B v l) (hf : Far c w w') (hc : c < B) : BlUp w' B v l := by
  refine ⟨?_, h.2⟩
  obtain ⟨a, cap, rfl, h1, h2, hr⟩ := h.1
  refine ⟨a, cap, rfl, h1, h2, ?_⟩
  rcases hr with h0 | ⟨b, o, rfl, hr⟩
  · exact .inl h0
  · have hb : B ≤ b := h.2 _ _ _ rfl
    refine .inr ⟨b, o, rfl, fun i hi => ?_⟩
    have hx := hr i hi
    exact (hf.cell (p := ⟨b, o + i, none⟩) (lt_of_cell hx) (by show b ≠ c; omega)).trans hx
theorem BOwn.up {w : World} {base : Nat} {v : Value} {l : List Bool} (h : BOwn w base v l) : BlUp w base v l := by
  refine ⟨h.bl, fun x n cap e => ?_⟩
  subst e
  exact (World.ownsRow.lt h x.block rfl).1
theorem BOwn.eight {w : World} {base : Nat} {v : Value} {l : List Bool} (h : BOwn w base v l) (h8 : l.length = 8) :
    ∃ g cap, v = .slice (some ⟨g, 0, none⟩) 8 cap ∧ base ≤ g ∧ g < w.heap.size ∧ 8 ≤ cap ∧ cap ≤ maxLen ∧ (∀ j, j < 8 → w.cell? ⟨g, j, none⟩ = some (.bool (l.getD j false))) ∧ ∀ j, w.frozen? ⟨g, j, none⟩ = false := by
  unfold BOwn at h
  rw [h8] at h
  rcases h.2 with ⟨_, h0⟩ | ⟨g, cap, cur, rfl, hb, hg, h1, h2, h3, ht⟩
  · omega
  · refine ⟨g, cap, rfl, hb, (Array.getElem?_eq_some_iff.1 hg).1, h1, h2, fun j hj => ?_, fun j => World.ownsRow.frozenAt h j⟩
    have hc := World.ownsRow.cells h (g := g) rfl j _ (bvals_get l j (by omega))
    rw [Addr.add_lit] at hc
    simpa using hc
theorem BOwn.put {w : World} {base g cap n : Nat} {l : List Bool} (h : BOwn w base (.slice (some ⟨g, 0, none⟩) n cap) l) (hn : n = l.length) (j : Nat) (x : Bool) :
    BOwn (w.setCell ⟨g, j, none⟩ (.bool x)) base (.slice (some ⟨g, 0, none⟩) n cap) (l.set j x) ∧ w.grownBy (w.setCell ⟨g, j, none⟩ (.bool x)) (some g) := by
  subst hn
  have hs := World.ownsRow.stored h j (.bool x)
  refine ⟨?_, hs.2⟩
  have := hs.1
  rw [bvals_set] at this
  unfold BOwn
  rw [List.length_set]
  exact this
/-- flags without the first. -/
theorem BOwn.tail {w : World} {base g cap : Nat} {l : List Bool} (h : BOwn w base (.slice (some ⟨g, 0, none⟩) 8 cap) l) (h8 : l.length = 8) :
    BlUp w base (.slice (some ⟨g, 1, none⟩) 7 (cap - 1)) l.tail := by
  obtain ⟨g', cap', e, hb, _, h1, h2, hc, _⟩ := h.eight h8
  injection e with e1 e2 e3
  injection e1 with e1
  injection e1 with e1
  subst e1 e3
  have e3 : l.tail.length = 7 := by rw [List.length_tail]; omega
  refine ⟨⟨some ⟨g, 1, none⟩, cap - 1, by rw [e3], by omega, by omega, .inr ⟨g, 1, rfl, fun i hi => ?_⟩⟩, fun x n c e => ?_⟩
  · rw [Nat.add_comm 1 i, hc (i + 1) (by omega)]
    congr 2
    cases l with
    | nil => simp at h8
    | cons y l => rfl
  · injection e with e
    injection e with e
    subst e
    exact hb
theorem below_eight {m : Int} (h0 : 0 ≤ m) (h1 : m < 8) : ∃ j : Nat, j < 8 ∧ m = j := ⟨m.toNat, by omega, by omega⟩

/-- what drawing flags leaves. -/
def DrawnThere (c p : Nat) (w : World) (e : Ending) (w' : World) : Prop :=
  ∃ v f, e = .returned v ∧ (f.length = 8 ∨ f.length = 7) ∧ Far c w w' ∧ BlUp w' w.heap.size v f ∧ Rd w' c (p + 10)

/-- a kind, and which are there. -/
def DrawnKT (w : World) (e : Ending) (w' : World) : Prop :=
  ∃ (m : Nat) (v : Value) (f : List Bool), m ≤ 3 ∧ e = .returned (.tuple #[.int .i64 m, v]) ∧ (f.length = 8 ∨ f.length = 7) ∧ Bl w' v f ∧ Below w.heap.size w w'

end Go.Proofs.Ytlehcpcejkpbmaa

/-
  Plain facts on shards that are enough: with one more they are enough still; they are four at least; their rows have rank four.
  Conditions: none.
-/
namespace Go.Proofs.Ytlehcpcejkpbmaa
open Go.RowKit
set_option linter.unusedVariables false

theorem local_more : ∀ n : Nat, n < 256 → ∀ i : Nat, i < 8 → Sp.bears 1 (Sp.bits n) = true → Sp.bears 1 ((Sp.bits n).set i true) = true := by decide +kernel
theorem local_many : ∀ n : Nat, n < 256 → Sp.bears 1 (Sp.bits n) = true → 4 ≤ Sp.many (Sp.bits n) := by decide +kernel
theorem many_set (f : List Bool) (i : Nat) : Sp.many f ≤ Sp.many (f.set i true) := by
  unfold Sp.many
  induction f generalizing i with
  | nil => simp
  | cons b f ih =>
    cases i with
    | zero => cases b <;> simp
    | succ i => simp only [List.set_cons_succ, List.count_cons]; have := ih i; omega
/-- with one more shard they are enough still. -/
theorem bears_set {k : Nat} (hk : k = 1 ∨ k = 2) {f : List Bool} (hf : f.length = 8) {i : Nat} (hi : i < 8) (h : Sp.bears k f = true) : Sp.bears k (f.set i true) = true := by
  rcases hk with rfl | rfl
  · revert h
    exact Sp.by_bits (P := fun f => Sp.bears 1 f = true → Sp.bears 1 (f.set i true) = true) (fun n hn => local_more n hn i hi) hf
  · rw [Sp.wide_any hf, decide_eq_true_eq] at h
    rw [Sp.wide_any (by rw [List.length_set]; exact hf), decide_eq_true_eq]
    exact Nat.le_trans h (many_set f i)
/-- they are four at least. -/
theorem bears_many {k : Nat} (hk : k = 1 ∨ k = 2) {f : List Bool} (hf : f.length = 8) (h : Sp.bears k f = true) : 4 ≤ Sp.many f := by
  rcases hk with rfl | rfl
  · revert h
    exact Sp.by_bits (P := fun f => Sp.bears 1 f = true → 4 ≤ Sp.many f) (fun n hn => local_many n hn) hf
  · rwa [Sp.wide_any hf, decide_eq_true_eq] at h
theorem crows_ok {k : Nat} (hk : k = 1 ∨ k = 2) (f : List Bool) : okM (Sp.crows k f) = true := by
  refine okM_yes ?_ fun i hi => ?_
  · unfold Sp.crows
    rw [List.length_map]
    have := List.length_filter_le (fun i => f.getD i false) (List.range 8)
    rwa [List.length_range] at this
  · have hr := Sp.crows_row hk f
    have e : (Sp.crows k f).getD i [] = (Sp.crows k f)[i] := by simp [List.getD_eq_getElem?_getD, hi]
    rw [e]
    exact Sp.row_ok.2 (hr _ (List.getElem_mem hi))
theorem rank_bears {k : Nat} (hk : k = 1 ∨ k = 2) (f : List Bool) : Sp.bears k f = (rankM (Sp.crows k f) == 4) := by
  rw [rankM_yes (crows_ok hk f)]
  unfold Sp.bears
  rw [Bool.eq_iff_iff, beq_iff_eq, beq_iff_eq]
  omega
end Go.Proofs.Ytlehcpcejkpbmaa

/-
  The contract of all shards of numbers, in the model.
  Conditions: none.
-/
namespace Go.Proofs.Ytlehcpcejkpbmaa
open Go.RowKit
set_option linter.unusedVariables false

/-- all shards of numbers. -/
def allK (k : Nat) (d : List Int) (n : Nat) : List Int := (List.range n).map fun i => Vec.dot (Sp.crow k i) d
theorem allK_len (k : Nat) (d : List Int) (n : Nat) : (allK k d n).length = n := by simp [allK]
theorem allK_next (k : Nat) (d : List Int) (n : Nat) : allK k d n ++ [Vec.dot (Sp.crow k n) d] = allK k d (n + 1) := by
  unfold allK; rw [List.range_succ, List.map_append]; rfl

end Go.Proofs.Ytlehcpcejkpbmaa

/-
  The contracts of what the laws of chapter 4 draw: values of shards, and which are there.
  Conditions: the reader has been read at most a million times.
-/
namespace Go.Proofs.Ytlehcpcejkpbmaa
open Go.RowKit
set_option linter.unusedVariables false

theorem BlUp.kept {w w' : World} {B g : Nat} {v : Value} {l : List Bool} (h : BlUp w B v l) (hg : w.grownBy w' (some g)) (hb : g < B) : BlUp w' B v l := by
  refine ⟨?_, h.2⟩
  obtain ⟨a, cap, rfl, h1, h2, hr⟩ := h.1
  refine ⟨a, cap, rfl, h1, h2, ?_⟩
  rcases hr with h0 | ⟨b, o, rfl, hr⟩
  · exact .inl h0
  · have hb' : B ≤ b := h.2 _ _ _ rfl
    exact .inr ⟨b, o, rfl, fun i hi => hg.cell (hr i hi) (fun e => by injection e with e; have : b = g := e; omega)⟩
theorem Own.eight {w : World} {base : Nat} {v : Value} {l : List Int} (h : Own w base v l) (h8 : l.length = 8) :
    ∃ g cap, v = .slice (some ⟨g, 0, none⟩) 8 cap ∧ base ≤ g ∧ g < w.heap.size ∧ 8 ≤ cap ∧ cap ≤ maxLen ∧ (∀ j, j < 8 → w.cell? ⟨g, j, none⟩ = some (.int .i64 (l.getD j 0))) ∧ ∀ j, w.frozen? ⟨g, j, none⟩ = false := by
  unfold Own at h
  rw [h8] at h
  rcases h.2 with ⟨_, h0⟩ | ⟨g, cap, cur, rfl, hb, hg, h1, h2, h3, ht⟩
  · omega
  · refine ⟨g, cap, rfl, hb, (Array.getElem?_eq_some_iff.1 hg).1, h1, h2, fun j hj => ?_, fun j => World.ownsRow.frozenAt h j⟩
    have hc := World.ownsRow.cells h (g := g) rfl j _ (vals_get l j (by omega))
    rw [Addr.add_lit] at hc
    simpa using hc
theorem Own.put8 {w : World} {base g cap : Nat} {l : List Int} (h : Own w base (.slice (some ⟨g, 0, none⟩) 8 cap) l) (h8 : l.length = 8) (j : Nat) (x : Int) :
    Own (w.setCell ⟨g, j, none⟩ (.int .i64 x)) base (.slice (some ⟨g, 0, none⟩) 8 cap) (l.set j x) ∧ w.grownBy (w.setCell ⟨g, j, none⟩ (.int .i64 x)) (some g) := by
  unfold Own at h
  rw [h8] at h
  have hs := World.ownsRow.stored h j (.int .i64 x)
  refine ⟨own_len (n := 8) ?_ (by rw [List.length_set]; exact h8), hs.2⟩
  rw [← vals_set]
  exact hs.1

/-- a kind, values, and which are there. -/
def DrawnVals (c : Nat) (w : World) (e : Ending) (w' : World) : Prop :=
  ∃ (m : Nat) (u v : Value) (l : List Int) (f : List Bool), m ≤ 3 ∧ e = .returned (.tuple #[.int .i64 m, u, v]) ∧ l.length = 8 ∧ (f.length = 8 ∨ f.length = 7) ∧ Sl w' u l ∧ Bl w' v f ∧ Far c w w'

/-- what drawing for CodeFits leaves. -/
def DrawnFits (w : World) (e : Ending) (w' : World) : Prop :=
  ∃ (m : Nat) (u v : Value) (l : List Int) (f : List Bool), m ≤ 3 ∧ e = .returned (.tuple #[.int .i64 m, u, v]) ∧ l.length = 8 ∧ (f.length = 8 ∨ f.length = 7) ∧ Sl w' u l ∧ Bl w' v f ∧ Below w.heap.size w w'

end Go.Proofs.Ytlehcpcejkpbmaa

/-
  The contract of the model's l3By.
  Conditions: at most eight rows of four numbers.
-/
namespace Go.Proofs.Ytlehcpcejkpbmaa
open Go.RowKit
set_option linter.unusedVariables false

/-- a row is written into the table. -/
theorem STab.set {w : World} {base g cap n : Nat} {us : List Value} {m : List (List Int)} {u : Value} {l : List Int} (h : STab w base (.slice (some ⟨g, 0, none⟩) n cap) us m) (hn : n = us.length) (hu : Sl w u l ∧ IntRow w u) (k : Nat) :
    STab (w.setCell ⟨g, k, none⟩ u) base (.slice (some ⟨g, 0, none⟩) n cap) (us.set k u) (m.set k l) ∧ w.grownBy (w.setCell ⟨g, k, none⟩ u) (some g) := by
  subst hn
  have hs := World.ownsRow.stored h.top k u
  refine ⟨⟨by rw [List.length_set]; exact hs.1, by simp [h.len], fun i x r hx hr => ?_⟩, hs.2⟩
  have hg : w.grownBy (w.setCell ⟨g, k, none⟩ u) (Value.slice (some ⟨g, 0, none⟩) us.length cap).ownBlock := hs.2
  by_cases hi : k = i
  · subst hi
    have h1 : k < us.length := by have := (List.getElem?_eq_some_iff.1 hx).1; simpa using this
    rw [List.getElem?_set_self h1] at hx
    rw [List.getElem?_set_self (by rw [← h.len]; exact h1)] at hr
    injection hx with hx
    injection hr with hr
    subst hx hr
    exact row_kept hu h.top hg
  · rw [List.getElem?_set_ne hi] at hx hr
    exact row_kept (h.rows i x r hx hr) h.top hg

theorem STab.frozen {w : World} {base g cap n : Nat} {us : List Value} {m : List (List Int)} (h : STab w base (.slice (some ⟨g, 0, none⟩) n cap) us m) (k : Nat) : w.frozen? ⟨g, k, none⟩ = false := by
  rcases h.top.2 with ⟨e, _⟩ | ⟨g', cap', cur, e, _, hg, _⟩
  · cases e
  · injection e with e
    injection e with e
    injection e with e
    subst e
    exact frozen_of_row w g k _ _ hg
theorem Rds.news {w : World} {b o : Nat} {l : List Int} (h : Rds w (some ⟨b, o, none⟩) l) : ∀ j u, (vals l)[j]? = some u → w.cell? ((⟨b, o, none⟩ : Addr).add j) = some u := by
  intro j u hj
  have hl : j < l.length := by have := (List.getElem?_eq_some_iff.1 hj).1; rwa [vals_length] at this
  obtain ⟨b', o', e, hc⟩ := h.at_ hl
  injection e with e
  injection e with e1 e2
  subst e1 e2
  rw [vals_get l j hl] at hj
  injection hj with hj
  subst hj
  rw [Addr.add_lit]; exact hc

end Go.Proofs.Ytlehcpcejkpbmaa

/-
  The contracts of the program's sums of shards: values, each so often, together; values of all shards.
  Conditions: none.
-/
namespace Go.Proofs.Ytlehcpcejkpbmaa
open Go.RowKit
set_option linter.unusedVariables false

theorem getD_ok {l : List Int} (h : ∀ x ∈ l, Fld.ok x = true) (n : Nat) : Fld.ok (l.getD n 0) = true := by
  rw [List.getD_eq_getElem?_getD]
  cases e : l[n]? with
  | none => rfl
  | some x => exact h x (List.mem_of_getElem? e)

/-- values of all shards. -/
def shOk (l : List Int) : Bool := decide (l.length = 8) && l.all Fld.ok
def shOr (l : List Int) : List Int := bif shOk l then l else [0, 0, 0, 0, 0, 0, 0, 0]
theorem shOk_row {l : List Int} : shOk l = true ↔ Sp.Row 8 l := by
  simp only [shOk, Bool.and_eq_true, decide_eq_true_eq, List.all_eq_true]
  exact ⟨fun h => ⟨h.1, h.2⟩, fun h => ⟨h.1, h.2⟩⟩
theorem shOk_get {l : List Int} (h8 : l.length = 8) (h : ∀ i, i < 8 → Fld.ok (l.getD i 0) = true) : shOk l = true := by
  refine shOk_row.2 ⟨h8, fun x hx => ?_⟩
  obtain ⟨i, hi, rfl⟩ := List.mem_iff_getElem.1 hx
  have := h i (by omega)
  rwa [List.getD_eq_getElem?_getD, List.getElem?_eq_getElem hi] at this
theorem shOk_not {l : List Int} {i : Nat} (h : Fld.ok (l.getD i 0) = false) : shOk l = false := by
  cases e : shOk l with
  | false => rfl
  | true =>
    have := getD_ok (shOk_row.1 e).2 i
    rw [h] at this; cases this

end Go.Proofs.Ytlehcpcejkpbmaa

/-
  The contract of the program's check that shards fit.
  Conditions: none.
-/
namespace Go.Proofs.Ytlehcpcejkpbmaa
open Go.RowKit
set_option linter.unusedVariables false

/-- a row that is there is made of those that are there. -/
theorem padd_has {k : Nat} (hk : k = 1 ∨ k = 2) {f : List Bool} {n : Nat} (hn : n < 8) (ht : f.getD n false = true) : Sp.has (Sp.padd k f) (Sp.crow k n) = true := by
  refine (Sp.has_iff (Sp.padd_row hk f) (Sp.crow_row hk hn)).2 ?_
  have hl : n < (Sp.padd k f).length := by rw [Sp.padd_len]; exact hn
  have e : (Sp.padd k f).getD n [] = Sp.crow k n := by rw [Sp.padd_get hn, ht]; rfl
  have : Sp.toV (Sp.crow k n) ∈ (Sp.padd k f).map Sp.toV := by
    refine List.mem_map.2 ⟨_, ?_, rfl⟩
    rw [← e, List.getD_eq_getElem?_getD, List.getElem?_eq_getElem hl]
    exact List.getElem_mem hl
  exact Sp.In.mem this

theorem keep17 {w w' : World} (hg : w.grownBy w' none) {ga gt n : Nat} {a0 a1 a2 a3 a4 a5 a6 a7 s0 s1 s2 s3 s4 s5 s6 s7 y : Int} (h : (w.cell? ⟨ga, 0, none⟩ = some (.int .i64 a0) ∧ w.cell? ⟨ga, 1, none⟩ = some (.int .i64 a1) ∧ w.cell? ⟨ga, 2, none⟩ = some (.int .i64 a2) ∧ w.cell? ⟨ga, 3, none⟩ = some (.int .i64 a3) ∧ w.cell? ⟨ga, 4, none⟩ = some (.int .i64 a4) ∧ w.cell? ⟨ga, 5, none⟩ = some (.int .i64 a5) ∧ w.cell? ⟨ga, 6, none⟩ = some (.int .i64 a6) ∧ w.cell? ⟨ga, 7, none⟩ = some (.int .i64 a7)) ∧ (w.cell? ⟨gt, 0, none⟩ = some (.int .i64 s0) ∧ w.cell? ⟨gt, 1, none⟩ = some (.int .i64 s1) ∧ w.cell? ⟨gt, 2, none⟩ = some (.int .i64 s2) ∧ w.cell? ⟨gt, 3, none⟩ = some (.int .i64 s3) ∧ w.cell? ⟨gt, 4, none⟩ = some (.int .i64 s4) ∧ w.cell? ⟨gt, 5, none⟩ = some (.int .i64 s5) ∧ w.cell? ⟨gt, 6, none⟩ = some (.int .i64 s6) ∧ w.cell? ⟨gt, 7, none⟩ = some (.int .i64 s7)) ∧ w.cell? ⟨ga, n, none⟩ = some (.int .i64 y)) :
    (w'.cell? ⟨ga, 0, none⟩ = some (.int .i64 a0) ∧ w'.cell? ⟨ga, 1, none⟩ = some (.int .i64 a1) ∧ w'.cell? ⟨ga, 2, none⟩ = some (.int .i64 a2) ∧ w'.cell? ⟨ga, 3, none⟩ = some (.int .i64 a3) ∧ w'.cell? ⟨ga, 4, none⟩ = some (.int .i64 a4) ∧ w'.cell? ⟨ga, 5, none⟩ = some (.int .i64 a5) ∧ w'.cell? ⟨ga, 6, none⟩ = some (.int .i64 a6) ∧ w'.cell? ⟨ga, 7, none⟩ = some (.int .i64 a7)) ∧ (w'.cell? ⟨gt, 0, none⟩ = some (.int .i64 s0) ∧ w'.cell? ⟨gt, 1, none⟩ = some (.int .i64 s1) ∧ w'.cell? ⟨gt, 2, none⟩ = some (.int .i64 s2) ∧ w'.cell? ⟨gt, 3, none⟩ = some (.int .i64 s3) ∧ w'.cell? ⟨gt, 4, none⟩ = some (.int .i64 s4) ∧ w'.cell? ⟨gt, 5, none⟩ = some (.int .i64 s5) ∧ w'.cell? ⟨gt, 6, none⟩ = some (.int .i64 s6) ∧ w'.cell? ⟨gt, 7, none⟩ = some (.int .i64 s7)) ∧ w'.cell? ⟨ga, n, none⟩ = some (.int .i64 y) := by
  obtain ⟨⟨h0, h1, h2, h3, h4, h5, h6, h7⟩, ⟨k0, k1, k2, k3, k4, k5, k6, k7⟩, hn⟩ := h
  exact ⟨⟨hg.cell h0 (by simp), hg.cell h1 (by simp), hg.cell h2 (by simp), hg.cell h3 (by simp), hg.cell h4 (by simp), hg.cell h5 (by simp), hg.cell h6 (by simp), hg.cell h7 (by simp)⟩, ⟨hg.cell k0 (by simp), hg.cell k1 (by simp), hg.cell k2 (by simp), hg.cell k3 (by simp), hg.cell k4 (by simp), hg.cell k5 (by simp), hg.cell k6 (by simp), hg.cell k7 (by simp)⟩, hg.cell hn (by simp)⟩

/-- what CodeFits' check answers. -/
def FitsOf (k : Nat) (f : List Bool) (a : List Int) (w : World) (e : Ending) (w' : World) : Prop := ∃ q, e = .returned (.bool q) ∧ (q = true ↔ Sp.Fit k f a) ∧ w.grownBy w' none

/-- what CodeFits answers. -/
def FitM (k : Int) (l : List Int) (f : List Bool) : Prop := (k = 1 ∨ k = 2) ∧ shOk l = true ∧ f.length = 8 ∧ Sp.Fit k.toNat f l
def FitsTop (k : Int) (l : List Int) (f : List Bool) (w : World) (e : Ending) (w' : World) : Prop := ∃ q, e = .returned (.bool q) ∧ (q = true ↔ FitM k l f) ∧ w.grownBy w' none
theorem shOr_len (l : List Int) : (shOr l).length = 8 := by
  unfold shOr
  cases h : shOk l with
  | false => rfl
  | true => exact (shOk_row.1 h).1

end Go.Proofs.Ytlehcpcejkpbmaa

/-
  The contract of the program's CodeFits.
  Conditions: none.
-/
namespace Go.Proofs.Ytlehcpcejkpbmaa
open Go.RowKit
set_option linter.unusedVariables false

end Go.Proofs.Ytlehcpcejkpbmaa

/-
  The contracts of CodeFits in the model.
  Conditions: none.
-/
namespace Go.Proofs.Ytlehcpcejkpbmaa
open Go.RowKit
set_option linter.unusedVariables false

/-- no row lies in p's own block. -/
def Away (vs : List Value) (p : Value) : Prop := ∀ x ∈ vs, ∀ ad n c, x = .slice (some ad) n c → p.ownBlock ≠ some ad.block
theorem STab.far {w w' : World} {base : Nat} {v p : Value} {us : List Value} {m : List (List Int)} (h : STab w base v us m) (hg : w.grownBy w' p.ownBlock) (hv : v.ownBlock = none ∨ v.ownBlock ≠ p.ownBlock) (hr : Away us p) : STab w' base v us m := by
  refine ⟨World.ownsRow.kept h.top hg hv, h.len, fun i u l hu hl => ?_⟩
  obtain ⟨⟨a, cap, rfl, h1, h2, h3⟩, hi⟩ := h.rows i u l hu hl
  have hm : Value.slice a l.length cap ∈ us := List.mem_of_getElem? hu
  refine ⟨⟨a, cap, rfl, h1, h2, ?_⟩, fun x n c e => ?_⟩
  · rcases h3 with h3 | ⟨b, o', rfl, h3⟩
    · exact .inl h3
    · exact .inr ⟨b, o', rfl, fun i hi' => hg.cell (h3 i hi') (fun e => hr _ hm _ _ _ rfl e.symm)⟩
  · obtain ⟨cur, fr, hx⟩ := hi x n c e
    exact ⟨cur, fr, (hg.block _ (Array.getElem?_eq_some_iff.1 hx).1 (fun e' => hr _ hm _ _ _ e e'.symm)).trans hx⟩
theorem STab.below {w : World} {base : Nat} {v : Value} {us : List Value} {m : List (List Int)} (h : STab w base v us m) : ∀ x ∈ us, ∀ ad n c, x = .slice (some ad) n c → ad.block < w.heap.size := by
  intro x hx ad n c e
  obtain ⟨i, hi, rfl⟩ := List.mem_iff_getElem.1 hx
  have hl : i < m.length := by rw [← h.len]; exact hi
  obtain ⟨cur, fr, hh⟩ := (h.rows i us[i] m[i] (List.getElem?_eq_getElem hi) (List.getElem?_eq_getElem hl)).2 ad n c e
  exact (Array.getElem?_eq_some_iff.1 hh).1

end Go.Proofs.Ytlehcpcejkpbmaa
