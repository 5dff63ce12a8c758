/-
  What this claim wants of the texts of earlier chapters.
  Conditions: none.
-/
import Derived.Test.YthglkgicckodaaaZReadTop2
import Derived.Test.YthglkgicckodaaaZG4
namespace Go.Proofs.Ythglkgicckodaaa
set_option linter.unusedVariables false
def ofN (v : List Int) (f : List Bool) (x : Int) (n : Nat) : List Bool := (List.range n).map fun i => f.getD i false && v.getD i 0 == x
def ofM (v : List Int) (f : List Bool) (x : Int) : List Bool := ofN v f x 8
theorem ofN_len (v : List Int) (f : List Bool) (x : Int) (n : Nat) : (ofN v f x n).length = n := by simp [ofN]
theorem ofN_get (v : List Int) (f : List Bool) (x : Int) {n i : Nat} (h : i < n) : (ofN v f x n).getD i false = (f.getD i false && v.getD i 0 == x) := by
  simp [ofN, List.getD_eq_getElem?_getD, h]
theorem ofN_snoc (v : List Int) (f : List Bool) (x : Int) (n : Nat) : ofN v f x n ++ [f.getD n false && v.getD n 0 == x] = ofN v f x (n + 1) := by
  simp [ofN, List.range_succ]
theorem ofM_len (v : List Int) (f : List Bool) (x : Int) : (ofM v f x).length = 8 := ofN_len v f x 8
theorem ofM_get (v : List Int) (f : List Bool) (x : Int) {i : Nat} (h : i < 8) : (ofM v f x).getD i false = (f.getD i false && v.getD i 0 == x) := ofN_get v f x h
theorem ofM_on {v : List Int} {f : List Bool} {x : Int} {i : Nat} (h : i < 8) : (ofM v f x).getD i false = true ↔ f.getD i false = true ∧ v.getD i 0 = x := by
  rw [ofM_get v f x h, Bool.and_eq_true, beq_iff_eq]
def ofP (v : List Int) (f : List Bool) (x : Int) (n : Nat) : List Bool := (List.range 8).map fun i => decide (i < n) && (f.getD i false && v.getD i 0 == x)
theorem ofP_len (v : List Int) (f : List Bool) (x : Int) (n : Nat) : (ofP v f x n).length = 8 := by simp [ofP]
theorem ofP_none (v : List Int) (f : List Bool) (x : Int) : ofP v f x 0 = List.replicate 8 false := by
  simp [ofP, List.range_succ, List.replicate]
theorem ofP_all (v : List Int) (f : List Bool) (x : Int) : ofP v f x 8 = ofM v f x := by
  unfold ofP ofM ofN
  exact List.map_congr_left fun i hi => by simp [List.mem_range.1 hi]
theorem ofP_get (v : List Int) (f : List Bool) (x : Int) (n : Nat) {i : Nat} (h : i < 8) : (ofP v f x n).getD i false = (decide (i < n) && (f.getD i false && v.getD i 0 == x)) := by
  simp [ofP, List.getD_eq_getElem?_getD, h]
theorem ofP_stay {v : List Int} {f : List Bool} {x : Int} {n : Nat} (h : ¬ (f.getD n false = true ∧ v.getD n 0 = x)) : ofP v f x (n + 1) = ofP v f x n := by
  unfold ofP
  refine List.map_congr_left fun i hi => ?_
  by_cases e : i = n
  · subst e
    have : (f.getD i false && v.getD i 0 == x) = false := by
      cases h1 : (f.getD i false && v.getD i 0 == x) with
      | false => rfl
      | true => rw [Bool.and_eq_true, beq_iff_eq] at h1; exact absurd h1 h
    rw [this]; simp
  · have e1 : (i < n + 1) ↔ i < n := by omega
    simp [e1]
theorem list_ext8 {a b : List Bool} (ha : a.length = 8) (hb : b.length = 8) (h : ∀ i, i < 8 → a.getD i false = b.getD i false) : a = b := by
  apply List.ext_getElem (by rw [ha, hb])
  intro i h1 h2
  have := h i (by omega)
  simpa [List.getD_eq_getElem?_getD, h1, h2] using this
theorem getD_setB {l : List Bool} (i j : Nat) (x : Bool) (hi : i < l.length) : (l.set i x).getD j false = if i = j then x else l.getD j false := by
  by_cases e : i = j
  · subst e; simp [List.getD_eq_getElem?_getD, hi]
  · simp [List.getD_eq_getElem?_getD, List.getElem?_set_ne e, e]
theorem ofP_on {v : List Int} {f : List Bool} {n : Nat} (hn : n < 8) (ht : f.getD n false = true) : (ofP v f (v.getD n 0) n).set n true = ofP v f (v.getD n 0) (n + 1) := by
  refine list_ext8 (by rw [List.length_set, ofP_len]) (ofP_len _ _ _ _) fun i hi => ?_
  rw [getD_setB _ _ _ (by rw [ofP_len]; exact hn), ofP_get _ _ _ _ hi, ofP_get _ _ _ _ hi]
  by_cases e : n = i
  · subst e; rw [ht]; simp
  · have e1 : (i < n + 1) ↔ i < n := by omega
    simp [e, e1]
def CleanAt (a v : List Int) (f : List Bool) (i : Nat) : Prop := (f.getD i false = true → 1 ≤ v.getD i 0 ∧ v.getD i 0 ≤ 99) ∧ (f.getD i false = false → a.getD i 0 = 0 ∧ v.getD i 0 = 0)
def Clean (a v : List Int) (f : List Bool) : Prop := ∀ i, i < 8 → CleanAt a v f i
def FitAll (k : Nat) (a v : List Int) (f : List Bool) : Prop := ∀ i, i < 8 → f.getD i false = true → Sp.Fit k (ofM v f (v.getD i 0)) a
structure StOk (k : Int) (a v : List Int) (f : List Bool) : Prop where
  kind : k = 1 ∨ k = 2
  sh : shOk a = true
  v8 : v.length = 8
  f8 : f.length = 8
  clean : Clean a v f
  fit : FitAll k.toNat a v f
def topN (v : List Int) : Nat → Int
  | 0 => 0
  | n + 1 => max (topN v n) (v.getD n 0)
theorem topN_none (v : List Int) : ∀ n, 0 ≤ topN v n
  | 0 => Int.le_refl _
  | n + 1 => by have := topN_none v n; unfold topN; omega
theorem topN_ge (v : List Int) : ∀ (n i : Nat), i < n → v.getD i 0 ≤ topN v n
  | 0, i, h => by omega
  | n + 1, i, h => by
    unfold topN
    by_cases e : i = n
    · subst e; omega
    · have := topN_ge v n i (by omega); omega
theorem topN_le {v : List Int} {m : Int} (h0 : 0 ≤ m) : ∀ n, (∀ i, i < n → v.getD i 0 ≤ m) → topN v n ≤ m
  | 0, _ => h0
  | n + 1, h => by
    have h1 := topN_le h0 n fun i hi => h i (by omega)
    have h2 := h n (by omega)
    unfold topN; omega
theorem Clean.nonneg {a v : List Int} {f : List Bool} (h : Clean a v f) {i : Nat} (hi : i < 8) : 0 ≤ v.getD i 0 ∧ v.getD i 0 ≤ 99 := by
  obtain ⟨h1, h2⟩ := h i hi
  cases hf : f.getD i false with
  | true => have := h1 hf; omega
  | false => have := h2 hf; omega
theorem Clean.top {a v : List Int} {f : List Bool} (h : Clean a v f) : 0 ≤ topN v 8 ∧ topN v 8 ≤ 99 := ⟨topN_none v 8, topN_le (by omega) 8 fun i hi => (h.nonneg hi).2⟩
theorem bears_none {k : Int} {f : List Bool} (h : ∀ i, i < 8 → f.getD i false = false) : bearsM k f = false := by
  cases hb : bearsM k f with
  | false => rfl
  | true =>
    obtain ⟨hk, hf, hb⟩ := bearsM_iff.1 hb
    have e : f = List.replicate 8 false := list_ext8 hf (by simp) fun i hi => by
      rw [h i hi, List.getD_eq_getElem?_getD, List.getElem?_replicate, if_pos hi]; rfl
    rw [e] at hb
    rcases hk with rfl | rfl
    · revert hb; decide +kernel
    · revert hb; decide +kernel
theorem bears_some {k : Int} {v : List Int} {f : List Bool} {x : Int} (h : bearsM k (ofM v f x) = true) : ∃ i, i < 8 ∧ f.getD i false = true ∧ v.getD i 0 = x := by
  by_cases hn : ∃ i, i < 8 ∧ (ofM v f x).getD i false = true
  · obtain ⟨i, hi, h1⟩ := hn
    exact ⟨i, hi, (ofM_on hi).1 h1⟩
  · have := bears_none (k := k) (f := ofM v f x) fun i hi => by
      cases hq : (ofM v f x).getD i false with
      | false => rfl
      | true => exact absurd ⟨i, hi, hq⟩ hn
    rw [this] at h; cases h
def Best (k : Int) (v : List Int) (f : List Bool) (x : Int) : Prop :=
  (1 ≤ x ∧ bearsM k (ofM v f x) = true ∧ ∀ y, x < y → bearsM k (ofM v f y) = false) ∨ (x = 0 ∧ ∀ y, 1 ≤ y → bearsM k (ofM v f y) = false)
theorem Best.one {k : Int} {v : List Int} {f : List Bool} {x y : Int} (h : Best k v f x) (h' : Best k v f y) : x = y := by
  rcases h with ⟨h1, h2, h3⟩ | ⟨rfl, h3⟩
  · rcases h' with ⟨h1', h2', h3'⟩ | ⟨rfl, h3'⟩
    · rcases Int.lt_trichotomy x y with hlt | rfl | hlt
      · rw [h3 y hlt] at h2'; cases h2'
      · rfl
      · rw [h3' x hlt] at h2; cases h2
    · rw [h3' x h1] at h2; cases h2
  · rcases h' with ⟨h1', h2', h3'⟩ | ⟨rfl, h3'⟩
    · rw [h3 y h1'] at h2'; cases h2'
    · rfl
theorem Best.pos {k : Int} {v : List Int} {f : List Bool} {x : Int} (h : Best k v f x) (hx : 1 ≤ x) : bearsM k (ofM v f x) = true := by
  rcases h with ⟨_, h, _⟩ | ⟨rfl, _⟩
  · exact h
  · omega
theorem Best.nonneg {k : Int} {v : List Int} {f : List Bool} {x : Int} (h : Best k v f x) : 0 ≤ x := by
  rcases h with ⟨h, _⟩ | ⟨rfl, _⟩ <;> omega
theorem Best.le {k : Int} {a v : List Int} {f : List Bool} {x : Int} (h : Best k v f x) (hc : Clean a v f) : x ≤ 99 := by
  rcases h with ⟨h1, h2, h3⟩ | ⟨rfl, h3⟩
  · obtain ⟨i, hi, _, e⟩ := bears_some h2
    have := (hc.nonneg hi).2
    omega
  · omega
theorem StOk.good {k : Int} {a v : List Int} {f : List Bool} (h : StOk k a v f) {x : Int} (hb : bearsM k (ofM v f x) = true) : FitM k a (ofM v f x) := by
  obtain ⟨i, hi, h1, rfl⟩ := bears_some hb
  exact ⟨h.kind, h.sh, ofM_len _ _ _, h.fit i hi h1⟩
def SReadT (k : Int) (a v : List Int) (f : List Bool) (l : List Int) (x : Int) (b : Bool) : Prop :=
  (b = true ∧ StOk k a v f ∧ 1 ≤ x ∧ Best k v f x ∧ Sp.IsData k.toNat (ofM v f x) a l) ∨ (b = false ∧ l = [] ∧ x = 0 ∧ (StOk k a v f → Best k v f 0))
theorem SReadT.one {k : Int} {a v : List Int} {f : List Bool} {l l' : List Int} {x x' : Int} {b b' : Bool} (h : SReadT k a v f l x b) (h' : SReadT k a v f l' x' b') : l = l' ∧ x = x' ∧ b = b' := by
  rcases h with ⟨rfl, h1, h2, h3, h4⟩ | ⟨rfl, rfl, rfl, h1⟩
  · rcases h' with ⟨rfl, _, _, h3', h4'⟩ | ⟨rfl, rfl, rfl, h1'⟩
    · obtain rfl := h3.one h3'
      exact ⟨h4.one (h1.good (h3.pos h2)).2.2.2 h4', rfl, rfl⟩
    · have := h3.one (h1' h1); omega
  · rcases h' with ⟨rfl, h1', h2', h3', h4'⟩ | ⟨rfl, rfl, rfl, h1'⟩
    · have := h3'.one (h1 h1'); omega
    · exact ⟨rfl, rfl, rfl⟩
def SLoseT (k : Int) (a v : List Int) (f : List Bool) (at_ : Int) (k' : Int) (a' v' : List Int) (f' : List Bool) : Prop :=
  (StOk k a v f ∧ ∃ n : Nat, at_ = n ∧ n < 8 ∧ k' = k ∧ a' = a.set n 0 ∧ v' = v.set n 0 ∧ f' = f.set n false) ∨ (¬ (StOk k a v f ∧ 0 ≤ at_ ∧ at_ < 8) ∧ k' = 0 ∧ a' = [] ∧ v' = [] ∧ f' = [])
theorem SLoseT.one {k : Int} {a v : List Int} {f : List Bool} {at_ k1 k2 : Int} {a1 a2 v1 v2 : List Int} {f1 f2 : List Bool} (h : SLoseT k a v f at_ k1 a1 v1 f1) (h' : SLoseT k a v f at_ k2 a2 v2 f2) : k1 = k2 ∧ a1 = a2 ∧ v1 = v2 ∧ f1 = f2 := by
  rcases h with ⟨h, n, rfl, hn, rfl, rfl, rfl, rfl⟩ | ⟨h, rfl, rfl, rfl, rfl⟩
  · rcases h' with ⟨_, m, e, hm, rfl, rfl, rfl, rfl⟩ | ⟨h', rfl, rfl, rfl, rfl⟩
    · obtain rfl : n = m := by omega
      exact ⟨rfl, rfl, rfl, rfl⟩
    · exact absurd ⟨h, by omega, by omega⟩ h'
  · rcases h' with ⟨h', m, e, hm, rfl, rfl, rfl, rfl⟩ | ⟨h', rfl, rfl, rfl, rfl⟩
    · exact absurd ⟨h', by omega, by omega⟩ h
    · exact ⟨rfl, rfl, rfl, rfl⟩
end Go.Proofs.Ythglkgicckodaaa
