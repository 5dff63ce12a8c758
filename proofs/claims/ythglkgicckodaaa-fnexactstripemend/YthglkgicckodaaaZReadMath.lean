/-
  What this claim wants of the texts of earlier chapters.
  Conditions: none.
-/
import Derived.Test.YthglkgicckodaaaZG3
import Derived.Test.YthglkgicckodaaaZG2
namespace Go.Proofs.Ythglkgicckodaaa.Sp
set_option linter.unusedVariables false
def un4 (i : Nat) : List Int := (List.replicate 4 (0 : Int)).set i 1
theorem un4_row (i : Nat) : Row 4 (un4 i) := row_unit 4 i
theorem toV_un4 {i : Nat} (hi : i < 4) (j : Nat) : toV (un4 i) j = one i j := toV_unit hi j
theorem dot_un4 {i : Nat} (hi : i < 4) (d : V) : dot (toV (un4 i)) d = d i := by
  have e : ∀ j, toV (un4 i) j = if j = i then 1 else 0 := fun j => by rw [toV_un4 hi]; unfold one; rfl
  unfold dot
  rw [e 0, e 1, e 2, e 3]
  rcases (by omega : i = 0 ∨ i = 1 ∨ i = 2 ∨ i = 3) with rfl | rfl | rfl | rfl <;> simp <;> grind
def IsData (k : Nat) (f : List Bool) (a l : List Int) : Prop := Row 4 l ∧ ∀ d : V, (∀ i, i < 8 → f.getD i false = true → dot (toV (crow k i)) d = toF (a.getD i 0)) → ∀ j, j < 4 → toV l j = d j
theorem IsData.one {k : Nat} {f : List Bool} {a l l' : List Int} (h : Fit k f a) (x : IsData k f a l) (y : IsData k f a l') : l = l' := by
  obtain ⟨d, hd⟩ := h
  refine toV_inj x.1 y.1 (funext fun j => ?_)
  by_cases hj : j < 4
  · rw [x.2 d hd j hj, y.2 d hd j hj]
  · rw [toV_out x.1 (by omega), toV_out y.1 (by omega)]
theorem padd_full {k : Nat} (hk : k = 1 ∨ k = 2) {f : List Bool} (h : bears k f = true) {v : List Int} (hv : Row 4 v) : Made (padd k f) v :=
  ((padd_same k f).iff _).2 (bears_full hk h (four_toV hv))
theorem dot_by {R : List (List Int)} {v l G : List Int} (hl : ∀ j, toV v j = comb (toV l) (R.map toV) j) (d : V) (hd : ∀ i, i < R.length → dot (toV (R.getD i [])) d = toF (G.getD i 0)) : dot (toV v) d = toF (msum l G R.length) := by
  rw [dot_eq (fun j _ => hl j), dot_wsum, List.length_map, msum_is]
  refine wsum_congr _ (fun _ _ => rfl) fun i hi => ?_
  have := hd i hi
  rw [List.getD_eq_getElem?_getD, List.getElem?_map, List.getElem?_eq_getElem hi]
  rw [List.getD_eq_getElem?_getD, List.getElem?_eq_getElem hi] at this
  exact this
def fromK (k : Nat) (f : List Bool) : List Nat := firsts has (padd k f)
def spots (f : List Bool) : List Nat := (List.range 8).filter fun i => f.getD i false
theorem from_spots1 : ∀ n : Nat, n < 256 → (firsts has (crows 1 (bits n))).map (fun j => (spots (bits n)).getD j 0) = fromK 1 (bits n) := by decide +kernel
theorem from_spots2 : ∀ n : Nat, n < 256 → (firsts has (crows 2 (bits n))).map (fun j => (spots (bits n)).getD j 0) = fromK 2 (bits n) := by decide +kernel
theorem from_spots {k : Nat} (hk : k = 1 ∨ k = 2) {f : List Bool} (hf : f.length = 8) : (firsts has (crows k f)).map (fun j => (spots f).getD j 0) = fromK k f := by
  rcases hk with rfl | rfl
  · exact by_bits (P := fun f => (firsts has (crows 1 f)).map (fun j => (spots f).getD j 0) = fromK 1 f) from_spots1 hf
  · exact by_bits (P := fun f => (firsts has (crows 2 f)).map (fun j => (spots f).getD j 0) = fromK 2 f) from_spots2 hf
theorem from_lt {k : Nat} (hk : k = 1 ∨ k = 2) {f : List Bool} {i : Nat} (hi : i ∈ fromK k f) : i < 8 ∧ f.getD i false = true := let h := padd_first hk hi; ⟨h.1, h.2.1⟩
theorem from_len {k : Nat} (hk : k = 1 ∨ k = 2) {f : List Bool} (h : bears k f = true) : (fromK k f).length = 4 := by
  have := padd_bears hk f
  rw [h] at this
  exact (beq_iff_eq.1 this.symm)
structure Found (k : Nat) (f : List Bool) (a : List Int) (r : Int) : Prop where
  all : Fit k f a → r = -1
  one : ∀ n : Nat, ¬ Fit k f a → (r = n ↔ n < 8 ∧ f.getD n false = true ∧ Fit k (f.set n false) a ∧ ∀ m, m < 8 → f.getD m false = true → Fit k (f.set m false) a → m = n)
  low : ¬ Fit k f a → r = -2 ∨ ∃ n : Nat, n < 8 ∧ r = n
theorem Found.unique {k : Nat} {f : List Bool} {a : List Int} {r s : Int} (h : Found k f a r) (h' : Found k f a s) : r = s := by
  by_cases hf : Fit k f a
  · rw [h.all hf, h'.all hf]
  · rcases h.low hf with rfl | ⟨n, hn, rfl⟩
    · rcases h'.low hf with rfl | ⟨m, hm, rfl⟩
      · rfl
      · have := (h.one m hf).2 ((h'.one m hf).1 rfl); omega
    · exact ((h'.one n hf).2 ((h.one n hf).1 rfl)).symm
def Looked (k : Nat) (f : List Bool) (a : List Int) (n : Nat) (r : Int) : Prop :=
  (r = -2 ∧ ∀ m, m < n → f.getD m false = true → ¬ Fit k (f.set m false) a) ∨ (∃ j : Nat, r = j ∧ j < n ∧ f.getD j false = true ∧ Fit k (f.set j false) a ∧ ∀ m, m < n → f.getD m false = true → Fit k (f.set m false) a → m = j)
theorem Looked.start {k : Nat} {f : List Bool} {a : List Int} : Looked k f a 0 (-2) := .inl ⟨rfl, fun m hm => by omega⟩
theorem Looked.skip {k : Nat} {f : List Bool} {a : List Int} {n : Nat} {r : Int} (h : Looked k f a n r) (hn : f.getD n false = false ∨ ¬ Fit k (f.set n false) a) : Looked k f a (n + 1) r := by
  rcases h with ⟨rfl, h⟩ | ⟨j, rfl, hj, h1, h2, h3⟩
  · refine .inl ⟨rfl, fun m hm ht hf => ?_⟩
    rcases Nat.lt_succ_iff_lt_or_eq.1 hm with hm | rfl
    · exact h m hm ht hf
    · rcases hn with hn | hn
      · rw [hn] at ht; cases ht
      · exact hn hf
  · refine .inr ⟨j, rfl, by omega, h1, h2, fun m hm ht hf => ?_⟩
    rcases Nat.lt_succ_iff_lt_or_eq.1 hm with hm | rfl
    · exact h3 m hm ht hf
    · rcases hn with hn | hn
      · rw [hn] at ht; cases ht
      · exact absurd hf hn
theorem Looked.new {k : Nat} {f : List Bool} {a : List Int} {n : Nat} (h : Looked k f a n (-2)) (ht : f.getD n false = true) (hf : Fit k (f.set n false) a) : Looked k f a (n + 1) n := by
  rcases h with ⟨_, h⟩ | ⟨j, e, _⟩
  · refine .inr ⟨n, rfl, by omega, ht, hf, fun m hm ht' hf' => ?_⟩
    rcases Nat.lt_succ_iff_lt_or_eq.1 hm with hm | rfl
    · exact absurd hf' (h m hm ht')
    · rfl
  · omega
end Go.Proofs.Ythglkgicckodaaa.Sp
namespace Go.Proofs.Ythglkgicckodaaa
open Go.RowKit
def ints (l : List Nat) : List Int := l.map fun (i : Nat) => (i : Int)
theorem ints_len (l : List Nat) : (ints l).length = l.length := by simp [ints]
theorem ints_get (l : List Nat) {i : Nat} (hi : i < l.length) : (ints l).getD i 0 = (l.getD i 0 : Nat) := by
  simp [ints, List.getD_eq_getElem?_getD, List.getElem?_map, List.getElem?_eq_getElem hi]
end Go.Proofs.Ythglkgicckodaaa
