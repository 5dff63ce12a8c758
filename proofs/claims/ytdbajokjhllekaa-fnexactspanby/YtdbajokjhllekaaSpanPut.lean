/-
  Numbers put at the first rows' places, 0 elsewhere: if they make a row of the first rows, they make it of all rows (the model's SpanBy). Plain mathematics.
  Conditions: none.
-/
import Derived.Test.YtdbajokjhllekaaSpanMade
namespace Go.Proofs.Ytdbajokjhllekaa
set_option linter.unusedVariables false
namespace Sp

/-- k numbers of b put at their places. -/
def put (z : List Int) (F : List Nat) (b : List Int) : Nat → List Int
  | 0 => z
  | k + 1 => (put z F b k).set (F.getD k 0) (b.getD k 0)
theorem put_length (z : List Int) (F : List Nat) (b : List Int) : ∀ k, (put z F b k).length = z.length
  | 0 => rfl
  | k + 1 => by rw [put, List.length_set]; exact put_length z F b k
theorem put_away (z : List Int) (F : List Nat) (b : List Int) (p : Nat) : ∀ k, (∀ i, i < k → F.getD i 0 ≠ p) → (put z F b k).getD p 0 = z.getD p 0
  | 0, _ => rfl
  | k + 1, h => by
    rw [put, ← put_away z F b p k fun i hi => h i (by omega)]
    have hk := h k (by omega)
    simp only [List.getD_eq_getElem?_getD] at hk ⊢
    rw [List.getElem?_set_ne hk]
theorem put_row {z b : List Int} {F : List Nat} {n : Nat} (hz : Row n z) (hb : Row F.length b) : ∀ k, k ≤ F.length → Row n (put z F b k)
  | 0, _ => hz
  | k + 1, h => by
    have ih := put_row hz hb k (by omega)
    refine ⟨by rw [put, List.length_set]; exact ih.1, fun x hx => ?_⟩
    rw [put] at hx
    rcases List.mem_or_eq_of_mem_set hx with hx | rfl
    · exact ih.2 x hx
    · have hk : k < b.length := by rw [hb.1]; omega
      rw [List.getD_eq_getElem?_getD, List.getElem?_eq_getElem hk]
      exact hb.2 _ (List.getElem_mem hk)
/-- one number more, where 0 was. -/
theorem comb_put {A : List V} {f g : Nat → F} {p : Nat} (hp : p < A.length) (h0 : f p = 0) (hne : ∀ i, i ≠ p → g i = f i) (j : Nat) : comb g A j = comb f A j + g p * A[p] j := by
  have e : comb g A j = comb (fun i => f i + g p * one p i) A j := comb_congr _ _ _ _ fun i _ => by
    by_cases hi : i = p
    · subst hi; simp [one, h0]; grind
    · rw [hne i hi]; simp [one, hi]; grind
  rw [e, comb_add, comb_mul, comb_one A p hp]
theorem comb_puts {m : List (List Int)} {F : List Nat} {b : List Int} (hlt : ∀ i ∈ F, i < m.length) (hup : F.Pairwise (· < ·)) (j : Nat) :
    ∀ k, k ≤ F.length → comb (toV (put (List.replicate m.length 0) F b k)) (m.map toV) j = comb (toV b) ((sel m (F.take k)).map toV) j
  | 0, _ => by
    simp only [put, List.take_zero, sel, List.map_nil, comb_nil]
    refine comb_each _ _ _ fun i hi => ?_
    have : toV (List.replicate m.length 0) i = 0 := by
      unfold toV
      rw [List.getD_eq_getElem?_getD, List.getElem?_replicate]
      split <;> rfl
    rw [this]; grind
  | k + 1, h => by
    have ih := comb_puts (b := b) hlt hup j k (by omega)
    have hk : k < F.length := by omega
    have hF : F.getD k 0 = F[k] := by simp [List.getD_eq_getElem?_getD, hk]
    have hm : F[k] < m.length := hlt _ (List.getElem_mem hk)
    have hz : (put (List.replicate m.length 0) F b k).getD F[k] 0 = 0 := by
      rw [put_away]
      · simp [List.getD_eq_getElem?_getD, hm]
      · intro i hi
        have hi' : i < F.length := by omega
        have := List.pairwise_iff_getElem.1 hup i k hi' hk hi
        have e : F.getD i 0 = F[i] := by simp [List.getD_eq_getElem?_getD, hi']
        rw [e]; omega
    have hl : F[k] < (put (List.replicate m.length 0) F b k).length := by rw [put_length, List.length_replicate]; exact hm
    rw [comb_put (f := toV (put (List.replicate m.length 0) F b k)) (p := F[k]) (by simpa using hm) (by unfold toV; rw [hz]; rfl) (fun i hi => by
      unfold toV
      rw [put, hF]
      simp only [List.getD_eq_getElem?_getD]
      rw [List.getElem?_set_ne (Ne.symm hi)]), ih]
    rw [List.take_succ_eq_append_getElem hk]
    unfold sel
    rw [List.map_append, List.map_append, comb_append]
    have e1 : (((F.take k).map fun j => m.getD j []).map toV).length = k := by simp; omega
    rw [e1]
    simp only [List.map_cons, List.map_nil, comb_cons, comb_nil]
    have e2 : toV (put (List.replicate m.length 0) F b (k + 1)) F[k] = toV b k := by
      unfold toV
      rw [put, hF]
      simp only [List.getD_eq_getElem?_getD]
      rw [List.getElem?_set_self hl]; rfl
    have e3 : (m.map toV)[F[k]]'(by simpa using hm) = toV (m.getD F[k] []) := by simp [List.getD_eq_getElem?_getD, hm]
    rw [e2, e3, Nat.zero_add]; grind
/-- what makes a row of the first rows, put at their places. -/
theorem IsBy.puts {m : List (List Int)} {v b : List Int} (hb : Row (firsts has m).length b) (h : ∀ j, toV v j = comb (toV b) ((sel m (firsts has m)).map toV) j) :
    IsBy m v (put (List.replicate m.length 0) (firsts has m) b (firsts has m).length) := by
  have hz : Row m.length (List.replicate m.length (0 : Int)) := ⟨by simp, fun x hx => by rw [List.eq_of_mem_replicate hx]; rfl⟩
  refine ⟨put_row hz hb _ (Nat.le_refl _), fun i hi hn => ?_, fun j => ?_⟩
  · rw [put_away]
    · simp [List.getD_eq_getElem?_getD, hi]
    · intro k hk e
      have e' : (firsts has m).getD k 0 = (firsts has m)[k] := by simp [List.getD_eq_getElem?_getD, hk]
      rw [e'] at e
      exact hn (e ▸ List.getElem_mem hk)
  · rw [comb_puts (fun i hi => first_lt i hi) (firsts_up m) j _ (Nat.le_refl _), List.take_length]
    exact h j
end Sp
end Go.Proofs.Ytdbajokjhllekaa
