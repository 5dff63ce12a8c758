/-
  The contracts of what the laws of chapter 13 draw.
  Conditions: the reader has been read at most a million times.
-/
import Derived.Test.YtoflijiinkmjoaaG4
import Derived.Test.YtoflijiinkmjoaaReadTake
import Derived.Shelf.RegionOpen
import Derived.Shelf.Abstract
namespace Go.Proofs.Ytoflijiinkmjoaa.Rg
open Go.RowKit
set_option linter.unusedVariables false
theorem any_take {P : Program} {md : Region.Mode} {ops : Array Oper} {Q : Exit → Act → World → Prop} (i : Nat) (d : Option Tmp) (v : Value) {oi : Oper} {fuel : Nat} {listed : Array Bool} {a : Act} {w : World} (hi : ops[i]? = some oi) (hd : oi.dst = d)
    (hs : Region.noSelect ops = true) (hf : Region.free md ops listed i = true) (hr : (Region.ready md ops listed).contains i = true)
    (hQ : ∀ c a w, Q (.panic c) (a.put d v) w → Q (.panic c) a w) (hy : Yields P ops oi v a)
    (h : wpAny P md ops Q fuel (listed.setIfInBounds i true) (a.put d v) w) : wpAny P md ops Q (fuel + 1) listed a w := by
  subst hd
  exact wpAny_take hi hs hf hr hQ hy h
theorem any_one {P : Program} {md : Region.Mode} {ops : Array Oper} {Q : Exit → Act → World → Prop} {fuel i : Nat} {listed : Array Bool} {a : Act} {w : World} {o : Oper} (hr : Region.ready md ops listed = [i]) (ho : ops[i]? = some o) (hw : Region.wanted o (yielded ops a.tmps) = true)
    (h : o.wp P a w (fun a' w' => wpAny P md ops Q fuel (listed.setIfInBounds i true) a' w') Q) : wpAny P md ops Q (fuel + 1) listed a w :=
  wpAny_all hr (by simp) (fun j hj => by
    obtain rfl : j = i := by simpa using hj
    unfold wpOp
    rw [ho]
    simp only [hw, if_true]
    exact .inl h)
theorem any_two {P : Program} {md : Region.Mode} {ops : Array Oper} {Q : Exit → Act → World → Prop} {fuel i k : Nat} {listed : Array Bool} {a : Act} {w : World} {o p : Oper} (hr : Region.ready md ops listed = [i, k]) (ho : ops[i]? = some o) (hp : ops[k]? = some p) (hw : Region.wanted o (yielded ops a.tmps) = true) (hv : Region.wanted p (yielded ops a.tmps) = true)
    (h : o.wp P a w (fun a' w' => wpAny P md ops Q fuel (listed.setIfInBounds i true) a' w') Q) (h' : p.wp P a w (fun a' w' => wpAny P md ops Q fuel (listed.setIfInBounds k true) a' w') Q) : wpAny P md ops Q (fuel + 1) listed a w :=
  wpAny_all hr (by simp) (fun j hj => by
    rcases (by simpa using hj : j = i ∨ j = k) with rfl | rfl
    · unfold wpOp
      rw [ho]
      simp only [hw, if_true]
      exact .inl h
    · unfold wpOp
      rw [hp]
      simp only [hv, if_true]
      exact .inl h')
theorem any_done {P : Program} {md : Region.Mode} {ops : Array Oper} {Q : Exit → Act → World → Prop} {listed : Array Bool} {a : Act} {w : World} (hr : Region.ready md ops listed = []) (h : Q .normal a w) : ∀ fuel, wpAny P md ops Q fuel listed a w :=
  wpAny_done hr h
end Go.Proofs.Ytoflijiinkmjoaa.Rg

namespace Go.Proofs.Ytoflijiinkmjoaa
open Go.RowKit Go.Shelf
set_option linter.unusedVariables false
set_option linter.unusedSimpArgs false
attribute [local go_sem] Oper.semAt_some

/-- numbers that are small. -/
def Small (l : List Int) : Prop := ∀ i, -1 ≤ l.getD i 0 ∧ l.getD i 0 ≤ 31
theorem small_set {l : List Int} (h : Small l) (i : Nat) {x : Int} (h0 : -1 ≤ x) (h1 : x ≤ 31) : Small (l.set i x) := fun j => by
  by_cases e : i = j
  · subst e
    by_cases hl : i < l.length
    · have : (l.set i x).getD i 0 = x := by simp [List.getD_eq_getElem?_getD, hl]
      rw [this]; exact ⟨h0, h1⟩
    · rw [List.set_eq_of_length_le (by omega)]; exact h i
  · have : (l.set i x).getD j 0 = l.getD j 0 := by simp only [List.getD_eq_getElem?_getD, List.getElem?_set_ne e]
    rw [this]; exact h j
theorem allK_small {k : Nat} (hk : k = 1 ∨ k = 2) (d : List Int) (hd : Vec.ok d = true) : Small (allK k d 8) := fun j => by
  rcases Nat.lt_or_ge j 8 with hj | hj
  · have e : (allK k d 8).getD j 0 = Vec.dot (Sp.crow k j) d := by simp [allK, List.getD_eq_getElem?_getD, hj]
    rw [e, Vec.dot_ok (Sp.row_ok.2 (Sp.crow_row hk hj)) hd]
    omega
  · have e : (allK k d 8).getD j 0 = 0 := by
      rw [List.getD_eq_getElem?_getD, List.getElem?_eq_none (by rw [allK_len]; omega)]; rfl
    rw [e]; omega

/-- a kind, values of its own, and which are there; the reader reads on. -/
def DrawnValsO (c p : Nat) (w : World) (e : Ending) (w' : World) : Prop :=
  ∃ (m g cap : Nat) (v : Value) (l : List Int) (f : List Bool) (B p' : Nat), m ≤ 3 ∧ e = .returned (.tuple #[.int .i64 m, .slice (some ⟨g, 0, none⟩) 8 cap, v]) ∧ l.length = 8 ∧ (f.length = 8 ∨ f.length = 7) ∧ Own w' w.heap.size (.slice (some ⟨g, 0, none⟩) 8 cap) l ∧ Small l ∧ BlUp w' B v f ∧ g < B ∧ Far c w w' ∧ Rd w' c p' ∧ p' ≤ p + 40

end Go.Proofs.Ytoflijiinkmjoaa
