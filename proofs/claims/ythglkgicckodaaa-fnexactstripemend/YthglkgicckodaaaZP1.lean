/-
  What this claim wants of the texts of earlier chapters.
  Conditions: none.
-/
import Derived.Test.YthglkgicckodaaaZG3
import Derived.Test.YthglkgicckodaaaZG1
import Derived.Test.YthglkgicckodaaaProg
import Derived.Deep.RegionHeld3
import Derived.RangeFuncNested
import Derived.RangeFuncBound
import Derived.RangeFuncCalls
import Derived.RangeFuncLeaves
import Derived.Shelf.Abstract
import Derived.Shelf.RegionOpen
import Derived.WalkKit
import Derived.OwnWalkIn
import Derived.TacticsInMore
import Derived.Test.YthglkgicckodaaaZG4
import Derived.Maps.AppendAt
namespace Go.Proofs.Ythglkgicckodaaa
set_option linter.unusedVariables false
namespace Sp
def prow (k : Nat) (S : List Nat) : List (List Int) := S.map (crow k)
def free (m : List (List Int)) : Bool := decide ((firsts has m).length = m.length)
def can (k lost : Nat) (S : List Nat) : Bool := free (prow k S) && has (prow k S) (crow k lost)
def search (k lost : Nat) (f : List Bool) : Nat → List Nat → Nat → Option (List Nat)
  | 0, S, _ => if can k lost S then some S else none
  | n + 1, S, at_ => (List.range 8).findSome? fun i => if at_ ≤ i ∧ f.getD i false = true ∧ i ≠ lost then search k lost f n (S ++ [i]) (i + 1) else none
def planM (k lost : Nat) (f : List Bool) : Option (List Nat) := (List.range 4).findSome? fun n => search k lost f (n + 1) [] 0
theorem findSome_none {g : Nat → Option (List Nat)} {n : Nat} (h : ∀ i, i < n → g i = none) : (List.range n).findSome? g = none := by
  rw [List.findSome?_eq_none_iff]
  intro i hi; exact h i (List.mem_range.1 hi)
theorem findSome_some {g : Nat → Option (List Nat)} {n i : Nat} {r : List Nat} (hi : i < n) (h : ∀ j, j < i → g j = none) (hr : g i = some r) : (List.range n).findSome? g = some r := by
  have e : List.range n = List.range i ++ (i :: (List.range (n - i - 1)).map (fun x => i + 1 + x)) := by
    have h1 : n = i + (1 + (n - i - 1)) := by omega
    conv => lhs; rw [h1, List.range_add, List.range_add]
    simp [List.range_succ, List.map_map, Function.comp_def, Nat.add_assoc]
  rw [e, List.findSome?_append, findSome_none h]
  simp [hr]
theorem findSome_get {g : Nat → Option (List Nat)} {n : Nat} {r : List Nat} (h : (List.range n).findSome? g = some r) : ∃ i, i < n ∧ g i = some r ∧ ∀ j, j < i → g j = none := by
  induction n with
  | zero => simp at h
  | succ n ih =>
    rw [List.range_succ, List.findSome?_append] at h
    cases hq : (List.range n).findSome? g with
    | some r' =>
      rw [hq] at h
      simp at h
      subst h
      obtain ⟨i, h1, h2, h3⟩ := ih hq
      exact ⟨i, by omega, h2, h3⟩
    | none =>
      rw [hq] at h
      have h' : g n = some r := by simpa using h
      exact ⟨n, by omega, h', fun j hj => (List.findSome?_eq_none_iff.1 hq) j (List.mem_range.2 hj)⟩
theorem findSome_out {g : Nat → Option (List Nat)} {n : Nat} (h : (List.range n).findSome? g = none) : ∀ i, i < n → g i = none :=
  fun i hi => (List.findSome?_eq_none_iff.1 h) i (List.mem_range.2 hi)
structure Up (lost : Nat) (f : List Bool) (at_ : Nat) (E : List Nat) : Prop where
  up : E.Pairwise (· < ·)
  le : ∀ i ∈ E, at_ ≤ i
  lt : ∀ i ∈ E, i < 8
  there : ∀ i ∈ E, f.getD i false = true
  other : ∀ i ∈ E, i ≠ lost
theorem Up.nil (lost : Nat) (f : List Bool) (at_ : Nat) : Up lost f at_ [] := ⟨List.Pairwise.nil, by simp, by simp, by simp, by simp⟩
theorem Up.cons {lost : Nat} {f : List Bool} {at_ i : Nat} {E : List Nat} (h : Up lost f (i + 1) E) (h1 : at_ ≤ i) (h2 : i < 8) (h3 : f.getD i false = true) (h4 : i ≠ lost) : Up lost f at_ (i :: E) := by
  refine ⟨List.pairwise_cons.2 ⟨fun j hj => by have := h.le j hj; omega, h.up⟩, ?_, ?_, ?_, ?_⟩ <;> intro j hj <;> rcases List.mem_cons.1 hj with rfl | hj
  · exact h1
  · have := h.le j hj; omega
  · exact h2
  · exact h.lt j hj
  · exact h3
  · exact h.there j hj
  · exact h4
  · exact h.other j hj
theorem Up.tail {lost : Nat} {f : List Bool} {at_ i : Nat} {E : List Nat} (h : Up lost f at_ (i :: E)) : Up lost f (i + 1) E ∧ at_ ≤ i ∧ i < 8 ∧ f.getD i false = true ∧ i ≠ lost := by
  have hp := List.pairwise_cons.1 h.up
  exact ⟨⟨hp.2, fun j hj => hp.1 j hj, fun j hj => h.lt j (by simp [hj]), fun j hj => h.there j (by simp [hj]), fun j hj => h.other j (by simp [hj])⟩, h.le i (by simp), h.lt i (by simp), h.there i (by simp), h.other i (by simp)⟩
theorem Up.sub {lost : Nat} {f : List Bool} {at_ : Nat} {E E' : List Nat} (h : Up lost f at_ E) (hs : E'.Sublist E) : Up lost f at_ E' :=
  ⟨h.up.sublist hs, fun i hi => h.le i (hs.subset hi), fun i hi => h.lt i (hs.subset hi), fun i hi => h.there i (hs.subset hi), fun i hi => h.other i (hs.subset hi)⟩
theorem Up.len {lost : Nat} {f : List Bool} {at_ : Nat} {E : List Nat} (h : Up lost f at_ E) : E.length ≤ 8 := up_len h.up h.lt
theorem search_some {k lost : Nat} {f : List Bool} : ∀ (n : Nat) (S : List Nat) (at_ : Nat) (r : List Nat), search k lost f n S at_ = some r → ∃ E, r = S ++ E ∧ E.length = n ∧ Up lost f at_ E ∧ can k lost r = true := by
  intro n
  induction n with
  | zero =>
    intro S at_ r h
    unfold search at h
    split at h
    · rename_i hc
      injection h with h
      subst h
      exact ⟨[], by simp, rfl, Up.nil _ _ _, hc⟩
    · cases h
  | succ n ih =>
    intro S at_ r h
    unfold search at h
    obtain ⟨i, hi, hg, _⟩ := findSome_get h
    split at hg
    · rename_i hc
      obtain ⟨E, rfl, hl, hu, hcan⟩ := ih _ _ _ hg
      exact ⟨i :: E, by simp, by simp [hl], hu.cons hc.1 hi hc.2.1 hc.2.2, hcan⟩
    · cases hg
theorem search_none {k lost : Nat} {f : List Bool} : ∀ (n : Nat) (S : List Nat) (at_ : Nat), search k lost f n S at_ = none → ∀ E, E.length = n → Up lost f at_ E → can k lost (S ++ E) = false := by
  intro n
  induction n with
  | zero =>
    intro S at_ h E hl _
    have : E = [] := List.eq_nil_of_length_eq_zero hl
    subst this
    unfold search at h
    split at h
    · cases h
    · rename_i hc; simpa using hc
  | succ n ih =>
    intro S at_ h E hl hu
    cases E with
    | nil => simp at hl
    | cons i E =>
      obtain ⟨ht, h1, h2, h3, h4⟩ := hu.tail
      unfold search at h
      have hg := findSome_out h i h2
      rw [if_pos ⟨h1, h3, h4⟩] at hg
      have := ih _ _ hg E (by simpa using hl) ht
      simpa using this
theorem prow_row {k : Nat} (hk : k = 1 ∨ k = 2) {S : List Nat} (h : ∀ i ∈ S, i < 8) : ∀ r ∈ prow k S, Row 4 r := by
  intro r hr
  obtain ⟨i, hi, rfl⟩ := List.mem_map.1 hr
  exact crow_row hk (h i hi)
theorem prow_ok {k : Nat} (hk : k = 1 ∨ k = 2) {S : List Nat} (h : ∀ i ∈ S, i < 8) (h8 : S.length ≤ 8) : okM (prow k S) = true := by
  refine okM_yes (by unfold prow; rw [List.length_map]; exact h8) fun i hi => ?_
  have e : (prow k S).getD i [] = (prow k S)[i] := by simp [List.getD_eq_getElem?_getD, hi]
  rw [e]
  exact row_ok.2 (prow_row hk h _ (List.getElem_mem hi))
theorem prow_len (k : Nat) (S : List Nat) : (prow k S).length = S.length := by simp [prow]
theorem sel_prow (k : Nat) (T : List Nat) : sel (prow k T) (firsts has (prow k T)) = prow k ((firsts has (prow k T)).map fun j => T.getD j 0) := by
  unfold sel prow
  rw [List.map_map]
  refine List.map_congr_left fun j hj => ?_
  have hl : j < T.length := by have := first_lt j hj; simpa using this
  simp [List.getD_eq_getElem?_getD, hl]
theorem pick_sublist {T : List Nat} : ∀ {F : List Nat}, F.Pairwise (· < ·) → (∀ j ∈ F, j < T.length) → (F.map fun j => T.getD j 0).Sublist T := by
  intro F
  have key : ∀ (T F : List Nat), F.Pairwise (· < ·) → (∀ j ∈ F, j < T.length) → (F.map fun j => T.getD j 0).Sublist T := by
    intro T
    induction T with
    | nil =>
      intro F _ h
      cases F with
      | nil => simp
      | cons x F => have := h x (by simp); simp at this
    | cons t T ih =>
      intro F hp h
      have shift : ∀ G : List Nat, (∀ j ∈ G, 0 < j) → G.Pairwise (· < ·) → (∀ j ∈ G, j < (t :: T).length) → (G.map fun j => (t :: T).getD j 0).Sublist T := by
        intro G h0 hp h
        have e : (G.map fun j => (t :: T).getD j 0) = (G.map (· - 1)).map fun j => T.getD j 0 := by
          rw [List.map_map]
          refine List.map_congr_left fun j hj => ?_
          obtain ⟨j', rfl⟩ : ∃ j', j = j' + 1 := ⟨j - 1, by have := h0 j hj; omega⟩
          rfl
        rw [e]
        refine ih _ ?_ ?_
        · rw [List.pairwise_map]
          exact hp.imp_of_mem fun ha hb hab => by have := h0 _ ha; omega
        · intro j hj
          obtain ⟨i, hi, rfl⟩ := List.mem_map.1 hj
          have := h i hi; have := h0 i hi
          simp at *; omega
      cases F with
      | nil => simp
      | cons x F =>
        have hp' := List.pairwise_cons.1 hp
        by_cases hx : x = 0
        · subst hx
          have := shift F (fun j hj => hp'.1 j hj) hp'.2 (fun j hj => h j (by simp [hj]))
          simpa using this.cons_cons t
        · exact (shift (x :: F) (fun j hj => by
            rcases List.mem_cons.1 hj with rfl | hj
            · omega
            · have := hp'.1 j hj; omega) hp h).cons t
  exact key T F
theorem firsts_four {k : Nat} (hk : k = 1 ∨ k = 2) {S : List Nat} (h : ∀ i ∈ S, i < 8) : (firsts has (prow k S)).length ≤ 4 := by
  have hr := prow_row hk h
  rw [← ltidy_firsts (fun m v hm hv => has_iff hm hv) _ rfl hr]
  obtain ⟨L, hi, _⟩ := ltidy_is hr
  exact hi.len_le
theorem crow_some {k : Nat} (hk : k = 1 ∨ k = 2) : ∀ {n : Nat}, n < 8 → ∃ j, toV (crow k n) j ≠ 0 := by
  have h1 : ∀ n : Nat, n < 8 → toV (crow 1 n) 0 ≠ 0 ∨ toV (crow 1 n) 1 ≠ 0 ∨ toV (crow 1 n) 2 ≠ 0 ∨ toV (crow 1 n) 3 ≠ 0 := by decide +kernel
  have h2 : ∀ n : Nat, n < 8 → toV (crow 2 n) 0 ≠ 0 ∨ toV (crow 2 n) 1 ≠ 0 ∨ toV (crow 2 n) 2 ≠ 0 ∨ toV (crow 2 n) 3 ≠ 0 := by decide +kernel
  intro n hn
  rcases hk with rfl | rfl
  · rcases h1 n hn with h | h | h | h <;> exact ⟨_, h⟩
  · rcases h2 n hn with h | h | h | h <;> exact ⟨_, h⟩
theorem some_can {k lost : Nat} (hk : k = 1 ∨ k = 2) (hl : lost < 8) {T : List Nat} (hT : ∀ i ∈ T, i < 8) (h8 : T.length ≤ 8) (h : Made (prow k T) (crow k lost)) :
    ∃ S, S.Sublist T ∧ can k lost S = true ∧ 1 ≤ S.length ∧ S.length ≤ 4 := by
  have hok := prow_ok hk hT h8
  refine ⟨(firsts has (prow k T)).map fun j => T.getD j 0, pick_sublist (firsts_up _) (fun j hj => by have := first_lt j hj; rwa [prow_len] at this), ?_, ?_, ?_⟩
  · have e := sel_prow k T
    unfold can
    rw [← e]
    rw [Bool.and_eq_true]
    constructor
    · unfold free
      rw [decide_eq_true_eq]
      have h1 : ∀ i, i < (sel (prow k T) (firsts has (prow k T))).length → i ∈ firsts has (sel (prow k T) (firsts has (prow k T))) := fun i hi => sel_first hok hi
      have h2 : firsts has (sel (prow k T) (firsts has (prow k T))) = List.range (sel (prow k T) (firsts has (prow k T))).length := by
        unfold firsts
        rw [List.filter_eq_self]
        intro i hi
        have := h1 i (List.mem_range.1 hi)
        unfold firsts at this
        exact (List.mem_filter.1 this).2
      rw [h2, List.length_range]
    · refine (has_iff (okM_all (sel_ok hok)) (crow_row hk hl)).2 ?_
      exact ((sel_same hok).iff _).2 h
  · rw [List.length_map]
    rcases Nat.eq_zero_or_pos (firsts has (prow k T)).length with h0 | h0
    · exfalso
      have hz : firsts has (prow k T) = [] := List.eq_nil_of_length_eq_zero h0
      have hm : In ((sel (prow k T) (firsts has (prow k T))).map toV) (toV (crow k lost)) := ((sel_same hok).iff _).2 h
      rw [hz] at hm
      obtain ⟨c, hc⟩ := hm
      obtain ⟨j, hj⟩ := crow_some hk hl
      exact hj (hc j)
    · exact h0
  · rw [List.length_map]; exact firsts_four hk hT
theorem can_made {k lost : Nat} (hk : k = 1 ∨ k = 2) (hl : lost < 8) {S : List Nat} (hS : ∀ i ∈ S, i < 8) (h : can k lost S = true) : Made (prow k S) (crow k lost) := by
  unfold can at h
  rw [Bool.and_eq_true] at h
  exact (has_iff (prow_row hk hS) (crow_row hk hl)).1 h.2
theorem plan_some {k lost : Nat} {f : List Bool} {S : List Nat} (h : planM k lost f = some S) : 1 ≤ S.length ∧ S.length ≤ 4 ∧ Up lost f 0 S ∧ can k lost S = true ∧ ∀ E, Up lost f 0 E → 1 ≤ E.length → E.length < S.length → can k lost E = false := by
  unfold planM at h
  obtain ⟨n, hn, hg, hno⟩ := findSome_get h
  obtain ⟨E, rfl, hl, hu, hc⟩ := search_some _ _ _ _ hg
  refine ⟨by omega, by omega, hu, hc, fun E' hu' h1 h2 => ?_⟩
  have := search_none _ _ _ (hno (E'.length - 1) (by omega)) E' (by omega) hu'
  simpa using this
theorem plan_least {k lost : Nat} (hk : k = 1 ∨ k = 2) (hl : lost < 8) {f : List Bool} {S : List Nat} (h : planM k lost f = some S) {E : List Nat} (hu : Up lost f 0 E) (hE : E.length < S.length) : ¬ Made (prow k E) (crow k lost) := by
  intro hm
  obtain ⟨S', hs, hc, h1, _⟩ := some_can hk hl hu.lt hu.len hm
  obtain ⟨_, _, _, _, hno⟩ := plan_some h
  have := hno S' (hu.sub hs) h1 (by have := hs.length_le; omega)
  rw [hc] at this; cases this
def PlanBy (k lost : Nat) (S : List Nat) (c : List Int) : Prop := Row S.length c ∧ ∀ j, toV (crow k lost) j = comb (toV c) ((prow k S).map toV) j
theorem PlanBy.isBy {k lost : Nat} {S : List Nat} {c : List Int} (h : PlanBy k lost S c) (hf : free (prow k S) = true) : IsBy (prow k S) (crow k lost) c := by
  refine ⟨by rw [prow_len]; exact h.1, fun i hi hn => absurd ?_ hn, h.2⟩
  unfold free at hf
  rw [decide_eq_true_eq] at hf
  have e : firsts has (prow k S) = List.range (prow k S).length := by
    unfold firsts at hf ⊢
    exact List.Sublist.eq_of_length List.filter_sublist (by rw [hf, List.length_range])
  rw [e]; exact List.mem_range.2 hi
theorem PlanBy.one {k lost : Nat} (hk : k = 1 ∨ k = 2) {S : List Nat} (hS : ∀ i ∈ S, i < 8) {c d : List Int} (hc : PlanBy k lost S c) (hd : PlanBy k lost S d) (hf : free (prow k S) = true) : c = d :=
  (hc.isBy hf).one (prow_row hk hS) (hd.isBy hf)
theorem can_by {k lost : Nat} (hk : k = 1 ∨ k = 2) (hl : lost < 8) {S : List Nat} (hS : ∀ i ∈ S, i < 8) {b : Bool} {c : List Int} (hf : free (prow k S) = true) (h : Answers (prow k S) (crow k lost) b c) : b = can k lost S ∧ (b = true → PlanBy k lost S c) := by
  unfold can
  rw [hf, Bool.true_and]
  have hi := has_iff (prow_row hk hS) (crow_row hk hl)
  rcases h with ⟨rfl, hm, hr, hc⟩ | ⟨rfl, hm, _⟩
  · exact ⟨(hi.2 hm).symm, fun _ => ⟨by rw [← prow_len k S]; exact hr, hc⟩⟩
  · refine ⟨?_, fun h => by cases h⟩
    cases hh : has (prow k S) (crow k lost) with
    | false => rfl
    | true => exact absurd (hi.1 hh) hm
theorem in_erase (A : List V) : ∀ (i : Nat) (c : Nat → F), c i = 0 → In (A.eraseIdx i) (fun j => comb c A j) := by
  induction A with
  | nil => intro i c _; exact ⟨c, fun j => rfl⟩
  | cons a A ih =>
    intro i c hc
    cases i with
    | zero =>
      refine ⟨fun n => c (n + 1), fun j => ?_⟩
      show comb c (a :: A) j = comb (fun n => c (n + 1)) A j
      rw [comb_cons, hc]; grind
    | succ i =>
      obtain ⟨d, hd⟩ := ih i (fun n => c (n + 1)) hc
      refine ⟨fun n => match n with | 0 => c 0 | n + 1 => d n, fun j => ?_⟩
      show comb c (a :: A) j = comb (fun n => match n with | 0 => c 0 | n + 1 => d n) (a :: A.eraseIdx i) j
      rw [comb_cons, comb_cons]
      have := hd j
      simp only at this ⊢
      rw [this]
theorem erase_map {α β : Type} (g : α → β) : ∀ (l : List α) (i : Nat), (l.map g).eraseIdx i = (l.eraseIdx i).map g
  | [], _ => rfl
  | _ :: _, 0 => rfl
  | a :: l, i + 1 => by simp only [List.map_cons, List.eraseIdx_cons_succ]; rw [erase_map g l i]
theorem plan_by {k lost : Nat} (hk : k = 1 ∨ k = 2) (hl : lost < 8) {f : List Bool} {S : List Nat} (h : planM k lost f = some S) {c : List Int} (hc : PlanBy k lost S c) : ∀ i, i < S.length → c.getD i 0 ≠ 0 := by
  intro i hi h0
  obtain ⟨h1, h4, hu, hcan, _⟩ := plan_some h
  have hz : toV c i = 0 := by unfold toV; rw [h0]; rfl
  have hin := in_erase ((prow k S).map toV) i (toV c) hz
  have hm : Made (prow k (S.eraseIdx i)) (crow k lost) := by
    have e : ((prow k S).map toV).eraseIdx i = (prow k (S.eraseIdx i)).map toV := by unfold prow; rw [erase_map, erase_map]
    rw [e] at hin
    exact hin.eq hc.2
  exact plan_least hk hl h (hu.sub (List.eraseIdx_sublist _ _)) (by rw [List.length_eraseIdx_of_lt hi]; omega) hm
end Sp
end Go.Proofs.Ythglkgicckodaaa

namespace Go.Proofs.Ythglkgicckodaaa.Sp
set_option linter.unusedVariables false
def flag (S : List Nat) : List Bool := (List.range 8).map fun i => decide (i ∈ S)
theorem flag_get (S : List Nat) {i : Nat} (h : i < 8) : (flag S).getD i false = decide (i ∈ S) := by simp [flag, List.getD_eq_getElem?_getD, h]
theorem flag_snoc (S : List Nat) {i : Nat} (h : i < 8) : (flag S).set i true = flag (S ++ [i]) := by
  apply List.ext_getElem
  · simp [flag]
  · intro j h1 h2
    simp [flag, List.getElem_set]
    by_cases e : i = j
    · simp [e]
    · have e' : ¬ j = i := fun h => e h.symm
      simp [e, e']
def sets (lost : Nat) (f : List Bool) : Nat → List Nat → Nat → List (List Nat)
  | 0, S, _ => [S]
  | n + 1, S, at_ => (List.range 8).flatMap fun i => if at_ ≤ i ∧ f.getD i false = true ∧ i ≠ lost then sets lost f n (S ++ [i]) (i + 1) else []
def subs (f : List Bool) : Nat → List Bool → Nat → List (List Bool)
  | 0, c, _ => [c]
  | n + 1, c, at_ => (List.range 8).flatMap fun i => if at_ ≤ i ∧ f.getD i false = true then subs f n (c.set i true) (i + 1) else []
theorem off_get {f : List Bool} (hf : f.length = 8) {lost i : Nat} (hi : i < 8) : (f.set lost false).getD i false = true ↔ f.getD i false = true ∧ i ≠ lost := by
  by_cases e : lost = i
  · subst e
    rw [List.getD_eq_getElem?_getD, List.getElem?_set_self (by omega)]
    simp
  · rw [List.getD_eq_getElem?_getD, List.getElem?_set_ne e, ← List.getD_eq_getElem?_getD]
    have e' : i ≠ lost := fun h => e h.symm
    exact ⟨fun h => ⟨h, e'⟩, fun h => h.1⟩
theorem flatMap_congr {α β : Type} {l : List α} {f g : α → List β} (h : ∀ x ∈ l, f x = g x) : l.flatMap f = l.flatMap g := by
  induction l with
  | nil => rfl
  | cons a l ih => simp only [List.flatMap_cons]; rw [h a (by simp), ih fun x hx => h x (by simp [hx])]
theorem subs_flag {lost : Nat} {f : List Bool} (hf : f.length = 8) : ∀ (n : Nat) (S : List Nat) (at_ : Nat), subs (f.set lost false) n (flag S) at_ = (sets lost f n S at_).map flag := by
  intro n
  induction n with
  | zero => intro S at_; rfl
  | succ n ih =>
    intro S at_
    unfold subs sets
    rw [List.map_flatMap]
    refine flatMap_congr fun i hi => ?_
    have hi8 := List.mem_range.1 hi
    rw [apply_ite (List.map flag), flag_snoc S hi8, ih]
    simp only [off_get hf hi8, List.map_nil]
theorem find_flatMap {α β : Type} (p : β → Bool) (g : α → List β) : ∀ l : List α, (l.flatMap g).find? p = l.findSome? fun x => (g x).find? p
  | [] => rfl
  | a :: l => by
    rw [List.flatMap_cons, List.find?_append, List.findSome?_cons, find_flatMap p g l]
    cases (g a).find? p <;> rfl
theorem search_sets {k lost : Nat} {f : List Bool} : ∀ (n : Nat) (S : List Nat) (at_ : Nat), search k lost f n S at_ = (sets lost f n S at_).find? (can k lost) := by
  intro n
  induction n with
  | zero =>
    intro S at_
    unfold search sets
    simp [List.find?_cons]
    cases can k lost S <;> rfl
  | succ n ih =>
    intro S at_
    unfold search sets
    rw [find_flatMap]
    congr 1
    funext i
    split
    · exact ih _ _
    · rfl
theorem sets_up {lost : Nat} {f : List Bool} : ∀ (n : Nat) (S : List Nat) (at_ : Nat), ∀ T ∈ sets lost f n S at_, ∃ E, T = S ++ E ∧ E.length = n ∧ Up lost f at_ E := by
  intro n
  induction n with
  | zero => intro S at_ T hT; simp [sets] at hT; subst hT; exact ⟨[], by simp, rfl, Up.nil _ _ _⟩
  | succ n ih =>
    intro S at_ T hT
    unfold sets at hT
    obtain ⟨i, hi, hx⟩ := List.mem_flatMap.1 hT
    split at hx
    · rename_i hc
      obtain ⟨E, rfl, hl, hu⟩ := ih _ _ T hx
      exact ⟨i :: E, by simp, by simp [hl], hu.cons hc.1 (List.mem_range.1 hi) hc.2.1 hc.2.2⟩
    · simp at hx
def mk (k lost : Nat) (x : List Bool) : Bool := has (padd k x) (crow k lost)
theorem flag_same {k : Nat} {S : List Nat} (hS : ∀ i ∈ S, i < 8) : Same ((padd k (flag S)).map toV) ((prow k S).map toV) := by
  constructor
  · intro a ha
    obtain ⟨r, hr, rfl⟩ := List.mem_map.1 ha
    obtain ⟨i, hi, rfl⟩ := List.mem_map.1 hr
    rw [flag_get S (List.mem_range.1 hi)]
    by_cases h : i ∈ S
    · simp only [h, decide_true, if_true]
      exact In.mem (List.mem_map.2 ⟨crow k i, List.mem_map.2 ⟨i, h, rfl⟩, rfl⟩)
    · simp only [h, decide_false]
      exact (In.zero _).eq toV_none4
  · intro b hb
    obtain ⟨r, hr, rfl⟩ := List.mem_map.1 hb
    obtain ⟨i, hi, rfl⟩ := List.mem_map.1 hr
    refine In.mem (List.mem_map.2 ⟨_, List.mem_map.2 ⟨i, List.mem_range.2 (hS i hi), rfl⟩, ?_⟩)
    rw [flag_get S (hS i hi)]
    simp [hi]
theorem mk_made {k lost : Nat} (hk : k = 1 ∨ k = 2) (hl : lost < 8) {S : List Nat} (hS : ∀ i ∈ S, i < 8) : mk k lost (flag S) = true ↔ Made (prow k S) (crow k lost) := by
  unfold mk
  rw [has_iff (padd_row hk _) (crow_row hk hl)]
  exact (flag_same hS).iff _
theorem find_congr {α : Type} {p q : α → Bool} {l : List α} (h : ∀ x ∈ l, p x = q x) : l.find? p = l.find? q := by
  induction l with
  | nil => rfl
  | cons a l ih =>
    rw [List.find?_cons, List.find?_cons, h a (by simp), ih fun x hx => h x (by simp [hx])]
theorem level {k lost : Nat} (hk : k = 1 ∨ k = 2) (hl : lost < 8) {f : List Bool} (hf : f.length = 8) {n : Nat} (hno : ∀ m, m < n → search k lost f (m + 1) [] 0 = none) :
    (subs (f.set lost false) (n + 1) (flag []) 0).find? (mk k lost) = (search k lost f (n + 1) [] 0).map flag := by
  rw [subs_flag hf, search_sets, List.find?_map]
  refine congrArg (Option.map flag) (find_congr fun S hS => ?_)
  obtain ⟨E, e0, hlen, hu⟩ := sets_up _ _ _ S hS
  rw [List.nil_append] at e0
  subst e0
  rw [Bool.eq_iff_iff, Function.comp_apply, mk_made hk hl hu.lt]
  constructor
  · intro hm
    obtain ⟨S', hs, hc, h1, h4⟩ := some_can hk hl hu.lt hu.len hm
    rcases Nat.lt_or_ge S'.length (n + 1) with hlt | hge
    · have := search_none _ _ _ (hno (S'.length - 1) (by omega)) S' (by omega) (hu.sub hs)
      rw [List.nil_append, hc] at this; cases this
    · have : S' = S := hs.eq_of_length (by have := hs.length_le; omega)
      rw [← this]; exact hc
  · exact can_made hk hl hu.lt
def planF (k lost : Nat) (f : List Bool) (n : Nat) : Option (List Bool) := (subs (f.set lost false) (n + 1) (flag []) 0).find? (mk k lost)
theorem planF_first {k lost : Nat} (hk : k = 1 ∨ k = 2) (hl : lost < 8) {f : List Bool} (hf : f.length = 8) {n : Nat} (hn : n < 4) (hno : ∀ m, m < n → planF k lost f m = none) {x : List Bool} (hx : planF k lost f n = some x) : ∃ S, planM k lost f = some S ∧ x = flag S := by
  have h : ∀ j, j ≤ n → ∀ m, m < j → search k lost f (m + 1) [] 0 = none := by
    intro j
    induction j with
    | zero => intro _ m hm; omega
    | succ j ih =>
      intro hj m hm
      by_cases e : m = j
      · subst e
        have := hno m (by omega)
        unfold planF at this
        rw [level hk hl hf (ih (by omega))] at this
        simpa using this
      · exact ih (by omega) m (by omega)
  have h0 := h n (Nat.le_refl _)
  unfold planF at hx
  rw [level hk hl hf h0] at hx
  obtain ⟨S, hS, rfl⟩ := Option.map_eq_some_iff.1 hx
  exact ⟨S, findSome_some hn h0 hS, rfl⟩
theorem planF_none {k lost : Nat} (hk : k = 1 ∨ k = 2) (hl : lost < 8) {f : List Bool} (hf : f.length = 8) (hno : ∀ m, m < 4 → planF k lost f m = none) : planM k lost f = none := by
  have h : ∀ j, j ≤ 4 → ∀ m, m < j → search k lost f (m + 1) [] 0 = none := by
    intro j
    induction j with
    | zero => intro _ m hm; omega
    | succ j ih =>
      intro hj m hm
      by_cases e : m = j
      · subst e
        have := hno m (by omega)
        unfold planF at this
        rw [level hk hl hf (ih (by omega))] at this
        simpa using this
      · exact ih (by omega) m (by omega)
  exact findSome_none fun i hi => h 4 (Nat.le_refl _) i hi
theorem range_up (n : Nat) : (List.range n).Pairwise (· < ·) := List.pairwise_lt_range
theorem up_filter {S : List Nat} (hu : S.Pairwise (· < ·)) (h8 : ∀ i ∈ S, i < 8) : (List.range 8).filter (fun i => decide (i ∈ S)) = S :=
  up_ext (List.Pairwise.filter _ (range_up 8)) hu fun i => by
    rw [List.mem_filter, List.mem_range]
    constructor
    · rintro ⟨_, h⟩; simpa using h
    · intro h; exact ⟨h8 i h, by simpa using h⟩
theorem comb_filter (p : Nat → Bool) (c : Nat → Int) (v : Nat → V) (j : Nat) : ∀ l : List Nat, comb (toV ((l.filter p).map c)) ((l.filter p).map v) j = comb (toV (l.map c)) (l.map fun i => if p i then v i else fun _ => 0) j
  | [] => rfl
  | a :: l => by
    have ih := comb_filter p c v j l
    cases h : p a with
    | true =>
      rw [List.filter_cons_of_pos h, List.map_cons, List.map_cons, List.map_cons, List.map_cons, comb_cons, comb_cons]
      have e1 : (fun n => toV (c a :: (l.filter p).map c) (n + 1)) = toV ((l.filter p).map c) := rfl
      have e2 : (fun n => toV (c a :: l.map c) (n + 1)) = toV (l.map c) := rfl
      rw [e1, e2, ih]
      simp [h]
      rfl
    | false =>
      rw [List.filter_cons_of_neg (by simp [h]), List.map_cons, List.map_cons, comb_cons]
      have e2 : (fun n => toV (c a :: l.map c) (n + 1)) = toV (l.map c) := rfl
      rw [e2, ih]
      simp [h]
      grind
theorem list_range8 {c : List Int} (h : c.length = 8) : (List.range 8).map (fun i => c.getD i 0) = c := by
  apply List.ext_getElem
  · simp [h]
  · intro j h1 h2
    simp [List.getD_eq_getElem?_getD, h2]
def taken (c : List Int) (n : Nat) : List Nat := (List.range n).filter fun i => c.getD i 0 != 0
theorem taken_succ (c : List Int) (n : Nat) : taken c (n + 1) = if c.getD n 0 = 0 then taken c n else taken c n ++ [n] := by
  unfold taken
  rw [List.range_succ, List.filter_append]
  by_cases h : c.getD n 0 = 0
  · rw [if_pos h, List.filter_cons_of_neg (by rw [h]; simp)]; simp
  · rw [if_neg h, List.filter_cons_of_pos (by simpa using h)]; simp
def ints (S : List Nat) : List Int := S.map fun (i : Nat) => (i : Int)
def nums (c : List Int) (S : List Nat) : List Int := S.map fun i => c.getD i 0
theorem taken_plan {k lost : Nat} (hk : k = 1 ∨ k = 2) (hl : lost < 8) {f : List Bool} {S : List Nat} (h : planM k lost f = some S) {c : List Int} (hc : IsBy (padd k (flag S)) (crow k lost) c) : taken c 8 = S ∧ PlanBy k lost S (nums c S) := by
  obtain ⟨h1, h4, hu, hcan, _⟩ := plan_some h
  have hlen : c.length = 8 := by have := hc.row.1; rwa [padd_len] at this
  have hS := up_filter hu.up hu.lt
  have hz : ∀ i, i < 8 → i ∉ S → c.getD i 0 = 0 := by
    intro i hi hn
    refine hc.zero i (by rw [padd_len]; exact hi) fun hf => hn ?_
    have := (padd_first hk hf).2.1
    rw [flag_get S hi] at this
    simpa using this
  have hb : PlanBy k lost S (nums c S) := by
    refine ⟨⟨by simp [nums], fun x hx => ?_⟩, fun j => ?_⟩
    · obtain ⟨i, hi, rfl⟩ := List.mem_map.1 hx
      exact hc.row.get i
    · rw [hc.sum j]
      have e1 : (prow k S).map toV = S.map (fun i => toV (crow k i)) := by unfold prow; rw [List.map_map]; rfl
      have e2 : (padd k (flag S)).map toV = (List.range 8).map (fun i => if decide (i ∈ S) then toV (crow k i) else fun _ => 0) := by
        unfold padd
        rw [List.map_map]
        refine List.map_congr_left fun i hi => ?_
        rw [Function.comp_apply, flag_get S (List.mem_range.1 hi)]
        by_cases hm : i ∈ S
        · simp [hm]
        · simp only [hm, decide_false]
          funext j
          exact toV_none4 j
      have e3 := comb_filter (fun i => decide (i ∈ S)) (fun i => c.getD i 0) (fun i => toV (crow k i)) j (List.range 8)
      rw [hS, list_range8 hlen] at e3
      rw [e1, e2]
      exact e3.symm
  refine ⟨?_, hb⟩
  have hne := plan_by hk hl h hb
  unfold taken
  refine Eq.trans ?_ hS
  refine List.filter_congr fun i hi => ?_
  have hi8 := List.mem_range.1 hi
  by_cases hm : i ∈ S
  · obtain ⟨j, hj, rfl⟩ := List.mem_iff_getElem.1 hm
    have := hne j hj
    unfold nums at this
    simp [List.getD_eq_getElem?_getD, hj] at this
    simp [hm]
    rw [← List.getD_eq_getElem?_getD] at this
    simpa [List.getD_eq_getElem?_getD] using this
  · have := hz i hi8 hm
    simp [hm]
    simpa [List.getD_eq_getElem?_getD] using this
theorem nums_taken (c : List Int) (n : Nat) : nums c (taken c (n + 1)) = if c.getD n 0 = 0 then nums c (taken c n) else nums c (taken c n) ++ [c.getD n 0] := by
  rw [taken_succ]
  split
  · rfl
  · simp [nums]
end Go.Proofs.Ythglkgicckodaaa.Sp

namespace Go.Proofs.Ythglkgicckodaaa
open Go.RowKit
set_option linter.unusedVariables false
theorem rowsIn_wide {n : Nat} {P : Program} {row : String} {args : Array Value} {w : World} {R : Value → World → Prop} (h : Rows P row args w R) (l : Nat) : RowsIn (Fence.wide.inRound l) n P row args w R := by
  intro c cs _
  obtain ⟨v, w', hr, hs⟩ := h c cs
  exact ⟨v, w', hr, stepsIn_wide.2 hs⟩
theorem op_inRound {P : Program} {l n : Nat} {o : Oper} {a : Act} {w : World} {K : Act → World → Prop} {Q : Exit → Act → World → Prop} (hd : ∀ c, o.op ≠ .defer c) (h : o.wp P a w K Q) : o.wpIn (Fence.wide.inRound l) n P a w K Q := by
  refine ⟨fun _ _ => trivial, ?_⟩
  unfold Oper.wp at h
  have e : o.semAt (Fence.wide.inRound l).round a.eval = execOp a.eval o := Oper.semAt_some l a.eval o hd
  rw [e]
  generalize (execOp a.eval o).run P w = r at *
  cases r with
  | ok x w' =>
    cases x <;> simp only [Oper.upon] at h <;> simp only [Oper.uponIn]
    case value => exact h
    case skip => exact h
    case defer => exact h
    case enter => exact ⟨fun h' => (by cases h'), CallsIn.inRound l (callsIn_wide.2 h)⟩
    case row => exact ⟨fun h' => (by cases h'), rowsIn_wide h l⟩
    all_goals exact h
  | halt x w' => cases x <;> simp only [Oper.upon] at h <;> simp only [Oper.uponIn] <;> exact h
def calmOps (ops : Array Oper) : Bool := ops.all fun o => match o.op with | .defer _ => false | _ => true
theorem calm_at {ops : Array Oper} (h : calmOps ops = true) {i : Nat} {o : Oper} (hi : ops[i]? = some o) : ∀ c, o.op ≠ .defer c := by
  intro c e
  unfold calmOps at h
  rw [Array.all_eq_true] at h
  obtain ⟨hl, he⟩ := Array.getElem?_eq_some_iff.1 hi
  have := h i hl
  rw [he, e] at this
  cases this
theorem any_inRound {P : Program} {md : Region.Mode} {ops : Array Oper} {l n : Nat} {Q : Exit → Act → World → Prop} (hc : calmOps ops = true) (hQ : ¬ LetsOut Q) : ∀ (fuel : Nat) (listed : Array Bool) (a : Act) (w : World), wpAny P md ops Q fuel listed a w → wpAnyIn (Fence.wide.inRound l) n P md ops Q fuel listed a w
  | 0, _, _, _, h => h
  | fuel + 1, listed, a, w, h => by
    refine ⟨h.1, fun i hi => ?_⟩
    have h1 := wpOp_mono (fun a' w' => any_inRound (l := l) (n := n) hc hQ fuel _ a' w') (h.2 i hi)
    unfold wpOp at h1
    unfold wpOpIn
    cases ho : ops[i]? with
    | none => rw [ho] at h1; exact h1
    | some o =>
      rw [ho] at h1
      simp only at h1 ⊢
      split
      · rename_i hw
        rw [if_pos hw] at h1
        rcases h1 with h1 | h1
        · exact op_inRound (calm_at hc ho) h1
        · exact absurd h1.2 hQ
      · rename_i hw
        rw [if_neg hw] at h1
        exact ⟨fun _ _ => trivial, h1⟩
theorem region_inRound {P : Program} {ops : Array Oper} {l n id : Nat} {Q : Exit → Act → World → Prop} {a : Act} {w : World} (hm : P.follows .mixedOrders = true) (hc : calmOps ops = true) (hQ : ¬ LetsOut Q) (S : World → Prop)
    (h : wpAnyH P .any ops Q S ops.size (Array.replicate ops.size false) a w.drew) : (Code.region id ops true).wpIn (Fence.wide.inRound l) n P Q a w :=
  wpIn_region_any hm (any_inRound hc hQ _ _ _ _ (wpAny_of_held _ _ _ _ h))
end Go.Proofs.Ythglkgicckodaaa

namespace Go.Proofs.Ythglkgicckodaaa
open Go.RowKit Go.Shelf
set_option linter.unusedVariables false
attribute [local go_sem] Oper.semAt_some
abbrev Fl8 := { x : List Bool // x.length = 8 }
def Fl8.put (c : Fl8) (i : Nat) : Fl8 := ⟨c.1.set i true, by rw [List.length_set]; exact c.2⟩
def subsX (f : List Bool) : Nat → Fl8 → Nat → List Fl8
  | 0, c, _ => [c]
  | n + 1, c, at_ => (List.range 8).flatMap fun i => if at_ ≤ i ∧ f.getD i false = true then subsX f n (c.put i) (i + 1) else []
def partX (f : List Bool) (n : Nat) (c : Fl8) (at_ j : Nat) : List Fl8 := (List.range j).flatMap fun i => if at_ ≤ i ∧ f.getD i false = true then subsX f n (c.put i) (i + 1) else []
theorem subsX_val (f : List Bool) : ∀ (n : Nat) (c : Fl8) (at_ : Nat), (subsX f n c at_).map Subtype.val = Sp.subs f n c.1 at_ := by
  intro n
  induction n with
  | zero => intro c at_; rfl
  | succ n ih =>
    intro c at_
    unfold subsX Sp.subs
    rw [List.map_flatMap]
    refine Sp.flatMap_congr fun i hi => ?_
    rw [apply_ite (List.map Subtype.val), ih]
    rfl
theorem partX_succ (f : List Bool) (n : Nat) (c : Fl8) (at_ j : Nat) : partX f n c at_ (j + 1) = partX f n c at_ j ++ (if at_ ≤ j ∧ f.getD j false = true then subsX f n (c.put j) (j + 1) else []) := by
  unfold partX
  rw [List.range_succ, List.flatMap_append]
  simp
theorem partX_start (f : List Bool) (n : Nat) (c : Fl8) (at_ : Nat) : ∀ j, j ≤ at_ → partX f n c at_ j = [] := by
  intro j
  induction j with
  | zero => intro _; rfl
  | succ j ih =>
    intro h
    rw [partX_succ, ih (by omega), if_neg (by omega)]
    rfl
theorem partX_no {f : List Bool} {n : Nat} {c : Fl8} {at_ j : Nat} (h : f.getD j false = false) : partX f n c at_ (j + 1) = partX f n c at_ j := by
  rw [partX_succ, h]; simp
theorem partX_yes {f : List Bool} {n : Nat} {c : Fl8} {at_ j : Nat} (h : f.getD j false = true) (hj : at_ ≤ j) : partX f n c at_ (j + 1) = partX f n c at_ j ++ subsX f n (c.put j) (j + 1) := by
  rw [partX_succ, if_pos ⟨hj, h⟩]
theorem partX_all (f : List Bool) (n : Nat) (c : Fl8) (at_ : Nat) : partX f n c at_ 8 = subsX f (n + 1) c at_ := by
  conv => rhs; unfold subsX
  rfl
theorem partX_pre (f : List Bool) (n : Nat) (c : Fl8) (at_ : Nat) : ∀ d j, j + d = 8 → partX f n c at_ j <+: partX f n c at_ 8 := by
  intro d
  induction d with
  | zero => intro j h; obtain rfl : j = 8 := by omega
            exact List.prefix_refl _
  | succ d ih =>
    intro j h
    refine List.IsPrefix.trans ?_ (ih (j + 1) (by omega))
    rw [partX_succ]
    exact List.prefix_append _ _
structure KeepAt (n₀ : Nat) (W W' : World) : Prop where
  size : W.heap.size ≤ W'.heap.size
  block : ∀ b o, n₀ ≤ b → W.heap[b]? = some o → Obj.isCells o = true → W'.heap[b]? = some o
theorem KeepAt.refl (n₀ : Nat) (W : World) : KeepAt n₀ W W := ⟨Nat.le_refl _, fun _ _ _ h _ => h⟩
theorem KeepAt.trans {n₀ : Nat} {A B C : World} (h : KeepAt n₀ A B) (k : KeepAt n₀ B C) : KeepAt n₀ A C := ⟨Nat.le_trans h.size k.size, fun b o hb ho hc => k.block b o hb (h.block b o hb ho hc) hc⟩
theorem KeepAt.grown {n₀ : Nat} {A B : World} (h : A.grownBy B none) : KeepAt n₀ A B := ⟨h.size, fun b o _ ho _ => (h.block b (Array.getElem?_eq_some_iff.1 ho).1 (by simp)).trans ho⟩
theorem KeepAt.put {n₀ : Nat} {W : World} {l : Nat} {o : Obj} (o' : Obj) (h : W.heap[l]? = some o) (hc : Obj.isCells o = false) : KeepAt n₀ W (W.putObj l o') := by
  refine ⟨by simp [World.putObj], fun b p _ hp hpc => ?_⟩
  have hne : b ≠ l := fun e => by subst e; rw [h] at hp; cases hp; rw [hc] at hpc; cases hpc
  rw [World.putObj_heap_other hne]; exact hp
theorem BArr.keep {n₀ g : Nat} {W W' : World} {t : TypeId} {l : List Bool} (h : BArr W g t l) (hk : KeepAt n₀ W W') (hg : n₀ ≤ g) : BArr W' g t l := hk.block g _ hg h rfl
def Chosen (J Jx : List Fl8 → World → Prop) (n₀ : Nat) (pre xs : List Fl8) (W : World) (e : Ending) (W' : World) : Prop :=
  (e = .returned (.bool true) ∧ J (pre ++ xs) W' ∧ KeepAt n₀ W W') ∨ (e = .returned (.bool false) ∧ ∃ q, q <+: xs ∧ Jx (pre ++ q) W')
set_option maxRecDepth 100000 in
set_option maxHeartbeats 2000000 in
theorem chooseZero (f c : Fl8) (first m l : Nat) (W : World) (R : Bool → World → Prop)
    (h : YieldAt Fence.wide (m - 1) Try.prog l #[.agg (bvals c.1).toArray] ((W.alloc (.cells (bvals f.1).toArray 92)).alloc (.cells (bvals c.1).toArray 92)) fun e W' => ∃ b, e = .returned (.bool b) ∧ R b W') :
    CallsIn Fence.wide m Try.prog 131 #[.agg (bvals f.1).toArray, .agg (bvals c.1).toArray, .int .i64 first, .int .i64 0, .func (.yield l) #[] #[]] W fun e W' => ∃ b, e = .returned (.bool b) ∧ R b W' := by
  obtain ⟨f, hf⟩ := f
  obtain ⟨c, hc⟩ := c
  obtain ⟨f0, f1, f2, f3, f4, f5, f6, f7, rfl⟩ := list_eight hf
  obtain ⟨c0, c1, c2, c3, c4, c5, c6, c7, rfl⟩ := list_eight hc
  obtain ⟨fn, tmps, assign, body, hy, hR⟩ := h
  simp only [bvals, List.map_cons, List.map_nil] at *
  clear hf hc
  refine callsIn_of_wp Try.func131 rfl trivial ?_ rfl
  simp only [Try.ntmps131, List.size_toArray, List.length_cons, List.length_nil, Nat.reduceAdd, Nat.reduceSub, Array.replicate_succ, Array.replicate_zero, List.push_toArray, List.append_toArray, List.nil_append, List.cons_append]
  gi_wp2
  refine ⟨fun h => (by cases h), hR.mono ?_⟩
  rintro e W' ⟨b, rfl, hr⟩
  gi_wp2
  go_ret
  exact ⟨b, rfl, hr⟩
set_option maxHeartbeats 4000000 in
set_option maxRecDepth 20000 in
theorem chooseSome {l n₀ N : Nat} {J Jx : List Fl8 → World → Prop} (hJ : ∀ s A B, J s A → A.grownBy B none → J s B) (f : Fl8) (n : Nat) (hn : n ≤ 8)
    (ih : ∀ (c : Fl8) (first : Nat) (pre : List Fl8) (W : World), first ≤ 8 → n₀ ≤ W.heap.size → J pre W → pre.length + (subsX f.1 n c first).length ≤ N →
      Calls Try.prog 131 #[.agg (bvals f.1).toArray, .agg (bvals c.1).toArray, .int .i64 first, .int .i64 n, .func (.yield l) #[] #[]] W (Chosen J Jx n₀ pre (subsX f.1 n c first) W))
    (c : Fl8) (first : Nat) (pre : List Fl8) (W : World) (h8 : first ≤ 8) (h0 : n₀ ≤ W.heap.size) (hj : J pre W) (hN : pre.length + (subsX f.1 (n + 1) c first).length ≤ N) :
    Calls Try.prog 131 #[.agg (bvals f.1).toArray, .agg (bvals c.1).toArray, .int .i64 first, .int .i64 (n + 1), .func (.yield l) #[] #[]] W (Chosen J Jx n₀ pre (subsX f.1 (n + 1) c first) W) := by
  have zf : (bvals f.1).toArray.size = 8 := by simp [bvals_length, f.2]
  have zc : (bvals c.1).toArray.size = 8 := by simp [bvals_length, c.2]
  have hif : (Try.prog.info? 92).map (·.size) = some (bvals f.1).toArray.size := by rw [zf]; kernel_rfl
  have hic : (Try.prog.info? 92).map (·.size) = some (bvals c.1).toArray.size := by rw [zc]; kernel_rfl
  have him : ∀ j, (Try.prog.info? 92).map (·.size) = some (bvals (c.put j).1).toArray.size := fun j => by rw [show (bvals (c.put j).1).toArray.size = 8 by simp [bvals_length, (c.put j).2]]; kernel_rfl
  have IM := Lib.hid him
  have IH := Lib.hid ih
  have HJ := Lib.hid hJ
  have F0 : Hid (BArr ((W.alloc (.cells (bvals f.1).toArray 92)).alloc (.cells (bvals c.1).toArray 92)) W.heap.size 92 f.1) := Lib.hid ((BArr.new W _ _).alloc _)
  have C0 : Hid (BArr ((W.alloc (.cells (bvals f.1).toArray 92)).alloc (.cells (bvals c.1).toArray 92)) (W.heap.size + 1) 92 c.1) := Lib.hid (by
    have := BArr.new (W.alloc (.cells (bvals f.1).toArray 92)) 92 c.1
    rw [World.size_alloc] at this
    exact this)
  have G0 : Hid (W.grownBy ((W.alloc (.cells (bvals f.1).toArray 92)).alloc (.cells (bvals c.1).toArray 92)) none) := Lib.hid (grown_alloc (grown_alloc (World.grownBy.refl _ _) _) _)
  have J0 : Hid (J pre ((W.alloc (.cells (bvals f.1).toArray 92)).alloc (.cells (bvals c.1).toArray 92))) := Lib.hid (hJ _ _ _ hj G0.out)
  have S0 : n₀ ≤ ((W.alloc (.cells (bvals f.1).toArray 92)).alloc (.cells (bvals c.1).toArray 92)).heap.size := by simp; omega
  have nz : ((n : Int) + 1 == 0) = false := by rw [beq_eq_false_iff_ne]; omega
  have NN := Lib.hid hN
  clear him ih hJ hj zf zc hN
  go_enter Try.func131, Try.ntmps131
  go_upto_region 3 with fail
  generalize (W.alloc (.cells (bvals f.1).toArray 92)).alloc (.cells (bvals c.1).toArray 92) = W0 at *
  obtain ⟨a, ha⟩ : ∃ a, a = W.heap.size := ⟨_, rfl⟩
  obtain ⟨b, hb⟩ : ∃ b, b = W.heap.size + 1 := ⟨_, rfl⟩
  rw [← hb] at C0 ⊢
  rw [← ha] at F0 ⊢
  have AB : n₀ ≤ a ∧ n₀ ≤ b := by omega
  clear ha hb
  go_wp2_with fail
  go_loopw [11] (fun i wr => ∃ j : Nat, first ≤ j ∧ j ≤ 8 ∧ i = .int .i64 j ∧ n₀ ≤ wr.heap.size ∧ KeepAt n₀ W wr ∧ BArr wr a 92 f.1 ∧ BArr wr b 92 c.1 ∧ J (pre ++ partX f.1 n c first j) wr) (fun i _ => 8 - (intOf i).toNat)
  case atStart => exact ⟨first, Nat.le_refl _, h8, rfl, S0, KeepAt.grown G0.out, F0.out, C0.out, by rw [partX_start _ _ _ _ _ (Nat.le_refl _), List.append_nil]; exact J0.out⟩
  case round =>
    obtain ⟨j, hfj, hj8, rfl, hsz, hka, hfa, hca, hjj⟩ := hrel
    have K := Lib.hid hka
    have F := Lib.hid hfa
    have C := Lib.hid hca
    have JJ := Lib.hid hjj
    clear hka hfa hca hjj F0 C0 G0 J0 S0
    by_cases hlt : j < 8
    · have hlt' : (j : Int) < 8 := by omega
      have fl : wr.cell? ⟨a, j, none⟩ = some (.bool (f.1.getD j false)) := F.out.cell (by rw [f.2]; exact hlt)
      cases hfn : f.1.getD j false with
      | false =>
        rw [hfn] at fl
        have PX := Lib.hid (partX_no (n := n) (c := c) (at_ := first) hfn)
        clear hfn
        go_wp2_with fail
        go_roundw
        case rel => exact ⟨j + 1, by omega, by omega, by go_num, hsz, K.out, F.out, C.out, by rw [PX.out]; exact JJ.out⟩
        case measure => simp [intOf]; omega
      | true =>
        rw [hfn] at fl
        have PX := Lib.hid (partX_yes (n := n) (c := c) (at_ := first) hfn hfj)
        clear hfn
        go_upto_region 7 with fail
        apply wp_region_lit
        refine wpList_load_row rfl _ _ rfl b rfl _ _ _ _ C.out Try.underlying92 rfl hic ?_
        have hs := storeF wr c.2
        have hvl : (bvals c.1).length = 8 := by rw [bvals_length]; exact c.2
        have fz := (BArr.new wr 92 c.1).frozen j
        have ce := (BArr.new wr 92 c.1).cell (i := j) (by rw [c.2]; exact hlt)
        have M1 := Lib.hid (BArr.new wr 92 (c.put j).1)
        have F1 := Lib.hid (F.out.alloc (.cells (bvals (c.put j).1).toArray 92))
        have C1 := Lib.hid (C.out.alloc (.cells (bvals (c.put j).1).toArray 92))
        have G1 := Lib.hid (grown_alloc (World.grownBy.refl wr none) (.cells (bvals (c.put j).1).toArray 92))
        have SZ1 : n₀ ≤ (wr.alloc (.cells (bvals (c.put j).1).toArray 92)).heap.size := by simp; omega
        have LN : Hid ((pre ++ partX f.1 n c first j).length + (subsX f.1 n (c.put j) (j + 1)).length ≤ N) := Lib.hid (by
          have h1 := (partX_pre f.1 n c first (8 - (j + 1)) (j + 1) (by omega)).length_le
          rw [partX_all, PX.out, List.length_append] at h1
          have := NN.out
          rw [List.length_append]; omega)
        go_upto_region 9 with fail
        clear hs hvl fz ce fl
        rw [bvals_set]
        change Code.wp _ _ _ _ (wr.alloc (.cells (bvals (c.put j).1).toArray 92))
        generalize wr.alloc (.cells (bvals (c.put j).1).toArray 92) = w2 at *
        generalize wr.heap.size = g at *
        apply wp_region_lit
        refine wpList_load_row rfl _ _ rfl a rfl _ _ _ _ F1.out Try.underlying92 rfl hif ?_
        refine wpList_load_row rfl _ _ rfl g rfl _ _ _ _ M1.out Try.underlying92 rfl (IM.out j) ?_
        have ih1 := IH.out (c.put j) (j + 1) (pre ++ partX f.1 n c first j) w2 (by omega) SZ1 (HJ.out _ _ _ JJ.out G1.out) LN.out
        rw [show ((j + 1 : Nat) : Int) = (j : Int) + 1 by omega] at ih1
        have I1 := Lib.hid ih1
        clear ih1 M1 LN IM IH
        go_wp2_with fail
        refine I1.out.mono ?_
        rintro e w3 (⟨rfl, hj3, hk3⟩ | ⟨rfl, q, hq, hx⟩)
        · have K3 := Lib.hid ((K.out.trans (KeepAt.grown G1.out)).trans hk3)
          have F3 := Lib.hid (F1.out.keep hk3 AB.1)
          have C3 := Lib.hid (C1.out.keep hk3 AB.2)
          have SZ3 := Nat.le_trans SZ1 hk3.size
          have J3 : Hid (J (pre ++ partX f.1 n c first (j + 1)) w3) := Lib.hid (by rw [PX.out, ← List.append_assoc]; exact hj3)
          clear hj3 hk3 K F C JJ F1 C1 G1 I1 PX
          go_wp2_with fail
          go_roundw
          case rel => exact ⟨j + 1, by omega, by omega, by go_num, SZ3, K3.out, F3.out, C3.out, J3.out⟩
          case measure => simp [intOf]; omega
        · have X3 : Hid (∃ q, q <+: subsX f.1 (n + 1) c first ∧ Jx (pre ++ q) w3) := Lib.hid ⟨partX f.1 n c first j ++ q, by
            have h1 := partX_pre f.1 n c first (8 - (j + 1)) (j + 1) (by omega)
            rw [partX_all, PX.out] at h1
            obtain ⟨r, hr⟩ := hq
            refine List.IsPrefix.trans ⟨r, ?_⟩ h1
            rw [List.append_assoc, hr], by rw [← List.append_assoc]; exact hx⟩
          clear hx hq
          go_wp2_with fail
          go_ret
          exact .inr ⟨rfl, X3.out⟩
    · obtain rfl : j = 8 := by omega
      go_wp2_with fail
      go_ret
      exact .inl ⟨rfl, by rw [← partX_all]; exact JJ.out, K.out⟩
end Go.Proofs.Ythglkgicckodaaa

namespace Go.Proofs.Ythglkgicckodaaa
open Go.RowKit
set_option linter.unusedVariables false
def TwoOwn (w : World) (base : Nat) (u v : Value) (l m : List Int) : Prop := Own w base u l ∧ Own w base v m ∧ (u.ownBlock = none ∨ u.ownBlock ≠ v.ownBlock)
theorem TwoOwn.all {w : World} {base : Nat} {u v : Value} {l m : List Int} (h : TwoOwn w base u v l m) : OwnAll w base [row1 u l, row1 v m] := by
  constructor
  · intro x hx
    rcases List.mem_cons.1 hx with rfl | hx
    · exact row1_own.2 h.1
    · rcases List.mem_cons.1 hx with rfl | hx
      · exact row1_own.2 h.2.1
      · cases hx
  · refine List.pairwise_cons.2 ⟨fun y hy => ?_, List.pairwise_cons.2 ⟨fun y hy => (by cases hy), List.Pairwise.nil⟩⟩
    rcases List.mem_cons.1 hy with rfl | hy
    · exact h.2.2
    · cases hy
theorem TwoOwn.still {w w' : World} {base : Nat} {u v : Value} {l m : List Int} (h : TwoOwn w base u v l m) (hg : w.grownBy w' none) : TwoOwn w' base u v l m := ⟨h.1.still hg, h.2.1.still hg, h.2.2⟩
theorem TwoOwn.lower {w : World} {base base' : Nat} {u v : Value} {l m : List Int} (h : TwoOwn w base u v l m) (hb : base' ≤ base) : TwoOwn w base' u v l m := ⟨h.1.lower hb, h.2.1.lower hb, h.2.2⟩
theorem apart_symm {u v : Value} (h : u.ownBlock = none ∨ u.ownBlock ≠ v.ownBlock) : v.ownBlock = none ∨ v.ownBlock ≠ u.ownBlock := by
  rcases h with h | h
  · cases hv : v.ownBlock with
    | none => exact .inl rfl
    | some k => exact .inr (by rw [h]; simp)
  · exact .inr fun e => h e.symm
def NewPlan (lost : Int) (l m : List Int) (w : World) (e : Ending) (w' : World) : Prop := ∃ u v, e = .returned (.agg #[.int .i64 lost, u, v]) ∧ w.grownBy w' none ∧ TwoOwn w' w.heap.size u v l m
theorem idxT (a0 a1 a2 a3 a4 a5 a6 a7 : Int) {n : Nat} (hn : n < 8) (W : World) : (Instr.index 88 (.agg (vals [a0, a1, a2, a3, a4, a5, a6, a7]).toArray) (.int .i64 n)).run Try.prog W = .ok (.int .i64 ([a0, a1, a2, a3, a4, a5, a6, a7].getD n 0)) W := by
  rcases (by omega : n = 0 ∨ n = 1 ∨ n = 2 ∨ n = 3 ∨ n = 4 ∨ n = 5 ∨ n = 6 ∨ n = 7) with rfl | rfl | rfl | rfl | rfl | rfl | rfl | rfl <;> kernel_rfl
theorem taken_len (c : List Int) (n : Nat) : (Sp.taken c n).length ≤ n := by
  unfold Sp.taken
  exact Nat.le_trans (List.length_filter_le _ _) (by simp)
theorem ints_lenP (S : List Nat) : (Sp.ints S).length = S.length := by simp [Sp.ints]
theorem nums_len (c : List Int) (S : List Nat) : (Sp.nums c S).length = S.length := by simp [Sp.nums]
set_option maxHeartbeats 4000000 in
set_option maxRecDepth 20000 in
theorem planBy (lost : Int) (c : List Int) (hc : c.length = 8) (w : World) : Calls Try.prog 120 #[.int .i64 lost, .agg (vals c).toArray] w (NewPlan lost (Sp.ints (Sp.taken c 8)) (Sp.nums c (Sp.taken c 8)) w) := by
  have IX : Hid (∀ (n : Nat) (h : n < 8) (W : World), (Instr.index 88 (.agg (vals c).toArray) (.int .i64 n)).run Try.prog W = .ok (.int .i64 (c.getD n 0)) W) := Lib.hid (by
    obtain ⟨a0, a1, a2, a3, a4, a5, a6, a7, rfl⟩ := list_eight hc
    exact fun n h W => idxT a0 a1 a2 a3 a4 a5 a6 a7 h W)
  have z : (vals c).toArray.size = 8 := by simp [vals_length, hc]
  have hi : (Try.prog.info? 88).map (·.size) = some (vals c).toArray.size := by rw [z]; kernel_rfl
  obtain ⟨i0, hi0, hz0, hz1, hz2⟩ := info_parts infoInt
  have I1 := Lib.hid hi0
  have I2 := Lib.hid hz0
  have I3 := Lib.hid hz1
  have I4 := Lib.hid hz2
  clear hi0 hz0 hz1 hz2
  have C0 : Hid (Arr (((w.alloc (.cells (vals c).toArray 88)).alloc (.cells #[.int .i64 0, .slice none 0 0, .slice none 0 0] 110)).alloc (.cells #[.int .i64 lost, .slice none 0 0, .slice none 0 0] 110)) w.heap.size 88 c) := Lib.hid (((Arr.new w _ _).alloc _).alloc _)
  have R0 : Hid (Blk (((w.alloc (.cells (vals c).toArray 88)).alloc (.cells #[.int .i64 0, .slice none 0 0, .slice none 0 0] 110)).alloc (.cells #[.int .i64 lost, .slice none 0 0, .slice none 0 0] 110)) (w.heap.size + 1) 110 [.int .i64 0, .slice none 0 0, .slice none 0 0]) := Lib.hid (by
    have h := heap_alloc_new (w.alloc (.cells (vals c).toArray 88)) (.cells #[.int .i64 0, .slice none 0 0, .slice none 0 0] 110)
    rw [World.size_alloc] at h
    exact (Below.heap_alloc _ _ _ (by simp)).trans h)
  have P0 : Hid (Blk (((w.alloc (.cells (vals c).toArray 88)).alloc (.cells #[.int .i64 0, .slice none 0 0, .slice none 0 0] 110)).alloc (.cells #[.int .i64 lost, .slice none 0 0, .slice none 0 0] 110)) (w.heap.size + 2) 110 [.int .i64 lost, .slice none 0 0, .slice none 0 0]) := Lib.hid (by
    have h := heap_alloc_new ((w.alloc (.cells (vals c).toArray 88)).alloc (.cells #[.int .i64 0, .slice none 0 0, .slice none 0 0] 110)) (.cells #[.int .i64 lost, .slice none 0 0, .slice none 0 0] 110)
    rw [World.size_alloc, World.size_alloc] at h
    exact h)
  have G0 : Hid (w.grownBy (((w.alloc (.cells (vals c).toArray 88)).alloc (.cells #[.int .i64 0, .slice none 0 0, .slice none 0 0] 110)).alloc (.cells #[.int .i64 lost, .slice none 0 0, .slice none 0 0] 110)) none) := Lib.hid (grown_alloc (grown_alloc (grown_alloc (World.grownBy.refl _ _) _) _) _)
  have S0 : w.heap.size + 3 ≤ (((w.alloc (.cells (vals c).toArray 88)).alloc (.cells #[.int .i64 0, .slice none 0 0, .slice none 0 0] 110)).alloc (.cells #[.int .i64 lost, .slice none 0 0, .slice none 0 0] 110)).heap.size := by simp
  clear hc z
  go_enter Try.func120, Try.ntmps120
  go_upto_region 2 with fail
  generalize ((w.alloc (.cells (vals c).toArray 88)).alloc (.cells #[.int .i64 0, .slice none 0 0, .slice none 0 0] 110)).alloc (.cells #[.int .i64 lost, .slice none 0 0, .slice none 0 0] 110) = W0 at *
  apply wp_region_lit
  refine wpList_load_row rfl _ _ rfl w.heap.size rfl _ _ _ _ C0.out Try.underlying88 rfl hi ?_
  clear C0 hi
  generalize hvc : vals c = vc at *
  clear hvc
  obtain ⟨r, hr⟩ : ∃ r, r = w.heap.size + 1 := ⟨_, rfl⟩
  obtain ⟨g, hg⟩ : ∃ g, g = w.heap.size + 1 + 1 := ⟨_, rfl⟩
  rw [show w.heap.size + 2 = g from hg.symm] at P0
  rw [← hr] at R0
  rw [← hg, ← hr]
  have BG : w.heap.size ≤ r ∧ r < g ∧ g + 1 = w.heap.size + 3 := by omega
  clear hr hg
  generalize hB : w.heap.size + 3 = B at *
  have BB : w.heap.size ≤ B := by omega
  clear hB
  go_wp2_with fail
  go_loopw [11] (fun i wr => ∃ n : Nat, n ≤ 8 ∧ i = .int .i64 n ∧ w.grownBy wr none ∧ B ≤ wr.heap.size ∧ Blk wr r 110 [.int .i64 0, .slice none 0 0, .slice none 0 0] ∧ ∃ u v, Blk wr g 110 [.int .i64 lost, u, v] ∧ TwoOwn wr B u v (Sp.ints (Sp.taken c n)) (Sp.nums c (Sp.taken c n))) (fun i _ => 8 - (intOf i).toNat)
  case atStart => exact ⟨0, by omega, rfl, G0.out, S0, R0.out, _, _, P0.out, Own.none_ _ _, Own.none_ _ _, .inl rfl⟩
  case round =>
    obtain ⟨n, hn, rfl, hgr, hsz, hrr, u, v, hgg, hto⟩ := hrel
    have G := Lib.hid hgr
    have R := Lib.hid hrr
    have P := Lib.hid hgg
    have T := Lib.hid hto
    have SZ := Lib.hid hsz
    clear hgr hrr hgg hto hsz G0 S0 R0 P0
    have c1 := P.out.cell (i := 1) rfl
    have c2 := P.out.cell (i := 2) rfl
    have f1 := P.out.frozen 1
    have f2 := P.out.frozen 2
    have TL := taken_len c n
    by_cases hlt : n < 8
    · have hlt' : (n : Int) < 8 := by omega
      have ix := IX.out n hlt wr
      have TS := Lib.hid (Sp.taken_succ c n)
      have NS := Lib.hid (Sp.nums_taken c n)
      obtain ⟨x, hx⟩ : ∃ x, c.getD n 0 = x := ⟨_, rfl⟩
      rw [hx] at ix TS NS
      clear hx
      by_cases h0 : x = 0
      · subst h0
        have e1 : Hid (Sp.taken c (n + 1) = Sp.taken c n) := Lib.hid (by rw [TS.out, if_pos rfl])
        clear TS NS
        go_wp2_with fail
        go_roundw
        case rel => exact ⟨n + 1, by omega, by go_num, G.out, SZ.out, R.out, u, v, P.out, by rw [e1.out]; exact T.out⟩
        case measure => simp [intOf]; omega
      · have e1 : Hid (Sp.taken c (n + 1) = Sp.taken c n ++ [n]) := Lib.hid (by rw [TS.out, if_neg h0])
        have e2 : Hid (Sp.nums c (Sp.taken c (n + 1)) = Sp.nums c (Sp.taken c n) ++ [x]) := Lib.hid (by rw [NS.out, if_neg h0])
        have e3 : Hid (Sp.ints (Sp.taken c (n + 1)) = Sp.ints (Sp.taken c n) ++ [(n : Int)]) := Lib.hid (by rw [e1.out]; simp [Sp.ints])
        clear TS NS e1
        have ne0 : (x != 0) = true := by rw [bne_iff_ne]; exact h0
        have lF : (Sp.ints (Sp.taken c n)).length ≤ 8 := by rw [ints_lenP]; omega
        have lB : (Sp.nums c (Sp.taken c n)).length ≤ 8 := by rw [nums_len]; omega
        generalize Sp.ints (Sp.taken c n) = lf at *
        generalize Sp.nums c (Sp.taken c n) = lb at *
        have OF := Lib.hid T.out.1
        have s1 := SZ.out
        have b1 := BG.2.2
        clear h0
        go_wp2_with (first
          | (at_builtin; refine wpList_append_own_at _ rfl _ _ 23 rfl B 3 i0 (.int .i64 0) 1 8 Try.underlying23 I1.out I2.out I3.out I4.out rfl (by decide) _ _ _ rfl (World.ownsRow.alloc OF.out _) ⟨wr.heap.size, 0, none⟩ 1 1 [.int .i64 n] rfl rfl (one_cell (g := 0)) (vals_one [(n : Int)]) ?c3 ?c4 ?c5 ?_))
        case c3 => unfold maxLen; omega
        case c4 => omega
        case c5 => simp; omega
        intro u' w1 ho hg _ hat
        have g1 : wr.grownBy w1 u.ownBlock := grown_trans (World.grownBy_alloc _ _ _) hg
        have o1 : Own w1 B u' (lf ++ [(n : Int)]) := own_snoc ho rfl rfl
        have v1 : Own w1 B v lb := (T.out.2.1).kept g1 (apart_symm T.out.2.2)
        have ap1 : u'.ownBlock = none ∨ u'.ownBlock ≠ v.ownBlock := by
          rcases hat with hat | hat
          · rw [hat]; exact T.out.2.2
          · refine .inr fun e => ?_
            rw [hat] at e
            have := (World.ownsRow.lt T.out.2.1 _ e.symm).2
            (try rw [World.size_alloc] at this)
            omega
        have p1 := P.out.kept g1 (far_own T.out.1 (by omega))
        have r1 := R.out.kept g1 (far_own T.out.1 (by omega))
        have G1 := Lib.hid (grown_own G.out g1 (fun j hj => by have := (World.ownsRow.lt T.out.1 j hj).1; omega))
        have S1 := Nat.le_trans s1 g1.size
        obtain ⟨au, cu, eu, _, _, _⟩ := o1.sl
        obtain ⟨nl, hnl⟩ : ∃ k, (lf ++ [(n : Int)]).length = k := ⟨_, rfl⟩
        rw [hnl] at eu
        clear hnl
        subst eu
        have d1 := p1.cell (i := 1) rfl
        have d2 := p1.cell (i := 2) rfl
        have q1 := p1.frozen 1
        have q2 := p1.frozen 2
        have P2 := Lib.hid (p1.put 1 (.slice au nl cu))
        have gs : w1.grownBy (w1.setCell ⟨g, 1, none⟩ (.slice au nl cu)) (some g) := grown_at (World.grownBy.refl w1 (some g)) 1 _
        have T2 : Hid (TwoOwn (w1.setCell ⟨g, 1, none⟩ (.slice au nl cu)) B (.slice au nl cu) v (lf ++ [(n : Int)]) lb) := Lib.hid ⟨o1.kept gs (.inr fun e => far_own o1 (by omega) e.symm), v1.kept gs (.inr fun e => far_own v1 (by omega) e.symm), ap1⟩
        have R2 := Lib.hid (r1.kept gs (by intro e; injection e with e; omega))
        have G2 := Lib.hid (grown_own G1.out gs (fun j hj => by injection hj with hj; omega))
        have S2 : B ≤ (w1.setCell ⟨g, 1, none⟩ (.slice au nl cu)).heap.size := by rw [size_set]; exact S1
        have OB := Lib.hid T2.out.2.1
        have ne1 : w1.cell? ⟨g, 2, none⟩ = some v := d2
        have nx : (w1.setCell ⟨g, 1, none⟩ (.slice au nl cu)).cell? ⟨g, 2, none⟩ = some v := P2.out.cell (i := 2) rfl
        clear ho hg hat g1 o1 v1 ap1 p1 r1 gs G R P T SZ s1 c1 c2 f1 f2 OF G1 S1 ne1
        go_wp2_with (first
          | (at_builtin; refine wpList_append_own_at _ rfl _ _ 23 rfl B 3 i0 (.int .i64 0) 1 8 Try.underlying23 I1.out I2.out I3.out I4.out rfl (by decide) _ _ _ rfl (World.ownsRow.alloc OB.out _) ⟨w1.heap.size, 0, none⟩ 1 1 [.int .i64 x] rfl rfl (one_cell_at (size_set _ _ _)) (vals_one [x]) ?c3 ?c4 ?c5 ?_))
        case c3 => unfold maxLen; omega
        case c4 => omega
        case c5 => have := S2; rw [size_set] at this; simp; omega
        intro v' w3 ho hg _ hat
        have hsz2 := size_set w1 ⟨g, 1, none⟩ (.slice au nl cu)
        generalize w1.setCell ⟨g, 1, none⟩ (.slice au nl cu) = w2 at *
        have g1 : w2.grownBy w3 v.ownBlock := grown_trans (World.grownBy_alloc _ _ _) hg
        have o1 : Own w3 B v' (lb ++ [x]) := own_snoc ho rfl rfl
        have u1 : Own w3 B (.slice au nl cu) (lf ++ [(n : Int)]) := (T2.out.1).kept g1 T2.out.2.2
        have ap1 : (Value.slice au nl cu).ownBlock = none ∨ (Value.slice au nl cu).ownBlock ≠ v'.ownBlock := by
          rcases hat with hat | hat
          · rw [hat]; exact T2.out.2.2
          · refine .inr fun e => ?_
            rw [hat] at e
            have := (World.ownsRow.lt T2.out.1 _ e).2
            (try rw [World.size_alloc] at this)
            omega
        have p1 := P2.out.kept g1 (far_own T2.out.2.1 (by omega))
        have r1 := R2.out.kept g1 (far_own T2.out.2.1 (by omega))
        have G3 := Lib.hid (grown_own G2.out g1 (fun j hj => by have := (World.ownsRow.lt T2.out.2.1 j hj).1; omega))
        have S3 := Nat.le_trans S2 g1.size
        obtain ⟨av, cv, ev, _, _, _⟩ := o1.sl
        obtain ⟨ml, hml⟩ : ∃ k, (lb ++ [x]).length = k := ⟨_, rfl⟩
        rw [hml] at ev
        clear hml
        subst ev
        have d3 := p1.cell (i := 2) rfl
        have q3 := p1.frozen 2
        have P4 := Lib.hid (p1.put 2 (.slice av ml cv))
        have gs : w3.grownBy (w3.setCell ⟨g, 2, none⟩ (.slice av ml cv)) (some g) := grown_at (World.grownBy.refl w3 (some g)) 2 _
        have T4 : Hid (TwoOwn (w3.setCell ⟨g, 2, none⟩ (.slice av ml cv)) B (.slice au nl cu) (.slice av ml cv) (lf ++ [(n : Int)]) (lb ++ [x])) := Lib.hid ⟨u1.kept gs (.inr fun e => far_own u1 (by omega) e.symm), o1.kept gs (.inr fun e => far_own o1 (by omega) e.symm), ap1⟩
        have R4 := Lib.hid (r1.kept gs (by intro e; injection e with e; omega))
        have G4 := Lib.hid (grown_own G3.out gs (fun j hj => by injection hj with hj; omega))
        have S4 : B ≤ (w3.setCell ⟨g, 2, none⟩ (.slice av ml cv)).heap.size := by rw [size_set]; exact S3
        clear ho hg hat g1 o1 u1 ap1 p1 r1 gs T2 P2 R2 G2 S2 OB G3 S3 nx
        go_wp2_with fail
        go_roundw
        case rel => exact ⟨n + 1, by omega, by go_num, G4.out, S4, R4.out, _, _, P4.out, by rw [e2.out, e3.out]; exact T4.out⟩
        case measure => simp [intOf]; omega
    · obtain rfl : n = 8 := by omega
      have fr0 := R.out.frozen 0
      have fr1 := R.out.frozen 1
      have fr2 := R.out.frozen 2
      have k0 := R.out.cell (i := 0) rfl
      have k1 := R.out.cell (i := 1) rfl
      have k2 := R.out.cell (i := 2) rfl
      have c0 := P.out.cell (i := 0) rfl
      have T' := T
      obtain ⟨au, cu, eu, _, _, _⟩ := T.out.1.sl
      obtain ⟨av, cv, ev, _, _, _⟩ := T.out.2.1.sl
      generalize (Sp.ints (Sp.taken c 8)).length = nl at *
      generalize (Sp.nums c (Sp.taken c 8)).length = ml at *
      subst eu ev
      have G5 : Hid (w.grownBy (((wr.setCell ⟨r, 0, none⟩ (.int .i64 lost)).setCell ⟨r, 1, none⟩ (.slice au nl cu)).setCell ⟨r, 2, none⟩ (.slice av ml cv)) none) := Lib.hid (grown_set (grown_set (grown_set G.out BG.1 _) BG.1 _) BG.1 _)
      have R5 : Hid (Blk (((wr.setCell ⟨r, 0, none⟩ (.int .i64 lost)).setCell ⟨r, 1, none⟩ (.slice au nl cu)).setCell ⟨r, 2, none⟩ (.slice av ml cv)) r 110 [.int .i64 lost, .slice au nl cu, .slice av ml cv]) := Lib.hid (((R.out.put 0 (.int .i64 lost)).put 1 (.slice au nl cu)).put 2 (.slice av ml cv))
      have gs : wr.grownBy (((wr.setCell ⟨r, 0, none⟩ (.int .i64 lost)).setCell ⟨r, 1, none⟩ (.slice au nl cu)).setCell ⟨r, 2, none⟩ (.slice av ml cv)) (some r) := grown_at (grown_at (grown_at (World.grownBy.refl wr (some r)) 0 _) 1 _) 2 _
      have T5 : Hid (TwoOwn (((wr.setCell ⟨r, 0, none⟩ (.int .i64 lost)).setCell ⟨r, 1, none⟩ (.slice au nl cu)).setCell ⟨r, 2, none⟩ (.slice av ml cv)) w.heap.size (.slice au nl cu) (.slice av ml cv) (Sp.ints (Sp.taken c 8)) (Sp.nums c (Sp.taken c 8))) := Lib.hid (TwoOwn.lower ⟨T'.out.1.kept gs (.inr fun e => far_own T'.out.1 (by omega) e.symm), T'.out.2.1.kept gs (.inr fun e => far_own T'.out.2.1 (by omega) e.symm), T'.out.2.2⟩ BB)
      clear T gs
      go_wp2_with fail
      refine bodyPost_ret (v := .agg #[.int .i64 lost, .slice au nl cu, .slice av ml cv]) (results_cell_row rfl _ _ r _ _ _ _ rfl R5.out Try.underlying110 rfl (by kernel_rfl)) rfl ⟨_, _, rfl, G5.out, T5.out⟩
end Go.Proofs.Ythglkgicckodaaa

namespace Go.Proofs.Ythglkgicckodaaa
open Go.RowKit Go.Shelf
set_option linter.unusedVariables false
attribute [local go_sem] Oper.semAt_some
theorem wide_room (k : Nat) : Fence.wide.room k := fun d h => by cases h
theorem yield_any {m : Nat} (m' : Nat) {P : Program} {l : Nat} {args : Array Value} {W : World} {R : Ending → World → Prop} (h : YieldAt Fence.wide m P l args W R) : YieldAt Fence.wide m' P l args W R := by
  obtain ⟨fn, tmps, assign, body, hy, hR⟩ := h
  exact ⟨fn, tmps, assign, body, hy, hR.1, fun c cs _ => hR.2 c cs (wide_room _)⟩
theorem chooseIs {l n₀ N : Nat} {J Jx : List Fl8 → World → Prop} (hJ : ∀ s A B, J s A → A.grownBy B none → J s B) (f : Fl8)
    (hY : ∀ m pre x W, J pre W → pre.length < N → YieldAt Fence.wide m Try.prog l #[.agg (bvals x.1).toArray] W fun e W' => (e = .returned (.bool true) ∧ J (pre ++ [x]) W' ∧ KeepAt n₀ W W') ∨ (e = .returned (.bool false) ∧ Jx (pre ++ [x]) W')) :
    ∀ (n : Nat), n ≤ 8 → ∀ (c : Fl8) (first : Nat) (pre : List Fl8) (W : World), first ≤ 8 → n₀ ≤ W.heap.size → J pre W → pre.length + (subsX f.1 n c first).length ≤ N →
      Calls Try.prog 131 #[.agg (bvals f.1).toArray, .agg (bvals c.1).toArray, .int .i64 first, .int .i64 n, .func (.yield l) #[] #[]] W (Chosen J Jx n₀ pre (subsX f.1 n c first) W) := by
  intro n
  induction n with
  | zero =>
    intro _ c first pre W h8 h0 hj hN
    have hx : subsX f.1 0 c first = [c] := by unfold subsX; rfl
    rw [hx] at hN ⊢
    have hg : W.grownBy ((W.alloc (.cells (bvals f.1).toArray 92)).alloc (.cells (bvals c.1).toArray 92)) none := grown_alloc (grown_alloc (World.grownBy.refl _ _) _) _
    have hz := chooseZero f c first 1 l W (fun b W' => (b = true ∧ J (pre ++ [c]) W' ∧ KeepAt n₀ W W') ∨ (b = false ∧ Jx (pre ++ [c]) W')) (YieldAt.mono (hY _ pre c _ (hJ _ _ _ hj hg) (by simp at hN; omega)) fun e W' h => by
      rcases h with ⟨rfl, h1, h2⟩ | ⟨rfl, h1⟩
      · exact ⟨true, rfl, .inl ⟨rfl, h1, (KeepAt.grown hg).trans h2⟩⟩
      · exact ⟨false, rfl, .inr ⟨rfl, h1⟩⟩)
    refine (callsIn_wide.1 hz).mono fun e W' ⟨b, he, h⟩ => ?_
    rcases h with ⟨rfl, h1, h2⟩ | ⟨rfl, h1⟩
    · exact .inl ⟨he, h1, h2⟩
    · exact .inr ⟨he, [c], List.prefix_refl _, h1⟩
  | succ n ih =>
    intro hn c first pre W h8 h0 hj hN
    have := chooseSome hJ f n (by omega) (ih (by omega)) c first pre W h8 h0 hj hN
    rw [show ((n + 1 : Nat) : Int) = (n : Int) + 1 by omega]
    exact this
def none8 : Fl8 := ⟨[false, false, false, false, false, false, false, false], rfl⟩
theorem none8_flag : none8.1 = Sp.flag [] := by decide
set_option maxHeartbeats 4000000 in
set_option maxRecDepth 20000 in
theorem subsetsRun {l n₀ N : Nat} {J Jx : List Fl8 → World → Prop} (hJ : ∀ s A B, J s A → A.grownBy B none → J s B) (f : Fl8) (n : Nat) (hn : n ≤ 8)
    (hY : ∀ m pre x W, J pre W → pre.length < N → YieldAt Fence.wide m Try.prog l #[.agg (bvals x.1).toArray] W fun e W' => (e = .returned (.bool true) ∧ J (pre ++ [x]) W' ∧ KeepAt n₀ W W') ∨ (e = .returned (.bool false) ∧ Jx (pre ++ [x]) W'))
    (bf bc : Nat) (W : World) (hf : BArr W bf 92 f.1) (hc : W.cell? ⟨bc, 0, none⟩ = some (.int .i64 n)) (h0 : n₀ ≤ W.heap.size) (hj : J [] W) (hN : (subsX f.1 n none8 0).length ≤ N) :
    Calls Try.prog 130 #[.func (.yield l) #[] #[], .pointer (some ⟨bf, 0, none⟩), .pointer (some ⟨bc, 0, none⟩)] W fun e W' => (∃ v, e = .returned v) ∧ ((∃ xs, xs = subsX f.1 n none8 0 ∧ J xs W') ∨ (∃ pre, pre <+: subsX f.1 n none8 0 ∧ Jx pre W')) := by
  have z : (bvals f.1).toArray.size = 8 := by simp [bvals_length, f.2]
  have hi : (Try.prog.info? 92).map (·.size) = some (bvals f.1).toArray.size := by rw [z]; kernel_rfl
  have I := Lib.hid (chooseIs hJ f hY n hn none8 0 [] W (by omega) h0 hj (by simpa using hN))
  clear hJ hY hj hN
  go_enter Try.func130, Try.ntmps130
  apply wp_region_lit
  refine wpList_load_row rfl _ _ rfl bf rfl _ _ _ _ hf Try.underlying92 rfl hi ?_
  clear hf hi z
  go_wp2_with fail
  refine I.out.mono ?_
  rintro e W' (⟨rfl, hj, _⟩ | ⟨rfl, q, hq, hx⟩)
  · have X := Lib.hid hj
    clear hj
    go_wp2_with fail
    go_end0
    exact ⟨⟨_, rfl⟩, .inl ⟨_, rfl, by simpa using X.out⟩⟩
  · have X := Lib.hid hx
    clear hx
    go_wp2_with fail
    go_end0
    exact ⟨⟨_, rfl⟩, .inr ⟨q, hq, by simpa using X.out⟩⟩
set_option maxHeartbeats 4000000 in
set_option maxRecDepth 20000 in
theorem subsetsMake (f : List Bool) (n : Int) (w : World) : Calls Try.prog 119 #[.agg (bvals f).toArray, .int .i64 n] w fun e w' => e = .returned (.func (.func 130) #[] #[.pointer (some ⟨w.heap.size, 0, none⟩), .pointer (some ⟨w.heap.size + 1, 0, none⟩)]) ∧ w' = (w.alloc (.cells (bvals f).toArray 92)).alloc (.cells #[.int .i64 n] 3) := by
  go_enter Try.func119, Try.ntmps119
  go_wp2_with fail
  go_ret
  exact ⟨rfl, rfl⟩
theorem subsets_stops (f : Fl8) (n : Nat) (hn : n ≤ 8) (m n₀ bf bc : Nat) (w : World) (hf : BArr w bf 92 f.1) (hc : w.cell? ⟨bc, 0, none⟩ = some (.int .i64 n)) (h0 : n₀ ≤ w.heap.size) :
    SeqStopsK Fence.wide m Try.prog 130 #[.pointer (some ⟨bf, 0, none⟩), .pointer (some ⟨bc, 0, none⟩)] (fun x : Fl8 => #[Value.agg (bvals x.1).toArray]) (KeepAt n₀) (fun xs => xs = subsX f.1 n none8 0) (fun pre => pre <+: subsX f.1 n none8 0) (subsX f.1 n none8 0).length w :=
  fun l J Jx W hW hJ _ hY hj => callsIn_wide.2 (subsetsRun (fun s A B h hg => hJ s A B none h hg (fun r e => by cases e)) f n hn (fun k pre x W1 h1 h2 => yield_any k (hY pre x W1 h1 h2)) bf bc W ((hW.block bf hf.lt).trans hf) ((hW.cell (p := ⟨bc, 0, none⟩) (lt_of_cell hc)).trans hc) (Nat.le_trans h0 hW.size) hj (Nat.le_refl _))
end Go.Proofs.Ythglkgicckodaaa
