/-
  Plain arithmetic of patches, more: those between two of numbers lead from one to the other; the order of patches is all one; a patch is undone by what is left.
  Conditions: none.
-/
import Derived.Test.YthglkgicckodaaaPatchMath
namespace Go.Proofs.Ythglkgicckodaaa
set_option linter.unusedVariables false

theorem patO_none (a b : List Int) : patO a b 0 = [] := rfl
theorem patO_self (a : List Int) : ∀ n, patO a a n = []
  | 0 => rfl
  | n + 1 => by rw [patO_same rfl, patO_self a n]
theorem fld_range {x : Int} (h : Fld.ok x = true) : 0 ≤ x ∧ x < 31 := by
  have := Fld.ok_iff.1 h
  omega
theorem patO_ok {a b : List Int} (ha : Vec.ok a = true) (hb : Vec.ok b = true) : ∀ n, n ≤ 4 → ∀ p ∈ patO a b n, patOk p = true
  | 0, _, p, hp => by rw [patO_none] at hp; simp at hp
  | n + 1, hn, p, hp => by
    have ha4 := Vec.ok_len ha
    have hb4 := Vec.ok_len hb
    by_cases h : a.getD n 0 = b.getD n 0
    · rw [patO_same h] at hp
      exact patO_ok ha hb n (by omega) p hp
    · rw [patO_next h, List.mem_append] at hp
      rcases hp with hp | hp
      · exact patO_ok ha hb n (by omega) p hp
      · rw [List.mem_singleton] at hp
        subst hp
        have h1 := fld_range (Vec.ok_get ha (i := n) (by omega))
        have h2 := fld_range (Vec.ok_get hb (i := n) (by omega))
        rw [patOk_iff]
        simp only
        omega
theorem patsOk_of_ {a b : List Int} (ha : Vec.ok a = true) (hb : Vec.ok b = true) : patsOk (patO a b 4) = true := List.all_eq_true.2 fun p hp => patO_ok ha hb 4 (by omega) p hp
/-- where patches up to a place lead: the front is the other's. -/
theorem patO_do {a b : List Int} (ha : Vec.ok a = true) (hb : Vec.ok b = true) : ∀ n, n ≤ 4 → ∀ i, (patAll a (patO a b n)).getD i 0 = if i < n then b.getD i 0 else a.getD i 0
  | 0, _, i => by rw [patO_none]; rfl
  | n + 1, hn, i => by
    have ih := patO_do ha hb n (by omega)
    have ha4 := Vec.ok_len ha
    have hb4 := Vec.ok_len hb
    by_cases h : a.getD n 0 = b.getD n 0
    · rw [patO_same h, ih i]
      by_cases hi : i < n
      · rw [if_pos hi, if_pos (by omega)]
      · rw [if_neg hi]
        by_cases hi' : i < n + 1
        · rw [if_pos hi', show i = n by omega]; exact h
        · rw [if_neg hi']
    · rw [patO_next h]
      unfold patAll at ih ⊢
      rw [List.foldl_append]
      simp only [List.foldl_cons, List.foldl_nil]
      have hl : (List.foldl patOne a (patO a b n)).length = 4 := (patAll_len (L := patO a b n) a).trans ha4
      generalize List.foldl patOne a (patO a b n) = c at *
      unfold patOne
      simp only [Int.toNat_natCast]
      rw [List.getD_eq_getElem?_getD, List.getElem?_set]
      by_cases hi : n = i
      · subst hi
        rw [if_pos rfl, if_pos (by omega), if_pos (by omega)]
        have hc := ih n
        rw [if_neg (by omega)] at hc
        rw [hc]
        have h1 := fld_range (Vec.ok_get ha (i := n) (by omega))
        have h2 := fld_range (Vec.ok_get hb (i := n) (by omega))
        show (a.getD n 0 + (b.getD n 0 - a.getD n 0) % 31) % 31 = _
        omega
      · rw [if_neg hi, ← List.getD_eq_getElem?_getD, ih i]
        by_cases hi' : i < n
        · rw [if_pos hi', if_pos (by omega)]
        · rw [if_neg hi', if_neg (by omega)]
theorem row_ext {l m : List Int} {n : Nat} (hl : l.length = n) (hm : m.length = n) (h : ∀ i, i < n → l.getD i 0 = m.getD i 0) : l = m := by
  refine List.ext_getElem (by omega) fun i h1 h2 => ?_
  have := h i (by omega)
  rw [List.getD_eq_getElem?_getD, List.getD_eq_getElem?_getD, List.getElem?_eq_getElem h1, List.getElem?_eq_getElem h2] at this
  exact this
theorem patO_all {a b : List Int} (ha : Vec.ok a = true) (hb : Vec.ok b = true) : patAll a (patO a b 4) = b := by
  refine row_ext (n := 4) (by rw [patAll_len]; exact Vec.ok_len ha) (Vec.ok_len hb) fun i hi => ?_
  rw [patO_do ha hb 4 (by omega) i, if_pos hi]
/-- two patches, the one ahead of the other or behind it. -/
theorem patOne_comm (d : List Int) (p q : Pat) : patOne (patOne d p) q = patOne (patOne d q) p := by
  unfold patOne
  by_cases h : p.at'.toNat = q.at'.toNat
  · rw [h, List.set_set, List.set_set]
    by_cases hl : q.at'.toNat < d.length
    · have e : ∀ x, (d.set q.at'.toNat x).getD q.at'.toNat 0 = x := fun x => by
        rw [List.getD_eq_getElem?_getD, List.getElem?_set, if_pos rfl, if_pos hl]; rfl
      rw [e, e]
      congr 1
      omega
    · rw [List.set_eq_of_length_le (by omega), List.set_eq_of_length_le (by omega)]
  · have e : ∀ x, (d.set p.at'.toNat x).getD q.at'.toNat 0 = d.getD q.at'.toNat 0 := fun x => by
      rw [List.getD_eq_getElem?_getD, List.getElem?_set, if_neg h, ← List.getD_eq_getElem?_getD]
    have e' : ∀ x, (d.set q.at'.toNat x).getD p.at'.toNat 0 = d.getD p.at'.toNat 0 := fun x => by
      rw [List.getD_eq_getElem?_getD, List.getElem?_set, if_neg (fun k => h k.symm), ← List.getD_eq_getElem?_getD]
    rw [e, e', List.set_comm _ _ h]
theorem patAll_app (d : List Int) (L M : List Pat) : patAll (patAll d L) M = patAll d (L ++ M) := by unfold patAll; rw [List.foldl_append]
theorem patAll_one (L : List Pat) : ∀ (d : List Int) (p : Pat), patAll (patOne d p) L = patOne (patAll d L) p := by
  induction L with
  | nil => exact fun _ _ => rfl
  | cons q L ih => exact fun d p => (congrArg (fun x => patAll x L) (patOne_comm d p q)).trans (ih (patOne d q) p)
theorem patAll_rev (L : List Pat) : ∀ d, patAll d L.reverse = patAll d L := by
  induction L with
  | nil => exact fun _ => rfl
  | cons p L ih =>
    intro d
    rw [List.reverse_cons, ← patAll_app, ih d]
    exact (patAll_one L d p).symm
theorem patsOk_rev {L : List Pat} (h : patsOk L = true) : patsOk L.reverse = true := List.all_eq_true.2 fun p hp => List.all_eq_true.1 h p (List.mem_reverse.1 hp)
theorem patsOk_take {L : List Pat} (h : patsOk L = true) (k : Nat) : patsOk (L.take k) = true := List.all_eq_true.2 fun p hp => List.all_eq_true.1 h p (List.mem_of_mem_take hp)
theorem patsOk_drop {L : List Pat} (h : patsOk L = true) (k : Nat) : patsOk (L.drop k) = true := List.all_eq_true.2 fun p hp => List.all_eq_true.1 h p (List.mem_of_mem_drop hp)
theorem patD_rev {d : List Int} {L : List Pat} (h : Vec.ok d = true) (k : patsOk L = true) : patD d L.reverse = patD d L := by
  rw [patD_yes h k, patD_yes h (patsOk_rev k), patAll_rev]
theorem patD_two {d : List Int} {L : List Pat} (h : Vec.ok d = true) (k : patsOk L = true) (n : Nat) : patD (patD d (L.take n)) (L.drop n) = patD d L := by
  rw [patD_yes h k, patD_yes h (patsOk_take k n), patD_yes (patAll_ok h) (patsOk_drop k n), patAll_app, List.take_append_drop]
theorem patD_some {d : List Int} {L : List Pat} (h : patD d L ≠ []) : Vec.ok d = true ∧ patsOk L = true := by
  cases e : (Vec.ok d && patsOk L) with
  | false => exact absurd (patD_no e) h
  | true =>
    rw [Bool.and_eq_true] at e
    exact e
theorem patD_of {a b : List Int} (ha : Vec.ok a = true) (hb : Vec.ok b = true) : patD a (patOf a b) = b := by
  have e : patOf a b = patO a b 4 := by simp [patOf, ha, hb]
  rw [e, patD_yes ha (patsOk_of_ ha hb), patO_all ha hb]
theorem patsOk_single {p : Pat} : patsOk [p] = patOk p := by simp [patsOk]
/-- a patch that is ok changes something. -/
theorem patOne_ne {d : List Int} {p : Pat} (h : Vec.ok d = true) (k : patOk p = true) : patOne d p ≠ d := by
  intro e
  have hl := Vec.ok_len h
  obtain ⟨j, hj, hp⟩ := patOk_at k
  have hx := patOk_iff.1 k
  have h1 := fld_range (Vec.ok_get h (i := j) (by omega))
  have e2 : (patOne d p).getD j 0 = (d.getD j 0 + p.dif) % 31 := by
    unfold patOne
    rw [hp]
    simp only [Int.toNat_natCast]
    rw [List.getD_eq_getElem?_getD, List.getElem?_set, if_pos rfl, if_pos (by omega)]
    rfl
  rw [e] at e2
  omega
/-- what is left of a patch. -/
def patLeft (p : Pat) : Pat := ⟨p.at', 31 - p.dif⟩
theorem patLeft_ok {p : Pat} (k : patOk p = true) : patOk (patLeft p) = true := by
  have hx := patOk_iff.1 k
  rw [patOk_iff]
  exact ⟨hx.1, hx.2.1, by show 1 ≤ 31 - p.dif; omega, by show 31 - p.dif ≤ 30; omega⟩
theorem patLeft_do {d : List Int} {p : Pat} (h : Vec.ok d = true) (k : patOk p = true) : patOne (patOne d p) (patLeft p) = d := by
  have hl := Vec.ok_len h
  obtain ⟨j, hj, hp⟩ := patOk_at k
  have hx := patOk_iff.1 k
  have h1 := fld_range (Vec.ok_get h (i := j) (by omega))
  unfold patOne patLeft
  rw [hp]
  simp only [Int.toNat_natCast]
  have e : ∀ x, (d.set j x).getD j 0 = x := fun x => by
    rw [List.getD_eq_getElem?_getD, List.getElem?_set, if_pos rfl, if_pos (by omega)]; rfl
  rw [e, List.set_set, show ((d.getD j 0 + p.dif) % 31 + (31 - p.dif)) % 31 = d.getD j 0 by omega]
  refine List.ext_getElem? fun i => ?_
  rw [List.getElem?_set]
  by_cases hi : j = i
  · subst hi
    rw [if_pos rfl, if_pos (by omega), List.getD_eq_getElem?_getD, List.getElem?_eq_getElem (by omega)]; rfl
  · rw [if_neg hi]
theorem patD_one {d : List Int} {p : Pat} (h : Vec.ok d = true) (k : patOk p = true) : patD d [p] = patOne d p := by
  rw [patD_yes h (by rw [patsOk_single]; exact k)]; rfl
theorem patD_bad {d : List Int} {p : Pat} (k : patOk p = false) : patD d [p] = [] := patD_no (by rw [patsOk_single, k, Bool.and_false])
theorem patD_back {d : List Int} {p : Pat} (h : Vec.ok d = true) (k : patOk p = true) : patD (patOne d p) [patLeft p] = d := by
  rw [patD_one (patOne_ok h) (patLeft_ok k), patLeft_do h k]
end Go.Proofs.Ythglkgicckodaaa
