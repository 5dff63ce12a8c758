/-
  Plain arithmetic of patches: which are ok, what they do to numbers, which lie between two of numbers. It speaks of no program.
  Conditions: none.
-/
import Derived.Test.YthglkgicckodaaaPatchTab
namespace Go.Proofs.Ythglkgicckodaaa
set_option linter.unusedVariables false

def patOk (p : Pat) : Bool := decide (0 ≤ p.at') && decide (p.at' < 4) && Fld.ok p.dif && decide (p.dif ≠ 0)
theorem patOk_iff {p : Pat} : patOk p = true ↔ 0 ≤ p.at' ∧ p.at' < 4 ∧ 1 ≤ p.dif ∧ p.dif ≤ 30 := by
  unfold patOk
  simp only [Bool.and_eq_true, decide_eq_true_eq, Fld.ok_iff]
  omega
theorem patOk_at {p : Pat} (h : patOk p = true) : ∃ k : Nat, k < 4 ∧ p.at' = k := by
  have := patOk_iff.1 h
  exact ⟨p.at'.toNat, by omega, by omega⟩
theorem patOk_dif {p : Pat} (h : patOk p = true) : Fld.ok p.dif = true := by
  have := patOk_iff.1 h
  exact Fld.ok_true (by omega) (by omega)
/-- a patch done. -/
def patOne (d : List Int) (p : Pat) : List Int := d.set p.at'.toNat ((d.getD p.at'.toNat 0 + p.dif) % 31)
theorem patOne_len (d : List Int) (p : Pat) : (patOne d p).length = d.length := by simp [patOne]
theorem patOne_ok {d : List Int} {p : Pat} (h : Vec.ok d = true) : Vec.ok (patOne d p) = true := by
  have h4 := Vec.ok_len h
  refine Vec.ok_all (by rw [patOne_len]; exact h4) fun i hi => ?_
  unfold patOne
  rw [List.getD_eq_getElem?_getD, List.getElem?_set]
  split
  · split
    · exact Vec.mod_is _
    · exact Fld.ok_true (by decide) (by decide)
  · rw [← List.getD_eq_getElem?_getD]; exact Vec.ok_get h hi
/-- patches done, one behind the other. -/
def patAll (d : List Int) (L : List Pat) : List Int := L.foldl patOne d
theorem patAll_ok {L : List Pat} : ∀ {d : List Int}, Vec.ok d = true → Vec.ok (patAll d L) = true := by
  induction L with
  | nil => exact fun h => h
  | cons p L ih => exact fun h => ih (d := patOne _ p) (patOne_ok h)
theorem patAll_len {L : List Pat} : ∀ (d : List Int), (patAll d L).length = d.length := by
  induction L with
  | nil => exact fun _ => rfl
  | cons p L ih => exact fun d => (ih (patOne d p)).trans (patOne_len d p)
theorem patAll_next (d : List Int) {L : List Pat} {k : Nat} (h : k < L.length) : patAll d (L.take (k + 1)) = patOne (patAll d (L.take k)) (L.getD k pat0) := by
  unfold patAll
  rw [List.take_succ_eq_append_getElem h, List.foldl_append]
  simp [List.getD_eq_getElem?_getD, h]
def patsOk (L : List Pat) : Bool := L.all patOk
theorem patsOk_get {L : List Pat} (h : patsOk L = true) {k : Nat} (hk : k < L.length) : patOk (L.getD k pat0) = true := by
  rw [List.getD_eq_getElem?_getD, List.getElem?_eq_getElem hk]
  exact List.all_eq_true.1 h _ (List.getElem_mem hk)
theorem patsOk_not {L : List Pat} {k : Nat} (hk : k < L.length) (h : patOk (L.getD k pat0) = false) : patsOk L = false := by
  rw [← Bool.not_eq_true]
  intro e
  rw [patsOk_get e hk] at h
  cases h
theorem patsOk_of {L : List Pat} (h : ∀ k, k < L.length → patOk (L.getD k pat0) = true) : patsOk L = true := List.all_eq_true.2 fun p hp => by
  obtain ⟨k, hk, rfl⟩ := List.mem_iff_getElem.1 hp
  have := h k hk
  rwa [List.getD_eq_getElem?_getD, List.getElem?_eq_getElem hk] at this
/-- what PatchData answers. -/
def patD (d : List Int) (L : List Pat) : List Int := bif Vec.ok d && patsOk L then patAll d L else []
theorem patD_yes {d : List Int} {L : List Pat} (h : Vec.ok d = true) (k : patsOk L = true) : patD d L = patAll d L := by simp [patD, h, k]
theorem patD_no {d : List Int} {L : List Pat} (h : (Vec.ok d && patsOk L) = false) : patD d L = [] := by simp [patD, h]
theorem patD_len (d : List Int) (L : List Pat) : (patD d L).length ≤ 4 := by
  unfold patD
  cases h : Vec.ok d && patsOk L with
  | false => exact Nat.zero_le _
  | true =>
    have h1 : Vec.ok d = true := by cases hd : Vec.ok d <;> simp_all
    show (patAll d L).length ≤ 4
    rw [patAll_len, Vec.ok_len h1]
    exact Nat.le_refl _
/-- patches between two of numbers, up to a place. -/
def patO (a b : List Int) (n : Nat) : List Pat := (List.range n).filterMap fun i => if a.getD i 0 = b.getD i 0 then none else some ⟨(i : Int), (b.getD i 0 - a.getD i 0) % 31⟩
theorem patO_same {a b : List Int} {n : Nat} (h : a.getD n 0 = b.getD n 0) : patO a b (n + 1) = patO a b n := by
  unfold patO
  rw [List.range_succ, List.filterMap_append, List.filterMap_cons, if_pos h]
  simp
theorem patO_next {a b : List Int} {n : Nat} (h : a.getD n 0 ≠ b.getD n 0) : patO a b (n + 1) = patO a b n ++ [⟨(n : Int), (b.getD n 0 - a.getD n 0) % 31⟩] := by
  unfold patO
  rw [List.range_succ, List.filterMap_append, List.filterMap_cons, if_neg h]
  rfl
theorem patO_le (a b : List Int) (n : Nat) : (patO a b n).length ≤ n := by
  have := List.length_filterMap_le (fun (i : Nat) => if a.getD i 0 = b.getD i 0 then none else some (⟨(i : Int), (b.getD i 0 - a.getD i 0) % 31⟩ : Pat)) (List.range n)
  simpa [patO] using this
def patOf (a b : List Int) : List Pat := bif Vec.ok a && Vec.ok b then patO a b 4 else []
theorem patOf_le (a b : List Int) : (patOf a b).length ≤ 4 := by
  unfold patOf
  cases Vec.ok a && Vec.ok b with
  | false => exact Nat.zero_le _
  | true => exact patO_le a b 4
end Go.Proofs.Ythglkgicckodaaa
