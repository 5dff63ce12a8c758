/-
  The program's iterator over sets of shards: its contract, for every body of a loop that keeps what the iterator itself has laid.
  Conditions: none.
-/
import Derived.Test.YtlehcpcejkpbmaaDoorRound
import Derived.Test.YtlehcpcejkpbmaaDoorPlanWork
import Derived.Test.YtlehcpcejkpbmaaDoorG4
namespace Go.Proofs.YtlehcpcejkpbmaaDoor
open Go.RowKit Go.Shelf
set_option linter.unusedVariables false
attribute [local go_sem] Oper.semAt_some

/-- eight flags. -/
abbrev Fl8 := { x : List Bool // x.length = 8 }
def Fl8.put (c : Fl8) (i : Nat) : Fl8 := ⟨c.1.set i true, by rw [List.length_set]; exact c.2⟩
def subsX (f : List Bool) : Nat → Fl8 → Nat → List Fl8
  | 0, c, _ => [c]
  | n + 1, c, at_ => (List.range 8).flatMap fun i => if at_ ≤ i ∧ f.getD i false = true then subsX f n (c.put i) (i + 1) else []
def partX (f : List Bool) (n : Nat) (c : Fl8) (at_ j : Nat) : List Fl8 := (List.range j).flatMap fun i => if at_ ≤ i ∧ f.getD i false = true then subsX f n (c.put i) (i + 1) else []
theorem subsX_val (f : List Bool) : ∀ (n : Nat) (c : Fl8) (at_ : Nat), (subsX f n c at_).map Subtype.val = Sp.subs f n c.1 at_ := by
  intro n
  induction n with
  | zero => intro c at_; rfl
  | succ n ih =>
    intro c at_
    unfold subsX Sp.subs
    rw [List.map_flatMap]
    refine Sp.flatMap_congr fun i hi => ?_
    rw [apply_ite (List.map Subtype.val), ih]
    rfl
theorem partX_succ (f : List Bool) (n : Nat) (c : Fl8) (at_ j : Nat) : partX f n c at_ (j + 1) = partX f n c at_ j ++ (if at_ ≤ j ∧ f.getD j false = true then subsX f n (c.put j) (j + 1) else []) := by
  unfold partX
  rw [List.range_succ, List.flatMap_append]
  simp
theorem partX_start (f : List Bool) (n : Nat) (c : Fl8) (at_ : Nat) : ∀ j, j ≤ at_ → partX f n c at_ j = [] := by
  intro j
  induction j with
  | zero => intro _; rfl
  | succ j ih =>
    intro h
    rw [partX_succ, ih (by omega), if_neg (by omega)]
    rfl
theorem partX_no {f : List Bool} {n : Nat} {c : Fl8} {at_ j : Nat} (h : f.getD j false = false) : partX f n c at_ (j + 1) = partX f n c at_ j := by
  rw [partX_succ, h]; simp
theorem partX_yes {f : List Bool} {n : Nat} {c : Fl8} {at_ j : Nat} (h : f.getD j false = true) (hj : at_ ≤ j) : partX f n c at_ (j + 1) = partX f n c at_ j ++ subsX f n (c.put j) (j + 1) := by
  rw [partX_succ, if_pos ⟨hj, h⟩]
theorem partX_all (f : List Bool) (n : Nat) (c : Fl8) (at_ : Nat) : partX f n c at_ 8 = subsX f (n + 1) c at_ := by
  conv => rhs; unfold subsX
  rfl
theorem partX_pre (f : List Bool) (n : Nat) (c : Fl8) (at_ : Nat) : ∀ d j, j + d = 8 → partX f n c at_ j <+: partX f n c at_ 8 := by
  intro d
  induction d with
  | zero => intro j h; obtain rfl : j = 8 := by omega
            exact List.prefix_refl _
  | succ d ih =>
    intro j h
    refine List.IsPrefix.trans ?_ (ih (j + 1) (by omega))
    rw [partX_succ]
    exact List.prefix_append _ _

/-- what the iterator has laid is kept. -/
structure KeepAt (n₀ : Nat) (W W' : World) : Prop where
  size : W.heap.size ≤ W'.heap.size
  block : ∀ b o, n₀ ≤ b → W.heap[b]? = some o → Obj.isCells o = true → W'.heap[b]? = some o
theorem KeepAt.refl (n₀ : Nat) (W : World) : KeepAt n₀ W W := ⟨Nat.le_refl _, fun _ _ _ h _ => h⟩
theorem KeepAt.trans {n₀ : Nat} {A B C : World} (h : KeepAt n₀ A B) (k : KeepAt n₀ B C) : KeepAt n₀ A C := ⟨Nat.le_trans h.size k.size, fun b o hb ho hc => k.block b o hb (h.block b o hb ho hc) hc⟩
theorem KeepAt.grown {n₀ : Nat} {A B : World} (h : A.grownBy B none) : KeepAt n₀ A B := ⟨h.size, fun b o _ ho _ => (h.block b (Array.getElem?_eq_some_iff.1 ho).1 (by simp)).trans ho⟩
theorem KeepAt.put {n₀ : Nat} {W : World} {l : Nat} {o : Obj} (o' : Obj) (h : W.heap[l]? = some o) (hc : Obj.isCells o = false) : KeepAt n₀ W (W.putObj l o') := by
  refine ⟨by simp [World.putObj], fun b p _ hp hpc => ?_⟩
  have hne : b ≠ l := fun e => by subst e; rw [h] at hp; cases hp; rw [hc] at hpc; cases hpc
  rw [World.putObj_heap_other hne]; exact hp
theorem BArr.keep {n₀ g : Nat} {W W' : World} {t : TypeId} {l : List Bool} (h : BArr W g t l) (hk : KeepAt n₀ W W') (hg : n₀ ≤ g) : BArr W' g t l := hk.block g _ hg h rfl

/-- how the iterator ends. -/
def Chosen (J Jx : List Fl8 → World → Prop) (n₀ : Nat) (pre xs : List Fl8) (W : World) (e : Ending) (W' : World) : Prop :=
  (e = .returned (.bool true) ∧ J (pre ++ xs) W' ∧ KeepAt n₀ W W') ∨ (e = .returned (.bool false) ∧ ∃ q, q <+: xs ∧ Jx (pre ++ q) W')

end Go.Proofs.YtlehcpcejkpbmaaDoor
