/-
  The contracts of the laws' own helpers on tables (slices of slices of integers): how great one is, a copy, a comparison, marks that are laid and looked for.
  Conditions: a table has at most 2^20 rows and elements together.
-/
import Derived.Test.YtbpkfcaokbidnabHelp
import Derived.Test.YtbpkfcaokbidnabTabs
import Derived.StillTailTactics
namespace Go.Proofs.Ytbpkfcaokbidnab
open Go.RowKit
set_option linter.unusedVariables false

/-- all elements of a table. -/
def tot (m : List (List Int)) : Nat := (m.map List.length).sum
theorem tot_nil : tot [] = 0 := rfl
theorem tot_snoc (m : List (List Int)) (l : List Int) : tot (m ++ [l]) = tot m + l.length := by simp [tot]
theorem take_more (m : List (List Int)) {n : Nat} (hn : n < m.length) : m.take (n + 1) = m.take n ++ [m.getD n []] := by
  rw [List.take_succ_eq_append_getElem hn]; simp [List.getD_eq_getElem?_getD, hn]
theorem tot_take (m : List (List Int)) {n : Nat} (hn : n < m.length) : tot (m.take (n + 1)) = tot (m.take n) + (m.getD n []).length := by rw [take_more m hn, tot_snoc]
theorem tot_le (m : List (List Int)) : ∀ r ∈ m, r.length ≤ tot m := by
  intro r hr
  induction m with
  | nil => cases hr
  | cons a m ih =>
    have e : tot (a :: m) = a.length + tot m := by simp [tot]
    rcases List.mem_cons.1 hr with rfl | h
    · omega
    · have := ih h; omega
theorem tot_some (m : List (List Int)) (n : Nat) : (m.getD n []).length ≤ tot m := by
  by_cases h : n < m.length
  · rw [List.getD_eq_getElem?_getD, List.getElem?_eq_getElem h]; exact tot_le m _ (List.getElem_mem h)
  · rw [List.getD_eq_getElem?_getD, List.getElem?_eq_none (by omega)]; simp

/-- what the greatness of a table is told to be: below 0, if it is too great. -/
def Sized (m : List (List Int)) (w : World) (e : Ending) (w' : World) : Prop :=
  ∃ r : Int, e = .returned (.int .i64 r) ∧ w = w' ∧ r ≤ 1048576 ∧ (0 ≤ r → m.length ≤ 1048576 ∧ tot m ≤ 1048576)

/-- one of several rows is written anew. -/
theorem OwnAll.put {w w' : World} {base : Nat} {A B : List Item} {x x' : Item} (h : OwnAll w base (A ++ x :: B)) (hv : x'.v = x.v) (hg : w.grownBy w' x.v.ownBlock) (ho : x'.Own w' base) : OwnAll w' base (A ++ x' :: B) := by
  have hp := h.2
  rw [List.pairwise_append, List.pairwise_cons] at hp
  have key : ∀ y : Item, y.Apart x → y.Own w base → y.Own w' base := fun y ha hy => World.ownsRow.kept hy hg ha
  refine ⟨fun y hy => ?_, ?_⟩
  · rcases List.mem_append.1 hy with hy | hy
    · exact key y (hp.2.2 y hy x (by simp)) (h.1 y (by simp [hy]))
    · rcases List.mem_cons.1 hy with rfl | hy
      · exact ho
      · exact key y (hp.2.1.1 y hy).symm (h.1 y (by simp [hy]))
  · rw [List.pairwise_append, List.pairwise_cons]
    refine ⟨hp.1, ⟨fun y hy => ?_, hp.2.1.2⟩, fun y hy z hz => ?_⟩
    · have := hp.2.1.1 y hy
      unfold Item.Apart at this ⊢
      rw [hv]; exact this
    · rcases List.mem_cons.1 hz with rfl | hz
      · have := hp.2.2 y hy x (by simp)
        unfold Item.Apart at this ⊢
        rw [hv]; exact this
      · exact hp.2.2 y hy z (by simp [hz])
theorem Lives.put {w0 w w' : World} {A B : List Item} {x x' : Item} (h : Lives w0 w (A ++ x :: B)) (hv : x'.v = x.v) (hg : w.grownBy w' x.v.ownBlock) (ho : x'.Own w' w0.heap.size) : Lives w0 w' (A ++ x' :: B) :=
  ⟨h.below.grown hg h.below.size (fun k hk => (World.ownsRow.lt (h.own.1 x (by simp)) k hk).1), h.own.put hv hg ho⟩

/-- where the copy of a table stands. -/
structure Copying (w : World) (g : Nat) (m : List (List Int)) (k : Nat) (us : List Value) (wr : World) : Prop where
  le : k ≤ m.length
  len : us.length = k
  grown : w.grownBy wr none
  own : OwnAll wr w.heap.size (⟨.slice (some ⟨g, 0, none⟩) m.length m.length, 33, us ++ List.replicate (m.length - k) (.slice none 0 0)⟩ :: List.zipWith row1 us (m.take k))
theorem Copying.cell {w wr : World} {g k : Nat} {m : List (List Int)} {us : List Value} (h : Copying w g m k us wr) (hk : k < m.length) : w.heap.size ≤ g ∧ wr.cell? ⟨g, k, none⟩ = some (.slice none 0 0) ∧ wr.frozen? ⟨g, k, none⟩ = false := by
  have ho := h.own.1 _ List.mem_cons_self
  unfold Item.Own at ho
  simp only [show (us ++ List.replicate (m.length - k) (Value.slice none 0 0)).length = m.length by rw [List.length_append, List.length_replicate, h.len]; omega] at ho
  have hc := World.ownsRow.cells ho (g := g) rfl k (.slice none 0 0) (by
    show (us ++ List.replicate (m.length - k) (.slice none 0 0))[k]? = _
    rw [List.getElem?_append_right (by rw [h.len]; omega), h.len, Nat.sub_self, List.getElem?_replicate, if_pos (by omega)])
  rw [Addr.add_lit] at hc
  exact ⟨(World.ownsRow.lt ho g rfl).1, by simpa using hc, World.ownsRow.frozenAt ho k⟩
theorem Copying.next {w wr w1 : World} {g k : Nat} {m : List (List Int)} {us : List Value} {u : Value} (h : Copying w g m k us wr) (hk : k < m.length) (hg : wr.grownBy w1 none) (ho : Own w1 wr.heap.size u (m.getD k [])) :
    Copying w g m (k + 1) (us ++ [u]) (w1.setCell ⟨g, k, none⟩ u) := by
  have h1 := h.own.join (M := [row1 u (m.getD k [])]) hg ⟨fun x hx => by simp at hx; subst hx; exact row1_own.2 ho, by simp⟩ h.grown.size
  have htop := h1.1 ⟨.slice (some ⟨g, 0, none⟩) m.length m.length, 33, us ++ List.replicate (m.length - k) (.slice none 0 0)⟩ (by simp)
  unfold Item.Own at htop
  have hn : (us ++ List.replicate (m.length - k) (Value.slice none 0 0)).length = m.length := by rw [List.length_append, List.length_replicate, h.len]; omega
  simp only [hn] at htop
  have hs := World.ownsRow.stored htop k u
  have e : (us ++ List.replicate (m.length - k) (Value.slice none 0 0)).set k u = (us ++ [u]) ++ List.replicate (m.length - (k + 1)) (.slice none 0 0) := by
    rw [List.set_append_right _ _ (by rw [h.len]; omega), h.len, Nat.sub_self, show m.length - k = (m.length - (k + 1)) + 1 by omega, List.replicate_succ, List.set_cons_zero, List.append_assoc]; rfl
  rw [e] at hs
  have h2 := OwnAll.put (A := [row1 u (m.getD k [])]) (x' := ⟨.slice (some ⟨g, 0, none⟩) m.length m.length, 33, (us ++ [u]) ++ List.replicate (m.length - (k + 1)) (.slice none 0 0)⟩) h1 rfl hs.2 (by
    unfold Item.Own
    have e2 : ((us ++ [u]) ++ List.replicate (m.length - (k + 1)) (Value.slice none 0 0)).length = m.length := by simp [h.len]; omega
    simp only [e2]
    exact hs.1)
  refine ⟨hk, by simp [h.len], ?_, ?_⟩
  · exact grown_own (grown_trans h.grown hg) hs.2 (fun q hq => (World.ownsRow.lt htop q hq).1)
  · have ez : List.zipWith row1 (us ++ [u]) (m.take (k + 1)) = List.zipWith row1 us (m.take k) ++ [row1 u (m.getD k [])] := by
      rw [take_more m hk, List.zipWith_append (by rw [h.len, List.length_take]; omega)]; rfl
    rw [ez]
    refine ⟨fun x hx => h2.1 x ?_, ?_⟩
    · simp only [List.mem_cons, List.mem_append, List.not_mem_nil, or_false] at hx ⊢
      rcases hx with h | h | h
      · exact .inr (.inl h)
      · exact .inr (.inr h)
      · exact .inl h
    · have hp := h2.2
      simp only [List.cons_append, List.nil_append, List.pairwise_cons, List.mem_cons, forall_eq_or_imp] at hp
      rw [List.pairwise_cons, List.pairwise_append]
      refine ⟨fun y hy => ?_, hp.2.2, by simp, fun y hy z hz => ?_⟩
      · rcases List.mem_append.1 hy with hy | hy
        · exact hp.2.1 y hy
        · simp at hy; subst hy; exact hp.1.1.symm
      · simp at hz; subst hz; exact (hp.1.2 y hy).symm

theorem infoInts : (Try.prog.info? 33).map (fun i => (i.zero, i.size, i.bytes)) = some (some (.slice none 0 0), 1, 24) := by kernel_rfl