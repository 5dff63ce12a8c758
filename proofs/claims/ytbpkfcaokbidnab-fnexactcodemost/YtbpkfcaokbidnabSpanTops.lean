/-
  The contracts of the program's SpanTidy, SpanRank, SpanFirst, SpanSame.
  Conditions: none.
-/
import Derived.Test.YtbpkfcaokbidnabSpanProg
namespace Go.Proofs.Ytbpkfcaokbidnab
open Go.RowKit
set_option linter.unusedVariables false

def tidyM (m : List (List Int)) : List (List Int) := bif okM m then Sp.ltidy m else []
def rankM (m : List (List Int)) : Int := bif okM m then ((Sp.ltidy m).length : Int) else -1
def firstM (m : List (List Int)) : List Int := bif okM m then (Sp.firsts Sp.has m).map fun (i : Nat) => (i : Int) else []
def sameM (a b : List (List Int)) : Bool := okM a && okM b && decide (Sp.ltidy a = Sp.ltidy b)
theorem tidyM_yes {m : List (List Int)} (h : okM m = true) : tidyM m = Sp.ltidy m := by simp [tidyM, h]
theorem tidyM_no {m : List (List Int)} (h : okM m = false) : tidyM m = [] := by simp [tidyM, h]
theorem rankM_yes {m : List (List Int)} (h : okM m = true) : rankM m = ((Sp.ltidy m).length : Int) := by simp [rankM, h]
theorem rankM_no {m : List (List Int)} (h : okM m = false) : rankM m = -1 := by simp [rankM, h]
theorem firstM_yes {m : List (List Int)} (h : okM m = true) : firstM m = (Sp.firsts Sp.has m).map fun (i : Nat) => (i : Int) := by simp [firstM, h]
theorem firstM_no {m : List (List Int)} (h : okM m = false) : firstM m = [] := by simp [firstM, h]
theorem stand_rows {m : List (List Int)} {S : Sp.Cols} {pn : List Nat} (h : Sp.Stand m m.length S pn) (hm : okM m = true) : colK S 4 = Sp.ltidy m := h.tidied (okM_all hm)
theorem stand_first {m : List (List Int)} {S : Sp.Cols} {pn : List Nat} (h : Sp.Stand m m.length S pn) : pn = Sp.firsts Sp.has m := by have := h.first; rwa [List.take_length] at this
theorem tidy_rows {m : List (List Int)} (hm : okM m = true) : ∀ r ∈ Sp.ltidy m, Sp.Row 4 r := by
  obtain ⟨L, h, _⟩ := Sp.ltidy_is (okM_all hm)
  exact h.row
theorem tidy_four {m : List (List Int)} (hm : okM m = true) : (Sp.ltidy m).length ≤ 4 := by
  obtain ⟨L, h, _⟩ := Sp.ltidy_is (okM_all hm)
  exact h.len_le

set_option maxHeartbeats 1000000 in
set_option maxRecDepth 20000 in
theorem implSpanRank (v : Value) (us : List Value) (m : List (List Int)) (w : World) (h : Tab w v us m) : Calls Try.prog 47 #[v] w fun e w' => e = .returned (.int .i64 (rankM m)) ∧ w.grownBy w' none := by
  have C := Lib.hid (echelonOf v us m w h)
  clear h
  go_enter Try.func47, Try.ntmps47
  go_wp2_with fail
  refine C.out.mono ?_
  rintro e w1 ⟨hg, ⟨hok, rfl⟩ | ⟨hok, g, q, S, pv, pn, rfl, he, hst⟩⟩
  · have G := Lib.hid hg
    have R := Lib.hid (rankM_no hok)
    clear hg hok
    go_wp2_with fail
    go_ret
    exact ⟨ret_int R.out.symm, G.out⟩
  · have G := Lib.hid hg
    have R : Hid (((colK S 4).length : Int) = rankM m) := Lib.hid (by rw [rankM_yes hok, stand_rows hst hok])
    have E := Lib.hid he
    have RS := Lib.hid hst.row
    clear hg hok he hst
    go_wp2_with fail
    refine (echRows w.heap.size g q S pv _ _ E.out RS.out).mono ?_
    rintro e w2 ⟨u, rfl, hg, hv⟩
    have G2 := Lib.hid (grown_trans G.out hg)
    obtain ⟨a, cap, rfl, _, _⟩ := hv.form
    generalize (colK S 4).length = n at *
    clear hg hv
    go_wp2_with fail
    go_ret
    exact ⟨ret_int R.out, G2.out⟩

/-- rows of other types lie apart. -/
theorem apart_types {w : World} {base base' : Nat} {x y : Item} (hx : x.Own w base) (hy : y.Own w base') (ht : x.e ≠ y.e) : x.Apart y := by
  rcases hx.2 with ⟨h0, _⟩ | ⟨g, cap, cur, hv, _, hg, _⟩
  · exact .inl (by rw [h0]; rfl)
  · rcases hy.2 with ⟨h0, _⟩ | ⟨g', cap', cur', hv', _, hg', _⟩
    · exact .inr (by rw [hv, h0]; simp [Value.ownBlock])
    · refine .inr (fun e => ht ?_)
      rw [hv, hv'] at e
      have e' : g = g' := by simpa [Value.ownBlock] using e
      subst e'
      rw [hg] at hg'
      injection hg' with hg'
      injection hg' with _ h
theorem rows_type {us : List Value} {m : List (List Int)} : ∀ x ∈ List.zipWith row1 us m, x.e = 3 := by
  intro x hx
  rw [List.mem_iff_getElem?] at hx
  obtain ⟨i, hi⟩ := hx
  rw [List.getElem?_zipWith] at hi
  split at hi
  · injection hi with hi; subst hi; rfl
  · cases hi
/-- a row more in a table that is made. -/
theorem tab_snoc {w w1 w2 : World} {base : Nat} {o o' u : Value} {us : List Value} {m m' : List (List Int)} {l : List Int} (h : OwnAll w base (tabItems o us m)) (hl : us.length = m.length) (hb : base ≤ w.heap.size) (hg : w.grownBy w1 none) (ho : Own w1 w.heap.size u l)
    (hg2 : w1.grownBy w2 o.ownBlock) (ho2 : w2.ownsRow base 33 1 o' (us.length + 1) (us ++ [u])) (e : m ++ [l] = m') : OwnAll w2 base (tabItems o' (us ++ [u]) m') := by
  subst e
  have h1 := h.join (M := [row1 u l]) hg ⟨fun x hx => by simp at hx; subst hx; exact row1_own.2 ho, by simp⟩ hb
  have hp := h1.2
  unfold tabItems at h1 hp ⊢
  simp only [List.cons_append, List.nil_append, List.pairwise_cons, List.mem_cons, forall_eq_or_imp] at hp
  have top : (⟨o', 33, us ++ [u]⟩ : Item).Own w2 base := by
    unfold Item.Own
    have : (us ++ [u]).length = us.length + 1 := by simp
    simp only [this]
    exact ho2
  have keep : ∀ x : Item, x ∈ row1 u l :: List.zipWith row1 us m → x.Own w2 base := by
    intro x hx
    have hx1 : x.Own w1 base := h1.1 x (by simp only [List.cons_append, List.nil_append, List.mem_cons] at hx ⊢; rcases hx with h | h <;> simp [h])
    refine World.ownsRow.kept hx1 hg2 ?_
    rcases List.mem_cons.1 hx with rfl | hx
    · exact hp.1.1
    · exact (show Item.Apart ⟨o, 33, us⟩ x from hp.2.1 x hx).symm
  have ez : List.zipWith row1 (us ++ [u]) (m ++ [l]) = List.zipWith row1 us m ++ [row1 u l] := by
    rw [List.zipWith_append hl]; rfl
  rw [ez]
  refine ⟨fun x hx => ?_, ?_⟩
  · rcases List.mem_cons.1 hx with rfl | hx
    · exact top
    · exact keep x (by rcases List.mem_append.1 hx with h | h <;> simp at h ⊢ <;> simp [h])
  · rw [List.pairwise_cons, List.pairwise_append]
    refine ⟨fun x hx => ?_, hp.2.2, by simp, fun x hx y hy => ?_⟩
    · have hx' : x ∈ row1 u l :: List.zipWith row1 us m := by rcases List.mem_append.1 hx with h | h <;> simp at h ⊢ <;> simp [h]
      refine apart_types top (keep x hx') ?_
      rcases List.mem_cons.1 hx' with rfl | h
      · show (33 : TypeId) ≠ 3; decide
      · rw [rows_type x h]; show (33 : TypeId) ≠ 3; decide
    · simp at hy; subst hy; exact (hp.1.2 x hx).symm
theorem tab_none (w : World) (base : Nat) : OwnAll w base (tabItems (.slice none 0 0) [] []) :=
  ⟨fun x hx => by simp [tabItems] at hx; subst hx; exact World.ownsRow_nil _ _ _ _, by simp [tabItems]⟩