/-
  The contracts of the laws' own helpers on tables (slices of slices of integers): how great one is, a copy, a comparison, marks that are laid and looked for.
  Conditions: a table has at most 2^20 rows and elements together.
-/
import Derived.Test.YtdbajokjhllekaaHelp
import Derived.Test.YtdbajokjhllekaaTabs
import Derived.StillTailTactics
namespace Go.Proofs.Ytdbajokjhllekaa
open Go.RowKit
set_option linter.unusedVariables false

/-- all elements of a table. -/
def tot (m : List (List Int)) : Nat := (m.map List.length).sum
theorem tot_nil : tot [] = 0 := rfl
theorem tot_snoc (m : List (List Int)) (l : List Int) : tot (m ++ [l]) = tot m + l.length := by simp [tot]
theorem take_more (m : List (List Int)) {n : Nat} (hn : n < m.length) : m.take (n + 1) = m.take n ++ [m.getD n []] := by
  rw [List.take_succ_eq_append_getElem hn]; simp [List.getD_eq_getElem?_getD, hn]
theorem tot_take (m : List (List Int)) {n : Nat} (hn : n < m.length) : tot (m.take (n + 1)) = tot (m.take n) + (m.getD n []).length := by rw [take_more m hn, tot_snoc]
theorem tot_le (m : List (List Int)) : ∀ r ∈ m, r.length ≤ tot m := by
  intro r hr
  induction m with
  | nil => cases hr
  | cons a m ih =>
    have e : tot (a :: m) = a.length + tot m := by simp [tot]
    rcases List.mem_cons.1 hr with rfl | h
    · omega
    · have := ih h; omega
theorem tot_some (m : List (List Int)) (n : Nat) : (m.getD n []).length ≤ tot m := by
  by_cases h : n < m.length
  · rw [List.getD_eq_getElem?_getD, List.getElem?_eq_getElem h]; exact tot_le m _ (List.getElem_mem h)
  · rw [List.getD_eq_getElem?_getD, List.getElem?_eq_none (by omega)]; simp

set_option maxHeartbeats 400000 in
set_option maxRecDepth 20000 in
theorem szIntS (v : Value) (l : List Int) (k : Int) (w : World) (h : Sl w v l) (k0 : 0 ≤ k) (k1 : k ≤ 1048576) :
    Calls Try.prog 104 #[v, .int .i64 k] w fun e w' => e = .returned (.int .i64 (if k - l.length < 0 then -1 else k - l.length)) ∧ w = w' := by
  obtain ⟨a, cap, rfl, hlc, hcm, hr⟩ := h
  clear hr
  unfold maxLen at hcm
  by_cases hb : k - (l.length : Int) < 0
  · rw [if_pos hb]
    go_enter Try.func104, Try.ntmps104
    go_wp2_with fail
    go_ret
    exact ⟨rfl, rfl⟩
  · rw [if_neg hb]
    go_enter Try.func104, Try.ntmps104
    go_wp2_with fail
    go_ret
    exact ⟨rfl, rfl⟩

/-- what the greatness of a table is told to be: below 0, if it is too great. -/
def Sized (m : List (List Int)) (w : World) (e : Ending) (w' : World) : Prop :=
  ∃ r : Int, e = .returned (.int .i64 r) ∧ w = w' ∧ r ≤ 1048576 ∧ (0 ≤ r → m.length ≤ 1048576 ∧ tot m ≤ 1048576)

set_option maxHeartbeats 1000000 in
set_option maxRecDepth 20000 in
theorem szIntSS (v : Value) (us : List Value) (m : List (List Int)) (k : Int) (w : World) (h : Tab w v us m) (k0 : 0 ≤ k) (k1 : k ≤ 1048576) :
    Calls Try.prog 53 #[v, .int .i64 k] w (Sized m w) := by
  have T := Lib.hid h
  obtain ⟨a, cap, rfl, h1, h2, h3⟩ := h.top
  clear h h3
  unfold maxLen at h2
  by_cases hb : k - (m.length : Int) < 0
  · go_enter Try.func53, Try.ntmps53
    go_wp2_with fail
    go_ret
    exact ⟨-1, rfl, rfl, by omega, fun h => by omega⟩
  go_enter Try.func53, Try.ntmps53
  go_wp2_with fail
  go_loop [1, 5] (fun q i => ∃ j : Nat, j ≤ m.length ∧ i = .int .i64 j ∧ ∃ r : Int, q = .int .i64 r ∧ 0 ≤ r ∧ r = k - m.length - tot (m.take j)) (fun _ i => m.length - (intOf i).toNat)
  case atStart => exact ⟨0, Nat.zero_le _, rfl, _, rfl, by omega, by simp [tot]⟩
  case round =>
    obtain ⟨j, hj, rfl, r, rfl, r0, hr⟩ := hrel
    have HR := Lib.hid hr
    have r1 : r ≤ 1048576 := by omega
    clear hr
    by_cases hlt : j < m.length
    · have hlt' : (j : Int) < (m.length : Int) := by omega
      obtain ⟨b, o, cap', u, e, hu, hx, hs⟩ := T.out.at_ hlt
      injection e with e1 e2 e3
      subst e1 e3
      have TT := Lib.hid (tot_take m hlt)
      have S := Lib.hid hs
      clear hs hu
      go_wp2_with fail
      refine (szIntS u (m.getD j []) r _ S.out r0 r1).mono ?_
      rintro e w' ⟨rfl, rfl⟩
      by_cases hz : r - ((m.getD j []).length : Int) < 0
      · rw [if_pos hz]
        go_wp2_with fail
        go_ret
        exact ⟨-1, rfl, rfl, by omega, fun h => by omega⟩
      · rw [if_neg hz]
        generalize hq : r - ((m.getD j []).length : Int) = q at *
        have Q := Lib.hid hq
        clear hq
        have q0 : ¬ q < 0 := hz
        go_wp2_with fail
        go_round
        case rel => exact ⟨j + 1, by omega, by go_num, q, rfl, by omega, by have := HR.out; have := TT.out; have := Q.out; omega⟩
        case measure => simp [intOf]; omega
    · have : j = m.length := by omega
      subst this
      go_wp2_with fail
      go_ret
      exact ⟨r, rfl, rfl, r1, fun _ => by have := HR.out; rw [List.take_length] at this; omega⟩

/-- one of several rows is written anew. -/
theorem OwnAll.put {w w' : World} {base : Nat} {A B : List Item} {x x' : Item} (h : OwnAll w base (A ++ x :: B)) (hv : x'.v = x.v) (hg : w.grownBy w' x.v.ownBlock) (ho : x'.Own w' base) : OwnAll w' base (A ++ x' :: B) := by
  have hp := h.2
  rw [List.pairwise_append, List.pairwise_cons] at hp
  have key : ∀ y : Item, y.Apart x → y.Own w base → y.Own w' base := fun y ha hy => World.ownsRow.kept hy hg ha
  refine ⟨fun y hy => ?_, ?_⟩
  · rcases List.mem_append.1 hy with hy | hy
    · exact key y (hp.2.2 y hy x (by simp)) (h.1 y (by simp [hy]))
    · rcases List.mem_cons.1 hy with rfl | hy
      · exact ho
      · exact key y (hp.2.1.1 y hy).symm (h.1 y (by simp [hy]))
  · rw [List.pairwise_append, List.pairwise_cons]
    refine ⟨hp.1, ⟨fun y hy => ?_, hp.2.1.2⟩, fun y hy z hz => ?_⟩
    · have := hp.2.1.1 y hy
      unfold Item.Apart at this ⊢
      rw [hv]; exact this
    · rcases List.mem_cons.1 hz with rfl | hz
      · have := hp.2.2 y hy x (by simp)
        unfold Item.Apart at this ⊢
        rw [hv]; exact this
      · exact hp.2.2 y hy z (by simp [hz])
theorem Lives.put {w0 w w' : World} {A B : List Item} {x x' : Item} (h : Lives w0 w (A ++ x :: B)) (hv : x'.v = x.v) (hg : w.grownBy w' x.v.ownBlock) (ho : x'.Own w' w0.heap.size) : Lives w0 w' (A ++ x' :: B) :=
  ⟨h.below.grown hg h.below.size (fun k hk => (World.ownsRow.lt (h.own.1 x (by simp)) k hk).1), h.own.put hv hg ho⟩

/-- where the copy of a table stands. -/
structure Copying (w : World) (g : Nat) (m : List (List Int)) (k : Nat) (us : List Value) (wr : World) : Prop where
  le : k ≤ m.length
  len : us.length = k
  grown : w.grownBy wr none
  own : OwnAll wr w.heap.size (⟨.slice (some ⟨g, 0, none⟩) m.length m.length, 24, us ++ List.replicate (m.length - k) (.slice none 0 0)⟩ :: List.zipWith row1 us (m.take k))
theorem Copying.cell {w wr : World} {g k : Nat} {m : List (List Int)} {us : List Value} (h : Copying w g m k us wr) (hk : k < m.length) : w.heap.size ≤ g ∧ wr.cell? ⟨g, k, none⟩ = some (.slice none 0 0) ∧ wr.frozen? ⟨g, k, none⟩ = false := by
  have ho := h.own.1 _ List.mem_cons_self
  unfold Item.Own at ho
  simp only [show (us ++ List.replicate (m.length - k) (Value.slice none 0 0)).length = m.length by rw [List.length_append, List.length_replicate, h.len]; omega] at ho
  have hc := World.ownsRow.cells ho (g := g) rfl k (.slice none 0 0) (by
    show (us ++ List.replicate (m.length - k) (.slice none 0 0))[k]? = _
    rw [List.getElem?_append_right (by rw [h.len]; omega), h.len, Nat.sub_self, List.getElem?_replicate, if_pos (by omega)])
  rw [Addr.add_lit] at hc
  exact ⟨(World.ownsRow.lt ho g rfl).1, by simpa using hc, World.ownsRow.frozenAt ho k⟩
theorem Copying.next {w wr w1 : World} {g k : Nat} {m : List (List Int)} {us : List Value} {u : Value} (h : Copying w g m k us wr) (hk : k < m.length) (hg : wr.grownBy w1 none) (ho : Own w1 wr.heap.size u (m.getD k [])) :
    Copying w g m (k + 1) (us ++ [u]) (w1.setCell ⟨g, k, none⟩ u) := by
  have h1 := h.own.join (M := [row1 u (m.getD k [])]) hg ⟨fun x hx => by simp at hx; subst hx; exact row1_own.2 ho, by simp⟩ h.grown.size
  have htop := h1.1 ⟨.slice (some ⟨g, 0, none⟩) m.length m.length, 24, us ++ List.replicate (m.length - k) (.slice none 0 0)⟩ (by simp)
  unfold Item.Own at htop
  have hn : (us ++ List.replicate (m.length - k) (Value.slice none 0 0)).length = m.length := by rw [List.length_append, List.length_replicate, h.len]; omega
  simp only [hn] at htop
  have hs := World.ownsRow.stored htop k u
  have e : (us ++ List.replicate (m.length - k) (Value.slice none 0 0)).set k u = (us ++ [u]) ++ List.replicate (m.length - (k + 1)) (.slice none 0 0) := by
    rw [List.set_append_right _ _ (by rw [h.len]; omega), h.len, Nat.sub_self, show m.length - k = (m.length - (k + 1)) + 1 by omega, List.replicate_succ, List.set_cons_zero, List.append_assoc]; rfl
  rw [e] at hs
  have h2 := OwnAll.put (A := [row1 u (m.getD k [])]) (x' := ⟨.slice (some ⟨g, 0, none⟩) m.length m.length, 24, (us ++ [u]) ++ List.replicate (m.length - (k + 1)) (.slice none 0 0)⟩) h1 rfl hs.2 (by
    unfold Item.Own
    have e2 : ((us ++ [u]) ++ List.replicate (m.length - (k + 1)) (Value.slice none 0 0)).length = m.length := by simp [h.len]; omega
    simp only [e2]
    exact hs.1)
  refine ⟨hk, by simp [h.len], ?_, ?_⟩
  · exact grown_own (grown_trans h.grown hg) hs.2 (fun q hq => (World.ownsRow.lt htop q hq).1)
  · have ez : List.zipWith row1 (us ++ [u]) (m.take (k + 1)) = List.zipWith row1 us (m.take k) ++ [row1 u (m.getD k [])] := by
      rw [take_more m hk, List.zipWith_append (by rw [h.len, List.length_take]; omega)]; rfl
    rw [ez]
    refine ⟨fun x hx => h2.1 x ?_, ?_⟩
    · simp only [List.mem_cons, List.mem_append, List.not_mem_nil, or_false] at hx ⊢
      rcases hx with h | h | h
      · exact .inr (.inl h)
      · exact .inr (.inr h)
      · exact .inl h
    · have hp := h2.2
      simp only [List.cons_append, List.nil_append, List.pairwise_cons, List.mem_cons, forall_eq_or_imp] at hp
      rw [List.pairwise_cons, List.pairwise_append]
      refine ⟨fun y hy => ?_, hp.2.2, by simp, fun y hy z hz => ?_⟩
      · rcases List.mem_append.1 hy with hy | hy
        · exact hp.2.1 y hy
        · simp at hy; subst hy; exact hp.1.1.symm
      · simp at hz; subst hz; exact (hp.1.2 y hy).symm

theorem infoInts : (Try.prog.info? 24).map (fun i => (i.zero, i.size, i.bytes)) = some (some (.slice none 0 0), 1, 24) := by kernel_rfl

set_option maxHeartbeats 2000000 in
set_option maxRecDepth 20000 in
theorem toIntSS (v : Value) (us0 : List Value) (m : List (List Int)) (w : World) (h : Tab w v us0 m) (hl : m.length ≤ 1048576) (ht : tot m ≤ 1048576) : Calls Try.prog 54 #[v] w (NewTab m w) := by
  have T := Lib.hid h
  obtain ⟨a, cap, rfl, h1, h2, h3⟩ := h.top
  clear h h3
  unfold maxLen at h2
  obtain ⟨i0, hi, hz0, hz1, hz2⟩ := info_parts infoInts
  have I1 := Lib.hid hi
  have I2 := Lib.hid hz0
  have I3 := Lib.hid hz1
  have I4 := Lib.hid hz2
  clear hi hz0 hz1 hz2
  have hn0 : (0 : Int) ≤ (m.length : Int) := by omega
  go_enter Try.func54, Try.ntmps54
  go_wp2_with (at_make; refine wpList_make_full _ rfl _ _ 23 rfl w.heap.size 24 i0 (.slice none 0 0) 1 Try.underlying23 I1.out I2.out I3.out _ _ _ _ m.length rfl rfl rfl rfl ?b1 ?b2 ?b3 ?_)
  case b1 => rw [I4.out]; omega
  case b2 => unfold maxLen; omega
  case b3 => exact Nat.le_refl _
  intro w1 ho hg
  have C0 : Hid (Copying w w.heap.size m 0 [] w1) := by
    refine ⟨Nat.zero_le _, rfl, hg, fun x hx => ?_, by simp⟩
    simp at hx
    subst hx
    unfold Item.Own
    simp only [List.length_replicate]
    simpa [toList_madeCells_one] using ho
  clear ho hg
  go_wp2_with fail
  go_loopw [4] (fun i wr => ∃ k : Nat, i = .int .i64 k ∧ ∃ us, Copying w w.heap.size m k us wr) (fun i _ => m.length - (intOf i).toNat)
  case atStart => exact ⟨0, rfl, [], C0.out⟩
  case round =>
    obtain ⟨k, rfl, us, hc⟩ := hrel
    have hk := hc.le
    have C := Lib.hid hc
    clear hc C0
    by_cases hlt : k < m.length
    · obtain ⟨hb, hx, hf⟩ := C.out.cell hlt
      obtain ⟨b, o, cap', u, e, hu, hx2, hs⟩ := (T.out.grown C.out.grown).at_ hlt
      injection e with e1 e2 e3
      subst e1 e3
      have hlr := tot_some m k
      obtain ⟨lk, hlk⟩ : ∃ l, m.getD k [] = l := ⟨_, rfl⟩
      rw [hlk] at hs hlr
      have HK := Lib.hid hlk
      have S := Lib.hid hs
      clear hs hu hx hf hlk
      go_wp2_with fail
      refine (toIntS u lk _ S.out (by omega)).mono ?_
      rintro e w2 ⟨u2, rfl, hg, ho⟩
      obtain ⟨hb, hx, hf⟩ := C.out.cell hlt
      have hx' := hg.cell hx (by simp)
      have hf' : w2.frozen? ⟨w.heap.size, k, none⟩ = false := (World.frozen?_of_block (w := wr) (hg.block _ (lt_of_cell hx) (by simp))).trans hf
      have N := Lib.hid (C.out.next hlt hg (by rw [HK.out]; exact ho))
      obtain ⟨au, cu, eu, _, _, _⟩ := ho.sl
      subst eu
      clear hx hf hg ho hx2
      go_wp2_with fail
      go_roundw
      case rel => exact ⟨k + 1, by go_num, _, N.out⟩
      case measure => simp [intOf]; omega
    · have : k = m.length := by omega
      subst this
      go_wp2_with fail
      go_ret
      refine ⟨_, us, rfl, C.out.grown, C.out.len, ?_⟩
      have := C.out.own
      rw [Nat.sub_self, List.take_length] at this
      simpa [tabItems] using this
end Go.Proofs.Ytdbajokjhllekaa
