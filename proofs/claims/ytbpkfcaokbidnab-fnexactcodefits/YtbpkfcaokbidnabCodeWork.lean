/-
  The program's way with the rows of shards that are there, and the model's, plainly: which shards are enough; whether values are all of one of numbers. It speaks of no program.
  Conditions: none.
-/
import Derived.Test.YtbpkfcaokbidnabSpanElim
import Derived.Test.YtbpkfcaokbidnabCodeList
namespace Go.Proofs.Ytbpkfcaokbidnab.Sp
set_option linter.unusedVariables false

/-- rows of all shards, nothing in place of those that are not there. -/
def padd (kind : Nat) (there : List Bool) : List (List Int) := (List.range 8).map fun i => if there.getD i false then crow kind i else [0, 0, 0, 0]
theorem padd_len (kind : Nat) (there : List Bool) : (padd kind there).length = 8 := by simp [padd]
theorem padd_get {kind : Nat} {there : List Bool} {i : Nat} (hi : i < 8) : (padd kind there).getD i [] = if there.getD i false then crow kind i else [0, 0, 0, 0] := by
  simp [padd, List.getD_eq_getElem?_getD, hi]
theorem row_none4 : Row 4 [0, 0, 0, 0] := row_ok.1 rfl
theorem toV_none4 (j : Nat) : toV [0, 0, 0, 0] j = 0 := by
  unfold toV
  match j with
  | 0 => rfl
  | 1 => rfl
  | 2 => rfl
  | 3 => rfl
  | j + 4 => rfl
theorem padd_row {kind : Nat} (hk : kind = 1 ∨ kind = 2) (there : List Bool) : ∀ r ∈ padd kind there, Row 4 r := by
  intro r hr
  obtain ⟨i, hi, rfl⟩ := List.mem_map.1 hr
  have := List.mem_range.1 hi
  split
  · exact crow_row hk this
  · exact row_none4
theorem padd_same (kind : Nat) (there : List Bool) : Same ((padd kind there).map toV) ((crows kind there).map toV) := by
  constructor
  · intro a ha
    obtain ⟨r, hr, rfl⟩ := List.mem_map.1 ha
    obtain ⟨i, hi, rfl⟩ := List.mem_map.1 hr
    split
    · next h => exact In.mem (List.mem_map.2 ⟨crow kind i, List.mem_map.2 ⟨i, List.mem_filter.2 ⟨hi, h⟩, rfl⟩, rfl⟩)
    · exact (In.zero _).eq toV_none4
  · intro b hb
    obtain ⟨r, hr, rfl⟩ := List.mem_map.1 hb
    obtain ⟨i, hi, rfl⟩ := List.mem_map.1 hr
    obtain ⟨h1, h2⟩ := List.mem_filter.1 hi
    exact In.mem (List.mem_map.2 ⟨crow kind i, List.mem_map.2 ⟨i, h1, by simp only [h2, if_true]⟩, rfl⟩)
theorem padd_bears {kind : Nat} (hk : kind = 1 ∨ kind = 2) (there : List Bool) : bears kind there = ((firsts has (padd kind there)).length == 4) := by
  unfold bears
  rw [← ltidy_firsts (fun m v hm hv => has_iff hm hv) 8 (padd_len _ _) (padd_row hk there), (ltidy_same (padd_row hk there) (crows_row hk there)).2 (padd_same kind there)]
/-- a shard that is not there. -/
theorem Stand.none_ {kind : Nat} {there : List Bool} {n : Nat} {S : Cols} {ps : List Nat} (h : Stand (padd kind there) n S ps) (hk : kind = 1 ∨ kind = 2) (hn : n < 8) (ht : there.getD n false = false) : Stand (padd kind there) (n + 1) S ps := by
  have hl : n < (padd kind there).length := by rw [padd_len]; exact hn
  have h8 : (padd kind there).length ≤ 8 := by rw [padd_len]; exact Nat.le_refl _
  refine h.skip (padd_row hk there) hl h8 ?_
  obtain ⟨h1, h2, h3⟩ := fresh_off (padd_row hk there) hl h8 ps
  rw [first4 (red_is h.row h1).1]
  refine (h.made h1 (fresh_row (padd_row hk there) hl) h2).1 ?_
  rw [padd_get hn, ht]
  exact (In.zero _).eq toV_none4

/-- values that are all of one of numbers. -/
def Fit (kind : Nat) (there : List Bool) (vals : List Int) : Prop := ∃ d : V, ∀ i, i < 8 → there.getD i false = true → dot (toV (crow kind i)) d = toF (vals.getD i 0)
theorem wsum_snoc : ∀ (n : Nat) (c g : Nat → F), wsum c g (n + 1) = wsum c g n + c n * g n := by
  intro n
  induction n with
  | zero => intro c g; show c 0 * g 0 + 0 = 0 + c 0 * g 0; grind
  | succ n ih =>
    intro c g
    show c 0 * g 0 + wsum (fun i => c (i + 1)) (fun i => g (i + 1)) (n + 1) = (c 0 * g 0 + wsum (fun i => c (i + 1)) (fun i => g (i + 1)) n) + c (n + 1) * g (n + 1)
    rw [ih]; grind
/-- values, each so often, together: the program's sum, so far. -/
def csum (a c : List Int) : Nat → Int
  | 0 => 0
  | n + 1 => (csum a c n + a.getD n 0 * c.getD n 0 % 31) % 31
theorem csum_ok (a c : List Int) (n : Nat) : Fld.ok (csum a c n) = true := by
  cases n with
  | zero => rfl
  | succ n => exact Vec.mod_is _
theorem csum_is (a c : List Int) (n : Nat) : toF (csum a c n) = wsum (toV c) (toV a) n := by
  induction n with
  | zero => rfl
  | succ n ih =>
    rw [wsum_snoc, ← ih]
    show toF ((csum a c n + a.getD n 0 * c.getD n 0 % 31) % 31) = _ + toF (c.getD n 0) * toF (a.getD n 0)
    rw [toF_add, toF_mul]
    generalize toF (csum a c n) = p
    generalize toF (a.getD n 0) = q
    generalize toF (c.getD n 0) = r
    grind
/-- the model's sum, so far. -/
def msum (c g : List Int) : Nat → Int
  | 0 => 0
  | n + 1 => (msum c g n + c.getD n 0 * g.getD n 0) % 31
theorem msum_ok (a c : List Int) (n : Nat) : Fld.ok (msum a c n) = true := by
  cases n with
  | zero => rfl
  | succ n => exact Vec.mod_is _
theorem msum_is (c g : List Int) (n : Nat) : toF (msum c g n) = wsum (toV c) (toV g) n := by
  induction n with
  | zero => rfl
  | succ n ih =>
    rw [wsum_snoc, ← ih]
    show toF ((msum c g n + c.getD n 0 * g.getD n 0) % 31) = _
    have e : toF ((msum c g n + c.getD n 0 * g.getD n 0) % 31) = toF ((msum c g n + c.getD n 0 * g.getD n 0 % 31) % 31) := toF_eq (by omega)
    rw [e, toF_add, toF_mul]
    rfl
/-- first rows take whatever values. -/
theorem firsts_free {m : List (List Int)} (hm : ∀ r ∈ m, Row 4 r) (g : Nat → F) : ∃ d : V, ∀ i ∈ firsts has m, dot (toV (m.getD i [])) d = g i := by
  obtain ⟨F, hF⟩ : ∃ F, firsts has m = F := ⟨_, rfl⟩
  have hup : F.Pairwise (· < ·) := by rw [← hF]; exact List.Pairwise.filter _ List.pairwise_lt_range
  have hin : ∀ i ∈ F, i < m.length ∧ ¬ Made (m.take i) (m.getD i []) := fun i hi => first_not hm (by rw [hF]; exact hi)
  obtain ⟨d, hd⟩ := solve (m := F.map fun j => m.getD j []) _ rfl (fun r hr => by
      obtain ⟨j, hj, rfl⟩ := List.mem_map.1 hr
      exact fresh_row hm (hin j hj).1) (fun i hi hmade => by
      have hi' : i < F.length := by simpa using hi
      have e : (F.map fun j => m.getD j [])[i] = m.getD F[i] [] := by simp
      rw [e] at hmade
      refine (hin F[i] (List.getElem_mem hi')).2 (hmade.mono fun a ha => ?_)
      obtain ⟨r, hr, rfl⟩ := List.mem_map.1 ha
      rw [List.mem_take_iff_getElem] at hr
      obtain ⟨j, hj, rfl⟩ := hr
      have hjF : j < F.length := by simp at hj; omega
      have hji : j < i := by omega
      have hlt : F[j] < F[i] := List.pairwise_iff_getElem.1 hup j i hjF hi' hji
      refine List.mem_map.2 ⟨_, ?_, rfl⟩
      rw [List.getElem_map, List.mem_take_iff_getElem]
      have hjm := (hin F[j] (List.getElem_mem hjF)).1
      exact ⟨F[j], by omega, by rw [List.getD_eq_getElem?_getD, List.getElem?_eq_getElem hjm]; rfl⟩) (fun k => g (F.getD k 0))
  rw [hF]
  refine ⟨d, fun i hi => ?_⟩
  obtain ⟨k, hk, rfl⟩ := List.mem_iff_getElem.1 hi
  have := hd k (by simpa using hk)
  rw [List.getElem_map] at this
  rw [this, List.getD_eq_getElem?_getD, List.getElem?_eq_getElem hk]
  rfl
theorem by_dot {m : List (List Int)} {v c : List Int} (h : IsBy m v c) (d : V) : dot (toV v) d = wsum (toV c) (fun i => dot (toV (m.getD i [])) d) m.length := by
  rw [dot_eq (fun j _ => h.sum j), dot_wsum, List.length_map]
  refine wsum_congr _ (fun _ _ => rfl) fun i hi => ?_
  rw [List.getD_eq_getElem?_getD, List.getElem?_map, List.getElem?_eq_getElem hi, List.getD_eq_getElem?_getD, List.getElem?_eq_getElem hi]
  rfl
theorem wsum_by {m : List (List Int)} {v c : List Int} (h : IsBy m v c) {f g : Nat → F} (e : ∀ i, i < m.length → i ∈ firsts has m → f i = g i) : wsum (toV c) f m.length = wsum (toV c) g m.length := by
  have key : ∀ n, n ≤ m.length → wsum (toV c) f n = wsum (toV c) g n := by
    intro n
    induction n with
    | zero => intro _; rfl
    | succ n ih =>
      intro hn
      rw [wsum_snoc, wsum_snoc, ih (by omega)]
      by_cases hf : n ∈ firsts has m
      · rw [e n (by omega) hf]
      · have : toV c n = 0 := by unfold toV; rw [h.zero n (by omega) hf]; rfl
        rw [this]; grind
  exact key _ (Nat.le_refl _)
theorem padd_first {kind : Nat} (hk : kind = 1 ∨ kind = 2) {there : List Bool} {i : Nat} (hi : i ∈ firsts has (padd kind there)) : i < 8 ∧ there.getD i false = true ∧ (padd kind there).getD i [] = crow kind i := by
  have h := first_not (padd_row hk there) hi
  have h8 : i < 8 := by have := h.1; rw [padd_len] at this; exact this
  have e := padd_get (kind := kind) (there := there) h8
  cases ht : there.getD i false with
  | true => rw [ht] at e; exact ⟨h8, rfl, e⟩
  | false =>
    rw [ht] at e
    exact absurd (by rw [e]; exact (In.zero _).eq toV_none4) h.2
theorem fit_no {kind : Nat} (hk : kind = 1 ∨ kind = 2) {there : List Bool} {vals c : List Int} (hv : Row 8 vals) {i : Nat} (hi : i < 8) (ht : there.getD i false = true) (hc : IsBy (padd kind there) (crow kind i) c) (hne : csum vals c 8 ≠ vals.getD i 0) : ¬ Fit kind there vals := by
  rintro ⟨d, hd⟩
  refine hne (toF_inj (csum_ok _ _ _) (hv.get i) ?_)
  rw [csum_is, ← hd i hi ht, by_dot hc d]
  have := wsum_by hc (f := toV vals) (g := fun i => dot (toV ((padd kind there).getD i [])) d) fun j hj hf => by
    obtain ⟨h1, h2, h3⟩ := padd_first hk hf
    show _ = dot (toV ((padd kind there).getD j [])) d
    rw [h3, hd j h1 h2]; rfl
  rw [padd_len] at this ⊢
  exact this
theorem fit_yes {kind : Nat} (hk : kind = 1 ∨ kind = 2) {there : List Bool} {vals : List Int} (h : ∀ i, i < 8 → there.getD i false = true → ∃ c, IsBy (padd kind there) (crow kind i) c ∧ csum vals c 8 = vals.getD i 0) : Fit kind there vals := by
  obtain ⟨d, hd⟩ := firsts_free (padd_row hk there) (toV vals)
  refine ⟨d, fun i hi ht => ?_⟩
  obtain ⟨c, hc, e⟩ := h i hi ht
  rw [← e, csum_is, by_dot hc d]
  have := wsum_by hc (f := fun i => dot (toV ((padd kind there).getD i [])) d) (g := toV vals) fun j hj hf => hd j hf
  rw [padd_len] at this ⊢
  exact this

/-- where the model stands behind k shards: rows none of which is made of those ahead, and their values, say as much. -/
structure Fits (kind : Nat) (there : List Bool) (vals : List Int) (k : Nat) (R : List (List Int)) (G : List Int) : Prop where
  row : ∀ r ∈ R, Row 4 r
  got : Row R.length G
  few : R.length ≤ k
  free : ∀ i (hi : i < R.length), ¬ Made (R.take i) R[i]
  to_ : ∀ d : V, (∀ i, i < k → there.getD i false = true → dot (toV (crow kind i)) d = toF (vals.getD i 0)) → ∀ i, i < R.length → dot (toV (R.getD i [])) d = toF (G.getD i 0)
  of_ : ∀ d : V, (∀ i, i < R.length → dot (toV (R.getD i [])) d = toF (G.getD i 0)) → ∀ i, i < k → there.getD i false = true → dot (toV (crow kind i)) d = toF (vals.getD i 0)
theorem Fits.start (kind : Nat) (there : List Bool) (vals : List Int) : Fits kind there vals 0 [] [] := ⟨by simp, ⟨rfl, by simp⟩, by simp, by simp, by simp, by omega⟩
theorem Fits.skip {kind : Nat} {there : List Bool} {vals : List Int} {k : Nat} {R : List (List Int)} {G : List Int} (h : Fits kind there vals k R G) (ht : there.getD k false = false) : Fits kind there vals (k + 1) R G :=
  ⟨h.row, h.got, by have := h.few; omega, h.free, fun d hd => h.to_ d fun i hi => hd i (by omega), fun d hd i hi hti => by
    by_cases e : i = k
    · subst e; rw [ht] at hti; cases hti
    · exact h.of_ d hd i (by omega) hti⟩
theorem Fits.dot {kind : Nat} {there : List Bool} {vals : List Int} {k : Nat} {R : List (List Int)} {G : List Int} (h : Fits kind there vals k R G) {v l : List Int} (hl : ∀ j, toV v j = comb (toV l) (R.map toV) j) (d : V) (hd : ∀ i, i < R.length → Sp.dot (toV (R.getD i [])) d = toF (G.getD i 0)) : Sp.dot (toV v) d = toF (msum l G R.length) := by
  rw [dot_eq (fun j _ => hl j), dot_wsum, List.length_map, msum_is]
  refine wsum_congr _ (fun _ _ => rfl) fun i hi => ?_
  have := hd i hi
  rw [List.getD_eq_getElem?_getD, List.getElem?_map, List.getElem?_eq_getElem hi]
  rw [List.getD_eq_getElem?_getD, List.getElem?_eq_getElem hi] at this
  exact this
theorem Fits.made {kind : Nat} {there : List Bool} {vals : List Int} {k : Nat} {R : List (List Int)} {G l : List Int} (h : Fits kind there vals k R G) (hl : ∀ j, toV (crow kind k) j = comb (toV l) (R.map toV) j) (e : msum l G R.length = vals.getD k 0) : Fits kind there vals (k + 1) R G :=
  ⟨h.row, h.got, by have := h.few; omega, h.free, fun d hd => h.to_ d fun i hi => hd i (by omega), fun d hd i hi hti => by
    by_cases ei : i = k
    · subst ei; rw [h.dot hl d hd, e]
    · exact h.of_ d hd i (by omega) hti⟩
theorem Fits.no {kind : Nat} {there : List Bool} {vals : List Int} {k : Nat} {R : List (List Int)} {G l : List Int} (h : Fits kind there vals k R G) (hv : Row 8 vals) (hk : k < 8) (ht : there.getD k false = true) (hl : ∀ j, toV (crow kind k) j = comb (toV l) (R.map toV) j) (e : msum l G R.length ≠ vals.getD k 0) : ¬ Fit kind there vals := by
  rintro ⟨d, hd⟩
  refine e (toF_inj (msum_ok _ _ _) (hv.get k) ?_)
  rw [← h.dot hl d (h.to_ d fun i hi => hd i (by omega))]
  exact hd k hk ht
theorem Fits.more {kind : Nat} (hkind : kind = 1 ∨ kind = 2) {there : List Bool} {vals : List Int} {k : Nat} {R : List (List Int)} {G : List Int} (h : Fits kind there vals k R G) (hv : Row 8 vals) (hk : k < 8) (ht : there.getD k false = true) (hn : ¬ Made R (crow kind k)) : Fits kind there vals (k + 1) (R ++ [crow kind k]) (G ++ [vals.getD k 0]) := by
  have hlen := h.got.1
  have g1 : ∀ i, i < R.length → (R ++ [crow kind k]).getD i [] = R.getD i [] := fun i hi => by
    rw [List.getD_eq_getElem?_getD, List.getElem?_append_left hi, ← List.getD_eq_getElem?_getD]
  have g2 : ∀ i, i < R.length → (G ++ [vals.getD k 0]).getD i 0 = G.getD i 0 := fun i hi => by
    rw [List.getD_eq_getElem?_getD, List.getElem?_append_left (by omega), ← List.getD_eq_getElem?_getD]
  have g3 : (R ++ [crow kind k]).getD R.length [] = crow kind k := by simp [List.getD_eq_getElem?_getD]
  have g4 : (G ++ [vals.getD k 0]).getD R.length 0 = vals.getD k 0 := by rw [← hlen]; simp [List.getD_eq_getElem?_getD]
  refine ⟨fun r hr => ?_, ⟨by simp [hlen], fun x hx => ?_⟩, by simp; exact h.few, fun i hi => ?_, fun d hd i hi => ?_, fun d hd i hi hti => ?_⟩
  · rcases List.mem_append.1 hr with hr | hr
    · exact h.row r hr
    · simp at hr; subst hr; exact crow_row hkind hk
  · rcases List.mem_append.1 hx with hx | hx
    · exact h.got.2 x hx
    · simp at hx; subst hx; exact hv.get k
  · by_cases hlt : i < R.length
    · rw [List.take_append_of_le_length (by omega), List.getElem_append_left hlt]; exact h.free i hlt
    · have e : i = R.length := by simp at hi; omega
      subst e
      rw [List.take_append_of_le_length (Nat.le_refl _), List.take_length]
      simpa using hn
  · by_cases hlt : i < R.length
    · rw [g1 i hlt, g2 i hlt]
      exact h.to_ d (fun j hj => hd j (by omega)) i hlt
    · have e : i = R.length := by simp at hi; omega
      subst e
      rw [g3, g4]; exact hd k (by omega) ht
  · by_cases e : i = k
    · subst e
      have := hd R.length (by simp)
      rw [g3, g4] at this; exact this
    · exact h.of_ d (fun j hj => by have := hd j (by simp; omega); rwa [g1 j hj, g2 j hj] at this) i (by omega) hti
theorem Fits.done {kind : Nat} {there : List Bool} {vals : List Int} {R : List (List Int)} {G : List Int} (h : Fits kind there vals 8 R G) : Fit kind there vals := by
  obtain ⟨d, hd⟩ := solve R.length rfl h.row h.free (fun i => toF (G.getD i 0))
  exact ⟨d, h.of_ d fun i hi => by rw [← hd i hi, List.getD_eq_getElem?_getD, List.getElem?_eq_getElem hi]; rfl⟩

/-- what fits fits with fewer there. -/
theorem Fit.less {kind : Nat} {there less : List Bool} {vals : List Int} (h : Fit kind there vals) (hl : ∀ i, i < 8 → less.getD i false = true → there.getD i false = true) : Fit kind less vals := by
  obtain ⟨d, hd⟩ := h
  exact ⟨d, fun i hi ht => hd i hi (hl i hi ht)⟩
/-- FOUND OUT. -/
theorem Fit.bad {kind : Nat} (hk : kind = 1 ∨ kind = 2) {there less : List Bool} {vals bad : List Int} (h : Fit kind there vals) (hv : Row 8 vals) (hb' : Row 8 bad) {k : Nat} (hk8 : k < 8) (ht : there.getD k false = true)
    (hl : ∀ i, i < 8 → less.getD i false = true → i ≠ k ∧ there.getD i false = true) (hb : bears kind less = true) (he : ∀ i, i ≠ k → bad.getD i 0 = vals.getD i 0) (hne : bad.getD k 0 ≠ vals.getD k 0) :
    ¬ Fit kind there bad ∧ Fit kind less bad := by
  obtain ⟨d, hd⟩ := h
  refine ⟨?_, d, fun i hi hti => ?_⟩
  · rintro ⟨e, hee⟩
    have hs := same_data hk hb (a := d) (b := e) fun r hr => by
      obtain ⟨i, hi, rfl⟩ := List.mem_map.1 hr
      obtain ⟨h1, h2⟩ := List.mem_filter.1 hi
      have h1' := List.mem_range.1 h1
      obtain ⟨h3, h4⟩ := hl i h1' h2
      rw [hd i h1' h4, hee i h1' h4, he i h3]
    refine hne (toF_inj (hb'.get k) (hv.get k) ?_)
    rw [← hee k hk8 ht, ← hd k hk8 ht, dot_comm, dot_comm (toV (crow kind k)) d]
    exact dot_eq (fun j hj => (hs j hj).symm) _
  · obtain ⟨h1, h2⟩ := hl i hi hti
    rw [he i h1]; exact hd i hi h2
end Go.Proofs.Ytbpkfcaokbidnab.Sp
