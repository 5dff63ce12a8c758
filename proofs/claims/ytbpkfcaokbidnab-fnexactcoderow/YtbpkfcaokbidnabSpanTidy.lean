/-
  The model's tidying of rows, as plain functions of lists: it gives tidy rows of which the same rows are made, and no other list of rows is tidy and does. It speaks of no program.
  Conditions: none.
-/
import Derived.Test.YtbpkfcaokbidnabSpanList
namespace Go.Proofs.Ytbpkfcaokbidnab.Sp
set_option linter.unusedVariables false

/-- a row put in among tidy ones. -/
def lins (p : Nat) (v : List Int) : List (List Int) → List (List Int)
  | [] => [v]
  | r :: T => if (p : Int) < Vec.first r 0 then v :: (r :: T).map (fun s => lless s v) else lless r v :: lins p v T
/-- tidy rows with one more. -/
def ladd1 (T : List (List Int)) (v : List Int) : List (List Int) :=
  if Vec.first (T.foldl lless v) 0 < 0 then T
  else lins (Vec.first (T.foldl lless v) 0).toNat (lmul (T.foldl lless v) (Fld.inv ((T.foldl lless v).getD (Vec.first (T.foldl lless v) 0).toNat 0))) T
/-- rows, tidied. -/
def ltidy (m : List (List Int)) : List (List Int) := m.foldl ladd1 []

/-- the lists T are the tidy rows L. -/
structure Is (n : Nat) (T : List (List Int)) (L : List (Nat × V)) : Prop where
  tidy : Tidy L
  same : T.map toV = rows L
  row : ∀ r ∈ T, Row n r
theorem Is.nil (n : Nat) : Is n [] [] := ⟨Tidy.nil, rfl, by simp⟩
theorem Is.length {n : Nat} {T : List (List Int)} {L : List (Nat × V)} (h : Is n T L) : T.length = L.length := by
  have := congrArg List.length h.same
  simpa [rows] using this
theorem Is.cons {n : Nat} {r : List Int} {T : List (List Int)} {x : Nat × V} {L : List (Nat × V)} (h : Is n (r :: T) (x :: L)) : toV r = x.2 ∧ Row n r ∧ Is n T L := by
  have hs := h.same
  simp only [rows, List.map_cons, List.cons.injEq] at hs
  exact ⟨hs.1, h.row r (by simp), h.tidy.tail, hs.2, fun s hs => h.row s (by simp [hs])⟩

theorem fold_is {n : Nat} {T : List (List Int)} : ∀ {L : List (Nat × V)} {v : List Int}, Is n T L → Row n v → Row n (T.foldl lless v) ∧ toV (T.foldl lless v) = vred L (toV v) := by
  induction T with
  | nil =>
    intro L v h hv
    have : L = [] := List.eq_nil_of_length_eq_zero (by rw [← h.length]; rfl)
    subst this
    exact ⟨hv, rfl⟩
  | cons r T ih =>
    intro L v h hv
    match L, h.length with
    | x :: L, _ =>
      obtain ⟨e, hr, h'⟩ := h.cons
      have hl : Lead (toV r) x.1 := by rw [e]; exact h.tidy.lead (by simp)
      have h1 : toV r x.1 = 1 := by rw [e]; exact h.tidy.one x (by simp)
      obtain ⟨g1, g2⟩ := ih h' (row_lless hv hr)
      refine ⟨g1, ?_⟩
      show toV (T.foldl lless (lless v r)) = _
      rw [g2, vred_cons]
      congr 1
      funext j
      rw [toV_lless1 hv hr hl h1, e]
theorem lins_is {n p : Nat} {v : List Int} (hv : Row n v) (hl : Lead (toV v) p) (h1 : toV v p = 1) {T : List (List Int)} : ∀ {L : List (Nat × V)}, Is n T L → (lins p v T).map toV = rows (vins p (toV v) L) ∧ ∀ r ∈ lins p v T, Row n r := by
  induction T with
  | nil =>
    intro L h
    have : L = [] := List.eq_nil_of_length_eq_zero (by rw [← h.length]; rfl)
    subst this
    refine ⟨rfl, fun r hr => ?_⟩
    simp [lins] at hr; subst hr; exact hv
  | cons r T ih =>
    intro L h
    match L, h.length with
    | x :: L, _ =>
      obtain ⟨e, hr, h'⟩ := h.cons
      have hlr : Lead (toV r) x.1 := by rw [e]; exact h.tidy.lead (by simp)
      have hf := first_lead hr hlr
      obtain ⟨g1, g2⟩ := ih h'
      unfold lins vins
      by_cases hp : p < x.1
      · rw [if_pos (by rw [hf]; omega), if_pos hp]
        constructor
        · have hs := h.same
          simp only [rows, List.map_cons, List.map_map] at hs ⊢
          congr 1
          have hm : ∀ (A : List (List Int)) (B : List (Nat × V)), A.map toV = B.map Prod.snd → (∀ s ∈ A, Row n s) → A.map (toV ∘ fun s => lless s v) = B.map (Prod.snd ∘ fun y => (y.1, fun j => y.2 j - y.2 p * toV v j)) := by
            intro A
            induction A with
            | nil =>
              intro B hB _
              have e0 : B = [] := by simpa using hB.symm
              subst e0
              rfl
            | cons a A iha =>
              intro B hB hA
              match B, hB with
              | b :: B, hB =>
                simp only [List.map_cons, List.cons.injEq] at hB ⊢
                refine ⟨?_, iha B hB.2 (fun s hs => hA s (by simp [hs]))⟩
                funext j
                show toV (lless a v) j = b.2 j - b.2 p * toV v j
                rw [toV_lless1 (hA a (by simp)) hv hl h1, hB.1]
          have := hm (r :: T) (x :: L) h.same h.row
          simpa using this
        · intro s hs
          rcases List.mem_cons.1 hs with rfl | hs
          · exact hv
          · obtain ⟨s', hs', rfl⟩ := List.mem_map.1 hs
            exact row_lless (h.row s' hs') hv
      · rw [if_neg (by rw [hf]; omega), if_neg hp]
        constructor
        · simp only [rows, List.map_cons]
          rw [List.cons.injEq]
          refine ⟨?_, g1⟩
          funext j
          rw [toV_lless1 hr hv hl h1, e]
        · intro s hs
          rcases List.mem_cons.1 hs with rfl | hs
          · exact row_lless hr hv
          · exact g2 s hs

/-- what one more row does. -/
theorem ladd1_is {n : Nat} {T : List (List Int)} {L : List (Nat × V)} {v : List Int} (h : Is n T L) (hv : Row n v) :
    (In (rows L) (toV v) ∧ ladd1 T v = T) ∨ (¬ In (rows L) (toV v) ∧ ∃ L', Is n (ladd1 T v) L' ∧ L'.length = L.length + 1 ∧ Same (rows L') (toV v :: rows L)) := by
  obtain ⟨hr, he⟩ := fold_is h hv
  rcases lead_or hr with hz | ⟨p, hp, hl⟩
  · left
    refine ⟨(in_iff_red h.tidy _).2 fun j => by rw [← he]; exact hz j, ?_⟩
    unfold ladd1
    rw [if_pos (by rw [first_none hr hz]; decide)]
  · right
    have hf := first_lead hr hl
    have hnot : ¬ In (rows L) (toV v) := fun k => by
      have := (in_iff_red h.tidy _).1 k p
      rw [← he] at this
      exact hl.1 this
    refine ⟨hnot, ?_⟩
    have ha : (T.foldl lless v).getD p 0 ≠ 0 := fun e => hl.1 (by unfold toV; rw [e]; rfl)
    have hinv := toF_inv (hr.get p) ha
    have hm : ∀ j, toV (lmul (T.foldl lless v) (Fld.inv ((T.foldl lless v).getD p 0))) j = toV (T.foldl lless v) j * toF (Fld.inv ((T.foldl lless v).getD p 0)) := toV_lmul hr _
    have hrow := row_lmul hr (Fld.inv ((T.foldl lless v).getD p 0))
    have h1 : toV (lmul (T.foldl lless v) (Fld.inv ((T.foldl lless v).getD p 0))) p = 1 := by rw [hm]; exact hinv
    have hlead : Lead (toV (lmul (T.foldl lless v) (Fld.inv ((T.foldl lless v).getD p 0)))) p := by
      refine ⟨by rw [h1]; decide, fun j hj => ?_⟩
      rw [hm, hl.2 j hj]; grind
    have hzero : ∀ x ∈ L, toV (lmul (T.foldl lless v) (Fld.inv ((T.foldl lless v).getD p 0))) x.1 = 0 := by
      intro x hx
      rw [hm, he, vred_zero h.tidy _ x hx]; grind
    obtain ⟨g1, g2⟩ := lins_is hrow hlead h1 h
    have e1 : ladd1 T v = lins p (lmul (T.foldl lless v) (Fld.inv ((T.foldl lless v).getD p 0))) T := by
      unfold ladd1
      rw [hf, if_neg (by omega), Int.toNat_natCast]
    rw [e1]
    refine ⟨_, ⟨vins_tidy h.tidy hlead h1 hzero, g1, g2⟩, vins_length, vins_same.trans ?_⟩
    -- the new row and the old ones make what v and the old ones make
    have hu : In (toV v :: rows L) (toV (T.foldl lless v)) := by
      have k1 : In (toV v :: rows L) (fun j => toV v j - vred L (toV v) j) := (vred_in (L := L) (toV v)).mono fun a ha => by simp [ha]
      have k2 : In (toV v :: rows L) (toV v) := In.mem (by simp)
      exact (k2.sub k1 1).eq fun j => by rw [he]; grind
    constructor
    · intro a ha
      rcases List.mem_cons.1 ha with rfl | ha
      · exact (hu.mul (toF (Fld.inv ((T.foldl lless v).getD p 0)))).eq fun j => by rw [hm]; grind
      · exact In.mem (by simp [ha])
    · intro b hb
      rcases List.mem_cons.1 hb with rfl | hb
      · have k1 := (vred_in (L := L) (toV v)).mono (B := toV (lmul (T.foldl lless v) (Fld.inv ((T.foldl lless v).getD p 0))) :: rows L) fun a ha => by simp [ha]
        have k2 : In (toV (lmul (T.foldl lless v) (Fld.inv ((T.foldl lless v).getD p 0))) :: rows L) (toV (lmul (T.foldl lless v) (Fld.inv ((T.foldl lless v).getD p 0)))) := In.mem (by simp)
        refine (k1.add (k2.mul (toF ((T.foldl lless v).getD p 0)))).eq fun j => ?_
        rw [hm, ← he]
        grind
      · exact In.mem (by simp [hb])

/-- rows put in one behind the other. -/
theorem fold_tidy {n : Nat} {m : List (List Int)} : ∀ {T : List (List Int)} {L : List (Nat × V)}, Is n T L → (∀ r ∈ m, Row n r) → ∃ L', Is n (m.foldl ladd1 T) L' ∧ Same (rows L') (rows L ++ m.map toV) := by
  induction m with
  | nil => intro T L h _; exact ⟨L, h, by simp; exact Same.refl _⟩
  | cons v m ih =>
    intro T L h hm
    have hv := hm v (by simp)
    have hm' : ∀ r ∈ m, Row n r := fun r hr => hm r (by simp [hr])
    rcases ladd1_is h hv with ⟨hin, he⟩ | ⟨_, L1, h1, _, hs⟩
    · obtain ⟨L', h', s'⟩ := ih h hm'
      refine ⟨L', by rw [List.foldl_cons, he]; exact h', s'.trans ⟨fun a ha => In.mem (by simp at ha ⊢; rcases ha with h | h <;> simp [h]), fun b hb => ?_⟩⟩
      simp only [List.map_cons, List.mem_append, List.mem_cons] at hb
      rcases hb with hb | rfl | hb
      · exact In.mem (by simp [hb])
      · exact hin.mono fun a ha => by simp [ha]
      · exact In.mem (List.mem_append.2 (.inr hb))
    · obtain ⟨L', h', s'⟩ := ih h1 hm'
      refine ⟨L', by rw [List.foldl_cons]; exact h', s'.trans ⟨fun a ha => ?_, fun b hb => ?_⟩⟩
      · rcases List.mem_append.1 ha with ha | ha
        · exact (hs.1 a ha).mono fun c hc => by
            rcases List.mem_cons.1 hc with rfl | hc
            · simp
            · simp [hc]
        · exact In.mem (List.mem_append.2 (.inr (by simp only [List.map_cons]; exact List.mem_cons_of_mem _ ha)))
      · simp only [List.map_cons, List.mem_append, List.mem_cons] at hb
        rcases hb with hb | rfl | hb
        · exact (hs.2 b (by simp [hb])).mono fun c hc => by simp [hc]
        · exact (hs.2 (toV v) (by simp)).mono fun c hc => by simp [hc]
        · exact In.mem (List.mem_append.2 (.inr hb))
theorem ltidy_is {n : Nat} {m : List (List Int)} (hm : ∀ r ∈ m, Row n r) : ∃ L, Is n (ltidy m) L ∧ Same (rows L) (m.map toV) := by
  obtain ⟨L, h, s⟩ := fold_tidy (Is.nil n) hm
  exact ⟨L, h, by simpa [rows] using s⟩

theorem map_inj {n : Nat} : ∀ {T U : List (List Int)}, (∀ r ∈ T, Row n r) → (∀ r ∈ U, Row n r) → T.map toV = U.map toV → T = U := by
  intro T
  induction T with
  | nil =>
    intro U _ _ h
    have e0 : U = [] := by simpa using h.symm
    exact e0.symm
  | cons r T ih =>
    intro U hT hU h
    match U, h with
    | s :: U, h =>
      simp only [List.map_cons, List.cons.injEq] at h
      rw [toV_inj (hT r (by simp)) (hU s (by simp)) h.1, ih (fun x hx => hT x (by simp [hx])) (fun x hx => hU x (by simp [hx])) h.2]
/-- ONE WAY: tidy rows are told by what is made of them. -/
theorem is_one {n : Nat} {T U : List (List Int)} {L M : List (Nat × V)} (h : Is n T L) (k : Is n U M) (s : Same (rows L) (rows M)) : T = U := by
  have e := tidy_one h.tidy k.tidy s
  subst e
  exact map_inj h.row k.row (h.same.trans k.same.symm)
theorem ltidy_one {n : Nat} {m T : List (List Int)} {L : List (Nat × V)} (hm : ∀ r ∈ m, Row n r) (h : Is n T L) (s : Same (rows L) (m.map toV)) : T = ltidy m := by
  obtain ⟨M, k, s'⟩ := ltidy_is hm
  exact is_one h k (s.trans s'.symm)

/-- 'v is made of the rows m'. -/
def Made (m : List (List Int)) (v : List Int) : Prop := In (m.map toV) (toV v)
theorem made_iff {n : Nat} {m : List (List Int)} {v : List Int} (hm : ∀ r ∈ m, Row n r) (hv : Row n v) : Made m v ↔ (ladd1 (ltidy m) v).length = (ltidy m).length := by
  obtain ⟨L, h, s⟩ := ltidy_is hm
  have hs : Made m v ↔ In (rows L) (toV v) := (s.iff (toV v)).symm
  rw [hs]
  rcases ladd1_is h hv with ⟨hin, he⟩ | ⟨hno, L', h', hlen, _⟩
  · simp [hin, he]
  · have h1 := h.length
    have h2 := h'.length
    constructor
    · intro k; exact absurd k hno
    · intro k; omega
theorem ltidy_same {n : Nat} {a b : List (List Int)} (ha : ∀ r ∈ a, Row n r) (hb : ∀ r ∈ b, Row n r) : ltidy a = ltidy b ↔ Same (a.map toV) (b.map toV) := by
  obtain ⟨L, h, s⟩ := ltidy_is ha
  obtain ⟨M, k, t⟩ := ltidy_is hb
  constructor
  · intro e
    have hs : rows L = rows M := by rw [← h.same, ← k.same, e]
    rw [hs] at s
    exact s.symm.trans t
  · intro e
    exact is_one h k (s.trans (e.trans t.symm))
end Go.Proofs.Ytbpkfcaokbidnab.Sp
