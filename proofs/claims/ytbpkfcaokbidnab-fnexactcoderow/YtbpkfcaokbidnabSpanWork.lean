/-
  The program's elimination, plainly: lines of twelve numbers (a row, and how often each row of the matrix has gone into it), one at most a column; what it leaves are the tidy rows, the first rows, and the numbers of a sum.
  Conditions: none.
-/
import Derived.Test.YtbpkfcaokbidnabSpanMore
import Derived.Test.YtbpkfcaokbidnabSpanBy
namespace Go.Proofs.Ytbpkfcaokbidnab.Sp
set_option linter.unusedVariables false

/-- whether a row is made of rows. -/
def has (m : List (List Int)) (v : List Int) : Bool := decide ((ladd1 (ltidy m) v).length = (ltidy m).length)
theorem has_iff {n : Nat} {m : List (List Int)} {v : List Int} (hm : ∀ r ∈ m, Row n r) (hv : Row n v) : has m v = true ↔ Made m v := by
  unfold has; rw [decide_eq_true_iff]; exact (made_iff hm hv).symm

theorem first_neg {n : Nat} {l : List Int} (h : Row n l) : Vec.first l 0 < 0 ↔ ∀ j, toV l j = 0 := by
  rcases lead_or h with hz | ⟨p, _, hl⟩
  · rw [first_none h hz]; exact ⟨fun _ => hz, fun _ => by omega⟩
  · rw [first_lead h hl]; exact ⟨fun k => by omega, fun k => absurd (k p) hl.1⟩

/-- x is v and the rows A, each as often as x's tail tells; the tail is 0 where b is false. -/
structure Off (A : List V) (b : Nat → Bool) (v x : V) : Prop where
  rel : ∀ c, c < 4 → x c = v c + comb (fun i => x (4 + i)) A c
  zero : ∀ i, b i = false → x (4 + i) = 0
theorem Off.sub {A : List V} {b : Nat → Bool} {v x y : V} (h : Off A b v x) (k : Off A b (fun _ => 0) y) (a : F) : Off A b v (fun j => x j - a * y j) := by
  refine ⟨fun c hc => ?_, fun i hi => ?_⟩
  · have e : (fun i => x (4 + i) - a * y (4 + i)) = fun i => x (4 + i) + (-a) * y (4 + i) := by funext i; grind
    show x c - a * y c = v c + comb (fun i => x (4 + i) - a * y (4 + i)) A c
    rw [e, comb_add, comb_mul, h.rel c hc, k.rel c hc]; grind
  · show x (4 + i) - a * y (4 + i) = 0
    rw [h.zero i hi, k.zero i hi]; grind
theorem Off.mul {A : List V} {b : Nat → Bool} {y : V} (k : Off A b (fun _ => 0) y) (a : F) : Off A b (fun _ => 0) (fun j => a * y j) := by
  refine ⟨fun c hc => ?_, fun i hi => ?_⟩
  · show a * y c = 0 + comb (fun i => a * y (4 + i)) A c
    rw [comb_mul, k.rel c hc]; grind
  · show a * y (4 + i) = 0
    rw [k.zero i hi]; grind
theorem Off.mono {A : List V} {b b' : Nat → Bool} {v x : V} (h : Off A b v x) (hb : ∀ i, b' i = false → b i = false) : Off A b' v x := ⟨h.rel, fun i hi => h.zero i (hb i hi)⟩
theorem Off.eq {A : List V} {b : Nat → Bool} {v x y : V} (h : Off A b v x) (e : y = x) : Off A b v y := e ▸ h
theorem Off.vred {A : List V} {b : Nat → Bool} {v : V} {L : List (Nat × V)} : (∀ x ∈ L, Off A b (fun _ => 0) x.2) → ∀ {u : V}, Off A b v u → Off A b v (vred L u) := by
  induction L with
  | nil => intro _ u h; exact h
  | cons x L ih =>
    intro hL u h
    rw [vred_cons]
    exact ih (fun y hy => hL y (by simp [hy])) (h.sub (hL x (by simp)) (u x.1))

/-- a line is cleared in a column by the line of that column. -/
def lclear (p : Nat) (a b : List Int) : List Int := ladd a (lmul b (-(a.getD p 0) % 31))
theorem row_lclear {n p : Nat} {a b : List Int} (ha : Row n a) (hb : Row n b) : Row n (lclear p a b) := row_ladd ha (row_lmul hb _)
theorem toF_neg' (x : Int) : toF (-x % 31) = - toF x := by
  have h : toF (-x % 31) + toF x = 0 := by
    rw [← toF_add, ← toF_zero]
    exact toF_eq (by omega)
  grind
theorem toV_lclear {n p : Nat} {a b : List Int} (ha : Row n a) (hb : Row n b) : toV (lclear p a b) = fun j => toV a j - toV a p * toV b j := by
  funext j
  unfold lclear
  rw [toV_ladd ha (row_lmul hb _), toV_lmul hb, toF_neg']
  show toV a j + toV b j * -(toV a p) = _
  grind

/-- one line at most a column. -/
abbrev Cols := Nat → Option (List Int)
def colT (S : Cols) : List (List Int) := (List.range 4).filterMap S
def colL (S : Cols) : List (Nat × V) := (List.range 4).filterMap fun j => (S j).map fun l => (j, toV l)
def cut (S : Cols) (a : List Int) (j : Nat) : List Int := match S j with
  | none => a
  | some l => lclear j a l
def red (S : Cols) (k : Nat) (a : List Int) : List Int := (List.range k).foldl (cut S) a
theorem red_zero (S : Cols) (a : List Int) : red S 0 a = a := rfl
theorem red_none {S : Cols} {k : Nat} (h : S k = none) (a : List Int) : red S (k + 1) a = red S k a := by
  unfold red; rw [List.range_succ, List.foldl_append]; simp [cut, h]
theorem red_some {S : Cols} {k : Nat} {l : List Int} (h : S k = some l) (a : List Int) : red S (k + 1) a = lclear k (red S k a) l := by
  unfold red; rw [List.range_succ, List.foldl_append]; simp [cut, h]
theorem fold_cut {S : Cols} (hS : ∀ j l, S j = some l → Row 12 l) : ∀ (js : List Nat) {a : List Int}, Row 12 a →
    Row 12 (js.foldl (cut S) a) ∧ toV (js.foldl (cut S) a) = vred (js.filterMap fun j => (S j).map fun l => (j, toV l)) (toV a) := by
  intro js
  induction js with
  | nil => intro a ha; exact ⟨ha, rfl⟩
  | cons j js ih =>
    intro a ha
    rw [List.foldl_cons]
    cases hj : S j with
    | none =>
      have e : cut S a j = a := by simp [cut, hj]
      rw [e, List.filterMap_cons_none (by simp [hj])]
      exact ih ha
    | some l =>
      have e : cut S a j = lclear j a l := by simp [cut, hj]
      rw [e, List.filterMap_cons_some (b := (j, toV l)) (by simp [hj]), vred_cons]
      obtain ⟨h1, h2⟩ := ih (row_lclear (p := j) ha (hS j l hj))
      exact ⟨h1, by rw [h2, toV_lclear ha (hS j l hj)]⟩
theorem red_is {S : Cols} (hS : ∀ j l, S j = some l → Row 12 l) {a : List Int} (ha : Row 12 a) : Row 12 (red S 4 a) ∧ toV (red S 4 a) = vred (colL S) (toV a) := fold_cut hS _ ha
theorem red_row {S : Cols} (hS : ∀ j l, S j = some l → Row 12 l) {a : List Int} (ha : Row 12 a) (k : Nat) : Row 12 (red S k a) := (fold_cut hS _ ha).1
theorem mem_colL {S : Cols} {x : Nat × V} : x ∈ colL S ↔ ∃ j l, j < 4 ∧ S j = some l ∧ x = (j, toV l) := by
  unfold colL
  rw [List.mem_filterMap]
  constructor
  · rintro ⟨j, hj, h⟩
    cases hs : S j with
    | none => rw [hs] at h; cases h
    | some l =>
      rw [hs] at h
      injection h with h
      exact ⟨j, l, List.mem_range.1 hj, hs, h.symm⟩
  · rintro ⟨j, l, hj, hs, rfl⟩
    exact ⟨j, List.mem_range.2 hj, by rw [hs]; rfl⟩

/-- a new line v stands at column p, all others are cleared there. -/
def insS (S : Cols) (p : Nat) (v : List Int) : Cols := fun j => if j = p then some v else (S j).map fun l => lclear p l v
theorem insS_L {S : Cols} {p : Nat} {v : List Int} (hS : ∀ j l, S j = some l → Row 12 l) (hv : Row 12 v) (hp : p < 4) (h0 : S p = none) : colL (insS S p v) = vins p (toV v) (colL S) := by
  have key : ∀ j l, S j = some l → toV (lclear p l v) = fun i => toV l i - toV l p * toV v i := fun j l h => toV_lclear (hS j l h) hv
  have r4 : List.range 4 = [0, 1, 2, 3] := rfl
  unfold colL insS
  rw [r4]
  have hp' : p = 0 ∨ p = 1 ∨ p = 2 ∨ p = 3 := by omega
  rcases hp' with rfl | rfl | rfl | rfl
  · cases h1 : S 1 <;> cases h2 : S 2 <;> cases h3 : S 3 <;> (try have k1 := key 1 _ h1) <;> (try have k2 := key 2 _ h2) <;> (try have k3 := key 3 _ h3) <;> clear key hS <;> simp_all [vins]
  · cases h1 : S 0 <;> cases h2 : S 2 <;> cases h3 : S 3 <;> (try have k1 := key 0 _ h1) <;> (try have k2 := key 2 _ h2) <;> (try have k3 := key 3 _ h3) <;> clear key hS <;> simp_all [vins]
  · cases h1 : S 0 <;> cases h2 : S 1 <;> cases h3 : S 3 <;> (try have k1 := key 0 _ h1) <;> (try have k2 := key 1 _ h2) <;> (try have k3 := key 3 _ h3) <;> clear key hS <;> simp_all [vins]
  · cases h1 : S 0 <;> cases h2 : S 1 <;> cases h3 : S 2 <;> (try have k1 := key 0 _ h1) <;> (try have k2 := key 1 _ h2) <;> (try have k3 := key 2 _ h3) <;> clear key hS <;> simp_all [vins]

theorem left_sub (u v : V) (a : F) : left (fun j => u j - a * v j) = fun j => left u j - a * left v j := by
  funext j; unfold left; split
  · rfl
  · grind
theorem left_vred {L : List (Nat × V)} : (∀ x ∈ L, x.1 < 4) → ∀ u, left (vred L u) = vred (L.map fun x => (x.1, left x.2)) (left u) := by
  induction L with
  | nil => intro _ u; rfl
  | cons x L ih =>
    intro h u
    rw [vred_cons, ih (fun y hy => h y (by simp [hy])), List.map_cons, vred_cons, left_sub, left_lt u (h x (by simp))]
theorem left_tidy {L : List (Nat × V)} (h : Tidy L) (hc : ∀ x ∈ L, x.1 < 4) : Tidy (L.map fun x => (x.1, left x.2)) := by
  refine ⟨?_, ?_, ?_, ?_⟩
  · rw [List.pairwise_map]; exact h.up
  · intro x hx
    obtain ⟨y, hy, rfl⟩ := List.mem_map.1 hx
    show left y.2 y.1 = 1
    rw [left_lt _ (hc y hy)]; exact h.one y hy
  · intro x hx j hj
    obtain ⟨y, hy, rfl⟩ := List.mem_map.1 hx
    have hj' : j < y.1 := hj
    show left y.2 j = 0
    rw [left_lt _ (by have := hc y hy; omega)]; exact h.ahead y hy j hj'
  · intro x hx z hz hne
    obtain ⟨y, hy, rfl⟩ := List.mem_map.1 hx
    obtain ⟨t, ht, rfl⟩ := List.mem_map.1 hz
    show left t.2 y.1 = 0
    rw [left_lt _ (hc y hy)]; exact h.others y hy t ht hne
theorem left_toV {l : List Int} (h : Row 12 l) : toV (l.take 4) = left (toV l) := by
  funext j
  unfold left toV
  split
  · rename_i hj
    rw [List.getD_eq_getElem?_getD, List.getElem?_take, if_pos hj, ← List.getD_eq_getElem?_getD]
  · rename_i hj
    rw [List.getD_eq_getElem?_getD, List.getElem?_take, if_neg hj]; rfl
theorem left_row {l : List Int} (h : Row 4 l) : left (toV l) = toV l := by
  funext j
  unfold left
  split
  · rfl
  · rename_i hj; exact (toV_out h (by omega)).symm
theorem row_take {l : List Int} (h : Row 12 l) : Row 4 (l.take 4) := ⟨by rw [List.length_take, h.1]; rfl, fun x hx => h.2 x (List.mem_of_mem_take hx)⟩
theorem row_join {a b : List Int} {k n : Nat} (ha : Row k a) (hb : Row n b) : Row (k + n) (a ++ b) := ⟨by rw [List.length_append, ha.1, hb.1], fun x hx => by
  rcases List.mem_append.1 hx with h | h
  · exact ha.2 x h
  · exact hb.2 x h⟩
theorem toV_left {a b : List Int} (ha : Row 4 a) {j : Nat} (hj : j < 4) : toV (a ++ b) j = toV a j := by
  unfold toV
  rw [List.getD_eq_getElem?_getD, List.getElem?_append_left (by rw [ha.1]; exact hj), ← List.getD_eq_getElem?_getD]
theorem toV_right {a b : List Int} (ha : Row 4 a) (i : Nat) : toV (a ++ b) (4 + i) = toV b i := by
  unfold toV
  rw [List.getD_eq_getElem?_getD, List.getElem?_append_right (by rw [ha.1]; omega), ha.1, show 4 + i - 4 = i by omega, ← List.getD_eq_getElem?_getD]
def none8 : List Int := List.replicate 8 0
theorem row_none8 : Row 8 none8 := ⟨by simp [none8], fun x hx => by rw [List.eq_of_mem_replicate hx]; rfl⟩
theorem row_one8 (n : Nat) : Row 8 (none8.set n 1) := ⟨by simp [none8], fun x hx => by
  rcases List.mem_or_eq_of_mem_set hx with h | rfl
  · exact row_none8.2 x h
  · rfl⟩
theorem toV_none8 (i : Nat) : toV none8 i = 0 := by
  unfold toV none8
  rw [List.getD_eq_getElem?_getD, List.getElem?_replicate]
  split <;> rfl
theorem toV_one8 {n : Nat} (hn : n < 8) (i : Nat) : toV (none8.set n 1) i = one n i := by
  unfold one
  by_cases h : i = n
  · subst h
    unfold toV
    rw [List.getD_eq_getElem?_getD, List.getElem?_set_self (by simp [none8]; exact hn), if_pos rfl]; rfl
  · rw [if_neg h, ← toV_none8 i]
    unfold toV
    rw [List.getD_eq_getElem?_getD, List.getElem?_set_ne (fun e => h e.symm), ← List.getD_eq_getElem?_getD]

/-- where the elimination of m stands behind n rows. -/
structure Stand (m : List (List Int)) (n : Nat) (S : Cols) (ps : List Nat) : Prop where
  row : ∀ j l, S j = some l → Row 12 l
  tidy : Tidy (colL S)
  off : ∀ j l, j < 4 → S j = some l → Off (m.map toV) (fun i => decide (i ∈ ps)) (fun _ => 0) (toV l)
  same : Same ((rows (colL S)).map left) ((m.take n).map toV)
  first : ps = firsts has (m.take n)

theorem Stand.col {m : List (List Int)} {n : Nat} {S : Cols} {ps : List Nat} (h : Stand m n S ps) : ∀ x ∈ colL S, x.1 < 4 := by
  intro x hx
  obtain ⟨j, l, hj, _, rfl⟩ := mem_colL.1 hx
  exact hj
theorem Stand.offL {m : List (List Int)} {n : Nat} {S : Cols} {ps : List Nat} (h : Stand m n S ps) : ∀ x ∈ colL S, Off (m.map toV) (fun i => decide (i ∈ ps)) (fun _ => 0) x.2 := by
  intro x hx
  obtain ⟨j, l, hj, hs, rfl⟩ := mem_colL.1 hx
  exact h.off j l hj hs
theorem rows_left (L : List (Nat × V)) : rows (L.map fun x => (x.1, left x.2)) = (rows L).map left := by simp [rows, Function.comp_def]
/-- a row is made of the rows that went in, if nothing of it is left. -/
theorem Stand.made {m : List (List Int)} {n : Nat} {S : Cols} {ps : List Nat} (h : Stand m n S ps) {u v : List Int} (hu : Row 12 u) (hv : Row 4 v) (e : left (toV u) = toV v) : Made (m.take n) v ↔ ∀ j, left (toV (red S 4 u)) j = 0 := by
  have h1 := in_iff_red (left_tidy h.tidy h.col) (toV v)
  rw [rows_left] at h1
  unfold Made
  rw [← h.same.iff, h1, (red_is h.row hu).2, left_vred h.col, e]
theorem Stand.start (m : List (List Int)) : Stand m 0 (fun _ => none) [] := by
  refine ⟨fun j l h => (by cases h), ?_, fun j l _ h => (by cases h), ?_, ?_⟩
  · have e : colL (fun _ => none) = [] := by simp [colL]
    rw [e]; exact Tidy.nil
  · have e : colL (fun _ => none) = [] := by simp [colL]
    rw [e]; exact Same.refl _
  · rfl
theorem take_more (m : List (List Int)) {n : Nat} (hn : n < m.length) : m.take (n + 1) = m.take n ++ [m.getD n []] := by
  rw [List.take_succ_eq_append_getElem hn]; simp [List.getD_eq_getElem?_getD, hn]
theorem take_len (m : List (List Int)) {n : Nat} (hn : n < m.length) : (m.take n).length = n := by rw [List.length_take]; omega
/-- the new line. -/
def fresh (m : List (List Int)) (n : Nat) : List Int := m.getD n [] ++ none8.set n 1
theorem fresh_row {m : List (List Int)} (hm : ∀ r ∈ m, Row 4 r) {n : Nat} (hn : n < m.length) : Row 4 (m.getD n []) := by
  rw [List.getD_eq_getElem?_getD, List.getElem?_eq_getElem hn]; exact hm _ (List.getElem_mem hn)
theorem fresh_off {m : List (List Int)} (hm : ∀ r ∈ m, Row 4 r) {n : Nat} (hn : n < m.length) (h8 : m.length ≤ 8) (ps : List Nat) :
    Row 12 (fresh m n) ∧ left (toV (fresh m n)) = toV (m.getD n []) ∧ Off (m.map toV) (fun i => decide (i ∈ ps ++ [n])) (fun _ => 0) (toV (fresh m n)) := by
  have hr := fresh_row hm hn
  refine ⟨row_join hr (row_one8 n), ?_, ?_, ?_⟩
  · funext j
    unfold left
    split
    · rename_i hj; exact toV_left hr hj
    · rename_i hj; exact (toV_out hr (by omega)).symm
  · intro c hc
    have e : (fun i => toV (fresh m n) (4 + i)) = one n := by
      funext i
      exact (toV_right hr i).trans (toV_one8 (by omega) i)
    rw [e, comb_one _ n (by simpa using hn)]
    have : toV (fresh m n) c = toV (m.getD n []) c := toV_left hr hc
    rw [this]
    simp [List.getD_eq_getElem?_getD, hn]
  · intro i hi
    have hne : i ≠ n := by rintro rfl; simp at hi
    have : toV (fresh m n) (4 + i) = toV (none8.set n 1) i := toV_right hr i
    rw [this, toV_one8 (by omega)]
    simp [one, hne]
theorem first4 {l : List Int} (h : Row 12 l) : Vec.first (l.take 4) 0 < 0 ↔ ∀ j, left (toV l) j = 0 := by
  rw [first_neg (row_take h), left_toV h]
/-- nothing is left of the row. -/
theorem Stand.skip {m : List (List Int)} {n : Nat} {S : Cols} {ps : List Nat} (h : Stand m n S ps) (hm : ∀ r ∈ m, Row 4 r) (hn : n < m.length) (h8 : m.length ≤ 8)
    (hz : Vec.first ((red S 4 (fresh m n)).take 4) 0 < 0) : Stand m (n + 1) S ps := by
  obtain ⟨h1, h2, h3⟩ := fresh_off hm hn h8 ps
  have hr := fresh_row hm hn
  have hmade := (h.made h1 hr h2).2 ((first4 (red_is h.row h1).1).1 hz)
  have hmt : ∀ r ∈ m.take n, Row 4 r := fun r k => hm r (List.mem_of_mem_take k)
  refine ⟨h.row, h.tidy, h.off, ?_, ?_⟩
  · rw [take_more m hn, List.map_append]
    refine h.same.trans ⟨fun a ha => In.mem (by simp only [List.mem_append]; exact .inl ha), fun b hb => ?_⟩
    rcases List.mem_append.1 hb with hb | hb
    · exact In.mem hb
    · simp at hb; subst hb; exact hmade
  · rw [take_more m hn, firsts_snoc, (has_iff hmt hr).2 hmade]
    simpa using h.first
/-- something is left of the row: it stands at its column from now on. -/
theorem Stand.more {m : List (List Int)} {n : Nat} {S : Cols} {ps : List Nat} (h : Stand m n S ps) (hm : ∀ r ∈ m, Row 4 r) (hn : n < m.length) (h8 : m.length ≤ 8) {p : Nat}
    (hp : Vec.first ((red S 4 (fresh m n)).take 4) 0 = p) :
    p < 4 ∧ S p = none ∧ (red S 4 (fresh m n)).getD p 0 ≠ 0 ∧ Stand m (n + 1) (insS S p (lmul (red S 4 (fresh m n)) (Fld.inv ((red S 4 (fresh m n)).getD p 0)))) (ps ++ [n]) := by
  obtain ⟨h1, h2, h3⟩ := fresh_off hm hn h8 ps
  have hr := fresh_row hm hn
  have hmt : ∀ r ∈ m.take n, Row 4 r := fun r k => hm r (List.mem_of_mem_take k)
  have hred := red_is h.row h1
  obtain ⟨a, ha⟩ : ∃ a, red S 4 (fresh m n) = a := ⟨_, rfl⟩
  have hmade := h.made h1 hr h2
  rw [ha] at hp hred hmade ⊢
  have hlead : p < 4 ∧ Lead (toV (a.take 4)) p := by
    rcases lead_or (row_take hred.1) with hz | ⟨q, hq, hl⟩
    · rw [first_none (row_take hred.1) hz] at hp; omega
    · rw [first_lead (row_take hred.1) hl] at hp
      have : q = p := by omega
      subst this; exact ⟨hq, hl⟩
  obtain ⟨hp4, hl⟩ := hlead
  rw [left_toV hred.1] at hl
  have hla : Lead (toV a) p := ⟨by rw [← left_lt (toV a) hp4]; exact hl.1, fun j hj => by rw [← left_lt (toV a) (by omega)]; exact hl.2 j hj⟩
  have hne : a.getD p 0 ≠ 0 := fun e => hla.1 (by unfold toV; rw [e]; rfl)
  have hzero : ∀ x ∈ colL S, toV a x.1 = 0 := by rw [hred.2]; exact vred_zero h.tidy _
  have hsp : S p = none := by
    cases hs : S p with
    | none => rfl
    | some l => exact absurd (hzero (p, toV l) (mem_colL.2 ⟨p, l, hp4, hs, rfl⟩)) hla.1
  have hnot : ¬ Made (m.take n) (m.getD n []) := fun k => hl.1 (hmade.1 k p)
  obtain ⟨v, hv⟩ : ∃ v, lmul a (Fld.inv (a.getD p 0)) = v := ⟨_, rfl⟩
  have hvr : Row 12 v := hv ▸ row_lmul hred.1 _
  have hinv := toF_inv (hred.1.get p) hne
  have hvj : ∀ j, toV v j = toF (Fld.inv (a.getD p 0)) * toV a j := fun j => by rw [← hv, toV_lmul hred.1]; grind
  have hv1 : toV v p = 1 := by rw [hvj]; show _ * toF (a.getD p 0) = 1; grind
  have hvl : Lead (toV v) p := ⟨by rw [hv1]; decide, fun j hj => by rw [hvj, hla.2 j hj]; grind⟩
  have hvz : ∀ x ∈ colL S, toV v x.1 = 0 := fun x hx => by rw [hvj, hzero x hx]; grind
  rw [hv]
  refine ⟨hp4, hsp, hne, ?_, ?_, ?_, ?_, ?_⟩
  · intro j l hj
    unfold insS at hj
    split at hj
    · injection hj with e; subst e; exact hvr
    · cases hs : S j with
      | none => rw [hs] at hj; cases hj
      | some l' => rw [hs] at hj; injection hj with e; subst e; exact row_lclear (h.row j l' hs) hvr
  · rw [insS_L h.row hvr hp4 hsp]; exact vins_tidy h.tidy hvl hv1 hvz
  · have hw : ∀ x ∈ colL S, Off (m.map toV) (fun i => decide (i ∈ ps ++ [n])) (fun _ => 0) x.2 := fun x hx => (h.offL x hx).mono fun i hi => by simp at hi ⊢; exact hi.1
    have hvo : Off (m.map toV) (fun i => decide (i ∈ ps ++ [n])) (fun _ => 0) (toV v) := by
      have := (Off.vred hw h3).mul (toF (Fld.inv (a.getD p 0)))
      rw [← hred.2] at this
      exact this.eq (funext hvj)
    intro j l hj hs
    unfold insS at hs
    split at hs
    · injection hs with e; subst e; exact hvo
    · cases hs' : S j with
      | none => rw [hs'] at hs; cases hs
      | some l' =>
        rw [hs'] at hs; injection hs with e; subst e
        rw [toV_lclear (h.row j l' hs') hvr]
        exact (hw (j, toV l') (mem_colL.2 ⟨j, l', hj, hs', rfl⟩)).sub hvo _
  · rw [insS_L h.row hvr hp4 hsp, take_more m hn, List.map_append]
    have s1 : Same ((rows (vins p (toV v) (colL S))).map left) (left (toV v) :: (rows (colL S)).map left) := by
      have := vins_same (p := p) (v := toV v) (L := colL S)
      have inl : ∀ {A : List V} {u : V}, In A u → In (A.map left) (left u) := by
        rintro A u ⟨c, hc⟩
        refine ⟨c, fun j => ?_⟩
        rw [comb_left]; unfold left; split
        · exact hc j
        · rfl
      refine ⟨fun x hx => ?_, fun x hx => ?_⟩
      · obtain ⟨y, hy, rfl⟩ := List.mem_map.1 hx
        simpa using inl (this.1 y hy)
      · rcases List.mem_cons.1 hx with rfl | hx
        · exact inl (this.2 _ (by simp))
        · obtain ⟨y, hy, rfl⟩ := List.mem_map.1 hx
          exact inl (this.2 y (by simp [hy]))
    have hin : In ((rows (colL S)).map left) (fun j => toV (m.getD n []) j - left (toV a) j) := by
      have := vred_in (L := (colL S).map fun x => (x.1, left x.2)) (toV (m.getD n []))
      rw [rows_left] at this
      refine this.eq fun j => ?_
      rw [hred.2, left_vred h.col, h2]
    have hva : left (toV v) = fun j => toF (Fld.inv (a.getD p 0)) * left (toV a) j := by
      funext j; unfold left; split
      · exact hvj j
      · grind
    refine s1.trans (Same.trans (B := toV (m.getD n []) :: (rows (colL S)).map left) ⟨fun x hx => ?_, fun x hx => ?_⟩ ⟨fun x hx => ?_, fun x hx => ?_⟩)
    · rcases List.mem_cons.1 hx with rfl | hx
      · have i1 : In (toV (m.getD n []) :: (rows (colL S)).map left) (left (toV a)) :=
          ((In.mem (a := toV (m.getD n [])) List.mem_cons_self).sub (hin.mono fun y hy => List.mem_cons_of_mem _ hy) 1).eq fun j => by grind
        exact (i1.mul _).eq fun j => by rw [hva]
      · exact In.mem (by simp [hx])
    · rcases List.mem_cons.1 hx with rfl | hx
      · have i1 : In (left (toV v) :: (rows (colL S)).map left) (left (toV a)) := ((In.mem (a := left (toV v)) (by simp)).mul (toF (a.getD p 0))).eq fun j => by rw [hva]; grind
        exact (i1.add (hin.mono fun y hy => by simp [hy])).eq fun j => by grind
      · exact In.mem (by simp [hx])
    · rcases List.mem_cons.1 hx with rfl | hx
      · exact In.mem (by simp)
      · exact (h.same.1 x hx).mono fun y hy => by simp only [List.mem_append]; exact .inl hy
    · rcases List.mem_append.1 hx with hx | hx
      · exact (h.same.2 x hx).mono fun y hy => by simp [hy]
      · simp at hx; subst hx; exact In.mem (by simp)
  · have hf : has (m.take n) (m.getD n []) = false := by
      cases hb : has (m.take n) (m.getD n []) with
      | false => rfl
      | true => exact absurd ((has_iff hmt hr).1 hb) hnot
    rw [take_more m hn, firsts_snoc, hf, take_len m hn, ← h.first]
    rfl

/-- what is left at the end: the tidy rows. -/
theorem Stand.tidied {m : List (List Int)} {S : Cols} {ps : List Nat} (h : Stand m m.length S ps) (hm : ∀ r ∈ m, Row 4 r) : (colT S).map (List.take 4) = ltidy m := by
  have hs := h.same
  rw [List.take_length, ← rows_left] at hs
  refine ltidy_one (L := (colL S).map fun x => (x.1, left x.2)) hm ⟨left_tidy h.tidy h.col, ?_, ?_⟩ hs
  · rw [rows_left]
    unfold colT colL rows
    rw [List.map_map, List.map_map, List.map_filterMap, List.map_filterMap]
    refine congrArg (fun f => (List.range 4).filterMap f) (funext fun j => ?_)
    cases hs : S j with
    | none => rfl
    | some l => simp [left_toV (h.row j l hs)]
  · intro r hr
    obtain ⟨l, hl, rfl⟩ := List.mem_map.1 hr
    unfold colT at hl
    obtain ⟨j, _, hj⟩ := List.mem_filterMap.1 hl
    exact row_take (h.row j l hj)

/-- numbers that make v of the rows m, 0 at all but the first rows. -/
structure IsBy (m : List (List Int)) (v c : List Int) : Prop where
  row : Row m.length c
  zero : ∀ i, i < m.length → i ∉ firsts has m → c.getD i 0 = 0
  sum : ∀ j, toV v j = comb (toV c) (m.map toV) j
theorem first_not {m : List (List Int)} (hm : ∀ r ∈ m, Row 4 r) {i : Nat} (hi : i ∈ firsts has m) : i < m.length ∧ ¬ Made (m.take i) (m.getD i []) := by
  unfold firsts at hi
  rw [List.mem_filter] at hi
  have hl := List.mem_range.1 hi.1
  refine ⟨hl, fun k => ?_⟩
  have := (has_iff (fun r hr => hm r (List.mem_of_mem_take hr)) (fresh_row hm hl)).2 k
  rw [this] at hi
  simp at hi
theorem IsBy.one {m : List (List Int)} {v c d : List Int} (hm : ∀ r ∈ m, Row 4 r) (h : IsBy m v c) (k : IsBy m v d) : c = d := by
  have key := comb_way (A := m.map toV) (b := fun i => decide (i ∈ firsts has m)) (fun i hi hb => by
    have := first_not hm (of_decide_eq_true hb)
    rw [← List.map_take]
    have e : (m.map toV)[i] = toV (m.getD i []) := by simp [List.getD_eq_getElem?_getD, this.1]
    rw [e]; exact this.2) (c := toV c) (d := toV d)
    (fun i hi hb => by unfold toV; rw [h.zero i (by simpa using hi) (of_decide_eq_false hb)]; rfl)
    (fun i hi hb => by unfold toV; rw [k.zero i (by simpa using hi) (of_decide_eq_false hb)]; rfl)
    (fun j => by rw [← h.sum, ← k.sum])
  refine toV_inj h.row k.row (funext fun j => ?_)
  by_cases hj : j < m.length
  · exact key j (by simpa using hj)
  · rw [toV_out h.row (by omega), toV_out k.row (by omega)]
theorem IsBy.made {m : List (List Int)} {v c : List Int} (h : IsBy m v c) : Made m v := ⟨_, h.sum⟩
/-- a row that is looked for. -/
theorem Stand.by {m : List (List Int)} {S : Cols} {ps : List Nat} (h : Stand m m.length S ps) (hm : ∀ r ∈ m, Row 4 r) (h8 : m.length ≤ 8) {v : List Int} (hv : Row 4 v) :
    Row 12 (red S 4 (v ++ none8)) ∧ (has m v = true ↔ Vec.first ((red S 4 (v ++ none8)).take 4) 0 < 0) ∧
    (Vec.first ((red S 4 (v ++ none8)).take 4) 0 < 0 → IsBy m v (((lmul (red S 4 (v ++ none8)) 30).drop 4).take m.length)) := by
  have hu : Row 12 (v ++ none8) := row_join hv row_none8
  have he : left (toV (v ++ none8)) = toV v := by
    funext j
    unfold left
    split
    · rename_i hj; exact toV_left hv hj
    · rename_i hj; exact (toV_out hv (by omega)).symm
  have hred := red_is h.row hu
  have hmade := h.made hu hv he
  have hoff : Off (m.map toV) (fun i => decide (i ∈ ps)) (toV v) (toV (v ++ none8)) := by
    refine ⟨fun c hc => ?_, fun i _ => ?_⟩
    · have e : (fun i => toV (v ++ none8) (4 + i)) = fun _ => 0 := by funext i; rw [toV_right hv, toV_none8]
      rw [e, comb_zero, toV_left hv hc]; grind
    · rw [toV_right hv, toV_none8]
  have hoff' := Off.vred h.offL hoff
  rw [← hred.2] at hoff'
  obtain ⟨a, ha⟩ : ∃ a, red S 4 (v ++ none8) = a := ⟨_, rfl⟩
  rw [ha] at hred hmade hoff' ⊢
  rw [List.take_length] at hmade
  refine ⟨hred.1, ?_, fun hz => ?_⟩
  · rw [has_iff hm hv, hmade, first4 hred.1]
  · have hz' := (first4 hred.1).1 hz
    have hmul := row_lmul hred.1 30
    have h30 : toF 30 = -1 := by decide
    have hget : ∀ i, i < m.length → toV (((lmul a 30).drop 4).take m.length) i = - toV a (4 + i) := by
      intro i hi
      have e : toV (((lmul a 30).drop 4).take m.length) i = toV (lmul a 30) (4 + i) := by
        unfold toV
        rw [List.getD_eq_getElem?_getD, List.getElem?_take, if_pos hi, List.getElem?_drop, ← List.getD_eq_getElem?_getD]
      rw [e, toV_lmul hred.1, h30]; grind
    refine ⟨⟨?_, fun x hx => hmul.2 x (List.mem_of_mem_drop (List.mem_of_mem_take hx))⟩, ?_, ?_⟩
    · rw [List.length_take, List.length_drop, hmul.1]; omega
    · intro i hi hn
      have h0 := hoff'.zero i (by rw [decide_eq_false_iff_not, h.first, List.take_length]; exact hn)
      have h1 := hget i hi
      rw [h0] at h1
      have hr : Row m.length (((lmul a 30).drop 4).take m.length) := ⟨by rw [List.length_take, List.length_drop, hmul.1]; omega, fun x hx => hmul.2 x (List.mem_of_mem_drop (List.mem_of_mem_take hx))⟩
      exact toF_none (hr.get i) (by show toV _ i = 0; rw [h1]; grind)
    · intro j
      by_cases hj : j < 4
      · have h1 := hoff'.rel j hj
        have h2 := hz' j
        rw [left_lt _ hj] at h2
        rw [h2] at h1
        have e : comb (toV (((lmul a 30).drop 4).take m.length)) (m.map toV) j = comb (fun i => (-1) * toV a (4 + i)) (m.map toV) j :=
          comb_congr _ _ _ _ fun i hi => by rw [hget i (by simpa using hi)]; grind
        rw [e, comb_mul]; grind
      · rw [toV_out hv (by omega)]
        refine (comb_at_zero _ j _ fun x hx => ?_).symm
        obtain ⟨r, hr, rfl⟩ := List.mem_map.1 hx
        exact toV_out (hm r hr) (by omega)

theorem lmul_get {l : List Int} (c : Int) {i : Nat} (hi : i < l.length) : (lmul l c).getD i 0 = l.getD i 0 * c % 31 := by
  simp [lmul, List.getD_eq_getElem?_getD, hi]
theorem ladd_get {l m : List Int} {i : Nat} (hi : i < l.length) (hi' : i < m.length) : (ladd l m).getD i 0 = (l.getD i 0 + m.getD i 0) % 31 := by
  simp [ladd, List.getD_eq_getElem?_getD, List.getElem?_zipWith, hi, hi']
end Go.Proofs.Ytbpkfcaokbidnab.Sp
