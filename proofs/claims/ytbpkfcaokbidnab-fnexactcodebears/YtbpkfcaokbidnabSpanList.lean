/-
  Rows as lists of integers, and the model's way to tidy them, as plain functions: what they do, told in the words of SpanMath. It speaks of no program.
  Conditions: none.
-/
import Derived.Test.YtbpkfcaokbidnabVecMath
import Derived.Test.YtbpkfcaokbidnabSpanMath
namespace Go.Proofs.Ytbpkfcaokbidnab.Sp
set_option linter.unusedVariables false

/-- an integer, as a number of the field. -/
def toF (x : Int) : F := Fin.ofNat 31 (x % 31).toNat
theorem toF_val (x : Int) : ((toF x).val : Int) = x % 31 := by
  simp only [toF, Fin.ofNat]
  omega
theorem toF_eq {x y : Int} (h : x % 31 = y % 31) : toF x = toF y := by unfold toF; rw [h]
theorem toF_inj {x y : Int} (hx : Fld.ok x = true) (hy : Fld.ok y = true) (h : toF x = toF y) : x = y := by
  have h1 := toF_val x
  have h2 := toF_val y
  rw [h, h2] at h1
  have := Fld.ok_iff.1 hx
  have := Fld.ok_iff.1 hy
  omega
theorem toF_zero : toF 0 = 0 := rfl
theorem toF_one : toF 1 = 1 := rfl
theorem toF_none {x : Int} (hx : Fld.ok x = true) (h : toF x = 0) : x = 0 := toF_inj hx rfl h
theorem toF_add (x y : Int) : toF ((x + y) % 31) = toF x + toF y := by
  apply Fin.ext
  have h1 := toF_val x
  have h2 := toF_val y
  have h3 := toF_val ((x + y) % 31)
  rw [Fin.val_add]
  omega
theorem toF_mul (x y : Int) : toF (x * y % 31) = toF x * toF y := by
  apply Fin.ext
  have h1 := toF_val x
  have h2 := toF_val y
  have h3 := toF_val (x * y % 31)
  rw [Fin.val_mul]
  have e : (((toF x).val * (toF y).val % 31 : Nat) : Int) = x * y % 31 := by
    rw [Int.natCast_emod, Int.natCast_mul, h1, h2, Int.mul_emod x y]
    rfl
  omega
theorem toF_neg (x : Int) (h0 : 0 ≤ x) (h1 : x ≤ 31) : toF ((31 - x) % 31) = - toF x := by
  have h : toF ((31 - x) % 31) + toF x = 0 := by
    rw [← toF_add, ← toF_zero]
    exact toF_eq (by omega)
  grind
theorem toF_inv {x : Int} (hx : Fld.ok x = true) (h : x ≠ 0) : toF x * toF (Fld.inv x) = 1 := by
  rw [← toF_mul, Fld.inv_there hx h]
  rfl

/-- n numbers of the field. -/
def Row (n : Nat) (l : List Int) : Prop := l.length = n ∧ ∀ x ∈ l, Fld.ok x = true
theorem row_ok {l : List Int} : Vec.ok l = true ↔ Row 4 l := by simp [Vec.ok, Row]
theorem Row.get {n : Nat} {l : List Int} (h : Row n l) (j : Nat) : Fld.ok (l.getD j 0) = true := by
  by_cases hj : j < l.length
  · rw [List.getD_eq_getElem?_getD, List.getElem?_eq_getElem hj]; exact h.2 _ (List.getElem_mem hj)
  · rw [List.getD_eq_getElem?_getD, List.getElem?_eq_none (by omega)]; rfl
/-- a list, as a row. -/
def toV (l : List Int) : V := fun j => toF (l.getD j 0)
theorem toV_out {n : Nat} {l : List Int} (h : Row n l) {j : Nat} (hj : n ≤ j) : toV l j = 0 := by
  unfold toV; rw [List.getD_eq_getElem?_getD, List.getElem?_eq_none (by rw [h.1]; exact hj)]; rfl
theorem toV_inj {n : Nat} {l m : List Int} (h : Row n l) (k : Row n m) (e : toV l = toV m) : l = m := by
  refine List.ext_getElem (by rw [h.1, k.1]) fun i hi hi' => ?_
  have := toF_inj (h.get i) (k.get i) (congrFun e i)
  simpa [List.getD_eq_getElem?_getD, hi, hi'] using this

def ladd (u v : List Int) : List Int := List.zipWith (fun x y => (x + y) % 31) u v
def lmul (v : List Int) (c : Int) : List Int := v.map fun x => x * c % 31
theorem row_ladd {n : Nat} {u v : List Int} (hu : Row n u) (hv : Row n v) : Row n (ladd u v) := by
  refine ⟨by simp [ladd, hu.1, hv.1], fun x hx => ?_⟩
  simp only [ladd, List.mem_iff_getElem, List.getElem_zipWith] at hx
  obtain ⟨i, _, rfl⟩ := hx
  exact Vec.mod_is _
theorem row_lmul {n : Nat} {v : List Int} (hv : Row n v) (c : Int) : Row n (lmul v c) := by
  refine ⟨by simp [lmul, hv.1], fun x hx => ?_⟩
  simp only [lmul, List.mem_map] at hx
  obtain ⟨y, _, rfl⟩ := hx
  exact Vec.mod_is _
theorem toV_ladd {n : Nat} {u v : List Int} (hu : Row n u) (hv : Row n v) (j : Nat) : toV (ladd u v) j = toV u j + toV v j := by
  by_cases hj : j < n
  · simp only [toV, ladd, List.getD_eq_getElem?_getD, List.getElem?_zipWith]
    rw [List.getElem?_eq_getElem (by rw [hu.1]; exact hj), List.getElem?_eq_getElem (by rw [hv.1]; exact hj)]
    exact toF_add _ _
  · rw [toV_out (row_ladd hu hv) (by omega), toV_out hu (by omega), toV_out hv (by omega)]; rfl
theorem toV_lmul {n : Nat} {v : List Int} (hv : Row n v) (c : Int) (j : Nat) : toV (lmul v c) j = toV v j * toF c := by
  by_cases hj : j < n
  · simp only [toV, lmul, List.getD_eq_getElem?_getD, List.getElem?_map]
    rw [List.getElem?_eq_getElem (by rw [hv.1]; exact hj)]
    exact toF_mul _ _
  · rw [toV_out (row_lmul hv c) (by omega), toV_out hv (by omega)]; grind

/-- where a row begins. -/
theorem first_lead {n : Nat} {l : List Int} (h : Row n l) {p : Nat} (k : Lead (toV l) p) : Vec.first l 0 = p := by
  have hp : p < l.length := by
    rcases Nat.lt_or_ge p l.length with hl | hl
    · exact hl
    · exact absurd (toV_out h (by rw [← h.1]; exact hl)) k.1
  rw [Vec.first_skip (k := p) (fun j hj => toF_none (h.get j) (k.2 j hj)) (by omega), List.drop_eq_getElem_cons hp, Vec.first_yes]
  · simp
  · rw [bne_iff_ne]
    intro e
    apply k.1
    unfold toV
    rw [List.getD_eq_getElem?_getD, List.getElem?_eq_getElem hp, Option.getD_some, e]; rfl
theorem first_none {n : Nat} {l : List Int} (h : Row n l) (k : ∀ j, toV l j = 0) : Vec.first l 0 = -1 := by
  rw [Vec.first_skip (k := l.length) (fun j _ => toF_none (h.get j) (k j)) (Nat.le_refl _), List.drop_length]; rfl
theorem lead_or {n : Nat} {l : List Int} (h : Row n l) : (∀ j, toV l j = 0) ∨ ∃ p, p < n ∧ Lead (toV l) p := by
  by_cases hz : ∀ j, toV l j = 0
  · exact .inl hz
  · right
    have hex : ∃ p, toV l p ≠ 0 := by
      rcases Classical.em (∃ p, toV l p ≠ 0) with h | h
      · exact h
      · exact absurd (fun j => Classical.byContradiction fun hj => h ⟨j, hj⟩) hz
    obtain ⟨p, hp⟩ := hex
    have hleast : ∀ m, (∃ q, q ≤ m ∧ toV l q ≠ 0) → ∃ q, q ≤ m ∧ Lead (toV l) q := by
      intro m
      induction m with
      | zero => rintro ⟨q, hq, hv⟩; exact ⟨q, hq, hv, fun j hj => by omega⟩
      | succ m ih =>
        rintro ⟨q, hq, hv⟩
        rcases Classical.em (∃ q, q ≤ m ∧ toV l q ≠ 0) with h | h
        · obtain ⟨r, hr, hl⟩ := ih h; exact ⟨r, by omega, hl⟩
        · have : q = m + 1 := by
            rcases Nat.lt_or_ge q (m + 1) with hl | hl
            · exact absurd ⟨q, by omega, hv⟩ h
            · omega
          subst this
          exact ⟨m + 1, Nat.le_refl _, hv, fun j hj => Classical.byContradiction fun hj' => h ⟨j, by omega, hj'⟩⟩
    obtain ⟨q, _, hl⟩ := hleast p ⟨p, Nat.le_refl _, hp⟩
    refine ⟨q, ?_, hl⟩
    rcases Nat.lt_or_ge q n with h' | h'
    · exact h'
    · exact absurd (toV_out h h') hl.1

/-- a row without another one, so that it has 0 where that begins. -/
def lless (v w : List Int) : List Int := ladd v (lmul w ((31 - v.getD (Vec.first w 0).toNat 0 * Fld.inv (w.getD (Vec.first w 0).toNat 0) % 31) % 31))
theorem row_lless {n : Nat} {v w : List Int} (hv : Row n v) (hw : Row n w) : Row n (lless v w) := row_ladd hv (row_lmul hw _)
theorem toV_lless {n : Nat} {v w : List Int} (hv : Row n v) (hw : Row n w) {p : Nat} (k : Lead (toV w) p) (j : Nat) :
    toV (lless v w) j = toV v j - toV v p * toF (Fld.inv (w.getD p 0)) * toV w j := by
  unfold lless
  rw [first_lead hw k, Int.toNat_natCast, toV_ladd hv (row_lmul hw _), toV_lmul hw, toF_neg _ (by omega) (by omega), toF_mul]
  show toV v j + toV w j * -(toV v p * _) = _
  grind
/-- of a row that begins with 1. -/
theorem toV_lless1 {n : Nat} {v w : List Int} (hv : Row n v) (hw : Row n w) {p : Nat} (k : Lead (toV w) p) (h1 : toV w p = 1) (j : Nat) :
    toV (lless v w) j = toV v j - toV v p * toV w j := by
  rw [toV_lless hv hw k]
  have e : w.getD p 0 = 1 := toF_inj (hw.get p) rfl h1
  rw [e, show Fld.inv 1 = 1 from rfl, toF_one]
  grind

/-- a row without tidy ones, one behind the other. -/
def vred (L : List (Nat × V)) (u : V) : V := L.foldl (fun u x j => u j - u x.1 * x.2 j) u
theorem vred_cons (x : Nat × V) (L : List (Nat × V)) (u : V) : vred (x :: L) u = vred L (fun j => u j - u x.1 * x.2 j) := rfl
theorem vred_keeps {L : List (Nat × V)} (p : Nat) (h : ∀ x ∈ L, x.2 p = 0) : ∀ u, vred L u p = u p := by
  induction L with
  | nil => intro u; rfl
  | cons x L ih =>
    intro u
    rw [vred_cons, ih (fun y hy => h y (by simp [hy]))]
    show u p - u x.1 * x.2 p = u p
    rw [h x (by simp)]; grind
theorem vred_zero {L : List (Nat × V)} (h : Tidy L) : ∀ u, ∀ x ∈ L, vred L u x.1 = 0 := by
  induction L with
  | nil => intro u x hx; simp at hx
  | cons y L ih =>
    intro u x hx
    rw [vred_cons]
    rcases List.mem_cons.1 hx with rfl | hx'
    · rw [vred_keeps x.1 (fun z hz => h.others x (by simp) z (by simp [hz]) (by have := h.head_lt z hz; omega))]
      show u x.1 - u x.1 * x.2 x.1 = 0
      rw [h.one x (by simp)]; grind
    · exact ih h.tail _ x hx'
theorem vred_in {L : List (Nat × V)} : ∀ u, In (rows L) (fun j => u j - vred L u j) := by
  induction L with
  | nil => intro u; exact (In.zero _).eq (fun j => by show u j - u j = 0; grind)
  | cons x L ih =>
    intro u
    have h1 := (ih (fun j => u j - u x.1 * x.2 j)).mono (B := rows (x :: L)) (fun a ha => by simp [rows] at ha ⊢; exact .inr ha)
    have h2 : In (rows (x :: L)) x.2 := In.mem (by simp [rows])
    refine (h1.add (h2.mul (u x.1))).eq fun j => ?_
    rw [vred_cons]; grind
/-- a row is made of tidy ones, if nothing is left of it. -/
theorem in_iff_red {L : List (Nat × V)} (h : Tidy L) (u : V) : In (rows L) u ↔ ∀ j, vred L u j = 0 := by
  constructor
  · intro k
    have h1 : In (rows L) (vred L u) := (k.sub (vred_in (L := L) u) 1).eq fun j => by grind
    exact h1.none_ h (vred_zero h u)
  · intro k
    exact (vred_in (L := L) u).eq fun j => by rw [k j]; grind

/-- tidy rows, and one more that begins with 1 where none of them does and is 0 where they begin. -/
def vins (p : Nat) (v : V) : List (Nat × V) → List (Nat × V)
  | [] => [(p, v)]
  | x :: L => if p < x.1 then (p, v) :: (x :: L).map (fun y => (y.1, fun j => y.2 j - y.2 p * v j)) else (x.1, fun j => x.2 j - x.2 p * v j) :: vins p v L
theorem mem_vins {p : Nat} {v : V} {L : List (Nat × V)} {y : Nat × V} : y ∈ vins p v L ↔ y = (p, v) ∨ ∃ x ∈ L, y = (x.1, fun j => x.2 j - x.2 p * v j) := by
  induction L with
  | nil => simp [vins]
  | cons x L ih =>
    unfold vins
    by_cases hp : p < x.1
    · rw [if_pos hp]
      simp only [List.mem_cons, List.mem_map]
      constructor
      · rintro (h | ⟨z, hz, rfl⟩)
        · exact .inl h
        · exact .inr ⟨z, hz, rfl⟩
      · rintro (h | ⟨z, hz, rfl⟩)
        · exact .inl h
        · exact .inr ⟨z, hz, rfl⟩
    · rw [if_neg hp]
      simp only [List.mem_cons, ih]
      constructor
      · rintro (h | h | ⟨z, hz, rfl⟩)
        · exact .inr ⟨x, .inl rfl, h⟩
        · exact .inl h
        · exact .inr ⟨z, .inr hz, rfl⟩
      · rintro (h | ⟨z, rfl | hz, rfl⟩)
        · exact .inr (.inl h)
        · exact .inl rfl
        · exact .inr (.inr ⟨z, hz, rfl⟩)
theorem vins_up {p : Nat} {v : V} {L : List (Nat × V)} (h : L.Pairwise fun x y => x.1 < y.1) (hp : ∀ x ∈ L, x.1 ≠ p) : (vins p v L).Pairwise fun x y => x.1 < y.1 := by
  induction L with
  | nil => simp [vins]
  | cons x L ih =>
    have h' := List.pairwise_cons.1 h
    unfold vins
    by_cases hlt : p < x.1
    · rw [if_pos hlt, List.pairwise_cons]
      refine ⟨?_, ?_⟩
      · intro y hy
        obtain ⟨z, hz, rfl⟩ := List.mem_map.1 hy
        rcases List.mem_cons.1 hz with rfl | hz
        · exact hlt
        · have := h'.1 z hz; show p < z.1; omega
      · exact List.pairwise_map.2 h
    · rw [if_neg hlt, List.pairwise_cons]
      refine ⟨?_, ih h'.2 (fun y hy => hp y (by simp [hy]))⟩
      intro y hy
      rcases mem_vins.1 hy with rfl | ⟨z, hz, rfl⟩
      · have := hp x (by simp); show x.1 < p; omega
      · exact h'.1 z hz
theorem vins_tidy {p : Nat} {v : V} {L : List (Nat × V)} (h : Tidy L) (hl : Lead v p) (h1 : v p = 1) (hz : ∀ x ∈ L, v x.1 = 0) : Tidy (vins p v L) := by
  have hp : ∀ x ∈ L, x.1 ≠ p := fun x hx e => by
    have h0 := hz x hx
    rw [e, h1] at h0
    exact absurd h0 (by decide)
  have hx0 : ∀ x ∈ L, p < x.1 → x.2 p = 0 := fun x hx hlt => h.ahead x hx p hlt
  refine ⟨vins_up h.up hp, ?_, ?_, ?_⟩
  · intro y hy
    rcases mem_vins.1 hy with rfl | ⟨x, hx, rfl⟩
    · exact h1
    · show x.2 x.1 - x.2 p * v x.1 = 1
      rw [h.one x hx, hz x hx]; grind
  · intro y hy j hj
    rcases mem_vins.1 hy with rfl | ⟨x, hx, rfl⟩
    · exact hl.2 j hj
    · show x.2 j - x.2 p * v j = 0
      have hj' : j < x.1 := hj
      rw [h.ahead x hx j hj']
      rcases Nat.lt_or_ge p x.1 with hlt | hge
      · rw [hx0 x hx hlt]; grind
      · rw [hl.2 j (by have := hp x hx; omega)]; grind
  · intro y hy z hzz hne
    rcases mem_vins.1 hy with rfl | ⟨x, hx, rfl⟩ <;> rcases mem_vins.1 hzz with rfl | ⟨x', hx', rfl⟩
    · exact absurd rfl hne
    · show x'.2 p - x'.2 p * v p = 0
      rw [h1]; grind
    · exact hz x hx
    · show x'.2 x.1 - x'.2 p * v x.1 = 0
      rw [hz x hx, h.others x hx x' hx' hne]; grind
theorem vins_same {p : Nat} {v : V} {L : List (Nat × V)} : Same (rows (vins p v L)) (v :: rows L) := by
  constructor
  · intro a ha
    obtain ⟨y, hy, rfl⟩ := List.mem_map.1 ha
    rcases mem_vins.1 hy with rfl | ⟨x, hx, rfl⟩
    · exact In.mem (by simp)
    · have hx2 : In (v :: rows L) x.2 := In.mem (by simp [rows]; exact .inr ⟨x.1, hx⟩)
      exact hx2.sub (In.mem (by simp)) (x.2 p)
  · intro b hb
    have hv : In (rows (vins p v L)) v := In.mem (List.mem_map.2 ⟨(p, v), mem_vins.2 (.inl rfl), rfl⟩)
    rcases List.mem_cons.1 hb with rfl | hb
    · exact hv
    · obtain ⟨x, hx, rfl⟩ := List.mem_map.1 hb
      have h1 : In (rows (vins p v L)) (fun j => x.2 j - x.2 p * v j) := In.mem (List.mem_map.2 ⟨_, mem_vins.2 (.inr ⟨x, hx, rfl⟩), rfl⟩)
      exact (h1.add (hv.mul (x.2 p))).eq fun j => by grind
theorem vins_length {p : Nat} {v : V} {L : List (Nat × V)} : (vins p v L).length = L.length + 1 := by
  induction L with
  | nil => rfl
  | cons x L ih =>
    unfold vins
    split
    · simp
    · simp [ih]
end Go.Proofs.Ytbpkfcaokbidnab.Sp
