/-
  The laws' helpers on slices of plans: the same, marked, held.
  Conditions: none.
-/
import Derived.Test.YtbpkfcaokbidnabPlanAllP
namespace Go.Proofs.Ytbpkfcaokbidnab
open Go.RowKit
set_option linter.unusedVariables false

theorem pcells_app (A B : List PIt) : pcells (A ++ B) = pcells A ++ pcells B := by simp [pcells]
theorem pitems_app (A B : List PIt) : pitems (A ++ B) = pitems A ++ pitems B := by simp [pitems]
theorem pitems_cons (x : PIt) (B : List PIt) : pitems (x :: B) = row1 x.u x.l :: row1 x.v x.m :: pitems B := by simp [pitems]
theorem pcells_cons (x : PIt) (B : List PIt) : pcells (x :: B) = x.cells ++ pcells B := by simp [pcells]
namespace PTab
variable {w w' : World} {base : Nat} {vv : Value} {A B : List PIt}
theorem flip {x : Item} {n : Nat} {xs : List Value} {b' : Nat} (h : w.ownsRow base 35 3 vv n xs) (k : x.Own w b') (he : x.e = 3) : vv.ownBlock = none ∨ vv.ownBlock ≠ x.v.ownBlock := by
  rcases apart h k he with h1 | h1
  · cases hv : vv.ownBlock with
    | none => exact .inl rfl
    | some g => right; rw [h1]; simp
  · exact .inr (fun e => h1 e.symm)
/-- a plan's shard is written. -/
theorem putD {g c n : Nat} {d d' : Int} {u v : Value} {l m : List Int} (h : PTab w base (.slice (some ⟨g, 0, none⟩) n c) (A ++ ⟨d, u, v, l, m⟩ :: B)) (hn : n = (A ++ ⟨d, u, v, l, m⟩ :: B).length) : PTab (w.setCell ⟨g, A.length * 3, none⟩ (.int .i64 d')) base (.slice (some ⟨g, 0, none⟩) n c) (A ++ ⟨d', u, v, l, m⟩ :: B) ∧ w.grownBy (w.setCell ⟨g, A.length * 3, none⟩ (.int .i64 d')) (some g) := by
  have ht := h.top
  rw [← hn] at ht
  have hs := World.ownsRow.stored ht (A.length * 3) (.int .i64 d')
  refine ⟨⟨?_, ?_⟩, hs.2⟩
  · rw [show (A ++ (⟨d', u, v, l, m⟩ : PIt) :: B).length = n by rw [hn]; simp]
    have e : (pcells (A ++ ⟨d, u, v, l, m⟩ :: B)).set (A.length * 3) (.int .i64 d') = pcells (A ++ ⟨d', u, v, l, m⟩ :: B) := by
      rw [pcells_app, pcells_app, pcells_cons, pcells_cons, List.set_append, if_neg (by rw [pcells_len]; omega), pcells_len, Nat.sub_self]
      rfl
    rw [← e]
    exact hs.1
  · have ho := h.own
    rw [pitems_app, pitems_cons] at ho ⊢
    refine kept_own ho hs.2 (fun x hx => ?_)
    exact apart h.top (ho.1 x hx) (by
      have hm : x ∈ pitems (A ++ (⟨d, u, v, l, m⟩ : PIt) :: B) := by rw [pitems_app, pitems_cons]; exact hx
      exact items_int _ x hm)
/-- a plan's shards are written. -/
theorem putU {d : Int} {u v : Value} {l l' m : List Int} (h : PTab w base vv (A ++ ⟨d, u, v, l, m⟩ :: B)) (hg : w.grownBy w' u.ownBlock) (ho : Own w' base u l') : PTab w' base vv (A ++ ⟨d, u, v, l', m⟩ :: B) := by
  have hx : (row1 u l) ∈ pitems (A ++ ⟨d, u, v, l, m⟩ :: B) := by rw [pitems_app, pitems_cons]; simp
  refine ⟨?_, ?_⟩
  · have ht := h.top
    have e : pcells (A ++ ⟨d, u, v, l, m⟩ :: B) = pcells (A ++ ⟨d, u, v, l', m⟩ :: B) := by rw [pcells_app, pcells_app, pcells_cons, pcells_cons]; rfl
    rw [e] at ht
    rw [show (A ++ (⟨d, u, v, l', m⟩ : PIt) :: B).length = (A ++ (⟨d, u, v, l, m⟩ : PIt) :: B).length by simp]
    exact World.ownsRow.kept ht hg (flip h.top (h.own.1 _ hx) rfl)
  · have hh := h.own
    rw [pitems_app, pitems_cons] at hh ⊢
    exact hh.put (x' := row1 u l') rfl hg (row1_own.2 ho)
theorem putV {d : Int} {u v : Value} {l m m' : List Int} (h : PTab w base vv (A ++ ⟨d, u, v, l, m⟩ :: B)) (hg : w.grownBy w' v.ownBlock) (ho : Own w' base v m') : PTab w' base vv (A ++ ⟨d, u, v, l, m'⟩ :: B) := by
  have hx : (row1 v m) ∈ pitems (A ++ ⟨d, u, v, l, m⟩ :: B) := by rw [pitems_app, pitems_cons]; simp
  refine ⟨?_, ?_⟩
  · have ht := h.top
    have e : pcells (A ++ ⟨d, u, v, l, m⟩ :: B) = pcells (A ++ ⟨d, u, v, l, m'⟩ :: B) := by rw [pcells_app, pcells_app, pcells_cons, pcells_cons]; rfl
    rw [e] at ht
    rw [show (A ++ (⟨d, u, v, l, m'⟩ : PIt) :: B).length = (A ++ (⟨d, u, v, l, m⟩ : PIt) :: B).length by simp]
    exact World.ownsRow.kept ht hg (flip h.top (h.own.1 _ hx) rfl)
  · have hh := h.own
    rw [pitems_app, pitems_cons] at hh ⊢
    have e : ∀ y : Item, pitems A ++ row1 u l :: y :: pitems B = (pitems A ++ [row1 u l]) ++ y :: pitems B := fun y => by simp
    show OwnAll w' base (pitems A ++ row1 u l :: row1 v m' :: pitems B)
    rw [e] at hh ⊢
    exact hh.put (x' := row1 v m') rfl hg (row1_own.2 ho)
/-- what lies below is not a plan's. -/
theorem away {L : List PIt} {r : Nat} (h : PTab w base vv L) (hg : w.grownBy w' (some r)) (hr : r < base) : PTab w' base vv L := by
  have far : ∀ {e : TypeId} {s : Nat} {v : Value} {n : Nat} {xs : List Value}, w.ownsRow base e s v n xs → v.ownBlock = none ∨ v.ownBlock ≠ some r := fun hh => .inr (fun e => by have := (World.ownsRow.lt hh r e).1; omega)
  exact ⟨World.ownsRow.kept h.top hg (far h.top), kept_own h.own hg (fun x hx => far (h.own.1 x hx))⟩
end PTab
/-- no plan. -/
def pnone : PIt := ⟨0, .slice none 0 0, .slice none 0 0, [], []⟩
/-- the marks ahead of a plan. -/
def kAt (L : List PIt) (k : Int) : Nat → Int
  | 0 => k
  | i + 1 => kAt L k i + 1 + ((L.getD i pnone).l.length : Int) + ((L.getD i pnone).m.length : Int)
/-- a plan that is marked. -/
def mkIt (L : List PIt) (k : Int) (j : Nat) : PIt := ⟨kAt L k j, (L.getD j pnone).u, (L.getD j pnone).v, marks (kAt L k j + 1) (L.getD j pnone).l.length, marks (kAt L k j + 1 + (L.getD j pnone).l.length) (L.getD j pnone).m.length⟩
/-- plans, the first ones marked. -/
def mkL (L : List PIt) (k : Int) (i : Nat) : List PIt := (List.range i).map (mkIt L k) ++ L.drop i
theorem mkL_zero (L : List PIt) (k : Int) : mkL L k 0 = L := by simp [mkL]
theorem mkL_all (L : List PIt) (k : Int) : mkL L k L.length = (List.range L.length).map (mkIt L k) := by simp [mkL]
theorem mkL_len (L : List PIt) (k : Int) {i : Nat} (hi : i ≤ L.length) : (mkL L k i).length = L.length := by simp [mkL]; omega
theorem mkL_here {L : List PIt} (k : Int) {i : Nat} (hi : i < L.length) : mkL L k i = (List.range i).map (mkIt L k) ++ L.getD i pnone :: L.drop (i + 1) := by
  unfold mkL
  rw [List.drop_eq_getElem_cons hi]
  congr 2
  simp [List.getD_eq_getElem?_getD, hi]
theorem mkL_next {L : List PIt} (k : Int) (i : Nat) : mkL L k (i + 1) = (List.range i).map (mkIt L k) ++ mkIt L k i :: L.drop (i + 1) := by
  unfold mkL
  rw [List.range_succ, List.map_append, List.append_assoc]
  rfl
/-- short plans. -/
def Short (L : List PIt) : Prop := L.length ≤ 8 ∧ ∀ i, (L.getD i pnone).l.length ≤ 4 ∧ (L.getD i pnone).m.length ≤ 4
theorem kAt_in {L : List PIt} (h : Short L) (k : Int) : ∀ i, k ≤ kAt L k i ∧ kAt L k i ≤ k + 9 * i
  | 0 => ⟨Int.le_refl _, by show k ≤ _; omega⟩
  | i + 1 => by
    have ih := kAt_in h k i
    have hh := h.2 i
    simp only [kAt]
    omega
theorem AllT.short {k : Int} {f : List Bool} {b : Bool} {L : List PIt} (h : AllT k f b L) : Short L := by
  rcases h with ⟨_, _, _, h⟩ | ⟨_, rfl, _⟩
  · refine ⟨h.len (Nat.le_refl _), fun i => ?_⟩
    cases e : L[i]? with
    | none => rw [List.getD_eq_getElem?_getD, e]; simp [pnone]
    | some x => rw [List.getD_eq_getElem?_getD, e]; exact (h.2 i x e).len
  · exact ⟨by simp, fun i => by simp [pnone]⟩

set_option maxHeartbeats 8000000 in
set_option maxRecDepth 20000 in
theorem eqPlanS (u v : Value) (L M : List PIt) (b1 b2 : Nat) (w : World) (h1 : PTab w b1 u L) (h2 : PTab w b2 v M) (hl : L.length = M.length) (h8 : L.length ≤ 8) (hs : ∀ (j : Nat) (x y : PIt), L[j]? = some x → M[j]? = some y → x.d = y.d ∧ x.l = y.l ∧ x.m = y.m) :
    Calls Try.prog 18 #[u, v] w fun e w' => e = .returned (.bool true) ∧ w.grownBy w' none := by
  obtain ⟨a1, c1, e1, _, q1⟩ := h1.form
  obtain ⟨a2, c2, e2, _, q2⟩ := h2.form
  have P := Lib.hid h1
  have Q := Lib.hid h2
  have SM := Lib.hid hs
  have LM := Lib.hid hl
  subst e1 e2
  rw [← hl]
  obtain ⟨n, hn⟩ : ∃ n, n = L.length := ⟨_, rfl⟩
  have NL := Lib.hid hn
  rw [← hn] at h8 ⊢
  unfold maxLen at q1 q2
  clear h1 h2 hs hl hn
  have hne : ((n : Int) != (n : Int)) = false := by simp
  go_enter Try.func18, Try.ntmps18
  go_wp2_with fail
  go_loopw [5] (fun i wr => ∃ t : Nat, t ≤ n ∧ i = .int .i64 t ∧ w.grownBy wr none) (fun i _ => n - (intOf i).toNat)
  case atStart => exact ⟨0, by omega, rfl, World.grownBy.refl _ _⟩
  case round =>
    obtain ⟨t, ht, rfl, hg⟩ := hrel
    have G := Lib.hid hg
    clear hg
    by_cases hlt : t < n
    · have hlt' : (t : Int) < (n : Int) := by omega
      obtain ⟨x, hx⟩ : ∃ x, L[t]? = some x := ⟨L[t]'(by rw [← NL.out]; exact hlt), List.getElem?_eq_getElem _⟩
      obtain ⟨y, hy⟩ : ∃ y, M[t]? = some y := ⟨M[t]'(by rw [← LM.out, ← NL.out]; exact hlt), List.getElem?_eq_getElem _⟩
      obtain ⟨ed, el, em⟩ := SM.out t x y hx hy
      obtain ⟨g1, c1', p1, _, x0, x1, x2, xu, xv⟩ := (P.out.still G.out).at_ hx
      obtain ⟨g2, c2', p2, _, y0, y1, y2, yu, yv⟩ := (Q.out.still G.out).at_ hy
      injection p1 with p1 p1' p1''
      subst p1 p1''
      injection p2 with p2 p2' p2''
      subst p2 p2''
      clear p1' p2'
      obtain ⟨xd, xu', xv', xl, xm⟩ := x
      obtain ⟨yd, yu', yv', yl, ym⟩ := y
      simp only at ed el em x0 x1 x2 xu xv y0 y1 y2 yu yv
      subst ed el em
      have XU := Lib.hid xu.sl
      have XV := Lib.hid xv.sl
      have YU := Lib.hid yu.sl
      have YV := Lib.hid yv.sl
      have EP := Lib.hid (fun W h1 h2 h3 h4 => eqPlanSame xd xu' xv' yu' yv' xl xm W h1 h2 h3 h4)
      obtain ⟨a3, c3, e3, _, _, _⟩ := xu.sl
      obtain ⟨a4, c4, e4, _, _, _⟩ := xv.sl
      obtain ⟨a5, c5, e5, _, _, _⟩ := yu.sl
      obtain ⟨a6, c6, e6, _, _, _⟩ := yv.sl
      obtain ⟨nl, hnl⟩ : ∃ q, xl.length = q := ⟨_, rfl⟩
      obtain ⟨nm, hnm⟩ : ∃ q, xm.length = q := ⟨_, rfl⟩
      rw [hnl] at e3 e5
      rw [hnm] at e4 e6
      subst e3 e4 e5 e6
      have z0 : wr.drew.cell? ⟨g1, t * 3, none⟩ = some (.int .i64 xd) := x0
      have z1 : wr.drew.cell? ⟨g1, t * 3 + 1, none⟩ = some (.slice a3 nl c3) := x1
      have z2 : wr.drew.cell? ⟨g1, t * 3 + 2, none⟩ = some (.slice a4 nm c4) := x2
      have z3 : wr.drew.cell? ⟨g2, t * 3, none⟩ = some (.int .i64 xd) := y0
      have z4 : wr.drew.cell? ⟨g2, t * 3 + 1, none⟩ = some (.slice a5 nl c5) := y1
      have z5 : wr.drew.cell? ⟨g2, t * 3 + 2, none⟩ = some (.slice a6 nm c6) := y2
      have GD := Lib.hid (grown_drew (World.grownBy.refl wr none))
      clear xu xv yu yv hx hy x0 x1 x2 y0 y1 y2 hnl hnm
      go_wp2_with fail
      go_region_held3 (fun w' => (w'.cell? ⟨g1, t * 3, none⟩ = some (.int .i64 xd) ∧ w'.cell? ⟨g1, t * 3 + 1, none⟩ = some (.slice a3 nl c3) ∧ w'.cell? ⟨g1, t * 3 + 2, none⟩ = some (.slice a4 nm c4)) ∧ w'.cell? ⟨g2, t * 3, none⟩ = some (.int .i64 xd) ∧ w'.cell? ⟨g2, t * 3 + 1, none⟩ = some (.slice a5 nl c5) ∧ w'.cell? ⟨g2, t * 3 + 2, none⟩ = some (.slice a6 nm c6))
        (first
          | with_reducible exact ⟨⟨z0, z1, z2⟩, z3, z4, z5⟩
          | with_reducible exact H1.out)
        (first
          | (go_at_call 59; refine (EP.out _ (XU.out.grown GD.out) (XV.out.grown GD.out) (YU.out.grown GD.out) (YV.out.grown GD.out)).mono ?_; rintro e w7 ⟨rfl, hg1⟩
             have H1 := Lib.hid (And.intro (And.intro (hg1.cell z0 (by simp)) (And.intro (hg1.cell z1 (by simp)) (hg1.cell z2 (by simp)))) (And.intro (hg1.cell z3 (by simp)) (And.intro (hg1.cell z4 (by simp)) (hg1.cell z5 (by simp)))))
             have D1 := Lib.hid hg1
             clear hg1))
      have G7 := Lib.hid (grown_trans (grown_trans G.out GD.out) D1.out)
      clear z0 z1 z2 z3 z4 z5 H1 D1 GD
      go_wp2_with fail
      go_roundw
      case rel => exact ⟨t + 1, by omega, by go_num, G7.out⟩
      case measure => simp [intOf]; omega
    · obtain rfl : t = n := by omega
      have hi : ¬ (t : Int) < (t : Int) := by omega
      go_wp2_with fail
      go_ret
      exact ⟨rfl, G.out⟩
end Go.Proofs.Ytbpkfcaokbidnab
