/-
  What this claim wants of the texts of earlier chapters.
  Conditions: none.
-/
import Derived.Test.YthglkgicckodaaaZStripeHelp
import Derived.Test.YthglkgicckodaaaZG1
namespace Go.Proofs.Ythglkgicckodaaa
open Go.RowKit Go.Shelf
set_option linter.unusedVariables false
set_option linter.unusedSimpArgs false
def blkI (g : Nat) (t : TypeId) (cs : List Value) : Item := ⟨.slice (some ⟨g, 0, none⟩) cs.length cs.length, t, cs⟩
theorem blkI_own {w : World} {base g : Nat} {t : TypeId} {cs : List Value} (h : Blk w g t cs) (hb : base ≤ g) (hl : cs.length ≤ maxLen) (h1 : ∀ u ∈ cs, u.oneCell' = true) : (blkI g t cs).Own w base :=
  ⟨by simp [blkI], .inr ⟨g, cs.length, _, rfl, hb, h, Nat.le_refl _, hl, by simp [blkI], by
    show List.take _ cs = cs
    exact List.take_of_length_le (by simp [blkI])⟩⟩
theorem blkI_blk {w : World} {base g : Nat} {t : TypeId} {cs : List Value} (h : (blkI g t cs).Own w base) : Blk w g t cs := by
  rcases h.2 with ⟨h0, _⟩ | ⟨g', cap, cur, h0, _, hb, _, _, hs, ht⟩
  · cases h0
  · injection h0 with e1 e2 e3
    injection e1 with e1
    injection e1 with e1
    subst e1 e3
    have h1 : cur.toList = cs := by
      have ht' : cur.toList.take (cs.length * 1) = cs := ht
      have hs' : cur.size = cs.length * 1 := hs
      rw [← ht', List.take_of_length_le (by simp [hs'])]
    unfold Blk
    have h2 : (blkI g t cs).e = t := rfl
    rw [h2] at hb
    rw [hb, ← h1]
theorem Lives.newBlk {w0 w w' : World} {L : List Item} {g : Nat} {t : TypeId} {cs : List Value} (h : Lives w0 w L) (hg : w.grownBy w' none) (k : Blk w' g t cs) (hge : w.heap.size ≤ g) (hl : cs.length ≤ maxLen) (h1 : ∀ u ∈ cs, u.oneCell' = true) : Lives w0 w' (blkI g t cs :: L) :=
  h.new (M := [blkI g t cs]) hg (own_one (blkI_own k hge hl h1))
theorem Lives.blk {w0 w : World} {L : List Item} {g : Nat} {t : TypeId} {cs : List Value} (h : Lives w0 w L) (hm : blkI g t cs ∈ L) : Blk w g t cs := blkI_blk (h.own.1 _ hm)
theorem Lives.newSt {w0 w w' : World} {L : List Item} {u x y : Value} {a v : List Int} {f : List Bool} (h : Lives w0 w L) (hg : w.grownBy w' none) (k : StOwn w' w.heap.size u x y a v f) : Lives w0 w' (row1 u a :: row1 x v :: bool1 y f :: L) :=
  h.new (M := [row1 u a, row1 x v, bool1 y f]) hg k
theorem Lives.perm {w0 w : World} {L L' : List Item} (h : Lives w0 w L) (hp : L.Perm L') : Lives w0 w L' :=
  ⟨h.below, fun x hx => h.own.1 x (hp.mem_iff.2 hx), (hp.pairwise_iff (fun {x y} (k : Item.Apart x y) => k.symm)).1 h.own.2⟩
theorem Lives.first {w0 w : World} {A S B : List Item} (h : Lives w0 w (A ++ (S ++ B))) : Lives w0 w (S ++ (A ++ B)) :=
  h.perm (by rw [← List.append_assoc, ← List.append_assoc]; exact List.perm_append_comm.append_right _)
def bmarks (k : Int) (n : Nat) : List Bool := (List.range n).map fun (i : Nat) => (k + (i : Int)) % 3 == 0
theorem bmarks_length (k : Int) (n : Nat) : (bmarks k n).length = n := by simp [bmarks]
theorem bmarks_get (k : Int) (n i : Nat) (h : i < n) : (bmarks k n).getD i false = ((k + (i : Int)) % 3 == 0) := by
  simp [bmarks, List.getD_eq_getElem?_getD, h]
def bmarked (k : Int) (l : List Bool) (i : Nat) : List Bool := bmarks k i ++ l.drop i
theorem bmarked_length (k : Int) (l : List Bool) (i : Nat) (h : i ≤ l.length) : (bmarked k l i).length = l.length := by simp [bmarked, bmarks]; omega
theorem bmarked_all (k : Int) (l : List Bool) : bmarked k l l.length = bmarks k l.length := by simp [bmarked]
theorem bmarked_none (k : Int) (l : List Bool) : bmarked k l 0 = l := by simp [bmarked, bmarks]
theorem bmarked_set (k : Int) (l : List Bool) (i : Nat) (h : i < l.length) : (bmarked k l i).set i ((k + (i : Int)) % 3 == 0) = bmarked k l (i + 1) := by
  unfold bmarked
  rw [List.set_append_right _ _ (by simp [bmarks])]
  have e : bmarks k (i + 1) = bmarks k i ++ [(k + (i : Int)) % 3 == 0] := by simp [bmarks, List.range_succ]
  rw [e, List.append_assoc, bmarks_length, Nat.sub_self, List.drop_eq_getElem_cons h, List.set_cons_zero]
  rfl
set_option maxHeartbeats 2000000 in
set_option maxRecDepth 20000 in
theorem markBx (v : Value) (f : List Bool) (k : Int) (base : Nat) (w : World) (h : BOwn w base v f) (hl : f.length ≤ 1048576) (k0 : 0 ≤ k) (k1 : k ≤ 10000000) :
    Calls Try.prog 65 #[v, .int .i64 k] w fun e w' => e = .returned (.int .i64 (k + f.length)) ∧ w.grownBy w' v.ownBlock ∧ BOwn w' base v (bmarks k f.length) := by
  rcases h.2 with ⟨rfl, h0⟩ | ⟨g, cap, cur, rfl, hb⟩
  · have : f = [] := List.eq_nil_of_length_eq_zero h0
    subst this
    have O := Lib.hid h
    clear h h0
    go_enter Try.func65, Try.ntmps65
    go_wp2_with fail
    go_loop [1, 5] (fun m i => m = .int .i64 k ∧ i = .int .i64 0) (fun _ _ => 0)
    case atStart => exact ⟨rfl, rfl⟩
    case round =>
      obtain ⟨rfl, rfl⟩ := hrel
      go_wp2_with fail
      go_ret
      exact ⟨by simp, World.grownBy.refl _ _, O.out⟩
  · have O := Lib.hid h
    have hcm : cap ≤ maxLen := hb.2.2.2.1
    have hcl : f.length ≤ cap := hb.2.2.1
    unfold maxLen at hcm
    clear h hb
    go_enter Try.func65, Try.ntmps65
    go_wp2_with fail
    go_loopw [1, 5] (fun m i wr => ∃ (j : Nat), j ≤ f.length ∧ i = .int .i64 j ∧ m = .int .i64 (k + j) ∧ w.grownBy wr (some g) ∧ BOwn wr base (.slice (some ⟨g, 0, none⟩) f.length cap) (bmarked k f j)) (fun _ i _ => f.length - (intOf i).toNat)
    case atStart => exact ⟨0, by omega, rfl, by simp, World.grownBy.refl _ _, by rw [bmarked_none]; exact O.out⟩
    case round =>
      obtain ⟨j, hj, rfl, rfl, hgr, ho⟩ := hrel
      have G := Lib.hid hgr
      have B := Lib.hid ho
      have F := Lib.hid (bmarked_length k f j hj)
      clear hgr ho O
      by_cases hlt : j < f.length
      · have hlt' : (j : Int) < f.length := by omega
        obtain ⟨aa, ca, ea, _, _, hr⟩ := B.out.bl
        injection ea with e1 e2 e3
        subst e1 e3
        obtain ⟨b', o', e', hx⟩ := hr.at_ (k := j) (by rw [F.out]; exact hlt)
        injection e' with e'
        injection e' with e1 e4
        subst e1 e4
        rw [Nat.zero_add] at hx
        have hfz : wr.frozen? ⟨g, j, none⟩ = false := by
          have h := B.out
          unfold BOwn at h
          rw [F.out] at h
          exact World.ownsRow.frozenAt h j
        have P := Lib.hid (B.out.put F.out.symm j ((k + (j : Int)) % 3 == 0))
        rw [bmarked_set k f j hlt] at P
        have kj0 : 0 ≤ k + (j : Int) := by omega
        clear hr e2
        go_wp2_with fail
        go_roundw
        case rel => exact ⟨j + 1, by omega, by go_num, by go_num, grown_trans G.out P.out.2, P.out.1⟩
        case measure => simp [intOf]; omega
      · obtain rfl : j = f.length := by omega
        go_wp2_with fail
        go_ret
        exact ⟨rfl, G.out, by rw [← bmarked_all]; exact B.out⟩
set_option maxHeartbeats 1000000 in
set_option maxRecDepth 20000 in
theorem heldBx (v : Value) (n : Nat) (k : Int) (w : World) (h : Bl w v (bmarks k n)) (hl : n ≤ 1048576) (k0 : 0 ≤ k) (k1 : k ≤ 10000000) :
    Calls Try.prog 66 #[v, .int .i64 k] w fun e w' => e = .returned (.int .i64 (k + n)) ∧ w.grownBy w' none := by
  obtain ⟨a, cap, rfl, hlc, hcm, hr⟩ := h
  rw [bmarks_length] at hlc ⊢
  have R := Lib.hid hr
  clear hr
  unfold maxLen at hcm
  go_enter Try.func66, Try.ntmps66
  go_wp2_with fail
  go_loopw [1, 5] (fun m i wr => ∃ j : Nat, j ≤ n ∧ i = .int .i64 j ∧ m = .int .i64 (k + j) ∧ w.grownBy wr none) (fun _ i _ => n - (intOf i).toNat)
  case atStart => exact ⟨0, Nat.zero_le _, rfl, by simp, World.grownBy.refl _ _⟩
  case round =>
    obtain ⟨j, hj, rfl, rfl, hg⟩ := hrel
    have G := Lib.hid hg
    clear hg
    by_cases hlt : j < n
    · have hlt' : (j : Int) < n := by omega
      obtain ⟨b, o, rfl, hx⟩ := (R.out.grown G.out).at_ (k := j) (by rw [bmarks_length]; exact hlt)
      rw [bmarks_get k n j hlt] at hx
      have kj0 : 0 ≤ k + (j : Int) := by omega
      obtain ⟨q, hq⟩ : ∃ q, ((k + (j : Int)) % 3 == 0) = q := ⟨_, rfl⟩
      have hqq : (q != q) = false := by cases q <;> rfl
      rw [hq] at hx
      go_wp2_with fail
      go_roundw
      case rel => exact ⟨j + 1, by omega, by go_num, by go_num, by first | exact G.out | exact grown_draws G.out _⟩
      case measure => simp [intOf]; omega
    · have : j = n := by omega
      subst this
      go_wp2_with fail
      go_ret
      exact ⟨rfl, G.out⟩
set_option maxHeartbeats 4000000 in
set_option maxRecDepth 20000 in
theorem markStripeL (w0 : World) (L : List Item) (kd k : Int) (u x y : Value) (a v : List Int) (f : List Bool) (w : World) (h : Lives w0 w (row1 u a :: row1 x v :: bool1 y f :: L)) (h1 : a.length ≤ 1048576) (h2 : v.length ≤ 1048576) (h3 : f.length ≤ 1048576) (k0 : 0 ≤ k) (k1 : k ≤ 1000) :
    Calls Try.prog 28 #[.agg #[.int .i64 kd, u, x, y], .int .i64 k] w fun e w' => e = .returned (.int .i64 (k + a.length + v.length + f.length)) ∧ Lives w0 w' (row1 u (marks k a.length) :: row1 x (marks (k + a.length) v.length) :: bool1 y (bmarks (k + a.length + v.length) f.length) :: L) := by
  have L0 := Lib.hid h
  clear h
  obtain ⟨a1, c1, e1, -, -, -⟩ := (L0.out.sl (v := u) (l := a) (by simp))
  obtain ⟨a2, c2, e2, -, -, -⟩ := (L0.out.sl (v := x) (l := v) (by simp))
  obtain ⟨a3, c3, e3, -, -, -⟩ := (L0.out.bl (v := y) (l := f) (by simp))
  subst e1 e2 e3
  obtain ⟨l1, hl1⟩ : ∃ n, n = a.length := ⟨_, rfl⟩
  obtain ⟨l2, hl2⟩ : ∃ n, n = v.length := ⟨_, rfl⟩
  obtain ⟨l3, hl3⟩ : ∃ n, n = f.length := ⟨_, rfl⟩
  rw [← hl1] at L0 ⊢
  rw [← hl2] at L0 ⊢
  rw [← hl3] at L0 ⊢
  have NL1 := Lib.hid hl1
  have NL2 := Lib.hid hl2
  have NL3 := Lib.hid hl3
  have K0 : Hid (Blk (w.alloc (.cells #[.int .i64 kd, .slice a1 l1 c1, .slice a2 l2 c2, .slice a3 l3 c3] 45)) w.heap.size 45 [.int .i64 kd, .slice a1 l1 c1, .slice a2 l2 c2, .slice a3 l3 c3]) := Lib.hid (heap_alloc_new _ _)
  have L1 := Lib.hid (L0.out.newBlk (World.grownBy_alloc w (.cells #[.int .i64 kd, .slice a1 l1 c1, .slice a2 l2 c2, .slice a3 l3 c3] 45) none) K0.out (Nat.le_refl _) (by simp [maxLen]) (by simp [Value.oneCell']))
  clear K0 L0 hl1 hl2 hl3
  go_enter Try.func28, Try.ntmps28
  go_upto_region 1 with fail
  generalize w.alloc (.cells #[.int .i64 kd, .slice a1 l1 c1, .slice a2 l2 c2, .slice a3 l3 c3] 45) = W1 at *
  generalize w.heap.size = g at *
  have c1' := (L1.out.blk (g := g) (t := 45) (cs := [.int .i64 kd, .slice a1 l1 c1, .slice a2 l2 c2, .slice a3 l3 c3]) (by simp)).cell (i := 1) rfl
  have OA := Lib.hid (row1_own.1 (L1.out.own.1 (row1 (.slice a1 l1 c1) a) (by simp)))
  go_wp2_with fail
  refine (markIntS _ a k _ _ OA.out (by omega) (by omega) (by omega)).mono ?_
  rintro e W2 ⟨rfl, hg, ho⟩
  have L2 : Hid (Lives w0 W2 ([blkI g 45 [.int .i64 kd, .slice a1 l1 c1, .slice a2 l2 c2, .slice a3 l3 c3]] ++ row1 (.slice a1 l1 c1) (marks k a.length) :: (row1 (.slice a2 l2 c2) v :: bool1 (.slice a3 l3 c3) f :: L))) := Lib.hid (Lives.put (A := [blkI g 45 [.int .i64 kd, .slice a1 l1 c1, .slice a2 l2 c2, .slice a3 l3 c3]]) (x := row1 (.slice a1 l1 c1) a) (x' := row1 (.slice a1 l1 c1) (marks k a.length)) (B := row1 (.slice a2 l2 c2) v :: bool1 (.slice a3 l3 c3) f :: L) L1.out rfl hg (row1_own.2 ho))
  clear hg ho L1 OA c1'
  have c2' := (L2.out.blk (g := g) (t := 45) (cs := [.int .i64 kd, .slice a1 l1 c1, .slice a2 l2 c2, .slice a3 l3 c3]) (by simp)).cell (i := 2) rfl
  have OV := Lib.hid (row1_own.1 (L2.out.own.1 (row1 (.slice a2 l2 c2) v) (by simp)))
  rw [← NL1.out] at L2 ⊢
  go_wp2_with fail
  refine (markIntS _ v (k + l1) _ _ OV.out (by omega) (by have := NL1.out; have := NL2.out; omega) (by have := NL1.out; have := NL2.out; omega)).mono ?_
  rintro e W3 ⟨rfl, hg, ho⟩
  have L3 : Hid (Lives w0 W3 ([blkI g 45 [.int .i64 kd, .slice a1 l1 c1, .slice a2 l2 c2, .slice a3 l3 c3], row1 (.slice a1 l1 c1) (marks k l1)] ++ row1 (.slice a2 l2 c2) (marks (k + l1) v.length) :: (bool1 (.slice a3 l3 c3) f :: L))) := Lib.hid (Lives.put (A := [blkI g 45 [.int .i64 kd, .slice a1 l1 c1, .slice a2 l2 c2, .slice a3 l3 c3], row1 (.slice a1 l1 c1) (marks k l1)]) (x := row1 (.slice a2 l2 c2) v) (x' := row1 (.slice a2 l2 c2) (marks (k + l1) v.length)) (B := bool1 (.slice a3 l3 c3) f :: L) L2.out rfl hg (row1_own.2 ho))
  clear hg ho L2 OV c2'
  have c3' := (L3.out.blk (g := g) (t := 45) (cs := [.int .i64 kd, .slice a1 l1 c1, .slice a2 l2 c2, .slice a3 l3 c3]) (by simp)).cell (i := 3) rfl
  have OF := Lib.hid (bool1_own.1 (L3.out.own.1 (bool1 (.slice a3 l3 c3) f) (by simp)))
  rw [← NL2.out] at L3 ⊢
  go_wp2_with fail
  refine (markBx _ f (k + l1 + l2) _ _ OF.out (by omega) (by have := NL1.out; have := NL2.out; omega) (by have := NL1.out; have := NL2.out; omega)).mono ?_
  rintro e W4 ⟨rfl, hg, ho⟩
  have L4 : Hid (Lives w0 W4 ([blkI g 45 [.int .i64 kd, .slice a1 l1 c1, .slice a2 l2 c2, .slice a3 l3 c3], row1 (.slice a1 l1 c1) (marks k l1), row1 (.slice a2 l2 c2) (marks (k + l1) l2)] ++ bool1 (.slice a3 l3 c3) (bmarks (k + l1 + l2) f.length) :: L)) := Lib.hid (Lives.put (A := [blkI g 45 [.int .i64 kd, .slice a1 l1 c1, .slice a2 l2 c2, .slice a3 l3 c3], row1 (.slice a1 l1 c1) (marks k l1), row1 (.slice a2 l2 c2) (marks (k + l1) l2)]) (x := bool1 (.slice a3 l3 c3) f) (x' := bool1 (.slice a3 l3 c3) (bmarks (k + l1 + l2) f.length)) (B := L) L3.out rfl hg (bool1_own.2 ho))
  clear hg ho L3 OF c3'
  rw [← NL3.out] at L4 ⊢
  go_wp2_with fail
  go_ret
  refine ⟨rfl, ⟨L4.out.below, ?_⟩⟩
  have := L4.out.own
  exact ⟨fun q hq => this.1 q (List.mem_cons_of_mem _ hq), (List.pairwise_cons.1 this.2).2⟩
set_option maxHeartbeats 4000000 in
set_option maxRecDepth 20000 in
theorem heldStripeL (kd k : Int) (u x y : Value) (n m o : Nat) (w : World) (hu : Sl w u (marks k n)) (hx : Sl w x (marks (k + n) m)) (hy : Bl w y (bmarks (k + n + m) o)) (h1 : n ≤ 1048576) (h2 : m ≤ 1048576) (h3 : o ≤ 1048576) (k0 : 0 ≤ k) (k1 : k ≤ 1000) :
    Calls Try.prog 29 #[.agg #[.int .i64 kd, u, x, y], .int .i64 k] w fun e w' => e = .returned (.int .i64 (k + n + m + o)) ∧ w.grownBy w' none := by
  have U := Lib.hid hu
  have X := Lib.hid hx
  have Y := Lib.hid hy
  obtain ⟨a1, c1, e1, -, -, -⟩ := hu
  obtain ⟨a2, c2, e2, -, -, -⟩ := hx
  obtain ⟨a3, c3, e3, -, -, -⟩ := hy
  rw [marks_length] at e1 e2
  rw [bmarks_length] at e3
  subst e1 e2 e3
  have K0 : Hid (Blk (w.alloc (.cells #[.int .i64 kd, .slice a1 n c1, .slice a2 m c2, .slice a3 o c3] 45)) w.heap.size 45 [.int .i64 kd, .slice a1 n c1, .slice a2 m c2, .slice a3 o c3]) := Lib.hid (heap_alloc_new _ _)
  have G0 := Lib.hid (World.grownBy_alloc w (.cells #[.int .i64 kd, .slice a1 n c1, .slice a2 m c2, .slice a3 o c3] 45) none)
  go_enter Try.func29, Try.ntmps29
  go_upto_region 1 with fail
  generalize w.alloc (.cells #[.int .i64 kd, .slice a1 n c1, .slice a2 m c2, .slice a3 o c3] 45) = W1 at *
  generalize w.heap.size = g at *
  have c1' := K0.out.cell (i := 1) rfl
  have c2' := K0.out.cell (i := 2) rfl
  have c3' := K0.out.cell (i := 3) rfl
  have q1 : ¬ k + (n : Int) < 0 := by omega
  have q2 : ¬ k + (n : Int) + (m : Int) < 0 := by omega
  have q3 : ¬ k + (n : Int) + (m : Int) + (o : Int) < 0 := by omega
  go_wp2_with fail
  refine (heldIntS _ n k _ (U.out.grown G0.out) h1 (by omega) (by omega)).mono ?_
  rintro e w' ⟨rfl, rfl⟩
  go_wp2_with fail
  refine (heldIntS _ m (k + n) _ (X.out.grown G0.out) h2 (by omega) (by omega)).mono ?_
  rintro e w' ⟨rfl, rfl⟩
  go_wp2_with fail
  refine (heldBx _ o (k + n + m) _ (Y.out.grown G0.out) h3 (by omega) (by omega)).mono ?_
  rintro e w2 ⟨rfl, hg⟩
  have G2 := Lib.hid (grown_trans G0.out hg)
  clear hg c1' c2' c3'
  go_wp2_with fail
  go_ret
  exact ⟨rfl, G2.out⟩
end Go.Proofs.Ythglkgicckodaaa
