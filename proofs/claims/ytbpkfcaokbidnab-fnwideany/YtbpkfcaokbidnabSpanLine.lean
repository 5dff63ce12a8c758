/-
  The contracts of the program's lines: a line is a block of twelve numbers, which is scaled, added to, cleared in place.
  Conditions: none.
-/
import Derived.Test.YtbpkfcaokbidnabVec
import Derived.Test.YtbpkfcaokbidnabSpanWork
import Derived.StillTailTactics
import Derived.Deep.RegionWith
namespace Go.Proofs.Ytbpkfcaokbidnab
open Go.RowKit
set_option linter.unusedVariables false

/-- the first k are those of l', the others those of l. -/
def mixed (l l' : List Int) (k : Nat) : List Int := l'.take k ++ l.drop k
theorem mixed_none (l l' : List Int) : mixed l l' 0 = l := by simp [mixed]
theorem mixed_all {l l' : List Int} (h : l'.length = l.length) : mixed l l' l.length = l' := by
  unfold mixed; rw [List.drop_length, List.append_nil, List.take_of_length_le (by omega)]
theorem mixed_len {l l' : List Int} (h : l'.length = l.length) (k : Nat) : (mixed l l' k).length = l.length := by
  unfold mixed; rw [List.length_append, List.length_take, List.length_drop]; omega
theorem mixed_get {l l' : List Int} (h : l'.length = l.length) {k : Nat} (hk : k < l.length) : (mixed l l' k).getD k 0 = l.getD k 0 := by
  unfold mixed
  rw [List.getD_eq_getElem?_getD, List.getElem?_append_right (by rw [List.length_take]; omega), List.length_take, List.getElem?_drop, List.getD_eq_getElem?_getD]
  congr 2; omega
theorem mixed_set {l l' : List Int} (h : l'.length = l.length) {k : Nat} (hk : k < l.length) : (mixed l l' k).set k (l'.getD k 0) = mixed l l' (k + 1) := by
  unfold mixed
  rw [List.set_append_right _ _ (by rw [List.length_take]; omega), List.length_take, show k - min k l'.length = 0 by omega, List.drop_eq_getElem_cons hk, List.set_cons_zero,
    List.take_succ_eq_append_getElem (by omega), List.append_assoc]
  simp [List.getD_eq_getElem?_getD, show k < l'.length by omega]
theorem mixed_four {l l' : List Int} (h : l'.length = l.length) (hl : 4 ≤ l.length) : (((l.set 0 (l'.getD 0 0)).set 1 (l'.getD 1 0)).set 2 (l'.getD 2 0)).set 3 (l'.getD 3 0) = mixed l l' 4 := by
  have e := mixed_none l l'
  rw [← mixed_set h (k := 3) (by omega), ← mixed_set h (k := 2) (by omega), ← mixed_set h (k := 1) (by omega), ← mixed_set h (k := 0) (by omega), e]

/-- what a call leaves that changes the line at block g. -/
def LineNow (g : Nat) (l : List Int) (w : World) (e : Ending) (w' : World) : Prop := e = .returned (.tuple #[]) ∧ w.grownBy w' (some g) ∧ Arr w' g 157 l
theorem grown_at {a w : World} {g : Nat} (h : a.grownBy w (some g)) (i : Nat) (u : Value) : a.grownBy (w.setCell ⟨g, i, none⟩ u) (some g) :=
  ⟨h.os, h.tape, h.output, by simpa [World.setCell] using h.size, fun k hk hr => (Below.heap_setCell w ⟨g, i, none⟩ u k (fun e => hr (by rw [e]))).trans (h.block k hk hr)⟩
theorem grown_some {a w : World} (h : a.grownBy w none) (g : Nat) : a.grownBy w (some g) := ⟨h.os, h.tape, h.output, h.size, fun k hk _ => h.block k hk (by simp)⟩
structure Lining (w : World) (g : Nat) (l l' : List Int) (k : Nat) (wr : World) : Prop where
  grown : w.grownBy wr (some g)
  arr : Arr wr g 157 (mixed l l' k)
theorem Lining.drew {w wr : World} {g k : Nat} {l l' : List Int} (h : Lining w g l l' k wr) : Lining w g l l' k wr.drew := ⟨grown_drew h.grown, h.arr.drew⟩
theorem Lining.next {w wr : World} {g k : Nat} {l l' : List Int} (h : Lining w g l l' k wr) (hl : l'.length = l.length) (hk : k < l.length) : Lining w g l l' (k + 1) (wr.setCell ⟨g, k, none⟩ (.int .i64 (l'.getD k 0))) :=
  ⟨grown_at h.grown _ _, by rw [← mixed_set hl hk]; exact h.arr.put _ _⟩
theorem Lining.first {w w1 : World} {g : Nat} {l l' : List Int} (hg : w.grownBy w1 none) (ha : Arr w g 157 l) (hl : l'.length = l.length) (h4 : 4 ≤ l.length) :
    Lining w g l l' 4 ((((w1.setCell ⟨g, 0, none⟩ (.int .i64 (l'.getD 0 0))).setCell ⟨g, 1, none⟩ (.int .i64 (l'.getD 1 0))).setCell ⟨g, 2, none⟩ (.int .i64 (l'.getD 2 0))).setCell ⟨g, 3, none⟩ (.int .i64 (l'.getD 3 0))) :=
  ⟨grown_at (grown_at (grown_at (grown_at (grown_some hg g) _ _) _ _) _ _) _ _, by rw [← mixed_four hl h4]; exact ((((ha.still hg).put _ _).put _ _).put _ _).put _ _⟩
theorem four_of_row {l : List Int} (h : Sp.Row 12 l) : ∃ x y z t r, l = x :: y :: z :: t :: r ∧ r.length = 8 ∧ Fld.ok x = true ∧ Fld.ok y = true ∧ Fld.ok z = true ∧ Fld.ok t = true := by
  match l, h.1 with
  | x :: y :: z :: t :: r, h4 => exact ⟨x, y, z, t, r, rfl, by simpa using h4, h.2 x (by simp), h.2 y (by simp), h.2 z (by simp), h.2 t (by simp)⟩

set_option maxHeartbeats 2000000 in
set_option maxRecDepth 20000 in
theorem lineScale (g : Nat) (l : List Int) (c : Int) (w : World) (h : Arr w g 157 l) (hl : Sp.Row 12 l) (hc : Fld.ok c = true) :
    Calls Try.prog 128 #[.pointer (some ⟨g, 0, none⟩), .int .i64 c] w (LineNow g (Sp.lmul l c) w) := by
  have LL : Hid ((Sp.lmul l c).length = l.length) := Lib.hid (by simp [Sp.lmul])
  have L12 := Lib.hid hl.1
  have OL := Lib.hid hl
  have A := Lib.hid h
  have SG := Lib.hid (fun (i : Nat) (hi : i < l.length) => Sp.lmul_get (l := l) c hi)
  obtain ⟨x, y, z, t, r, rfl, hr, hx, hy, hz, ht⟩ := four_of_row hl
  have a0 : w.cell? ⟨g, 0, none⟩ = some (.int .i64 x) := h.cell (by simp)
  have a1 : w.cell? ⟨g, 1, none⟩ = some (.int .i64 y) := h.cell (by simp)
  have a2 : w.cell? ⟨g, 2, none⟩ = some (.int .i64 z) := h.cell (by simp)
  have a3 : w.cell? ⟨g, 3, none⟩ = some (.int .i64 t) := h.cell (by simp)
  have hlt := h.lt
  clear h hl
  have HX := Lib.hid hx
  have HY := Lib.hid hy
  have HZ := Lib.hid hz
  have HT := Lib.hid ht
  clear hx hy hz ht
  go_enter Try.func128, Try.ntmps128
  go_wp2_with fail
  refine (rowScale [x, y, z, t] c _ (Vec.ok_mk HX.out HY.out HZ.out HT.out) hc).mono ?_
  rintro e w1 ⟨rfl, hg⟩
  have S0 : Hid (Lining w g (x :: y :: z :: t :: r) (Sp.lmul (x :: y :: z :: t :: r) c) 4 ((((w1.setCell ⟨g, 0, none⟩ (.int .i64 (x * c % 31))).setCell ⟨g, 1, none⟩ (.int .i64 (y * c % 31))).setCell ⟨g, 2, none⟩ (.int .i64 (z * c % 31))).setCell ⟨g, 3, none⟩ (.int .i64 (t * c % 31)))) := Lib.hid (Lining.first hg A.out LL.out (by simp))
  have b0 : w1.cell? ⟨g, 0, none⟩ = some (.int .i64 x) := (A.out.still hg).cell (by simp)
  have b1 : w1.cell? ⟨g, 1, none⟩ = some (.int .i64 y) := (A.out.still hg).cell (by simp)
  have b2 : w1.cell? ⟨g, 2, none⟩ = some (.int .i64 z) := (A.out.still hg).cell (by simp)
  have b3 : w1.cell? ⟨g, 3, none⟩ = some (.int .i64 t) := (A.out.still hg).cell (by simp)
  have f0 := (A.out.still hg).frozen 0
  have f1 := (A.out.still hg).frozen 1
  have f2 := (A.out.still hg).frozen 2
  have f3 := (A.out.still hg).frozen 3
  clear a0 a1 a2 a3 hg
  simp only [List.map_cons, List.map_nil, vals]
  go_wp2_with fail
  clear b0 b1 b2 b3 f0 f1 f2 f3
  generalize ((((w1.setCell ⟨g, 0, none⟩ (.int .i64 (x * c % 31))).setCell ⟨g, 1, none⟩ (.int .i64 (y * c % 31))).setCell ⟨g, 2, none⟩ (.int .i64 (z * c % 31))).setCell ⟨g, 3, none⟩ (.int .i64 (t * c % 31))) = w2 at *
  obtain ⟨l, hle⟩ : ∃ l, x :: y :: z :: t :: r = l := ⟨_, rfl⟩
  rw [hle] at S0 LL L12 OL A SG
  have E := Lib.hid hle
  clear hle
  go_loopw [14] (fun i wr => ∃ k : Nat, k ≤ 8 ∧ i = .int .i64 k ∧ Lining w g l (Sp.lmul l c) (4 + k) wr) (fun i _ => 8 - (intOf i).toNat)
  case atStart => exact ⟨0, by omega, rfl, S0.out⟩
  case round =>
    obtain ⟨k, hk, rfl, hs⟩ := hrel
    by_cases hlt : k < 8
    · have hk12 : 4 + k < l.length := by have := L12.out; omega
      have S := Lib.hid hs.drew
      have c0 : wr.drew.cell? ⟨g, 4 + k, none⟩ = some (.int .i64 (l.getD (4 + k) 0)) := by rw [S.out.arr.cell (by rw [mixed_len LL.out]; exact hk12), mixed_get LL.out hk12]
      have f0 : wr.drew.frozen? ⟨g, 4 + k, none⟩ = false := S.out.arr.frozen _
      have sg := SG.out _ hk12
      have p0 := OL.out.get (4 + k)
      obtain ⟨p, hp⟩ : ∃ p, l.getD (4 + k) 0 = p := ⟨_, rfl⟩
      rw [hp] at c0 p0 sg
      have P := Lib.hid sg
      have hlt' : (k : Int) < 8 := by omega
      clear hs hp sg S0
      go_wp2_with fail
      refine wp_region_still_tail 13 (by kernel_rfl) (by kernel_rfl) ?_
      simp only [List.take_succ_cons, List.take_zero, List.drop_succ_cons, List.drop_zero]
      change wpStill _ _ wr.drew (fun a' => wpList _ _ _ _ a' wr.drew) _ _
      generalize wr.drew = w3 at *
      repeat still_step
      refine wpStill_step (fun K hK => ?_)
      go_simp
      refine ⟨_, stillMul _ _ _ p0 hc, hK _ ?_⟩
      clear hK K
      repeat still_step
      refine wpStill_nil ?_
      go_wp2_with fail
      go_roundw
      case rel => exact ⟨k + 1, by omega, by go_num, by have := S.out.next LL.out hk12; rw [P.out] at this; exact this⟩
      case measure => simp [intOf]; omega
    · have : k = 8 := by omega
      subst this
      have G := Lib.hid hs.grown
      have B : Hid (Arr wr g 157 (Sp.lmul l c)) := Lib.hid (by have := hs.arr; rw [show 4 + 8 = l.length from L12.out.symm, mixed_all LL.out] at this; exact this)
      clear hs S0
      go_wp2_with fail
      exact bodyPost_ret (v := .tuple #[]) (by simp [results, Try.results128, go_sem]) rfl ⟨rfl, G.out, by rw [E.out]; exact B.out⟩

theorem far4_cell {w : World} {g k i : Nat} {u a b c d : Value} (h : w.cell? ⟨k, i, none⟩ = some u) (hne : k ≠ g) :
    ((((w.setCell ⟨g, 0, none⟩ a).setCell ⟨g, 1, none⟩ b).setCell ⟨g, 2, none⟩ c).setCell ⟨g, 3, none⟩ d).cell? ⟨k, i, none⟩ = some u := by
  have key : ∀ (w : World) (j : Nat) (x : Value), (w.setCell ⟨g, j, none⟩ x).cell? ⟨k, i, none⟩ = w.cell? ⟨k, i, none⟩ := fun w j x => World.cell?_setCell_other _ _ _ _ (fun e => hne (by injection e with e; exact e.symm))
  rw [key, key, key, key, h]
theorem add_short (a b : Int) : (a + b % 31) % 31 = (a + b) % 31 := by omega
theorem ok_scale4 {x y z t c : Int} : Vec.ok [x * c % 31, y * c % 31, z * c % 31, t * c % 31] = true := Vec.ok_mk (Vec.mod_is _) (Vec.mod_is _) (Vec.mod_is _) (Vec.mod_is _)

set_option maxHeartbeats 2000000 in
set_option maxRecDepth 20000 in
theorem lineAdd (g k : Nat) (l m : List Int) (c : Int) (w : World) (h : Arr w g 157 l) (h' : Arr w k 157 m) (hne : k ≠ g) (hl : Sp.Row 12 l) (hm : Sp.Row 12 m) (hc : Fld.ok c = true) :
    Calls Try.prog 160 #[.pointer (some ⟨g, 0, none⟩), .pointer (some ⟨k, 0, none⟩), .int .i64 c] w (LineNow g (Sp.ladd l (Sp.lmul m c)) w) := by
  have LL : Hid ((Sp.ladd l (Sp.lmul m c)).length = l.length) := Lib.hid (by simp [Sp.ladd, Sp.lmul, hl.1, hm.1])
  have L12 := Lib.hid hl.1
  have M12 := Lib.hid hm.1
  have OL := Lib.hid hl
  have OM := Lib.hid hm
  have A := Lib.hid h
  have B := Lib.hid h'
  have NE := Lib.hid hne
  have SG : Hid (∀ (i : Nat), i < 12 → (Sp.ladd l (Sp.lmul m c)).getD i 0 = (l.getD i 0 + m.getD i 0 * c) % 31) := Lib.hid (fun i hi => by
    rw [← add_short, Sp.ladd_get (by rw [hl.1]; exact hi) (by simp [Sp.lmul, hm.1]; exact hi), Sp.lmul_get c (by rw [hm.1]; exact hi)])
  obtain ⟨x, y, z, t, r, rfl, hr, hx, hy, hz, ht⟩ := four_of_row hl
  obtain ⟨x', y', z', t', r', rfl, hr', hx', hy', hz', ht'⟩ := four_of_row hm
  have a0 : w.drew.cell? ⟨g, 0, none⟩ = some (.int .i64 x) := h.drew.cell (by simp)
  have a1 : w.drew.cell? ⟨g, 1, none⟩ = some (.int .i64 y) := h.drew.cell (by simp)
  have a2 : w.drew.cell? ⟨g, 2, none⟩ = some (.int .i64 z) := h.drew.cell (by simp)
  have a3 : w.drew.cell? ⟨g, 3, none⟩ = some (.int .i64 t) := h.drew.cell (by simp)
  have b0 : w.drew.cell? ⟨k, 0, none⟩ = some (.int .i64 x') := h'.drew.cell (by simp)
  have b1 : w.drew.cell? ⟨k, 1, none⟩ = some (.int .i64 y') := h'.drew.cell (by simp)
  have b2 : w.drew.cell? ⟨k, 2, none⟩ = some (.int .i64 z') := h'.drew.cell (by simp)
  have b3 : w.drew.cell? ⟨k, 3, none⟩ = some (.int .i64 t') := h'.drew.cell (by simp)
  have KX := Lib.hid (Vec.ok_mk hx hy hz ht)
  have KY := Lib.hid (Vec.ok_mk hx' hy' hz' ht')
  clear h h' hl hm hx hy hz ht hx' hy' hz' ht' hne
  go_enter Try.func160, Try.ntmps160
  go_wp2_with fail
  go_region_with (first
      | (go_at_call 106; refine (rowScale [x', y', z', t'] c _ KY.out hc).mono ?_; rintro e w1 ⟨rfl, hg1⟩
         have G1 := Lib.hid hg1
         have c0 := hg1.cell b0 (by simp)
         have c1 := hg1.cell b1 (by simp)
         have c2 := hg1.cell b2 (by simp)
         have c3 := hg1.cell b3 (by simp)
         have e0 := hg1.cell a0 (by simp)
         have e1 := hg1.cell a1 (by simp)
         have e2 := hg1.cell a2 (by simp)
         have e3 := hg1.cell a3 (by simp)
         clear hg1
         simp only [List.map_cons, List.map_nil, vals])
      | (go_at_call 105; refine (rowSum [x, y, z, t] [x' * c % 31, y' * c % 31, z' * c % 31, t' * c % 31] _ KX.out ok_scale4).mono ?_; rintro e w2 ⟨rfl, hg2⟩
         have G2 := Lib.hid hg2
         have d0 := hg2.cell c0 (by simp)
         have d1 := hg2.cell c1 (by simp)
         have d2 := hg2.cell c2 (by simp)
         have d3 := hg2.cell c3 (by simp)
         have q0 := hg2.cell e0 (by simp)
         have q1 := hg2.cell e1 (by simp)
         have q2 := hg2.cell e2 (by simp)
         have q3 := hg2.cell e3 (by simp)
         have f0 := ((A.out.drew.still G1.out).still hg2).frozen 0
         have f1 := ((A.out.drew.still G1.out).still hg2).frozen 1
         have f2 := ((A.out.drew.still G1.out).still hg2).frozen 2
         have f3 := ((A.out.drew.still G1.out).still hg2).frozen 3
         clear hg2
         simp only [List.zipWith_cons_cons, List.zipWith_nil_right, List.map_cons, List.map_nil, vals]))
  all_goals
    have S0 : Hid (Lining w g (x :: y :: z :: t :: r) (Sp.ladd (x :: y :: z :: t :: r) (Sp.lmul (x' :: y' :: z' :: t' :: r') c)) 4 ((((w2.setCell ⟨g, 0, none⟩ (.int .i64 ((x + x' * c % 31) % 31))).setCell ⟨g, 1, none⟩ (.int .i64 ((y + y' * c % 31) % 31))).setCell ⟨g, 2, none⟩ (.int .i64 ((z + z' * c % 31) % 31))).setCell ⟨g, 3, none⟩ (.int .i64 ((t + t' * c % 31) % 31)))) := Lib.hid (Lining.first (grown_trans (grown_trans (grown_drew (World.grownBy.refl _ _)) G1.out) G2.out) A.out LL.out (by simp))
    simp only [add_short] at S0
    clear a0 a1 a2 a3 b0 b1 b2 b3 c0 c1 c2 c3 d0 d1 d2 d3 e0 e1 e2 e3 q0 q1 q2 q3 f0 f1 f2 f3 G1 G2 KX KY
    go_wp2_with fail
    generalize ((((w2.setCell ⟨g, 0, none⟩ (.int .i64 ((x + x' * c) % 31))).setCell ⟨g, 1, none⟩ (.int .i64 ((y + y' * c) % 31))).setCell ⟨g, 2, none⟩ (.int .i64 ((z + z' * c) % 31))).setCell ⟨g, 3, none⟩ (.int .i64 ((t + t' * c) % 31))) = w3 at *
    obtain ⟨l, hle⟩ : ∃ l, x :: y :: z :: t :: r = l := ⟨_, rfl⟩
    obtain ⟨m, hme⟩ : ∃ m, x' :: y' :: z' :: t' :: r' = m := ⟨_, rfl⟩
    rw [hle, hme] at S0
    rw [hle] at L12 OL
    rw [hme] at M12 OM B
    rw [hle, hme] at LL SG
    have E := Lib.hid hle
    have E' := Lib.hid hme
    clear hle hme
    go_loopw [21] (fun i wr => ∃ j : Nat, j ≤ 8 ∧ i = .int .i64 j ∧ Lining w g l (Sp.ladd l (Sp.lmul m c)) (4 + j) wr) (fun i _ => 8 - (intOf i).toNat)
    case atStart => exact ⟨0, by omega, rfl, S0.out⟩
    case round =>
      obtain ⟨j, hj, rfl, hs⟩ := hrel
      by_cases hlt : j < 8
      · have hk12 : 4 + j < l.length := by have := L12.out; omega
        have S := Lib.hid hs.drew
        have c0 : wr.drew.cell? ⟨g, 4 + j, none⟩ = some (.int .i64 (l.getD (4 + j) 0)) := by rw [S.out.arr.cell (by rw [mixed_len LL.out]; exact hk12), mixed_get LL.out hk12]
        have f0 : wr.drew.frozen? ⟨g, 4 + j, none⟩ = false := S.out.arr.frozen _
        have c1 : wr.drew.cell? ⟨k, 4 + j, none⟩ = some (.int .i64 (m.getD (4 + j) 0)) := (B.out.kept S.out.grown (fun e => NE.out (by injection e))).cell (by have := M12.out; omega)
        have sg := SG.out (4 + j) (by omega)
        have p0 := OL.out.get (4 + j)
        have p1 := OM.out.get (4 + j)
        obtain ⟨p, hp⟩ : ∃ p, l.getD (4 + j) 0 = p := ⟨_, rfl⟩
        obtain ⟨q, hq⟩ : ∃ q, m.getD (4 + j) 0 = q := ⟨_, rfl⟩
        rw [hp] at c0 p0 sg
        rw [hq] at c1 p1 sg
        have P := Lib.hid sg
        have hlt' : (j : Int) < 8 := by omega
        have PM : Hid (Fld.ok (q * c % 31) = true) := Lib.hid (Vec.mod_is _)
        clear hs hp hq sg S0
        go_wp2_with fail
        refine wp_region_still_tail 20 (by kernel_rfl) (by kernel_rfl) ?_
        simp only [List.take_succ_cons, List.take_zero, List.drop_succ_cons, List.drop_zero]
        change wpStill _ _ wr.drew (fun a' => wpList _ _ _ _ a' wr.drew) _ _
        generalize wr.drew = w4 at *
        repeat still_step
        refine wpStill_step (fun K hK => ?_)
        go_simp
        refine ⟨_, stillMul _ _ _ p1 hc, hK _ ?_⟩
        clear hK K
        refine wpStill_step (fun K hK => ?_)
        go_simp
        refine ⟨_, stillSum _ _ _ p0 PM.out, hK _ ?_⟩
        clear hK K
        repeat still_step
        refine wpStill_nil ?_
        go_wp2_with fail
        go_roundw
        case rel => exact ⟨j + 1, by omega, by go_num, by have := S.out.next LL.out hk12; rw [P.out] at this; exact this⟩
        case measure => simp [intOf]; omega
      · have : j = 8 := by omega
        subst this
        have G := Lib.hid hs.grown
        have BB : Hid (Arr wr g 157 (Sp.ladd l (Sp.lmul m c))) := Lib.hid (by have := hs.arr; rw [show 4 + 8 = l.length from L12.out.symm, mixed_all LL.out] at this; exact this)
        clear hs S0
        go_wp2_with fail
        exact bodyPost_ret (v := .tuple #[]) (by simp [results, Try.results160, go_sem]) rfl ⟨rfl, G.out, by rw [E.out, E'.out]; exact BB.out⟩

set_option maxHeartbeats 1000000 in
set_option maxRecDepth 20000 in
theorem lineClear (g k p : Nat) (l m : List Int) (w : World) (h : Arr w g 157 l) (h' : Arr w k 157 m) (hne : k ≠ g) (hl : Sp.Row 12 l) (hm : Sp.Row 12 m) (hp : p < 4) :
    Calls Try.prog 152 #[.pointer (some ⟨g, 0, none⟩), .int .i64 p, .pointer (some ⟨k, 0, none⟩)] w (LineNow g (Sp.lclear p l m) w) := by
  have A := Lib.hid h
  have B := Lib.hid h'
  have OL := Lib.hid hl
  have OM := Lib.hid hm
  have NE := Lib.hid hne
  have c0 : w.cell? ⟨g, p, none⟩ = some (.int .i64 (l.getD p 0)) := h.cell (by rw [hl.1]; omega)
  have p0 := hl.get p
  have LC : Hid (Sp.lclear p l m = Sp.ladd l (Sp.lmul m (-(l.getD p 0) % 31))) := Lib.hid rfl
  obtain ⟨x, hx⟩ : ∃ x, l.getD p 0 = x := ⟨_, rfl⟩
  rw [hx] at c0 p0 LC
  have hp' : (p : Int) < 4 := by omega
  clear h h' hl hm hne hx
  go_enter Try.func152, Try.ntmps152
  go_wp2_with fail
  refine (elemDif 0 x _ rfl p0).mono ?_
  rintro e w' ⟨rfl, rfl⟩
  rw [show (0 - x) % 31 = -x % 31 by rw [Int.zero_sub]]
  obtain ⟨c, hc⟩ : ∃ c, -x % 31 = c := ⟨_, rfl⟩
  rw [hc] at LC ⊢
  have C : Hid (Fld.ok c = true) := Lib.hid (hc ▸ Vec.mod_is _)
  clear hc
  go_wp2_with fail
  refine (lineAdd g k l m c _ A.out B.out NE.out OL.out OM.out C.out).mono ?_
  rintro e w2 ⟨rfl, hg, ha⟩
  have G := Lib.hid hg
  have HA := Lib.hid ha
  clear hg ha
  go_wp2_with fail
  exact bodyPost_ret (v := .tuple #[]) (by simp [results, Try.results152, go_sem]) rfl ⟨rfl, G.out, by rw [LC.out]; exact HA.out⟩
end Go.Proofs.Ytbpkfcaokbidnab
