/-
  The laws' own helpers on patches: how long they are, a copy, the same, marked, held.
  Conditions: at most 2^20 patches are copied; few are marked.
-/
import Derived.Test.YthglkgicckodaaaPatchTab
import Derived.Test.YthglkgicckodaaaG1
import Derived.Test.YthglkgicckodaaaG3
namespace Go.Proofs.Ythglkgicckodaaa
open Go.RowKit
set_option linter.unusedVariables false

theorem szPatchS (v : Value) (L : List Pat) (w : World) (h : PSl w v L) : Calls Try.prog 37 #[v, .int .i64 1048576] w fun e w' => (∃ q : Int, e = .returned (.int .i64 q) ∧ (q < 0 ∨ (0 ≤ q ∧ L.length ≤ 1048576))) ∧ w' = w := by
  obtain ⟨a, cap, rfl, h1, h2, _⟩ := h
  unfold maxLen at h2
  by_cases hb : (1048576 : Int) - L.length < 0
  · go_enter Try.func37, Try.ntmps37
    go_wp2_with fail
    go_ret
    exact ⟨⟨-1, rfl, .inl (by omega)⟩, rfl⟩
  · go_enter Try.func37, Try.ntmps37
    go_wp2_with fail
    go_ret
    exact ⟨⟨_, rfl, .inr ⟨by omega, by omega⟩⟩, rfl⟩

set_option maxRecDepth 20000 in
theorem toPatch (p x : Int) (w : World) : Calls Try.prog 30 #[.agg #[.int .i64 p, .int .i64 x]] w fun e w' => e = .returned (.agg #[.int .i64 p, .int .i64 x]) ∧ w.grownBy w' none := by
  have K : Blk (((w.alloc (.cells #[.int .i64 p, .int .i64 x] 52)).alloc (.cells #[.int .i64 p, .int .i64 x] 32)).alloc (.cells #[.int .i64 p, .int .i64 x] 32)) (w.heap.size + 1) 32 [.int .i64 p, .int .i64 x] := by
    have h : Blk ((w.alloc (.cells #[.int .i64 p, .int .i64 x] 52)).alloc (.cells #[.int .i64 p, .int .i64 x] 32)) (w.alloc (.cells #[.int .i64 p, .int .i64 x] 52)).heap.size 32 [.int .i64 p, .int .i64 x] := heap_alloc_new _ _
    rw [World.size_alloc] at h
    exact h.kept (World.grownBy_alloc _ _ none) (by simp)
  have r0 := K.cell (i := 0) rfl
  have r1 := K.cell (i := 1) rfl
  clear K
  go_enter Try.func30, Try.ntmps30
  go_wp2_with fail
  exact bodyPost_ret (v := .agg #[.int .i64 p, .int .i64 x]) (by simp [results, Try.results30, go_sem, r0, r1]) rfl ⟨rfl, grown_alloc (grown_alloc (grown_alloc (World.grownBy.refl _ _) _) _) _⟩

set_option maxRecDepth 20000 in
theorem eqPatch (p x : Int) (w : World) : Calls Try.prog 67 #[.agg #[.int .i64 p, .int .i64 x], .agg #[.int .i64 p, .int .i64 x]] w fun e w' => e = .returned (.bool true) ∧ w.grownBy w' none := by
  have hp : (p != p) = false := by simp
  have hx : (x != x) = false := by simp
  go_enter Try.func67, Try.ntmps67
  go_wp2_with fail
  go_ret
  refine ⟨rfl, ?_⟩
  repeat' first | exact World.grownBy.refl _ _ | refine grown_alloc ?_ _ | refine grown_draws ?_ _

set_option maxHeartbeats 4000000 in
set_option maxRecDepth 20000 in
theorem eqPatchS (u v : Value) (L : List Pat) (w : World) (h : PSl w u L) (k : PSl w v L) : Calls Try.prog 32 #[u, v] w fun e w' => e = .returned (.bool true) ∧ w.grownBy w' none := by
  obtain ⟨a, cap, rfl, hlc, hcm, hr⟩ := h
  obtain ⟨a', cap', rfl, hlc', hcm', hr'⟩ := k
  have R : Hid (Rds w a (pflat L)) := Lib.hid hr
  have R' : Hid (Rds w a' (pflat L)) := Lib.hid hr'
  clear hr hr'
  unfold maxLen at hcm hcm'
  obtain ⟨n, hn⟩ : ∃ n, n = L.length := ⟨_, rfl⟩
  rw [← hn] at hlc hlc' ⊢
  have N := Lib.hid hn
  clear hn
  have hne : ((n : Int) != (n : Int)) = false := by simp
  go_enter Try.func32, Try.ntmps32
  go_wp2_with fail
  go_loopw [5] (fun i wr => ∃ k : Nat, i = .int .i64 k ∧ k ≤ n ∧ w.grownBy wr none) (fun i _ => n - (intOf i).toNat)
  case atStart => exact ⟨0, rfl, Nat.zero_le _, World.grownBy.refl _ _⟩
  case round =>
    obtain ⟨k, rfl, hk, hg⟩ := hrel
    have G := Lib.hid hg
    clear hg
    by_cases hlt : k < n
    · have hlt' : (k : Int) < (n : Int) := by omega
      obtain ⟨b, o, rfl, c0, c1⟩ := pcells (R.out.grown G.out) (k := k) (by rw [← N.out]; exact hlt)
      obtain ⟨b', o', rfl, d0, d1⟩ := pcells (R'.out.grown G.out) (k := k) (by rw [← N.out]; exact hlt)
      generalize L.getD k pat0 = s at *
      obtain ⟨p, x⟩ := s
      have z0 : wr.drew.cell? ⟨b, o + k * 2, none⟩ = some (.int .i64 p) := c0
      have z1 : wr.drew.cell? ⟨b, o + k * 2 + 1, none⟩ = some (.int .i64 x) := c1
      have z3 : wr.drew.cell? ⟨b', o' + k * 2, none⟩ = some (.int .i64 p) := d0
      have z4 : wr.drew.cell? ⟨b', o' + k * 2 + 1, none⟩ = some (.int .i64 x) := d1
      have GD := Lib.hid (grown_drew (World.grownBy.refl wr none))
      clear c0 c1 d0 d1
      go_wp2_with fail
      go_region_held3 (fun w' => (w'.cell? ⟨b, o + k * 2, none⟩ = some (.int .i64 p) ∧ w'.cell? ⟨b, o + k * 2 + 1, none⟩ = some (.int .i64 x)) ∧ w'.cell? ⟨b', o' + k * 2, none⟩ = some (.int .i64 p) ∧ w'.cell? ⟨b', o' + k * 2 + 1, none⟩ = some (.int .i64 x))
        (first
          | with_reducible exact ⟨⟨z0, z1⟩, z3, z4⟩
          | with_reducible exact H1.out)
        (first
          | (go_at_call 67; refine (eqPatch p x _).mono ?_; rintro e w7 ⟨rfl, hg1⟩
             have H1 := Lib.hid (And.intro (And.intro (hg1.cell z0 (by simp)) (hg1.cell z1 (by simp))) (And.intro (hg1.cell z3 (by simp)) (hg1.cell z4 (by simp))))
             have D1 := Lib.hid hg1
             clear hg1))
      have G7 := Lib.hid (grown_trans (grown_trans G.out GD.out) D1.out)
      clear z0 z1 z3 z4 H1 D1 GD
      go_wp2_with fail
      go_roundw
      case rel => exact ⟨k + 1, by go_num, by omega, G7.out⟩
      case measure => simp [intOf]; omega
    · go_wp2_with fail
      go_ret
      exact ⟨rfl, G.out⟩

theorem take_snocQ {L : List Pat} {i : Nat} (h : i < L.length) : L.take (i + 1) = L.take i ++ [L.getD i pat0] := by
  rw [List.take_succ_eq_append_getElem h]; simp [List.getD_eq_getElem?_getD, h]
/-- patches partly copied. -/
def ppart (L : List Pat) (k : Nat) : List Pat := L.take k ++ List.replicate (L.length - k) pat0
theorem ppart_len (L : List Pat) {k : Nat} (h : k ≤ L.length) : (ppart L k).length = L.length := by simp [ppart]; omega
theorem ppart_all (L : List Pat) : ppart L L.length = L := by simp [ppart]
theorem made2 (n : Nat) : (madeCells #[Value.int .i64 0, .int .i64 0] n).toList = List.replicate n (.int .i64 0) := by
  apply List.ext_getElem?
  intro i
  by_cases hi : i < n
  · have hm : i % 2 = 0 ∨ i % 2 = 1 := by omega
    simp [madeCells, hi]
    rcases hm with h | h <;> rw [h] <;> rfl
  · simp [madeCells, hi]
theorem pflat_rep : ∀ n, pflat (List.replicate n pat0) = List.replicate (n * 2) 0
  | 0 => rfl
  | n + 1 => by
    rw [List.replicate_succ, pflat_cons, pflat_rep n, show (n + 1) * 2 = n * 2 + 1 + 1 by omega, List.replicate_succ, List.replicate_succ]
    rfl
/-- a patch put in its place. -/
theorem pflat_set (A B : List Pat) (s s' : Pat) : ((pflat (A ++ s :: B)).set (A.length * 2) s'.at').set (A.length * 2 + 1) s'.dif = pflat (A ++ s' :: B) := by
  have hl := pflat_len A
  rw [pflat_app, pflat_app, pflat_cons, pflat_cons]
  rw [List.set_append_right _ _ (by omega), hl, Nat.sub_self]
  rw [List.set_append_right _ _ (by omega), hl, show A.length * 2 + 1 - A.length * 2 = 1 by omega]
  rfl
theorem ppart_here {L : List Pat} {k : Nat} (h : k < L.length) : ppart L k = L.take k ++ pat0 :: List.replicate (L.length - (k + 1)) pat0 := by
  unfold ppart
  rw [show L.length - k = (L.length - (k + 1)) + 1 by omega, List.replicate_succ]
theorem ppart_next {L : List Pat} {k : Nat} (h : k < L.length) : ppart L (k + 1) = L.take k ++ L.getD k pat0 :: List.replicate (L.length - (k + 1)) pat0 := by
  unfold ppart
  rw [take_snocQ h, List.append_assoc]
  rfl
/-- a patch is written in its place of an owned row. -/
theorem POwn.put {w : World} {base g cap n : Nat} {A B : List Pat} {s : Pat} (h : POwn w base (.slice (some ⟨g, 0, none⟩) n cap) (A ++ s :: B)) (hn : n = (A ++ s :: B).length) (s' : Pat) :
    POwn ((w.setCell ⟨g, A.length * 2, none⟩ (.int .i64 s'.at')).setCell ⟨g, A.length * 2 + 1, none⟩ (.int .i64 s'.dif)) base (.slice (some ⟨g, 0, none⟩) n cap) (A ++ s' :: B) ∧
    w.grownBy ((w.setCell ⟨g, A.length * 2, none⟩ (.int .i64 s'.at')).setCell ⟨g, A.length * 2 + 1, none⟩ (.int .i64 s'.dif)) (some g) := by
  unfold POwn at h
  rw [← hn] at h
  have h1 := World.ownsRow.stored h (A.length * 2) (.int .i64 s'.at')
  have h2 := World.ownsRow.stored h1.1 (A.length * 2 + 1) (.int .i64 s'.dif)
  refine ⟨?_, grown_trans h1.2 h2.2⟩
  have e := h2.1
  rw [vals_set, vals_set, pflat_set] at e
  exact pown_len e (by rw [hn]; simp)
/-- a patch's cells in an owned row. -/
theorem POwn.at_ {w : World} {base : Nat} {v : Value} {L : List Pat} (h : POwn w base v L) {i : Nat} (hi : i < L.length) : ∃ g c, v = .slice (some ⟨g, 0, none⟩) L.length c ∧ base ≤ g ∧ w.cell? ⟨g, i * 2, none⟩ = some (.int .i64 (L.getD i pat0).at') ∧ w.cell? ⟨g, i * 2 + 1, none⟩ = some (.int .i64 (L.getD i pat0).dif) ∧ ∀ j, w.frozen? ⟨g, j, none⟩ = false := by
  obtain ⟨a, cap, e, _, _, hr⟩ := h.sl
  obtain ⟨b, o, ea, c0, c1⟩ := pcells hr hi
  rcases h.2 with ⟨_, h0⟩ | ⟨g, cap', cur, e', hb, _⟩
  · omega
  · rw [ea] at e
    rw [e'] at e
    injection e with e1 e2 e3
    injection e1 with e1
    injection e1 with e4 e5
    subst e4 e5 e3
    rw [Nat.zero_add] at c0 c1
    refine ⟨g, cap', e', hb, c0, c1, fun j => World.ownsRow.frozenAt (by rw [e'] at h; exact h) j⟩

set_option maxHeartbeats 4000000 in
set_option maxRecDepth 20000 in
theorem toPatchS (v : Value) (L : List Pat) (w : World) (h : PSl w v L) (hl : L.length ≤ 1048576) : Calls Try.prog 38 #[v] w (NewPats L w) := by
  obtain ⟨a, cap, rfl, hlc, hcm, hr⟩ := h
  have R : Hid (Rds w a (pflat L)) := Lib.hid hr
  clear hr
  obtain ⟨i0, hi, hz0, hz1, hz2⟩ := info_parts infoPatch
  have I1 := Lib.hid hi
  have I2 := Lib.hid hz0
  have I3 := Lib.hid hz1
  have I4 := Lib.hid hz2
  clear hi hz0 hz1 hz2
  unfold maxLen at hcm
  obtain ⟨n, hn⟩ : ∃ n, n = L.length := ⟨_, rfl⟩
  rw [← hn] at hlc hl ⊢
  have N := Lib.hid hn
  clear hn
  have hn0 : (0 : Int) ≤ (n : Int) := by omega
  go_enter Try.func38, Try.ntmps38
  go_wp2_with (at_make; refine wpList_make_full _ rfl _ _ 26 rfl w.heap.size 32 i0 (.agg #[.int .i64 0, .int .i64 0]) 2 Try.underlying26 I1.out I2.out I3.out _ _ _ _ n rfl rfl rfl rfl ?b1 ?b2 ?b3 ?_)
  case b1 => rw [I4.out]; omega
  case b2 => unfold maxLen; omega
  case b3 => exact Nat.le_refl _
  intro w1 ho hg
  have C0 : Hid (w.grownBy w1 none ∧ POwn w1 w.heap.size (.slice (some ⟨w.heap.size, 0, none⟩) n n) (ppart L 0)) := Lib.hid ⟨hg, pown_len (n := n) (by
    rw [made2] at ho
    rw [show ppart L 0 = List.replicate n pat0 by simp [ppart, N.out], pflat_rep]
    simpa [vals] using ho) (by rw [ppart_len L (Nat.zero_le _), N.out])⟩
  clear ho hg
  generalize hgg : w.heap.size = g at C0 ⊢
  have GG := Lib.hid hgg
  clear hgg
  go_wp2_with fail
  go_loopw [4] (fun i wr => ∃ k : Nat, i = .int .i64 k ∧ k ≤ n ∧ w.grownBy wr none ∧ POwn wr g (.slice (some ⟨g, 0, none⟩) n n) (ppart L k)) (fun i _ => n - (intOf i).toNat)
  case atStart => exact ⟨0, rfl, Nat.zero_le _, C0.out⟩
  case round =>
    obtain ⟨k, rfl, hk, hg, ho⟩ := hrel
    have G := Lib.hid hg
    have O := Lib.hid ho
    clear hg ho C0
    by_cases hlt : k < n
    · have hlt' : (k : Int) < (n : Int) := by omega
      have hkL : k < L.length := by rw [← N.out]; exact hlt
      obtain ⟨b, o, rfl, c0, c1⟩ := pcells (R.out.grown G.out) hkL
      have SP := Lib.hid (ppart_next hkL)
      have SH := Lib.hid (ppart_here hkL)
      generalize L.getD k pat0 = s at *
      obtain ⟨p, x⟩ := s
      have c0' : wr.cell? ⟨b, o + k * 2, none⟩ = some (.int .i64 p) := c0
      have c1' : wr.cell? ⟨b, o + k * 2 + 1, none⟩ = some (.int .i64 x) := c1
      clear c0 c1
      go_wp2_with fail
      refine (toPatch p x _).mono ?_
      rintro e w2 ⟨rfl, hg2⟩
      have G2 := Lib.hid (grown_trans G.out hg2)
      have O2 := Lib.hid (O.out.still hg2)
      clear hg2 c0' c1' O G
      have hlen : (L.take k).length = k := by rw [List.length_take]; omega
      obtain ⟨g', c', e', _, d0, d1, fz⟩ := O2.out.at_ (i := k) (by rw [ppart_len L (by omega), ← N.out]; exact hlt)
      injection e' with e1 e2 e3
      injection e1 with e1
      injection e1 with e1
      subst e1
      clear e2 e3
      have f0 := fz (k * 2)
      have f1 := fz (k * 2 + 1)
      have PU := Lib.hid (POwn.put (by rw [SH.out] at O2; exact O2.out) (by rw [← SH.out, ppart_len L (by omega), N.out]) (⟨p, x⟩ : Pat))
      rw [hlen] at PU
      have O3 : Hid (POwn ((w2.setCell ⟨g, k * 2, none⟩ (.int .i64 p)).setCell ⟨g, k * 2 + 1, none⟩ (.int .i64 x)) g (.slice (some ⟨g, 0, none⟩) n n) (ppart L (k + 1))) := Lib.hid (by rw [SP.out]; exact PU.out.1)
      have G3 : Hid (w.grownBy ((w2.setCell ⟨g, k * 2, none⟩ (.int .i64 p)).setCell ⟨g, k * 2 + 1, none⟩ (.int .i64 x)) none) := Lib.hid (grown_own G2.out PU.out.2 (fun j hj => by injection hj with hj; have := GG.out; omega))
      generalize ((ppart L k).getD k pat0) = old at *
      obtain ⟨po, xo⟩ := old
      have d0' : w2.cell? ⟨g, k * 2, none⟩ = some (.int .i64 po) := d0
      have d1' : w2.cell? ⟨g, k * 2 + 1, none⟩ = some (.int .i64 xo) := d1
      clear d0 d1 fz PU O2 G2 hlen SP SH
      go_wp2_with fail
      go_roundw
      case rel => exact ⟨k + 1, by go_num, by omega, G3.out, O3.out⟩
      case measure => simp [intOf]; omega
    · obtain rfl : k = n := by omega
      have O4 : Hid (POwn wr w.heap.size (.slice (some ⟨g, 0, none⟩) k k) L) := Lib.hid (by
        have := O.out
        rw [N.out, ppart_all] at this
        rw [GG.out, N.out]
        exact this)
      go_wp2_with fail
      go_ret
      exact ⟨_, rfl, G.out, O4.out⟩
end Go.Proofs.Ythglkgicckodaaa
