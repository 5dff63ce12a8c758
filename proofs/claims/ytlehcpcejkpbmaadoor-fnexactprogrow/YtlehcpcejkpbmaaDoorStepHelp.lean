/-
  The laws' own helpers on steps: how long they are, a copy, the same, marked, held.
  Conditions: at most 2^20 steps are copied; few are marked.
-/
import Derived.Test.YtlehcpcejkpbmaaDoorStepTab
import Derived.Test.YtlehcpcejkpbmaaDoorPlanDoOk
namespace Go.Proofs.YtlehcpcejkpbmaaDoor
open Go.RowKit
set_option linter.unusedVariables false

theorem szStepS (v : Value) (L : List Stp) (w : World) (h : SSl w v L) : Calls Tryd.prog 36 #[v, .int .i64 1048576] w fun e w' => (∃ q : Int, e = .returned (.int .i64 q) ∧ (q < 0 ∨ (0 ≤ q ∧ L.length ≤ 1048576))) ∧ w' = w := by
  obtain ⟨a, cap, rfl, h1, h2, _⟩ := h
  unfold maxLen at h2
  by_cases hb : (1048576 : Int) - L.length < 0
  · go_enter Tryd.func36, Tryd.ntmps36
    go_wp2_with fail
    go_ret
    exact ⟨⟨-1, rfl, .inl (by omega)⟩, rfl⟩
  · go_enter Tryd.func36, Tryd.ntmps36
    go_wp2_with fail
    go_ret
    exact ⟨⟨_, rfl, .inr ⟨by omega, by omega⟩⟩, rfl⟩

set_option maxRecDepth 20000 in
theorem toStep (p x y : Int) (w : World) : Calls Tryd.prog 75 #[.agg #[.int .i64 p, .int .i64 x, .int .i64 y]] w fun e w' => e = .returned (.agg #[.int .i64 p, .int .i64 x, .int .i64 y]) ∧ w.grownBy w' none := by
  have K : Blk (((w.alloc (.cells #[.int .i64 p, .int .i64 x, .int .i64 y] 105)).alloc (.cells #[.int .i64 p, .int .i64 x, .int .i64 y] 49)).alloc (.cells #[.int .i64 p, .int .i64 x, .int .i64 y] 49)) (w.heap.size + 1) 49 [.int .i64 p, .int .i64 x, .int .i64 y] := by
    have h : Blk ((w.alloc (.cells #[.int .i64 p, .int .i64 x, .int .i64 y] 105)).alloc (.cells #[.int .i64 p, .int .i64 x, .int .i64 y] 49)) (w.alloc (.cells #[.int .i64 p, .int .i64 x, .int .i64 y] 105)).heap.size 49 [.int .i64 p, .int .i64 x, .int .i64 y] := heap_alloc_new _ _
    rw [World.size_alloc] at h
    exact h.kept (World.grownBy_alloc _ _ none) (by simp)
  have r0 := K.cell (i := 0) rfl
  have r1 := K.cell (i := 1) rfl
  have r2 := K.cell (i := 2) rfl
  clear K
  go_enter Tryd.func75, Tryd.ntmps75
  go_wp2_with fail
  exact bodyPost_ret (v := .agg #[.int .i64 p, .int .i64 x, .int .i64 y]) (by simp [results, Tryd.results75, go_sem, r0, r1, r2]) rfl ⟨rfl, grown_alloc (grown_alloc (grown_alloc (World.grownBy.refl _ _) _) _) _⟩

set_option maxRecDepth 20000 in
theorem eqStep (p x y : Int) (w : World) : Calls Tryd.prog 76 #[.agg #[.int .i64 p, .int .i64 x, .int .i64 y], .agg #[.int .i64 p, .int .i64 x, .int .i64 y]] w fun e w' => e = .returned (.bool true) ∧ w.grownBy w' none := by
  have hp : (p != p) = false := by simp
  have hx : (x != x) = false := by simp
  have hy : (y != y) = false := by simp
  go_enter Tryd.func76, Tryd.ntmps76
  go_wp2_with fail
  go_ret
  refine ⟨rfl, ?_⟩
  repeat' first | exact World.grownBy.refl _ _ | refine grown_alloc ?_ _ | refine grown_draws ?_ _

set_option maxHeartbeats 4000000 in
set_option maxRecDepth 20000 in
theorem eqStepS (u v : Value) (L : List Stp) (w : World) (h : SSl w u L) (k : SSl w v L) : Calls Tryd.prog 38 #[u, v] w fun e w' => e = .returned (.bool true) ∧ w.grownBy w' none := by
  obtain ⟨a, cap, rfl, hlc, hcm, hr⟩ := h
  obtain ⟨a', cap', rfl, hlc', hcm', hr'⟩ := k
  have R : Hid (Rds w a (sflat L)) := Lib.hid hr
  have R' : Hid (Rds w a' (sflat L)) := Lib.hid hr'
  clear hr hr'
  unfold maxLen at hcm hcm'
  obtain ⟨n, hn⟩ : ∃ n, n = L.length := ⟨_, rfl⟩
  rw [← hn] at hlc hlc' ⊢
  have N := Lib.hid hn
  clear hn
  have hne : ((n : Int) != (n : Int)) = false := by simp
  go_enter Tryd.func38, Tryd.ntmps38
  go_wp2_with fail
  go_loopw [5] (fun i wr => ∃ k : Nat, i = .int .i64 k ∧ k ≤ n ∧ w.grownBy wr none) (fun i _ => n - (intOf i).toNat)
  case atStart => exact ⟨0, rfl, Nat.zero_le _, World.grownBy.refl _ _⟩
  case round =>
    obtain ⟨k, rfl, hk, hg⟩ := hrel
    have G := Lib.hid hg
    clear hg
    by_cases hlt : k < n
    · have hlt' : (k : Int) < (n : Int) := by omega
      obtain ⟨b, o, rfl, c0, c1, c2⟩ := cells3 (R.out.grown G.out) (k := k) (by rw [← N.out]; exact hlt)
      obtain ⟨b', o', rfl, d0, d1, d2⟩ := cells3 (R'.out.grown G.out) (k := k) (by rw [← N.out]; exact hlt)
      generalize L.getD k szero = s at *
      obtain ⟨p, x, y⟩ := s
      have z0 : wr.drew.cell? ⟨b, o + k * 3, none⟩ = some (.int .i64 p) := c0
      have z1 : wr.drew.cell? ⟨b, o + k * 3 + 1, none⟩ = some (.int .i64 x) := c1
      have z2 : wr.drew.cell? ⟨b, o + k * 3 + 2, none⟩ = some (.int .i64 y) := c2
      have z3 : wr.drew.cell? ⟨b', o' + k * 3, none⟩ = some (.int .i64 p) := d0
      have z4 : wr.drew.cell? ⟨b', o' + k * 3 + 1, none⟩ = some (.int .i64 x) := d1
      have z5 : wr.drew.cell? ⟨b', o' + k * 3 + 2, none⟩ = some (.int .i64 y) := d2
      have GD := Lib.hid (grown_drew (World.grownBy.refl wr none))
      clear c0 c1 c2 d0 d1 d2
      go_wp2_with fail
      go_region_held3 (fun w' => (w'.cell? ⟨b, o + k * 3, none⟩ = some (.int .i64 p) ∧ w'.cell? ⟨b, o + k * 3 + 1, none⟩ = some (.int .i64 x) ∧ w'.cell? ⟨b, o + k * 3 + 2, none⟩ = some (.int .i64 y)) ∧ w'.cell? ⟨b', o' + k * 3, none⟩ = some (.int .i64 p) ∧ w'.cell? ⟨b', o' + k * 3 + 1, none⟩ = some (.int .i64 x) ∧ w'.cell? ⟨b', o' + k * 3 + 2, none⟩ = some (.int .i64 y))
        (first
          | with_reducible exact ⟨⟨z0, z1, z2⟩, z3, z4, z5⟩
          | with_reducible exact H1.out)
        (first
          | (go_at_call 76; refine (eqStep p x y _).mono ?_; rintro e w7 ⟨rfl, hg1⟩
             have H1 := Lib.hid (And.intro (And.intro (hg1.cell z0 (by simp)) (And.intro (hg1.cell z1 (by simp)) (hg1.cell z2 (by simp)))) (And.intro (hg1.cell z3 (by simp)) (And.intro (hg1.cell z4 (by simp)) (hg1.cell z5 (by simp)))))
             have D1 := Lib.hid hg1
             clear hg1))
      have G7 := Lib.hid (grown_trans (grown_trans G.out GD.out) D1.out)
      clear z0 z1 z2 z3 z4 z5 H1 D1 GD
      go_wp2_with fail
      go_roundw
      case rel => exact ⟨k + 1, by go_num, by omega, G7.out⟩
      case measure => simp [intOf]; omega
    · go_wp2_with fail
      go_ret
      exact ⟨rfl, G.out⟩

/-- steps partly copied. -/
def spart (L : List Stp) (k : Nat) : List Stp := L.take k ++ List.replicate (L.length - k) szero
theorem spart_len (L : List Stp) {k : Nat} (h : k ≤ L.length) : (spart L k).length = L.length := by simp [spart]; omega
theorem spart_all (L : List Stp) : spart L L.length = L := by simp [spart]
theorem made3 (n : Nat) : (madeCells #[Value.int .i64 0, .int .i64 0, .int .i64 0] n).toList = List.replicate n (.int .i64 0) := by
  apply List.ext_getElem?
  intro i
  by_cases hi : i < n
  · have hm : i % 3 = 0 ∨ i % 3 = 1 ∨ i % 3 = 2 := by omega
    simp [madeCells, hi]
    rcases hm with h | h | h <;> rw [h] <;> rfl
  · simp [madeCells, hi]
theorem sflat_rep : ∀ n, sflat (List.replicate n szero) = List.replicate (n * 3) 0
  | 0 => rfl
  | n + 1 => by
    rw [List.replicate_succ, sflat_cons, sflat_rep n, show (n + 1) * 3 = n * 3 + 1 + 1 + 1 by omega, List.replicate_succ, List.replicate_succ, List.replicate_succ]
    rfl
/-- a step put in its place. -/
theorem sflat_set (A B : List Stp) (s s' : Stp) : (((sflat (A ++ s :: B)).set (A.length * 3) s'.op).set (A.length * 3 + 1) s'.a).set (A.length * 3 + 2) s'.b = sflat (A ++ s' :: B) := by
  have hl := sflat_len A
  rw [sflat_app, sflat_app, sflat_cons, sflat_cons]
  rw [List.set_append_right _ _ (by omega), hl, Nat.sub_self]
  rw [List.set_append_right _ _ (by omega), hl, show A.length * 3 + 1 - A.length * 3 = 1 by omega]
  rw [List.set_append_right _ _ (by omega), hl, show A.length * 3 + 2 - A.length * 3 = 2 by omega]
  rfl
theorem spart_here {L : List Stp} {k : Nat} (h : k < L.length) : spart L k = L.take k ++ szero :: List.replicate (L.length - (k + 1)) szero := by
  unfold spart
  rw [show L.length - k = (L.length - (k + 1)) + 1 by omega, List.replicate_succ]
theorem spart_next {L : List Stp} {k : Nat} (h : k < L.length) : spart L (k + 1) = L.take k ++ L.getD k szero :: List.replicate (L.length - (k + 1)) szero := by
  unfold spart
  rw [take_snocS h, List.append_assoc]
  rfl
/-- a step is written in its place of an owned row. -/
theorem SOwn.put {w : World} {base g cap n : Nat} {A B : List Stp} {s : Stp} (h : SOwn w base (.slice (some ⟨g, 0, none⟩) n cap) (A ++ s :: B)) (hn : n = (A ++ s :: B).length) (s' : Stp) :
    SOwn (((w.setCell ⟨g, A.length * 3, none⟩ (.int .i64 s'.op)).setCell ⟨g, A.length * 3 + 1, none⟩ (.int .i64 s'.a)).setCell ⟨g, A.length * 3 + 2, none⟩ (.int .i64 s'.b)) base (.slice (some ⟨g, 0, none⟩) n cap) (A ++ s' :: B) ∧
    w.grownBy (((w.setCell ⟨g, A.length * 3, none⟩ (.int .i64 s'.op)).setCell ⟨g, A.length * 3 + 1, none⟩ (.int .i64 s'.a)).setCell ⟨g, A.length * 3 + 2, none⟩ (.int .i64 s'.b)) (some g) := by
  unfold SOwn at h
  rw [← hn] at h
  have h1 := World.ownsRow.stored h (A.length * 3) (.int .i64 s'.op)
  have h2 := World.ownsRow.stored h1.1 (A.length * 3 + 1) (.int .i64 s'.a)
  have h3 := World.ownsRow.stored h2.1 (A.length * 3 + 2) (.int .i64 s'.b)
  refine ⟨?_, grown_trans (grown_trans h1.2 h2.2) h3.2⟩
  have e := h3.1
  rw [vals_set, vals_set, vals_set, sflat_set] at e
  exact sown_len e (by rw [hn]; simp)
/-- a step's cells in an owned row. -/
theorem SOwn.at_ {w : World} {base : Nat} {v : Value} {L : List Stp} (h : SOwn w base v L) {i : Nat} (hi : i < L.length) : ∃ g c, v = .slice (some ⟨g, 0, none⟩) L.length c ∧ base ≤ g ∧ w.cell? ⟨g, i * 3, none⟩ = some (.int .i64 (L.getD i szero).op) ∧ w.cell? ⟨g, i * 3 + 1, none⟩ = some (.int .i64 (L.getD i szero).a) ∧ w.cell? ⟨g, i * 3 + 2, none⟩ = some (.int .i64 (L.getD i szero).b) ∧ ∀ j, w.frozen? ⟨g, j, none⟩ = false := by
  obtain ⟨a, cap, e, _, _, hr⟩ := h.sl
  obtain ⟨b, o, ea, c0, c1, c2⟩ := cells3 hr hi
  rcases h.2 with ⟨_, h0⟩ | ⟨g, cap', cur, e', hb, _⟩
  · omega
  · rw [ea] at e
    rw [e'] at e
    injection e with e1 e2 e3
    injection e1 with e1
    injection e1 with e4 e5
    subst e4 e5 e3
    rw [Nat.zero_add] at c0 c1 c2
    refine ⟨g, cap', e', hb, c0, c1, c2, fun j => World.ownsRow.frozenAt (by rw [e'] at h; exact h) j⟩

set_option maxHeartbeats 4000000 in
set_option maxRecDepth 20000 in
theorem toStepS (v : Value) (L : List Stp) (w : World) (h : SSl w v L) (hl : L.length ≤ 1048576) : Calls Tryd.prog 37 #[v] w (NewSteps L w) := by
  obtain ⟨a, cap, rfl, hlc, hcm, hr⟩ := h
  have R : Hid (Rds w a (sflat L)) := Lib.hid hr
  clear hr
  obtain ⟨i0, hi, hz0, hz1, hz2⟩ := info_parts infoStep
  have I1 := Lib.hid hi
  have I2 := Lib.hid hz0
  have I3 := Lib.hid hz1
  have I4 := Lib.hid hz2
  clear hi hz0 hz1 hz2
  unfold maxLen at hcm
  obtain ⟨n, hn⟩ : ∃ n, n = L.length := ⟨_, rfl⟩
  rw [← hn] at hlc hl ⊢
  have N := Lib.hid hn
  clear hn
  have hn0 : (0 : Int) ≤ (n : Int) := by omega
  go_enter Tryd.func37, Tryd.ntmps37
  go_wp2_with (at_make; refine wpList_make_full _ rfl _ _ 27 rfl w.heap.size 49 i0 (.agg #[.int .i64 0, .int .i64 0, .int .i64 0]) 3 Tryd.underlying27 I1.out I2.out I3.out _ _ _ _ n rfl rfl rfl rfl ?b1 ?b2 ?b3 ?_)
  case b1 => rw [I4.out]; omega
  case b2 => unfold maxLen; omega
  case b3 => exact Nat.le_refl _
  intro w1 ho hg
  have C0 : Hid (w.grownBy w1 none ∧ SOwn w1 w.heap.size (.slice (some ⟨w.heap.size, 0, none⟩) n n) (spart L 0)) := Lib.hid ⟨hg, sown_len (n := n) (by
    rw [made3] at ho
    rw [show spart L 0 = List.replicate n szero by simp [spart, N.out], sflat_rep]
    simpa [vals] using ho) (by rw [spart_len L (Nat.zero_le _), N.out])⟩
  clear ho hg
  generalize hgg : w.heap.size = g at C0 ⊢
  have GG := Lib.hid hgg
  clear hgg
  go_wp2_with fail
  go_loopw [4] (fun i wr => ∃ k : Nat, i = .int .i64 k ∧ k ≤ n ∧ w.grownBy wr none ∧ SOwn wr g (.slice (some ⟨g, 0, none⟩) n n) (spart L k)) (fun i _ => n - (intOf i).toNat)
  case atStart => exact ⟨0, rfl, Nat.zero_le _, C0.out⟩
  case round =>
    obtain ⟨k, rfl, hk, hg, ho⟩ := hrel
    have G := Lib.hid hg
    have O := Lib.hid ho
    clear hg ho C0
    by_cases hlt : k < n
    · have hlt' : (k : Int) < (n : Int) := by omega
      have hkL : k < L.length := by rw [← N.out]; exact hlt
      obtain ⟨b, o, rfl, c0, c1, c2⟩ := cells3 (R.out.grown G.out) hkL
      have SP := Lib.hid (spart_next hkL)
      have SH := Lib.hid (spart_here hkL)
      generalize L.getD k szero = s at *
      obtain ⟨p, x, y⟩ := s
      have c0' : wr.cell? ⟨b, o + k * 3, none⟩ = some (.int .i64 p) := c0
      have c1' : wr.cell? ⟨b, o + k * 3 + 1, none⟩ = some (.int .i64 x) := c1
      have c2' : wr.cell? ⟨b, o + k * 3 + 2, none⟩ = some (.int .i64 y) := c2
      clear c0 c1 c2
      go_wp2_with fail
      refine (toStep p x y _).mono ?_
      rintro e w2 ⟨rfl, hg2⟩
      have G2 := Lib.hid (grown_trans G.out hg2)
      have O2 := Lib.hid (O.out.still hg2)
      clear hg2 c0' c1' c2' O G
      have hlen : (L.take k).length = k := by rw [List.length_take]; omega
      obtain ⟨g', c', e', _, d0, d1, d2, fz⟩ := O2.out.at_ (i := k) (by rw [spart_len L (by omega), ← N.out]; exact hlt)
      injection e' with e1 e2 e3
      injection e1 with e1
      injection e1 with e1
      subst e1
      clear e2 e3
      have f0 := fz (k * 3)
      have f1 := fz (k * 3 + 1)
      have f2 := fz (k * 3 + 2)
      have PU := Lib.hid (SOwn.put (by rw [SH.out] at O2; exact O2.out) (by rw [← SH.out, spart_len L (by omega), N.out]) (⟨p, x, y⟩ : Stp))
      rw [hlen] at PU
      have O3 : Hid (SOwn (((w2.setCell ⟨g, k * 3, none⟩ (.int .i64 p)).setCell ⟨g, k * 3 + 1, none⟩ (.int .i64 x)).setCell ⟨g, k * 3 + 2, none⟩ (.int .i64 y)) g (.slice (some ⟨g, 0, none⟩) n n) (spart L (k + 1))) := Lib.hid (by rw [SP.out]; exact PU.out.1)
      have G3 : Hid (w.grownBy (((w2.setCell ⟨g, k * 3, none⟩ (.int .i64 p)).setCell ⟨g, k * 3 + 1, none⟩ (.int .i64 x)).setCell ⟨g, k * 3 + 2, none⟩ (.int .i64 y)) none) := Lib.hid (grown_own G2.out PU.out.2 (fun j hj => by injection hj with hj; have := GG.out; omega))
      generalize ((spart L k).getD k szero) = old at *
      obtain ⟨po, xo, yo⟩ := old
      have d0' : w2.cell? ⟨g, k * 3, none⟩ = some (.int .i64 po) := d0
      have d1' : w2.cell? ⟨g, k * 3 + 1, none⟩ = some (.int .i64 xo) := d1
      have d2' : w2.cell? ⟨g, k * 3 + 2, none⟩ = some (.int .i64 yo) := d2
      clear d0 d1 d2 fz PU O2 G2 hlen SP SH
      go_wp2_with fail
      go_roundw
      case rel => exact ⟨k + 1, by go_num, by omega, G3.out, O3.out⟩
      case measure => simp [intOf]; omega
    · obtain rfl : k = n := by omega
      have O4 : Hid (SOwn wr w.heap.size (.slice (some ⟨g, 0, none⟩) k k) L) := Lib.hid (by
        have := O.out
        rw [N.out, spart_all] at this
        rw [GG.out, N.out]
        exact this)
      go_wp2_with fail
      go_ret
      exact ⟨_, rfl, G.out, O4.out⟩
end Go.Proofs.YtlehcpcejkpbmaaDoor
