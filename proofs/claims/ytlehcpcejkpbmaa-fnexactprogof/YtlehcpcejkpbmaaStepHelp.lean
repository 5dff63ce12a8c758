/-
  The laws' own helpers on steps: how long they are, a copy, the same, marked, held.
  Conditions: at most 2^20 steps are copied; few are marked.
-/
import Derived.Test.YtlehcpcejkpbmaaStepTab
import Derived.Test.YtlehcpcejkpbmaaPlanDoOk
namespace Go.Proofs.Ytlehcpcejkpbmaa
open Go.RowKit
set_option linter.unusedVariables false

set_option maxRecDepth 20000 in
theorem eqStep (p x y : Int) (w : World) : Calls Try.prog 18 #[.agg #[.int .i64 p, .int .i64 x, .int .i64 y], .agg #[.int .i64 p, .int .i64 x, .int .i64 y]] w fun e w' => e = .returned (.bool true) ∧ w.grownBy w' none := by
  have hp : (p != p) = false := by simp
  have hx : (x != x) = false := by simp
  have hy : (y != y) = false := by simp
  go_enter Try.func18, Try.ntmps18
  go_wp2_with fail
  go_ret
  refine ⟨rfl, ?_⟩
  repeat' first | exact World.grownBy.refl _ _ | refine grown_alloc ?_ _ | refine grown_draws ?_ _

set_option maxHeartbeats 4000000 in
set_option maxRecDepth 20000 in
theorem eqStepS (u v : Value) (L : List Stp) (w : World) (h : SSl w u L) (k : SSl w v L) : Calls Try.prog 8 #[u, v] w fun e w' => e = .returned (.bool true) ∧ w.grownBy w' none := by
  obtain ⟨a, cap, rfl, hlc, hcm, hr⟩ := h
  obtain ⟨a', cap', rfl, hlc', hcm', hr'⟩ := k
  have R : Hid (Rds w a (sflat L)) := Lib.hid hr
  have R' : Hid (Rds w a' (sflat L)) := Lib.hid hr'
  clear hr hr'
  unfold maxLen at hcm hcm'
  obtain ⟨n, hn⟩ : ∃ n, n = L.length := ⟨_, rfl⟩
  rw [← hn] at hlc hlc' ⊢
  have N := Lib.hid hn
  clear hn
  have hne : ((n : Int) != (n : Int)) = false := by simp
  go_enter Try.func8, Try.ntmps8
  go_wp2_with fail
  go_loopw [5] (fun i wr => ∃ k : Nat, i = .int .i64 k ∧ k ≤ n ∧ w.grownBy wr none) (fun i _ => n - (intOf i).toNat)
  case atStart => exact ⟨0, rfl, Nat.zero_le _, World.grownBy.refl _ _⟩
  case round =>
    obtain ⟨k, rfl, hk, hg⟩ := hrel
    have G := Lib.hid hg
    clear hg
    by_cases hlt : k < n
    · have hlt' : (k : Int) < (n : Int) := by omega
      obtain ⟨b, o, rfl, c0, c1, c2⟩ := cells3 (R.out.grown G.out) (k := k) (by rw [← N.out]; exact hlt)
      obtain ⟨b', o', rfl, d0, d1, d2⟩ := cells3 (R'.out.grown G.out) (k := k) (by rw [← N.out]; exact hlt)
      generalize L.getD k szero = s at *
      obtain ⟨p, x, y⟩ := s
      have z0 : wr.drew.cell? ⟨b, o + k * 3, none⟩ = some (.int .i64 p) := c0
      have z1 : wr.drew.cell? ⟨b, o + k * 3 + 1, none⟩ = some (.int .i64 x) := c1
      have z2 : wr.drew.cell? ⟨b, o + k * 3 + 2, none⟩ = some (.int .i64 y) := c2
      have z3 : wr.drew.cell? ⟨b', o' + k * 3, none⟩ = some (.int .i64 p) := d0
      have z4 : wr.drew.cell? ⟨b', o' + k * 3 + 1, none⟩ = some (.int .i64 x) := d1
      have z5 : wr.drew.cell? ⟨b', o' + k * 3 + 2, none⟩ = some (.int .i64 y) := d2
      have GD := Lib.hid (grown_drew (World.grownBy.refl wr none))
      clear c0 c1 c2 d0 d1 d2
      go_wp2_with fail
      go_region_held3 (fun w' => (w'.cell? ⟨b, o + k * 3, none⟩ = some (.int .i64 p) ∧ w'.cell? ⟨b, o + k * 3 + 1, none⟩ = some (.int .i64 x) ∧ w'.cell? ⟨b, o + k * 3 + 2, none⟩ = some (.int .i64 y)) ∧ w'.cell? ⟨b', o' + k * 3, none⟩ = some (.int .i64 p) ∧ w'.cell? ⟨b', o' + k * 3 + 1, none⟩ = some (.int .i64 x) ∧ w'.cell? ⟨b', o' + k * 3 + 2, none⟩ = some (.int .i64 y))
        (first
          | with_reducible exact ⟨⟨z0, z1, z2⟩, z3, z4, z5⟩
          | with_reducible exact H1.out)
        (first
          | (go_at_call 18; refine (eqStep p x y _).mono ?_; rintro e w7 ⟨rfl, hg1⟩
             have H1 := Lib.hid (And.intro (And.intro (hg1.cell z0 (by simp)) (And.intro (hg1.cell z1 (by simp)) (hg1.cell z2 (by simp)))) (And.intro (hg1.cell z3 (by simp)) (And.intro (hg1.cell z4 (by simp)) (hg1.cell z5 (by simp)))))
             have D1 := Lib.hid hg1
             clear hg1))
      have G7 := Lib.hid (grown_trans (grown_trans G.out GD.out) D1.out)
      clear z0 z1 z2 z3 z4 z5 H1 D1 GD
      go_wp2_with fail
      go_roundw
      case rel => exact ⟨k + 1, by go_num, by omega, G7.out⟩
      case measure => simp [intOf]; omega
    · go_wp2_with fail
      go_ret
      exact ⟨rfl, G.out⟩

/-- steps partly copied. -/
def spart (L : List Stp) (k : Nat) : List Stp := L.take k ++ List.replicate (L.length - k) szero
theorem spart_len (L : List Stp) {k : Nat} (h : k ≤ L.length) : (spart L k).length = L.length := by simp [spart]; omega
theorem spart_all (L : List Stp) : spart L L.length = L := by simp [spart]
theorem made3 (n : Nat) : (madeCells #[Value.int .i64 0, .int .i64 0, .int .i64 0] n).toList = List.replicate n (.int .i64 0) := by
  apply List.ext_getElem?
  intro i
  by_cases hi : i < n
  · have hm : i % 3 = 0 ∨ i % 3 = 1 ∨ i % 3 = 2 := by omega
    simp [madeCells, hi]
    rcases hm with h | h | h <;> rw [h] <;> rfl
  · simp [madeCells, hi]
theorem sflat_rep : ∀ n, sflat (List.replicate n szero) = List.replicate (n * 3) 0
  | 0 => rfl
  | n + 1 => by
    rw [List.replicate_succ, sflat_cons, sflat_rep n, show (n + 1) * 3 = n * 3 + 1 + 1 + 1 by omega, List.replicate_succ, List.replicate_succ, List.replicate_succ]
    rfl
/-- a step put in its place. -/
theorem sflat_set (A B : List Stp) (s s' : Stp) : (((sflat (A ++ s :: B)).set (A.length * 3) s'.op).set (A.length * 3 + 1) s'.a).set (A.length * 3 + 2) s'.b = sflat (A ++ s' :: B) := by
  have hl := sflat_len A
  rw [sflat_app, sflat_app, sflat_cons, sflat_cons]
  rw [List.set_append_right _ _ (by omega), hl, Nat.sub_self]
  rw [List.set_append_right _ _ (by omega), hl, show A.length * 3 + 1 - A.length * 3 = 1 by omega]
  rw [List.set_append_right _ _ (by omega), hl, show A.length * 3 + 2 - A.length * 3 = 2 by omega]
  rfl
theorem spart_here {L : List Stp} {k : Nat} (h : k < L.length) : spart L k = L.take k ++ szero :: List.replicate (L.length - (k + 1)) szero := by
  unfold spart
  rw [show L.length - k = (L.length - (k + 1)) + 1 by omega, List.replicate_succ]
theorem spart_next {L : List Stp} {k : Nat} (h : k < L.length) : spart L (k + 1) = L.take k ++ L.getD k szero :: List.replicate (L.length - (k + 1)) szero := by
  unfold spart
  rw [take_snocS h, List.append_assoc]
  rfl
/-- a step is written in its place of an owned row. -/
theorem SOwn.put {w : World} {base g cap n : Nat} {A B : List Stp} {s : Stp} (h : SOwn w base (.slice (some ⟨g, 0, none⟩) n cap) (A ++ s :: B)) (hn : n = (A ++ s :: B).length) (s' : Stp) :
    SOwn (((w.setCell ⟨g, A.length * 3, none⟩ (.int .i64 s'.op)).setCell ⟨g, A.length * 3 + 1, none⟩ (.int .i64 s'.a)).setCell ⟨g, A.length * 3 + 2, none⟩ (.int .i64 s'.b)) base (.slice (some ⟨g, 0, none⟩) n cap) (A ++ s' :: B) ∧
    w.grownBy (((w.setCell ⟨g, A.length * 3, none⟩ (.int .i64 s'.op)).setCell ⟨g, A.length * 3 + 1, none⟩ (.int .i64 s'.a)).setCell ⟨g, A.length * 3 + 2, none⟩ (.int .i64 s'.b)) (some g) := by
  unfold SOwn at h
  rw [← hn] at h
  have h1 := World.ownsRow.stored h (A.length * 3) (.int .i64 s'.op)
  have h2 := World.ownsRow.stored h1.1 (A.length * 3 + 1) (.int .i64 s'.a)
  have h3 := World.ownsRow.stored h2.1 (A.length * 3 + 2) (.int .i64 s'.b)
  refine ⟨?_, grown_trans (grown_trans h1.2 h2.2) h3.2⟩
  have e := h3.1
  rw [vals_set, vals_set, vals_set, sflat_set] at e
  exact sown_len e (by rw [hn]; simp)
/-- a step's cells in an owned row. -/
theorem SOwn.at_ {w : World} {base : Nat} {v : Value} {L : List Stp} (h : SOwn w base v L) {i : Nat} (hi : i < L.length) : ∃ g c, v = .slice (some ⟨g, 0, none⟩) L.length c ∧ base ≤ g ∧ w.cell? ⟨g, i * 3, none⟩ = some (.int .i64 (L.getD i szero).op) ∧ w.cell? ⟨g, i * 3 + 1, none⟩ = some (.int .i64 (L.getD i szero).a) ∧ w.cell? ⟨g, i * 3 + 2, none⟩ = some (.int .i64 (L.getD i szero).b) ∧ ∀ j, w.frozen? ⟨g, j, none⟩ = false := by
  obtain ⟨a, cap, e, _, _, hr⟩ := h.sl
  obtain ⟨b, o, ea, c0, c1, c2⟩ := cells3 hr hi
  rcases h.2 with ⟨_, h0⟩ | ⟨g, cap', cur, e', hb, _⟩
  · omega
  · rw [ea] at e
    rw [e'] at e
    injection e with e1 e2 e3
    injection e1 with e1
    injection e1 with e4 e5
    subst e4 e5 e3
    rw [Nat.zero_add] at c0 c1 c2
    refine ⟨g, cap', e', hb, c0, c1, c2, fun j => World.ownsRow.frozenAt (by rw [e'] at h; exact h) j⟩

end Go.Proofs.Ytlehcpcejkpbmaa
