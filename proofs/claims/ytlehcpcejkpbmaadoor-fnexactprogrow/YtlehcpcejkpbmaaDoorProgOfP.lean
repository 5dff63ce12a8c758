/-
  The contracts of the program's own programs: steps that are made to operations, or refused; ProgOk; ProgMany.
  Conditions: none.
-/
import Derived.Test.YtlehcpcejkpbmaaDoorProgStep
namespace Go.Proofs.YtlehcpcejkpbmaaDoor
open Go.RowKit
set_option linter.unusedVariables false

theorem infoOp : (Tryd.prog.info? 113).map (fun i => (i.zero, i.size, i.bytes)) = some (some .nilIface, 1, 16) := by kernel_rfl
/-- a slice of operations that is owned: those of the steps L. -/
def Prg (w : World) (base : Nat) (v : Value) (L : List Stp) : Prop := w.ownsRow base 113 1 v L.length (L.map opV)
theorem Prg.still {w w' : World} {base : Nat} {v : Value} {L : List Stp} (h : Prg w base v L) (hg : w.grownBy w' none) : Prg w' base v L :=
  World.ownsRow.kept h hg (by cases v.ownBlock <;> simp)
theorem Prg.none_ (w : World) (base : Nat) : Prg w base (.slice none 0 0) [] := World.ownsRow_nil _ _ _ _
theorem Prg.snoc {w : World} {base n : Nat} {v : Value} {L M : List Stp} {s : Stp} (h : w.ownsRow base 113 1 v n (L.map opV ++ [opV s])) (hn : n = L.length + 1) (hM : M = L ++ [s]) : Prg w base v M := by
  subst hM
  unfold Prg
  rw [List.length_append, List.map_append]
  subst hn
  exact h
theorem Prg.form {w : World} {base : Nat} {v : Value} {L : List Stp} (h : Prg w base v L) : ∃ a c, v = .slice a L.length c ∧ L.length ≤ c ∧ c ≤ maxLen := by
  rcases h.2 with ⟨e, h0⟩ | ⟨g, cap, cur, e, _, _, h1, h2, _⟩
  · exact ⟨none, 0, by rw [e, h0], by omega, by simp [maxLen]⟩
  · exact ⟨_, cap, e, h1, h2⟩
theorem Prg.at_ {w : World} {base : Nat} {v : Value} {L : List Stp} (h : Prg w base v L) {i : Nat} (hi : i < L.length) : ∃ g c, v = .slice (some ⟨g, 0, none⟩) L.length c ∧ base ≤ g ∧ w.cell? ⟨g, i, none⟩ = some (opV (L.getD i szero)) := by
  rcases h.2 with ⟨_, h0⟩ | ⟨g, cap, cur, e, hb, hg, h1, h2, h3, h4⟩
  · omega
  · refine ⟨g, cap, e, hb, ?_⟩
    have := World.ownsRow.cells (by unfold Prg at h; rw [e] at h; exact h) (g := g) rfl i (opV (L.getD i szero)) (by simp [List.getD_eq_getElem?_getD, hi])
    rw [Addr.add_lit] at this
    simpa using this
theorem opV_one (s : Stp) : ∀ u ∈ [opV s], u.oneCell' = true := by
  intro u hu
  simp at hu
  subst hu
  rfl
/-- what becomes of steps. -/
def Program_ (L : List Stp) (w : World) (en : Ending) (w' : World) : Prop :=
  ∃ u, en = .returned (.tuple #[u, .bool (progOk L)]) ∧ w.grownBy w' none ∧ (progOk L = true → Prg w' w.heap.size u L)
theorem prg_no {L : List Stp} {w w' : World} (h : progOk L = false) (hg : w.grownBy w' none) : Program_ L w (.returned (.tuple #[.slice none 0 0, .bool false])) w' := ⟨_, by rw [h], hg, fun k => by rw [h] at k; cases k⟩

set_option maxHeartbeats 4000000 in
set_option maxRecDepth 20000 in
theorem programOf (v : Value) (L : List Stp) (e : Addr) (w : World) (h : SSl w v L) (hE : Sent w e) : Calls Tryd.prog 50 #[v] w (Program_ L w) := by
  obtain ⟨a, cap, rfl, hlc, hcm, hr⟩ := h
  have R : Hid (Rds w a (sflat L)) := Lib.hid hr
  have E := Lib.hid hE
  clear hr hE
  unfold maxLen at hcm
  obtain ⟨i0, hi, hz0, hz1, hz2⟩ := info_parts infoOp
  have I1 := Lib.hid hi
  have I2 := Lib.hid hz0
  have I3 := Lib.hid hz1
  have I4 := Lib.hid hz2
  clear hi hz0 hz1 hz2
  obtain ⟨n, hn⟩ : ∃ n, n = L.length := ⟨_, rfl⟩
  rw [← hn] at hlc ⊢
  have N := Lib.hid hn
  clear hn
  by_cases h0 : n = 0
  · subst h0
    have NO : Hid (progOk L = false) := Lib.hid (progOk_len (by rw [← N.out]; omega))
    go_enter Tryd.func50, Tryd.ntmps50
    go_wp2_with fail
    exact bodyPost_ret (v := .tuple #[.slice none 0 0, .bool false]) (by simp [results, Tryd.results50, go_sem]) rfl (prg_no NO.out (World.grownBy.refl _ _))
  by_cases h1 : 16 < n
  · have NO : Hid (progOk L = false) := Lib.hid (progOk_len (by rw [← N.out]; omega))
    have d0 : ((n : Int) == 0) = false := by rw [beq_eq_false_iff_ne]; omega
    have d1 : (n : Int) > 16 := by omega
    go_enter Tryd.func50, Tryd.ntmps50
    go_wp2_with fail
    exact bodyPost_ret (v := .tuple #[.slice none 0 0, .bool false]) (by simp [results, Tryd.results50, go_sem]) rfl (prg_no NO.out (World.grownBy.refl _ _))
  · have d0 : ((n : Int) == 0) = false := by rw [beq_eq_false_iff_ne]; omega
    have d1 : ¬ ((n : Int) > 16) := by omega
    go_enter Tryd.func50, Tryd.ntmps50
    go_wp2_with fail
    go_loopw [4, 19] (fun o i wr => ∃ m : Nat, m ≤ n ∧ i = .int .i64 m ∧ w.grownBy wr none ∧ Sent wr e ∧ Prg wr w.heap.size o (L.take m) ∧ Oks (L.take m)) (fun _ i _ => n - (intOf i).toNat)
    case atStart => exact ⟨0, by omega, rfl, World.grownBy.refl _ _, E.out, Prg.none_ _ _, by rw [List.take_zero]; exact Oks.nil⟩
    case round =>
      obtain ⟨m, hm, rfl, hg, hE, hp, hok⟩ := hrel
      have G := Lib.hid hg
      have E1 := Lib.hid hE
      have P := Lib.hid hp
      have OK := Lib.hid hok
      clear hg hE hp hok
      by_cases hlt : m < n
      · have hlt' : (m : Int) < (n : Int) := by omega
        have hmL : m < L.length := by rw [← N.out]; exact hlt
        obtain ⟨b, o, rfl, c0, c1, c2⟩ := cells3 (R.out.grown G.out) hmL
        obtain ⟨s, hs⟩ : ∃ s, L.getD m szero = s := ⟨_, rfl⟩
        rw [hs] at c0 c1 c2
        have S := Lib.hid hs
        have TK : Hid (L.take (m + 1) = L.take m ++ [s]) := Lib.hid (by rw [← hs]; exact take_snocS hmL)
        clear hs
        obtain ⟨p, x, y⟩ := s
        have c0' : wr.cell? ⟨b, o + m * 3, none⟩ = some (.int .i64 p) := c0
        have c1' : wr.cell? ⟨b, o + m * 3 + 1, none⟩ = some (.int .i64 x) := c1
        have c2' : wr.cell? ⟨b, o + m * 3 + 2, none⟩ = some (.int .i64 y) := c2
        clear c0 c1 c2
        have ga := World.grownBy_alloc wr (.cells #[.int .i64 p, .int .i64 x, .int .i64 y] 49) none
        have G2 : Hid (w.grownBy (wr.alloc (.cells #[.int .i64 p, .int .i64 x, .int .i64 y] 49)) none) := Lib.hid (grown_trans G.out ga)
        have E2 : Hid (Sent (wr.alloc (.cells #[.int .i64 p, .int .i64 x, .int .i64 y] 49)) e) := Lib.hid (E1.out.grown ga)
        have P2 : Hid (Prg (wr.alloc (.cells #[.int .i64 p, .int .i64 x, .int .i64 y] 49)) w.heap.size u4 (L.take m)) := Lib.hid (P.out.still ga)
        have K2 : Hid (Blk (wr.alloc (.cells #[.int .i64 p, .int .i64 x, .int .i64 y] 49)) wr.heap.size 49 [.int .i64 p, .int .i64 x, .int .i64 y]) := Lib.hid (heap_alloc_new _ _)
        clear ga E1 P G
        have k0 : (wr.alloc (.cells #[.int .i64 p, .int .i64 x, .int .i64 y] 49)).cell? ⟨wr.heap.size, 0, none⟩ = some (.int .i64 p) := K2.out.cell (i := 0) rfl
        have k1 : (wr.alloc (.cells #[.int .i64 p, .int .i64 x, .int .i64 y] 49)).cell? ⟨wr.heap.size, 1, none⟩ = some (.int .i64 x) := K2.out.cell (i := 1) rfl
        have k2 : (wr.alloc (.cells #[.int .i64 p, .int .i64 x, .int .i64 y] 49)).cell? ⟨wr.heap.size, 2, none⟩ = some (.int .i64 y) := K2.out.cell (i := 2) rfl
        go_upto_region 7 with fail
        generalize wr.alloc (.cells #[.int .i64 p, .int .i64 x, .int .i64 y] 49) = w2 at *
        generalize wr.heap.size = bp at *
        clear c0' c1' c2'
        go_wp2_with fail
        refine (stepOp ⟨p, x, y⟩ m e _ E2.out).mono ?_
        rintro e' w3 ⟨o3, rfl, ho3, hg3⟩
        have G3 : Hid (w.grownBy w3 none) := Lib.hid (grown_trans G2.out hg3)
        have E3 := Lib.hid (E2.out.grown hg3)
        have P3 := Lib.hid (P2.out.still hg3)
        have g0 : w3.cell? ⟨0, 0, none⟩ = some (.iface 159 (.pointer (some e))) := E3.out
        have HO := Lib.hid ho3
        clear k0 k1 k2 hg3 ho3 K2 G2 E2 P2
        by_cases hok : OkAt m ⟨p, x, y⟩
        · rw [decide_eq_true hok, errV_yes]
          obtain rfl := HO.out hok
          have OK4 : Hid (Oks (L.take (m + 1))) := Lib.hid (by rw [TK.out]; exact OK.out.snoc (by rw [List.length_take, Nat.min_eq_left (by omega)]; exact hok))
          have ML : Hid ((L.take m).length = m) := Lib.hid (by rw [List.length_take, Nat.min_eq_left (by omega)])
          clear HO hok
          go_wp2_with fail
          refine (is_nil e _).mono ?_
          rintro e' w' ⟨rfl, rfl⟩
          have TOP : Hid (w'.ownsRow w.heap.size 113 1 u4 m ((L.take m).map opV)) := Lib.hid (by have := P3.out; unfold Prg at this; rw [ML.out] at this; exact this)
          obtain ⟨ot, hov⟩ : ∃ t, opV ⟨p, x, y⟩ = .iface t (.agg #[.int .i64 x, .int .i64 y]) := ⟨_, rfl⟩
          have OV := Lib.hid hov
          have ON := opV_one ⟨p, x, y⟩
          have sz : w.heap.size ≤ w'.heap.size := G3.out.size
          rw [hov] at ON ⊢
          clear hov
          go_wp2_with (first
            | (at_builtin; refine wpList_append_own _ rfl _ _ 74 rfl w.heap.size 113 i0 .nilIface 1 16 Tryd.underlying74 I1.out I2.out I3.out I4.out rfl (by decide) _ _ _ rfl (World.ownsRow.alloc TOP.out _) ⟨w'.heap.size, 0, none⟩ 1 1 [.iface ot (.agg #[.int .i64 x, .int .i64 y])] rfl rfl (one_cell (g := 0)) ON ?c3 ?c4 ?c5 ?_))
          case c3 => unfold maxLen; omega
          case c4 => omega
          case c5 => simp; omega
          intro o' w9 ho9 hg9 _
          have g9 : w'.grownBy w9 u4.ownBlock := grown_trans (World.grownBy_alloc _ _ _) hg9
          have P9 : Hid (Prg w9 w.heap.size o' (L.take (m + 1))) := Lib.hid (by rw [← OV.out, ← List.map_take] at ho9; exact Prg.snoc ho9 (by rw [ML.out]) TK.out)
          have G9 : Hid (w.grownBy w9 none) := Lib.hid (grown_own G3.out g9 (fun j hj => (World.ownsRow.lt TOP.out j hj).1))
          have E9 : Hid (Sent w9 e) := Lib.hid (E3.out.of_row g9 (fun j hj => (World.ownsRow.lt TOP.out j hj).1) E.out.pos)
          clear ho9 hg9 g9 TOP P3 E3 G3 g0 ON
          go_wp2_with fail
          go_roundw
          case rel => exact ⟨m + 1, by omega, by go_num, G9.out, E9.out, P9.out, OK4.out⟩
          case measure => simp [intOf]; omega
        · rw [decide_eq_false hok, errV_no]
          have NO : Hid (progOk L = false) := Lib.hid (progOk_not hmL (by rw [S.out]; exact hok))
          clear HO hok
          go_wp2_with fail
          refine (is_same e _).mono ?_
          rintro e' w' ⟨rfl, rfl⟩
          go_wp2_with fail
          exact bodyPost_ret (v := .tuple #[.slice none 0 0, .bool false]) (by simp [results, Tryd.results50, go_sem]) rfl (prg_no NO.out G3.out)
      · obtain rfl : m = n := by omega
        have TA : Hid (L.take m = L) := Lib.hid (by rw [N.out]; exact List.take_length)
        have YES : Hid (progOk L = true) := Lib.hid (decide_eq_true ⟨by rw [← N.out]; omega, by rw [← TA.out]; exact OK.out⟩)
        have P4 : Hid (Prg wr w.heap.size u4 L) := Lib.hid (by have := P.out; rwa [TA.out] at this)
        obtain ⟨pa, pc, pe, _, _⟩ := P4.out.form
        subst pe
        go_wp2_with fail
        exact bodyPost_ret (v := .tuple #[.slice pa L.length pc, .bool true]) (by simp [results, Tryd.results50, go_sem]) rfl ⟨_, by rw [YES.out], G.out, fun _ => P4.out⟩
end Go.Proofs.YtlehcpcejkpbmaaDoor
