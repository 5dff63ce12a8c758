/-
  The contracts of the program's steps: whether one can stand at a place, and what it is there.
  Conditions: none.
-/
import Derived.Test.YtlehcpcejkpbmaaDoorStepTab
import Derived.Test.YtlehcpcejkpbmaaDoorErrIs
import Derived.Test.YtlehcpcejkpbmaaDoorG2
import Derived.Deep.Cut
import Derived.BigQuiet
import Derived.Deep.QuietTactic
import Derived.Lib.Hide
namespace Go.Proofs.YtlehcpcejkpbmaaDoor
open Go.RowKit
set_option linter.unusedVariables false

/-- no error, or the package's own. -/
def errV (e : Addr) (ok : Bool) : Value := bif ok then .nilIface else .iface 159 (.pointer (some e))
theorem errV_yes (e : Addr) : errV e true = .nilIface := rfl
theorem errV_no (e : Addr) : errV e false = .iface 159 (.pointer (some e)) := rfl
/-- what a check answers. -/
def Checked (e : Addr) (ok : Bool) (w : World) (en : Ending) (w' : World) : Prop := en = .returned (errV e ok) ∧ w.grownBy w' none

theorem isBefore (a b : Int) (w : World) : Calls Tryd.prog 126 #[.int .i64 a, .int .i64 b] w fun e w' => e = .returned (.bool (decide (0 ≤ a ∧ a < b))) ∧ w' = w := by
  by_cases h0 : 0 ≤ a
  · have d0 : decide (a ≥ 0) = true := decide_eq_true h0
    by_cases h1 : a < b
    · rw [decide_eq_true (show 0 ≤ a ∧ a < b from ⟨h0, h1⟩)]
      go_enter Tryd.func126, Tryd.ntmps126
      go_wp2
      go_ret
      exact ⟨rfl, rfl⟩
    · rw [decide_eq_false (show ¬ (0 ≤ a ∧ a < b) from fun h => h1 h.2)]
      go_enter Tryd.func126, Tryd.ntmps126
      go_wp2
      go_ret
      exact ⟨rfl, rfl⟩
  · have d0 : decide (a ≥ 0) = false := decide_eq_false h0
    rw [decide_eq_false (show ¬ (0 ≤ a ∧ a < b) from fun h => h0 h.1)]
    go_enter Tryd.func126, Tryd.ntmps126
    go_wp2
    go_ret
    exact ⟨rfl, rfl⟩

theorem shardIs (n : Int) (w : World) : Calls Tryd.prog 63 #[.int .i64 n] w fun e w' => e = .returned (.bool (decide (0 ≤ n ∧ n < 8))) ∧ w' = w := by
  by_cases h0 : 0 ≤ n
  · have d0 : decide (n ≥ 0) = true := decide_eq_true h0
    by_cases h1 : n < 8
    · rw [decide_eq_true (show 0 ≤ n ∧ n < 8 from ⟨h0, h1⟩)]
      go_enter Tryd.func63, Tryd.ntmps63
      go_wp2
      go_ret
      exact ⟨rfl, rfl⟩
    · rw [decide_eq_false (show ¬ (0 ≤ n ∧ n < 8) from fun h => h1 h.2)]
      go_enter Tryd.func63, Tryd.ntmps63
      go_wp2
      go_ret
      exact ⟨rfl, rfl⟩
  · have d0 : decide (n ≥ 0) = false := decide_eq_false h0
    rw [decide_eq_false (show ¬ (0 ≤ n ∧ n < 8) from fun h => h0 h.1)]
    go_enter Tryd.func63, Tryd.ntmps63
    go_wp2
    go_ret
    exact ⟨rfl, rfl⟩

set_option maxRecDepth 20000 in
theorem loadCheck (a b i : Int) (e : Addr) (w : World) (hE : Sent w e) : Calls Tryd.prog 124 #[.agg #[.int .i64 a, .int .i64 b], .int .i64 i] w (Checked e (decide ((0 ≤ a ∧ a < 8) ∧ b = 0)) w) := by
  obtain ⟨q, hq⟩ : ∃ q, decide ((0 ≤ a ∧ a < 8) ∧ b = 0) = q := ⟨_, rfl⟩
  rw [hq]
  have D := Lib.hid hq
  clear hq
  have ga := World.grownBy_alloc w (.cells #[.int .i64 a, .int .i64 b] 121) none
  have E0 : Hid (Sent (w.alloc (.cells #[.int .i64 a, .int .i64 b] 121)) e) := Lib.hid (hE.grown ga)
  have G0 := Lib.hid ga
  have K0 : Hid (Blk (w.alloc (.cells #[.int .i64 a, .int .i64 b] 121)) w.heap.size 121 [.int .i64 a, .int .i64 b]) := Lib.hid (heap_alloc_new _ _)
  clear ga hE
  go_enter Tryd.func124, Tryd.ntmps124
  go_upto_region 1 with fail
  generalize w.alloc (.cells #[.int .i64 a, .int .i64 b] 121) = w0 at *
  generalize w.heap.size = bp at *
  have k0 := K0.out.cell (i := 0) rfl
  have k1 := K0.out.cell (i := 1) rfl
  have e0 : w0.cell? ⟨0, 0, none⟩ = some (.iface 159 (.pointer (some e))) := E0.out
  by_cases h : 0 ≤ a ∧ a < 8
  · by_cases hb : b = 0
    · obtain rfl : q = true := D.out.symm.trans (decide_eq_true ⟨h, hb⟩)
      subst hb
      go_wp2_with fail
      refine (shardIs a _).mono ?_
      rintro e' w' ⟨rfl, rfl⟩
      rw [decide_eq_true h]
      go_wp2_with fail
      go_ret
      exact ⟨rfl, G0.out⟩
    · obtain rfl : q = false := D.out.symm.trans (decide_eq_false (fun k => hb k.2))
      have hb' : (b != 0) = true := by rw [bne_iff_ne]; exact hb
      go_wp2_with fail
      refine (shardIs a _).mono ?_
      rintro e' w' ⟨rfl, rfl⟩
      rw [decide_eq_true h]
      go_wp2_with fail
      go_ret
      exact ⟨rfl, G0.out⟩
  · obtain rfl : q = false := D.out.symm.trans (decide_eq_false (fun k => h k.1))
    go_wp2_with fail
    refine (shardIs a _).mono ?_
    rintro e' w' ⟨rfl, rfl⟩
    rw [decide_eq_false h]
    go_wp2_with fail
    go_ret
    exact ⟨rfl, G0.out⟩

set_option maxRecDepth 20000 in
theorem mulCheck (a b i : Int) (e : Addr) (w : World) (hE : Sent w e) : Calls Tryd.prog 125 #[.agg #[.int .i64 a, .int .i64 b], .int .i64 i] w (Checked e (decide ((0 ≤ a ∧ a < i) ∧ Fld.ok b = true)) w) := by
  obtain ⟨q, hq⟩ : ∃ q, decide ((0 ≤ a ∧ a < i) ∧ Fld.ok b = true) = q := ⟨_, rfl⟩
  rw [hq]
  have D := Lib.hid hq
  clear hq
  have ga := World.grownBy_alloc w (.cells #[.int .i64 a, .int .i64 b] 123) none
  have E0 : Hid (Sent (w.alloc (.cells #[.int .i64 a, .int .i64 b] 123)) e) := Lib.hid (hE.grown ga)
  have G0 := Lib.hid ga
  have K0 : Hid (Blk (w.alloc (.cells #[.int .i64 a, .int .i64 b] 123)) w.heap.size 123 [.int .i64 a, .int .i64 b]) := Lib.hid (heap_alloc_new _ _)
  clear ga hE
  go_enter Tryd.func125, Tryd.ntmps125
  go_upto_region 1 with fail
  generalize w.alloc (.cells #[.int .i64 a, .int .i64 b] 123) = w0 at *
  generalize w.heap.size = bp at *
  have k0 := K0.out.cell (i := 0) rfl
  have k1 := K0.out.cell (i := 1) rfl
  have e0 : w0.cell? ⟨0, 0, none⟩ = some (.iface 159 (.pointer (some e))) := E0.out
  by_cases h : 0 ≤ a ∧ a < i
  · obtain ⟨r, hr⟩ : ∃ r, Fld.ok b = r := ⟨_, rfl⟩
    have Q := Lib.hid hr
    clear hr
    go_wp2_with fail
    refine (isBefore a i _).mono ?_
    rintro e' w' ⟨rfl, rfl⟩
    rw [decide_eq_true h]
    go_wp2_with fail
    refine (implOk b _).mono ?_
    rintro e' w' ⟨rfl, rfl⟩
    rw [Q.out]
    cases r with
    | true =>
      obtain rfl : q = true := D.out.symm.trans (decide_eq_true ⟨h, Q.out⟩)
      go_wp2_with fail
      go_ret
      exact ⟨rfl, G0.out⟩
    | false =>
      obtain rfl : q = false := D.out.symm.trans (decide_eq_false (fun k => by rw [Q.out] at k; cases k.2))
      go_wp2_with fail
      go_ret
      exact ⟨rfl, G0.out⟩
  · obtain rfl : q = false := D.out.symm.trans (decide_eq_false (fun k => h k.1))
    go_wp2_with fail
    refine (isBefore a i _).mono ?_
    rintro e' w' ⟨rfl, rfl⟩
    rw [decide_eq_false h]
    go_wp2_with fail
    go_ret
    exact ⟨rfl, G0.out⟩

set_option maxRecDepth 20000 in
theorem addCheck (a b i : Int) (e : Addr) (w : World) (hE : Sent w e) : Calls Tryd.prog 127 #[.agg #[.int .i64 a, .int .i64 b], .int .i64 i] w (Checked e (decide ((0 ≤ a ∧ a < i) ∧ (0 ≤ b ∧ b < i))) w) := by
  obtain ⟨q, hq⟩ : ∃ q, decide ((0 ≤ a ∧ a < i) ∧ (0 ≤ b ∧ b < i)) = q := ⟨_, rfl⟩
  rw [hq]
  have D := Lib.hid hq
  clear hq
  have ga := World.grownBy_alloc w (.cells #[.int .i64 a, .int .i64 b] 125) none
  have E0 : Hid (Sent (w.alloc (.cells #[.int .i64 a, .int .i64 b] 125)) e) := Lib.hid (hE.grown ga)
  have G0 := Lib.hid ga
  have K0 : Hid (Blk (w.alloc (.cells #[.int .i64 a, .int .i64 b] 125)) w.heap.size 125 [.int .i64 a, .int .i64 b]) := Lib.hid (heap_alloc_new _ _)
  clear ga hE
  go_enter Tryd.func127, Tryd.ntmps127
  go_upto_region 1 with fail
  generalize w.alloc (.cells #[.int .i64 a, .int .i64 b] 125) = w0 at *
  generalize w.heap.size = bp at *
  have k0 := K0.out.cell (i := 0) rfl
  have k1 := K0.out.cell (i := 1) rfl
  have e0 : w0.cell? ⟨0, 0, none⟩ = some (.iface 159 (.pointer (some e))) := E0.out
  by_cases h : 0 ≤ a ∧ a < i
  · by_cases hb : 0 ≤ b ∧ b < i
    · obtain rfl : q = true := D.out.symm.trans (decide_eq_true ⟨h, hb⟩)
      go_wp2_with fail
      refine (isBefore a i _).mono ?_
      rintro e' w' ⟨rfl, rfl⟩
      rw [decide_eq_true h]
      go_wp2_with fail
      refine (isBefore b i _).mono ?_
      rintro e' w' ⟨rfl, rfl⟩
      rw [decide_eq_true hb]
      go_wp2_with fail
      go_ret
      exact ⟨rfl, G0.out⟩
    · obtain rfl : q = false := D.out.symm.trans (decide_eq_false (fun k => hb k.2))
      go_wp2_with fail
      refine (isBefore a i _).mono ?_
      rintro e' w' ⟨rfl, rfl⟩
      rw [decide_eq_true h]
      go_wp2_with fail
      refine (isBefore b i _).mono ?_
      rintro e' w' ⟨rfl, rfl⟩
      rw [decide_eq_false hb]
      go_wp2_with fail
      go_ret
      exact ⟨rfl, G0.out⟩
  · obtain rfl : q = false := D.out.symm.trans (decide_eq_false (fun k => h k.1))
    go_wp2_with fail
    refine (isBefore a i _).mono ?_
    rintro e' w' ⟨rfl, rfl⟩
    rw [decide_eq_false h]
    go_wp2_with fail
    go_ret
    exact ⟨rfl, G0.out⟩

/-- what a step is, as an operation. -/
def opV (s : Stp) : Value := .iface (if s.op = 1 then 121 else if s.op = 2 then 123 else 125) (.agg #[.int .i64 s.a, .int .i64 s.b])
/-- what a step is made to. -/
def Made (s : Stp) (i : Nat) (e : Addr) (w : World) (en : Ending) (w' : World) : Prop :=
  ∃ o, en = .returned (.tuple #[o, errV e (decide (OkAt i s))]) ∧ (OkAt i s → o = opV s) ∧ w.grownBy w' none

set_option maxHeartbeats 1000000 in
set_option maxRecDepth 20000 in
theorem stepOp (s : Stp) (i : Nat) (e : Addr) (w : World) (hE : Sent w e) : Calls Tryd.prog 79 #[.agg #[.int .i64 s.op, .int .i64 s.a, .int .i64 s.b], .int .i64 i] w (Made s i e w) := by
  obtain ⟨p, a, b⟩ := s
  have ga := World.grownBy_alloc w (.cells #[.int .i64 p, .int .i64 a, .int .i64 b] 49) none
  have E0 : Hid (Sent (w.alloc (.cells #[.int .i64 p, .int .i64 a, .int .i64 b] 49)) e) := Lib.hid (hE.grown ga)
  have G0 := Lib.hid ga
  have K0 : Hid (Blk (w.alloc (.cells #[.int .i64 p, .int .i64 a, .int .i64 b] 49)) w.heap.size 49 [.int .i64 p, .int .i64 a, .int .i64 b]) := Lib.hid (heap_alloc_new _ _)
  clear ga hE
  show Calls Tryd.prog 79 #[.agg #[.int .i64 p, .int .i64 a, .int .i64 b], .int .i64 i] w _
  obtain ⟨q, hq⟩ : ∃ q, errV e (decide (OkAt i ⟨p, a, b⟩)) = q := ⟨_, rfl⟩
  have MD : Hid (∀ o w', (OkAt i ⟨p, a, b⟩ → o = opV ⟨p, a, b⟩) → w.grownBy w' none → Made ⟨p, a, b⟩ i e w (.returned (.tuple #[o, q])) w') := Lib.hid (fun o w' h1 h2 => ⟨o, by rw [hq], h1, h2⟩)
  have QD := Lib.hid hq
  clear hq
  generalize Made ⟨p, a, b⟩ i e w = post at *
  go_enter Tryd.func79, Tryd.ntmps79
  go_upto_region 2 with fail
  generalize w.alloc (.cells #[.int .i64 p, .int .i64 a, .int .i64 b] 49) = w0 at *
  generalize w.heap.size = bp at *
  have k0 := K0.out.cell (i := 0) rfl
  have k1 := K0.out.cell (i := 1) rfl
  have k2 := K0.out.cell (i := 2) rfl
  by_cases h1 : p = 1
  · subst h1
    have D : Hid (decide (OkAt i ⟨1, a, b⟩) = decide ((0 ≤ a ∧ a < 8) ∧ b = 0)) := Lib.hid (decide_eq_decide.2 (by unfold OkAt; simp))
    go_wp2_with fail
    refine (loadCheck a b i e _ E0.out).mono ?_
    rintro e' w' ⟨rfl, hg⟩
    have GE := Lib.hid (grown_trans G0.out hg)
    rw [← D.out, QD.out]
    go_wp2_with fail
    exact MD.out _ _ (fun _ => rfl) GE.out
  · have n1 : (p == 1) = false := by rw [beq_eq_false_iff_ne]; exact h1
    by_cases h2 : p = 2
    · subst h2
      have D : Hid (decide (OkAt i ⟨2, a, b⟩) = decide ((0 ≤ a ∧ a < i) ∧ Fld.ok b = true)) := Lib.hid (decide_eq_decide.2 (by unfold OkAt; simp))
      go_wp2_with fail
      refine (mulCheck a b i e _ E0.out).mono ?_
      rintro e' w' ⟨rfl, hg⟩
      have GE := Lib.hid (grown_trans G0.out hg)
      rw [← D.out, QD.out]
      go_wp2_with fail
      exact MD.out _ _ (fun _ => rfl) GE.out
    · have n2 : (p == 2) = false := by rw [beq_eq_false_iff_ne]; exact h2
      by_cases h3 : p = 3
      · subst h3
        have D : Hid (decide (OkAt i ⟨3, a, b⟩) = decide ((0 ≤ a ∧ a < i) ∧ (0 ≤ b ∧ b < i))) := Lib.hid (decide_eq_decide.2 (by unfold OkAt; simp))
        go_wp2_with fail
        refine (addCheck a b i e _ E0.out).mono ?_
        rintro e' w' ⟨rfl, hg⟩
        have GE := Lib.hid (grown_trans G0.out hg)
        rw [← D.out, QD.out]
        go_wp2_with fail
        exact MD.out _ _ (fun _ => rfl) GE.out
      · have n3 : (p == 3) = false := by rw [beq_eq_false_iff_ne]; exact h3
        have NO : ¬ OkAt i ⟨p, a, b⟩ := by
          rintro (⟨h, _⟩ | ⟨h, _⟩ | ⟨h, _⟩)
          · exact h1 h
          · exact h2 h
          · exact h3 h
        have e0 : w0.drew.cell? ⟨0, 0, none⟩ = some (.iface 159 (.pointer (some e))) := E0.out
        have e1 : w0.cell? ⟨0, 0, none⟩ = some (.iface 159 (.pointer (some e))) := E0.out
        obtain rfl : q = .iface 159 (.pointer (some e)) := QD.out.symm.trans (by rw [decide_eq_false NO]; rfl)
        have NN := Lib.hid NO
        clear NO h1 h2 h3
        go_wp2_with fail
        go_quiet (fail)
        go_wp2_with fail
        exact MD.out _ _ (fun h => absurd h NN.out) (grown_draws G0.out _)
end Go.Proofs.YtlehcpcejkpbmaaDoor
