/-
  The contracts of chapter 2's exported functions, program's and model's.
  Conditions: none.
-/
import Derived.Test.YtbpkfcaokbidnabVec
import Derived.Deep.AppendLies
import Derived.Deep.RegionLaw
namespace Go.Proofs.Ytbpkfcaokbidnab
open Go.RowKit
set_option linter.unusedVariables false

/-- what a call leaves that only computes a number, and may make memory. -/
def IntOf (n : Int) (w : World) (e : Ending) (w' : World) : Prop := e = .returned (.int .i64 n) ∧ w.grownBy w' none

set_option maxHeartbeats 1000000 in
set_option maxRecDepth 20000 in
theorem implVecLead (v : Value) (l : List Int) (w : World) (h : Sl w v l) : Calls Try.prog 35 #[v] w (IntOf (Vec.lead l) w) := by
  have H := Lib.hid (implVectorOf v l w h)
  clear h
  cases hl : Vec.ok l
  · have E := Lib.hid (Vec.lead_no hl)
    rw [hl] at H
    go_enter Try.func35, Try.ntmps35
    go_wp2_with fail
    refine H.out.mono ?_
    rintro e w1 ⟨rfl, hg⟩
    have G := Lib.hid hg
    clear hg
    obtain ⟨x, y, z, t, hL⟩ := Vec.or0_four l
    rw [hL, ← vals4]
    clear hL H
    go_wp2_with fail
    go_ret
    exact ⟨ret_int E.out.symm, by repeat' first | exact G.out | refine grown_alloc ?_ _ | refine grown_set ?_ (by simp; try omega) _⟩
  · have E := Lib.hid (Vec.lead_ok hl)
    rw [hl, Vec.or0_ok hl] at H
    have OL := Lib.hid hl
    clear hl
    go_enter Try.func35, Try.ntmps35
    go_wp2_with fail
    refine H.out.mono ?_
    rintro e w1 ⟨rfl, hg⟩
    have G := Lib.hid hg
    clear hg H
    obtain ⟨x, y, z, t, rfl, _⟩ := Vec.ok_four OL.out
    rw [← vals4]
    go_wp2_with fail
    refine (rowLead x y z t _).mono ?_
    rintro e w2 ⟨rfl, hg⟩
    have G2 : Hid (w.grownBy w2 none) := grown_trans (grown_alloc G.out _) hg
    clear hg G
    go_wp2_with fail
    go_ret
    exact ⟨ret_int E.out.symm, G2.out⟩
end Go.Proofs.Ytbpkfcaokbidnab
