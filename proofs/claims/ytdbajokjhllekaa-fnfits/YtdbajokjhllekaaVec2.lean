/-
  The contracts of chapter 2's exported functions, program's and model's.
  Conditions: none.
-/
import Derived.Test.YtdbajokjhllekaaVec
import Derived.Deep.AppendLies
import Derived.Deep.RegionLaw
namespace Go.Proofs.Ytdbajokjhllekaa
open Go.RowKit
set_option linter.unusedVariables false

/-- what a call leaves that only computes a number, and may make memory. -/
def IntOf (n : Int) (w : World) (e : Ending) (w' : World) : Prop := e = .returned (.int .i64 n) ∧ w.grownBy w' none

set_option maxHeartbeats 1000000 in
set_option maxRecDepth 20000 in
theorem implVecSum (u v : Value) (l m : List Int) (w : World) (h : Sl w u l) (k : Sl w v m) : Calls Try.prog 31 #[u, v] w (NewInts (Vec.sum l m) w) := by
  have H := Lib.hid (implVectorsOf u v l m w h k)
  clear h k
  cases hok : Vec.ok l && Vec.ok m
  · have E := Lib.hid (Vec.sum_no hok)
    rw [hok] at H
    clear hok
    go_enter Try.func31, Try.ntmps31
    go_wp2_with fail
    refine H.out.mono ?_
    rintro e w1 ⟨rfl, hg⟩
    have G := Lib.hid hg
    clear hg
    obtain ⟨x, y, z, t, hL⟩ := Vec.or0_four l
    obtain ⟨x', y', z', t', hM⟩ := Vec.or0_four m
    rw [hL, hM, ← vals4, ← vals4]
    clear hL hM H
    go_wp2_with fail
    go_ret
    rw [E.out]
    exact ⟨_, rfl, by repeat' first | exact G.out | refine grown_alloc ?_ _ | refine grown_set ?_ (by simp; try omega) _, Own.none_ _ _⟩
  · have ⟨hl, hm⟩ : Vec.ok l = true ∧ Vec.ok m = true := by simpa using hok
    rw [hok, Vec.or0_ok hl, Vec.or0_ok hm] at H
    rw [Vec.sum_ok hl hm]
    clear hok
    have OL := Lib.hid hl
    have OM := Lib.hid hm
    clear hl hm
    go_enter Try.func31, Try.ntmps31
    go_wp2_with fail
    refine H.out.mono ?_
    rintro e w1 ⟨rfl, hg⟩
    have G := Lib.hid hg
    clear hg H
    obtain ⟨x, y, z, t, rfl, _⟩ := Vec.ok_four OL.out
    obtain ⟨x', y', z', t', rfl, _⟩ := Vec.ok_four OM.out
    rw [← vals4, ← vals4]
    go_wp2_with fail
    refine (rowSum [x, y, z, t] [x', y', z', t'] _ OL.out OM.out).mono ?_
    rintro e w2 ⟨rfl, hg⟩
    have G2 : Hid (w.grownBy w2 none) := grown_trans (grown_alloc (grown_alloc G.out _) _) hg
    clear hg G
    show _
    rw [show (vals (List.zipWith (fun x y => (x + y) % 31) [x, y, z, t] [x', y', z', t'])).toArray = #[.int .i64 ((x + x') % 31), .int .i64 ((y + y') % 31), .int .i64 ((z + z') % 31), .int .i64 ((t + t') % 31)] from rfl]
    go_wp2_with fail
    refine (rowInts _ _ _ _ _).mono ?_
    rintro e w3 ⟨r, rfl, hg, ho⟩
    have G3 := Lib.hid hg
    have O := Lib.hid ho
    clear hg ho
    go_wp2_with fail
    go_ret
    exact new_after G2.out G3.out O.out

set_option maxHeartbeats 1000000 in
set_option maxRecDepth 20000 in
theorem implVecScale (v : Value) (l : List Int) (c : Int) (w : World) (h : Sl w v l) : Calls Try.prog 51 #[v, .int .i64 c] w (NewInts (Vec.scale l c) w) := by
  have H := Lib.hid (implVectorOf v l w h)
  clear h
  cases hl : Vec.ok l
  · have E := Lib.hid (Vec.scale_no (a := l) (c := c) (by simp [hl]))
    rw [hl] at H
    go_enter Try.func51, Try.ntmps51
    go_wp2_with fail
    refine H.out.mono ?_
    rintro e w1 ⟨rfl, hg⟩
    have G := Lib.hid hg
    clear hg
    obtain ⟨x, y, z, t, hL⟩ := Vec.or0_four l
    rw [hL, ← vals4]
    clear hL H
    go_wp2_with fail
    go_ret
    rw [E.out]
    exact ⟨_, rfl, by repeat' first | exact G.out | refine grown_alloc ?_ _ | refine grown_set ?_ (by simp; try omega) _, Own.none_ _ _⟩
  · rw [hl, Vec.or0_ok hl] at H
    have OL := Lib.hid hl
    clear hl
    cases hc : Fld.ok c
    · have E := Lib.hid (Vec.scale_no (a := l) (c := c) (by simp [hc]))
      go_enter Try.func51, Try.ntmps51
      go_wp2_with fail
      refine H.out.mono ?_
      rintro e w1 ⟨rfl, hg⟩
      have G := Lib.hid hg
      clear hg H
      obtain ⟨x, y, z, t, rfl, _⟩ := Vec.ok_four OL.out
      rw [← vals4]
      go_wp2_with (go_at_call 77; refine (implOk _ _).mono ?_; rintro e w' ⟨rfl, rfl⟩)
      go_ret
      rw [E.out]
      exact ⟨_, rfl, by repeat' first | exact G.out | refine grown_alloc ?_ _ | refine grown_set ?_ (by simp; try omega) _, Own.none_ _ _⟩
    · rw [Vec.scale_ok OL.out hc]
      go_enter Try.func51, Try.ntmps51
      go_wp2_with fail
      refine H.out.mono ?_
      rintro e w1 ⟨rfl, hg⟩
      have G := Lib.hid hg
      clear hg H
      obtain ⟨x, y, z, t, rfl, _⟩ := Vec.ok_four OL.out
      rw [← vals4]
      go_wp2_with (go_at_call 77; refine (implOk _ _).mono ?_; rintro e w' ⟨rfl, rfl⟩)
      refine (rowScale [x, y, z, t] c _ OL.out hc).mono ?_
      rintro e w2 ⟨rfl, hg⟩
      have G2 : Hid (w.grownBy w2 none) := grown_trans (grown_alloc G.out _) hg
      clear hg G
      rw [show (vals (List.map (fun x => x * c % 31) [x, y, z, t])).toArray = #[.int .i64 (x * c % 31), .int .i64 (y * c % 31), .int .i64 (z * c % 31), .int .i64 (t * c % 31)] from rfl]
      go_wp2_with fail
      refine (rowInts _ _ _ _ _).mono ?_
      rintro e w3 ⟨r, rfl, hg, ho⟩
      have G3 := Lib.hid hg
      have O := Lib.hid ho
      clear hg ho
      go_wp2_with fail
      go_ret
      exact new_after G2.out G3.out O.out

set_option maxHeartbeats 1000000 in
set_option maxRecDepth 20000 in
theorem implVecDot (u v : Value) (l m : List Int) (w : World) (h : Sl w u l) (k : Sl w v m) : Calls Try.prog 32 #[u, v] w (IntOf (Vec.dot l m) w) := by
  have H := Lib.hid (implVectorsOf u v l m w h k)
  clear h k
  cases hok : Vec.ok l && Vec.ok m
  · have E := Lib.hid (Vec.dot_no hok)
    rw [hok] at H
    clear hok
    go_enter Try.func32, Try.ntmps32
    go_wp2_with fail
    refine H.out.mono ?_
    rintro e w1 ⟨rfl, hg⟩
    have G := Lib.hid hg
    clear hg
    obtain ⟨x, y, z, t, hL⟩ := Vec.or0_four l
    obtain ⟨x', y', z', t', hM⟩ := Vec.or0_four m
    rw [hL, hM, ← vals4, ← vals4]
    clear hL hM H
    go_wp2_with fail
    go_ret
    exact ⟨ret_int E.out.symm, by repeat' first | exact G.out | refine grown_alloc ?_ _ | refine grown_set ?_ (by simp; try omega) _⟩
  · have ⟨hl, hm⟩ : Vec.ok l = true ∧ Vec.ok m = true := by simpa using hok
    rw [hok, Vec.or0_ok hl, Vec.or0_ok hm] at H
    clear hok
    have OL := Lib.hid hl
    have OM := Lib.hid hm
    clear hl hm
    go_enter Try.func32, Try.ntmps32
    go_wp2_with fail
    refine H.out.mono ?_
    rintro e w1 ⟨rfl, hg⟩
    have G := Lib.hid hg
    clear hg H
    obtain ⟨x, y, z, t, rfl, _⟩ := Vec.ok_four OL.out
    obtain ⟨x', y', z', t', rfl, _⟩ := Vec.ok_four OM.out
    rw [← vals4, ← vals4]
    go_wp2_with fail
    refine (rowDot [x, y, z, t] [x', y', z', t'] _ OL.out OM.out).mono ?_
    rintro e w2 ⟨rfl, hg⟩
    have G2 : Hid (w.grownBy w2 none) := grown_trans (grown_alloc (grown_alloc G.out _) _) hg
    clear hg G
    go_wp2_with fail
    go_ret
    exact ⟨rfl, G2.out⟩

set_option maxHeartbeats 1000000 in
set_option maxRecDepth 20000 in
theorem implVecLead (v : Value) (l : List Int) (w : World) (h : Sl w v l) : Calls Try.prog 26 #[v] w (IntOf (Vec.lead l) w) := by
  have H := Lib.hid (implVectorOf v l w h)
  clear h
  cases hl : Vec.ok l
  · have E := Lib.hid (Vec.lead_no hl)
    rw [hl] at H
    go_enter Try.func26, Try.ntmps26
    go_wp2_with fail
    refine H.out.mono ?_
    rintro e w1 ⟨rfl, hg⟩
    have G := Lib.hid hg
    clear hg
    obtain ⟨x, y, z, t, hL⟩ := Vec.or0_four l
    rw [hL, ← vals4]
    clear hL H
    go_wp2_with fail
    go_ret
    exact ⟨ret_int E.out.symm, by repeat' first | exact G.out | refine grown_alloc ?_ _ | refine grown_set ?_ (by simp; try omega) _⟩
  · have E := Lib.hid (Vec.lead_ok hl)
    rw [hl, Vec.or0_ok hl] at H
    have OL := Lib.hid hl
    clear hl
    go_enter Try.func26, Try.ntmps26
    go_wp2_with fail
    refine H.out.mono ?_
    rintro e w1 ⟨rfl, hg⟩
    have G := Lib.hid hg
    clear hg H
    obtain ⟨x, y, z, t, rfl, _⟩ := Vec.ok_four OL.out
    rw [← vals4]
    go_wp2_with fail
    refine (rowLead x y z t _).mono ?_
    rintro e w2 ⟨rfl, hg⟩
    have G2 : Hid (w.grownBy w2 none) := grown_trans (grown_alloc G.out _) hg
    clear hg G
    go_wp2_with fail
    go_ret
    exact ⟨ret_int E.out.symm, G2.out⟩
end Go.Proofs.Ytdbajokjhllekaa
