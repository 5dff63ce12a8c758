/-
  The contracts of the model's drawing of tables for the laws.
  Conditions: none.
-/
import Derived.Test.YtogjgajabdiaaaaDrawSpan
namespace Go.Proofs.Ytogjgajabdiaaaa
open Go.RowKit
set_option linter.unusedVariables false

/-- a table of a law's own. -/
def DrawnT (w : World) (e : Ending) (w' : World) : Prop := ∃ v us m, e = .returned v ∧ w.grownBy w' none ∧ m.length ≤ 10 ∧ STab w' w.heap.size v us m ∧ ∃ x n cap, v = .slice (some x) n cap

set_option maxHeartbeats 400000 in
theorem drawSpanTidy (a : Option Addr) (len cap : Nat) (w : World) (h : Code w a len cap) : Calls Try.prog 15 #[.slice a len cap] w (DrawnT w) := by
  have H := Lib.hid h
  clear h
  go_enter Try.func15, Try.ntmps15
  go_wp2_with fail
  refine (openR a len cap _ H.out).mono ?_
  rintro e w1 ⟨rfl, hb1, h1⟩
  have B1 := Lib.hid hb1
  have H1 := Lib.hid h1
  clear hb1 h1
  go_wp2_with fail
  refine (drawRows w.heap.size 0 _ H1.out (by omega)).mono ?_
  rintro e w2 ⟨v, us, m, rfl, hf, hr, hm, hd⟩
  have F2 := Lib.hid hf
  have D2 := Lib.hid hd
  clear hf hr hd
  go_wp2_with fail
  go_ret
  exact ⟨_, us, m, rfl, grown_of B1.out F2.out, by omega, D2.out.st.lower B1.out.size, D2.out.nn⟩

set_option maxHeartbeats 400000 in
theorem drawSpanRank (a : Option Addr) (len cap : Nat) (w : World) (h : Code w a len cap) : Calls Try.prog 25 #[.slice a len cap] w (DrawnT w) := by
  have H := Lib.hid h
  clear h
  go_enter Try.func25, Try.ntmps25
  go_wp2_with fail
  refine (openR a len cap _ H.out).mono ?_
  rintro e w1 ⟨rfl, hb1, h1⟩
  have B1 := Lib.hid hb1
  have H1 := Lib.hid h1
  clear hb1 h1
  go_wp2_with fail
  refine (drawRows w.heap.size 0 _ H1.out (by omega)).mono ?_
  rintro e w2 ⟨v, us, m, rfl, hf, hr, hm, hd⟩
  have F2 := Lib.hid hf
  have D2 := Lib.hid hd
  clear hf hr hd
  go_wp2_with fail
  go_ret
  exact ⟨_, us, m, rfl, grown_of B1.out F2.out, by omega, D2.out.st.lower B1.out.size, D2.out.nn⟩

set_option maxHeartbeats 400000 in
theorem drawSpanFirst (a : Option Addr) (len cap : Nat) (w : World) (h : Code w a len cap) : Calls Try.prog 39 #[.slice a len cap] w (DrawnT w) := by
  have H := Lib.hid h
  clear h
  go_enter Try.func39, Try.ntmps39
  go_wp2_with fail
  refine (openR a len cap _ H.out).mono ?_
  rintro e w1 ⟨rfl, hb1, h1⟩
  have B1 := Lib.hid hb1
  have H1 := Lib.hid h1
  clear hb1 h1
  go_wp2_with fail
  refine (drawRows w.heap.size 0 _ H1.out (by omega)).mono ?_
  rintro e w2 ⟨v, us, m, rfl, hf, hr, hm, hd⟩
  have F2 := Lib.hid hf
  have D2 := Lib.hid hd
  clear hf hr hd
  go_wp2_with fail
  go_ret
  exact ⟨_, us, m, rfl, grown_of B1.out F2.out, by omega, D2.out.st.lower B1.out.size, D2.out.nn⟩

set_option maxHeartbeats 1000000 in
theorem drawSpanOk (a : Option Addr) (len cap : Nat) (w : World) (h : Code w a len cap) : Calls Try.prog 41 #[.slice a len cap] w (DrawnT w) := by
  have H := Lib.hid h
  clear h
  obtain ⟨i0, hi, hz0, hz1, hz2⟩ := info_parts infoInts
  have I1 := Lib.hid hi
  have I2 := Lib.hid hz0
  have I3 := Lib.hid hz1
  have I4 := Lib.hid hz2
  clear hi hz0 hz1 hz2
  go_enter Try.func41, Try.ntmps41
  go_wp2_with fail
  refine (openR a len cap _ H.out).mono ?_
  rintro e w1 ⟨rfl, hb1, h1⟩
  have B1 := Lib.hid hb1
  have H1 := Lib.hid h1
  clear hb1 h1
  go_wp2_with fail
  refine (drawRows w.heap.size 0 _ H1.out (by omega)).mono ?_
  rintro e w2 ⟨v, us, m, rfl, hf, hr, hm, hd⟩
  have F2 := Lib.hid hf
  have D2 := Lib.hid hd
  have R2 := Lib.hid hr
  clear hf hr hd
  go_wp2_with fail
  refine (pick w.heap.size (0 + 200) 5 _ R2.out (by omega) (by omega) (by omega)).mono ?_
  rintro e w3 ⟨j, j0, j1, rfl, hf, hr⟩
  have F3 := Lib.hid (F2.out.trans hf)
  have D3 := Lib.hid (D2.out.far hf H1.out.lt)
  clear hf hr D2 F2
  by_cases hj : j = 0
  · subst hj
    have OW : Hid (Own (w3.alloc (.cells #[.int .i64 1, .int .i64 2] 3)) w3.heap.size (.slice (some ⟨w3.heap.size, 0, none⟩) 2 2) [1, 2]) := Lib.hid ((Arr.new w3 3 [1, 2]).own rfl _ (Nat.le_refl _) (by simp [maxLen]))
    have RV : Hid (RowV (w3.alloc (.cells #[.int .i64 1, .int .i64 2] 3)) w1.heap.size (.slice (some ⟨w3.heap.size, 0, none⟩) 2 2) [1, 2]) := Lib.hid (RowV.own OW.out F3.out.size)
    have DA := Lib.hid (D3.out.still (World.grownBy_alloc w3 (.cells #[.int .i64 1, .int .i64 2] 3) none))
    have TOP := Lib.hid DA.out.st.top
    have sz : w1.heap.size ≤ w3.heap.size := F3.out.size
    have vl9 : us.length ≤ 9 := by have := D3.out.st.len; omega
    clear OW
    go_wp2_with (first
      | (at_builtin; refine wpList_append_own _ rfl _ _ 23 rfl w1.heap.size 29 i0 (.slice none 0 0) 1 24 Try.underlying23 I1.out I2.out I3.out I4.out rfl (by decide) _ _ _ rfl (World.ownsRow.alloc TOP.out _) ⟨w3.heap.size + 1, 0, none⟩ 1 1 [.slice (some ⟨w3.heap.size, 0, none⟩) 2 2] rfl rfl (one_cell_at (by simp)) (by simp [Value.oneCell']) ?c3 ?c4 ?c5 ?_))
    case c3 => unfold maxLen; omega
    case c4 => omega
    case c5 => simp only [World.size_alloc]; omega
    intro o' wz hoz hgz _
    have DZ : Hid (DTab wz w1.heap.size o' (us ++ [.slice (some ⟨w3.heap.size, 0, none⟩) 2 2]) (m ++ [[1, 2]])) := Lib.hid (DA.out.snoc RV.out (grown_trans (World.grownBy_alloc _ _ _) hgz) hoz rfl)
    have hrow : ∀ q, Value.ownBlock _ = some q → w1.heap.size ≤ q := fun q hq => (World.ownsRow.lt TOP.out q hq).1
    have FZ : Hid (Far w.heap.size w1 wz) := Lib.hid (((F3.out.trans (Far.alloc _ _)).trans (Far.alloc _ _)).own hgz hrow)
    clear hoz hgz hrow TOP
    go_wp2_with fail
    go_ret
    exact ⟨_, _, m ++ [[1, 2]], rfl, grown_of B1.out FZ.out, by simp; omega, DZ.out.st.lower B1.out.size, DZ.out.nn⟩
  · have hj' : (j == 0) = false := by simp [hj]
    go_wp2_with fail
    go_ret
    exact ⟨_, us, m, rfl, grown_of B1.out F3.out, by omega, D3.out.st.lower B1.out.size, D3.out.nn⟩
end Go.Proofs.Ytogjgajabdiaaaa
