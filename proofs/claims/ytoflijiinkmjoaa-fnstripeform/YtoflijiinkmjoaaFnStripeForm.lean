/-
  From whatever bytes a stripe is drawn, the shards of each version fit and shards that are not there are 0 where StripeOk answers true; a shard that is not there and has a value makes it false: the law FnStripeForm returns true.
  Conditions: none.
-/
import Derived.Test.YtoflijiinkmjoaaRows
import Derived.WalkKit
import Derived.ProofKit
import Derived.OpenShut
import Derived.ShutString
import Derived.ChangeOld
import Derived.Below
import Derived.Test.YtoflijiinkmjoaaG1
import Derived.Test.YtoflijiinkmjoaaAppendZeros
import Derived.Test.YtoflijiinkmjoaaG2
import Derived.Test.YtoflijiinkmjoaaG3
import Derived.Test.YtoflijiinkmjoaaG4
import Derived.Test.YtoflijiinkmjoaaReadMath
import Derived.Test.YtoflijiinkmjoaaReadSpec
import Derived.Test.YtoflijiinkmjoaaReadTake
import Derived.Test.YtoflijiinkmjoaaReadProg
import Derived.Test.YtoflijiinkmjoaaReadTop
import Derived.Test.YtoflijiinkmjoaaReadTop2
import Derived.Test.YtoflijiinkmjoaaReadTop3
import Derived.Test.YtoflijiinkmjoaaReadSpec2
import Derived.Test.YtoflijiinkmjoaaReadSpec3
import Derived.Test.YtoflijiinkmjoaaDrawRead
import Derived.Test.YtoflijiinkmjoaaStripeMath
import Derived.Test.YtoflijiinkmjoaaStripeBlk
import Derived.Test.YtoflijiinkmjoaaStripeClean
import Derived.Test.YtoflijiinkmjoaaStripeVers
import Derived.Test.YtoflijiinkmjoaaStripeFits
import Derived.Test.YtoflijiinkmjoaaStripeOf
import Derived.Test.YtoflijiinkmjoaaStripeOps
import Derived.Test.YtoflijiinkmjoaaStripeBest
import Derived.Test.YtoflijiinkmjoaaStripePub
import Derived.Test.YtoflijiinkmjoaaStripeTop
import Derived.Test.YtoflijiinkmjoaaStripeTop2
import Derived.Test.YtoflijiinkmjoaaStripeSpec
import Derived.Test.YtoflijiinkmjoaaStripeSpec2
import Derived.Test.YtoflijiinkmjoaaStripeSpec3
import Derived.Test.YtoflijiinkmjoaaStripeCopy
import Derived.Test.YtoflijiinkmjoaaStripeSpec4
import Derived.Test.YtoflijiinkmjoaaStripeNewS
import Derived.Test.YtoflijiinkmjoaaStripePutS
import Derived.Test.YtoflijiinkmjoaaStripeWriteS
import Derived.Test.YtoflijiinkmjoaaStripeDraw
import Derived.Test.YtoflijiinkmjoaaStripeDraw2
import Derived.Test.YtoflijiinkmjoaaStripeDraw3
import Derived.Test.YtoflijiinkmjoaaStripeDraw4
namespace Go.Proofs.Ytoflijiinkmjoaa.fnStripeForm
open Go.ChangeShapes Go.WideShapes Go.ChangeAt Go.RowKit
open Go.ChangeMaps (open_string shut_string)
set_option linter.unusedVariables false

theorem own : ownKnob Try.prog.godebug = none := by kernel_rfl
theorem laidOut : laidOutB Try.prog = true := by kernel_rfl

/-- WHAT THE WALK IS TOLD OF A SLICE OF INTEGERS THAT CAME IN: it is nil; or it leads to a row of 'cap' cells, the numbers 'zs' (the first 'len' are its elements, the rest its spare room), each fitting its kind. -/
def IsRow (k : IntKind) (w : World) (a : Option Addr) (len cap : Nat) (zs : List Int) : Prop :=
  (a = none ∧ len = 0 ∧ cap = 0 ∧ zs = []) ∨
  ∃ x, a = some x ∧ len ≤ cap ∧ cap ≤ maxLen ∧ zs.length = cap ∧ (∀ i, i < zs.length → w.cell? (x.add i) = some (.int k (zs.getD i 0))) ∧ ∀ n ∈ zs, (Lit.int k n).wf = true

set_option maxHeartbeats 16000000 in
set_option maxRecDepth 20000 in
theorem walk (a0 : Option Addr) (len0 cap0 : Nat) (z0 : List Int) (a1 : Option Addr) (len1 cap1 : Nat) (z1 : List Int) (w : World) (w0 : IsRow .u8 w a0 len0 cap0 z0) (w1 : IsRow .u8 w a1 len1 cap1 z1) :
    Calls Try.prog 6 #[.slice a0 len0 cap0, .slice a1 len1 cap1] w fun e w' => e = .returned (.bool true) ∧ Below w.heap.size w w' := by
  have hc : Code w a0 len0 cap0 := code_of w0
  have hm : cap0 ≤ maxLen := hc.2.1
  have hl : len0 ≤ cap0 := hc.1
  unfold maxLen at hm
  have C := Lib.hid hc
  clear hc w0
  have hc1 : Code w a1 len1 cap1 := code_of w1
  have hm1 : cap1 ≤ maxLen := hc1.2.1
  have hl1 : len1 ≤ cap1 := hc1.1
  unfold maxLen at hm1
  clear hc1 w1
  by_cases hbig0 : (len0 : Int) > 1048576
  · go_enter Try.func6, Try.ntmps6
    go_wp2_with fail
    go_ret
    exact ⟨rfl, Below.refl _ _⟩
  by_cases hbig1 : (len1 : Int) > 1048576
  · go_enter Try.func6, Try.ntmps6
    go_wp2_with fail
    go_ret
    exact ⟨rfl, Below.refl _ _⟩
  obtain ⟨n, tm, hn8⟩ : ∃ n : Nat, (len1 : Int).tmod 8 = (n : Int) ∧ n < 8 := ⟨len1 % 8, by rw [Int.tmod_eq_emod_of_nonneg (by omega)]; omega, by omega⟩
  have hn8i : (n : Int) < 8 := by omega
  go_enter Try.func6, Try.ntmps6
  go_wp2_with fail
  refine (drawStripeOk a0 len0 cap0 _ C.out).mono ?_
  rintro e W1 ⟨k, u, x, y, a, v, f, la, lv, lf, rfl, hb, ho⟩
  obtain ⟨g1, g2, g3, d1, d2, d3, e1, e2, e3, hS⟩ := StAt.new (w := W1) (w' := W1) (k := k) ho la lv lf
  subst e1 e2 e3
  have CP := hS.cap
  unfold maxLen at CP
  have LA := Lib.hid la
  have LV := Lib.hid lv
  have LF := Lib.hid lf
  have T := Lib.hid hS
  have B := Lib.hid (hb.trans ((below_grown (World.grownBy_alloc W1 (.cells #[.int .i64 k, .slice (some ⟨g1, 0, none⟩) 8 d1, .slice (some ⟨g2, 0, none⟩) 8 d2, .slice (some ⟨g3, 0, none⟩) 8 d3] 26) none)).mono hb.size))
  clear hb ho C la lv lf hS
  go_upto_region 4 with fail
  generalize W1.alloc (.cells #[.int .i64 k, .slice (some ⟨g1, 0, none⟩) 8 d1, .slice (some ⟨g2, 0, none⟩) 8 d2, .slice (some ⟨g3, 0, none⟩) 8 d3] 26) = wr at *
  generalize W1.heap.size = t at *
  have EO := enters_of (P := Try.prog) Try.func17 (by kernel_rfl) rfl
  have EB := enters_of (P := Try.prog) Try.func27 (by kernel_rfl) rfl
  have c0 := T.out.blk.cell (i := 0) rfl
  have c1 := T.out.blk.cell (i := 1) rfl
  have c2 := T.out.blk.cell (i := 2) rfl
  have c3 := T.out.blk.cell (i := 3) rfl
  go_wp2_with fail
  refine (implStripeOk k _ _ _ a v f _ T.out.own.a T.out.own.v T.out.own.f).mono ?_
  rintro e wr ⟨q, rfl, hq, hg⟩
  have HQ := Lib.hid hq
  replace T := Lib.hid (T.out.still hg)
  replace B := Lib.hid (B.out.trans ((below_grown hg).mono B.out.size))
  clear hg hq c0 c1 c2 c3
  have c0 := T.out.blk.cell (i := 0) rfl
  have c1 := T.out.blk.cell (i := 1) rfl
  have c2 := T.out.blk.cell (i := 2) rfl
  have c3 := T.out.blk.cell (i := 3) rfl
  go_wp2_with fail
  refine (specStripeOk k _ _ _ a v f _ T.out.own.a T.out.own.v T.out.own.f (by rw [LA.out]; omega)).mono ?_
  rintro e wr ⟨q2, rfl, hq2, hg⟩
  obtain rfl : q2 = q := by rw [Bool.eq_iff_iff]; exact hq2.trans HQ.out.symm
  replace T := Lib.hid (T.out.still hg)
  replace B := Lib.hid (B.out.trans ((below_grown hg).mono B.out.size))
  clear hg hq2 c0 c1 c2 c3
  cases q2 with
  | false =>
    have c0 := T.out.blk.cell (i := 0) rfl
    have c1 := T.out.blk.cell (i := 1) rfl
    have c2 := T.out.blk.cell (i := 2) rfl
    have c3 := T.out.blk.cell (i := 3) rfl
    go_wp2_with fail
    refine (specStripeOk k _ _ _ a v f _ T.out.own.a T.out.own.v T.out.own.f (by rw [LA.out]; omega)).mono ?_
    rintro e wr ⟨q2, rfl, hq2, hg⟩
    obtain rfl : q2 = false := by rw [Bool.eq_iff_iff]; exact hq2.trans HQ.out.symm
    replace T := Lib.hid (T.out.still hg)
    replace B := Lib.hid (B.out.trans ((below_grown hg).mono B.out.size))
    clear hg hq2 c0 c1 c2 c3
    go_wp2_with fail
    go_ret
    exact ⟨rfl, B.out⟩
  | true =>
    have OK := Lib.hid (HQ.out.1 rfl)
    clear HQ
    go_wp2_with fail
    go_loopw [7] (fun i wr => ∃ j : Nat, j ≤ 8 ∧ i = .int .i64 j ∧ Below w.heap.size w wr ∧ StAt wr w.heap.size t g1 g2 g3 d1 d2 d3 k a v f) (fun i _ => 8 - (intOf i).toNat)
    case atStart => exact ⟨0, by omega, rfl, B.out, T.out⟩
    case round =>
      clear B T
      obtain ⟨j, hj, rfl, hB, hT⟩ := hrel
      have B := Lib.hid hB
      have T := Lib.hid hT
      clear hB hT
      by_cases hlt : j < 8
      · have hlt' : (j : Int) < 8 := by omega
        cases hfj : f.getD j false with
        | true =>
          obtain ⟨z, hz⟩ : ∃ z, v.getD j 0 = z := ⟨_, rfl⟩
          have HZ := Lib.hid hz
          have FM : Hid (FitM k a (ofM v f z)) := Lib.hid (by rw [← hz]; exact ⟨OK.out.kind, OK.out.sh, ofM_len _ _ _, OK.out.fit j hlt hfj⟩)
          clear hz
          go_upto_region 10 with fail
          refine wp_region_held (S := fun W => Blk W t 26 [.int .i64 k, .slice (some ⟨g1, 0, none⟩) 8 d1, .slice (some ⟨g2, 0, none⟩) 8 d2, .slice (some ⟨g3, 0, none⟩) 8 d3] ∧ W.cell? ⟨g3, j, none⟩ = some (.bool true) ∧ W.cell? ⟨g2, j, none⟩ = some (.int .i64 z)) (by kernel_rfl) ?_
          change wpAnyH _ _ _ _ _ _ _ _ wr.drew
          have hg := grown_drew (World.grownBy.refl wr none)
          replace T := Lib.hid (T.out.still hg)
          replace B := Lib.hid (B.out.trans ((below_grown hg).mono B.out.size))
          clear hg
          generalize wr.drew = wr at *
          refine Rg.take_ 0 (some 37) (.pointer (some ⟨t, 3, none⟩)) rfl rfl (by kernel_rfl) (by kernel_rfl) (by kernel_rfl) (fun _ _ _ h => h) (.inl ⟨by rfl, fun W' hS => (by go_simp)⟩) ⟨T.out.blk, (by have := (T.out.cellF hlt).1; rw [hfj] at this; exact this), (by have := (T.out.cellV hlt).1; rw [HZ.out] at this; exact this)⟩ ?_
          simp only [Act.put, List.setIfInBounds_toArray, List.set_cons_zero, List.set_cons_succ]
          refine Rg.take_ 1 (some 38) (.slice (some ⟨g3, 0, none⟩) 8 d3) rfl rfl (by kernel_rfl) (by kernel_rfl) (by kernel_rfl) (fun _ _ _ h => h) (.inl ⟨by rfl, fun W' hS => (by have c0 := hS.1.cell (i := 3) rfl; go_simp)⟩) ⟨T.out.blk, (by have := (T.out.cellF hlt).1; rw [hfj] at this; exact this), (by have := (T.out.cellV hlt).1; rw [HZ.out] at this; exact this)⟩ ?_
          simp only [Act.put, List.setIfInBounds_toArray, List.set_cons_zero, List.set_cons_succ]
          refine Rg.take_ 2 (some 39) (.int .i64 j) rfl rfl (by kernel_rfl) (by kernel_rfl) (by kernel_rfl) (fun _ _ _ h => h) (.inl ⟨by rfl, fun W' hS => (by go_simp)⟩) ⟨T.out.blk, (by have := (T.out.cellF hlt).1; rw [hfj] at this; exact this), (by have := (T.out.cellV hlt).1; rw [HZ.out] at this; exact this)⟩ ?_
          simp only [Act.put, List.setIfInBounds_toArray, List.set_cons_zero, List.set_cons_succ]
          refine Rg.take_ 3 (some 40) (.pointer (some ⟨g3, j, none⟩)) rfl rfl (by kernel_rfl) (by kernel_rfl) (by kernel_rfl) (fun _ _ _ h => h) (.inl ⟨by rfl, fun W' hS => (by go_simp)⟩) ⟨T.out.blk, (by have := (T.out.cellF hlt).1; rw [hfj] at this; exact this), (by have := (T.out.cellV hlt).1; rw [HZ.out] at this; exact this)⟩ ?_
          simp only [Act.put, List.setIfInBounds_toArray, List.set_cons_zero, List.set_cons_succ]
          refine Rg.take_ 4 (some 41) (.bool true) rfl rfl (by kernel_rfl) (by kernel_rfl) (by kernel_rfl) (fun _ _ _ h => h) (.inl ⟨by rfl, fun W' hS => (by have c0 := hS.2.1; go_simp)⟩) ⟨T.out.blk, (by have := (T.out.cellF hlt).1; rw [hfj] at this; exact this), (by have := (T.out.cellV hlt).1; rw [HZ.out] at this; exact this)⟩ ?_
          simp only [Act.put, List.setIfInBounds_toArray, List.set_cons_zero, List.set_cons_succ]
          refine Rg.take_ 5 (some 42) (.bool true) rfl rfl (by kernel_rfl) (by kernel_rfl) (by kernel_rfl) (fun _ _ _ h => h) (.inl ⟨by rfl, fun W' hS => (by go_simp)⟩) ⟨T.out.blk, (by have := (T.out.cellF hlt).1; rw [hfj] at this; exact this), (by have := (T.out.cellV hlt).1; rw [HZ.out] at this; exact this)⟩ ?_
          simp only [Act.put, List.setIfInBounds_toArray, List.set_cons_zero, List.set_cons_succ]
          refine Rg.take_ 6 (some 43) (.pointer (some ⟨t, 0, none⟩)) rfl rfl (by kernel_rfl) (by kernel_rfl) (by kernel_rfl) (fun _ _ _ h => h) (.inl ⟨by rfl, fun W' hS => (by go_simp)⟩) ⟨T.out.blk, (by have := (T.out.cellF hlt).1; rw [hfj] at this; exact this), (by have := (T.out.cellV hlt).1; rw [HZ.out] at this; exact this)⟩ ?_
          simp only [Act.put, List.setIfInBounds_toArray, List.set_cons_zero, List.set_cons_succ]
          refine Rg.take_ 7 (some 44) (.int .i64 k) rfl rfl (by kernel_rfl) (by kernel_rfl) (by kernel_rfl) (fun _ _ _ h => h) (.inl ⟨by rfl, fun W' hS => (by have c0 := hS.1.cell (i := 0) rfl; go_simp)⟩) ⟨T.out.blk, (by have := (T.out.cellF hlt).1; rw [hfj] at this; exact this), (by have := (T.out.cellV hlt).1; rw [HZ.out] at this; exact this)⟩ ?_
          simp only [Act.put, List.setIfInBounds_toArray, List.set_cons_zero, List.set_cons_succ]
          refine Rg.take_ 8 (some 45) (.pointer (some ⟨t, 1, none⟩)) rfl rfl (by kernel_rfl) (by kernel_rfl) (by kernel_rfl) (fun _ _ _ h => h) (.inl ⟨by rfl, fun W' hS => (by go_simp)⟩) ⟨T.out.blk, (by have := (T.out.cellF hlt).1; rw [hfj] at this; exact this), (by have := (T.out.cellV hlt).1; rw [HZ.out] at this; exact this)⟩ ?_
          simp only [Act.put, List.setIfInBounds_toArray, List.set_cons_zero, List.set_cons_succ]
          refine Rg.take_ 9 (some 46) (.slice (some ⟨g1, 0, none⟩) 8 d1) rfl rfl (by kernel_rfl) (by kernel_rfl) (by kernel_rfl) (fun _ _ _ h => h) (.inl ⟨by rfl, fun W' hS => (by have c0 := hS.1.cell (i := 1) rfl; go_simp)⟩) ⟨T.out.blk, (by have := (T.out.cellF hlt).1; rw [hfj] at this; exact this), (by have := (T.out.cellV hlt).1; rw [HZ.out] at this; exact this)⟩ ?_
          simp only [Act.put, List.setIfInBounds_toArray, List.set_cons_zero, List.set_cons_succ]
          refine Rg.take_ 10 (some 47) (.agg #[.int .i64 k, .slice (some ⟨g1, 0, none⟩) 8 d1, .slice (some ⟨g2, 0, none⟩) 8 d2, .slice (some ⟨g3, 0, none⟩) 8 d3]) rfl rfl (by kernel_rfl) (by kernel_rfl) (by kernel_rfl) (fun _ _ _ h => h) (.inl ⟨by rfl, fun W' hS => (by have c0 := hS.1.cell (i := 0) rfl; have c1 := hS.1.cell (i := 1) rfl; have c2 := hS.1.cell (i := 2) rfl; have c3 := hS.1.cell (i := 3) rfl; go_simp)⟩) ⟨T.out.blk, (by have := (T.out.cellF hlt).1; rw [hfj] at this; exact this), (by have := (T.out.cellV hlt).1; rw [HZ.out] at this; exact this)⟩ ?_
          simp only [Act.put, List.setIfInBounds_toArray, List.set_cons_zero, List.set_cons_succ]
          refine Rg.take_ 11 (some 48) (.pointer (some ⟨t, 2, none⟩)) rfl rfl (by kernel_rfl) (by kernel_rfl) (by kernel_rfl) (fun _ _ _ h => h) (.inl ⟨by rfl, fun W' hS => (by go_simp)⟩) ⟨T.out.blk, (by have := (T.out.cellF hlt).1; rw [hfj] at this; exact this), (by have := (T.out.cellV hlt).1; rw [HZ.out] at this; exact this)⟩ ?_
          simp only [Act.put, List.setIfInBounds_toArray, List.set_cons_zero, List.set_cons_succ]
          refine Rg.take_ 12 (some 49) (.slice (some ⟨g2, 0, none⟩) 8 d2) rfl rfl (by kernel_rfl) (by kernel_rfl) (by kernel_rfl) (fun _ _ _ h => h) (.inl ⟨by rfl, fun W' hS => (by have c0 := hS.1.cell (i := 2) rfl; go_simp)⟩) ⟨T.out.blk, (by have := (T.out.cellF hlt).1; rw [hfj] at this; exact this), (by have := (T.out.cellV hlt).1; rw [HZ.out] at this; exact this)⟩ ?_
          simp only [Act.put, List.setIfInBounds_toArray, List.set_cons_zero, List.set_cons_succ]
          refine Rg.take_ 13 (some 50) (.int .i64 j) rfl rfl (by kernel_rfl) (by kernel_rfl) (by kernel_rfl) (fun _ _ _ h => h) (.inl ⟨by rfl, fun W' hS => (by go_simp)⟩) ⟨T.out.blk, (by have := (T.out.cellF hlt).1; rw [hfj] at this; exact this), (by have := (T.out.cellV hlt).1; rw [HZ.out] at this; exact this)⟩ ?_
          simp only [Act.put, List.setIfInBounds_toArray, List.set_cons_zero, List.set_cons_succ]
          refine Rg.take_ 14 (some 51) (.pointer (some ⟨g2, j, none⟩)) rfl rfl (by kernel_rfl) (by kernel_rfl) (by kernel_rfl) (fun _ _ _ h => h) (.inl ⟨by rfl, fun W' hS => (by go_simp)⟩) ⟨T.out.blk, (by have := (T.out.cellF hlt).1; rw [hfj] at this; exact this), (by have := (T.out.cellV hlt).1; rw [HZ.out] at this; exact this)⟩ ?_
          simp only [Act.put, List.setIfInBounds_toArray, List.set_cons_zero, List.set_cons_succ]
          refine Rg.take_ 15 (some 52) (.int .i64 z) rfl rfl (by kernel_rfl) (by kernel_rfl) (by kernel_rfl) (fun _ _ _ h => h) (.inl ⟨by rfl, fun W' hS => (by have c0 := hS.2.2; go_simp)⟩) ⟨T.out.blk, (by have := (T.out.cellF hlt).1; rw [hfj] at this; exact this), (by have := (T.out.cellV hlt).1; rw [HZ.out] at this; exact this)⟩ ?_
          simp only [Act.put, List.setIfInBounds_toArray, List.set_cons_zero, List.set_cons_succ]
          refine Rg.ready_one (i := 16) (by kernel_rfl) rfl rfl ?_
          refine Rg.call_at (some 53) (f := 17) (args := #[.agg #[.int .i64 k, .slice (some ⟨g1, 0, none⟩) 8 d1, .slice (some ⟨g2, 0, none⟩) 8 d2, .slice (some ⟨g3, 0, none⟩) 8 d3], .int .i64 z]) rfl (by go_simp) ((lawOf k z _ _ _ a v f _ T.out.own.a T.out.own.v T.out.own.f LV.out LF.out).mono ?_)
          rintro e wr ⟨gv, rfl, hg, ho⟩
          have GV := Lib.hid ho.bl
          replace T := Lib.hid (T.out.still hg)
          replace B := Lib.hid (B.out.trans ((below_grown hg).mono B.out.size))
          clear hg ho
          refine ⟨_, rfl, ⟨T.out.blk, (by have := (T.out.cellF hlt).1; rw [hfj] at this; exact this), (by have := (T.out.cellV hlt).1; rw [HZ.out] at this; exact this)⟩, ?_⟩
          simp only [Act.put, List.setIfInBounds_toArray, List.set_cons_zero, List.set_cons_succ]
          refine Rg.ready_one (i := 17) (by kernel_rfl) rfl rfl ?_
          refine Rg.call_at (some 54) (f := 27) (args := #[.int .i64 k, (.slice (some ⟨g1, 0, none⟩) 8 d1), gv]) rfl (by go_simp) ((implFits k _ _ a _ _ T.out.own.a GV.out).mono ?_)
          rintro e wr ⟨q, rfl, hq, hg⟩
          obtain rfl : q = true := hq.2 FM.out
          replace T := Lib.hid (T.out.still hg)
          replace B := Lib.hid (B.out.trans ((below_grown hg).mono B.out.size))
          clear hg hq GV
          refine ⟨_, rfl, ⟨T.out.blk, (by have := (T.out.cellF hlt).1; rw [hfj] at this; exact this), (by have := (T.out.cellV hlt).1; rw [HZ.out] at this; exact this)⟩, ?_⟩
          simp only [Act.put, List.setIfInBounds_toArray, List.set_cons_zero, List.set_cons_succ]
          refine Rg.take_ 18 (some 55) (.bool false) rfl rfl (by kernel_rfl) (by kernel_rfl) (by kernel_rfl) (fun _ _ _ h => h) (.inl ⟨by rfl, fun W' hS => (by go_simp)⟩) ⟨T.out.blk, (by have := (T.out.cellF hlt).1; rw [hfj] at this; exact this), (by have := (T.out.cellV hlt).1; rw [HZ.out] at this; exact this)⟩ ?_
          simp only [Act.put, List.setIfInBounds_toArray, List.set_cons_zero, List.set_cons_succ]
          refine Rg.take_ 19 (some 56) (.bool false) rfl rfl (by kernel_rfl) (by kernel_rfl) (by kernel_rfl) (fun _ _ _ h => h) (.inl ⟨by rfl, fun W' hS => (by go_simp)⟩) ⟨T.out.blk, (by have := (T.out.cellF hlt).1; rw [hfj] at this; exact this), (by have := (T.out.cellV hlt).1; rw [HZ.out] at this; exact this)⟩ ?_
          simp only [Act.put, List.setIfInBounds_toArray, List.set_cons_zero, List.set_cons_succ]
          refine Rg.take_ 20 (some 57) (.bool false) rfl rfl (by kernel_rfl) (by kernel_rfl) (by kernel_rfl) (fun _ _ _ h => h) (.inl ⟨by rfl, fun W' hS => (by go_simp)⟩) ⟨T.out.blk, (by have := (T.out.cellF hlt).1; rw [hfj] at this; exact this), (by have := (T.out.cellV hlt).1; rw [HZ.out] at this; exact this)⟩ ?_
          simp only [Act.put, List.setIfInBounds_toArray, List.set_cons_zero, List.set_cons_succ]
          refine Rg.take_ 21 (some 58) (.pointer (some ⟨t, 3, none⟩)) rfl rfl (by kernel_rfl) (by kernel_rfl) (by kernel_rfl) (fun _ _ _ h => h) (.inl ⟨by rfl, fun W' hS => (by go_simp)⟩) ⟨T.out.blk, (by have := (T.out.cellF hlt).1; rw [hfj] at this; exact this), (by have := (T.out.cellV hlt).1; rw [HZ.out] at this; exact this)⟩ ?_
          simp only [Act.put, List.setIfInBounds_toArray, List.set_cons_zero, List.set_cons_succ]
          refine Rg.take_ 22 (some 59) (.slice (some ⟨g3, 0, none⟩) 8 d3) rfl rfl (by kernel_rfl) (by kernel_rfl) (by kernel_rfl) (fun _ _ _ h => h) (.inl ⟨by rfl, fun W' hS => (by have c0 := hS.1.cell (i := 3) rfl; go_simp)⟩) ⟨T.out.blk, (by have := (T.out.cellF hlt).1; rw [hfj] at this; exact this), (by have := (T.out.cellV hlt).1; rw [HZ.out] at this; exact this)⟩ ?_
          simp only [Act.put, List.setIfInBounds_toArray, List.set_cons_zero, List.set_cons_succ]
          refine Rg.take_ 23 (some 60) (.int .i64 j) rfl rfl (by kernel_rfl) (by kernel_rfl) (by kernel_rfl) (fun _ _ _ h => h) (.inl ⟨by rfl, fun W' hS => (by go_simp)⟩) ⟨T.out.blk, (by have := (T.out.cellF hlt).1; rw [hfj] at this; exact this), (by have := (T.out.cellV hlt).1; rw [HZ.out] at this; exact this)⟩ ?_
          simp only [Act.put, List.setIfInBounds_toArray, List.set_cons_zero, List.set_cons_succ]
          refine Rg.take_ 24 (some 61) (.pointer (some ⟨g3, j, none⟩)) rfl rfl (by kernel_rfl) (by kernel_rfl) (by kernel_rfl) (fun _ _ _ h => h) (.inl ⟨by rfl, fun W' hS => (by go_simp)⟩) ⟨T.out.blk, (by have := (T.out.cellF hlt).1; rw [hfj] at this; exact this), (by have := (T.out.cellV hlt).1; rw [HZ.out] at this; exact this)⟩ ?_
          simp only [Act.put, List.setIfInBounds_toArray, List.set_cons_zero, List.set_cons_succ]
          refine Rg.take_ 25 (some 62) (.bool true) rfl rfl (by kernel_rfl) (by kernel_rfl) (by kernel_rfl) (fun _ _ _ h => h) (.inl ⟨by rfl, fun W' hS => (by have c0 := hS.2.1; go_simp)⟩) ⟨T.out.blk, (by have := (T.out.cellF hlt).1; rw [hfj] at this; exact this), (by have := (T.out.cellV hlt).1; rw [HZ.out] at this; exact this)⟩ ?_
          simp only [Act.put, List.setIfInBounds_toArray, List.set_cons_zero, List.set_cons_succ]
          refine Rg.take_ 26 (some 63) (.bool false) rfl rfl (by kernel_rfl) (by kernel_rfl) (by kernel_rfl) (fun _ _ _ h => h) (.inl ⟨by rfl, fun W' hS => (by go_simp)⟩) ⟨T.out.blk, (by have := (T.out.cellF hlt).1; rw [hfj] at this; exact this), (by have := (T.out.cellV hlt).1; rw [HZ.out] at this; exact this)⟩ ?_
          simp only [Act.put, List.setIfInBounds_toArray, List.set_cons_zero, List.set_cons_succ]
          refine Rg.take_ 27 (some 64) (.bool false) rfl rfl (by kernel_rfl) (by kernel_rfl) (by kernel_rfl) (fun _ _ _ h => h) (.inl ⟨by rfl, fun W' hS => (by go_simp)⟩) ⟨T.out.blk, (by have := (T.out.cellF hlt).1; rw [hfj] at this; exact this), (by have := (T.out.cellV hlt).1; rw [HZ.out] at this; exact this)⟩ ?_
          simp only [Act.put, List.setIfInBounds_toArray, List.set_cons_zero, List.set_cons_succ]
          refine Rg.take_ 28 (some 65) undef rfl rfl (by kernel_rfl) (by kernel_rfl) (by kernel_rfl) (fun _ _ _ h => h) (.inr ⟨by rfl, rfl⟩) ⟨T.out.blk, (by have := (T.out.cellF hlt).1; rw [hfj] at this; exact this), (by have := (T.out.cellV hlt).1; rw [HZ.out] at this; exact this)⟩ ?_
          simp only [Act.put, List.setIfInBounds_toArray, List.set_cons_zero, List.set_cons_succ]
          refine Rg.take_ 29 (some 66) undef rfl rfl (by kernel_rfl) (by kernel_rfl) (by kernel_rfl) (fun _ _ _ h => h) (.inr ⟨by rfl, rfl⟩) ⟨T.out.blk, (by have := (T.out.cellF hlt).1; rw [hfj] at this; exact this), (by have := (T.out.cellV hlt).1; rw [HZ.out] at this; exact this)⟩ ?_
          simp only [Act.put, List.setIfInBounds_toArray, List.set_cons_zero, List.set_cons_succ]
          refine Rg.take_ 30 (some 67) undef rfl rfl (by kernel_rfl) (by kernel_rfl) (by kernel_rfl) (fun _ _ _ h => h) (.inr ⟨by rfl, rfl⟩) ⟨T.out.blk, (by have := (T.out.cellF hlt).1; rw [hfj] at this; exact this), (by have := (T.out.cellV hlt).1; rw [HZ.out] at this; exact this)⟩ ?_
          simp only [Act.put, List.setIfInBounds_toArray, List.set_cons_zero, List.set_cons_succ]
          refine Rg.take_ 31 (some 68) undef rfl rfl (by kernel_rfl) (by kernel_rfl) (by kernel_rfl) (fun _ _ _ h => h) (.inr ⟨by rfl, rfl⟩) ⟨T.out.blk, (by have := (T.out.cellF hlt).1; rw [hfj] at this; exact this), (by have := (T.out.cellV hlt).1; rw [HZ.out] at this; exact this)⟩ ?_
          simp only [Act.put, List.setIfInBounds_toArray, List.set_cons_zero, List.set_cons_succ]
          refine Rg.take_ 32 (some 69) undef rfl rfl (by kernel_rfl) (by kernel_rfl) (by kernel_rfl) (fun _ _ _ h => h) (.inr ⟨by rfl, rfl⟩) ⟨T.out.blk, (by have := (T.out.cellF hlt).1; rw [hfj] at this; exact this), (by have := (T.out.cellV hlt).1; rw [HZ.out] at this; exact this)⟩ ?_
          simp only [Act.put, List.setIfInBounds_toArray, List.set_cons_zero, List.set_cons_succ]
          refine Rg.take_ 33 (some 70) undef rfl rfl (by kernel_rfl) (by kernel_rfl) (by kernel_rfl) (fun _ _ _ h => h) (.inr ⟨by rfl, rfl⟩) ⟨T.out.blk, (by have := (T.out.cellF hlt).1; rw [hfj] at this; exact this), (by have := (T.out.cellV hlt).1; rw [HZ.out] at this; exact this)⟩ ?_
          simp only [Act.put, List.setIfInBounds_toArray, List.set_cons_zero, List.set_cons_succ]
          refine Rg.take_ 34 (some 71) undef rfl rfl (by kernel_rfl) (by kernel_rfl) (by kernel_rfl) (fun _ _ _ h => h) (.inr ⟨by rfl, rfl⟩) ⟨T.out.blk, (by have := (T.out.cellF hlt).1; rw [hfj] at this; exact this), (by have := (T.out.cellV hlt).1; rw [HZ.out] at this; exact this)⟩ ?_
          simp only [Act.put, List.setIfInBounds_toArray, List.set_cons_zero, List.set_cons_succ]
          refine Rg.take_ 35 (some 72) undef rfl rfl (by kernel_rfl) (by kernel_rfl) (by kernel_rfl) (fun _ _ _ h => h) (.inr ⟨by rfl, rfl⟩) ⟨T.out.blk, (by have := (T.out.cellF hlt).1; rw [hfj] at this; exact this), (by have := (T.out.cellV hlt).1; rw [HZ.out] at this; exact this)⟩ ?_
          simp only [Act.put, List.setIfInBounds_toArray, List.set_cons_zero, List.set_cons_succ]
          refine Rg.take_ 36 (some 73) undef rfl rfl (by kernel_rfl) (by kernel_rfl) (by kernel_rfl) (fun _ _ _ h => h) (.inr ⟨by rfl, rfl⟩) ⟨T.out.blk, (by have := (T.out.cellF hlt).1; rw [hfj] at this; exact this), (by have := (T.out.cellV hlt).1; rw [HZ.out] at this; exact this)⟩ ?_
          simp only [Act.put, List.setIfInBounds_toArray, List.set_cons_zero, List.set_cons_succ]
          refine Rg.take_ 37 (some 74) undef rfl rfl (by kernel_rfl) (by kernel_rfl) (by kernel_rfl) (fun _ _ _ h => h) (.inr ⟨by rfl, rfl⟩) ⟨T.out.blk, (by have := (T.out.cellF hlt).1; rw [hfj] at this; exact this), (by have := (T.out.cellV hlt).1; rw [HZ.out] at this; exact this)⟩ ?_
          simp only [Act.put, List.setIfInBounds_toArray, List.set_cons_zero, List.set_cons_succ]
          refine Rg.take_ 38 (some 75) undef rfl rfl (by kernel_rfl) (by kernel_rfl) (by kernel_rfl) (fun _ _ _ h => h) (.inr ⟨by rfl, rfl⟩) ⟨T.out.blk, (by have := (T.out.cellF hlt).1; rw [hfj] at this; exact this), (by have := (T.out.cellV hlt).1; rw [HZ.out] at this; exact this)⟩ ?_
          simp only [Act.put, List.setIfInBounds_toArray, List.set_cons_zero, List.set_cons_succ]
          refine Rg.take_ 39 (some 76) undef rfl rfl (by kernel_rfl) (by kernel_rfl) (by kernel_rfl) (fun _ _ _ h => h) (.inr ⟨by rfl, rfl⟩) ⟨T.out.blk, (by have := (T.out.cellF hlt).1; rw [hfj] at this; exact this), (by have := (T.out.cellV hlt).1; rw [HZ.out] at this; exact this)⟩ ?_
          simp only [Act.put, List.setIfInBounds_toArray, List.set_cons_zero, List.set_cons_succ]
          refine Rg.take_ 40 (some 77) (.bool false) rfl rfl (by kernel_rfl) (by kernel_rfl) (by kernel_rfl) (fun _ _ _ h => h) (.inl ⟨by rfl, fun W' hS => (by go_simp)⟩) ⟨T.out.blk, (by have := (T.out.cellF hlt).1; rw [hfj] at this; exact this), (by have := (T.out.cellV hlt).1; rw [HZ.out] at this; exact this)⟩ ?_
          simp only [Act.put, List.setIfInBounds_toArray, List.set_cons_zero, List.set_cons_succ]
          refine Rg.take_ 41 (some 78) (.bool false) rfl rfl (by kernel_rfl) (by kernel_rfl) (by kernel_rfl) (fun _ _ _ h => h) (.inl ⟨by rfl, fun W' hS => (by go_simp)⟩) ⟨T.out.blk, (by have := (T.out.cellF hlt).1; rw [hfj] at this; exact this), (by have := (T.out.cellV hlt).1; rw [HZ.out] at this; exact this)⟩ ?_
          simp only [Act.put, List.setIfInBounds_toArray, List.set_cons_zero, List.set_cons_succ]
          refine wpAnyH_done (by kernel_rfl) ?_ _
          go_wp2_with fail
          go_roundw
          case rel => exact ⟨j + 1, by omega, by go_num, B.out, T.out⟩
          case measure => simp [intOf]; omega
        | false =>
          have ZZ := Lib.hid ((OK.out.clean j hlt).2 hfj)
          have wz0 : IntKind.i64.wrap 0 = 0 := by decide
          go_upto_region 10 with fail
          refine wp_region_held (S := fun W => Blk W t 26 [.int .i64 k, .slice (some ⟨g1, 0, none⟩) 8 d1, .slice (some ⟨g2, 0, none⟩) 8 d2, .slice (some ⟨g3, 0, none⟩) 8 d3] ∧ W.cell? ⟨g3, j, none⟩ = some (.bool false) ∧ W.cell? ⟨g1, j, none⟩ = some (.int .i64 0) ∧ W.cell? ⟨g2, j, none⟩ = some (.int .i64 0)) (by kernel_rfl) ?_
          change wpAnyH _ _ _ _ _ _ _ _ wr.drew
          have hg := grown_drew (World.grownBy.refl wr none)
          replace T := Lib.hid (T.out.still hg)
          replace B := Lib.hid (B.out.trans ((below_grown hg).mono B.out.size))
          clear hg
          generalize wr.drew = wr at *
          refine Rg.take_ 0 (some 37) (.pointer (some ⟨t, 3, none⟩)) rfl rfl (by kernel_rfl) (by kernel_rfl) (by kernel_rfl) (fun _ _ _ h => h) (.inl ⟨by rfl, fun W' hS => (by go_simp)⟩) ⟨T.out.blk, (by have := (T.out.cellF hlt).1; rw [hfj] at this; exact this), (by have := (T.out.cellA hlt).1; rw [ZZ.out.1] at this; exact this), (by have := (T.out.cellV hlt).1; rw [ZZ.out.2] at this; exact this)⟩ ?_
          simp only [Act.put, List.setIfInBounds_toArray, List.set_cons_zero, List.set_cons_succ]
          refine Rg.take_ 1 (some 38) (.slice (some ⟨g3, 0, none⟩) 8 d3) rfl rfl (by kernel_rfl) (by kernel_rfl) (by kernel_rfl) (fun _ _ _ h => h) (.inl ⟨by rfl, fun W' hS => (by have c0 := hS.1.cell (i := 3) rfl; go_simp)⟩) ⟨T.out.blk, (by have := (T.out.cellF hlt).1; rw [hfj] at this; exact this), (by have := (T.out.cellA hlt).1; rw [ZZ.out.1] at this; exact this), (by have := (T.out.cellV hlt).1; rw [ZZ.out.2] at this; exact this)⟩ ?_
          simp only [Act.put, List.setIfInBounds_toArray, List.set_cons_zero, List.set_cons_succ]
          refine Rg.take_ 2 (some 39) (.int .i64 j) rfl rfl (by kernel_rfl) (by kernel_rfl) (by kernel_rfl) (fun _ _ _ h => h) (.inl ⟨by rfl, fun W' hS => (by go_simp)⟩) ⟨T.out.blk, (by have := (T.out.cellF hlt).1; rw [hfj] at this; exact this), (by have := (T.out.cellA hlt).1; rw [ZZ.out.1] at this; exact this), (by have := (T.out.cellV hlt).1; rw [ZZ.out.2] at this; exact this)⟩ ?_
          simp only [Act.put, List.setIfInBounds_toArray, List.set_cons_zero, List.set_cons_succ]
          refine Rg.take_ 3 (some 40) (.pointer (some ⟨g3, j, none⟩)) rfl rfl (by kernel_rfl) (by kernel_rfl) (by kernel_rfl) (fun _ _ _ h => h) (.inl ⟨by rfl, fun W' hS => (by go_simp)⟩) ⟨T.out.blk, (by have := (T.out.cellF hlt).1; rw [hfj] at this; exact this), (by have := (T.out.cellA hlt).1; rw [ZZ.out.1] at this; exact this), (by have := (T.out.cellV hlt).1; rw [ZZ.out.2] at this; exact this)⟩ ?_
          simp only [Act.put, List.setIfInBounds_toArray, List.set_cons_zero, List.set_cons_succ]
          refine Rg.take_ 4 (some 41) (.bool false) rfl rfl (by kernel_rfl) (by kernel_rfl) (by kernel_rfl) (fun _ _ _ h => h) (.inl ⟨by rfl, fun W' hS => (by have c0 := hS.2.1; go_simp)⟩) ⟨T.out.blk, (by have := (T.out.cellF hlt).1; rw [hfj] at this; exact this), (by have := (T.out.cellA hlt).1; rw [ZZ.out.1] at this; exact this), (by have := (T.out.cellV hlt).1; rw [ZZ.out.2] at this; exact this)⟩ ?_
          simp only [Act.put, List.setIfInBounds_toArray, List.set_cons_zero, List.set_cons_succ]
          refine Rg.take_ 5 (some 42) (.bool false) rfl rfl (by kernel_rfl) (by kernel_rfl) (by kernel_rfl) (fun _ _ _ h => h) (.inl ⟨by rfl, fun W' hS => (by go_simp)⟩) ⟨T.out.blk, (by have := (T.out.cellF hlt).1; rw [hfj] at this; exact this), (by have := (T.out.cellA hlt).1; rw [ZZ.out.1] at this; exact this), (by have := (T.out.cellV hlt).1; rw [ZZ.out.2] at this; exact this)⟩ ?_
          simp only [Act.put, List.setIfInBounds_toArray, List.set_cons_zero, List.set_cons_succ]
          refine Rg.take_ 6 (some 43) undef rfl rfl (by kernel_rfl) (by kernel_rfl) (by kernel_rfl) (fun _ _ _ h => h) (.inr ⟨by rfl, rfl⟩) ⟨T.out.blk, (by have := (T.out.cellF hlt).1; rw [hfj] at this; exact this), (by have := (T.out.cellA hlt).1; rw [ZZ.out.1] at this; exact this), (by have := (T.out.cellV hlt).1; rw [ZZ.out.2] at this; exact this)⟩ ?_
          simp only [Act.put, List.setIfInBounds_toArray, List.set_cons_zero, List.set_cons_succ]
          refine Rg.take_ 7 (some 44) undef rfl rfl (by kernel_rfl) (by kernel_rfl) (by kernel_rfl) (fun _ _ _ h => h) (.inr ⟨by rfl, rfl⟩) ⟨T.out.blk, (by have := (T.out.cellF hlt).1; rw [hfj] at this; exact this), (by have := (T.out.cellA hlt).1; rw [ZZ.out.1] at this; exact this), (by have := (T.out.cellV hlt).1; rw [ZZ.out.2] at this; exact this)⟩ ?_
          simp only [Act.put, List.setIfInBounds_toArray, List.set_cons_zero, List.set_cons_succ]
          refine Rg.take_ 8 (some 45) undef rfl rfl (by kernel_rfl) (by kernel_rfl) (by kernel_rfl) (fun _ _ _ h => h) (.inr ⟨by rfl, rfl⟩) ⟨T.out.blk, (by have := (T.out.cellF hlt).1; rw [hfj] at this; exact this), (by have := (T.out.cellA hlt).1; rw [ZZ.out.1] at this; exact this), (by have := (T.out.cellV hlt).1; rw [ZZ.out.2] at this; exact this)⟩ ?_
          simp only [Act.put, List.setIfInBounds_toArray, List.set_cons_zero, List.set_cons_succ]
          refine Rg.take_ 9 (some 46) undef rfl rfl (by kernel_rfl) (by kernel_rfl) (by kernel_rfl) (fun _ _ _ h => h) (.inr ⟨by rfl, rfl⟩) ⟨T.out.blk, (by have := (T.out.cellF hlt).1; rw [hfj] at this; exact this), (by have := (T.out.cellA hlt).1; rw [ZZ.out.1] at this; exact this), (by have := (T.out.cellV hlt).1; rw [ZZ.out.2] at this; exact this)⟩ ?_
          simp only [Act.put, List.setIfInBounds_toArray, List.set_cons_zero, List.set_cons_succ]
          refine Rg.take_ 10 (some 47) undef rfl rfl (by kernel_rfl) (by kernel_rfl) (by kernel_rfl) (fun _ _ _ h => h) (.inr ⟨by rfl, rfl⟩) ⟨T.out.blk, (by have := (T.out.cellF hlt).1; rw [hfj] at this; exact this), (by have := (T.out.cellA hlt).1; rw [ZZ.out.1] at this; exact this), (by have := (T.out.cellV hlt).1; rw [ZZ.out.2] at this; exact this)⟩ ?_
          simp only [Act.put, List.setIfInBounds_toArray, List.set_cons_zero, List.set_cons_succ]
          refine Rg.take_ 11 (some 48) undef rfl rfl (by kernel_rfl) (by kernel_rfl) (by kernel_rfl) (fun _ _ _ h => h) (.inr ⟨by rfl, rfl⟩) ⟨T.out.blk, (by have := (T.out.cellF hlt).1; rw [hfj] at this; exact this), (by have := (T.out.cellA hlt).1; rw [ZZ.out.1] at this; exact this), (by have := (T.out.cellV hlt).1; rw [ZZ.out.2] at this; exact this)⟩ ?_
          simp only [Act.put, List.setIfInBounds_toArray, List.set_cons_zero, List.set_cons_succ]
          refine Rg.take_ 12 (some 49) undef rfl rfl (by kernel_rfl) (by kernel_rfl) (by kernel_rfl) (fun _ _ _ h => h) (.inr ⟨by rfl, rfl⟩) ⟨T.out.blk, (by have := (T.out.cellF hlt).1; rw [hfj] at this; exact this), (by have := (T.out.cellA hlt).1; rw [ZZ.out.1] at this; exact this), (by have := (T.out.cellV hlt).1; rw [ZZ.out.2] at this; exact this)⟩ ?_
          simp only [Act.put, List.setIfInBounds_toArray, List.set_cons_zero, List.set_cons_succ]
          refine Rg.take_ 13 (some 50) undef rfl rfl (by kernel_rfl) (by kernel_rfl) (by kernel_rfl) (fun _ _ _ h => h) (.inr ⟨by rfl, rfl⟩) ⟨T.out.blk, (by have := (T.out.cellF hlt).1; rw [hfj] at this; exact this), (by have := (T.out.cellA hlt).1; rw [ZZ.out.1] at this; exact this), (by have := (T.out.cellV hlt).1; rw [ZZ.out.2] at this; exact this)⟩ ?_
          simp only [Act.put, List.setIfInBounds_toArray, List.set_cons_zero, List.set_cons_succ]
          refine Rg.take_ 14 (some 51) undef rfl rfl (by kernel_rfl) (by kernel_rfl) (by kernel_rfl) (fun _ _ _ h => h) (.inr ⟨by rfl, rfl⟩) ⟨T.out.blk, (by have := (T.out.cellF hlt).1; rw [hfj] at this; exact this), (by have := (T.out.cellA hlt).1; rw [ZZ.out.1] at this; exact this), (by have := (T.out.cellV hlt).1; rw [ZZ.out.2] at this; exact this)⟩ ?_
          simp only [Act.put, List.setIfInBounds_toArray, List.set_cons_zero, List.set_cons_succ]
          refine Rg.take_ 15 (some 52) undef rfl rfl (by kernel_rfl) (by kernel_rfl) (by kernel_rfl) (fun _ _ _ h => h) (.inr ⟨by rfl, rfl⟩) ⟨T.out.blk, (by have := (T.out.cellF hlt).1; rw [hfj] at this; exact this), (by have := (T.out.cellA hlt).1; rw [ZZ.out.1] at this; exact this), (by have := (T.out.cellV hlt).1; rw [ZZ.out.2] at this; exact this)⟩ ?_
          simp only [Act.put, List.setIfInBounds_toArray, List.set_cons_zero, List.set_cons_succ]
          refine Rg.take_ 16 (some 53) undef rfl rfl (by kernel_rfl) (by kernel_rfl) (by kernel_rfl) (fun _ _ _ h => h) (.inr ⟨by rfl, rfl⟩) ⟨T.out.blk, (by have := (T.out.cellF hlt).1; rw [hfj] at this; exact this), (by have := (T.out.cellA hlt).1; rw [ZZ.out.1] at this; exact this), (by have := (T.out.cellV hlt).1; rw [ZZ.out.2] at this; exact this)⟩ ?_
          simp only [Act.put, List.setIfInBounds_toArray, List.set_cons_zero, List.set_cons_succ]
          refine Rg.take_ 17 (some 54) undef rfl rfl (by kernel_rfl) (by kernel_rfl) (by kernel_rfl) (fun _ _ _ h => h) (.inr ⟨by rfl, rfl⟩) ⟨T.out.blk, (by have := (T.out.cellF hlt).1; rw [hfj] at this; exact this), (by have := (T.out.cellA hlt).1; rw [ZZ.out.1] at this; exact this), (by have := (T.out.cellV hlt).1; rw [ZZ.out.2] at this; exact this)⟩ ?_
          simp only [Act.put, List.setIfInBounds_toArray, List.set_cons_zero, List.set_cons_succ]
          refine Rg.take_ 18 (some 55) undef rfl rfl (by kernel_rfl) (by kernel_rfl) (by kernel_rfl) (fun _ _ _ h => h) (.inr ⟨by rfl, rfl⟩) ⟨T.out.blk, (by have := (T.out.cellF hlt).1; rw [hfj] at this; exact this), (by have := (T.out.cellA hlt).1; rw [ZZ.out.1] at this; exact this), (by have := (T.out.cellV hlt).1; rw [ZZ.out.2] at this; exact this)⟩ ?_
          simp only [Act.put, List.setIfInBounds_toArray, List.set_cons_zero, List.set_cons_succ]
          refine Rg.take_ 19 (some 56) (.bool false) rfl rfl (by kernel_rfl) (by kernel_rfl) (by kernel_rfl) (fun _ _ _ h => h) (.inl ⟨by rfl, fun W' hS => (by go_simp)⟩) ⟨T.out.blk, (by have := (T.out.cellF hlt).1; rw [hfj] at this; exact this), (by have := (T.out.cellA hlt).1; rw [ZZ.out.1] at this; exact this), (by have := (T.out.cellV hlt).1; rw [ZZ.out.2] at this; exact this)⟩ ?_
          simp only [Act.put, List.setIfInBounds_toArray, List.set_cons_zero, List.set_cons_succ]
          refine Rg.take_ 20 (some 57) (.bool false) rfl rfl (by kernel_rfl) (by kernel_rfl) (by kernel_rfl) (fun _ _ _ h => h) (.inl ⟨by rfl, fun W' hS => (by go_simp)⟩) ⟨T.out.blk, (by have := (T.out.cellF hlt).1; rw [hfj] at this; exact this), (by have := (T.out.cellA hlt).1; rw [ZZ.out.1] at this; exact this), (by have := (T.out.cellV hlt).1; rw [ZZ.out.2] at this; exact this)⟩ ?_
          simp only [Act.put, List.setIfInBounds_toArray, List.set_cons_zero, List.set_cons_succ]
          refine Rg.take_ 21 (some 58) (.pointer (some ⟨t, 3, none⟩)) rfl rfl (by kernel_rfl) (by kernel_rfl) (by kernel_rfl) (fun _ _ _ h => h) (.inl ⟨by rfl, fun W' hS => (by go_simp)⟩) ⟨T.out.blk, (by have := (T.out.cellF hlt).1; rw [hfj] at this; exact this), (by have := (T.out.cellA hlt).1; rw [ZZ.out.1] at this; exact this), (by have := (T.out.cellV hlt).1; rw [ZZ.out.2] at this; exact this)⟩ ?_
          simp only [Act.put, List.setIfInBounds_toArray, List.set_cons_zero, List.set_cons_succ]
          refine Rg.take_ 22 (some 59) (.slice (some ⟨g3, 0, none⟩) 8 d3) rfl rfl (by kernel_rfl) (by kernel_rfl) (by kernel_rfl) (fun _ _ _ h => h) (.inl ⟨by rfl, fun W' hS => (by have c0 := hS.1.cell (i := 3) rfl; go_simp)⟩) ⟨T.out.blk, (by have := (T.out.cellF hlt).1; rw [hfj] at this; exact this), (by have := (T.out.cellA hlt).1; rw [ZZ.out.1] at this; exact this), (by have := (T.out.cellV hlt).1; rw [ZZ.out.2] at this; exact this)⟩ ?_
          simp only [Act.put, List.setIfInBounds_toArray, List.set_cons_zero, List.set_cons_succ]
          refine Rg.take_ 23 (some 60) (.int .i64 j) rfl rfl (by kernel_rfl) (by kernel_rfl) (by kernel_rfl) (fun _ _ _ h => h) (.inl ⟨by rfl, fun W' hS => (by go_simp)⟩) ⟨T.out.blk, (by have := (T.out.cellF hlt).1; rw [hfj] at this; exact this), (by have := (T.out.cellA hlt).1; rw [ZZ.out.1] at this; exact this), (by have := (T.out.cellV hlt).1; rw [ZZ.out.2] at this; exact this)⟩ ?_
          simp only [Act.put, List.setIfInBounds_toArray, List.set_cons_zero, List.set_cons_succ]
          refine Rg.take_ 24 (some 61) (.pointer (some ⟨g3, j, none⟩)) rfl rfl (by kernel_rfl) (by kernel_rfl) (by kernel_rfl) (fun _ _ _ h => h) (.inl ⟨by rfl, fun W' hS => (by go_simp)⟩) ⟨T.out.blk, (by have := (T.out.cellF hlt).1; rw [hfj] at this; exact this), (by have := (T.out.cellA hlt).1; rw [ZZ.out.1] at this; exact this), (by have := (T.out.cellV hlt).1; rw [ZZ.out.2] at this; exact this)⟩ ?_
          simp only [Act.put, List.setIfInBounds_toArray, List.set_cons_zero, List.set_cons_succ]
          refine Rg.take_ 25 (some 62) (.bool false) rfl rfl (by kernel_rfl) (by kernel_rfl) (by kernel_rfl) (fun _ _ _ h => h) (.inl ⟨by rfl, fun W' hS => (by have c0 := hS.2.1; go_simp)⟩) ⟨T.out.blk, (by have := (T.out.cellF hlt).1; rw [hfj] at this; exact this), (by have := (T.out.cellA hlt).1; rw [ZZ.out.1] at this; exact this), (by have := (T.out.cellV hlt).1; rw [ZZ.out.2] at this; exact this)⟩ ?_
          simp only [Act.put, List.setIfInBounds_toArray, List.set_cons_zero, List.set_cons_succ]
          refine Rg.take_ 26 (some 63) (.bool true) rfl rfl (by kernel_rfl) (by kernel_rfl) (by kernel_rfl) (fun _ _ _ h => h) (.inl ⟨by rfl, fun W' hS => (by go_simp)⟩) ⟨T.out.blk, (by have := (T.out.cellF hlt).1; rw [hfj] at this; exact this), (by have := (T.out.cellA hlt).1; rw [ZZ.out.1] at this; exact this), (by have := (T.out.cellV hlt).1; rw [ZZ.out.2] at this; exact this)⟩ ?_
          simp only [Act.put, List.setIfInBounds_toArray, List.set_cons_zero, List.set_cons_succ]
          refine Rg.take_ 27 (some 64) (.bool true) rfl rfl (by kernel_rfl) (by kernel_rfl) (by kernel_rfl) (fun _ _ _ h => h) (.inl ⟨by rfl, fun W' hS => (by go_simp)⟩) ⟨T.out.blk, (by have := (T.out.cellF hlt).1; rw [hfj] at this; exact this), (by have := (T.out.cellA hlt).1; rw [ZZ.out.1] at this; exact this), (by have := (T.out.cellV hlt).1; rw [ZZ.out.2] at this; exact this)⟩ ?_
          simp only [Act.put, List.setIfInBounds_toArray, List.set_cons_zero, List.set_cons_succ]
          refine Rg.take_ 28 (some 65) (.pointer (some ⟨t, 1, none⟩)) rfl rfl (by kernel_rfl) (by kernel_rfl) (by kernel_rfl) (fun _ _ _ h => h) (.inl ⟨by rfl, fun W' hS => (by go_simp)⟩) ⟨T.out.blk, (by have := (T.out.cellF hlt).1; rw [hfj] at this; exact this), (by have := (T.out.cellA hlt).1; rw [ZZ.out.1] at this; exact this), (by have := (T.out.cellV hlt).1; rw [ZZ.out.2] at this; exact this)⟩ ?_
          simp only [Act.put, List.setIfInBounds_toArray, List.set_cons_zero, List.set_cons_succ]
          refine Rg.take_ 29 (some 66) (.slice (some ⟨g1, 0, none⟩) 8 d1) rfl rfl (by kernel_rfl) (by kernel_rfl) (by kernel_rfl) (fun _ _ _ h => h) (.inl ⟨by rfl, fun W' hS => (by have c0 := hS.1.cell (i := 1) rfl; go_simp)⟩) ⟨T.out.blk, (by have := (T.out.cellF hlt).1; rw [hfj] at this; exact this), (by have := (T.out.cellA hlt).1; rw [ZZ.out.1] at this; exact this), (by have := (T.out.cellV hlt).1; rw [ZZ.out.2] at this; exact this)⟩ ?_
          simp only [Act.put, List.setIfInBounds_toArray, List.set_cons_zero, List.set_cons_succ]
          refine Rg.take_ 30 (some 67) (.int .i64 j) rfl rfl (by kernel_rfl) (by kernel_rfl) (by kernel_rfl) (fun _ _ _ h => h) (.inl ⟨by rfl, fun W' hS => (by go_simp)⟩) ⟨T.out.blk, (by have := (T.out.cellF hlt).1; rw [hfj] at this; exact this), (by have := (T.out.cellA hlt).1; rw [ZZ.out.1] at this; exact this), (by have := (T.out.cellV hlt).1; rw [ZZ.out.2] at this; exact this)⟩ ?_
          simp only [Act.put, List.setIfInBounds_toArray, List.set_cons_zero, List.set_cons_succ]
          refine Rg.take_ 31 (some 68) (.pointer (some ⟨g1, j, none⟩)) rfl rfl (by kernel_rfl) (by kernel_rfl) (by kernel_rfl) (fun _ _ _ h => h) (.inl ⟨by rfl, fun W' hS => (by go_simp)⟩) ⟨T.out.blk, (by have := (T.out.cellF hlt).1; rw [hfj] at this; exact this), (by have := (T.out.cellA hlt).1; rw [ZZ.out.1] at this; exact this), (by have := (T.out.cellV hlt).1; rw [ZZ.out.2] at this; exact this)⟩ ?_
          simp only [Act.put, List.setIfInBounds_toArray, List.set_cons_zero, List.set_cons_succ]
          refine Rg.take_ 32 (some 69) (.int .i64 0) rfl rfl (by kernel_rfl) (by kernel_rfl) (by kernel_rfl) (fun _ _ _ h => h) (.inl ⟨by rfl, fun W' hS => (by have c0 := hS.2.2.1; go_simp)⟩) ⟨T.out.blk, (by have := (T.out.cellF hlt).1; rw [hfj] at this; exact this), (by have := (T.out.cellA hlt).1; rw [ZZ.out.1] at this; exact this), (by have := (T.out.cellV hlt).1; rw [ZZ.out.2] at this; exact this)⟩ ?_
          simp only [Act.put, List.setIfInBounds_toArray, List.set_cons_zero, List.set_cons_succ]
          refine Rg.take_ 33 (some 70) (.pointer (some ⟨t, 2, none⟩)) rfl rfl (by kernel_rfl) (by kernel_rfl) (by kernel_rfl) (fun _ _ _ h => h) (.inl ⟨by rfl, fun W' hS => (by go_simp)⟩) ⟨T.out.blk, (by have := (T.out.cellF hlt).1; rw [hfj] at this; exact this), (by have := (T.out.cellA hlt).1; rw [ZZ.out.1] at this; exact this), (by have := (T.out.cellV hlt).1; rw [ZZ.out.2] at this; exact this)⟩ ?_
          simp only [Act.put, List.setIfInBounds_toArray, List.set_cons_zero, List.set_cons_succ]
          refine Rg.take_ 34 (some 71) (.slice (some ⟨g2, 0, none⟩) 8 d2) rfl rfl (by kernel_rfl) (by kernel_rfl) (by kernel_rfl) (fun _ _ _ h => h) (.inl ⟨by rfl, fun W' hS => (by have c0 := hS.1.cell (i := 2) rfl; go_simp)⟩) ⟨T.out.blk, (by have := (T.out.cellF hlt).1; rw [hfj] at this; exact this), (by have := (T.out.cellA hlt).1; rw [ZZ.out.1] at this; exact this), (by have := (T.out.cellV hlt).1; rw [ZZ.out.2] at this; exact this)⟩ ?_
          simp only [Act.put, List.setIfInBounds_toArray, List.set_cons_zero, List.set_cons_succ]
          refine Rg.take_ 35 (some 72) (.int .i64 j) rfl rfl (by kernel_rfl) (by kernel_rfl) (by kernel_rfl) (fun _ _ _ h => h) (.inl ⟨by rfl, fun W' hS => (by go_simp)⟩) ⟨T.out.blk, (by have := (T.out.cellF hlt).1; rw [hfj] at this; exact this), (by have := (T.out.cellA hlt).1; rw [ZZ.out.1] at this; exact this), (by have := (T.out.cellV hlt).1; rw [ZZ.out.2] at this; exact this)⟩ ?_
          simp only [Act.put, List.setIfInBounds_toArray, List.set_cons_zero, List.set_cons_succ]
          refine Rg.take_ 36 (some 73) (.pointer (some ⟨g2, j, none⟩)) rfl rfl (by kernel_rfl) (by kernel_rfl) (by kernel_rfl) (fun _ _ _ h => h) (.inl ⟨by rfl, fun W' hS => (by go_simp)⟩) ⟨T.out.blk, (by have := (T.out.cellF hlt).1; rw [hfj] at this; exact this), (by have := (T.out.cellA hlt).1; rw [ZZ.out.1] at this; exact this), (by have := (T.out.cellV hlt).1; rw [ZZ.out.2] at this; exact this)⟩ ?_
          simp only [Act.put, List.setIfInBounds_toArray, List.set_cons_zero, List.set_cons_succ]
          refine Rg.take_ 37 (some 74) (.int .i64 0) rfl rfl (by kernel_rfl) (by kernel_rfl) (by kernel_rfl) (fun _ _ _ h => h) (.inl ⟨by rfl, fun W' hS => (by have c0 := hS.2.2.2; go_simp)⟩) ⟨T.out.blk, (by have := (T.out.cellF hlt).1; rw [hfj] at this; exact this), (by have := (T.out.cellA hlt).1; rw [ZZ.out.1] at this; exact this), (by have := (T.out.cellV hlt).1; rw [ZZ.out.2] at this; exact this)⟩ ?_
          simp only [Act.put, List.setIfInBounds_toArray, List.set_cons_zero, List.set_cons_succ]
          refine Rg.take_ 38 (some 75) (.int .i64 0) rfl rfl (by kernel_rfl) (by kernel_rfl) (by kernel_rfl) (fun _ _ _ h => h) (.inl ⟨by rfl, fun W' hS => (by go_simp)⟩) ⟨T.out.blk, (by have := (T.out.cellF hlt).1; rw [hfj] at this; exact this), (by have := (T.out.cellA hlt).1; rw [ZZ.out.1] at this; exact this), (by have := (T.out.cellV hlt).1; rw [ZZ.out.2] at this; exact this)⟩ ?_
          simp only [Act.put, List.setIfInBounds_toArray, List.set_cons_zero, List.set_cons_succ]
          refine Rg.take_ 39 (some 76) (.bool false) rfl rfl (by kernel_rfl) (by kernel_rfl) (by kernel_rfl) (fun _ _ _ h => h) (.inl ⟨by rfl, fun W' hS => (by go_simp)⟩) ⟨T.out.blk, (by have := (T.out.cellF hlt).1; rw [hfj] at this; exact this), (by have := (T.out.cellA hlt).1; rw [ZZ.out.1] at this; exact this), (by have := (T.out.cellV hlt).1; rw [ZZ.out.2] at this; exact this)⟩ ?_
          simp only [Act.put, List.setIfInBounds_toArray, List.set_cons_zero, List.set_cons_succ]
          refine Rg.take_ 40 (some 77) (.bool false) rfl rfl (by kernel_rfl) (by kernel_rfl) (by kernel_rfl) (fun _ _ _ h => h) (.inl ⟨by rfl, fun W' hS => (by go_simp)⟩) ⟨T.out.blk, (by have := (T.out.cellF hlt).1; rw [hfj] at this; exact this), (by have := (T.out.cellA hlt).1; rw [ZZ.out.1] at this; exact this), (by have := (T.out.cellV hlt).1; rw [ZZ.out.2] at this; exact this)⟩ ?_
          simp only [Act.put, List.setIfInBounds_toArray, List.set_cons_zero, List.set_cons_succ]
          refine Rg.take_ 41 (some 78) (.bool false) rfl rfl (by kernel_rfl) (by kernel_rfl) (by kernel_rfl) (fun _ _ _ h => h) (.inl ⟨by rfl, fun W' hS => (by go_simp)⟩) ⟨T.out.blk, (by have := (T.out.cellF hlt).1; rw [hfj] at this; exact this), (by have := (T.out.cellA hlt).1; rw [ZZ.out.1] at this; exact this), (by have := (T.out.cellV hlt).1; rw [ZZ.out.2] at this; exact this)⟩ ?_
          simp only [Act.put, List.setIfInBounds_toArray, List.set_cons_zero, List.set_cons_succ]
          refine wpAnyH_done (by kernel_rfl) ?_ _
          go_wp2_with fail
          go_roundw
          case rel => exact ⟨j + 1, by omega, by go_num, B.out, T.out⟩
          case measure => simp [intOf]; omega
      · obtain rfl : j = 8 := by omega
        have c0 := T.out.blk.cell (i := 0) rfl
        have c1 := T.out.blk.cell (i := 1) rfl
        have c2 := T.out.blk.cell (i := 2) rfl
        have c3 := T.out.blk.cell (i := 3) rfl
        go_wp2_with fail
        refine (implStripeLose k _ _ _ a v f n _ T.out.own.a T.out.own.v T.out.own.f).mono ?_
        rintro e wr ⟨k', a', v', f', hT, u', x', y', rfl, hg, ho⟩
        obtain ⟨e1, e2, e3, e4⟩ : k = k' ∧ a' = a.set n 0 ∧ v' = v.set n 0 ∧ f' = f.set n false := by
          rcases hT with ⟨_, m, hm, _, e1, e2, e3, e4⟩ | ⟨h, _⟩
          · obtain rfl : n = m := by omega
            exact ⟨e1.symm, e2, e3, e4⟩
          · exact absurd ⟨OK.out, by omega, by omega⟩ h
        subst e1 e2 e3 e4
        obtain ⟨h1, h2, h3, d4, d5, d6, e1, e2, e3, hV⟩ := StAt.new (w := wr) (w' := wr) (k := k) (ho.lower B.out.size) (by rw [List.length_set]; exact LA.out) (by rw [List.length_set]; exact LV.out) (by rw [List.length_set]; exact LF.out)
        subst e1 e2 e3
        have V := Lib.hid hV
        have CQ := hV.cap
        unfold maxLen at CQ
        replace B := Lib.hid (B.out.trans ((below_grown (grown_trans hg (World.grownBy_alloc wr (.cells #[.int .i64 k, .slice (some ⟨h1, 0, none⟩) 8 d4, .slice (some ⟨h2, 0, none⟩) 8 d5, .slice (some ⟨h3, 0, none⟩) 8 d6] 26) none))).mono B.out.size))
        clear hg ho hT hV c0 c1 c2 c3 T
        go_upto_region 13 with fail
        generalize hwx : wr.alloc (.cells #[.int .i64 k, .slice (some ⟨h1, 0, none⟩) 8 d4, .slice (some ⟨h2, 0, none⟩) 8 d5, .slice (some ⟨h3, 0, none⟩) 8 d6] 26) = wx at *
        generalize wr.heap.size = t2 at *
        clear hwx wr
        have v1 := V.out.blk.cell (i := 1) rfl
        obtain ⟨x1, f1, b1⟩ := V.out.cellA hn8
        have V7 := Lib.hid (V.out.putA n 1)
        have B7 : Hid (Below w.heap.size w (wx.setCell ⟨h1, n, none⟩ (.int .i64 1))) := Lib.hid (below_rowS B.out (grownCell wx ⟨h1, n, none⟩ (.int .i64 1)) b1 (Nat.le_refl _))
        go_upto_region 14 with fail
        clear v1 x1 f1 b1 V B
        generalize wx.setCell ⟨h1, n, none⟩ (.int .i64 1) = wr at *
        have c0 := V7.out.blk.cell (i := 0) rfl
        have c1 := V7.out.blk.cell (i := 1) rfl
        have c2 := V7.out.blk.cell (i := 2) rfl
        have c3 := V7.out.blk.cell (i := 3) rfl
        go_wp2_with fail
        refine (implStripeOk k _ _ _ _ _ _ _ V7.out.own.a V7.out.own.v V7.out.own.f).mono ?_
        rintro e wr ⟨q, rfl, hq, hg⟩
        obtain rfl : q = false := by
          cases q with
          | false => rfl
          | true =>
            have := ((hq.1 rfl).clean n hn8).2 (by rw [getD_setB n n false (by rw [LF.out]; exact hn8), if_pos rfl])
            have h := this.1
            rw [getD_setI n n 1 (by rw [List.length_set, LA.out]; exact hn8), if_pos rfl] at h
            cases h
        replace B7 := Lib.hid (B7.out.trans ((below_grown hg).mono B7.out.size))
        clear hg hq
        go_wp2_with fail
        go_ret
        exact ⟨rfl, B7.out⟩

set_option maxRecDepth 100000 in
theorem lifted (os : Os) (started : os.Started) (H : Type) (enc : TypeId × Value → H) :
    ReturnsInHanded {} Try.checked os 6 .any (Rows.fnStripeFormSpec.pre6 enc Try.prog Try.f6 Rows.fnStripeFormRow.domain false) (Rows.fnStripeFormSpec.post enc Try.prog Try.f6 false true false false) := by
  refine returnsInHanded_of_change (C := Try.checked) own started (by kernel_rfl) Try.func6
    (ChangeSpec.witness6 (enc := enc) (C := Try.checked) false ⟨#[], #[.slice none 0 0, .slice none 0 0], []⟩ 8 (by kernel_rfl) (by kernel_rfl) (by kernel_rfl) (by kernel_rfl)) ?_
  intro W base args ds gs before hval0 hW hcnd _
  have hval : ∀ (j : Nat) t v, Try.f6.params[j]? = some t → args[j]? = some v → Value.okWide Try.prog W .any base t v := hval0
  have hW' := hW
  obtain ⟨p, q, hA0, hV, rfl, hfz, hnd⟩ := hW
  have hA : DataW.TrodAll enc Try.prog W 0 (fun _ => true) true Try.f6.params.toList args.toList ds p := hA0
  rw [Try.params6] at hA hval
  obtain ⟨v0, vs0, d0, ds0, p0, q0, hargs, rfl, rfl, h0, r0⟩ := trodAll_cons hA
  obtain ⟨v1, vs1, d1, ds1, p1, q1, rfl, rfl, rfl, h1, r1⟩ := trodAll_cons r0
  obtain ⟨rfl, rfl, rfl⟩ := trodAll_nil r1
  obtain rfl : args = #[v0, v1] := by cases args; simp_all
  obtain ⟨rfl, rfl⟩ := trodVars_none hV
  obtain ⟨a0, len0, cap0, rfl⟩ := okWide_slice Try.underlying22 (hval 0 22 v0 rfl rfl)
  have k0 := h0
  have lt0 : ∀ x ∈ p0, x.block < W.heap.size := by obtain ⟨m, hm⟩ := k0; exact DataW.trod_lt m _ _ _ hm
  obtain ⟨z0, w0⟩ : ∃ zs, IsRow .u8 W a0 len0 cap0 zs := by
    obtain ⟨fuel, hf⟩ := h0
    rcases open_ints Try.underlying22 Try.underlying5 (by kernel_rfl) hf with ⟨hcs, _⟩ | ⟨x, l, c, zs, hcs, _, hl, hm, hz, _, hcell, hwz⟩
    · simp [Value.cells] at hcs
      obtain ⟨rfl, rfl, rfl⟩ := hcs
      exact ⟨[], .inl ⟨rfl, rfl, rfl, rfl⟩⟩
    · simp [Value.cells] at hcs
      obtain ⟨rfl, rfl, rfl⟩ := hcs
      exact ⟨zs, .inr ⟨_, rfl, hl, hm, by simpa using hz, hcell, hwz⟩⟩
  obtain ⟨a1, len1, cap1, rfl⟩ := okWide_slice Try.underlying22 (hval 1 22 v1 rfl rfl)
  have k1 := h1
  have lt1 : ∀ x ∈ p1, x.block < W.heap.size := by obtain ⟨m, hm⟩ := k1; exact DataW.trod_lt m _ _ _ hm
  obtain ⟨z1, w1⟩ : ∃ zs, IsRow .u8 W a1 len1 cap1 zs := by
    obtain ⟨fuel, hf⟩ := h1
    rcases open_ints Try.underlying22 Try.underlying5 (by kernel_rfl) hf with ⟨hcs, _⟩ | ⟨x, l, c, zs, hcs, _, hl, hm, hz, _, hcell, hwz⟩
    · simp [Value.cells] at hcs
      obtain ⟨rfl, rfl, rfl⟩ := hcs
      exact ⟨[], .inl ⟨rfl, rfl, rfl, rfl⟩⟩
    · simp [Value.cells] at hcs
      obtain ⟨rfl, rfl, rfl⟩ := hcs
      exact ⟨zs, .inr ⟨_, rfl, hl, hm, by simpa using hz, hcell, hwz⟩⟩
  clear hA0 hval0
  refine (walk a0 len0 cap0 z0 a1 len1 cap1 z1 W w0 w1).mono fun e W' ⟨he, bel⟩ => ?_
  subst he
  exact ⟨_, rfl, _, _, _, [], _, [], hW', trodAll_mk1 (shut_bool Try.underlying4 _), (trodAll_cons_mk (Below.trod laidOut (by kernel_rfl) (of_decide_eq_true (by kernel_rfl)) k0 bel lt0) (trodAll_cons_mk (Below.trod laidOut (by kernel_rfl) (of_decide_eq_true (by kernel_rfl)) k1 bel lt1) trodAll_mk0)), rfl, bel.frame _, fun h => by cases h⟩

theorem over : Rows.fnStripeFormRow.holds Try.pinned (OpenSpec.ofChange Rows.fnStripeFormSpec) :=
  OpenClaim.holds_of_wide 6 Try.f6 rfl rfl rfl rfl rfl rfl rfl ⟨rfl, rfl, rfl, rfl, rfl⟩ rfl rfl rfl rfl rfl (by kernel_rfl) Try.func6 (by kernel_rfl)
    (of_decide_eq_true (by kernel_rfl)) (by unfold Func.isWrapper; first | (rw [if_pos (by decide +kernel)]; kernel_rfl) | (rw [if_neg (by decide +kernel)]; exact ⟨rfl, rfl⟩))
    (fun os started H enc _ => lifted os started H enc)

theorem proved : Rows.FnStripeFormSaid := over
#print axioms proved
end Go.Proofs.Ytoflijiinkmjoaa.fnStripeForm
