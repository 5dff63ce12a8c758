/-
  From whatever bytes a stripe and a shard are drawn, StripeLose takes away the shard and nothing else, twice is once, and the version of StripeRead does not rise: the law FnLose returns true.
  Conditions: none.
-/
import Derived.Test.YtoflijiinkmjoaaRows
import Derived.WalkKit
import Derived.ProofKit
import Derived.OpenShut
import Derived.ShutString
import Derived.ChangeOld
import Derived.Below
import Derived.Test.YtoflijiinkmjoaaG1
import Derived.Test.YtoflijiinkmjoaaAppendZeros
import Derived.Test.YtoflijiinkmjoaaG2
import Derived.Test.YtoflijiinkmjoaaG3
import Derived.Test.YtoflijiinkmjoaaG4
import Derived.Test.YtoflijiinkmjoaaReadMath
import Derived.Test.YtoflijiinkmjoaaReadSpec
import Derived.Test.YtoflijiinkmjoaaReadTake
import Derived.Test.YtoflijiinkmjoaaReadProg
import Derived.Test.YtoflijiinkmjoaaReadTop
import Derived.Test.YtoflijiinkmjoaaReadTop2
import Derived.Test.YtoflijiinkmjoaaReadTop3
import Derived.Test.YtoflijiinkmjoaaReadSpec2
import Derived.Test.YtoflijiinkmjoaaReadSpec3
import Derived.Test.YtoflijiinkmjoaaDrawRead
import Derived.Test.YtoflijiinkmjoaaStripeMath
import Derived.Test.YtoflijiinkmjoaaStripeBlk
import Derived.Test.YtoflijiinkmjoaaStripeClean
import Derived.Test.YtoflijiinkmjoaaStripeVers
import Derived.Test.YtoflijiinkmjoaaStripeFits
import Derived.Test.YtoflijiinkmjoaaStripeOf
import Derived.Test.YtoflijiinkmjoaaStripeOps
import Derived.Test.YtoflijiinkmjoaaStripeBest
import Derived.Test.YtoflijiinkmjoaaStripePub
import Derived.Test.YtoflijiinkmjoaaStripeTop
import Derived.Test.YtoflijiinkmjoaaStripeTop2
import Derived.Test.YtoflijiinkmjoaaStripeSpec
import Derived.Test.YtoflijiinkmjoaaStripeSpec2
import Derived.Test.YtoflijiinkmjoaaStripeSpec3
import Derived.Test.YtoflijiinkmjoaaStripeCopy
import Derived.Test.YtoflijiinkmjoaaStripeSpec4
import Derived.Test.YtoflijiinkmjoaaStripeNewS
import Derived.Test.YtoflijiinkmjoaaStripePutS
import Derived.Test.YtoflijiinkmjoaaStripeWriteS
import Derived.Test.YtoflijiinkmjoaaStripeHelp
import Derived.Test.YtoflijiinkmjoaaStripeDraw
import Derived.Test.YtoflijiinkmjoaaStripeDraw2
import Derived.Test.YtoflijiinkmjoaaStripeDraw3
namespace Go.Proofs.Ytoflijiinkmjoaa.fnLose
open Go.ChangeShapes Go.WideShapes Go.ChangeAt Go.RowKit
open Go.ChangeMaps (open_string shut_string)
set_option linter.unusedVariables false

theorem own : ownKnob Try.prog.godebug = none := by kernel_rfl
theorem laidOut : laidOutB Try.prog = true := by kernel_rfl

/-- WHAT THE WALK IS TOLD OF A SLICE OF INTEGERS THAT CAME IN: it is nil; or it leads to a row of 'cap' cells, the numbers 'zs' (the first 'len' are its elements, the rest its spare room), each fitting its kind. -/
def IsRow (k : IntKind) (w : World) (a : Option Addr) (len cap : Nat) (zs : List Int) : Prop :=
  (a = none ∧ len = 0 ∧ cap = 0 ∧ zs = []) ∨
  ∃ x, a = some x ∧ len ≤ cap ∧ cap ≤ maxLen ∧ zs.length = cap ∧ (∀ i, i < zs.length → w.cell? (x.add i) = some (.int k (zs.getD i 0))) ∧ ∀ n ∈ zs, (Lit.int k n).wf = true

set_option maxHeartbeats 16000000 in
set_option maxRecDepth 20000 in
theorem walk (a0 : Option Addr) (len0 cap0 : Nat) (z0 : List Int) (w : World) (w0 : IsRow .u8 w a0 len0 cap0 z0) :
    Calls Try.prog 5 #[.slice a0 len0 cap0] w fun e w' => e = .returned (.bool true) ∧ Below w.heap.size w w' := by
  have hc : Code w a0 len0 cap0 := code_of w0
  have hm : cap0 ≤ maxLen := hc.2.1
  have hl : len0 ≤ cap0 := hc.1
  unfold maxLen at hm
  have C := Lib.hid hc
  clear hc w0
  by_cases hbig0 : (len0 : Int) > 1048576
  · go_enter Try.func5, Try.ntmps5
    go_wp2_with fail
    go_ret
    exact ⟨rfl, Below.refl _ _⟩
  go_enter Try.func5, Try.ntmps5
  go_wp2_with fail
  refine (drawStripeLose a0 len0 cap0 _ C.out).mono ?_
  rintro e W1 ⟨k, u, x, y, a, v, f, n, hn, la, lv, lf, rfl, hb, ho⟩
  obtain ⟨g1, g2, g3, d1, d2, d3, e1, e2, e3, hS⟩ := StAt.new (w := W1) (w' := W1) (k := k) ho la lv lf
  subst e1 e2 e3
  have CP := hS.cap
  unfold maxLen at CP
  have LA := Lib.hid la
  have LV := Lib.hid lv
  have LF := Lib.hid lf
  have T := Lib.hid hS
  have B := Lib.hid (hb.trans ((below_grown (World.grownBy_alloc W1 (.cells #[.int .i64 k, .slice (some ⟨g1, 0, none⟩) 8 d1, .slice (some ⟨g2, 0, none⟩) 8 d2, .slice (some ⟨g3, 0, none⟩) 8 d3] 26) none)).mono hb.size))
  clear hb ho C la lv lf hS
  go_upto_region 4 with fail
  generalize W1.alloc (.cells #[.int .i64 k, .slice (some ⟨g1, 0, none⟩) 8 d1, .slice (some ⟨g2, 0, none⟩) 8 d2, .slice (some ⟨g3, 0, none⟩) 8 d3] 26) = wr at *
  generalize W1.heap.size = t at *
  have c0 := T.out.blk.cell (i := 0) rfl
  have c1 := T.out.blk.cell (i := 1) rfl
  have c2 := T.out.blk.cell (i := 2) rfl
  have c3 := T.out.blk.cell (i := 3) rfl
  go_wp2_with fail
  refine (implStripeLose k _ _ _ a v f n _ T.out.own.a T.out.own.v T.out.own.f).mono ?_
  rintro e wr ⟨k', a', v', f', hT, u', x', y', rfl, hg, ho⟩
  have HT := Lib.hid hT
  have HO := Lib.hid (ho.lower B.out.size)
  obtain ⟨b4, d4, e4, -, q4, -⟩ := ho.a
  obtain ⟨b5, d5, e5, -, q5, -⟩ := ho.v
  obtain ⟨b6, d6, e6, -, q6, -⟩ := ho.f
  unfold maxLen at q4 q5 q6
  obtain ⟨n4, hn4⟩ : ∃ n, n = a'.length := ⟨_, rfl⟩
  obtain ⟨n5, hn5⟩ : ∃ n, n = v'.length := ⟨_, rfl⟩
  obtain ⟨n6, hn6⟩ : ∃ n, n = f'.length := ⟨_, rfl⟩
  rw [← hn4] at e4
  rw [← hn5] at e5
  rw [← hn6] at e6
  subst e4 e5 e6
  clear hn4 hn5 hn6
  replace T := Lib.hid (T.out.still hg)
  replace B := Lib.hid (B.out.trans ((below_grown hg).mono B.out.size))
  have V := Lib.hid (LS.new (k := k') B.out HO.out)
  clear hg ho hT HO c0 c1 c2 c3
  have hg := World.grownBy_alloc wr (.cells #[.int .i64 k', .slice b4 n4 d4, .slice b5 n5 d5, .slice b6 n6 d6] 26) none
  replace T := Lib.hid (T.out.still hg)
  replace B := Lib.hid (B.out.trans ((below_grown hg).mono B.out.size))
  clear hg
  go_upto_region 5 with fail
  generalize hwx : wr.alloc (.cells #[.int .i64 k', .slice b4 n4 d4, .slice b5 n5 d5, .slice b6 n6 d6] 26) = wx at *
  generalize wr.heap.size = t2 at *
  clear hwx wr
  have EA := enters_of (P := Try.prog) Try.func24 (by kernel_rfl) rfl
  have EB := enters_of (P := Try.prog) Try.func23 (by kernel_rfl) rfl
  have EC := enters_of (P := Try.prog) Try.func16 (by kernel_rfl) rfl
  have ED := enters_of (P := Try.prog) Try.func22 (by kernel_rfl) rfl
  have EE := enters_of (P := Try.prog) Try.func25 (by kernel_rfl) rfl
  refine wp_region_held (S := fun W => Blk W t 26 [.int .i64 k, .slice (some ⟨g1, 0, none⟩) 8 d1, .slice (some ⟨g2, 0, none⟩) 8 d2, .slice (some ⟨g3, 0, none⟩) 8 d3] ∧ Blk W t2 26 [.int .i64 k', .slice b4 n4 d4, .slice b5 n5 d5, .slice b6 n6 d6]) (by kernel_rfl) ?_
  change wpAnyH _ _ _ _ _ _ _ _ wx.drew
  have hg := grown_drew (World.grownBy.refl wx none)
  replace T := Lib.hid (T.out.still hg)
  replace V := Lib.hid (V.out.still hg)
  replace B := Lib.hid (B.out.trans ((below_grown hg).mono B.out.size))
  clear hg
  generalize wx.drew = wr at *
  refine Rg.take_ 0 (some 24) (.agg #[.int .i64 k', .slice b4 n4 d4, .slice b5 n5 d5, .slice b6 n6 d6]) rfl rfl (by kernel_rfl) (by kernel_rfl) (by kernel_rfl) (fun _ _ _ h => h) (.inl ⟨by rfl, fun W' hS => (by have c0 := hS.2.cell (i := 0) rfl; have c1 := hS.2.cell (i := 1) rfl; have c2 := hS.2.cell (i := 2) rfl; have c3 := hS.2.cell (i := 3) rfl; go_simp)⟩) ⟨T.out.blk, V.out.blk⟩ ?_
  simp only [Act.put, List.setIfInBounds_toArray, List.set_cons_zero, List.set_cons_succ]
  refine Rg.take_ 1 (some 25) (.agg #[.int .i64 k, .slice (some ⟨g1, 0, none⟩) 8 d1, .slice (some ⟨g2, 0, none⟩) 8 d2, .slice (some ⟨g3, 0, none⟩) 8 d3]) rfl rfl (by kernel_rfl) (by kernel_rfl) (by kernel_rfl) (fun _ _ _ h => h) (.inl ⟨by rfl, fun W' hS => (by have c0 := hS.1.cell (i := 0) rfl; have c1 := hS.1.cell (i := 1) rfl; have c2 := hS.1.cell (i := 2) rfl; have c3 := hS.1.cell (i := 3) rfl; go_simp)⟩) ⟨T.out.blk, V.out.blk⟩ ?_
  simp only [Act.put, List.setIfInBounds_toArray, List.set_cons_zero, List.set_cons_succ]
  refine Rg.take_ 2 (some 26) (.int .i64 n) rfl rfl (by kernel_rfl) (by kernel_rfl) (by kernel_rfl) (fun _ _ _ h => h) (.inl ⟨by rfl, fun W' hS => (by go_simp)⟩) ⟨T.out.blk, V.out.blk⟩ ?_
  simp only [Act.put, List.setIfInBounds_toArray, List.set_cons_zero, List.set_cons_succ]
  refine Rg.ready_one (i := 3) (by kernel_rfl) rfl rfl ?_
  refine Rg.call_at (some 27) (f := 24) (args := #[.agg #[.int .i64 k, .slice (some ⟨g1, 0, none⟩) 8 d1, .slice (some ⟨g2, 0, none⟩) 8 d2, .slice (some ⟨g3, 0, none⟩) 8 d3], .int .i64 n]) rfl (by go_simp) ((specStripeLose k _ _ _ a v f n _ T.out.own.a T.out.own.v T.out.own.f (by rw [LA.out]; omega)).mono ?_)
  rintro e wr ⟨k2, a2, v2, f2, hT2, u2, x2, y2, rfl, hg, ho⟩
  obtain ⟨e1, e2, e3, e4⟩ := HT.out.one hT2
  subst e1 e2 e3 e4
  replace T := Lib.hid (T.out.still hg)
  replace V := Lib.hid (V.out.still hg)
  replace B := Lib.hid (B.out.trans ((below_grown hg).mono B.out.size))
  have PA := Lib.hid ho.a
  have PV := Lib.hid ho.v
  have PF := Lib.hid ho.f
  clear hg ho hT2
  refine ⟨_, rfl, ⟨T.out.blk, V.out.blk⟩, ?_⟩
  simp only [Act.put, List.setIfInBounds_toArray, List.set_cons_zero, List.set_cons_succ]
  refine Rg.ready_one (i := 4) (by kernel_rfl) rfl rfl ?_
  refine Rg.call_at (some 28) (f := 23) (args := #[.agg #[.int .i64 k', .slice b4 n4 d4, .slice b5 n5 d5, .slice b6 n6 d6], .agg #[.int .i64 k', u2, x2, y2]]) rfl (by go_simp) ((lkStripeSame k' _ _ _ _ _ _ a' v' f' _ V.out.own.a V.out.own.v V.out.own.f PA.out PV.out PF.out).mono ?_)
  rintro e wr ⟨rfl, hg⟩
  replace T := Lib.hid (T.out.still hg)
  replace V := Lib.hid (V.out.still hg)
  replace B := Lib.hid (B.out.trans ((below_grown hg).mono B.out.size))
  clear hg PA PV PF
  refine ⟨_, rfl, ⟨T.out.blk, V.out.blk⟩, ?_⟩
  simp only [Act.put, List.setIfInBounds_toArray, List.set_cons_zero, List.set_cons_succ]
  refine Rg.take_ 5 (some 29) (.bool false) rfl rfl (by kernel_rfl) (by kernel_rfl) (by kernel_rfl) (fun _ _ _ h => h) (.inl ⟨by rfl, fun W' hS => (by go_simp)⟩) ⟨T.out.blk, V.out.blk⟩ ?_
  simp only [Act.put, List.setIfInBounds_toArray, List.set_cons_zero, List.set_cons_succ]
  refine Rg.take_ 6 (some 30) (.bool false) rfl rfl (by kernel_rfl) (by kernel_rfl) (by kernel_rfl) (fun _ _ _ h => h) (.inl ⟨by rfl, fun W' hS => (by go_simp)⟩) ⟨T.out.blk, V.out.blk⟩ ?_
  simp only [Act.put, List.setIfInBounds_toArray, List.set_cons_zero, List.set_cons_succ]
  refine Rg.take_ 7 (some 31) (.agg #[.int .i64 k, .slice (some ⟨g1, 0, none⟩) 8 d1, .slice (some ⟨g2, 0, none⟩) 8 d2, .slice (some ⟨g3, 0, none⟩) 8 d3]) rfl rfl (by kernel_rfl) (by kernel_rfl) (by kernel_rfl) (fun _ _ _ h => h) (.inl ⟨by rfl, fun W' hS => (by have c0 := hS.1.cell (i := 0) rfl; have c1 := hS.1.cell (i := 1) rfl; have c2 := hS.1.cell (i := 2) rfl; have c3 := hS.1.cell (i := 3) rfl; go_simp)⟩) ⟨T.out.blk, V.out.blk⟩ ?_
  simp only [Act.put, List.setIfInBounds_toArray, List.set_cons_zero, List.set_cons_succ]
  refine Rg.ready_one (i := 8) (by kernel_rfl) rfl rfl ?_
  refine Rg.call_at (some 32) (f := 16) (args := #[.agg #[.int .i64 k, .slice (some ⟨g1, 0, none⟩) 8 d1, .slice (some ⟨g2, 0, none⟩) 8 d2, .slice (some ⟨g3, 0, none⟩) 8 d3]]) rfl (by go_simp) ((specStripeOk k _ _ _ a v f _ T.out.own.a T.out.own.v T.out.own.f (by rw [LA.out]; omega)).mono ?_)
  rintro e wr ⟨q, rfl, hq, hg⟩
  replace T := Lib.hid (T.out.still hg)
  replace V := Lib.hid (V.out.still hg)
  replace B := Lib.hid (B.out.trans ((below_grown hg).mono B.out.size))
  have HQ := Lib.hid hq
  clear hg hq
  refine ⟨_, rfl, ⟨T.out.blk, V.out.blk⟩, ?_⟩
  simp only [Act.put, List.setIfInBounds_toArray, List.set_cons_zero, List.set_cons_succ]
  cases q with
  | false =>
    refine Rg.take_ 9 (some 33) (.bool true) rfl rfl (by kernel_rfl) (by kernel_rfl) (by kernel_rfl) (fun _ _ _ h => h) (.inl ⟨by rfl, fun W' hS => (by go_simp)⟩) ⟨T.out.blk, V.out.blk⟩ ?_
    simp only [Act.put, List.setIfInBounds_toArray, List.set_cons_zero, List.set_cons_succ]
    refine Rg.take_ 10 (some 34) (.bool true) rfl rfl (by kernel_rfl) (by kernel_rfl) (by kernel_rfl) (fun _ _ _ h => h) (.inl ⟨by rfl, fun W' hS => (by go_simp)⟩) ⟨T.out.blk, V.out.blk⟩ ?_
    simp only [Act.put, List.setIfInBounds_toArray, List.set_cons_zero, List.set_cons_succ]
    refine Rg.take_ 11 (some 35) (.bool true) rfl rfl (by kernel_rfl) (by kernel_rfl) (by kernel_rfl) (fun _ _ _ h => h) (.inl ⟨by rfl, fun W' hS => (by go_simp)⟩) ⟨T.out.blk, V.out.blk⟩ ?_
    simp only [Act.put, List.setIfInBounds_toArray, List.set_cons_zero, List.set_cons_succ]
    refine Rg.take_ 12 (some 36) undef rfl rfl (by kernel_rfl) (by kernel_rfl) (by kernel_rfl) (fun _ _ _ h => h) (.inr ⟨by rfl, rfl⟩) ⟨T.out.blk, V.out.blk⟩ ?_
    simp only [Act.put, List.setIfInBounds_toArray, List.set_cons_zero, List.set_cons_succ]
    refine Rg.take_ 13 (some 37) undef rfl rfl (by kernel_rfl) (by kernel_rfl) (by kernel_rfl) (fun _ _ _ h => h) (.inr ⟨by rfl, rfl⟩) ⟨T.out.blk, V.out.blk⟩ ?_
    simp only [Act.put, List.setIfInBounds_toArray, List.set_cons_zero, List.set_cons_succ]
    refine Rg.take_ 14 (some 38) (.bool true) rfl rfl (by kernel_rfl) (by kernel_rfl) (by kernel_rfl) (fun _ _ _ h => h) (.inl ⟨by rfl, fun W' hS => (by go_simp)⟩) ⟨T.out.blk, V.out.blk⟩ ?_
    simp only [Act.put, List.setIfInBounds_toArray, List.set_cons_zero, List.set_cons_succ]
    refine wpAnyH_done (by kernel_rfl) ?_ _
    go_upto_region 6 with fail
    refine wp_region_held (S := fun W => Blk W t 26 [.int .i64 k, .slice (some ⟨g1, 0, none⟩) 8 d1, .slice (some ⟨g2, 0, none⟩) 8 d2, .slice (some ⟨g3, 0, none⟩) 8 d3] ∧ Blk W t2 26 [.int .i64 k', .slice b4 n4 d4, .slice b5 n5 d5, .slice b6 n6 d6]) (by kernel_rfl) ?_
    change wpAnyH _ _ _ _ _ _ _ _ wr.drew
    have hg := grown_drew (World.grownBy.refl wr none)
    replace T := Lib.hid (T.out.still hg)
    replace V := Lib.hid (V.out.still hg)
    replace B := Lib.hid (B.out.trans ((below_grown hg).mono B.out.size))
    clear hg
    generalize wr.drew = wr at *
    refine Rg.take_ 0 (some 39) (.agg #[.int .i64 k', .slice b4 n4 d4, .slice b5 n5 d5, .slice b6 n6 d6]) rfl rfl (by kernel_rfl) (by kernel_rfl) (by kernel_rfl) (fun _ _ _ h => h) (.inl ⟨by rfl, fun W' hS => (by have c0 := hS.2.cell (i := 0) rfl; have c1 := hS.2.cell (i := 1) rfl; have c2 := hS.2.cell (i := 2) rfl; have c3 := hS.2.cell (i := 3) rfl; go_simp)⟩) ⟨T.out.blk, V.out.blk⟩ ?_
    simp only [Act.put, List.setIfInBounds_toArray, List.set_cons_zero, List.set_cons_succ]
    refine Rg.take_ 1 (some 40) (.agg #[.int .i64 k, .slice (some ⟨g1, 0, none⟩) 8 d1, .slice (some ⟨g2, 0, none⟩) 8 d2, .slice (some ⟨g3, 0, none⟩) 8 d3]) rfl rfl (by kernel_rfl) (by kernel_rfl) (by kernel_rfl) (fun _ _ _ h => h) (.inl ⟨by rfl, fun W' hS => (by have c0 := hS.1.cell (i := 0) rfl; have c1 := hS.1.cell (i := 1) rfl; have c2 := hS.1.cell (i := 2) rfl; have c3 := hS.1.cell (i := 3) rfl; go_simp)⟩) ⟨T.out.blk, V.out.blk⟩ ?_
    simp only [Act.put, List.setIfInBounds_toArray, List.set_cons_zero, List.set_cons_succ]
    refine Rg.take_ 2 (some 41) (.int .i64 n) rfl rfl (by kernel_rfl) (by kernel_rfl) (by kernel_rfl) (fun _ _ _ h => h) (.inl ⟨by rfl, fun W' hS => (by go_simp)⟩) ⟨T.out.blk, V.out.blk⟩ ?_
    simp only [Act.put, List.setIfInBounds_toArray, List.set_cons_zero, List.set_cons_succ]
    refine Rg.ready_one (i := 3) (by kernel_rfl) rfl rfl ?_
    refine Rg.call_at (some 42) (f := 24) (args := #[.agg #[.int .i64 k, .slice (some ⟨g1, 0, none⟩) 8 d1, .slice (some ⟨g2, 0, none⟩) 8 d2, .slice (some ⟨g3, 0, none⟩) 8 d3], .int .i64 n]) rfl (by go_simp) ((specStripeLose k _ _ _ a v f n _ T.out.own.a T.out.own.v T.out.own.f (by rw [LA.out]; omega)).mono ?_)
    rintro e wr ⟨k2, a2, v2, f2, hT2, u2, x2, y2, rfl, hg, ho⟩
    obtain ⟨e1, e2, e3, e4⟩ := HT.out.one hT2
    subst e1 e2 e3 e4
    replace T := Lib.hid (T.out.still hg)
    replace V := Lib.hid (V.out.still hg)
    replace B := Lib.hid (B.out.trans ((below_grown hg).mono B.out.size))
    have PA := Lib.hid ho.a
    have PV := Lib.hid ho.v
    have PF := Lib.hid ho.f
    clear hg ho hT2
    refine ⟨_, rfl, ⟨T.out.blk, V.out.blk⟩, ?_⟩
    simp only [Act.put, List.setIfInBounds_toArray, List.set_cons_zero, List.set_cons_succ]
    refine Rg.ready_one (i := 4) (by kernel_rfl) rfl rfl ?_
    refine Rg.call_at (some 43) (f := 23) (args := #[.agg #[.int .i64 k', .slice b4 n4 d4, .slice b5 n5 d5, .slice b6 n6 d6], .agg #[.int .i64 k', u2, x2, y2]]) rfl (by go_simp) ((lkStripeSame k' _ _ _ _ _ _ a' v' f' _ V.out.own.a V.out.own.v V.out.own.f PA.out PV.out PF.out).mono ?_)
    rintro e wr ⟨rfl, hg⟩
    replace T := Lib.hid (T.out.still hg)
    replace V := Lib.hid (V.out.still hg)
    replace B := Lib.hid (B.out.trans ((below_grown hg).mono B.out.size))
    clear hg PA PV PF
    refine ⟨_, rfl, ⟨T.out.blk, V.out.blk⟩, ?_⟩
    simp only [Act.put, List.setIfInBounds_toArray, List.set_cons_zero, List.set_cons_succ]
    refine Rg.take_ 5 (some 2) (.bool true) rfl rfl (by kernel_rfl) (by kernel_rfl) (by kernel_rfl) (fun _ _ _ h => h) (.inl ⟨by rfl, fun W' hS => (by go_simp)⟩) ⟨T.out.blk, V.out.blk⟩ ?_
    simp only [Act.put, List.setIfInBounds_toArray, List.set_cons_zero, List.set_cons_succ]
    refine wpAnyH_done (by kernel_rfl) ?_ _
    go_wp2_with fail
    go_ret
    exact ⟨rfl, B.out⟩
  | true =>
    refine Rg.take_ 9 (some 33) (.bool false) rfl rfl (by kernel_rfl) (by kernel_rfl) (by kernel_rfl) (fun _ _ _ h => h) (.inl ⟨by rfl, fun W' hS => (by go_simp)⟩) ⟨T.out.blk, V.out.blk⟩ ?_
    simp only [Act.put, List.setIfInBounds_toArray, List.set_cons_zero, List.set_cons_succ]
    refine Rg.take_ 10 (some 34) (.bool false) rfl rfl (by kernel_rfl) (by kernel_rfl) (by kernel_rfl) (fun _ _ _ h => h) (.inl ⟨by rfl, fun W' hS => (by go_simp)⟩) ⟨T.out.blk, V.out.blk⟩ ?_
    simp only [Act.put, List.setIfInBounds_toArray, List.set_cons_zero, List.set_cons_succ]
    refine Rg.take_ 11 (some 35) (.bool false) rfl rfl (by kernel_rfl) (by kernel_rfl) (by kernel_rfl) (fun _ _ _ h => h) (.inl ⟨by rfl, fun W' hS => (by go_simp)⟩) ⟨T.out.blk, V.out.blk⟩ ?_
    simp only [Act.put, List.setIfInBounds_toArray, List.set_cons_zero, List.set_cons_succ]
    refine Rg.take_ 12 (some 36) (.int .i64 n) rfl rfl (by kernel_rfl) (by kernel_rfl) (by kernel_rfl) (fun _ _ _ h => h) (.inl ⟨by rfl, fun W' hS => (by go_simp)⟩) ⟨T.out.blk, V.out.blk⟩ ?_
    simp only [Act.put, List.setIfInBounds_toArray, List.set_cons_zero, List.set_cons_succ]
    have OK := Lib.hid (HQ.out.1 rfl)
    clear HQ
    by_cases h8 : 8 ≤ n
    · have h8' : (8 : Int) ≤ (n : Int) := by omega
      refine Rg.take_ 13 (some 37) (.bool true) rfl rfl (by kernel_rfl) (by kernel_rfl) (by kernel_rfl) (fun _ _ _ h => h) (.inl ⟨by rfl, fun W' hS => (by go_simp)⟩) ⟨T.out.blk, V.out.blk⟩ ?_
      simp only [Act.put, List.setIfInBounds_toArray, List.set_cons_zero, List.set_cons_succ]
      refine Rg.take_ 14 (some 38) (.bool true) rfl rfl (by kernel_rfl) (by kernel_rfl) (by kernel_rfl) (fun _ _ _ h => h) (.inl ⟨by rfl, fun W' hS => (by go_simp)⟩) ⟨T.out.blk, V.out.blk⟩ ?_
      simp only [Act.put, List.setIfInBounds_toArray, List.set_cons_zero, List.set_cons_succ]
      refine wpAnyH_done (by kernel_rfl) ?_ _
      go_upto_region 6 with fail
      refine wp_region_held (S := fun W => Blk W t 26 [.int .i64 k, .slice (some ⟨g1, 0, none⟩) 8 d1, .slice (some ⟨g2, 0, none⟩) 8 d2, .slice (some ⟨g3, 0, none⟩) 8 d3] ∧ Blk W t2 26 [.int .i64 k', .slice b4 n4 d4, .slice b5 n5 d5, .slice b6 n6 d6]) (by kernel_rfl) ?_
      change wpAnyH _ _ _ _ _ _ _ _ wr.drew
      have hg := grown_drew (World.grownBy.refl wr none)
      replace T := Lib.hid (T.out.still hg)
      replace V := Lib.hid (V.out.still hg)
      replace B := Lib.hid (B.out.trans ((below_grown hg).mono B.out.size))
      clear hg
      generalize wr.drew = wr at *
      refine Rg.take_ 0 (some 39) (.agg #[.int .i64 k', .slice b4 n4 d4, .slice b5 n5 d5, .slice b6 n6 d6]) rfl rfl (by kernel_rfl) (by kernel_rfl) (by kernel_rfl) (fun _ _ _ h => h) (.inl ⟨by rfl, fun W' hS => (by have c0 := hS.2.cell (i := 0) rfl; have c1 := hS.2.cell (i := 1) rfl; have c2 := hS.2.cell (i := 2) rfl; have c3 := hS.2.cell (i := 3) rfl; go_simp)⟩) ⟨T.out.blk, V.out.blk⟩ ?_
      simp only [Act.put, List.setIfInBounds_toArray, List.set_cons_zero, List.set_cons_succ]
      refine Rg.take_ 1 (some 40) (.agg #[.int .i64 k, .slice (some ⟨g1, 0, none⟩) 8 d1, .slice (some ⟨g2, 0, none⟩) 8 d2, .slice (some ⟨g3, 0, none⟩) 8 d3]) rfl rfl (by kernel_rfl) (by kernel_rfl) (by kernel_rfl) (fun _ _ _ h => h) (.inl ⟨by rfl, fun W' hS => (by have c0 := hS.1.cell (i := 0) rfl; have c1 := hS.1.cell (i := 1) rfl; have c2 := hS.1.cell (i := 2) rfl; have c3 := hS.1.cell (i := 3) rfl; go_simp)⟩) ⟨T.out.blk, V.out.blk⟩ ?_
      simp only [Act.put, List.setIfInBounds_toArray, List.set_cons_zero, List.set_cons_succ]
      refine Rg.take_ 2 (some 41) (.int .i64 n) rfl rfl (by kernel_rfl) (by kernel_rfl) (by kernel_rfl) (fun _ _ _ h => h) (.inl ⟨by rfl, fun W' hS => (by go_simp)⟩) ⟨T.out.blk, V.out.blk⟩ ?_
      simp only [Act.put, List.setIfInBounds_toArray, List.set_cons_zero, List.set_cons_succ]
      refine Rg.ready_one (i := 3) (by kernel_rfl) rfl rfl ?_
      refine Rg.call_at (some 42) (f := 24) (args := #[.agg #[.int .i64 k, .slice (some ⟨g1, 0, none⟩) 8 d1, .slice (some ⟨g2, 0, none⟩) 8 d2, .slice (some ⟨g3, 0, none⟩) 8 d3], .int .i64 n]) rfl (by go_simp) ((specStripeLose k _ _ _ a v f n _ T.out.own.a T.out.own.v T.out.own.f (by rw [LA.out]; omega)).mono ?_)
      rintro e wr ⟨k2, a2, v2, f2, hT2, u2, x2, y2, rfl, hg, ho⟩
      obtain ⟨e1, e2, e3, e4⟩ := HT.out.one hT2
      subst e1 e2 e3 e4
      replace T := Lib.hid (T.out.still hg)
      replace V := Lib.hid (V.out.still hg)
      replace B := Lib.hid (B.out.trans ((below_grown hg).mono B.out.size))
      have PA := Lib.hid ho.a
      have PV := Lib.hid ho.v
      have PF := Lib.hid ho.f
      clear hg ho hT2
      refine ⟨_, rfl, ⟨T.out.blk, V.out.blk⟩, ?_⟩
      simp only [Act.put, List.setIfInBounds_toArray, List.set_cons_zero, List.set_cons_succ]
      refine Rg.ready_one (i := 4) (by kernel_rfl) rfl rfl ?_
      refine Rg.call_at (some 43) (f := 23) (args := #[.agg #[.int .i64 k', .slice b4 n4 d4, .slice b5 n5 d5, .slice b6 n6 d6], .agg #[.int .i64 k', u2, x2, y2]]) rfl (by go_simp) ((lkStripeSame k' _ _ _ _ _ _ a' v' f' _ V.out.own.a V.out.own.v V.out.own.f PA.out PV.out PF.out).mono ?_)
      rintro e wr ⟨rfl, hg⟩
      replace T := Lib.hid (T.out.still hg)
      replace V := Lib.hid (V.out.still hg)
      replace B := Lib.hid (B.out.trans ((below_grown hg).mono B.out.size))
      clear hg PA PV PF
      refine ⟨_, rfl, ⟨T.out.blk, V.out.blk⟩, ?_⟩
      simp only [Act.put, List.setIfInBounds_toArray, List.set_cons_zero, List.set_cons_succ]
      refine Rg.take_ 5 (some 2) (.bool true) rfl rfl (by kernel_rfl) (by kernel_rfl) (by kernel_rfl) (fun _ _ _ h => h) (.inl ⟨by rfl, fun W' hS => (by go_simp)⟩) ⟨T.out.blk, V.out.blk⟩ ?_
      simp only [Act.put, List.setIfInBounds_toArray, List.set_cons_zero, List.set_cons_succ]
      refine wpAnyH_done (by kernel_rfl) ?_ _
      go_wp2_with fail
      go_ret
      exact ⟨rfl, B.out⟩
    · have h8' : ¬ (8 : Int) ≤ (n : Int) := by omega
      have hn8 : n < 8 := by omega
      have hn8i : (n : Int) < 8 := by omega
      refine Rg.take_ 13 (some 37) (.bool false) rfl rfl (by kernel_rfl) (by kernel_rfl) (by kernel_rfl) (fun _ _ _ h => h) (.inl ⟨by rfl, fun W' hS => (by go_simp)⟩) ⟨T.out.blk, V.out.blk⟩ ?_
      simp only [Act.put, List.setIfInBounds_toArray, List.set_cons_zero, List.set_cons_succ]
      refine Rg.take_ 14 (some 38) (.bool false) rfl rfl (by kernel_rfl) (by kernel_rfl) (by kernel_rfl) (fun _ _ _ h => h) (.inl ⟨by rfl, fun W' hS => (by go_simp)⟩) ⟨T.out.blk, V.out.blk⟩ ?_
      simp only [Act.put, List.setIfInBounds_toArray, List.set_cons_zero, List.set_cons_succ]
      refine wpAnyH_done (by kernel_rfl) ?_ _
      obtain ⟨e1, e2, e3, e4⟩ : k' = k ∧ a' = a.set n 0 ∧ v' = v.set n 0 ∧ f' = f.set n false := by
        rcases HT.out with ⟨_, m, hm, _, e1, e2, e3, e4⟩ | ⟨h, _⟩
        · obtain rfl : n = m := by omega
          exact ⟨e1, e2, e3, e4⟩
        · exact absurd ⟨OK.out, by omega, by omega⟩ h
      replace e1 := e1.symm
      subst e1 e2 e3 e4
      obtain ⟨h1, h2, h3, m1, m2, m3, e1, e2, e3, hS⟩ := StAt.of V.out.blk V.out.own (by rw [List.length_set]; exact LA.out) (by rw [List.length_set]; exact LV.out) (by rw [List.length_set]; exact LF.out)
      injection e1 with e1 e1' e1''
      injection e2 with e2 e2' e2''
      injection e3 with e3 e3' e3''
      subst e1 e1' e1'' e2 e2' e2'' e3 e3' e3''
      clear V
      have V := Lib.hid hS
      clear hS h8' HT
      go_wp2_with fail
      go_loopw [6] (fun i wr => ∃ j : Nat, j ≤ 8 ∧ i = .int .i64 j ∧ Below w.heap.size w wr ∧ StAt wr w.heap.size t g1 g2 g3 d1 d2 d3 k a v f ∧ StAt wr w.heap.size t2 h1 h2 h3 d4 d5 d6 k (a.set n 0) (v.set n 0) (f.set n false)) (fun i _ => 8 - (intOf i).toNat)
      case atStart => exact ⟨0, by omega, rfl, B.out, T.out, V.out⟩
      case round =>
        clear B T V
        obtain ⟨j, hj, rfl, hB, hT, hV⟩ := hrel
        have B := Lib.hid hB
        have T := Lib.hid hT
        have V := Lib.hid hV
        clear hB hT hV
        have CQ := V.out.cap
        unfold maxLen at CQ
        by_cases hlt : j < 8
        · have hlt' : (j : Int) < 8 := by omega
          by_cases hjn : j = n
          · have nn : ((j : Int) != (n : Int)) = false := by rw [bne_eq_false_iff_eq]; omega
            go_upto_region 10 with fail
            refine wp_region_held (S := fun _ => True) (by kernel_rfl) ?_
            change wpAnyH _ _ _ _ _ _ _ _ wr.drew
            have hg := grown_drew (World.grownBy.refl wr none)
            replace T := Lib.hid (T.out.still hg)
            replace V := Lib.hid (V.out.still hg)
            replace B := Lib.hid (B.out.trans ((below_grown hg).mono B.out.size))
            clear hg
            generalize wr.drew = wr at *
            refine Rg.take_ 0 (some 48) (.int .i64 j) rfl rfl (by kernel_rfl) (by kernel_rfl) (by kernel_rfl) (fun _ _ _ h => h) (.inl ⟨by rfl, fun W' hS => (by go_simp)⟩) trivial ?_
            simp only [Act.put, List.setIfInBounds_toArray, List.set_cons_zero, List.set_cons_succ]
            refine Rg.take_ 1 (some 49) (.int .i64 n) rfl rfl (by kernel_rfl) (by kernel_rfl) (by kernel_rfl) (fun _ _ _ h => h) (.inl ⟨by rfl, fun W' hS => (by go_simp)⟩) trivial ?_
            simp only [Act.put, List.setIfInBounds_toArray, List.set_cons_zero, List.set_cons_succ]
            refine Rg.take_ 2 (some 50) (.bool false) rfl rfl (by kernel_rfl) (by kernel_rfl) (by kernel_rfl) (fun _ _ _ h => h) (.inl ⟨by rfl, fun W' hS => (by go_simp)⟩) trivial ?_
            simp only [Act.put, List.setIfInBounds_toArray, List.set_cons_zero, List.set_cons_succ]
            refine Rg.take_ 3 (some 51) (.bool false) rfl rfl (by kernel_rfl) (by kernel_rfl) (by kernel_rfl) (fun _ _ _ h => h) (.inl ⟨by rfl, fun W' hS => (by go_simp)⟩) trivial ?_
            simp only [Act.put, List.setIfInBounds_toArray, List.set_cons_zero, List.set_cons_succ]
            refine Rg.take_ 4 (some 52) undef rfl rfl (by kernel_rfl) (by kernel_rfl) (by kernel_rfl) (fun _ _ _ h => h) (.inr ⟨by rfl, rfl⟩) trivial ?_
            simp only [Act.put, List.setIfInBounds_toArray, List.set_cons_zero, List.set_cons_succ]
            refine Rg.take_ 5 (some 53) undef rfl rfl (by kernel_rfl) (by kernel_rfl) (by kernel_rfl) (fun _ _ _ h => h) (.inr ⟨by rfl, rfl⟩) trivial ?_
            simp only [Act.put, List.setIfInBounds_toArray, List.set_cons_zero, List.set_cons_succ]
            refine Rg.take_ 6 (some 54) undef rfl rfl (by kernel_rfl) (by kernel_rfl) (by kernel_rfl) (fun _ _ _ h => h) (.inr ⟨by rfl, rfl⟩) trivial ?_
            simp only [Act.put, List.setIfInBounds_toArray, List.set_cons_zero, List.set_cons_succ]
            refine Rg.take_ 7 (some 55) undef rfl rfl (by kernel_rfl) (by kernel_rfl) (by kernel_rfl) (fun _ _ _ h => h) (.inr ⟨by rfl, rfl⟩) trivial ?_
            simp only [Act.put, List.setIfInBounds_toArray, List.set_cons_zero, List.set_cons_succ]
            refine Rg.take_ 8 (some 56) undef rfl rfl (by kernel_rfl) (by kernel_rfl) (by kernel_rfl) (fun _ _ _ h => h) (.inr ⟨by rfl, rfl⟩) trivial ?_
            simp only [Act.put, List.setIfInBounds_toArray, List.set_cons_zero, List.set_cons_succ]
            refine Rg.take_ 9 (some 57) undef rfl rfl (by kernel_rfl) (by kernel_rfl) (by kernel_rfl) (fun _ _ _ h => h) (.inr ⟨by rfl, rfl⟩) trivial ?_
            simp only [Act.put, List.setIfInBounds_toArray, List.set_cons_zero, List.set_cons_succ]
            refine Rg.take_ 10 (some 58) undef rfl rfl (by kernel_rfl) (by kernel_rfl) (by kernel_rfl) (fun _ _ _ h => h) (.inr ⟨by rfl, rfl⟩) trivial ?_
            simp only [Act.put, List.setIfInBounds_toArray, List.set_cons_zero, List.set_cons_succ]
            refine Rg.take_ 11 (some 59) undef rfl rfl (by kernel_rfl) (by kernel_rfl) (by kernel_rfl) (fun _ _ _ h => h) (.inr ⟨by rfl, rfl⟩) trivial ?_
            simp only [Act.put, List.setIfInBounds_toArray, List.set_cons_zero, List.set_cons_succ]
            refine Rg.take_ 12 (some 60) undef rfl rfl (by kernel_rfl) (by kernel_rfl) (by kernel_rfl) (fun _ _ _ h => h) (.inr ⟨by rfl, rfl⟩) trivial ?_
            simp only [Act.put, List.setIfInBounds_toArray, List.set_cons_zero, List.set_cons_succ]
            refine Rg.take_ 13 (some 61) undef rfl rfl (by kernel_rfl) (by kernel_rfl) (by kernel_rfl) (fun _ _ _ h => h) (.inr ⟨by rfl, rfl⟩) trivial ?_
            simp only [Act.put, List.setIfInBounds_toArray, List.set_cons_zero, List.set_cons_succ]
            refine Rg.take_ 14 (some 62) undef rfl rfl (by kernel_rfl) (by kernel_rfl) (by kernel_rfl) (fun _ _ _ h => h) (.inr ⟨by rfl, rfl⟩) trivial ?_
            simp only [Act.put, List.setIfInBounds_toArray, List.set_cons_zero, List.set_cons_succ]
            refine Rg.take_ 15 (some 63) undef rfl rfl (by kernel_rfl) (by kernel_rfl) (by kernel_rfl) (fun _ _ _ h => h) (.inr ⟨by rfl, rfl⟩) trivial ?_
            simp only [Act.put, List.setIfInBounds_toArray, List.set_cons_zero, List.set_cons_succ]
            refine Rg.take_ 16 (some 64) undef rfl rfl (by kernel_rfl) (by kernel_rfl) (by kernel_rfl) (fun _ _ _ h => h) (.inr ⟨by rfl, rfl⟩) trivial ?_
            simp only [Act.put, List.setIfInBounds_toArray, List.set_cons_zero, List.set_cons_succ]
            refine Rg.take_ 17 (some 65) undef rfl rfl (by kernel_rfl) (by kernel_rfl) (by kernel_rfl) (fun _ _ _ h => h) (.inr ⟨by rfl, rfl⟩) trivial ?_
            simp only [Act.put, List.setIfInBounds_toArray, List.set_cons_zero, List.set_cons_succ]
            refine Rg.take_ 18 (some 66) undef rfl rfl (by kernel_rfl) (by kernel_rfl) (by kernel_rfl) (fun _ _ _ h => h) (.inr ⟨by rfl, rfl⟩) trivial ?_
            simp only [Act.put, List.setIfInBounds_toArray, List.set_cons_zero, List.set_cons_succ]
            refine Rg.take_ 19 (some 67) undef rfl rfl (by kernel_rfl) (by kernel_rfl) (by kernel_rfl) (fun _ _ _ h => h) (.inr ⟨by rfl, rfl⟩) trivial ?_
            simp only [Act.put, List.setIfInBounds_toArray, List.set_cons_zero, List.set_cons_succ]
            refine Rg.take_ 20 (some 68) undef rfl rfl (by kernel_rfl) (by kernel_rfl) (by kernel_rfl) (fun _ _ _ h => h) (.inr ⟨by rfl, rfl⟩) trivial ?_
            simp only [Act.put, List.setIfInBounds_toArray, List.set_cons_zero, List.set_cons_succ]
            refine Rg.take_ 21 (some 69) undef rfl rfl (by kernel_rfl) (by kernel_rfl) (by kernel_rfl) (fun _ _ _ h => h) (.inr ⟨by rfl, rfl⟩) trivial ?_
            simp only [Act.put, List.setIfInBounds_toArray, List.set_cons_zero, List.set_cons_succ]
            refine Rg.take_ 22 (some 70) undef rfl rfl (by kernel_rfl) (by kernel_rfl) (by kernel_rfl) (fun _ _ _ h => h) (.inr ⟨by rfl, rfl⟩) trivial ?_
            simp only [Act.put, List.setIfInBounds_toArray, List.set_cons_zero, List.set_cons_succ]
            refine Rg.take_ 23 (some 71) undef rfl rfl (by kernel_rfl) (by kernel_rfl) (by kernel_rfl) (fun _ _ _ h => h) (.inr ⟨by rfl, rfl⟩) trivial ?_
            simp only [Act.put, List.setIfInBounds_toArray, List.set_cons_zero, List.set_cons_succ]
            refine Rg.take_ 24 (some 72) undef rfl rfl (by kernel_rfl) (by kernel_rfl) (by kernel_rfl) (fun _ _ _ h => h) (.inr ⟨by rfl, rfl⟩) trivial ?_
            simp only [Act.put, List.setIfInBounds_toArray, List.set_cons_zero, List.set_cons_succ]
            refine Rg.take_ 25 (some 73) undef rfl rfl (by kernel_rfl) (by kernel_rfl) (by kernel_rfl) (fun _ _ _ h => h) (.inr ⟨by rfl, rfl⟩) trivial ?_
            simp only [Act.put, List.setIfInBounds_toArray, List.set_cons_zero, List.set_cons_succ]
            refine Rg.take_ 26 (some 74) undef rfl rfl (by kernel_rfl) (by kernel_rfl) (by kernel_rfl) (fun _ _ _ h => h) (.inr ⟨by rfl, rfl⟩) trivial ?_
            simp only [Act.put, List.setIfInBounds_toArray, List.set_cons_zero, List.set_cons_succ]
            refine Rg.take_ 27 (some 75) undef rfl rfl (by kernel_rfl) (by kernel_rfl) (by kernel_rfl) (fun _ _ _ h => h) (.inr ⟨by rfl, rfl⟩) trivial ?_
            simp only [Act.put, List.setIfInBounds_toArray, List.set_cons_zero, List.set_cons_succ]
            refine Rg.take_ 28 (some 76) undef rfl rfl (by kernel_rfl) (by kernel_rfl) (by kernel_rfl) (fun _ _ _ h => h) (.inr ⟨by rfl, rfl⟩) trivial ?_
            simp only [Act.put, List.setIfInBounds_toArray, List.set_cons_zero, List.set_cons_succ]
            refine Rg.take_ 29 (some 77) undef rfl rfl (by kernel_rfl) (by kernel_rfl) (by kernel_rfl) (fun _ _ _ h => h) (.inr ⟨by rfl, rfl⟩) trivial ?_
            simp only [Act.put, List.setIfInBounds_toArray, List.set_cons_zero, List.set_cons_succ]
            refine Rg.take_ 30 (some 78) undef rfl rfl (by kernel_rfl) (by kernel_rfl) (by kernel_rfl) (fun _ _ _ h => h) (.inr ⟨by rfl, rfl⟩) trivial ?_
            simp only [Act.put, List.setIfInBounds_toArray, List.set_cons_zero, List.set_cons_succ]
            refine Rg.take_ 31 (some 79) undef rfl rfl (by kernel_rfl) (by kernel_rfl) (by kernel_rfl) (fun _ _ _ h => h) (.inr ⟨by rfl, rfl⟩) trivial ?_
            simp only [Act.put, List.setIfInBounds_toArray, List.set_cons_zero, List.set_cons_succ]
            refine Rg.take_ 32 (some 80) undef rfl rfl (by kernel_rfl) (by kernel_rfl) (by kernel_rfl) (fun _ _ _ h => h) (.inr ⟨by rfl, rfl⟩) trivial ?_
            simp only [Act.put, List.setIfInBounds_toArray, List.set_cons_zero, List.set_cons_succ]
            refine Rg.take_ 33 (some 81) undef rfl rfl (by kernel_rfl) (by kernel_rfl) (by kernel_rfl) (fun _ _ _ h => h) (.inr ⟨by rfl, rfl⟩) trivial ?_
            simp only [Act.put, List.setIfInBounds_toArray, List.set_cons_zero, List.set_cons_succ]
            refine Rg.take_ 34 (some 82) undef rfl rfl (by kernel_rfl) (by kernel_rfl) (by kernel_rfl) (fun _ _ _ h => h) (.inr ⟨by rfl, rfl⟩) trivial ?_
            simp only [Act.put, List.setIfInBounds_toArray, List.set_cons_zero, List.set_cons_succ]
            refine Rg.take_ 35 (some 83) undef rfl rfl (by kernel_rfl) (by kernel_rfl) (by kernel_rfl) (fun _ _ _ h => h) (.inr ⟨by rfl, rfl⟩) trivial ?_
            simp only [Act.put, List.setIfInBounds_toArray, List.set_cons_zero, List.set_cons_succ]
            refine Rg.take_ 36 (some 84) undef rfl rfl (by kernel_rfl) (by kernel_rfl) (by kernel_rfl) (fun _ _ _ h => h) (.inr ⟨by rfl, rfl⟩) trivial ?_
            simp only [Act.put, List.setIfInBounds_toArray, List.set_cons_zero, List.set_cons_succ]
            refine Rg.take_ 37 (some 85) undef rfl rfl (by kernel_rfl) (by kernel_rfl) (by kernel_rfl) (fun _ _ _ h => h) (.inr ⟨by rfl, rfl⟩) trivial ?_
            simp only [Act.put, List.setIfInBounds_toArray, List.set_cons_zero, List.set_cons_succ]
            refine Rg.take_ 38 (some 86) undef rfl rfl (by kernel_rfl) (by kernel_rfl) (by kernel_rfl) (fun _ _ _ h => h) (.inr ⟨by rfl, rfl⟩) trivial ?_
            simp only [Act.put, List.setIfInBounds_toArray, List.set_cons_zero, List.set_cons_succ]
            refine Rg.take_ 39 (some 87) undef rfl rfl (by kernel_rfl) (by kernel_rfl) (by kernel_rfl) (fun _ _ _ h => h) (.inr ⟨by rfl, rfl⟩) trivial ?_
            simp only [Act.put, List.setIfInBounds_toArray, List.set_cons_zero, List.set_cons_succ]
            refine Rg.take_ 40 (some 88) undef rfl rfl (by kernel_rfl) (by kernel_rfl) (by kernel_rfl) (fun _ _ _ h => h) (.inr ⟨by rfl, rfl⟩) trivial ?_
            simp only [Act.put, List.setIfInBounds_toArray, List.set_cons_zero, List.set_cons_succ]
            refine Rg.take_ 41 (some 89) (.bool false) rfl rfl (by kernel_rfl) (by kernel_rfl) (by kernel_rfl) (fun _ _ _ h => h) (.inl ⟨by rfl, fun W' hS => (by go_simp)⟩) trivial ?_
            simp only [Act.put, List.setIfInBounds_toArray, List.set_cons_zero, List.set_cons_succ]
            refine wpAnyH_done (by kernel_rfl) ?_ _
            go_wp2_with fail
            go_roundw
            case rel => exact ⟨j + 1, by omega, by go_num, B.out, T.out, V.out⟩
            case measure => simp [intOf]; omega
          · have nn : ((j : Int) != (n : Int)) = true := by rw [bne_iff_ne]; omega
            go_upto_region 10 with fail
            have hg := grown_drew (World.grownBy.refl wr none)
            replace T := Lib.hid (T.out.still hg)
            replace V := Lib.hid (V.out.still hg)
            replace B := Lib.hid (B.out.trans ((below_grown hg).mono B.out.size))
            clear hg
            have xa : wr.drew.cell? ⟨g1, j, none⟩ = some (.int .i64 (a.getD j 0)) := (T.out.cellA hlt).1
            have xv : wr.drew.cell? ⟨g2, j, none⟩ = some (.int .i64 (v.getD j 0)) := (T.out.cellV hlt).1
            have xf : wr.drew.cell? ⟨g3, j, none⟩ = some (.bool (f.getD j false)) := (T.out.cellF hlt).1
            have ya : wr.drew.cell? ⟨h1, j, none⟩ = some (.int .i64 (a.getD j 0)) := by
              have := (V.out.cellA hlt).1
              rw [getD_setI n j 0 (by rw [LA.out]; omega), if_neg (by omega)] at this
              exact this
            have yv : wr.drew.cell? ⟨h2, j, none⟩ = some (.int .i64 (v.getD j 0)) := by
              have := (V.out.cellV hlt).1
              rw [getD_setI n j 0 (by rw [LV.out]; omega), if_neg (by omega)] at this
              exact this
            have yf : wr.drew.cell? ⟨h3, j, none⟩ = some (.bool (f.getD j false)) := by
              have := (V.out.cellF hlt).1
              rw [getD_setB n j false (by rw [LF.out]; omega), if_neg (by omega)] at this
              exact this
            have na : (a.getD j 0 != a.getD j 0) = false := by simp
            have nv : (v.getD j 0 != v.getD j 0) = false := by simp
            have nf : (f.getD j false != f.getD j false) = false := by simp
            generalize a.getD j 0 = za at *
            generalize v.getD j 0 = zv at *
            generalize f.getD j false = zf at *
            refine wp_region_held (S := fun W => Blk W t 26 [.int .i64 k, .slice (some ⟨g1, 0, none⟩) 8 d1, .slice (some ⟨g2, 0, none⟩) 8 d2, .slice (some ⟨g3, 0, none⟩) 8 d3] ∧ Blk W t2 26 [.int .i64 k, .slice (some ⟨h1, 0, none⟩) 8 d4, .slice (some ⟨h2, 0, none⟩) 8 d5, .slice (some ⟨h3, 0, none⟩) 8 d6] ∧ W.cell? ⟨g1, j, none⟩ = some (.int .i64 za) ∧ W.cell? ⟨h1, j, none⟩ = some (.int .i64 za) ∧ W.cell? ⟨g2, j, none⟩ = some (.int .i64 zv) ∧ W.cell? ⟨h2, j, none⟩ = some (.int .i64 zv) ∧ W.cell? ⟨g3, j, none⟩ = some (.bool zf) ∧ W.cell? ⟨h3, j, none⟩ = some (.bool zf)) (by kernel_rfl) ?_
            change wpAnyH _ _ _ _ _ _ _ _ wr.drew
            generalize wr.drew = wr at *
            refine Rg.take_ 0 (some 48) (.int .i64 j) rfl rfl (by kernel_rfl) (by kernel_rfl) (by kernel_rfl) (fun _ _ _ h => h) (.inl ⟨by rfl, fun W' hS => (by go_simp)⟩) ⟨T.out.blk, V.out.blk, xa, ya, xv, yv, xf, yf⟩ ?_
            simp only [Act.put, List.setIfInBounds_toArray, List.set_cons_zero, List.set_cons_succ]
            refine Rg.take_ 1 (some 49) (.int .i64 n) rfl rfl (by kernel_rfl) (by kernel_rfl) (by kernel_rfl) (fun _ _ _ h => h) (.inl ⟨by rfl, fun W' hS => (by go_simp)⟩) ⟨T.out.blk, V.out.blk, xa, ya, xv, yv, xf, yf⟩ ?_
            simp only [Act.put, List.setIfInBounds_toArray, List.set_cons_zero, List.set_cons_succ]
            refine Rg.take_ 2 (some 50) (.bool true) rfl rfl (by kernel_rfl) (by kernel_rfl) (by kernel_rfl) (fun _ _ _ h => h) (.inl ⟨by rfl, fun W' hS => (by go_simp)⟩) ⟨T.out.blk, V.out.blk, xa, ya, xv, yv, xf, yf⟩ ?_
            simp only [Act.put, List.setIfInBounds_toArray, List.set_cons_zero, List.set_cons_succ]
            refine Rg.take_ 3 (some 51) (.bool true) rfl rfl (by kernel_rfl) (by kernel_rfl) (by kernel_rfl) (fun _ _ _ h => h) (.inl ⟨by rfl, fun W' hS => (by go_simp)⟩) ⟨T.out.blk, V.out.blk, xa, ya, xv, yv, xf, yf⟩ ?_
            simp only [Act.put, List.setIfInBounds_toArray, List.set_cons_zero, List.set_cons_succ]
            refine Rg.take_ 4 (some 52) (.pointer (some ⟨t2, 1, none⟩)) rfl rfl (by kernel_rfl) (by kernel_rfl) (by kernel_rfl) (fun _ _ _ h => h) (.inl ⟨by rfl, fun W' hS => (by go_simp)⟩) ⟨T.out.blk, V.out.blk, xa, ya, xv, yv, xf, yf⟩ ?_
            simp only [Act.put, List.setIfInBounds_toArray, List.set_cons_zero, List.set_cons_succ]
            refine Rg.take_ 5 (some 53) (.slice (some ⟨h1, 0, none⟩) 8 d4) rfl rfl (by kernel_rfl) (by kernel_rfl) (by kernel_rfl) (fun _ _ _ h => h) (.inl ⟨by rfl, fun W' hS => (by have c0 := hS.2.1.cell (i := 1) rfl; go_simp)⟩) ⟨T.out.blk, V.out.blk, xa, ya, xv, yv, xf, yf⟩ ?_
            simp only [Act.put, List.setIfInBounds_toArray, List.set_cons_zero, List.set_cons_succ]
            refine Rg.take_ 6 (some 54) (.int .i64 j) rfl rfl (by kernel_rfl) (by kernel_rfl) (by kernel_rfl) (fun _ _ _ h => h) (.inl ⟨by rfl, fun W' hS => (by go_simp)⟩) ⟨T.out.blk, V.out.blk, xa, ya, xv, yv, xf, yf⟩ ?_
            simp only [Act.put, List.setIfInBounds_toArray, List.set_cons_zero, List.set_cons_succ]
            refine Rg.take_ 7 (some 55) (.pointer (some ⟨h1, j, none⟩)) rfl rfl (by kernel_rfl) (by kernel_rfl) (by kernel_rfl) (fun _ _ _ h => h) (.inl ⟨by rfl, fun W' hS => (by go_simp)⟩) ⟨T.out.blk, V.out.blk, xa, ya, xv, yv, xf, yf⟩ ?_
            simp only [Act.put, List.setIfInBounds_toArray, List.set_cons_zero, List.set_cons_succ]
            refine Rg.take_ 8 (some 56) (.int .i64 za) rfl rfl (by kernel_rfl) (by kernel_rfl) (by kernel_rfl) (fun _ _ _ h => h) (.inl ⟨by rfl, fun W' hS => (by have c0 := hS.2.2.2.1; go_simp)⟩) ⟨T.out.blk, V.out.blk, xa, ya, xv, yv, xf, yf⟩ ?_
            simp only [Act.put, List.setIfInBounds_toArray, List.set_cons_zero, List.set_cons_succ]
            refine Rg.take_ 9 (some 57) (.pointer (some ⟨t, 1, none⟩)) rfl rfl (by kernel_rfl) (by kernel_rfl) (by kernel_rfl) (fun _ _ _ h => h) (.inl ⟨by rfl, fun W' hS => (by go_simp)⟩) ⟨T.out.blk, V.out.blk, xa, ya, xv, yv, xf, yf⟩ ?_
            simp only [Act.put, List.setIfInBounds_toArray, List.set_cons_zero, List.set_cons_succ]
            refine Rg.take_ 10 (some 58) (.slice (some ⟨g1, 0, none⟩) 8 d1) rfl rfl (by kernel_rfl) (by kernel_rfl) (by kernel_rfl) (fun _ _ _ h => h) (.inl ⟨by rfl, fun W' hS => (by have c0 := hS.1.cell (i := 1) rfl; go_simp)⟩) ⟨T.out.blk, V.out.blk, xa, ya, xv, yv, xf, yf⟩ ?_
            simp only [Act.put, List.setIfInBounds_toArray, List.set_cons_zero, List.set_cons_succ]
            refine Rg.take_ 11 (some 59) (.int .i64 j) rfl rfl (by kernel_rfl) (by kernel_rfl) (by kernel_rfl) (fun _ _ _ h => h) (.inl ⟨by rfl, fun W' hS => (by go_simp)⟩) ⟨T.out.blk, V.out.blk, xa, ya, xv, yv, xf, yf⟩ ?_
            simp only [Act.put, List.setIfInBounds_toArray, List.set_cons_zero, List.set_cons_succ]
            refine Rg.take_ 12 (some 60) (.pointer (some ⟨g1, j, none⟩)) rfl rfl (by kernel_rfl) (by kernel_rfl) (by kernel_rfl) (fun _ _ _ h => h) (.inl ⟨by rfl, fun W' hS => (by go_simp)⟩) ⟨T.out.blk, V.out.blk, xa, ya, xv, yv, xf, yf⟩ ?_
            simp only [Act.put, List.setIfInBounds_toArray, List.set_cons_zero, List.set_cons_succ]
            refine Rg.take_ 13 (some 61) (.int .i64 za) rfl rfl (by kernel_rfl) (by kernel_rfl) (by kernel_rfl) (fun _ _ _ h => h) (.inl ⟨by rfl, fun W' hS => (by have c0 := hS.2.2.1; go_simp)⟩) ⟨T.out.blk, V.out.blk, xa, ya, xv, yv, xf, yf⟩ ?_
            simp only [Act.put, List.setIfInBounds_toArray, List.set_cons_zero, List.set_cons_succ]
            refine Rg.take_ 14 (some 62) (.bool false) rfl rfl (by kernel_rfl) (by kernel_rfl) (by kernel_rfl) (fun _ _ _ h => h) (.inl ⟨by rfl, fun W' hS => (by go_simp)⟩) ⟨T.out.blk, V.out.blk, xa, ya, xv, yv, xf, yf⟩ ?_
            simp only [Act.put, List.setIfInBounds_toArray, List.set_cons_zero, List.set_cons_succ]
            refine Rg.take_ 15 (some 63) (.bool false) rfl rfl (by kernel_rfl) (by kernel_rfl) (by kernel_rfl) (fun _ _ _ h => h) (.inl ⟨by rfl, fun W' hS => (by go_simp)⟩) ⟨T.out.blk, V.out.blk, xa, ya, xv, yv, xf, yf⟩ ?_
            simp only [Act.put, List.setIfInBounds_toArray, List.set_cons_zero, List.set_cons_succ]
            refine Rg.take_ 16 (some 64) (.pointer (some ⟨t2, 2, none⟩)) rfl rfl (by kernel_rfl) (by kernel_rfl) (by kernel_rfl) (fun _ _ _ h => h) (.inl ⟨by rfl, fun W' hS => (by go_simp)⟩) ⟨T.out.blk, V.out.blk, xa, ya, xv, yv, xf, yf⟩ ?_
            simp only [Act.put, List.setIfInBounds_toArray, List.set_cons_zero, List.set_cons_succ]
            refine Rg.take_ 17 (some 65) (.slice (some ⟨h2, 0, none⟩) 8 d5) rfl rfl (by kernel_rfl) (by kernel_rfl) (by kernel_rfl) (fun _ _ _ h => h) (.inl ⟨by rfl, fun W' hS => (by have c0 := hS.2.1.cell (i := 2) rfl; go_simp)⟩) ⟨T.out.blk, V.out.blk, xa, ya, xv, yv, xf, yf⟩ ?_
            simp only [Act.put, List.setIfInBounds_toArray, List.set_cons_zero, List.set_cons_succ]
            refine Rg.take_ 18 (some 66) (.int .i64 j) rfl rfl (by kernel_rfl) (by kernel_rfl) (by kernel_rfl) (fun _ _ _ h => h) (.inl ⟨by rfl, fun W' hS => (by go_simp)⟩) ⟨T.out.blk, V.out.blk, xa, ya, xv, yv, xf, yf⟩ ?_
            simp only [Act.put, List.setIfInBounds_toArray, List.set_cons_zero, List.set_cons_succ]
            refine Rg.take_ 19 (some 67) (.pointer (some ⟨h2, j, none⟩)) rfl rfl (by kernel_rfl) (by kernel_rfl) (by kernel_rfl) (fun _ _ _ h => h) (.inl ⟨by rfl, fun W' hS => (by go_simp)⟩) ⟨T.out.blk, V.out.blk, xa, ya, xv, yv, xf, yf⟩ ?_
            simp only [Act.put, List.setIfInBounds_toArray, List.set_cons_zero, List.set_cons_succ]
            refine Rg.take_ 20 (some 68) (.int .i64 zv) rfl rfl (by kernel_rfl) (by kernel_rfl) (by kernel_rfl) (fun _ _ _ h => h) (.inl ⟨by rfl, fun W' hS => (by have c0 := hS.2.2.2.2.2.1; go_simp)⟩) ⟨T.out.blk, V.out.blk, xa, ya, xv, yv, xf, yf⟩ ?_
            simp only [Act.put, List.setIfInBounds_toArray, List.set_cons_zero, List.set_cons_succ]
            refine Rg.take_ 21 (some 69) (.pointer (some ⟨t, 2, none⟩)) rfl rfl (by kernel_rfl) (by kernel_rfl) (by kernel_rfl) (fun _ _ _ h => h) (.inl ⟨by rfl, fun W' hS => (by go_simp)⟩) ⟨T.out.blk, V.out.blk, xa, ya, xv, yv, xf, yf⟩ ?_
            simp only [Act.put, List.setIfInBounds_toArray, List.set_cons_zero, List.set_cons_succ]
            refine Rg.take_ 22 (some 70) (.slice (some ⟨g2, 0, none⟩) 8 d2) rfl rfl (by kernel_rfl) (by kernel_rfl) (by kernel_rfl) (fun _ _ _ h => h) (.inl ⟨by rfl, fun W' hS => (by have c0 := hS.1.cell (i := 2) rfl; go_simp)⟩) ⟨T.out.blk, V.out.blk, xa, ya, xv, yv, xf, yf⟩ ?_
            simp only [Act.put, List.setIfInBounds_toArray, List.set_cons_zero, List.set_cons_succ]
            refine Rg.take_ 23 (some 71) (.int .i64 j) rfl rfl (by kernel_rfl) (by kernel_rfl) (by kernel_rfl) (fun _ _ _ h => h) (.inl ⟨by rfl, fun W' hS => (by go_simp)⟩) ⟨T.out.blk, V.out.blk, xa, ya, xv, yv, xf, yf⟩ ?_
            simp only [Act.put, List.setIfInBounds_toArray, List.set_cons_zero, List.set_cons_succ]
            refine Rg.take_ 24 (some 72) (.pointer (some ⟨g2, j, none⟩)) rfl rfl (by kernel_rfl) (by kernel_rfl) (by kernel_rfl) (fun _ _ _ h => h) (.inl ⟨by rfl, fun W' hS => (by go_simp)⟩) ⟨T.out.blk, V.out.blk, xa, ya, xv, yv, xf, yf⟩ ?_
            simp only [Act.put, List.setIfInBounds_toArray, List.set_cons_zero, List.set_cons_succ]
            refine Rg.take_ 25 (some 73) (.int .i64 zv) rfl rfl (by kernel_rfl) (by kernel_rfl) (by kernel_rfl) (fun _ _ _ h => h) (.inl ⟨by rfl, fun W' hS => (by have c0 := hS.2.2.2.2.1; go_simp)⟩) ⟨T.out.blk, V.out.blk, xa, ya, xv, yv, xf, yf⟩ ?_
            simp only [Act.put, List.setIfInBounds_toArray, List.set_cons_zero, List.set_cons_succ]
            refine Rg.take_ 26 (some 74) (.bool false) rfl rfl (by kernel_rfl) (by kernel_rfl) (by kernel_rfl) (fun _ _ _ h => h) (.inl ⟨by rfl, fun W' hS => (by go_simp)⟩) ⟨T.out.blk, V.out.blk, xa, ya, xv, yv, xf, yf⟩ ?_
            simp only [Act.put, List.setIfInBounds_toArray, List.set_cons_zero, List.set_cons_succ]
            refine Rg.take_ 27 (some 75) (.bool false) rfl rfl (by kernel_rfl) (by kernel_rfl) (by kernel_rfl) (fun _ _ _ h => h) (.inl ⟨by rfl, fun W' hS => (by go_simp)⟩) ⟨T.out.blk, V.out.blk, xa, ya, xv, yv, xf, yf⟩ ?_
            simp only [Act.put, List.setIfInBounds_toArray, List.set_cons_zero, List.set_cons_succ]
            refine Rg.take_ 28 (some 76) (.bool false) rfl rfl (by kernel_rfl) (by kernel_rfl) (by kernel_rfl) (fun _ _ _ h => h) (.inl ⟨by rfl, fun W' hS => (by go_simp)⟩) ⟨T.out.blk, V.out.blk, xa, ya, xv, yv, xf, yf⟩ ?_
            simp only [Act.put, List.setIfInBounds_toArray, List.set_cons_zero, List.set_cons_succ]
            refine Rg.take_ 29 (some 77) (.pointer (some ⟨t2, 3, none⟩)) rfl rfl (by kernel_rfl) (by kernel_rfl) (by kernel_rfl) (fun _ _ _ h => h) (.inl ⟨by rfl, fun W' hS => (by go_simp)⟩) ⟨T.out.blk, V.out.blk, xa, ya, xv, yv, xf, yf⟩ ?_
            simp only [Act.put, List.setIfInBounds_toArray, List.set_cons_zero, List.set_cons_succ]
            refine Rg.take_ 30 (some 78) (.slice (some ⟨h3, 0, none⟩) 8 d6) rfl rfl (by kernel_rfl) (by kernel_rfl) (by kernel_rfl) (fun _ _ _ h => h) (.inl ⟨by rfl, fun W' hS => (by have c0 := hS.2.1.cell (i := 3) rfl; go_simp)⟩) ⟨T.out.blk, V.out.blk, xa, ya, xv, yv, xf, yf⟩ ?_
            simp only [Act.put, List.setIfInBounds_toArray, List.set_cons_zero, List.set_cons_succ]
            refine Rg.take_ 31 (some 79) (.int .i64 j) rfl rfl (by kernel_rfl) (by kernel_rfl) (by kernel_rfl) (fun _ _ _ h => h) (.inl ⟨by rfl, fun W' hS => (by go_simp)⟩) ⟨T.out.blk, V.out.blk, xa, ya, xv, yv, xf, yf⟩ ?_
            simp only [Act.put, List.setIfInBounds_toArray, List.set_cons_zero, List.set_cons_succ]
            refine Rg.take_ 32 (some 80) (.pointer (some ⟨h3, j, none⟩)) rfl rfl (by kernel_rfl) (by kernel_rfl) (by kernel_rfl) (fun _ _ _ h => h) (.inl ⟨by rfl, fun W' hS => (by go_simp)⟩) ⟨T.out.blk, V.out.blk, xa, ya, xv, yv, xf, yf⟩ ?_
            simp only [Act.put, List.setIfInBounds_toArray, List.set_cons_zero, List.set_cons_succ]
            refine Rg.take_ 33 (some 81) (.bool zf) rfl rfl (by kernel_rfl) (by kernel_rfl) (by kernel_rfl) (fun _ _ _ h => h) (.inl ⟨by rfl, fun W' hS => (by have c0 := hS.2.2.2.2.2.2.2; go_simp)⟩) ⟨T.out.blk, V.out.blk, xa, ya, xv, yv, xf, yf⟩ ?_
            simp only [Act.put, List.setIfInBounds_toArray, List.set_cons_zero, List.set_cons_succ]
            refine Rg.take_ 34 (some 82) (.pointer (some ⟨t, 3, none⟩)) rfl rfl (by kernel_rfl) (by kernel_rfl) (by kernel_rfl) (fun _ _ _ h => h) (.inl ⟨by rfl, fun W' hS => (by go_simp)⟩) ⟨T.out.blk, V.out.blk, xa, ya, xv, yv, xf, yf⟩ ?_
            simp only [Act.put, List.setIfInBounds_toArray, List.set_cons_zero, List.set_cons_succ]
            refine Rg.take_ 35 (some 83) (.slice (some ⟨g3, 0, none⟩) 8 d3) rfl rfl (by kernel_rfl) (by kernel_rfl) (by kernel_rfl) (fun _ _ _ h => h) (.inl ⟨by rfl, fun W' hS => (by have c0 := hS.1.cell (i := 3) rfl; go_simp)⟩) ⟨T.out.blk, V.out.blk, xa, ya, xv, yv, xf, yf⟩ ?_
            simp only [Act.put, List.setIfInBounds_toArray, List.set_cons_zero, List.set_cons_succ]
            refine Rg.take_ 36 (some 84) (.int .i64 j) rfl rfl (by kernel_rfl) (by kernel_rfl) (by kernel_rfl) (fun _ _ _ h => h) (.inl ⟨by rfl, fun W' hS => (by go_simp)⟩) ⟨T.out.blk, V.out.blk, xa, ya, xv, yv, xf, yf⟩ ?_
            simp only [Act.put, List.setIfInBounds_toArray, List.set_cons_zero, List.set_cons_succ]
            refine Rg.take_ 37 (some 85) (.pointer (some ⟨g3, j, none⟩)) rfl rfl (by kernel_rfl) (by kernel_rfl) (by kernel_rfl) (fun _ _ _ h => h) (.inl ⟨by rfl, fun W' hS => (by go_simp)⟩) ⟨T.out.blk, V.out.blk, xa, ya, xv, yv, xf, yf⟩ ?_
            simp only [Act.put, List.setIfInBounds_toArray, List.set_cons_zero, List.set_cons_succ]
            refine Rg.take_ 38 (some 86) (.bool zf) rfl rfl (by kernel_rfl) (by kernel_rfl) (by kernel_rfl) (fun _ _ _ h => h) (.inl ⟨by rfl, fun W' hS => (by have c0 := hS.2.2.2.2.2.2.1; go_simp)⟩) ⟨T.out.blk, V.out.blk, xa, ya, xv, yv, xf, yf⟩ ?_
            simp only [Act.put, List.setIfInBounds_toArray, List.set_cons_zero, List.set_cons_succ]
            refine Rg.take_ 39 (some 87) (.bool false) rfl rfl (by kernel_rfl) (by kernel_rfl) (by kernel_rfl) (fun _ _ _ h => h) (.inl ⟨by rfl, fun W' hS => (by go_simp)⟩) ⟨T.out.blk, V.out.blk, xa, ya, xv, yv, xf, yf⟩ ?_
            simp only [Act.put, List.setIfInBounds_toArray, List.set_cons_zero, List.set_cons_succ]
            refine Rg.take_ 40 (some 88) (.bool false) rfl rfl (by kernel_rfl) (by kernel_rfl) (by kernel_rfl) (fun _ _ _ h => h) (.inl ⟨by rfl, fun W' hS => (by go_simp)⟩) ⟨T.out.blk, V.out.blk, xa, ya, xv, yv, xf, yf⟩ ?_
            simp only [Act.put, List.setIfInBounds_toArray, List.set_cons_zero, List.set_cons_succ]
            refine Rg.take_ 41 (some 89) (.bool false) rfl rfl (by kernel_rfl) (by kernel_rfl) (by kernel_rfl) (fun _ _ _ h => h) (.inl ⟨by rfl, fun W' hS => (by go_simp)⟩) ⟨T.out.blk, V.out.blk, xa, ya, xv, yv, xf, yf⟩ ?_
            simp only [Act.put, List.setIfInBounds_toArray, List.set_cons_zero, List.set_cons_succ]
            refine wpAnyH_done (by kernel_rfl) ?_ _
            go_wp2_with fail
            go_roundw
            case rel => exact ⟨j + 1, by omega, by go_num, B.out, T.out, V.out⟩
            case measure => simp [intOf]; omega
        · obtain rfl : j = 8 := by omega
          have c0 := T.out.blk.cell (i := 0) rfl
          have c1 := T.out.blk.cell (i := 1) rfl
          have c2 := T.out.blk.cell (i := 2) rfl
          have c3 := T.out.blk.cell (i := 3) rfl
          go_wp2_with fail
          refine (implStripeRead k _ _ _ a v f _ T.out.own.a T.out.own.v T.out.own.f).mono ?_
          rintro e wr ⟨r1, x1, bb1, vl1, hT1, rfl, hg, ho⟩
          have R1 := Lib.hid hT1
          replace T := Lib.hid (T.out.still hg)
          replace V := Lib.hid (V.out.still hg)
          replace B := Lib.hid (B.out.trans ((below_grown hg).mono B.out.size))
          clear hg ho hT1 c0 c1 c2 c3
          have c0 := V.out.blk.cell (i := 0) rfl
          have c1 := V.out.blk.cell (i := 1) rfl
          have c2 := V.out.blk.cell (i := 2) rfl
          have c3 := V.out.blk.cell (i := 3) rfl
          go_wp2_with fail
          refine (implStripeRead k _ _ _ _ _ _ _ V.out.own.a V.out.own.v V.out.own.f).mono ?_
          rintro e wr ⟨r2, x2, bb2, vl2, hT2, rfl, hg, ho⟩
          have R2 := Lib.hid hT2
          replace T := Lib.hid (T.out.still hg)
          replace V := Lib.hid (V.out.still hg)
          replace B := Lib.hid (B.out.trans ((below_grown hg).mono B.out.size))
          clear hg ho hT2 c0 c1 c2 c3
          have OK2 := Lib.hid (OK.out.lose hn8)
          have LE : x2 ≤ x1 := by
            have b1 : Best k v f x1 := by
              rcases R1.out with ⟨_, _, _, h, _⟩ | ⟨_, _, h, h'⟩
              · exact h
              · subst h; exact h' OK.out
            have b2 : Best k (v.set n 0) (f.set n false) x2 := by
              rcases R2.out with ⟨_, _, _, h, _⟩ | ⟨_, _, h, h'⟩
              · exact h
              · subst h; exact h' OK2.out
            exact b1.less b2 (fun z i hi h => ((ofM_lose LV.out LF.out hn8 z hi).1 h).2)
          clear R1 R2
          go_upto_region 14 with fail
          refine wp_region_held (S := fun W => Blk W t2 26 [.int .i64 k, .slice (some ⟨h1, 0, none⟩) 8 d4, .slice (some ⟨h2, 0, none⟩) 8 d5, .slice (some ⟨h3, 0, none⟩) 8 d6] ∧ W.cell? ⟨h3, n, none⟩ = some (.bool false)) (by kernel_rfl) ?_
          change wpAnyH _ _ _ _ _ _ _ _ wr.drew
          have hg := grown_drew (World.grownBy.refl wr none)
          replace T := Lib.hid (T.out.still hg)
          replace V := Lib.hid (V.out.still hg)
          replace B := Lib.hid (B.out.trans ((below_grown hg).mono B.out.size))
          clear hg
          generalize wr.drew = wr at *
          have CQ' := V.out.cap
          refine Rg.take_ 0 (some 102) (.pointer (some ⟨t2, 3, none⟩)) rfl rfl (by kernel_rfl) (by kernel_rfl) (by kernel_rfl) (fun _ _ _ h => h) (.inl ⟨by rfl, fun W' hS => (by go_simp)⟩) ⟨V.out.blk, by have := (V.out.cellF hn8).1; rw [getD_setB n n false (by rw [LF.out]; omega), if_pos rfl] at this; exact this⟩ ?_
          simp only [Act.put, List.setIfInBounds_toArray, List.set_cons_zero, List.set_cons_succ]
          refine Rg.take_ 1 (some 103) (.slice (some ⟨h3, 0, none⟩) 8 d6) rfl rfl (by kernel_rfl) (by kernel_rfl) (by kernel_rfl) (fun _ _ _ h => h) (.inl ⟨by rfl, fun W' hS => (by have c0 := hS.1.cell (i := 3) rfl; go_simp)⟩) ⟨V.out.blk, by have := (V.out.cellF hn8).1; rw [getD_setB n n false (by rw [LF.out]; omega), if_pos rfl] at this; exact this⟩ ?_
          simp only [Act.put, List.setIfInBounds_toArray, List.set_cons_zero, List.set_cons_succ]
          refine Rg.take_ 2 (some 104) (.int .i64 n) rfl rfl (by kernel_rfl) (by kernel_rfl) (by kernel_rfl) (fun _ _ _ h => h) (.inl ⟨by rfl, fun W' hS => (by go_simp)⟩) ⟨V.out.blk, by have := (V.out.cellF hn8).1; rw [getD_setB n n false (by rw [LF.out]; omega), if_pos rfl] at this; exact this⟩ ?_
          simp only [Act.put, List.setIfInBounds_toArray, List.set_cons_zero, List.set_cons_succ]
          refine Rg.take_ 3 (some 105) (.pointer (some ⟨h3, n, none⟩)) rfl rfl (by kernel_rfl) (by kernel_rfl) (by kernel_rfl) (fun _ _ _ h => h) (.inl ⟨by rfl, fun W' hS => (by go_simp)⟩) ⟨V.out.blk, by have := (V.out.cellF hn8).1; rw [getD_setB n n false (by rw [LF.out]; omega), if_pos rfl] at this; exact this⟩ ?_
          simp only [Act.put, List.setIfInBounds_toArray, List.set_cons_zero, List.set_cons_succ]
          refine Rg.take_ 4 (some 106) (.bool false) rfl rfl (by kernel_rfl) (by kernel_rfl) (by kernel_rfl) (fun _ _ _ h => h) (.inl ⟨by rfl, fun W' hS => (by have c0 := hS.2; go_simp)⟩) ⟨V.out.blk, by have := (V.out.cellF hn8).1; rw [getD_setB n n false (by rw [LF.out]; omega), if_pos rfl] at this; exact this⟩ ?_
          simp only [Act.put, List.setIfInBounds_toArray, List.set_cons_zero, List.set_cons_succ]
          refine Rg.take_ 5 (some 107) (.bool true) rfl rfl (by kernel_rfl) (by kernel_rfl) (by kernel_rfl) (fun _ _ _ h => h) (.inl ⟨by rfl, fun W' hS => (by go_simp)⟩) ⟨V.out.blk, by have := (V.out.cellF hn8).1; rw [getD_setB n n false (by rw [LF.out]; omega), if_pos rfl] at this; exact this⟩ ?_
          simp only [Act.put, List.setIfInBounds_toArray, List.set_cons_zero, List.set_cons_succ]
          refine Rg.take_ 6 (some 108) (.bool true) rfl rfl (by kernel_rfl) (by kernel_rfl) (by kernel_rfl) (fun _ _ _ h => h) (.inl ⟨by rfl, fun W' hS => (by go_simp)⟩) ⟨V.out.blk, by have := (V.out.cellF hn8).1; rw [getD_setB n n false (by rw [LF.out]; omega), if_pos rfl] at this; exact this⟩ ?_
          simp only [Act.put, List.setIfInBounds_toArray, List.set_cons_zero, List.set_cons_succ]
          refine Rg.take_ 7 (some 109) (.agg #[.int .i64 k, .slice (some ⟨h1, 0, none⟩) 8 d4, .slice (some ⟨h2, 0, none⟩) 8 d5, .slice (some ⟨h3, 0, none⟩) 8 d6]) rfl rfl (by kernel_rfl) (by kernel_rfl) (by kernel_rfl) (fun _ _ _ h => h) (.inl ⟨by rfl, fun W' hS => (by have c0 := hS.1.cell (i := 0) rfl; have c1 := hS.1.cell (i := 1) rfl; have c2 := hS.1.cell (i := 2) rfl; have c3 := hS.1.cell (i := 3) rfl; go_simp)⟩) ⟨V.out.blk, by have := (V.out.cellF hn8).1; rw [getD_setB n n false (by rw [LF.out]; omega), if_pos rfl] at this; exact this⟩ ?_
          simp only [Act.put, List.setIfInBounds_toArray, List.set_cons_zero, List.set_cons_succ]
          refine Rg.take_ 8 (some 110) (.int .i64 n) rfl rfl (by kernel_rfl) (by kernel_rfl) (by kernel_rfl) (fun _ _ _ h => h) (.inl ⟨by rfl, fun W' hS => (by go_simp)⟩) ⟨V.out.blk, by have := (V.out.cellF hn8).1; rw [getD_setB n n false (by rw [LF.out]; omega), if_pos rfl] at this; exact this⟩ ?_
          simp only [Act.put, List.setIfInBounds_toArray, List.set_cons_zero, List.set_cons_succ]
          refine Rg.take_ 10 (some 112) (.agg #[.int .i64 k, .slice (some ⟨h1, 0, none⟩) 8 d4, .slice (some ⟨h2, 0, none⟩) 8 d5, .slice (some ⟨h3, 0, none⟩) 8 d6]) rfl rfl (by kernel_rfl) (by kernel_rfl) (by kernel_rfl) (fun _ _ _ h => h) (.inl ⟨by rfl, fun W' hS => (by have c0 := hS.1.cell (i := 0) rfl; have c1 := hS.1.cell (i := 1) rfl; have c2 := hS.1.cell (i := 2) rfl; have c3 := hS.1.cell (i := 3) rfl; go_simp)⟩) ⟨V.out.blk, by have := (V.out.cellF hn8).1; rw [getD_setB n n false (by rw [LF.out]; omega), if_pos rfl] at this; exact this⟩ ?_
          simp only [Act.put, List.setIfInBounds_toArray, List.set_cons_zero, List.set_cons_succ]
          refine Rg.ready_one (i := 9) (by kernel_rfl) rfl rfl ?_
          refine Rg.call_at (some 111) (f := 22) (args := #[.agg #[.int .i64 k, .slice (some ⟨h1, 0, none⟩) 8 d4, .slice (some ⟨h2, 0, none⟩) 8 d5, .slice (some ⟨h3, 0, none⟩) 8 d6], .int .i64 n]) rfl (by go_simp) ((implStripeLose k _ _ _ _ _ _ n _ V.out.own.a V.out.own.v V.out.own.f).mono ?_)
          rintro e wr ⟨k2, a2, v2, f2, hT2, u2, x2', y2, rfl, hg, ho⟩
          obtain ⟨e1, e2, e3, e4⟩ : k = k2 ∧ a.set n 0 = a2 ∧ v.set n 0 = v2 ∧ f.set n false = f2 := by
            rcases hT2 with ⟨_, m, hm, _, e1, e2, e3, e4⟩ | ⟨h, _⟩
            · obtain rfl : n = m := by omega
              rw [List.set_set] at e2 e3 e4
              exact ⟨e1.symm, e2.symm, e3.symm, e4.symm⟩
            · exact absurd ⟨OK2.out, by omega, by omega⟩ h
          subst e1 e2 e3 e4
          replace T := Lib.hid (T.out.still hg)
          replace V := Lib.hid (V.out.still hg)
          replace B := Lib.hid (B.out.trans ((below_grown hg).mono B.out.size))
          have PA := Lib.hid ho.a
          have PV := Lib.hid ho.v
          have PF := Lib.hid ho.f
          clear hg ho hT2
          refine ⟨_, rfl, ⟨V.out.blk, by have := (V.out.cellF hn8).1; rw [getD_setB n n false (by rw [LF.out]; omega), if_pos rfl] at this; exact this⟩, ?_⟩
          simp only [Act.put, List.setIfInBounds_toArray, List.set_cons_zero, List.set_cons_succ]
          refine Rg.ready_one (i := 11) (by kernel_rfl) rfl rfl ?_
          refine Rg.call_at (some 113) (f := 23) (args := #[.agg #[.int .i64 k, u2, x2', y2], .agg #[.int .i64 k, .slice (some ⟨h1, 0, none⟩) 8 d4, .slice (some ⟨h2, 0, none⟩) 8 d5, .slice (some ⟨h3, 0, none⟩) 8 d6]]) rfl (by go_simp) ((lkStripeSame k _ _ _ _ _ _ _ _ _ _ PA.out PV.out PF.out V.out.own.a V.out.own.v V.out.own.f).mono ?_)
          rintro e wr ⟨rfl, hg⟩
          replace T := Lib.hid (T.out.still hg)
          replace V := Lib.hid (V.out.still hg)
          replace B := Lib.hid (B.out.trans ((below_grown hg).mono B.out.size))
          clear hg PA PV PF
          refine ⟨_, rfl, ⟨V.out.blk, by have := (V.out.cellF hn8).1; rw [getD_setB n n false (by rw [LF.out]; omega), if_pos rfl] at this; exact this⟩, ?_⟩
          simp only [Act.put, List.setIfInBounds_toArray, List.set_cons_zero, List.set_cons_succ]
          refine Rg.take_ 12 (some 114) (.bool true) rfl rfl (by kernel_rfl) (by kernel_rfl) (by kernel_rfl) (fun _ _ _ h => h) (.inl ⟨by rfl, fun W' hS => (by go_simp)⟩) ⟨V.out.blk, by have := (V.out.cellF hn8).1; rw [getD_setB n n false (by rw [LF.out]; omega), if_pos rfl] at this; exact this⟩ ?_
          simp only [Act.put, List.setIfInBounds_toArray, List.set_cons_zero, List.set_cons_succ]
          refine Rg.take_ 13 (some 115) (.bool true) rfl rfl (by kernel_rfl) (by kernel_rfl) (by kernel_rfl) (fun _ _ _ h => h) (.inl ⟨by rfl, fun W' hS => (by go_simp)⟩) ⟨V.out.blk, by have := (V.out.cellF hn8).1; rw [getD_setB n n false (by rw [LF.out]; omega), if_pos rfl] at this; exact this⟩ ?_
          simp only [Act.put, List.setIfInBounds_toArray, List.set_cons_zero, List.set_cons_succ]
          refine Rg.take_ 14 (some 116) (.int .i64 x2) rfl rfl (by kernel_rfl) (by kernel_rfl) (by kernel_rfl) (fun _ _ _ h => h) (.inl ⟨by rfl, fun W' hS => (by go_simp)⟩) ⟨V.out.blk, by have := (V.out.cellF hn8).1; rw [getD_setB n n false (by rw [LF.out]; omega), if_pos rfl] at this; exact this⟩ ?_
          simp only [Act.put, List.setIfInBounds_toArray, List.set_cons_zero, List.set_cons_succ]
          refine Rg.take_ 15 (some 117) (.int .i64 x1) rfl rfl (by kernel_rfl) (by kernel_rfl) (by kernel_rfl) (fun _ _ _ h => h) (.inl ⟨by rfl, fun W' hS => (by go_simp)⟩) ⟨V.out.blk, by have := (V.out.cellF hn8).1; rw [getD_setB n n false (by rw [LF.out]; omega), if_pos rfl] at this; exact this⟩ ?_
          simp only [Act.put, List.setIfInBounds_toArray, List.set_cons_zero, List.set_cons_succ]
          refine Rg.take_ 16 (some 118) (.bool true) rfl rfl (by kernel_rfl) (by kernel_rfl) (by kernel_rfl) (fun _ _ _ h => h) (.inl ⟨by rfl, fun W' hS => (by go_simp)⟩) ⟨V.out.blk, by have := (V.out.cellF hn8).1; rw [getD_setB n n false (by rw [LF.out]; omega), if_pos rfl] at this; exact this⟩ ?_
          simp only [Act.put, List.setIfInBounds_toArray, List.set_cons_zero, List.set_cons_succ]
          refine Rg.take_ 17 (some 119) (.bool true) rfl rfl (by kernel_rfl) (by kernel_rfl) (by kernel_rfl) (fun _ _ _ h => h) (.inl ⟨by rfl, fun W' hS => (by go_simp)⟩) ⟨V.out.blk, by have := (V.out.cellF hn8).1; rw [getD_setB n n false (by rw [LF.out]; omega), if_pos rfl] at this; exact this⟩ ?_
          simp only [Act.put, List.setIfInBounds_toArray, List.set_cons_zero, List.set_cons_succ]
          refine Rg.take_ 18 (some 120) (.bool true) rfl rfl (by kernel_rfl) (by kernel_rfl) (by kernel_rfl) (fun _ _ _ h => h) (.inl ⟨by rfl, fun W' hS => (by go_simp)⟩) ⟨V.out.blk, by have := (V.out.cellF hn8).1; rw [getD_setB n n false (by rw [LF.out]; omega), if_pos rfl] at this; exact this⟩ ?_
          simp only [Act.put, List.setIfInBounds_toArray, List.set_cons_zero, List.set_cons_succ]
          refine Rg.take_ 19 (some 121) (.agg #[.int .i64 k, .slice (some ⟨h1, 0, none⟩) 8 d4, .slice (some ⟨h2, 0, none⟩) 8 d5, .slice (some ⟨h3, 0, none⟩) 8 d6]) rfl rfl (by kernel_rfl) (by kernel_rfl) (by kernel_rfl) (fun _ _ _ h => h) (.inl ⟨by rfl, fun W' hS => (by have c0 := hS.1.cell (i := 0) rfl; have c1 := hS.1.cell (i := 1) rfl; have c2 := hS.1.cell (i := 2) rfl; have c3 := hS.1.cell (i := 3) rfl; go_simp)⟩) ⟨V.out.blk, by have := (V.out.cellF hn8).1; rw [getD_setB n n false (by rw [LF.out]; omega), if_pos rfl] at this; exact this⟩ ?_
          simp only [Act.put, List.setIfInBounds_toArray, List.set_cons_zero, List.set_cons_succ]
          refine Rg.ready_one (i := 20) (by kernel_rfl) rfl rfl ?_
          refine Rg.call_at (some 122) (f := 25) (args := #[.agg #[.int .i64 k, .slice (some ⟨h1, 0, none⟩) 8 d4, .slice (some ⟨h2, 0, none⟩) 8 d5, .slice (some ⟨h3, 0, none⟩) 8 d6]]) rfl (by go_simp) ((implStripeOk k _ _ _ _ _ _ _ V.out.own.a V.out.own.v V.out.own.f).mono ?_)
          rintro e wr ⟨q, rfl, hq, hg⟩
          obtain rfl : q = true := hq.2 OK2.out
          replace T := Lib.hid (T.out.still hg)
          replace V := Lib.hid (V.out.still hg)
          replace B := Lib.hid (B.out.trans ((below_grown hg).mono B.out.size))
          clear hg hq
          refine ⟨_, rfl, ⟨V.out.blk, by have := (V.out.cellF hn8).1; rw [getD_setB n n false (by rw [LF.out]; omega), if_pos rfl] at this; exact this⟩, ?_⟩
          simp only [Act.put, List.setIfInBounds_toArray, List.set_cons_zero, List.set_cons_succ]
          refine Rg.take_ 21 (some 123) (.bool true) rfl rfl (by kernel_rfl) (by kernel_rfl) (by kernel_rfl) (fun _ _ _ h => h) (.inl ⟨by rfl, fun W' hS => (by go_simp)⟩) ⟨V.out.blk, by have := (V.out.cellF hn8).1; rw [getD_setB n n false (by rw [LF.out]; omega), if_pos rfl] at this; exact this⟩ ?_
          simp only [Act.put, List.setIfInBounds_toArray, List.set_cons_zero, List.set_cons_succ]
          refine Rg.take_ 22 (some 2) (.bool true) rfl rfl (by kernel_rfl) (by kernel_rfl) (by kernel_rfl) (fun _ _ _ h => h) (.inl ⟨by rfl, fun W' hS => (by go_simp)⟩) ⟨V.out.blk, by have := (V.out.cellF hn8).1; rw [getD_setB n n false (by rw [LF.out]; omega), if_pos rfl] at this; exact this⟩ ?_
          simp only [Act.put, List.setIfInBounds_toArray, List.set_cons_zero, List.set_cons_succ]
          refine wpAnyH_done (by kernel_rfl) ?_ _
          go_wp2_with fail
          go_ret
          exact ⟨rfl, B.out⟩

set_option maxRecDepth 100000 in
theorem lifted (os : Os) (started : os.Started) (H : Type) (enc : TypeId × Value → H) :
    ReturnsInHanded {} Try.checked os 5 .any (Rows.fnLoseSpec.pre6 enc Try.prog Try.f5 Rows.fnLoseRow.domain false) (Rows.fnLoseSpec.post enc Try.prog Try.f5 false true false false) := by
  refine returnsInHanded_of_change (C := Try.checked) own started (by kernel_rfl) Try.func5
    (ChangeSpec.witness6 (enc := enc) (C := Try.checked) false ⟨#[], #[.slice none 0 0], []⟩ 8 (by kernel_rfl) (by kernel_rfl) (by kernel_rfl) (by kernel_rfl)) ?_
  intro W base args ds gs before hval0 hW hcnd _
  have hval : ∀ (j : Nat) t v, Try.f5.params[j]? = some t → args[j]? = some v → Value.okWide Try.prog W .any base t v := hval0
  have hW' := hW
  obtain ⟨p, q, hA0, hV, rfl, hfz, hnd⟩ := hW
  have hA : DataW.TrodAll enc Try.prog W 0 (fun _ => true) true Try.f5.params.toList args.toList ds p := hA0
  rw [Try.params5] at hA hval
  obtain ⟨v0, vs0, d0, ds0, p0, q0, hargs, rfl, rfl, h0, r0⟩ := trodAll_cons hA
  obtain ⟨rfl, rfl, rfl⟩ := trodAll_nil r0
  obtain rfl : args = #[v0] := by cases args; simp_all
  obtain ⟨rfl, rfl⟩ := trodVars_none hV
  obtain ⟨a0, len0, cap0, rfl⟩ := okWide_slice Try.underlying22 (hval 0 22 v0 rfl rfl)
  have k0 := h0
  have lt0 : ∀ x ∈ p0, x.block < W.heap.size := by obtain ⟨m, hm⟩ := k0; exact DataW.trod_lt m _ _ _ hm
  obtain ⟨z0, w0⟩ : ∃ zs, IsRow .u8 W a0 len0 cap0 zs := by
    obtain ⟨fuel, hf⟩ := h0
    rcases open_ints Try.underlying22 Try.underlying5 (by kernel_rfl) hf with ⟨hcs, _⟩ | ⟨x, l, c, zs, hcs, _, hl, hm, hz, _, hcell, hwz⟩
    · simp [Value.cells] at hcs
      obtain ⟨rfl, rfl, rfl⟩ := hcs
      exact ⟨[], .inl ⟨rfl, rfl, rfl, rfl⟩⟩
    · simp [Value.cells] at hcs
      obtain ⟨rfl, rfl, rfl⟩ := hcs
      exact ⟨zs, .inr ⟨_, rfl, hl, hm, by simpa using hz, hcell, hwz⟩⟩
  clear hA0 hval0
  refine (walk a0 len0 cap0 z0 W w0).mono fun e W' ⟨he, bel⟩ => ?_
  subst he
  exact ⟨_, rfl, _, _, _, [], _, [], hW', trodAll_mk1 (shut_bool Try.underlying4 _), (trodAll_cons_mk (Below.trod laidOut (by kernel_rfl) (of_decide_eq_true (by kernel_rfl)) k0 bel lt0) trodAll_mk0), rfl, bel.frame _, fun h => by cases h⟩

theorem over : Rows.fnLoseRow.holds Try.pinned (OpenSpec.ofChange Rows.fnLoseSpec) :=
  OpenClaim.holds_of_wide 5 Try.f5 rfl rfl rfl rfl rfl rfl rfl ⟨rfl, rfl, rfl, rfl, rfl⟩ rfl rfl rfl rfl rfl (by kernel_rfl) Try.func5 (by kernel_rfl)
    (of_decide_eq_true (by kernel_rfl)) (by unfold Func.isWrapper; first | (rw [if_pos (by decide +kernel)]; kernel_rfl) | (rw [if_neg (by decide +kernel)]; exact ⟨rfl, rfl⟩))
    (fun os started H enc _ => lifted os started H enc)

theorem proved : Rows.FnLoseSaid := over
#print axioms proved
end Go.Proofs.Ytoflijiinkmjoaa.fnLose
