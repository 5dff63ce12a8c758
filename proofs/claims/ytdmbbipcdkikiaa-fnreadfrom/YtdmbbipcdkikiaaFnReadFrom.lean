/-
  From whatever bytes a kind and flags are drawn, ReadFrom answers as its model does; if the shards are enough, they are four of those that are there, each but these made of those ahead: the law FnReadFrom returns true.
  Conditions: none.
-/
import Derived.Test.YtdmbbipcdkikiaaRows
import Derived.WalkKit
import Derived.ProofKit
import Derived.OpenShut
import Derived.ShutString
import Derived.ChangeOld
import Derived.Below
import Derived.Test.YtdmbbipcdkikiaaG1
import Derived.Test.YtdmbbipcdkikiaaAppendZeros
import Derived.Test.YtdmbbipcdkikiaaG2
import Derived.Test.YtdmbbipcdkikiaaG3
import Derived.Test.YtdmbbipcdkikiaaG4
import Derived.Test.YtdmbbipcdkikiaaReadMath
import Derived.Test.YtdmbbipcdkikiaaReadSpec
import Derived.Test.YtdmbbipcdkikiaaReadTake
import Derived.Test.YtdmbbipcdkikiaaReadProg
import Derived.Test.YtdmbbipcdkikiaaReadTop
import Derived.Test.YtdmbbipcdkikiaaReadTop2
import Derived.Test.YtdmbbipcdkikiaaReadTop3
import Derived.Test.YtdmbbipcdkikiaaReadSpec2
import Derived.Test.YtdmbbipcdkikiaaReadSpec3
import Derived.Test.YtdmbbipcdkikiaaDrawRead
namespace Go.Proofs.Ytdmbbipcdkikiaa.fnReadFrom
open Go.ChangeShapes Go.WideShapes Go.ChangeAt Go.RowKit
open Go.ChangeMaps (open_string shut_string)
set_option linter.unusedVariables false

theorem own : ownKnob Try.prog.godebug = none := by kernel_rfl
theorem laidOut : laidOutB Try.prog = true := by kernel_rfl

/-- WHAT THE WALK IS TOLD OF A SLICE OF INTEGERS THAT CAME IN: it is nil; or it leads to a row of 'cap' cells, the numbers 'zs' (the first 'len' are its elements, the rest its spare room), each fitting its kind. -/
def IsRow (k : IntKind) (w : World) (a : Option Addr) (len cap : Nat) (zs : List Int) : Prop :=
  (a = none ∧ len = 0 ∧ cap = 0 ∧ zs = []) ∨
  ∃ x, a = some x ∧ len ≤ cap ∧ cap ≤ maxLen ∧ zs.length = cap ∧ (∀ i, i < zs.length → w.cell? (x.add i) = some (.int k (zs.getD i 0))) ∧ ∀ n ∈ zs, (Lit.int k n).wf = true

def nextOk (k : Nat) (f : List Bool) : Bool := !Sp.bears k f || ((List.range 8).all (fun n => if (Sp.fromK k f).contains n then decide ((Sp.fromK k f).filter (· < n + 1) = (Sp.fromK k f).filter (· < n) ++ [n]) else decide ((Sp.fromK k f).filter (· < n + 1) = (Sp.fromK k f).filter (· < n))) && decide (((Sp.fromK k f).filter (· < 8)).length = 4))
theorem next1 : ∀ n : Nat, n < 256 → nextOk 1 (Sp.bits n) = true := by decide +kernel
theorem next2 : ∀ n : Nat, n < 256 → nextOk 2 (Sp.bits n) = true := by decide +kernel
theorem next_ok {k : Nat} (hk : k = 1 ∨ k = 2) {f : List Bool} (hf : f.length = 8) : nextOk k f = true := by
  rcases hk with rfl | rfl
  · exact Sp.by_bits (P := fun f => nextOk 1 f = true) next1 hf
  · exact Sp.by_bits (P := fun f => nextOk 2 f = true) next2 hf
/-- all that the law's walk asks of the first shards. -/
structure Steps (k : Nat) (f : List Bool) : Prop where
  yes : ∀ n, n < 8 → n ∈ Sp.fromK k f → f.getD n false = true ∧ Sp.fromMany k f n < (Sp.fromK k f).length ∧ (Sp.fromK k f).getD (Sp.fromMany k f n) 0 = n ∧ Sp.fromMany k f (n + 1) = Sp.fromMany k f n + 1 ∧ Sp.fromRows k f (n + 1) = Sp.fromRows k f n ++ [Sp.crow k n]
  no : ∀ n, n < 8 → n ∉ Sp.fromK k f → ¬ (Sp.fromMany k f n < (Sp.fromK k f).length ∧ (Sp.fromK k f).getD (Sp.fromMany k f n) 0 = n) ∧ (f.getD n false = true → hasM (Sp.fromRows k f n) (Sp.crow k n) = true) ∧ Sp.fromMany k f (n + 1) = Sp.fromMany k f n ∧ Sp.fromRows k f (n + 1) = Sp.fromRows k f n
  many : Sp.fromMany k f 8 = 4
  rank : rankM (Sp.fromRows k f 8) = 4
theorem steps {k : Nat} (hk : k = 1 ∨ k = 2) {f : List Bool} (hf : f.length = 8) (hb : Sp.bears k f = true) : Steps k f := by
  have h1 := Sp.from_good hk hf
  have h2 := Sp.from_step hk hf
  have h3 := next_ok hk hf
  simp only [Sp.fromGood, hb, Bool.not_true, Bool.false_or, Bool.and_eq_true, List.all_eq_true, List.mem_range, Bool.or_eq_true] at h1
  simp only [Sp.fromStep, List.all_eq_true, List.mem_range, beq_iff_eq] at h2
  simp only [nextOk, hb, Bool.not_true, Bool.false_or, Bool.and_eq_true, List.all_eq_true, List.mem_range, decide_eq_true_eq] at h3
  refine ⟨fun n hn hm => ?_, fun n hn hm => ?_, h3.2, ?_⟩
  · have hc : (Sp.fromK k f).contains n = true := by simpa using hm
    have a := h2 n hn
    rw [hc] at a
    simp only [Sp.fromAt, Bool.and_eq_true, decide_eq_true_eq] at a
    have b := h3.1 n hn
    rw [if_pos hc, decide_eq_true_eq] at b
    refine ⟨(Sp.from_lt hk hm).2, a.1, a.2, ?_, ?_⟩
    · simp only [Sp.fromMany, b, List.length_append]; rfl
    · simp only [Sp.fromRows, b, List.map_append]; rfl
  · have hc : (Sp.fromK k f).contains n = false := by simpa using hm
    have a := h2 n hn
    rw [hc] at a
    have b := h3.1 n hn
    rw [hc] at b
    simp only [Bool.false_eq_true, if_false, decide_eq_true_eq] at b
    refine ⟨fun h => ?_, fun ht => ?_, by simp only [Sp.fromMany, b], by simp only [Sp.fromRows, b]⟩
    · have : Sp.fromAt k f n = true := by unfold Sp.fromAt; rw [decide_eq_true h.1, decide_eq_true h.2]; rfl
      rw [this] at a; cases a
    · rcases h1.1.1 n hn with (h | h) | h
      · rw [hc] at h; cases h
      · rw [ht] at h; cases h
      · simp only [hasM, h.1.1, h.1.2, h.2, Bool.and_self]
  · have e := h1.2
    rw [beq_iff_eq] at e
    rw [rankM_yes h1.1.2, e]; rfl
theorem from_none (k : Nat) (f : List Bool) : (Sp.fromK k f).filter (· < 0) = [] := List.filter_eq_nil_iff.2 (by simp)
theorem fromMany0 (k : Nat) (f : List Bool) : Sp.fromMany k f 0 = 0 := by unfold Sp.fromMany; rw [from_none]; rfl
theorem fromRows0 (k : Nat) (f : List Bool) : Sp.fromRows k f 0 = [] := by unfold Sp.fromRows; rw [from_none]; rfl
theorem fromRows_len (k : Nat) (f : List Bool) (n : Nat) : (Sp.fromRows k f n).length ≤ 8 := by
  unfold Sp.fromRows
  rw [List.length_map]
  have h1 := List.length_filter_le (· < n) (Sp.fromK k f)
  have h2 := Sp.first_len (Sp.padd k f)
  rw [Sp.padd_len] at h2
  exact Nat.le_trans h1 h2
theorem rowM_in {k n : Nat} (hk : k = 1 ∨ k = 2) (hn : n < 8) : rowM k n = Sp.crow k n ∧ rowB k n = true := by
  have h : ((k : Int) = 1 ∨ (k : Int) = 2) ∧ (0 : Int) ≤ n ∧ (n : Int) < 8 := ⟨by omega, by omega, by omega⟩
  exact ⟨by simp [rowM, h], by simp [rowB, h]⟩

set_option maxHeartbeats 4000000 in
set_option maxRecDepth 20000 in
theorem walk (a0 : Option Addr) (len0 cap0 : Nat) (z0 : List Int) (w : World) (w0 : IsRow .u8 w a0 len0 cap0 z0) :
    Calls Try.prog 3 #[.slice a0 len0 cap0] w fun e w' => e = .returned (.bool true) ∧ Below w.heap.size w w' := by
  have hc : Code w a0 len0 cap0 := code_of w0
  have hm : cap0 ≤ maxLen := hc.2.1
  have hl : len0 ≤ cap0 := hc.1
  unfold maxLen at hm
  have C := Lib.hid hc
  clear hc w0
  by_cases hbig0 : (len0 : Int) > 1048576
  · go_enter Try.func3, Try.ntmps3
    go_wp2_with fail
    go_ret
    exact ⟨rfl, Below.refl _ _⟩
  obtain ⟨i0, hi, hz0, hz1, hz2⟩ := info_parts infoInts
  have I1 := Lib.hid hi
  have I2 := Lib.hid hz0
  have I3 := Lib.hid hz1
  have I4 := Lib.hid hz2
  clear hi hz0 hz1 hz2
  go_enter Try.func3, Try.ntmps3
  go_wp2_with fail
  refine (drawReadFrom a0 len0 cap0 _ C.out).mono ?_
  rintro e W1 ⟨m, v, f, hm3, rfl, hf8, hbl, hb⟩
  have L1 := Lib.hid hb
  have B1 := Lib.hid hbl
  clear hb hbl hf8 C
  obtain ⟨av, cv, ev, c1, c2, _⟩ := B1.out
  subst ev
  unfold maxLen at c2
  obtain ⟨n8, hn8⟩ : ∃ n, f.length = n := ⟨_, rfl⟩
  have N8 := Lib.hid hn8
  rw [hn8] at B1 c1
  rw [hn8]
  clear hn8
  have SF := Lib.hid (fun v w h => specReadFrom m v f w h)
  have PF := Lib.hid (fun v w h => implReadFrom m v f w h)
  obtain ⟨R, hR⟩ : ∃ R, fromM m f = R := ⟨_, rfl⟩
  have HR := Lib.hid hR
  rw [hR] at SF PF
  clear hR
  go_wp2_with fail
  refine (PF.out _ _ B1.out).mono ?_
  rintro e W2 ⟨g0, rfl, hg, ho⟩
  have L2 := Lib.hid (L1.out.trans (below_grown hg |>.mono L1.out.size))
  have B2 := Lib.hid (B1.out.grown hg)
  have G2 := Lib.hid ho.sl
  clear hg ho L1 B1
  go_wp2_with fail
  refine (SF.out _ _ B2.out).mono ?_
  rintro e W3 ⟨r0, rfl, hg, ho⟩
  have L3 := Lib.hid (L2.out.trans (below_grown hg |>.mono L2.out.size))
  have B3 := Lib.hid (B2.out.grown hg)
  have G3 := Lib.hid (G2.out.grown hg)
  have R3 := Lib.hid ho.sl
  clear hg ho L2 B2 G2
  go_wp2_with fail
  refine (lkSame g0 r0 R _ G3.out R3.out).mono ?_
  rintro e W4 ⟨rfl, hg⟩
  have L4 := Lib.hid (L3.out.trans (below_grown hg |>.mono L3.out.size))
  have B4 := Lib.hid (B3.out.grown hg)
  have G4 := Lib.hid (G3.out.grown hg)
  clear hg L3 B3 G3 R3
  go_wp2_with fail
  refine (implBears m _ f _ B4.out).mono ?_
  rintro e W5 ⟨rfl, hg⟩
  have L5 := Lib.hid (L4.out.trans (below_grown hg |>.mono L4.out.size))
  have B5 := Lib.hid (B4.out.grown hg)
  have G5 := Lib.hid (G4.out.grown hg)
  clear hg L4 B4 G4
  cases hq : bearsM m f with
  | false =>
    clear hq
    go_wp2_with fail
    refine (SF.out _ _ B5.out).mono ?_
    rintro e W6 ⟨r1, rfl, hg, ho⟩
    have L6 := Lib.hid (L5.out.trans (below_grown hg |>.mono L5.out.size))
    have G6 := Lib.hid (G5.out.grown hg)
    have R6 := Lib.hid ho.sl
    clear hg ho L5 G5
    go_wp2_with fail
    refine (lkSame g0 r1 R _ G6.out R6.out).mono ?_
    rintro e W7 ⟨rfl, hg⟩
    have L7 := Lib.hid (L6.out.trans (below_grown hg |>.mono L6.out.size))
    clear hg
    go_wp2_with fail
    go_ret
    exact ⟨rfl, L7.out⟩
  | true =>
    obtain ⟨kk, hf8, hb8⟩ := bearsM_iff.1 hq
    have hk : m = 1 ∨ m = 2 := by omega
    obtain rfl : n8 = 8 := by rw [← N8.out]; exact hf8
    have hb8' : Sp.bears m f = true := by simpa using hb8
    have ST := Lib.hid (steps hk hf8 hb8')
    have HK := Lib.hid hk
    have F8 := Lib.hid hf8
    have FL := Lib.hid (Sp.from_len hk hb8')
    obtain rfl : R = ints (Sp.fromK m f) := by rw [← HR.out]; exact fromM_yes hq
    have L4 := FL.out
    obtain ⟨ag, cg, eg, g1, g2, _⟩ := G5.out
    subst eg
    unfold maxLen at g2
    rw [ints_len, FL.out] at g1 ⊢
    clear hq kk hf8 hb8 hb8' hk SF PF HR N8 L4
    have M0 := Lib.hid (STab.made W5 W5.heap.size (Nat.le_refl _))
    go_wp2_with fail
    go_loopw [6, 7, 8] (fun o q i wr => ∃ n : Nat, n ≤ 8 ∧ i = .int .i64 n ∧ q = .int .i64 (Sp.fromMany m f n) ∧ W5.grownBy wr none ∧ ∃ vs, STab wr W5.heap.size o vs (Sp.fromRows m f n)) (fun _ _ i _ => 8 - (intOf i).toNat)
    case atStart => exact ⟨0, by omega, rfl, by rw [fromMany0]; rfl, grown_alloc (World.grownBy.refl _ _) _, [], by rw [fromRows0]; exact M0.out⟩
    case round =>
      obtain ⟨n, hn, rfl, rfl, hg, vs, ho⟩ := hrel
      have GR := Lib.hid hg
      have O := Lib.hid ho
      clear hg ho M0
      by_cases hlt : n < 8
      · have hlt' : (n : Int) < 8 := by omega
        have RM := rowM_in HK.out hlt
        have RI := Lib.hid (fun w => implRow m n w)
        rw [RM.1, RM.2] at RI
        have C4 := Lib.hid (Sp.crow_row HK.out hlt).1
        have vl : vs.length ≤ 8 := by rw [O.out.len]; exact fromRows_len m f n
        have hsz : W5.heap.size ≤ wr.heap.size := GR.out.size
        clear RM
        by_cases hin : n ∈ Sp.fromK m f
        · obtain ⟨y1, y2, y3, y4, y5⟩ := ST.out.yes n hlt hin
          have Y4 := Lib.hid y4
          have Y5 := Lib.hid y5.symm
          rw [FL.out] at y2
          generalize Sp.fromMany m f n = q at *
          have q4 : (q : Int) < 4 := by omega
          generalize Sp.crow m n = row at *
          clear y4 y5 hin
          go_wp2_with fail
          refine (RI.out _).mono ?_
          rintro e w3 ⟨u, rfl, hg, ho⟩
          have G3 := Lib.hid hg
          have R3 : Hid (Sl w3 u row ∧ IntRow w3 u) := Lib.hid ⟨ho.sl, ho.intRow⟩
          have TOP : Hid (w3.ownsRow W5.heap.size 26 1 u6 vs.length vs) := Lib.hid (O.out.still hg).top
          obtain ⟨au, cu, eu, _, _, _⟩ := ho.sl
          rw [C4.out] at eu
          clear ho
          subst eu
          have s3 : W5.heap.size ≤ w3.heap.size := Nat.le_trans hsz G3.out.size
          have GA := Lib.hid (grown_trans GR.out G3.out)
          obtain ⟨a', c', e', _, _, hr⟩ := B5.out.grown GA.out
          injection e' with e1 e2 e3
          subst e1 e3
          obtain ⟨b, o, rfl, hth⟩ := hr.at_ (k := n) (by rw [F8.out]; exact hlt)
          rw [y1] at hth
          obtain ⟨a2, c2', e', _, _, hr2⟩ := G5.out.grown GA.out
          injection e' with e1 e2' e3
          subst e1 e3
          obtain ⟨b2, o2, rfl, hl2⟩ := hr2.at_ (k := q) (by rw [ints_len, FL.out]; exact y2)
          rw [ints_get _ (by rw [FL.out]; exact y2), y3] at hl2
          have nn : ((n : Int) == (n : Int)) = true := by simp
          clear hg hr hr2 e2 e2' y1 y2 y3
          go_wp2_with (first
            | (at_builtin; refine wpList_append_own _ rfl _ _ 30 rfl W5.heap.size 26 i0 (.slice none 0 0) 1 24 Try.underlying30 I1.out I2.out I3.out I4.out rfl (by decide) _ _ _ rfl (World.ownsRow.alloc TOP.out _) ⟨w3.heap.size, 0, none⟩ 1 1 [.slice au 4 cu] rfl rfl (one_cell (g := 0)) (by simp [Value.oneCell']) ?c3 ?c4 ?c5 ?_))
          case c3 => unfold maxLen; omega
          case c4 => omega
          case c5 => simp; omega
          intro o' w5 ho2 hg2 _
          have N : Hid (STab w5 W5.heap.size o' (vs ++ [.slice au 4 cu]) (Sp.fromRows m f (n + 1))) := Lib.hid (O.out.snoc G3.out R3.out (grown_trans (World.grownBy_alloc _ _ _) hg2) ho2 rfl Y5.out)
          have G6 : Hid (W5.grownBy w5 none) := Lib.hid (grown_own (grown_alloc GA.out _) hg2 (fun j hj => (World.ownsRow.lt TOP.out j hj).1))
          clear ho2 hg2 TOP R3 G3 GA hth hl2
          go_wp2_with fail
          go_roundw
          case rel => exact ⟨n + 1, by omega, by go_num, by rw [Y4.out]; go_num, G6.out, _, N.out⟩
          case measure => simp [intOf]; omega
        · obtain ⟨y1, y2, y3, y4⟩ := ST.out.no n hlt hin
          have Y3 := Lib.hid y3
          have Y4 := Lib.hid y4
          have Y2 := Lib.hid y2
          rw [FL.out] at y1
          have qle : Sp.fromMany m f n ≤ 4 := by
            have := List.length_filter_le (· < n) (Sp.fromK m f)
            rw [FL.out] at this
            exact this
          generalize hqe : Sp.fromMany m f n = q at *
          generalize Sp.crow m n = row at *
          generalize Sp.fromRows m f n = RW at *
          clear y2 y3 y4 hin hqe
          go_wp2_with fail
          refine (RI.out _).mono ?_
          rintro e w3 ⟨u, rfl, hg, ho⟩
          have R3 := Lib.hid ho.sl
          have O3 := Lib.hid (O.out.still hg)
          have GA := Lib.hid (grown_trans GR.out hg)
          obtain ⟨au, cu, eu, _, _, _⟩ := ho.sl
          rw [C4.out] at eu
          clear ho
          subst eu
          obtain ⟨a', c', e', _, _, hr⟩ := B5.out.grown GA.out
          injection e' with e1 e2 e3
          subst e1 e3
          obtain ⟨b, o, rfl, hth⟩ := hr.at_ (k := n) (by rw [F8.out]; exact hlt)
          obtain ⟨q', hq'⟩ : ∃ z, f.getD n false = z := ⟨_, rfl⟩
          rw [hq'] at hth Y2
          clear hg hr e2 hq' O GR RI
          by_cases hq4 : q < 4
          · have q4 : (q : Int) < 4 := by omega
            obtain ⟨a2, c2', e', _, _, hr2⟩ := G5.out.grown GA.out
            injection e' with e1 e2' e3
            subst e1 e3
            obtain ⟨b2, o2, rfl, hl2⟩ := hr2.at_ (k := q) (by rw [ints_len, FL.out]; exact hq4)
            rw [ints_get _ (by rw [FL.out]; exact hq4)] at hl2
            have nn : ((((Sp.fromK m f).getD q 0 : Nat) : Int) == (n : Int)) = false := by
              rw [beq_eq_false_iff_ne]
              intro e
              exact y1 ⟨hq4, by omega⟩
            generalize (((Sp.fromK m f).getD q 0 : Nat) : Int) = fq at *
            clear hr2 e2' y1
            cases q' with
            | false =>
              go_wp2_with fail
              clear hl2 hth
              go_roundw
              case rel => exact ⟨n + 1, by omega, by go_num, by rw [Y3.out], GA.out, vs, by rw [Y4.out]; exact O3.out⟩
              case measure => simp [intOf]; omega
            | true =>
              have HM := Y2.out rfl
              go_wp2_with fail
              refine (implSpanHas _ _ vs _ _ _ O3.out.tab R3.out).mono ?_
              rintro e w4 ⟨rfl, hg⟩
              rw [HM]
              have G7 := Lib.hid (grown_trans GA.out hg)
              have O7 := Lib.hid (O3.out.still hg)
              clear hg O3 GA R3 hl2 hth HM
              go_wp2_with fail
              go_roundw
              case rel => exact ⟨n + 1, by omega, by go_num, by rw [Y3.out], G7.out, vs, by rw [Y4.out]; exact O7.out⟩
              case measure => simp [intOf]; omega
          · obtain rfl : q = 4 := by omega
            clear y1
            cases q' with
            | false =>
              go_wp2_with fail
              clear hth
              go_roundw
              case rel => exact ⟨n + 1, by omega, by go_num, by rw [Y3.out]; first | rfl | simp, GA.out, vs, by rw [Y4.out]; exact O3.out⟩
              case measure => simp [intOf]; omega
            | true =>
              have HM := Y2.out rfl
              go_wp2_with fail
              refine (implSpanHas _ _ vs _ _ _ O3.out.tab R3.out).mono ?_
              rintro e w4 ⟨rfl, hg⟩
              rw [HM]
              have G7 := Lib.hid (grown_trans GA.out hg)
              have O7 := Lib.hid (O3.out.still hg)
              clear hg O3 GA R3 hth HM
              go_wp2_with fail
              go_roundw
              case rel => exact ⟨n + 1, by omega, by go_num, by rw [Y3.out]; first | rfl | simp, G7.out, vs, by rw [Y4.out]; exact O7.out⟩
              case measure => simp [intOf]; omega
      · obtain rfl : n = 8 := by omega
        rw [ST.out.many]
        have RK := ST.out.rank
        have e4 : ((((4 : Nat) : Int)) == 4) = true := rfl
        have r4 : ((rankM (Sp.fromRows m f 8)) == 4) = true := by rw [RK]; rfl
        go_wp2_with fail
        refine (implSpanRank _ vs _ _ O.out.tab).mono ?_
        rintro e w3 ⟨rfl, hg⟩
        have L7 := Lib.hid (L5.out.trans ((below_grown (grown_trans GR.out hg)).mono L5.out.size))
        clear hg
        generalize rankM (Sp.fromRows m f 8) = rk at *
        go_wp2_with fail
        go_ret
        exact ⟨rfl, L7.out⟩

set_option maxRecDepth 100000 in
theorem lifted (os : Os) (started : os.Started) (H : Type) (enc : TypeId × Value → H) :
    ReturnsInHanded {} Try.checked os 3 .any (Rows.fnReadFromSpec.pre6 enc Try.prog Try.f3 Rows.fnReadFromRow.domain false) (Rows.fnReadFromSpec.post enc Try.prog Try.f3 false true false false) := by
  refine returnsInHanded_of_change (C := Try.checked) own started (by kernel_rfl) Try.func3
    (ChangeSpec.witness6 (enc := enc) (C := Try.checked) false ⟨#[], #[.slice none 0 0], []⟩ 8 (by kernel_rfl) (by kernel_rfl) (by kernel_rfl) (by kernel_rfl)) ?_
  intro W base args ds gs before hval0 hW hcnd _
  have hval : ∀ (j : Nat) t v, Try.f3.params[j]? = some t → args[j]? = some v → Value.okWide Try.prog W .any base t v := hval0
  have hW' := hW
  obtain ⟨p, q, hA0, hV, rfl, hfz, hnd⟩ := hW
  have hA : DataW.TrodAll enc Try.prog W 0 (fun _ => true) true Try.f3.params.toList args.toList ds p := hA0
  rw [Try.params3] at hA hval
  obtain ⟨v0, vs0, d0, ds0, p0, q0, hargs, rfl, rfl, h0, r0⟩ := trodAll_cons hA
  obtain ⟨rfl, rfl, rfl⟩ := trodAll_nil r0
  obtain rfl : args = #[v0] := by cases args; simp_all
  obtain ⟨rfl, rfl⟩ := trodVars_none hV
  obtain ⟨a0, len0, cap0, rfl⟩ := okWide_slice Try.underlying22 (hval 0 22 v0 rfl rfl)
  have k0 := h0
  have lt0 : ∀ x ∈ p0, x.block < W.heap.size := by obtain ⟨m, hm⟩ := k0; exact DataW.trod_lt m _ _ _ hm
  obtain ⟨z0, w0⟩ : ∃ zs, IsRow .u8 W a0 len0 cap0 zs := by
    obtain ⟨fuel, hf⟩ := h0
    rcases open_ints Try.underlying22 Try.underlying5 (by kernel_rfl) hf with ⟨hcs, _⟩ | ⟨x, l, c, zs, hcs, _, hl, hm, hz, _, hcell, hwz⟩
    · simp [Value.cells] at hcs
      obtain ⟨rfl, rfl, rfl⟩ := hcs
      exact ⟨[], .inl ⟨rfl, rfl, rfl, rfl⟩⟩
    · simp [Value.cells] at hcs
      obtain ⟨rfl, rfl, rfl⟩ := hcs
      exact ⟨zs, .inr ⟨_, rfl, hl, hm, by simpa using hz, hcell, hwz⟩⟩
  clear hA0 hval0
  refine (walk a0 len0 cap0 z0 W w0).mono fun e W' ⟨he, bel⟩ => ?_
  subst he
  exact ⟨_, rfl, _, _, _, [], _, [], hW', trodAll_mk1 (shut_bool Try.underlying4 _), (trodAll_cons_mk (Below.trod laidOut (by kernel_rfl) (of_decide_eq_true (by kernel_rfl)) k0 bel lt0) trodAll_mk0), rfl, bel.frame _, fun h => by cases h⟩

theorem over : Rows.fnReadFromRow.holds Try.pinned (OpenSpec.ofChange Rows.fnReadFromSpec) :=
  OpenClaim.holds_of_wide 3 Try.f3 rfl rfl rfl rfl rfl rfl rfl ⟨rfl, rfl, rfl, rfl, rfl⟩ rfl rfl rfl rfl rfl (by kernel_rfl) Try.func3 (by kernel_rfl)
    (of_decide_eq_true (by kernel_rfl)) (by unfold Func.isWrapper; first | (rw [if_pos (by decide +kernel)]; kernel_rfl) | (rw [if_neg (by decide +kernel)]; exact ⟨rfl, rfl⟩))
    (fun os started H enc _ => lifted os started H enc)

theorem proved : Rows.FnReadFromSaid := over
#print axioms proved
end Go.Proofs.Ytdmbbipcdkikiaa.fnReadFrom
