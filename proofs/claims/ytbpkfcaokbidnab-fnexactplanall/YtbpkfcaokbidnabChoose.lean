/-
  The program's iterator over sets of shards: its contract, for every body of a loop that keeps what the iterator itself has laid.
  Conditions: none.
-/
import Derived.Test.YtbpkfcaokbidnabRound
import Derived.Test.YtbpkfcaokbidnabPlanWork
import Derived.Test.YtbpkfcaokbidnabG4
namespace Go.Proofs.Ytbpkfcaokbidnab
open Go.RowKit Go.Shelf
set_option linter.unusedVariables false
attribute [local go_sem] Oper.semAt_some

/-- eight flags. -/
abbrev Fl8 := { x : List Bool // x.length = 8 }
def Fl8.put (c : Fl8) (i : Nat) : Fl8 := ⟨c.1.set i true, by rw [List.length_set]; exact c.2⟩
def subsX (f : List Bool) : Nat → Fl8 → Nat → List Fl8
  | 0, c, _ => [c]
  | n + 1, c, at_ => (List.range 8).flatMap fun i => if at_ ≤ i ∧ f.getD i false = true then subsX f n (c.put i) (i + 1) else []
def partX (f : List Bool) (n : Nat) (c : Fl8) (at_ j : Nat) : List Fl8 := (List.range j).flatMap fun i => if at_ ≤ i ∧ f.getD i false = true then subsX f n (c.put i) (i + 1) else []
theorem subsX_val (f : List Bool) : ∀ (n : Nat) (c : Fl8) (at_ : Nat), (subsX f n c at_).map Subtype.val = Sp.subs f n c.1 at_ := by
  intro n
  induction n with
  | zero => intro c at_; rfl
  | succ n ih =>
    intro c at_
    unfold subsX Sp.subs
    rw [List.map_flatMap]
    refine Sp.flatMap_congr fun i hi => ?_
    rw [apply_ite (List.map Subtype.val), ih]
    rfl
theorem partX_succ (f : List Bool) (n : Nat) (c : Fl8) (at_ j : Nat) : partX f n c at_ (j + 1) = partX f n c at_ j ++ (if at_ ≤ j ∧ f.getD j false = true then subsX f n (c.put j) (j + 1) else []) := by
  unfold partX
  rw [List.range_succ, List.flatMap_append]
  simp
theorem partX_start (f : List Bool) (n : Nat) (c : Fl8) (at_ : Nat) : ∀ j, j ≤ at_ → partX f n c at_ j = [] := by
  intro j
  induction j with
  | zero => intro _; rfl
  | succ j ih =>
    intro h
    rw [partX_succ, ih (by omega), if_neg (by omega)]
    rfl
theorem partX_no {f : List Bool} {n : Nat} {c : Fl8} {at_ j : Nat} (h : f.getD j false = false) : partX f n c at_ (j + 1) = partX f n c at_ j := by
  rw [partX_succ, h]; simp
theorem partX_yes {f : List Bool} {n : Nat} {c : Fl8} {at_ j : Nat} (h : f.getD j false = true) (hj : at_ ≤ j) : partX f n c at_ (j + 1) = partX f n c at_ j ++ subsX f n (c.put j) (j + 1) := by
  rw [partX_succ, if_pos ⟨hj, h⟩]
theorem partX_all (f : List Bool) (n : Nat) (c : Fl8) (at_ : Nat) : partX f n c at_ 8 = subsX f (n + 1) c at_ := by
  conv => rhs; unfold subsX
  rfl
theorem partX_pre (f : List Bool) (n : Nat) (c : Fl8) (at_ : Nat) : ∀ d j, j + d = 8 → partX f n c at_ j <+: partX f n c at_ 8 := by
  intro d
  induction d with
  | zero => intro j h; obtain rfl : j = 8 := by omega
            exact List.prefix_refl _
  | succ d ih =>
    intro j h
    refine List.IsPrefix.trans ?_ (ih (j + 1) (by omega))
    rw [partX_succ]
    exact List.prefix_append _ _

/-- what the iterator has laid is kept. -/
structure KeepAt (n₀ : Nat) (W W' : World) : Prop where
  size : W.heap.size ≤ W'.heap.size
  block : ∀ b o, n₀ ≤ b → W.heap[b]? = some o → Obj.isCells o = true → W'.heap[b]? = some o
theorem KeepAt.refl (n₀ : Nat) (W : World) : KeepAt n₀ W W := ⟨Nat.le_refl _, fun _ _ _ h _ => h⟩
theorem KeepAt.trans {n₀ : Nat} {A B C : World} (h : KeepAt n₀ A B) (k : KeepAt n₀ B C) : KeepAt n₀ A C := ⟨Nat.le_trans h.size k.size, fun b o hb ho hc => k.block b o hb (h.block b o hb ho hc) hc⟩
theorem KeepAt.grown {n₀ : Nat} {A B : World} (h : A.grownBy B none) : KeepAt n₀ A B := ⟨h.size, fun b o _ ho _ => (h.block b (Array.getElem?_eq_some_iff.1 ho).1 (by simp)).trans ho⟩
theorem KeepAt.put {n₀ : Nat} {W : World} {l : Nat} {o : Obj} (o' : Obj) (h : W.heap[l]? = some o) (hc : Obj.isCells o = false) : KeepAt n₀ W (W.putObj l o') := by
  refine ⟨by simp [World.putObj], fun b p _ hp hpc => ?_⟩
  have hne : b ≠ l := fun e => by subst e; rw [h] at hp; cases hp; rw [hc] at hpc; cases hpc
  rw [World.putObj_heap_other hne]; exact hp
theorem BArr.keep {n₀ g : Nat} {W W' : World} {t : TypeId} {l : List Bool} (h : BArr W g t l) (hk : KeepAt n₀ W W') (hg : n₀ ≤ g) : BArr W' g t l := hk.block g _ hg h rfl

/-- how the iterator ends. -/
def Chosen (J Jx : List Fl8 → World → Prop) (n₀ : Nat) (pre xs : List Fl8) (W : World) (e : Ending) (W' : World) : Prop :=
  (e = .returned (.bool true) ∧ J (pre ++ xs) W' ∧ KeepAt n₀ W W') ∨ (e = .returned (.bool false) ∧ ∃ q, q <+: xs ∧ Jx (pre ++ q) W')

set_option maxRecDepth 100000 in
set_option maxHeartbeats 2000000 in
theorem chooseZero (f c : Fl8) (first m l : Nat) (W : World) (R : Bool → World → Prop)
    (h : YieldAt Fence.wide (m - 1) Try.prog l #[.agg (bvals c.1).toArray] ((W.alloc (.cells (bvals f.1).toArray 80)).alloc (.cells (bvals c.1).toArray 80)) fun e W' => ∃ b, e = .returned (.bool b) ∧ R b W') :
    CallsIn Fence.wide m Try.prog 126 #[.agg (bvals f.1).toArray, .agg (bvals c.1).toArray, .int .i64 first, .int .i64 0, .func (.yield l) #[] #[]] W fun e W' => ∃ b, e = .returned (.bool b) ∧ R b W' := by
  obtain ⟨f, hf⟩ := f
  obtain ⟨c, hc⟩ := c
  obtain ⟨f0, f1, f2, f3, f4, f5, f6, f7, rfl⟩ := list_eight hf
  obtain ⟨c0, c1, c2, c3, c4, c5, c6, c7, rfl⟩ := list_eight hc
  obtain ⟨fn, tmps, assign, body, hy, hR⟩ := h
  simp only [bvals, List.map_cons, List.map_nil] at *
  clear hf hc
  refine callsIn_of_wp Try.func126 rfl trivial ?_ rfl
  simp only [Try.ntmps126, List.size_toArray, List.length_cons, List.length_nil, Nat.reduceAdd, Nat.reduceSub, Array.replicate_succ, Array.replicate_zero, List.push_toArray, List.append_toArray, List.nil_append, List.cons_append]
  gi_wp2
  refine ⟨fun h => (by cases h), hR.mono ?_⟩
  rintro e W' ⟨b, rfl, hr⟩
  gi_wp2
  go_ret
  exact ⟨b, rfl, hr⟩

set_option maxHeartbeats 4000000 in
set_option maxRecDepth 20000 in
theorem chooseSome {l n₀ N : Nat} {J Jx : List Fl8 → World → Prop} (hJ : ∀ s A B, J s A → A.grownBy B none → J s B) (f : Fl8) (n : Nat) (hn : n ≤ 8)
    (ih : ∀ (c : Fl8) (first : Nat) (pre : List Fl8) (W : World), first ≤ 8 → n₀ ≤ W.heap.size → J pre W → pre.length + (subsX f.1 n c first).length ≤ N →
      Calls Try.prog 126 #[.agg (bvals f.1).toArray, .agg (bvals c.1).toArray, .int .i64 first, .int .i64 n, .func (.yield l) #[] #[]] W (Chosen J Jx n₀ pre (subsX f.1 n c first) W))
    (c : Fl8) (first : Nat) (pre : List Fl8) (W : World) (h8 : first ≤ 8) (h0 : n₀ ≤ W.heap.size) (hj : J pre W) (hN : pre.length + (subsX f.1 (n + 1) c first).length ≤ N) :
    Calls Try.prog 126 #[.agg (bvals f.1).toArray, .agg (bvals c.1).toArray, .int .i64 first, .int .i64 (n + 1), .func (.yield l) #[] #[]] W (Chosen J Jx n₀ pre (subsX f.1 (n + 1) c first) W) := by
  have zf : (bvals f.1).toArray.size = 8 := by simp [bvals_length, f.2]
  have zc : (bvals c.1).toArray.size = 8 := by simp [bvals_length, c.2]
  have hif : (Try.prog.info? 80).map (·.size) = some (bvals f.1).toArray.size := by rw [zf]; kernel_rfl
  have hic : (Try.prog.info? 80).map (·.size) = some (bvals c.1).toArray.size := by rw [zc]; kernel_rfl
  have him : ∀ j, (Try.prog.info? 80).map (·.size) = some (bvals (c.put j).1).toArray.size := fun j => by rw [show (bvals (c.put j).1).toArray.size = 8 by simp [bvals_length, (c.put j).2]]; kernel_rfl
  have IM := Lib.hid him
  have IH := Lib.hid ih
  have HJ := Lib.hid hJ
  have F0 : Hid (BArr ((W.alloc (.cells (bvals f.1).toArray 80)).alloc (.cells (bvals c.1).toArray 80)) W.heap.size 80 f.1) := Lib.hid ((BArr.new W _ _).alloc _)
  have C0 : Hid (BArr ((W.alloc (.cells (bvals f.1).toArray 80)).alloc (.cells (bvals c.1).toArray 80)) (W.heap.size + 1) 80 c.1) := Lib.hid (by
    have := BArr.new (W.alloc (.cells (bvals f.1).toArray 80)) 80 c.1
    rw [World.size_alloc] at this
    exact this)
  have G0 : Hid (W.grownBy ((W.alloc (.cells (bvals f.1).toArray 80)).alloc (.cells (bvals c.1).toArray 80)) none) := Lib.hid (grown_alloc (grown_alloc (World.grownBy.refl _ _) _) _)
  have J0 : Hid (J pre ((W.alloc (.cells (bvals f.1).toArray 80)).alloc (.cells (bvals c.1).toArray 80))) := Lib.hid (hJ _ _ _ hj G0.out)
  have S0 : n₀ ≤ ((W.alloc (.cells (bvals f.1).toArray 80)).alloc (.cells (bvals c.1).toArray 80)).heap.size := by simp; omega
  have nz : ((n : Int) + 1 == 0) = false := by rw [beq_eq_false_iff_ne]; omega
  have NN := Lib.hid hN
  clear him ih hJ hj zf zc hN
  go_enter Try.func126, Try.ntmps126
  go_upto_region 3 with fail
  generalize (W.alloc (.cells (bvals f.1).toArray 80)).alloc (.cells (bvals c.1).toArray 80) = W0 at *
  obtain ⟨a, ha⟩ : ∃ a, a = W.heap.size := ⟨_, rfl⟩
  obtain ⟨b, hb⟩ : ∃ b, b = W.heap.size + 1 := ⟨_, rfl⟩
  rw [← hb] at C0 ⊢
  rw [← ha] at F0 ⊢
  have AB : n₀ ≤ a ∧ n₀ ≤ b := by omega
  clear ha hb
  go_wp2_with fail
  go_loopw [11] (fun i wr => ∃ j : Nat, first ≤ j ∧ j ≤ 8 ∧ i = .int .i64 j ∧ n₀ ≤ wr.heap.size ∧ KeepAt n₀ W wr ∧ BArr wr a 80 f.1 ∧ BArr wr b 80 c.1 ∧ J (pre ++ partX f.1 n c first j) wr) (fun i _ => 8 - (intOf i).toNat)
  case atStart => exact ⟨first, Nat.le_refl _, h8, rfl, S0, KeepAt.grown G0.out, F0.out, C0.out, by rw [partX_start _ _ _ _ _ (Nat.le_refl _), List.append_nil]; exact J0.out⟩
  case round =>
    obtain ⟨j, hfj, hj8, rfl, hsz, hka, hfa, hca, hjj⟩ := hrel
    have K := Lib.hid hka
    have F := Lib.hid hfa
    have C := Lib.hid hca
    have JJ := Lib.hid hjj
    clear hka hfa hca hjj F0 C0 G0 J0 S0
    by_cases hlt : j < 8
    · have hlt' : (j : Int) < 8 := by omega
      have fl : wr.cell? ⟨a, j, none⟩ = some (.bool (f.1.getD j false)) := F.out.cell (by rw [f.2]; exact hlt)
      cases hfn : f.1.getD j false with
      | false =>
        rw [hfn] at fl
        have PX := Lib.hid (partX_no (n := n) (c := c) (at_ := first) hfn)
        clear hfn
        go_wp2_with fail
        go_roundw
        case rel => exact ⟨j + 1, by omega, by omega, by go_num, hsz, K.out, F.out, C.out, by rw [PX.out]; exact JJ.out⟩
        case measure => simp [intOf]; omega
      | true =>
        rw [hfn] at fl
        have PX := Lib.hid (partX_yes (n := n) (c := c) (at_ := first) hfn hfj)
        clear hfn
        go_upto_region 7 with fail
        apply wp_region_lit
        refine wpList_load_row rfl _ _ rfl b rfl _ _ _ _ C.out Try.underlying80 rfl hic ?_
        have hs := storeF wr c.2
        have hvl : (bvals c.1).length = 8 := by rw [bvals_length]; exact c.2
        have fz := (BArr.new wr 80 c.1).frozen j
        have ce := (BArr.new wr 80 c.1).cell (i := j) (by rw [c.2]; exact hlt)
        have M1 := Lib.hid (BArr.new wr 80 (c.put j).1)
        have F1 := Lib.hid (F.out.alloc (.cells (bvals (c.put j).1).toArray 80))
        have C1 := Lib.hid (C.out.alloc (.cells (bvals (c.put j).1).toArray 80))
        have G1 := Lib.hid (grown_alloc (World.grownBy.refl wr none) (.cells (bvals (c.put j).1).toArray 80))
        have SZ1 : n₀ ≤ (wr.alloc (.cells (bvals (c.put j).1).toArray 80)).heap.size := by simp; omega
        have LN : Hid ((pre ++ partX f.1 n c first j).length + (subsX f.1 n (c.put j) (j + 1)).length ≤ N) := Lib.hid (by
          have h1 := (partX_pre f.1 n c first (8 - (j + 1)) (j + 1) (by omega)).length_le
          rw [partX_all, PX.out, List.length_append] at h1
          have := NN.out
          rw [List.length_append]; omega)
        go_upto_region 9 with fail
        clear hs hvl fz ce fl
        rw [bvals_set]
        change Code.wp _ _ _ _ (wr.alloc (.cells (bvals (c.put j).1).toArray 80))
        generalize wr.alloc (.cells (bvals (c.put j).1).toArray 80) = w2 at *
        generalize wr.heap.size = g at *
        apply wp_region_lit
        refine wpList_load_row rfl _ _ rfl a rfl _ _ _ _ F1.out Try.underlying80 rfl hif ?_
        refine wpList_load_row rfl _ _ rfl g rfl _ _ _ _ M1.out Try.underlying80 rfl (IM.out j) ?_
        have ih1 := IH.out (c.put j) (j + 1) (pre ++ partX f.1 n c first j) w2 (by omega) SZ1 (HJ.out _ _ _ JJ.out G1.out) LN.out
        rw [show ((j + 1 : Nat) : Int) = (j : Int) + 1 by omega] at ih1
        have I1 := Lib.hid ih1
        clear ih1 M1 LN IM IH
        go_wp2_with fail
        refine I1.out.mono ?_
        rintro e w3 (⟨rfl, hj3, hk3⟩ | ⟨rfl, q, hq, hx⟩)
        · have K3 := Lib.hid ((K.out.trans (KeepAt.grown G1.out)).trans hk3)
          have F3 := Lib.hid (F1.out.keep hk3 AB.1)
          have C3 := Lib.hid (C1.out.keep hk3 AB.2)
          have SZ3 := Nat.le_trans SZ1 hk3.size
          have J3 : Hid (J (pre ++ partX f.1 n c first (j + 1)) w3) := Lib.hid (by rw [PX.out, ← List.append_assoc]; exact hj3)
          clear hj3 hk3 K F C JJ F1 C1 G1 I1 PX
          go_wp2_with fail
          go_roundw
          case rel => exact ⟨j + 1, by omega, by omega, by go_num, SZ3, K3.out, F3.out, C3.out, J3.out⟩
          case measure => simp [intOf]; omega
        · have X3 : Hid (∃ q, q <+: subsX f.1 (n + 1) c first ∧ Jx (pre ++ q) w3) := Lib.hid ⟨partX f.1 n c first j ++ q, by
            have h1 := partX_pre f.1 n c first (8 - (j + 1)) (j + 1) (by omega)
            rw [partX_all, PX.out] at h1
            obtain ⟨r, hr⟩ := hq
            refine List.IsPrefix.trans ⟨r, ?_⟩ h1
            rw [List.append_assoc, hr], by rw [← List.append_assoc]; exact hx⟩
          clear hx hq
          go_wp2_with fail
          go_ret
          exact .inr ⟨rfl, X3.out⟩
    · obtain rfl : j = 8 := by omega
      go_wp2_with fail
      go_ret
      exact .inl ⟨rfl, by rw [← partX_all]; exact JJ.out, K.out⟩

end Go.Proofs.Ytbpkfcaokbidnab
