/-
  The program's iterator over sets of shards, whole: what 'range' over it may rely on.
  Conditions: none.
-/
import Derived.Test.YtbpkfcaokbidnabChoose
namespace Go.Proofs.Ytbpkfcaokbidnab
open Go.RowKit Go.Shelf
set_option linter.unusedVariables false
attribute [local go_sem] Oper.semAt_some

theorem wide_room (k : Nat) : Fence.wide.room k := fun d h => by cases h
theorem yield_any {m : Nat} (m' : Nat) {P : Program} {l : Nat} {args : Array Value} {W : World} {R : Ending → World → Prop} (h : YieldAt Fence.wide m P l args W R) : YieldAt Fence.wide m' P l args W R := by
  obtain ⟨fn, tmps, assign, body, hy, hR⟩ := h
  exact ⟨fn, tmps, assign, body, hy, hR.1, fun c cs _ => hR.2 c cs (wide_room _)⟩

theorem chooseIs {l n₀ N : Nat} {J Jx : List Fl8 → World → Prop} (hJ : ∀ s A B, J s A → A.grownBy B none → J s B) (f : Fl8)
    (hY : ∀ m pre x W, J pre W → pre.length < N → YieldAt Fence.wide m Try.prog l #[.agg (bvals x.1).toArray] W fun e W' => (e = .returned (.bool true) ∧ J (pre ++ [x]) W' ∧ KeepAt n₀ W W') ∨ (e = .returned (.bool false) ∧ Jx (pre ++ [x]) W')) :
    ∀ (n : Nat), n ≤ 8 → ∀ (c : Fl8) (first : Nat) (pre : List Fl8) (W : World), first ≤ 8 → n₀ ≤ W.heap.size → J pre W → pre.length + (subsX f.1 n c first).length ≤ N →
      Calls Try.prog 126 #[.agg (bvals f.1).toArray, .agg (bvals c.1).toArray, .int .i64 first, .int .i64 n, .func (.yield l) #[] #[]] W (Chosen J Jx n₀ pre (subsX f.1 n c first) W) := by
  intro n
  induction n with
  | zero =>
    intro _ c first pre W h8 h0 hj hN
    have hx : subsX f.1 0 c first = [c] := by unfold subsX; rfl
    rw [hx] at hN ⊢
    have hg : W.grownBy ((W.alloc (.cells (bvals f.1).toArray 80)).alloc (.cells (bvals c.1).toArray 80)) none := grown_alloc (grown_alloc (World.grownBy.refl _ _) _) _
    have hz := chooseZero f c first 1 l W (fun b W' => (b = true ∧ J (pre ++ [c]) W' ∧ KeepAt n₀ W W') ∨ (b = false ∧ Jx (pre ++ [c]) W')) (YieldAt.mono (hY _ pre c _ (hJ _ _ _ hj hg) (by simp at hN; omega)) fun e W' h => by
      rcases h with ⟨rfl, h1, h2⟩ | ⟨rfl, h1⟩
      · exact ⟨true, rfl, .inl ⟨rfl, h1, (KeepAt.grown hg).trans h2⟩⟩
      · exact ⟨false, rfl, .inr ⟨rfl, h1⟩⟩)
    refine (callsIn_wide.1 hz).mono fun e W' ⟨b, he, h⟩ => ?_
    rcases h with ⟨rfl, h1, h2⟩ | ⟨rfl, h1⟩
    · exact .inl ⟨he, h1, h2⟩
    · exact .inr ⟨he, [c], List.prefix_refl _, h1⟩
  | succ n ih =>
    intro hn c first pre W h8 h0 hj hN
    have := chooseSome hJ f n (by omega) (ih (by omega)) c first pre W h8 h0 hj hN
    rw [show ((n + 1 : Nat) : Int) = (n : Int) + 1 by omega]
    exact this

def none8 : Fl8 := ⟨[false, false, false, false, false, false, false, false], rfl⟩
theorem none8_flag : none8.1 = Sp.flag [] := by decide

set_option maxHeartbeats 4000000 in
set_option maxRecDepth 20000 in
theorem subsetsRun {l n₀ N : Nat} {J Jx : List Fl8 → World → Prop} (hJ : ∀ s A B, J s A → A.grownBy B none → J s B) (f : Fl8) (n : Nat) (hn : n ≤ 8)
    (hY : ∀ m pre x W, J pre W → pre.length < N → YieldAt Fence.wide m Try.prog l #[.agg (bvals x.1).toArray] W fun e W' => (e = .returned (.bool true) ∧ J (pre ++ [x]) W' ∧ KeepAt n₀ W W') ∨ (e = .returned (.bool false) ∧ Jx (pre ++ [x]) W'))
    (bf bc : Nat) (W : World) (hf : BArr W bf 80 f.1) (hc : W.cell? ⟨bc, 0, none⟩ = some (.int .i64 n)) (h0 : n₀ ≤ W.heap.size) (hj : J [] W) (hN : (subsX f.1 n none8 0).length ≤ N) :
    Calls Try.prog 125 #[.func (.yield l) #[] #[], .pointer (some ⟨bf, 0, none⟩), .pointer (some ⟨bc, 0, none⟩)] W fun e W' => (∃ v, e = .returned v) ∧ ((∃ xs, xs = subsX f.1 n none8 0 ∧ J xs W') ∨ (∃ pre, pre <+: subsX f.1 n none8 0 ∧ Jx pre W')) := by
  have z : (bvals f.1).toArray.size = 8 := by simp [bvals_length, f.2]
  have hi : (Try.prog.info? 80).map (·.size) = some (bvals f.1).toArray.size := by rw [z]; kernel_rfl
  have I := Lib.hid (chooseIs hJ f hY n hn none8 0 [] W (by omega) h0 hj (by simpa using hN))
  clear hJ hY hj hN
  go_enter Try.func125, Try.ntmps125
  apply wp_region_lit
  refine wpList_load_row rfl _ _ rfl bf rfl _ _ _ _ hf Try.underlying80 rfl hi ?_
  clear hf hi z
  go_wp2_with fail
  refine I.out.mono ?_
  rintro e W' (⟨rfl, hj, _⟩ | ⟨rfl, q, hq, hx⟩)
  · have X := Lib.hid hj
    clear hj
    go_wp2_with fail
    go_end0
    exact ⟨⟨_, rfl⟩, .inl ⟨_, rfl, by simpa using X.out⟩⟩
  · have X := Lib.hid hx
    clear hx
    go_wp2_with fail
    go_end0
    exact ⟨⟨_, rfl⟩, .inr ⟨q, hq, by simpa using X.out⟩⟩

set_option maxHeartbeats 4000000 in
set_option maxRecDepth 20000 in
theorem subsetsMake (f : List Bool) (n : Int) (w : World) : Calls Try.prog 100 #[.agg (bvals f).toArray, .int .i64 n] w fun e w' => e = .returned (.func (.func 125) #[] #[.pointer (some ⟨w.heap.size, 0, none⟩), .pointer (some ⟨w.heap.size + 1, 0, none⟩)]) ∧ w' = (w.alloc (.cells (bvals f).toArray 80)).alloc (.cells #[.int .i64 n] 3) := by
  go_enter Try.func100, Try.ntmps100
  go_wp2_with fail
  go_ret
  exact ⟨rfl, rfl⟩

theorem subsets_stops (f : Fl8) (n : Nat) (hn : n ≤ 8) (m n₀ bf bc : Nat) (w : World) (hf : BArr w bf 80 f.1) (hc : w.cell? ⟨bc, 0, none⟩ = some (.int .i64 n)) (h0 : n₀ ≤ w.heap.size) :
    SeqStopsK Fence.wide m Try.prog 125 #[.pointer (some ⟨bf, 0, none⟩), .pointer (some ⟨bc, 0, none⟩)] (fun x : Fl8 => #[Value.agg (bvals x.1).toArray]) (KeepAt n₀) (fun xs => xs = subsX f.1 n none8 0) (fun pre => pre <+: subsX f.1 n none8 0) (subsX f.1 n none8 0).length w :=
  fun l J Jx W hW hJ _ hY hj => callsIn_wide.2 (subsetsRun (fun s A B h hg => hJ s A B none h hg (fun r e => by cases e)) f n hn (fun k pre x W1 h1 h2 => yield_any k (hY pre x W1 h1 h2)) bf bc W ((hW.block bf hf.lt).trans hf) ((hW.cell (p := ⟨bc, 0, none⟩) (lt_of_cell hc)).trans hc) (Nat.le_trans h0 hW.size) hj (Nat.le_refl _))

end Go.Proofs.Ytbpkfcaokbidnab
