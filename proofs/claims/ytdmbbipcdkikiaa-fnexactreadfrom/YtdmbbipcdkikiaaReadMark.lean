/-
  The laws' helper that marks flags.
  Conditions: none.
-/
import Derived.Test.YtdmbbipcdkikiaaG3
import Derived.Test.YtdmbbipcdkikiaaG4
namespace Go.Proofs.Ytdmbbipcdkikiaa
open Go.RowKit
set_option linter.unusedVariables false

set_option maxHeartbeats 2000000 in
set_option maxRecDepth 20000 in
theorem markBl (v : Value) (f : List Bool) (k : Int) (base : Nat) (w : World) (h : BOwn w base v f) (hl : f.length ≤ 1048576) (k0 : 0 ≤ k) (k1 : k ≤ 10000000) :
    Calls Try.prog 28 #[v, .int .i64 k] w fun e w' => e = .returned (.int .i64 (k + f.length)) ∧ w.grownBy w' v.ownBlock ∧ ∃ f', BOwn w' base v f' := by
  rcases h.2 with ⟨rfl, h0⟩ | ⟨g, cap, cur, rfl, hb⟩
  · have : f = [] := List.eq_nil_of_length_eq_zero h0
    subst this
    have O := Lib.hid h
    clear h h0
    go_enter Try.func28, Try.ntmps28
    go_wp2_with fail
    go_loop [1, 5] (fun m i => m = .int .i64 k ∧ i = .int .i64 0) (fun _ _ => 0)
    case atStart => exact ⟨rfl, rfl⟩
    case round =>
      obtain ⟨rfl, rfl⟩ := hrel
      go_wp2_with fail
      go_ret
      exact ⟨by simp, World.grownBy.refl _ _, [], O.out⟩
  · have O := Lib.hid h
    have hcm : cap ≤ maxLen := hb.2.2.2.1
    have hcl : f.length ≤ cap := hb.2.2.1
    unfold maxLen at hcm
    clear h hb
    go_enter Try.func28, Try.ntmps28
    go_wp2_with fail
    go_loopw [1, 5] (fun m i wr => ∃ (j : Nat) (f' : List Bool), j ≤ f.length ∧ i = .int .i64 j ∧ m = .int .i64 (k + j) ∧ f'.length = f.length ∧ w.grownBy wr (some g) ∧ BOwn wr base (.slice (some ⟨g, 0, none⟩) f.length cap) f') (fun _ i _ => f.length - (intOf i).toNat)
    case atStart => exact ⟨0, f, by omega, rfl, by simp, rfl, World.grownBy.refl _ _, O.out⟩
    case round =>
      obtain ⟨j, f', hj, rfl, rfl, hf', hgr, ho⟩ := hrel
      have G := Lib.hid hgr
      have B := Lib.hid ho
      have F := Lib.hid hf'
      clear hgr ho hf' O
      by_cases hlt : j < f.length
      · have hlt' : (j : Int) < f.length := by omega
        obtain ⟨aa, ca, ea, _, _, hr⟩ := B.out.bl
        injection ea with e1 e2 e3
        subst e1 e3
        obtain ⟨b', o', e', hx⟩ := hr.at_ (k := j) (by rw [F.out]; exact hlt)
        injection e' with e'
        injection e' with e1 e4
        subst e1 e4
        rw [Nat.zero_add] at hx
        have hfz : wr.frozen? ⟨g, j, none⟩ = false := by
          have h := B.out
          unfold BOwn at h
          rw [F.out] at h
          exact World.ownsRow.frozenAt h j
        clear hr e2
        go_wp2_with fail
        go_roundw
        case rel => exact ⟨j + 1, _, by omega, by go_num, by go_num, by rw [List.length_set]; exact F.out, grown_trans G.out (B.out.put F.out.symm j _).2, (B.out.put F.out.symm j _).1⟩
        case measure => simp [intOf]; omega
      · obtain rfl : j = f.length := by omega
        go_wp2_with fail
        go_ret
        exact ⟨rfl, G.out, f', B.out⟩
end Go.Proofs.Ytdmbbipcdkikiaa
