/-
  The program's iterator over sets of shards, whole: what 'range' over it may rely on.
  Conditions: none.
-/
import Derived.Test.YtlehcpcejkpbmaaDoorChoose
namespace Go.Proofs.YtlehcpcejkpbmaaDoor
open Go.RowKit Go.Shelf
set_option linter.unusedVariables false
attribute [local go_sem] Oper.semAt_some

theorem wide_room (k : Nat) : Fence.wide.room k := fun d h => by cases h
theorem yield_any {m : Nat} (m' : Nat) {P : Program} {l : Nat} {args : Array Value} {W : World} {R : Ending → World → Prop} (h : YieldAt Fence.wide m P l args W R) : YieldAt Fence.wide m' P l args W R := by
  obtain ⟨fn, tmps, assign, body, hy, hR⟩ := h
  exact ⟨fn, tmps, assign, body, hy, hR.1, fun c cs _ => hR.2 c cs (wide_room _)⟩

def none8 : Fl8 := ⟨[false, false, false, false, false, false, false, false], rfl⟩
theorem none8_flag : none8.1 = Sp.flag [] := by decide

end Go.Proofs.YtlehcpcejkpbmaaDoor
