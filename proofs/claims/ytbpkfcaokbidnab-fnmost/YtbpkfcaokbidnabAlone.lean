/-
  A call that never starts a goroutine meets also what is asked of a call that can: at its return nobody else is there. It speaks of no program.
  Conditions: none.
-/
import Derived.Conc.Holds
namespace Go.Proofs.Ytbpkfcaokbidnab
set_option linter.unusedVariables false
theorem leaving_of_alone {P : Program} {last : Machine} {w : World} {t : Trace} (h : aloneAtReturn P last w t) : leavingAtReturn P last w t := by
  obtain ⟨⟨h1, h2⟩, h3, h4⟩ := h
  refine ⟨h3, ⟨fun g hg => ?_, h2⟩, h4⟩
  have := List.all_eq_true.1 h1 g hg
  exact Leave.done P g (by simpa using this)
theorem leaves {a : Assume} {C : Checked} {os : Os} {f : FuncId} {r : Reach} {Pre : World → Array Value → Prop} {Post : World → Array Value → Value → World → Prop} (h : ReturnsInHanded a C os f r Pre Post) : ReturnsInLeavingWide a C os f r Pre Post :=
  fun enter => ReturnsInOpen.mono (fun _ _ _ x => leaving_of_alone x) (fun _ x => x) (h enter)
end Go.Proofs.Ytbpkfcaokbidnab
