/-
  What a row that lists the package's sentinel gives a walk, and a world that meets it.
  Conditions: none.
-/
import Derived.Test.YtlehcpcejkpbmaaDoorErrIs
import Derived.ProofKit
import Derived.Stop.LaidErr
import Derived.ChangeVars
import Derived.LaidLaws
import Derived.MakeChecks
import Derived.WalkSmall
namespace Go.Proofs.YtlehcpcejkpbmaaDoor
open Go.ChangeShapes Go.WideShapes Go.ChangeAt Go.RowKit Go.Extern
set_option linter.unusedVariables false

theorem own : ownKnob Tryd.prog.godebug = none := by kernel_rfl
theorem laidOut : laidOutB Tryd.prog = true := by kernel_rfl
theorem gE : Tryd.prog.globalNamed "loop.example/keelson/impl.errStep" = some 0 := by kernel_rfl
theorem gT : (Tryd.prog.globals[ 0 ]?).map (·.type) = some 115 := by kernel_rfl
theorem cellsE : Tryd.prog.cellsOf 188 = 1 := by kernel_rfl
theorem cellsS : Tryd.prog.cellsOf 9 = 1 := by kernel_rfl
theorem star : "*" ++ "errors.errorString" = "*errors.errorString" := by decide
theorem rowE (u : TypeId) (h : Tryd.prog.typeName? 3 u = some "*errors.errorString") : u = 159 :=
  typeName_ptr_named (nm := "errors.errorString") (by rw [star]; kernel_rfl) (by kernel_rfl) (by decide) u (by rw [star]; exact h)
abbrev laidE : List (String × DataW Unit) := [("loop.example/keelson/impl.errStep", Rows.laid_loop_example_keelson_impl_errStep)]
/-- what the condition gives. -/
theorem sent_of_laid {W : World} (h : laidMetH Tryd.prog laidE W) : ∃ a, W.var? Tryd.prog "loop.example/keelson/impl.errStep" = some #[.iface 159 (.pointer (some a))] ∧ Sent W a := by
  have h' : laidMet Tryd.prog laidE W := h
  obtain ⟨a, s, hv, _⟩ := laid_sentinel h' gE gT Tryd.underlying115 rowE Tryd.underlying159 Tryd.underlying188 rfl rfl Tryd.underlying9 cellsE cellsS
  refine ⟨a, hv, ?_⟩
  show W.cell? ⟨0, 0, none⟩ = _
  simpa using World.var?_cell gE hv 0
abbrev doorText : ByteArray := { data := #[105, 110, 118, 97, 108, 105, 100, 32, 115, 116, 101, 112] }
noncomputable def doorLow : Nat := (World.holding Tryd.prog default ⟨#[], #[], []⟩).heap.size
/-- a world that meets the condition. -/
noncomputable def laidWorld (os : Os) : World :=
  let w0 := World.holding Tryd.prog os ⟨#[.cells #[.string doorText] 188 ], #[], []⟩
  { w0 with heap := w0.heap.modify 0 fun
      | .cells _ t frozen => .cells #[.iface 159 (.pointer (some ⟨doorLow, 0, none⟩))] t frozen
      | o => o }
theorem laidWorld_met (os : Os) (args : Array Value) : laidMetH Tryd.prog laidE ((laidWorld os).forCall (fun _ _ => 0) ⟨#[], args, []⟩).memory :=
  show laidMet Tryd.prog laidE ((laidWorld os).forCall (fun _ _ => 0) ⟨#[], args, []⟩).memory from
  laidMet_of_run (ps := [.cell 0 0, .cell doorLow 0]) 8 (by kernel_rfl) (by kernel_rfl) (by kernel_rfl)
theorem vars_at {H : Type} (enc : TypeId × Value → H) {W : World} {a : Addr} (h : W.var? Tryd.prog "loop.example/keelson/impl.errStep" = some #[.iface 159 (.pointer (some a))]) (sp : Nat → Bool) :
    DataW.TrodVars enc Tryd.prog W sp ["loop.example/keelson/impl.errStep"] [tok enc (.iface 159 (.pointer (some a)))] [.cell 0 0] :=
  vars_read1 enc gE gT Tryd.underlying115 h trivial sp
end Go.Proofs.YtlehcpcejkpbmaaDoor
