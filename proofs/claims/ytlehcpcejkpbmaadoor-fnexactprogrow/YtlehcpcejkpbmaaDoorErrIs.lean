/-
  errors.Is at nil and at the package's own sentinel; what is known of the variable that holds it.
  Conditions: none.
-/
import Derived.Test.YtlehcpcejkpbmaaDoorRows
import Derived.Test.YtlehcpcejkpbmaaDoorG1
import Derived.WalkKit
import Derived.LaidEql
import Derived.Stop.Asserts
import Derived.RowKitTokens
namespace Go.Proofs.YtlehcpcejkpbmaaDoor
open Go.RowKit Go.Extern
set_option linter.unusedVariables false

theorem isTypeOf (v : Value) (w : World) : (Extern.ReflectliteType.typeOf #[.iface 159 v]).run Tryd.prog w = .ok (.iface 142 (.agg #[.pointer (some ⟨1, 159, none⟩)])) w := by kernel_rfl
theorem isComparable (w : World) : ((Extern.ReflectliteType.method fun t => do Extern.Rtype.noPackHeld "Comparable" t; (fun a => Value.bool a.comparable) <$> typeInfo t) #[.agg #[.pointer (some ⟨1, 159, none⟩)]]).run Tryd.prog w = .ok (.bool true) w := by kernel_rfl
theorem isMethodComparable (v : Value) (w : World) : (Go.method 135 142 v "Comparable").run Tryd.prog w = .ok (131, v) w := by kernel_rfl
theorem isComp : (Tryd.prog.info? 159).map (·.comparable) = some true := by kernel_rfl
theorem isSize : (Tryd.prog.info? 188).map (·.size) = some 1 := by kernel_rfl

set_option maxRecDepth 20000 in
/-- errors.Is(x, x), x a pointer to an errors.errorString. -/
theorem is_same (a : Addr) (w : World) :
    Calls Tryd.prog 80 #[.iface 159 (.pointer (some a)), .iface 159 (.pointer (some a))] w fun e w' => e = .returned (.bool true) ∧ w' = w := by
  obtain ⟨i, hi, hcmp⟩ := Option.map_eq_some_iff.1 isComp
  obtain ⟨j, hj, hjs⟩ := Option.map_eq_some_iff.1 isSize
  have h8 := @run_callFunc_extern Tryd.prog 90 _ Extern.ReflectliteType.typeOf Tryd.func90 (by kernel_rfl) (by kernel_rfl) (by kernel_rfl) (by kernel_rfl)
  have h32 := @run_callFunc_extern Tryd.prog 131 _ (Extern.ReflectliteType.method fun t => do Extern.Rtype.noPackHeld "Comparable" t; pure (.bool (← typeInfo t).comparable)) Tryd.func131 (by kernel_rfl) (by kernel_rfl) (by kernel_rfl) (by kernel_rfl)
  have tT := isTypeOf
  have cT := isComparable
  have mR := isMethodComparable
  have heq := run_eql_iface_ptr_same (P := Tryd.prog) w a Tryd.underlying115 Tryd.underlying159 hi hcmp hj
  go_enter Tryd.func80, Tryd.ntmps80
  go_wp2
  refine wp_loop_rounds 1 ?_
  rw [rounds_succ]
  go_wp2
  go_ret
  exact ⟨rfl, rfl⟩

set_option maxRecDepth 20000 in
/-- errors.Is(nil, x). -/
theorem is_nil (b : Addr) (w : World) :
    Calls Tryd.prog 80 #[.nilIface, .iface 159 (.pointer (some b))] w fun e w' => e = .returned (.bool false) ∧ w' = w := by
  have hn := run_eql_iface_nil_left (P := Tryd.prog) w 159 (.pointer (some b)) Tryd.underlying115
  go_enter Tryd.func80, Tryd.ntmps80
  go_wp2
  go_ret
  exact ⟨rfl, rfl⟩

/-- the package's variable holds the error at a. -/
def Sent (w : World) (a : Addr) : Prop := w.cell? ⟨0, 0, none⟩ = some (.iface 159 (.pointer (some a)))
theorem Sent.grown {w w' : World} {a : Addr} (h : Sent w a) (hg : w.grownBy w' none) : Sent w' a := hg.cell h (by simp)
theorem Sent.below {w w' : World} {a : Addr} {B : Nat} (h : Sent w a) (hb : Below B w w') (hB : 0 < B) : Sent w' a := by
  unfold Sent at h ⊢
  rw [← h]
  exact World.cell?_of_block (hb.block _ hB)
/-- a row that was not there is written. -/
theorem Sent.of_row {w w' : World} {a : Addr} {r : Option Nat} {B : Nat} (h : Sent w a) (hg : w.grownBy w' r) (hr : ∀ k, r = some k → B ≤ k) (hB : 0 < B) : Sent w' a := hg.cell h (fun e => absurd (hr _ e.symm) (Nat.not_le_of_lt hB))
theorem Sent.drew {w : World} {a : Addr} (h : Sent w a) : Sent w.drew a := h
theorem Sent.pos {w : World} {a : Addr} (h : Sent w a) : 0 < w.heap.size := by
  have := lt_of_cell h
  exact Nat.lt_of_le_of_lt (Nat.zero_le _) this
end Go.Proofs.YtlehcpcejkpbmaaDoor
