/-
  DERIVED. GIVEN WITH THE SEED: THE CARDS: each row of YtlehcpcejkpbmaaDoorRows.lean that lists a variable, with what it lists TIED to the program's text (the seventh form; the later family's looks); each row that meets fmt, with fmt's text TOLD by the authors' own Lean function (tested against real Go, not proved from fmt's source: count such statements apart). THE CARD IS WHAT COUNTS. Prove the row's statement (the work); the ties are given (YtlehcpcejkpbmaaDoorTie.lean); close each card by the builder's one call (the guide's Derived/Test/ToyasCard.lean, 'card_holds'). Laid BY PROGRAM, IN A SANDBOX (cutbox-door.mjs). By AI agents, Wed Nov 11 2026. No macro, syntax, notation, axiom, sorry.
-/
import Derived.Test.YtlehcpcejkpbmaaDoorRows
import GoSem.ClaimSeven
namespace Go.Proofs.YtlehcpcejkpbmaaDoor
namespace Rows

/-- THE TIED CARD OF 'laws.FnProgOf'. -/
def fnProgOfCard : Claim7 := { stood := { row := fnProgOfRow, standIns := [], harness := (true, "706dffdecc08ed9b7991ed61352c643fc6ee35febc91e6b83dd0a73f61ed275b"), looks := true }, kinds := [], alts := [], laidByText := true, laidKinds := [.sentinel], laidTests := true, laidLooks := .later }
def FnProgOfCardSaid : Prop := Claim7.holds Tryd.pinned (.plain (OpenSpec.ofChange fnProgOfSpec)) fnProgOfCard

/-- THE TIED CARD OF 'laws.FnProgSteps'. -/
def fnProgStepsCard : Claim7 := { stood := { row := fnProgStepsRow, standIns := [], harness := (true, "706dffdecc08ed9b7991ed61352c643fc6ee35febc91e6b83dd0a73f61ed275b"), looks := true }, kinds := [], alts := [], laidByText := true, laidKinds := [.sentinel], laidTests := true, laidLooks := .later }
def FnProgStepsCardSaid : Prop := Claim7.holds Tryd.pinned (.plain (OpenSpec.ofChange fnProgStepsSpec)) fnProgStepsCard

/-- THE TIED CARD OF 'laws.FnProgPlan'. -/
def fnProgPlanCard : Claim7 := { stood := { row := fnProgPlanRow, standIns := [], harness := (true, "706dffdecc08ed9b7991ed61352c643fc6ee35febc91e6b83dd0a73f61ed275b"), looks := true }, kinds := [], alts := [], laidByText := true, laidKinds := [.sentinel], laidTests := true, laidLooks := .later }
def FnProgPlanCardSaid : Prop := Claim7.holds Tryd.pinned (.plain (OpenSpec.ofChange fnProgPlanSpec)) fnProgPlanCard

/-- THE TIED CARD OF 'laws.FnProgRun'. -/
def fnProgRunCard : Claim7 := { stood := { row := fnProgRunRow, standIns := [], harness := (true, "706dffdecc08ed9b7991ed61352c643fc6ee35febc91e6b83dd0a73f61ed275b"), looks := true }, kinds := [], alts := [], laidByText := true, laidKinds := [.sentinel], laidTests := true, laidLooks := .later }
def FnProgRunCardSaid : Prop := Claim7.holds Tryd.pinned (.plain (OpenSpec.ofChange fnProgRunSpec)) fnProgRunCard

/-- THE TIED CARD OF 'laws.FnProgMany'. -/
def fnProgManyCard : Claim7 := { stood := { row := fnProgManyRow, standIns := [], harness := (true, "706dffdecc08ed9b7991ed61352c643fc6ee35febc91e6b83dd0a73f61ed275b"), looks := true }, kinds := [], alts := [], laidByText := true, laidKinds := [.sentinel], laidTests := true, laidLooks := .later }
def FnProgManyCardSaid : Prop := Claim7.holds Tryd.pinned (.plain (OpenSpec.ofChange fnProgManySpec)) fnProgManyCard

/-- THE TIED CARD OF 'laws.FnProgForm'. -/
def fnProgFormCard : Claim7 := { stood := { row := fnProgFormRow, standIns := [], harness := (true, "706dffdecc08ed9b7991ed61352c643fc6ee35febc91e6b83dd0a73f61ed275b"), looks := true }, kinds := [], alts := [], laidByText := true, laidKinds := [.sentinel], laidTests := true, laidLooks := .later }
def FnProgFormCardSaid : Prop := Claim7.holds Tryd.pinned (.plain (OpenSpec.ofChange fnProgFormSpec)) fnProgFormCard

/-- THE TIED CARD OF 'laws.FnExactProgOk'. -/
def fnExactProgOkCard : Claim7 := { stood := { row := fnExactProgOkRow, standIns := [], harness := (true, "706dffdecc08ed9b7991ed61352c643fc6ee35febc91e6b83dd0a73f61ed275b"), looks := true }, kinds := [], alts := [], laidByText := true, laidKinds := [.sentinel], laidTests := true, laidLooks := .later }
def FnExactProgOkCardSaid : Prop := Claim7.holds Tryd.pinned (.plain (OpenSpec.ofChange fnExactProgOkSpec)) fnExactProgOkCard

/-- THE TIED CARD OF 'laws.FnExactProgRun'. -/
def fnExactProgRunCard : Claim7 := { stood := { row := fnExactProgRunRow, standIns := [], harness := (true, "706dffdecc08ed9b7991ed61352c643fc6ee35febc91e6b83dd0a73f61ed275b"), looks := true }, kinds := [], alts := [], laidByText := true, laidKinds := [.sentinel], laidTests := true, laidLooks := .later }
def FnExactProgRunCardSaid : Prop := Claim7.holds Tryd.pinned (.plain (OpenSpec.ofChange fnExactProgRunSpec)) fnExactProgRunCard

/-- THE TIED CARD OF 'laws.FnExactProgRow'. -/
def fnExactProgRowCard : Claim7 := { stood := { row := fnExactProgRowRow, standIns := [], harness := (true, "706dffdecc08ed9b7991ed61352c643fc6ee35febc91e6b83dd0a73f61ed275b"), looks := true }, kinds := [], alts := [], laidByText := true, laidKinds := [.sentinel], laidTests := true, laidLooks := .later }
def FnExactProgRowCardSaid : Prop := Claim7.holds Tryd.pinned (.plain (OpenSpec.ofChange fnExactProgRowSpec)) fnExactProgRowCard

/-- THE TIED CARD OF 'laws.FnExactProgMany'. -/
def fnExactProgManyCard : Claim7 := { stood := { row := fnExactProgManyRow, standIns := [], harness := (true, "706dffdecc08ed9b7991ed61352c643fc6ee35febc91e6b83dd0a73f61ed275b"), looks := true }, kinds := [], alts := [], laidByText := true, laidKinds := [.sentinel], laidTests := true, laidLooks := .later }
def FnExactProgManyCardSaid : Prop := Claim7.holds Tryd.pinned (.plain (OpenSpec.ofChange fnExactProgManySpec)) fnExactProgManyCard

/-- THE SECOND FORM's CARD OF 'laws.FnProgOf'. -/
def fnProgOfUptoCard : Claim7 := { stood := { row := fnProgOfUptoRow, standIns := [], harness := (true, "706dffdecc08ed9b7991ed61352c643fc6ee35febc91e6b83dd0a73f61ed275b"), looks := true }, kinds := [], alts := [], laidByText := true, laidKinds := [.sentinel], laidTests := true, laidLooks := .later }
def FnProgOfUptoCardSaid : Prop := Claim7.holds Tryd.pinned (.plain (OpenSpec.upto fnProgOfSpec)) fnProgOfUptoCard

/-- THE SECOND FORM's CARD OF 'laws.FnProgSteps'. -/
def fnProgStepsUptoCard : Claim7 := { stood := { row := fnProgStepsUptoRow, standIns := [], harness := (true, "706dffdecc08ed9b7991ed61352c643fc6ee35febc91e6b83dd0a73f61ed275b"), looks := true }, kinds := [], alts := [], laidByText := true, laidKinds := [.sentinel], laidTests := true, laidLooks := .later }
def FnProgStepsUptoCardSaid : Prop := Claim7.holds Tryd.pinned (.plain (OpenSpec.upto fnProgStepsSpec)) fnProgStepsUptoCard

/-- THE SECOND FORM's CARD OF 'laws.FnProgPlan'. -/
def fnProgPlanUptoCard : Claim7 := { stood := { row := fnProgPlanUptoRow, standIns := [], harness := (true, "706dffdecc08ed9b7991ed61352c643fc6ee35febc91e6b83dd0a73f61ed275b"), looks := true }, kinds := [], alts := [], laidByText := true, laidKinds := [.sentinel], laidTests := true, laidLooks := .later }
def FnProgPlanUptoCardSaid : Prop := Claim7.holds Tryd.pinned (.plain (OpenSpec.upto fnProgPlanSpec)) fnProgPlanUptoCard

/-- THE SECOND FORM's CARD OF 'laws.FnProgRun'. -/
def fnProgRunUptoCard : Claim7 := { stood := { row := fnProgRunUptoRow, standIns := [], harness := (true, "706dffdecc08ed9b7991ed61352c643fc6ee35febc91e6b83dd0a73f61ed275b"), looks := true }, kinds := [], alts := [], laidByText := true, laidKinds := [.sentinel], laidTests := true, laidLooks := .later }
def FnProgRunUptoCardSaid : Prop := Claim7.holds Tryd.pinned (.plain (OpenSpec.upto fnProgRunSpec)) fnProgRunUptoCard

/-- THE SECOND FORM's CARD OF 'laws.FnProgMany'. -/
def fnProgManyUptoCard : Claim7 := { stood := { row := fnProgManyUptoRow, standIns := [], harness := (true, "706dffdecc08ed9b7991ed61352c643fc6ee35febc91e6b83dd0a73f61ed275b"), looks := true }, kinds := [], alts := [], laidByText := true, laidKinds := [.sentinel], laidTests := true, laidLooks := .later }
def FnProgManyUptoCardSaid : Prop := Claim7.holds Tryd.pinned (.plain (OpenSpec.upto fnProgManySpec)) fnProgManyUptoCard

/-- THE SECOND FORM's CARD OF 'laws.FnProgForm'. -/
def fnProgFormUptoCard : Claim7 := { stood := { row := fnProgFormUptoRow, standIns := [], harness := (true, "706dffdecc08ed9b7991ed61352c643fc6ee35febc91e6b83dd0a73f61ed275b"), looks := true }, kinds := [], alts := [], laidByText := true, laidKinds := [.sentinel], laidTests := true, laidLooks := .later }
def FnProgFormUptoCardSaid : Prop := Claim7.holds Tryd.pinned (.plain (OpenSpec.upto fnProgFormSpec)) fnProgFormUptoCard

/-- THE SECOND FORM's CARD OF 'laws.FnExactProgOk'. -/
def fnExactProgOkUptoCard : Claim7 := { stood := { row := fnExactProgOkUptoRow, standIns := [], harness := (true, "706dffdecc08ed9b7991ed61352c643fc6ee35febc91e6b83dd0a73f61ed275b"), looks := true }, kinds := [], alts := [], laidByText := true, laidKinds := [.sentinel], laidTests := true, laidLooks := .later }
def FnExactProgOkUptoCardSaid : Prop := Claim7.holds Tryd.pinned (.plain (OpenSpec.upto fnExactProgOkSpec)) fnExactProgOkUptoCard

/-- THE SECOND FORM's CARD OF 'laws.FnExactProgRun'. -/
def fnExactProgRunUptoCard : Claim7 := { stood := { row := fnExactProgRunUptoRow, standIns := [], harness := (true, "706dffdecc08ed9b7991ed61352c643fc6ee35febc91e6b83dd0a73f61ed275b"), looks := true }, kinds := [], alts := [], laidByText := true, laidKinds := [.sentinel], laidTests := true, laidLooks := .later }
def FnExactProgRunUptoCardSaid : Prop := Claim7.holds Tryd.pinned (.plain (OpenSpec.upto fnExactProgRunSpec)) fnExactProgRunUptoCard

/-- THE SECOND FORM's CARD OF 'laws.FnExactProgRow'. -/
def fnExactProgRowUptoCard : Claim7 := { stood := { row := fnExactProgRowUptoRow, standIns := [], harness := (true, "706dffdecc08ed9b7991ed61352c643fc6ee35febc91e6b83dd0a73f61ed275b"), looks := true }, kinds := [], alts := [], laidByText := true, laidKinds := [.sentinel], laidTests := true, laidLooks := .later }
def FnExactProgRowUptoCardSaid : Prop := Claim7.holds Tryd.pinned (.plain (OpenSpec.upto fnExactProgRowSpec)) fnExactProgRowUptoCard

/-- THE SECOND FORM's CARD OF 'laws.FnExactProgMany'. -/
def fnExactProgManyUptoCard : Claim7 := { stood := { row := fnExactProgManyUptoRow, standIns := [], harness := (true, "706dffdecc08ed9b7991ed61352c643fc6ee35febc91e6b83dd0a73f61ed275b"), looks := true }, kinds := [], alts := [], laidByText := true, laidKinds := [.sentinel], laidTests := true, laidLooks := .later }
def FnExactProgManyUptoCardSaid : Prop := Claim7.holds Tryd.pinned (.plain (OpenSpec.upto fnExactProgManySpec)) fnExactProgManyUptoCard
end Rows
end Go.Proofs.YtlehcpcejkpbmaaDoor
