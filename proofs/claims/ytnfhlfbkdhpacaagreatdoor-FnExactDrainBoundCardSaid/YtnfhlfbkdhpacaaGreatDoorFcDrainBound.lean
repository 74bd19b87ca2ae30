/- Closed facts of the row of DrainBound. (tools/splitdoor.py) -/
import Derived.Test.YtnfhlfbkdhpacaaGreatDoorRows
import Derived.Deep.RegionHeld3
import Derived.WalkSmall
import Derived.WalkKit
import Derived.ProofKit
import Derived.OpenShut
import Derived.OpenVars
import Derived.Lay
import Derived.Deep.DeepHandedRow
import Derived.ShutString
import Derived.ChangeOld
import Derived.Below
import Derived.Deep.AppendLies
import Derived.Deep.RegionWith
namespace Go.Proofs.YtnfhlfbkdhpacaaGreatDoor.fnExactDrainBound
open Go.ChangeShapes Go.WideShapes Go.ChangeAt Go.RowKit
set_option linter.unusedVariables false

theorem c1 : Tryz.pinned.checked.prog.funcNamed Rows.fnExactDrainBoundRow.func = some 5 := by kernel_rfl
theorem c3 : Tryz.f5.isInstance Tryz.pinned.checked.prog Rows.fnExactDrainBoundRow.origin Rows.fnExactDrainBoundRow.targs := (of_decide_eq_true (by kernel_rfl))
theorem c4 : Tryz.f5.isWrapper Tryz.pinned.checked.prog Rows.fnExactDrainBoundRow.wrapper Rows.fnExactDrainBoundRow.mainSum := (by unfold Func.isWrapper; first | (rw [if_pos (by decide +kernel)]; kernel_rfl) | (rw [if_neg (by decide +kernel)]; exact ⟨rfl, rfl⟩))
theorem c2 : joinedFacts Tryz.pinned.checked.prog 5 Tryz.f5 (OpenSpec.ofChange Rows.fnExactDrainBoundSpec).bare Rows.fnExactDrainBoundRow = true := by kernel_rfl
end Go.Proofs.YtnfhlfbkdhpacaaGreatDoor.fnExactDrainBound
