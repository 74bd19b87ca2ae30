/- Closed facts of the row of FramesLeft. (tools/splitdoor.py) -/
import Derived.Test.YtnfhlfbkdhpacaaGreatDoorRows
import Derived.Deep.RegionHeld3
import Derived.WalkSmall
import Derived.WalkKit
import Derived.ProofKit
import Derived.OpenShut
import Derived.OpenVars
import Derived.Lay
import Derived.Deep.DeepHandedRow
import Derived.ShutString
import Derived.ChangeOld
import Derived.Below
import Derived.Deep.AppendLies
import Derived.Deep.RegionWith
namespace Go.Proofs.YtnfhlfbkdhpacaaGreatDoor.fnExactFramesLeft
open Go.ChangeShapes Go.WideShapes Go.ChangeAt Go.RowKit
set_option linter.unusedVariables false

theorem c1 : Tryz.pinned.checked.prog.funcNamed Rows.fnExactFramesLeftRow.func = some 4 := by kernel_rfl
theorem c3 : Tryz.f4.isInstance Tryz.pinned.checked.prog Rows.fnExactFramesLeftRow.origin Rows.fnExactFramesLeftRow.targs := (of_decide_eq_true (by kernel_rfl))
theorem c4 : Tryz.f4.isWrapper Tryz.pinned.checked.prog Rows.fnExactFramesLeftRow.wrapper Rows.fnExactFramesLeftRow.mainSum := (by unfold Func.isWrapper; first | (rw [if_pos (by decide +kernel)]; kernel_rfl) | (rw [if_neg (by decide +kernel)]; exact ⟨rfl, rfl⟩))
theorem c2 : joinedFacts Tryz.pinned.checked.prog 4 Tryz.f4 (OpenSpec.ofChange Rows.fnExactFramesLeftSpec).bare Rows.fnExactFramesLeftRow = true := by kernel_rfl
end Go.Proofs.YtnfhlfbkdhpacaaGreatDoor.fnExactFramesLeft
