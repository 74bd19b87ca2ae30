/-
  DERIVED. GIVEN WITH THE SEED: THE CARDS: each row of YtnfhlfbkdhpacaaGreatDoorRows.lean that lists a variable, with what it lists TIED to the program's text (the seventh form; the later family's looks); each row that meets fmt, with fmt's text TOLD by the authors' own Lean function (tested against real Go, not proved from fmt's source: count such statements apart). THE CARD IS WHAT COUNTS. Prove the row's statement (the work); the ties are given (YtnfhlfbkdhpacaaGreatDoorTie.lean); close each card by the builder's one call (the guide's Derived/Test/ToyasCard.lean, 'card_holds'). Laid BY PROGRAM, IN A SANDBOX (cutbox-door.mjs). By AI agents, Wed Nov 11 2026. No macro, syntax, notation, axiom, sorry.
-/
import Derived.Test.YtnfhlfbkdhpacaaGreatDoorRows
import GoSem.ClaimSeven
namespace Go.Proofs.YtnfhlfbkdhpacaaGreatDoor
namespace Rows

/-- THE TIED CARD OF 'laws.FnExactRoundOps'. -/
def fnExactRoundOpsCard : Claim7 := { stood := { row := fnExactRoundOpsRow, standIns := [], harness := (true, "eb0f502c51cd76c84d42c53f1651803003c82cb7e217789fb234f8134e61fce0"), looks := true }, kinds := [], alts := [], laidByText := true, laidKinds := [.data, .data, .sentinel], laidTests := true, laidLooks := .later }
def FnExactRoundOpsCardSaid : Prop := Claim7.holds Tryz.pinned (.plain (OpenSpec.ofChange fnExactRoundOpsSpec)) fnExactRoundOpsCard

/-- THE TIED CARD OF 'laws.FnExactFramesLeft'. -/
def fnExactFramesLeftCard : Claim7 := { stood := { row := fnExactFramesLeftRow, standIns := [], harness := (true, "eb0f502c51cd76c84d42c53f1651803003c82cb7e217789fb234f8134e61fce0"), looks := true }, kinds := [], alts := [], laidByText := true, laidKinds := [.sentinel, .sentinel], laidTests := true, laidLooks := .later }
def FnExactFramesLeftCardSaid : Prop := Claim7.holds Tryz.pinned (.plain (OpenSpec.ofChange fnExactFramesLeftSpec)) fnExactFramesLeftCard

/-- THE TIED CARD OF 'laws.FnExactDrainBound'. -/
def fnExactDrainBoundCard : Claim7 := { stood := { row := fnExactDrainBoundRow, standIns := [], harness := (true, "eb0f502c51cd76c84d42c53f1651803003c82cb7e217789fb234f8134e61fce0"), looks := true }, kinds := [], alts := [], laidByText := true, laidKinds := [.sentinel, .sentinel, .data, .data], laidTests := true, laidLooks := .later }
def FnExactDrainBoundCardSaid : Prop := Claim7.holds Tryz.pinned (.plain (OpenSpec.ofChange fnExactDrainBoundSpec)) fnExactDrainBoundCard

/-- THE TIED CARD OF 'laws.FnExactStuckAt'. -/
def fnExactStuckAtCard : Claim7 := { stood := { row := fnExactStuckAtRow, standIns := [], harness := (true, "eb0f502c51cd76c84d42c53f1651803003c82cb7e217789fb234f8134e61fce0"), looks := true }, kinds := [], alts := [], laidByText := true, laidKinds := [.sentinel, .sentinel, .data, .data, .sentinel], laidTests := true, laidLooks := .later }
def FnExactStuckAtCardSaid : Prop := Claim7.holds Tryz.pinned (.plain (OpenSpec.ofChange fnExactStuckAtSpec)) fnExactStuckAtCard

/-- THE TIED CARD OF 'laws.FnExactAtRest'. -/
def fnExactAtRestCard : Claim7 := { stood := { row := fnExactAtRestRow, standIns := [], harness := (true, "eb0f502c51cd76c84d42c53f1651803003c82cb7e217789fb234f8134e61fce0"), looks := true }, kinds := [], alts := [], laidByText := true, laidKinds := [.sentinel, .sentinel, .data, .data], laidTests := true, laidLooks := .later }
def FnExactAtRestCardSaid : Prop := Claim7.holds Tryz.pinned (.plain (OpenSpec.ofChange fnExactAtRestSpec)) fnExactAtRestCard

/-- THE SECOND FORM's CARD OF 'laws.FnExactRoundOps'. -/
def fnExactRoundOpsUptoCard : Claim7 := { stood := { row := fnExactRoundOpsUptoRow, standIns := [], harness := (true, "eb0f502c51cd76c84d42c53f1651803003c82cb7e217789fb234f8134e61fce0"), looks := true }, kinds := [], alts := [], laidByText := true, laidKinds := [.data, .data, .sentinel], laidTests := true, laidLooks := .later }
def FnExactRoundOpsUptoCardSaid : Prop := Claim7.holds Tryz.pinned (.plain (OpenSpec.upto fnExactRoundOpsSpec)) fnExactRoundOpsUptoCard

/-- THE SECOND FORM's CARD OF 'laws.FnExactFramesLeft'. -/
def fnExactFramesLeftUptoCard : Claim7 := { stood := { row := fnExactFramesLeftUptoRow, standIns := [], harness := (true, "eb0f502c51cd76c84d42c53f1651803003c82cb7e217789fb234f8134e61fce0"), looks := true }, kinds := [], alts := [], laidByText := true, laidKinds := [.sentinel, .sentinel], laidTests := true, laidLooks := .later }
def FnExactFramesLeftUptoCardSaid : Prop := Claim7.holds Tryz.pinned (.plain (OpenSpec.upto fnExactFramesLeftSpec)) fnExactFramesLeftUptoCard

/-- THE SECOND FORM's CARD OF 'laws.FnExactDrainBound'. -/
def fnExactDrainBoundUptoCard : Claim7 := { stood := { row := fnExactDrainBoundUptoRow, standIns := [], harness := (true, "eb0f502c51cd76c84d42c53f1651803003c82cb7e217789fb234f8134e61fce0"), looks := true }, kinds := [], alts := [], laidByText := true, laidKinds := [.sentinel, .sentinel, .data, .data], laidTests := true, laidLooks := .later }
def FnExactDrainBoundUptoCardSaid : Prop := Claim7.holds Tryz.pinned (.plain (OpenSpec.upto fnExactDrainBoundSpec)) fnExactDrainBoundUptoCard

/-- THE SECOND FORM's CARD OF 'laws.FnExactStuckAt'. -/
def fnExactStuckAtUptoCard : Claim7 := { stood := { row := fnExactStuckAtUptoRow, standIns := [], harness := (true, "eb0f502c51cd76c84d42c53f1651803003c82cb7e217789fb234f8134e61fce0"), looks := true }, kinds := [], alts := [], laidByText := true, laidKinds := [.sentinel, .sentinel, .data, .data, .sentinel], laidTests := true, laidLooks := .later }
def FnExactStuckAtUptoCardSaid : Prop := Claim7.holds Tryz.pinned (.plain (OpenSpec.upto fnExactStuckAtSpec)) fnExactStuckAtUptoCard

/-- THE SECOND FORM's CARD OF 'laws.FnExactAtRest'. -/
def fnExactAtRestUptoCard : Claim7 := { stood := { row := fnExactAtRestUptoRow, standIns := [], harness := (true, "eb0f502c51cd76c84d42c53f1651803003c82cb7e217789fb234f8134e61fce0"), looks := true }, kinds := [], alts := [], laidByText := true, laidKinds := [.sentinel, .sentinel, .data, .data], laidTests := true, laidLooks := .later }
def FnExactAtRestUptoCardSaid : Prop := Claim7.holds Tryz.pinned (.plain (OpenSpec.upto fnExactAtRestSpec)) fnExactAtRestUptoCard
end Rows
end Go.Proofs.YtnfhlfbkdhpacaaGreatDoor
