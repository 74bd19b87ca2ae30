/-
  DERIVED. GIVEN WITH THE SEED: THE CARDS: each row of YtalelcloppbhcaaDoorRows.lean that lists a variable, with what it lists TIED to the program's text (the seventh form; the later family's looks); each row that meets fmt, with fmt's text TOLD by the authors' own Lean function (tested against real Go, not proved from fmt's source: count such statements apart). THE CARD IS WHAT COUNTS. Prove the row's statement (the work); the ties are given (YtalelcloppbhcaaDoorTie.lean); close each card by the builder's one call (the guide's Derived/Test/ToyasCard.lean, 'card_holds'). Laid BY PROGRAM, IN A SANDBOX (cutbox-door.mjs). By AI agents, Wed Nov 11 2026. No macro, syntax, notation, axiom, sorry.
-/
import Derived.Test.YtalelcloppbhcaaDoorRows
import GoSem.ClaimSeven
namespace Go.Proofs.YtalelcloppbhcaaDoor
namespace Rows

/-- THE TIED CARD OF 'laws.FnSetups'. -/
def fnSetupsCard : Claim7 := { stood := { row := fnSetupsRow, standIns := [], harness := (true, "a5f6528728a069c3325792bc297e417b07e1f1732197ca905e63749b1657bd17"), looks := true }, kinds := [], alts := [], laidByText := true, laidKinds := [.data, .data, .data, .data, .data], laidTests := true, laidLooks := .later }
def FnSetupsCardSaid : Prop := Claim7.holds Tryd.pinned (.plain (OpenSpec.ofChange fnSetupsSpec)) fnSetupsCard

/-- THE TIED CARD OF 'laws.FnExactNewEngine'. -/
def fnExactNewEngineCard : Claim7 := { stood := { row := fnExactNewEngineRow, standIns := [], harness := (true, "a5f6528728a069c3325792bc297e417b07e1f1732197ca905e63749b1657bd17"), looks := true }, kinds := [], alts := [], laidByText := true, laidKinds := [.data, .data], laidTests := true, laidLooks := .later }
def FnExactNewEngineCardSaid : Prop := Claim7.holds Tryd.pinned (.plain (OpenSpec.ofChange fnExactNewEngineSpec)) fnExactNewEngineCard

/-- THE TIED CARD OF 'laws.FnExactEventsIn'. -/
def fnExactEventsInCard : Claim7 := { stood := { row := fnExactEventsInRow, standIns := [], harness := (true, "a5f6528728a069c3325792bc297e417b07e1f1732197ca905e63749b1657bd17"), looks := true }, kinds := [], alts := [], laidByText := true, laidKinds := [.sentinel, .sentinel], laidTests := true, laidLooks := .later }
def FnExactEventsInCardSaid : Prop := Claim7.holds Tryd.pinned (.plain (OpenSpec.ofChange fnExactEventsInSpec)) fnExactEventsInCard

/-- THE SECOND FORM's CARD OF 'laws.FnSetups'. -/
def fnSetupsUptoCard : Claim7 := { stood := { row := fnSetupsUptoRow, standIns := [], harness := (true, "a5f6528728a069c3325792bc297e417b07e1f1732197ca905e63749b1657bd17"), looks := true }, kinds := [], alts := [], laidByText := true, laidKinds := [.data, .data, .data, .data, .data], laidTests := true, laidLooks := .later }
def FnSetupsUptoCardSaid : Prop := Claim7.holds Tryd.pinned (.plain (OpenSpec.upto fnSetupsSpec)) fnSetupsUptoCard

/-- THE SECOND FORM's CARD OF 'laws.FnExactNewEngine'. -/
def fnExactNewEngineUptoCard : Claim7 := { stood := { row := fnExactNewEngineUptoRow, standIns := [], harness := (true, "a5f6528728a069c3325792bc297e417b07e1f1732197ca905e63749b1657bd17"), looks := true }, kinds := [], alts := [], laidByText := true, laidKinds := [.data, .data], laidTests := true, laidLooks := .later }
def FnExactNewEngineUptoCardSaid : Prop := Claim7.holds Tryd.pinned (.plain (OpenSpec.upto fnExactNewEngineSpec)) fnExactNewEngineUptoCard

/-- THE SECOND FORM's CARD OF 'laws.FnExactEventsIn'. -/
def fnExactEventsInUptoCard : Claim7 := { stood := { row := fnExactEventsInUptoRow, standIns := [], harness := (true, "a5f6528728a069c3325792bc297e417b07e1f1732197ca905e63749b1657bd17"), looks := true }, kinds := [], alts := [], laidByText := true, laidKinds := [.sentinel, .sentinel], laidTests := true, laidLooks := .later }
def FnExactEventsInUptoCardSaid : Prop := Claim7.holds Tryd.pinned (.plain (OpenSpec.upto fnExactEventsInSpec)) fnExactEventsInUptoCard
end Rows
end Go.Proofs.YtalelcloppbhcaaDoor
