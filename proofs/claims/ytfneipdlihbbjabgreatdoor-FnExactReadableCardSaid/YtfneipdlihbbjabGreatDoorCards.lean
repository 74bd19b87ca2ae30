/-
  DERIVED. GIVEN WITH THE SEED: THE CARDS: each row of YtfneipdlihbbjabGreatDoorRows.lean that lists a variable, with what it lists TIED to the program's text (the seventh form; the later family's looks); each row that meets fmt, with fmt's text TOLD by the authors' own Lean function (tested against real Go, not proved from fmt's source: count such statements apart). THE CARD IS WHAT COUNTS. Prove the row's statement (the work); the ties are given (YtfneipdlihbbjabGreatDoorTie.lean); close each card by the builder's one call (the guide's Derived/Test/ToyasCard.lean, 'card_holds'). Laid BY PROGRAM, IN A SANDBOX (cutbox-door.mjs). By AI agents, Wed Nov 11 2026. No macro, syntax, notation, axiom, sorry.
-/
import Derived.Test.YtfneipdlihbbjabGreatDoorRows
import GoSem.ClaimSeven
namespace Go.Proofs.YtfneipdlihbbjabGreatDoor
namespace Rows

/-- THE TIED CARD OF 'laws.FnExactReadable'. -/
def fnExactReadableCard : Claim7 := { stood := { row := fnExactReadableRow, standIns := [], harness := (true, "a810a7afd1b1f04e84c3f5adf53216896cb210d45a51e4a0b691009622ee129a"), looks := true }, kinds := [], alts := [], laidByText := true, laidKinds := [.sentinel, .sentinel], laidTests := true, laidLooks := .later }
def FnExactReadableCardSaid : Prop := Claim7.holds Tryz.pinned (.plain (OpenSpec.ofChange fnExactReadableSpec)) fnExactReadableCard

/-- THE SECOND FORM's CARD OF 'laws.FnExactReadable'. -/
def fnExactReadableUptoCard : Claim7 := { stood := { row := fnExactReadableUptoRow, standIns := [], harness := (true, "a810a7afd1b1f04e84c3f5adf53216896cb210d45a51e4a0b691009622ee129a"), looks := true }, kinds := [], alts := [], laidByText := true, laidKinds := [.sentinel, .sentinel], laidTests := true, laidLooks := .later }
def FnExactReadableUptoCardSaid : Prop := Claim7.holds Tryz.pinned (.plain (OpenSpec.upto fnExactReadableSpec)) fnExactReadableUptoCard
end Rows
end Go.Proofs.YtfneipdlihbbjabGreatDoor
