/-
  DERIVED. GIVEN WITH THE SEED: THE CARDS: each row of YtddanfpiecgcgaaGreatDoorRows.lean that lists a variable, with what it lists TIED to the program's text (the seventh form; the later family's looks); each row that meets fmt, with fmt's text TOLD by the authors' own Lean function (tested against real Go, not proved from fmt's source: count such statements apart). THE CARD IS WHAT COUNTS. Prove the row's statement (the work); the ties are given (YtddanfpiecgcgaaGreatDoorTie.lean); close each card by the builder's one call (the guide's Derived/Test/ToyasCard.lean, 'card_holds'). Laid BY PROGRAM, IN A SANDBOX (cutbox-door.mjs). By AI agents, Wed Nov 11 2026. No macro, syntax, notation, axiom, sorry.
-/
import Derived.Test.YtddanfpiecgcgaaGreatDoorRows
import GoSem.ClaimSeven
namespace Go.Proofs.YtddanfpiecgcgaaGreatDoor
namespace Rows

/-- THE TIED CARD OF 'laws.FnExactEngineSafe'. -/
def fnExactEngineSafeCard : Claim7 := { stood := { row := fnExactEngineSafeRow, standIns := [], harness := (true, "b0fe1c9cd73a660f563c9d9c20cdb1ed70e3c4717d277ed6460313a035b631c2"), looks := true }, kinds := [], alts := [], laidByText := true, laidKinds := [.data, .data], laidTests := true, laidLooks := .later }
def FnExactEngineSafeCardSaid : Prop := Claim7.holds Tryz.pinned (.plain (OpenSpec.ofChange fnExactEngineSafeSpec)) fnExactEngineSafeCard

/-- THE SECOND FORM's CARD OF 'laws.FnExactEngineSafe'. -/
def fnExactEngineSafeUptoCard : Claim7 := { stood := { row := fnExactEngineSafeUptoRow, standIns := [], harness := (true, "b0fe1c9cd73a660f563c9d9c20cdb1ed70e3c4717d277ed6460313a035b631c2"), looks := true }, kinds := [], alts := [], laidByText := true, laidKinds := [.data, .data], laidTests := true, laidLooks := .later }
def FnExactEngineSafeUptoCardSaid : Prop := Claim7.holds Tryz.pinned (.plain (OpenSpec.upto fnExactEngineSafeSpec)) fnExactEngineSafeUptoCard
end Rows
end Go.Proofs.YtddanfpiecgcgaaGreatDoor
