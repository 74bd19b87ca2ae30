/-
  DERIVED. GIVEN WITH THE SEED: THE CARDS: each row of YtjbhcjfifkfmbaaDoorRows.lean that lists a variable, with what it lists TIED to the program's text (the seventh form; the later family's looks); each row that meets fmt, with fmt's text TOLD by the authors' own Lean function (tested against real Go, not proved from fmt's source: count such statements apart). THE CARD IS WHAT COUNTS. Prove the row's statement (the work); the ties are given (YtjbhcjfifkfmbaaDoorTie.lean); close each card by the builder's one call (the guide's Derived/Test/ToyasCard.lean, 'card_holds'). Laid BY PROGRAM, IN A SANDBOX (cutbox-door.mjs). By AI agents, Wed Nov 11 2026. No macro, syntax, notation, axiom, sorry.
-/
import Derived.Test.YtjbhcjfifkfmbaaDoorRows
import GoSem.ClaimSeven
namespace Go.Proofs.YtjbhcjfifkfmbaaDoor
namespace Rows

/-- THE TIED CARD OF 'laws.FnExactAggText'. -/
def fnExactAggTextCard : Claim7 := { stood := { row := fnExactAggTextRow, standIns := [], harness := (true, "ef7567d8b85b3890017538c7272441981d1d827efec1f58d88b00b12af1acd1a"), looks := false }, kinds := [], alts := [], laidByText := true, laidKinds := [.data, .data, .data], laidTests := true, laidLooks := .later }
def FnExactAggTextCardSaid : Prop := Claim7.holds Tryd.pinned (.plain (OpenSpec.ofChange fnExactAggTextSpec)) fnExactAggTextCard

/-- THE SECOND FORM's CARD OF 'laws.FnExactAggText'. -/
def fnExactAggTextUptoCard : Claim7 := { stood := { row := fnExactAggTextUptoRow, standIns := [], harness := (true, "ef7567d8b85b3890017538c7272441981d1d827efec1f58d88b00b12af1acd1a"), looks := false }, kinds := [], alts := [], laidByText := true, laidKinds := [.data, .data, .data], laidTests := true, laidLooks := .later }
def FnExactAggTextUptoCardSaid : Prop := Claim7.holds Tryd.pinned (.plain (OpenSpec.upto fnExactAggTextSpec)) fnExactAggTextUptoCard
end Rows
end Go.Proofs.YtjbhcjfifkfmbaaDoor
