/-
  DERIVED. GIVEN WITH THE SEED: THE CARDS: each row of YtchbmnpajnlijaaDoorRows.lean that lists a variable, with what it lists TIED to the program's text (the seventh form; the later family's looks); each row that meets fmt, with fmt's text TOLD by the authors' own Lean function (tested against real Go, not proved from fmt's source: count such statements apart). THE CARD IS WHAT COUNTS. Prove the row's statement (the work); the ties are given (YtchbmnpajnlijaaDoorTie.lean); close each card by the builder's one call (the guide's Derived/Test/ToyasCard.lean, 'card_holds'). Laid BY PROGRAM, IN A SANDBOX (cutbox-door.mjs). By AI agents, Wed Nov 11 2026. No macro, syntax, notation, axiom, sorry.
-/
import Derived.Test.YtchbmnpajnlijaaDoorRows
import GoSem.ClaimSeven
namespace Go.Proofs.YtchbmnpajnlijaaDoor
namespace Rows

/-- THE TIED CARD OF 'laws.FnExactSessionText'. -/
def fnExactSessionTextCard : Claim7 := { stood := { row := fnExactSessionTextRow, standIns := [], harness := (true, "505988190ca946381fa892ecc22b1b5b5f5adf99455fae4a158754f26a63e3aa"), looks := false }, kinds := [], alts := [], laidByText := true, laidKinds := [.data, .data, .data], laidTests := true, laidLooks := .later }
def FnExactSessionTextCardSaid : Prop := Claim7.holds Tryd.pinned (.plain (OpenSpec.ofChange fnExactSessionTextSpec)) fnExactSessionTextCard

/-- THE SECOND FORM's CARD OF 'laws.FnExactSessionText'. -/
def fnExactSessionTextUptoCard : Claim7 := { stood := { row := fnExactSessionTextUptoRow, standIns := [], harness := (true, "505988190ca946381fa892ecc22b1b5b5f5adf99455fae4a158754f26a63e3aa"), looks := false }, kinds := [], alts := [], laidByText := true, laidKinds := [.data, .data, .data], laidTests := true, laidLooks := .later }
def FnExactSessionTextUptoCardSaid : Prop := Claim7.holds Tryd.pinned (.plain (OpenSpec.upto fnExactSessionTextSpec)) fnExactSessionTextUptoCard
end Rows
end Go.Proofs.YtchbmnpajnlijaaDoor
