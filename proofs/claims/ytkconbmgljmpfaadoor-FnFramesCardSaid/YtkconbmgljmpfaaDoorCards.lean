/-
  DERIVED. GIVEN WITH THE SEED: THE CARDS: each row of YtkconbmgljmpfaaDoorRows.lean that lists a variable, with what it lists TIED to the program's text (the seventh form; the later family's looks); each row that meets fmt, with fmt's text TOLD by the authors' own Lean function (tested against real Go, not proved from fmt's source: count such statements apart). THE CARD IS WHAT COUNTS. Prove the row's statement (the work); the ties are given (YtkconbmgljmpfaaDoorTie.lean); close each card by the builder's one call (the guide's Derived/Test/ToyasCard.lean, 'card_holds'). Laid BY PROGRAM, IN A SANDBOX (cutbox-door.mjs). By AI agents, Wed Nov 11 2026. No macro, syntax, notation, axiom, sorry.
-/
import Derived.Test.YtkconbmgljmpfaaDoorRows
import GoSem.ClaimSeven
namespace Go.Proofs.YtkconbmgljmpfaaDoor
namespace Rows

/-- THE TIED CARD OF 'laws.FnPieces'. -/
def fnPiecesCard : Claim7 := { stood := { row := fnPiecesRow, standIns := [], harness := (true, "ca14bbd0c195a793fabd302efd60fef5899083e1f60b57a9d24a289850c41936"), looks := true }, kinds := [], alts := [], laidByText := true, laidKinds := [.sentinel, .sentinel], laidTests := true, laidLooks := .later }
def FnPiecesCardSaid : Prop := Claim7.holds Tryd.pinned (.plain (OpenSpec.ofChange fnPiecesSpec)) fnPiecesCard

/-- THE TIED CARD OF 'laws.FnFrames'. -/
def fnFramesCard : Claim7 := { stood := { row := fnFramesRow, standIns := [], harness := (true, "ca14bbd0c195a793fabd302efd60fef5899083e1f60b57a9d24a289850c41936"), looks := true }, kinds := [], alts := [], laidByText := true, laidKinds := [.sentinel, .sentinel], laidTests := true, laidLooks := .later }
def FnFramesCardSaid : Prop := Claim7.holds Tryd.pinned (.plain (OpenSpec.ofChange fnFramesSpec)) fnFramesCard

/-- THE TIED CARD OF 'laws.FnExactTakeFrame'. -/
def fnExactTakeFrameCard : Claim7 := { stood := { row := fnExactTakeFrameRow, standIns := [], harness := (true, "ca14bbd0c195a793fabd302efd60fef5899083e1f60b57a9d24a289850c41936"), looks := true }, kinds := [], alts := [], laidByText := true, laidKinds := [.sentinel, .sentinel], laidTests := true, laidLooks := .later }
def FnExactTakeFrameCardSaid : Prop := Claim7.holds Tryd.pinned (.plain (OpenSpec.ofChange fnExactTakeFrameSpec)) fnExactTakeFrameCard

/-- THE TIED CARD OF 'laws.FnExactTakeNext'. -/
def fnExactTakeNextCard : Claim7 := { stood := { row := fnExactTakeNextRow, standIns := [], harness := (true, "ca14bbd0c195a793fabd302efd60fef5899083e1f60b57a9d24a289850c41936"), looks := true }, kinds := [], alts := [], laidByText := true, laidKinds := [.sentinel, .sentinel], laidTests := true, laidLooks := .later }
def FnExactTakeNextCardSaid : Prop := Claim7.holds Tryd.pinned (.plain (OpenSpec.ofChange fnExactTakeNextSpec)) fnExactTakeNextCard

/-- THE TIED CARD OF 'laws.FnExactAllFrames'. -/
def fnExactAllFramesCard : Claim7 := { stood := { row := fnExactAllFramesRow, standIns := [], harness := (true, "ca14bbd0c195a793fabd302efd60fef5899083e1f60b57a9d24a289850c41936"), looks := true }, kinds := [], alts := [], laidByText := true, laidKinds := [.sentinel, .sentinel], laidTests := true, laidLooks := .later }
def FnExactAllFramesCardSaid : Prop := Claim7.holds Tryd.pinned (.plain (OpenSpec.ofChange fnExactAllFramesSpec)) fnExactAllFramesCard

/-- THE SECOND FORM's CARD OF 'laws.FnPieces'. -/
def fnPiecesUptoCard : Claim7 := { stood := { row := fnPiecesUptoRow, standIns := [], harness := (true, "ca14bbd0c195a793fabd302efd60fef5899083e1f60b57a9d24a289850c41936"), looks := true }, kinds := [], alts := [], laidByText := true, laidKinds := [.sentinel, .sentinel], laidTests := true, laidLooks := .later }
def FnPiecesUptoCardSaid : Prop := Claim7.holds Tryd.pinned (.plain (OpenSpec.upto fnPiecesSpec)) fnPiecesUptoCard

/-- THE SECOND FORM's CARD OF 'laws.FnFrames'. -/
def fnFramesUptoCard : Claim7 := { stood := { row := fnFramesUptoRow, standIns := [], harness := (true, "ca14bbd0c195a793fabd302efd60fef5899083e1f60b57a9d24a289850c41936"), looks := true }, kinds := [], alts := [], laidByText := true, laidKinds := [.sentinel, .sentinel], laidTests := true, laidLooks := .later }
def FnFramesUptoCardSaid : Prop := Claim7.holds Tryd.pinned (.plain (OpenSpec.upto fnFramesSpec)) fnFramesUptoCard

/-- THE SECOND FORM's CARD OF 'laws.FnExactTakeFrame'. -/
def fnExactTakeFrameUptoCard : Claim7 := { stood := { row := fnExactTakeFrameUptoRow, standIns := [], harness := (true, "ca14bbd0c195a793fabd302efd60fef5899083e1f60b57a9d24a289850c41936"), looks := true }, kinds := [], alts := [], laidByText := true, laidKinds := [.sentinel, .sentinel], laidTests := true, laidLooks := .later }
def FnExactTakeFrameUptoCardSaid : Prop := Claim7.holds Tryd.pinned (.plain (OpenSpec.upto fnExactTakeFrameSpec)) fnExactTakeFrameUptoCard

/-- THE SECOND FORM's CARD OF 'laws.FnExactTakeNext'. -/
def fnExactTakeNextUptoCard : Claim7 := { stood := { row := fnExactTakeNextUptoRow, standIns := [], harness := (true, "ca14bbd0c195a793fabd302efd60fef5899083e1f60b57a9d24a289850c41936"), looks := true }, kinds := [], alts := [], laidByText := true, laidKinds := [.sentinel, .sentinel], laidTests := true, laidLooks := .later }
def FnExactTakeNextUptoCardSaid : Prop := Claim7.holds Tryd.pinned (.plain (OpenSpec.upto fnExactTakeNextSpec)) fnExactTakeNextUptoCard

/-- THE SECOND FORM's CARD OF 'laws.FnExactAllFrames'. -/
def fnExactAllFramesUptoCard : Claim7 := { stood := { row := fnExactAllFramesUptoRow, standIns := [], harness := (true, "ca14bbd0c195a793fabd302efd60fef5899083e1f60b57a9d24a289850c41936"), looks := true }, kinds := [], alts := [], laidByText := true, laidKinds := [.sentinel, .sentinel], laidTests := true, laidLooks := .later }
def FnExactAllFramesUptoCardSaid : Prop := Claim7.holds Tryd.pinned (.plain (OpenSpec.upto fnExactAllFramesSpec)) fnExactAllFramesUptoCard
end Rows
end Go.Proofs.YtkconbmgljmpfaaDoor
