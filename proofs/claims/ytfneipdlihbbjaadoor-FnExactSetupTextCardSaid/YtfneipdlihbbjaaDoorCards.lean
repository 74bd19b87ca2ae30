/-
  DERIVED. GIVEN WITH THE SEED: THE CARDS: each row of YtfneipdlihbbjaaDoorRows.lean that lists a variable, with what it lists TIED to the program's text (the seventh form; the later family's looks); each row that meets fmt, with fmt's text TOLD by the authors' own Lean function (tested against real Go, not proved from fmt's source: count such statements apart). THE CARD IS WHAT COUNTS. Prove the row's statement (the work); the ties are given (YtfneipdlihbbjaaDoorTie.lean); close each card by the builder's one call (the guide's Derived/Test/ToyasCard.lean, 'card_holds'). Laid BY PROGRAM, IN A SANDBOX (cutbox-door.mjs). By AI agents, Wed Nov 11 2026. No macro, syntax, notation, axiom, sorry.
-/
import Derived.Test.YtfneipdlihbbjaaDoorRows
import GoSem.ClaimSeven
namespace Go.Proofs.YtfneipdlihbbjaaDoor
namespace Rows

/-- THE TIED CARD OF 'laws.FnSetups'. -/
def fnSetupsCard : Claim7 := { stood := { row := fnSetupsRow, standIns := [], harness := (true, "6152d75f7b2e1f01df8510bbda93d86e47342b9872ffeeb21a698805746ca08a"), looks := false }, kinds := [], alts := [], laidByText := true, laidKinds := [.data, .data, .data, .data, .data], laidTests := true, laidLooks := .later }
def FnSetupsCardSaid : Prop := Claim7.holds Tryd.pinned (.plain (OpenSpec.ofChange fnSetupsSpec)) fnSetupsCard

/-- THE TIED CARD OF 'laws.FnExactSetupText'. -/
def fnExactSetupTextCard : Claim7 := { stood := { row := fnExactSetupTextRow, standIns := [], harness := (true, "6152d75f7b2e1f01df8510bbda93d86e47342b9872ffeeb21a698805746ca08a"), looks := false }, kinds := [], alts := [], laidByText := true, laidKinds := [.data, .data, .data, .data, .data], laidTests := true, laidLooks := .later }
def FnExactSetupTextCardSaid : Prop := Claim7.holds Tryd.pinned (.plain (OpenSpec.ofChange fnExactSetupTextSpec)) fnExactSetupTextCard

/-- THE TIED CARD OF 'laws.FnExactParseSetup'. -/
def fnExactParseSetupCard : Claim7 := { stood := { row := fnExactParseSetupRow, standIns := [], harness := (true, "6152d75f7b2e1f01df8510bbda93d86e47342b9872ffeeb21a698805746ca08a"), looks := false }, kinds := [], alts := [], laidByText := true, laidKinds := [.data, .data, .data, .data, .data], laidTests := true, laidLooks := .later }
def FnExactParseSetupCardSaid : Prop := Claim7.holds Tryd.pinned (.plain (OpenSpec.ofChange fnExactParseSetupSpec)) fnExactParseSetupCard

/-- THE TIED CARD OF 'laws.FnExactNewEngine'. -/
def fnExactNewEngineCard : Claim7 := { stood := { row := fnExactNewEngineRow, standIns := [], harness := (true, "6152d75f7b2e1f01df8510bbda93d86e47342b9872ffeeb21a698805746ca08a"), looks := false }, kinds := [], alts := [], laidByText := true, laidKinds := [.data, .data], laidTests := true, laidLooks := .later }
def FnExactNewEngineCardSaid : Prop := Claim7.holds Tryd.pinned (.plain (OpenSpec.ofChange fnExactNewEngineSpec)) fnExactNewEngineCard

/-- THE TIED CARD OF 'laws.FnExactEngineText'. -/
def fnExactEngineTextCard : Claim7 := { stood := { row := fnExactEngineTextRow, standIns := [], harness := (true, "6152d75f7b2e1f01df8510bbda93d86e47342b9872ffeeb21a698805746ca08a"), looks := false }, kinds := [], alts := [], laidByText := true, laidKinds := [.data, .data, .data], laidTests := true, laidLooks := .later }
def FnExactEngineTextCardSaid : Prop := Claim7.holds Tryd.pinned (.plain (OpenSpec.ofChange fnExactEngineTextSpec)) fnExactEngineTextCard

/-- THE SECOND FORM's CARD OF 'laws.FnSetups'. -/
def fnSetupsUptoCard : Claim7 := { stood := { row := fnSetupsUptoRow, standIns := [], harness := (true, "6152d75f7b2e1f01df8510bbda93d86e47342b9872ffeeb21a698805746ca08a"), looks := false }, kinds := [], alts := [], laidByText := true, laidKinds := [.data, .data, .data, .data, .data], laidTests := true, laidLooks := .later }
def FnSetupsUptoCardSaid : Prop := Claim7.holds Tryd.pinned (.plain (OpenSpec.upto fnSetupsSpec)) fnSetupsUptoCard

/-- THE SECOND FORM's CARD OF 'laws.FnExactSetupText'. -/
def fnExactSetupTextUptoCard : Claim7 := { stood := { row := fnExactSetupTextUptoRow, standIns := [], harness := (true, "6152d75f7b2e1f01df8510bbda93d86e47342b9872ffeeb21a698805746ca08a"), looks := false }, kinds := [], alts := [], laidByText := true, laidKinds := [.data, .data, .data, .data, .data], laidTests := true, laidLooks := .later }
def FnExactSetupTextUptoCardSaid : Prop := Claim7.holds Tryd.pinned (.plain (OpenSpec.upto fnExactSetupTextSpec)) fnExactSetupTextUptoCard

/-- THE SECOND FORM's CARD OF 'laws.FnExactParseSetup'. -/
def fnExactParseSetupUptoCard : Claim7 := { stood := { row := fnExactParseSetupUptoRow, standIns := [], harness := (true, "6152d75f7b2e1f01df8510bbda93d86e47342b9872ffeeb21a698805746ca08a"), looks := false }, kinds := [], alts := [], laidByText := true, laidKinds := [.data, .data, .data, .data, .data], laidTests := true, laidLooks := .later }
def FnExactParseSetupUptoCardSaid : Prop := Claim7.holds Tryd.pinned (.plain (OpenSpec.upto fnExactParseSetupSpec)) fnExactParseSetupUptoCard

/-- THE SECOND FORM's CARD OF 'laws.FnExactNewEngine'. -/
def fnExactNewEngineUptoCard : Claim7 := { stood := { row := fnExactNewEngineUptoRow, standIns := [], harness := (true, "6152d75f7b2e1f01df8510bbda93d86e47342b9872ffeeb21a698805746ca08a"), looks := false }, kinds := [], alts := [], laidByText := true, laidKinds := [.data, .data], laidTests := true, laidLooks := .later }
def FnExactNewEngineUptoCardSaid : Prop := Claim7.holds Tryd.pinned (.plain (OpenSpec.upto fnExactNewEngineSpec)) fnExactNewEngineUptoCard

/-- THE SECOND FORM's CARD OF 'laws.FnExactEngineText'. -/
def fnExactEngineTextUptoCard : Claim7 := { stood := { row := fnExactEngineTextUptoRow, standIns := [], harness := (true, "6152d75f7b2e1f01df8510bbda93d86e47342b9872ffeeb21a698805746ca08a"), looks := false }, kinds := [], alts := [], laidByText := true, laidKinds := [.data, .data, .data], laidTests := true, laidLooks := .later }
def FnExactEngineTextUptoCardSaid : Prop := Claim7.holds Tryd.pinned (.plain (OpenSpec.upto fnExactEngineTextSpec)) fnExactEngineTextUptoCard
end Rows
end Go.Proofs.YtfneipdlihbbjaaDoor
