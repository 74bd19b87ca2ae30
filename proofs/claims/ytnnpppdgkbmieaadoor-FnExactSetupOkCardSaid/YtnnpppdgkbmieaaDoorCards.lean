/-
  DERIVED. GIVEN WITH THE SEED: THE CARDS: each row of YtnnpppdgkbmieaaDoorRows.lean that lists a variable, with what it lists TIED to the program's text (the seventh form; the later family's looks); each row that meets fmt, with fmt's text TOLD by the authors' own Lean function (tested against real Go, not proved from fmt's source: count such statements apart). THE CARD IS WHAT COUNTS. Prove the row's statement (the work); the ties are given (YtnnpppdgkbmieaaDoorTie.lean); close each card by the builder's one call (the guide's Derived/Test/ToyasCard.lean, 'card_holds'). Laid BY PROGRAM, IN A SANDBOX (cutbox-door.mjs). By AI agents, Wed Nov 11 2026. No macro, syntax, notation, axiom, sorry.
-/
import Derived.Test.YtnnpppdgkbmieaaDoorRows
import GoSem.ClaimSeven
namespace Go.Proofs.YtnnpppdgkbmieaaDoor
namespace Rows

/-- THE TIED CARD OF 'laws.FnSetups'. -/
def fnSetupsCard : Claim7 := { stood := { row := fnSetupsRow, standIns := [], harness := (true, "320cd58082749a3d055571d3b382db62e8ba8f5693fac747f3c8ec8bd5b0930b"), looks := false }, kinds := [], alts := [], laidByText := true, laidKinds := [.data, .data, .data, .data, .data], laidTests := true, laidLooks := .later }
def FnSetupsCardSaid : Prop := Claim7.holds Tryd.pinned (.plain (OpenSpec.ofChange fnSetupsSpec)) fnSetupsCard

/-- THE TIED CARD OF 'laws.FnExactSetupOk'. -/
def fnExactSetupOkCard : Claim7 := { stood := { row := fnExactSetupOkRow, standIns := [], harness := (true, "320cd58082749a3d055571d3b382db62e8ba8f5693fac747f3c8ec8bd5b0930b"), looks := false }, kinds := [], alts := [], laidByText := true, laidKinds := [.data, .data], laidTests := true, laidLooks := .later }
def FnExactSetupOkCardSaid : Prop := Claim7.holds Tryd.pinned (.plain (OpenSpec.ofChange fnExactSetupOkSpec)) fnExactSetupOkCard

/-- THE TIED CARD OF 'laws.FnExactSetupText'. -/
def fnExactSetupTextCard : Claim7 := { stood := { row := fnExactSetupTextRow, standIns := [], harness := (true, "320cd58082749a3d055571d3b382db62e8ba8f5693fac747f3c8ec8bd5b0930b"), looks := false }, kinds := [], alts := [], laidByText := true, laidKinds := [.data, .data, .data, .data, .data], laidTests := true, laidLooks := .later }
def FnExactSetupTextCardSaid : Prop := Claim7.holds Tryd.pinned (.plain (OpenSpec.ofChange fnExactSetupTextSpec)) fnExactSetupTextCard

/-- THE TIED CARD OF 'laws.FnExactParseSetup'. -/
def fnExactParseSetupCard : Claim7 := { stood := { row := fnExactParseSetupRow, standIns := [], harness := (true, "320cd58082749a3d055571d3b382db62e8ba8f5693fac747f3c8ec8bd5b0930b"), looks := false }, kinds := [], alts := [], laidByText := true, laidKinds := [.data, .data, .data, .data, .data], laidTests := true, laidLooks := .later }
def FnExactParseSetupCardSaid : Prop := Claim7.holds Tryd.pinned (.plain (OpenSpec.ofChange fnExactParseSetupSpec)) fnExactParseSetupCard

/-- THE TIED CARD OF 'laws.FnExactLinkRoom'. -/
def fnExactLinkRoomCard : Claim7 := { stood := { row := fnExactLinkRoomRow, standIns := [], harness := (true, "320cd58082749a3d055571d3b382db62e8ba8f5693fac747f3c8ec8bd5b0930b"), looks := false }, kinds := [], alts := [], laidByText := true, laidKinds := [.data, .data], laidTests := true, laidLooks := .later }
def FnExactLinkRoomCardSaid : Prop := Claim7.holds Tryd.pinned (.plain (OpenSpec.ofChange fnExactLinkRoomSpec)) fnExactLinkRoomCard

/-- THE SECOND FORM's CARD OF 'laws.FnSetups'. -/
def fnSetupsUptoCard : Claim7 := { stood := { row := fnSetupsUptoRow, standIns := [], harness := (true, "320cd58082749a3d055571d3b382db62e8ba8f5693fac747f3c8ec8bd5b0930b"), looks := false }, kinds := [], alts := [], laidByText := true, laidKinds := [.data, .data, .data, .data, .data], laidTests := true, laidLooks := .later }
def FnSetupsUptoCardSaid : Prop := Claim7.holds Tryd.pinned (.plain (OpenSpec.upto fnSetupsSpec)) fnSetupsUptoCard

/-- THE SECOND FORM's CARD OF 'laws.FnExactSetupOk'. -/
def fnExactSetupOkUptoCard : Claim7 := { stood := { row := fnExactSetupOkUptoRow, standIns := [], harness := (true, "320cd58082749a3d055571d3b382db62e8ba8f5693fac747f3c8ec8bd5b0930b"), looks := false }, kinds := [], alts := [], laidByText := true, laidKinds := [.data, .data], laidTests := true, laidLooks := .later }
def FnExactSetupOkUptoCardSaid : Prop := Claim7.holds Tryd.pinned (.plain (OpenSpec.upto fnExactSetupOkSpec)) fnExactSetupOkUptoCard

/-- THE SECOND FORM's CARD OF 'laws.FnExactSetupText'. -/
def fnExactSetupTextUptoCard : Claim7 := { stood := { row := fnExactSetupTextUptoRow, standIns := [], harness := (true, "320cd58082749a3d055571d3b382db62e8ba8f5693fac747f3c8ec8bd5b0930b"), looks := false }, kinds := [], alts := [], laidByText := true, laidKinds := [.data, .data, .data, .data, .data], laidTests := true, laidLooks := .later }
def FnExactSetupTextUptoCardSaid : Prop := Claim7.holds Tryd.pinned (.plain (OpenSpec.upto fnExactSetupTextSpec)) fnExactSetupTextUptoCard

/-- THE SECOND FORM's CARD OF 'laws.FnExactParseSetup'. -/
def fnExactParseSetupUptoCard : Claim7 := { stood := { row := fnExactParseSetupUptoRow, standIns := [], harness := (true, "320cd58082749a3d055571d3b382db62e8ba8f5693fac747f3c8ec8bd5b0930b"), looks := false }, kinds := [], alts := [], laidByText := true, laidKinds := [.data, .data, .data, .data, .data], laidTests := true, laidLooks := .later }
def FnExactParseSetupUptoCardSaid : Prop := Claim7.holds Tryd.pinned (.plain (OpenSpec.upto fnExactParseSetupSpec)) fnExactParseSetupUptoCard

/-- THE SECOND FORM's CARD OF 'laws.FnExactLinkRoom'. -/
def fnExactLinkRoomUptoCard : Claim7 := { stood := { row := fnExactLinkRoomUptoRow, standIns := [], harness := (true, "320cd58082749a3d055571d3b382db62e8ba8f5693fac747f3c8ec8bd5b0930b"), looks := false }, kinds := [], alts := [], laidByText := true, laidKinds := [.data, .data], laidTests := true, laidLooks := .later }
def FnExactLinkRoomUptoCardSaid : Prop := Claim7.holds Tryd.pinned (.plain (OpenSpec.upto fnExactLinkRoomSpec)) fnExactLinkRoomUptoCard
end Rows
end Go.Proofs.YtnnpppdgkbmieaaDoor
