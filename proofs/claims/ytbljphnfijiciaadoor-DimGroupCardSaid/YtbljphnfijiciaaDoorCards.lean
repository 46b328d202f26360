/-
  DERIVED. GIVEN WITH THE SEED: THE CARDS: each row of YtbljphnfijiciaaDoorRows.lean that lists a variable, with what it lists TIED to the program's text (the seventh form; the later family's looks); each row that meets fmt, with fmt's text TOLD by the authors' own Lean function (tested against real Go, not proved from fmt's source: count such statements apart). THE CARD IS WHAT COUNTS. Prove the row's statement (the work); the ties are given (YtbljphnfijiciaaDoorTie.lean); close each card by the builder's one call (the guide's Derived/Test/ToyasCard.lean, 'card_holds'). Laid BY PROGRAM, IN A SANDBOX (cutbox-door.mjs). By AI agents, Wed Nov 11 2026. No macro, syntax, notation, axiom, sorry.
-/
import Derived.Test.YtbljphnfijiciaaDoorRows
import GoSem.ClaimSeven
namespace Go.Proofs.YtbljphnfijiciaaDoor
namespace Rows

/-- THE TIED CARD OF 'steelyardlaw11.DimTells'. -/
def dimTellsCard : Claim7 := { stood := { row := dimTellsRow, standIns := [], harness := (true, "41b7e1047cf0e16ed44ee93646efe3516a2759ec3524a5843183e04ef8f748d4"), looks := false }, kinds := [], alts := [], laidByText := true, laidKinds := [.data, .data, .data, .data], laidTests := true, laidLooks := .later }
def DimTellsCardSaid : Prop := Claim7.holds Tryd.pinned (.plain (OpenSpec.ofChange dimTellsSpec)) dimTellsCard

/-- THE TIED CARD OF 'steelyardlaw11.DimGroup'. -/
def dimGroupCard : Claim7 := { stood := { row := dimGroupRow, standIns := [], harness := (true, "41b7e1047cf0e16ed44ee93646efe3516a2759ec3524a5843183e04ef8f748d4"), looks := false }, kinds := [], alts := [], laidByText := true, laidKinds := [.data, .data, .data, .data], laidTests := true, laidLooks := .later }
def DimGroupCardSaid : Prop := Claim7.holds Tryd.pinned (.plain (OpenSpec.ofChange dimGroupSpec)) dimGroupCard

/-- THE TIED CARD OF 'steelyardlaw11.DimTexts'. -/
def dimTextsCard : Claim7 := { stood := { row := dimTextsRow, standIns := [], harness := (true, "41b7e1047cf0e16ed44ee93646efe3516a2759ec3524a5843183e04ef8f748d4"), looks := false }, kinds := [], alts := [], laidByText := true, laidKinds := [.data, .data, .data, .data], laidTests := true, laidLooks := .later }
def DimTextsCardSaid : Prop := Claim7.holds Tryd.pinned (.plain (OpenSpec.ofChange dimTextsSpec)) dimTextsCard

/-- THE TIED CARD OF 'steelyardlaw11.DimOne'. -/
def dimOneCard : Claim7 := { stood := { row := dimOneRow, standIns := [], harness := (true, "41b7e1047cf0e16ed44ee93646efe3516a2759ec3524a5843183e04ef8f748d4"), looks := false }, kinds := [], alts := [], laidByText := true, laidKinds := [.data, .data, .data, .data], laidTests := true, laidLooks := .later }
def DimOneCardSaid : Prop := Claim7.holds Tryd.pinned (.plain (OpenSpec.ofChange dimOneSpec)) dimOneCard

/-- THE SECOND FORM's CARD OF 'steelyardlaw11.DimTells'. -/
def dimTellsUptoCard : Claim7 := { stood := { row := dimTellsUptoRow, standIns := [], harness := (true, "41b7e1047cf0e16ed44ee93646efe3516a2759ec3524a5843183e04ef8f748d4"), looks := false }, kinds := [], alts := [], laidByText := true, laidKinds := [.data, .data, .data, .data], laidTests := true, laidLooks := .later }
def DimTellsUptoCardSaid : Prop := Claim7.holds Tryd.pinned (.plain (OpenSpec.upto dimTellsSpec)) dimTellsUptoCard

/-- THE SECOND FORM's CARD OF 'steelyardlaw11.DimGroup'. -/
def dimGroupUptoCard : Claim7 := { stood := { row := dimGroupUptoRow, standIns := [], harness := (true, "41b7e1047cf0e16ed44ee93646efe3516a2759ec3524a5843183e04ef8f748d4"), looks := false }, kinds := [], alts := [], laidByText := true, laidKinds := [.data, .data, .data, .data], laidTests := true, laidLooks := .later }
def DimGroupUptoCardSaid : Prop := Claim7.holds Tryd.pinned (.plain (OpenSpec.upto dimGroupSpec)) dimGroupUptoCard

/-- THE SECOND FORM's CARD OF 'steelyardlaw11.DimTexts'. -/
def dimTextsUptoCard : Claim7 := { stood := { row := dimTextsUptoRow, standIns := [], harness := (true, "41b7e1047cf0e16ed44ee93646efe3516a2759ec3524a5843183e04ef8f748d4"), looks := false }, kinds := [], alts := [], laidByText := true, laidKinds := [.data, .data, .data, .data], laidTests := true, laidLooks := .later }
def DimTextsUptoCardSaid : Prop := Claim7.holds Tryd.pinned (.plain (OpenSpec.upto dimTextsSpec)) dimTextsUptoCard

/-- THE SECOND FORM's CARD OF 'steelyardlaw11.DimOne'. -/
def dimOneUptoCard : Claim7 := { stood := { row := dimOneUptoRow, standIns := [], harness := (true, "41b7e1047cf0e16ed44ee93646efe3516a2759ec3524a5843183e04ef8f748d4"), looks := false }, kinds := [], alts := [], laidByText := true, laidKinds := [.data, .data, .data, .data], laidTests := true, laidLooks := .later }
def DimOneUptoCardSaid : Prop := Claim7.holds Tryd.pinned (.plain (OpenSpec.upto dimOneSpec)) dimOneUptoCard
end Rows
end Go.Proofs.YtbljphnfijiciaaDoor
