/-
  DERIVED. GIVEN WITH THE SEED: THE CARDS: each row of YtjpoolddgocbbaaGreatDoorRows.lean that lists a variable, with what it lists TIED to the program's text (the seventh form; the later family's looks); each row that meets fmt, with fmt's text TOLD by the authors' own Lean function (tested against real Go, not proved from fmt's source: count such statements apart). THE CARD IS WHAT COUNTS. Prove the row's statement (the work); the ties are given (YtjpoolddgocbbaaGreatDoorTie.lean); close each card by the builder's one call (the guide's Derived/Test/ToyasCard.lean, 'card_holds'). Laid BY PROGRAM, IN A SANDBOX (cutbox-door.mjs). By AI agents, Wed Nov 11 2026. No macro, syntax, notation, axiom, sorry.
-/
import Derived.Test.YtjpoolddgocbbaaGreatDoorRows
import GoSem.ClaimSeven
namespace Go.Proofs.YtjpoolddgocbbaaGreatDoor
namespace Rows

/-- THE TIED CARD OF 'steelyardlaw09.LiteralTells'. -/
def literalTellsCard : Claim7 := { stood := { row := literalTellsRow, standIns := [], harness := (true, "80762345052b688362e4290b8513324bedb9d801165968221171a73c6c4a510b"), looks := true }, kinds := [], alts := [], laidByText := true, laidKinds := [.data, .data, .data, .sentinel, .sentinel, .data, .data], laidTests := true, laidLooks := .later }
def LiteralTellsCardSaid : Prop := Claim7.holds Tryz.pinned (.plain (OpenSpec.ofChange literalTellsSpec)) literalTellsCard

/-- THE TIED CARD OF 'steelyardlaw09.LiteralNoughts'. -/
def literalNoughtsCard : Claim7 := { stood := { row := literalNoughtsRow, standIns := [], harness := (true, "80762345052b688362e4290b8513324bedb9d801165968221171a73c6c4a510b"), looks := true }, kinds := [], alts := [], laidByText := true, laidKinds := [.data, .data, .data, .sentinel, .sentinel, .data, .data], laidTests := true, laidLooks := .later }
def LiteralNoughtsCardSaid : Prop := Claim7.holds Tryz.pinned (.plain (OpenSpec.ofChange literalNoughtsSpec)) literalNoughtsCard

/-- THE TIED CARD OF 'steelyardlaw09.LiteralLongest'. -/
def literalLongestCard : Claim7 := { stood := { row := literalLongestRow, standIns := [], harness := (true, "80762345052b688362e4290b8513324bedb9d801165968221171a73c6c4a510b"), looks := true }, kinds := [], alts := [], laidByText := true, laidKinds := [.data, .data, .data, .sentinel, .sentinel, .data, .data], laidTests := true, laidLooks := .later }
def LiteralLongestCardSaid : Prop := Claim7.holds Tryz.pinned (.plain (OpenSpec.ofChange literalLongestSpec)) literalLongestCard

/-- THE TIED CARD OF 'steelyardlaw09.LiteralParts'. -/
def literalPartsCard : Claim7 := { stood := { row := literalPartsRow, standIns := [], harness := (true, "80762345052b688362e4290b8513324bedb9d801165968221171a73c6c4a510b"), looks := true }, kinds := [], alts := [], laidByText := true, laidKinds := [.data, .data, .data, .sentinel, .sentinel, .data, .data], laidTests := true, laidLooks := .later }
def LiteralPartsCardSaid : Prop := Claim7.holds Tryz.pinned (.plain (OpenSpec.ofChange literalPartsSpec)) literalPartsCard

/-- THE SECOND FORM's CARD OF 'steelyardlaw09.LiteralTells'. -/
def literalTellsUptoCard : Claim7 := { stood := { row := literalTellsUptoRow, standIns := [], harness := (true, "80762345052b688362e4290b8513324bedb9d801165968221171a73c6c4a510b"), looks := true }, kinds := [], alts := [], laidByText := true, laidKinds := [.data, .data, .data, .sentinel, .sentinel, .data, .data], laidTests := true, laidLooks := .later }
def LiteralTellsUptoCardSaid : Prop := Claim7.holds Tryz.pinned (.plain (OpenSpec.upto literalTellsSpec)) literalTellsUptoCard

/-- THE SECOND FORM's CARD OF 'steelyardlaw09.LiteralNoughts'. -/
def literalNoughtsUptoCard : Claim7 := { stood := { row := literalNoughtsUptoRow, standIns := [], harness := (true, "80762345052b688362e4290b8513324bedb9d801165968221171a73c6c4a510b"), looks := true }, kinds := [], alts := [], laidByText := true, laidKinds := [.data, .data, .data, .sentinel, .sentinel, .data, .data], laidTests := true, laidLooks := .later }
def LiteralNoughtsUptoCardSaid : Prop := Claim7.holds Tryz.pinned (.plain (OpenSpec.upto literalNoughtsSpec)) literalNoughtsUptoCard

/-- THE SECOND FORM's CARD OF 'steelyardlaw09.LiteralLongest'. -/
def literalLongestUptoCard : Claim7 := { stood := { row := literalLongestUptoRow, standIns := [], harness := (true, "80762345052b688362e4290b8513324bedb9d801165968221171a73c6c4a510b"), looks := true }, kinds := [], alts := [], laidByText := true, laidKinds := [.data, .data, .data, .sentinel, .sentinel, .data, .data], laidTests := true, laidLooks := .later }
def LiteralLongestUptoCardSaid : Prop := Claim7.holds Tryz.pinned (.plain (OpenSpec.upto literalLongestSpec)) literalLongestUptoCard

/-- THE SECOND FORM's CARD OF 'steelyardlaw09.LiteralParts'. -/
def literalPartsUptoCard : Claim7 := { stood := { row := literalPartsUptoRow, standIns := [], harness := (true, "80762345052b688362e4290b8513324bedb9d801165968221171a73c6c4a510b"), looks := true }, kinds := [], alts := [], laidByText := true, laidKinds := [.data, .data, .data, .sentinel, .sentinel, .data, .data], laidTests := true, laidLooks := .later }
def LiteralPartsUptoCardSaid : Prop := Claim7.holds Tryz.pinned (.plain (OpenSpec.upto literalPartsSpec)) literalPartsUptoCard
end Rows
end Go.Proofs.YtjpoolddgocbbaaGreatDoor
