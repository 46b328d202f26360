/-
  DERIVED. GIVEN WITH THE SEED: THE CARDS: each row of YtheaepceghnkpabDoorRows.lean that lists a variable, with what it lists TIED to the program's text (the seventh form; the later family's looks); each row that meets fmt, with fmt's text TOLD by the authors' own Lean function (tested against real Go, not proved from fmt's source: count such statements apart). THE CARD IS WHAT COUNTS. Prove the row's statement (the work); the ties are given (YtheaepceghnkpabDoorTie.lean); close each card by the builder's one call (the guide's Derived/Test/ToyasCard.lean, 'card_holds'). Laid BY PROGRAM, IN A SANDBOX (cutbox-door.mjs). By AI agents, Wed Nov 11 2026. No macro, syntax, notation, axiom, sorry.
-/
import Derived.Test.YtheaepceghnkpabDoorRows
import GoSem.ClaimSeven
namespace Go.Proofs.YtheaepceghnkpabDoor
namespace Rows

/-- THE TIED CARD OF 'steelyardlaw15.ParseNums'. -/
def parseNumsCard : Claim7 := { stood := { row := parseNumsRow, standIns := [], harness := (true, "890eaf330ff4653c82d0009b397a45f8748246ab2b0f9c49c7305144216d0959"), looks := true }, kinds := [], alts := [], laidByText := true, laidKinds := [.data, .data, .data, .sentinel, .sentinel, .data, .data, .data], laidTests := true, laidLooks := .later }
def ParseNumsCardSaid : Prop := Claim7.holds Tryd.pinned (.plain (OpenSpec.ofChange parseNumsSpec)) parseNumsCard

/-- THE SECOND FORM's CARD OF 'steelyardlaw15.ParseNums'. -/
def parseNumsUptoCard : Claim7 := { stood := { row := parseNumsUptoRow, standIns := [], harness := (true, "890eaf330ff4653c82d0009b397a45f8748246ab2b0f9c49c7305144216d0959"), looks := true }, kinds := [], alts := [], laidByText := true, laidKinds := [.data, .data, .data, .sentinel, .sentinel, .data, .data, .data], laidTests := true, laidLooks := .later }
def ParseNumsUptoCardSaid : Prop := Claim7.holds Tryd.pinned (.plain (OpenSpec.upto parseNumsSpec)) parseNumsUptoCard
end Rows
end Go.Proofs.YtheaepceghnkpabDoor
