/- The cell of an array that came in by value. No condition. -/
import Derived.Test.YthcacnlajfidoaaOpenPair
import Derived.Test.YthcacnlajfidoaaNatW
import Derived.Test.YthcacnlajfidoaaRefB
namespace Go.Proofs.Ythcacnlajfidoaa.lawNatTells
open Go.ChangeShapes Go.WideShapes Go.ChangeAt Go.RowKit Limb
set_option linter.unusedVariables false

/-- A bit of a number, at a place that is told modulo 20000. -/
def bitAt (n q : Nat) : Bool := n.testBit (((q : Int) % 20000).toNat)

theorem cell_box (w : World) (p q : Int) : (w.alloc (.cells #[.int .u64 p, .int .u64 q] 25)).cell? ⟨w.heap.size, 0, none⟩ = some (.int .u64 p) ∧ (w.alloc (.cells #[.int .u64 p, .int .u64 q] 25)).cell? ⟨w.heap.size, 1, none⟩ = some (.int .u64 q) := by
  constructor <;> (rw [World.cell?_alloc_at _ _ _ _ rfl]; rfl)

end Go.Proofs.Ythcacnlajfidoaa.lawNatTells
