/- What it means that a slice of 32-bit words in memory reads as a list of limbs, and that this stays so where nothing below a block has changed. No condition. -/
import Derived.Test.YtpkjooiddejgpaaDoorRows
import Derived.Test.YtpkjooiddejgpaaDoorLimbs
import Derived.WalkKit
import Derived.WalkSpells
import Derived.WalkLawsBesides
import Derived.Lib.Hide
namespace Go.Proofs.YtpkjooiddejgpaaDoor
open Go.RowKit Limb
set_option linter.unusedVariables false

/-- The slice at A of length n reads as the limbs xs. -/
def IsN (w : World) (A : Option Addr) (n : Nat) (xs : List Nat) : Prop :=
  xs.length = n ∧ Small xs ∧ (0 < n → ∃ b o, A = some ⟨b, o, none⟩ ∧ b < w.heap.size ∧ ∀ j, j < n → w.cell? ⟨b, o + j, none⟩ = some (.int .u32 ((lim xs j : Nat) : Int)))

theorem IsN.len {w : World} {A : Option Addr} {n : Nat} {xs : List Nat} (h : IsN w A n xs) : xs.length = n := h.1
theorem IsN.small {w : World} {A : Option Addr} {n : Nat} {xs : List Nat} (h : IsN w A n xs) : Small xs := h.2.1

theorem IsN.below {w w' : World} {A : Option Addr} {n : Nat} {xs : List Nat} (h : IsN w A n xs) (hb : Below w.heap.size w w') : IsN w' A n xs := by
  refine ⟨h.1, h.2.1, fun hn => ?_⟩
  obtain ⟨b, o, e, hlt, hc⟩ := h.2.2 hn
  exact ⟨b, o, e, Nat.lt_of_lt_of_le hlt hb.size, fun j hj => (hb.cell (p := ⟨b, o + j, none⟩) hlt).trans (hc j hj)⟩

theorem IsN.take {w : World} {A : Option Addr} {n m : Nat} {xs : List Nat} (h : IsN w A n xs) (hm : m ≤ n) : IsN w A m (xs.take m) := by
  refine ⟨by rw [List.length_take, h.1]; omega, small_take h.2.1 _, fun hn => ?_⟩
  obtain ⟨b, o, e, hlt, hc⟩ := h.2.2 (by omega)
  refine ⟨b, o, e, hlt, fun j hj => ?_⟩
  rw [hc j (by omega)]
  simp [lim, List.getD_eq_getElem?_getD, hj]

theorem IsN.nil (w : World) (A : Option Addr) : IsN w A 0 [] := ⟨rfl, small_nil, fun h => absurd h (by omega)⟩

/-- The same, in the shortest limbs: what every call tells. -/
def IsV (w : World) (A : Option Addr) (n : Nat) (a : Nat) : Prop := IsN w A n (limbs a)

theorem IsV.isN {w : World} {A : Option Addr} {n a : Nat} (h : IsV w A n a) : IsN w A n (limbs a) := h
theorem IsV.below {w w' : World} {A : Option Addr} {n a : Nat} (h : IsV w A n a) (hb : Below w.heap.size w w') : IsV w' A n a := IsN.below h hb

/-- Behind a walk that reads alone. -/
theorem bel_refl (w : World) : Below w.heap.size w w := Below.refl _ _

theorem ret_bool {a b : Bool} (h : a = b) : Ending.returned (.bool a) = .returned (.bool b) := by rw [h]
theorem ret_int {k : IntKind} {a b : Int} (h : a = b) : Ending.returned (.int k a) = .returned (.int k b) := by rw [h]

end Go.Proofs.YtpkjooiddejgpaaDoor
