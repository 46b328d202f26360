/- What the reference's Gcd of layer 3 comes to, as a contract over memory: the greatest divisor in common. Conditions: both lists read as limbs, of at most 40000 of them. -/
import Derived.Test.YtpkjooiddejgpaaDoorRefQuo
namespace Go.Proofs.YtpkjooiddejgpaaDoor
open Go.RowKit Limb
set_option linter.unusedVariables false

/-- What so many cells from an address on read as. -/
def readCells (w : World) (b o : Nat) : Nat → List Nat
  | 0 => []
  | n + 1 => readCells w b o n ++ [match w.cell? ⟨b, o + n, none⟩ with | some (.int _ i) => i.toNat | _ => 0]
/-- The number that a slice of limbs tells in a world: a loop's measure. -/
def readN (w : World) (v : Value) : Nat := match v with
  | .slice (some ⟨b, o, _⟩) n _ => val (readCells w b o n)
  | _ => 0

theorem readCells_eq {w : World} {b o n : Nat} {xs : List Nat} (h : ∀ j, j < n → w.cell? ⟨b, o + j, none⟩ = some (.int .u32 ((lim xs j : Nat) : Int))) (hl : xs.length = n) : ∀ k, k ≤ n → readCells w b o k = xs.take k := by
  intro k
  induction k with
  | zero => intro _; rfl
  | succ k ih =>
    intro hk
    rw [readCells, ih (by omega), h k (by omega), List.take_succ_eq_append_getElem (by omega)]
    simp [lim, List.getD_eq_getElem?_getD, List.getElem?_eq_getElem (show k < xs.length by omega)]

theorem readN_eq {w : World} {A : Option Addr} {n c : Nat} {xs : List Nat} (h : IsN w A n xs) : readN w (.slice A n c) = val xs := by
  by_cases hn : n = 0
  · subst hn
    obtain rfl : xs = [] := List.eq_nil_of_length_eq_zero h.len
    rcases A with _ | ⟨b, o, s⟩ <;> rfl
  · obtain ⟨b, o, rfl, _, hc⟩ := h.2.2 (by omega)
    show val (readCells w b o n) = _
    rw [readCells_eq hc h.len n (Nat.le_refl _), List.take_of_length_le (by rw [h.len]; exact Nat.le_refl _)]

theorem gcd_step (x y : Nat) : Nat.gcd y (x % y) = Nat.gcd x y := by
  rw [Nat.gcd_comm x y, Nat.gcd_rec y x, Nat.gcd_comm]

/-- The greatest divisor in common, under a name that no simp set opens. -/
def gcdN (a b : Nat) : Nat := Nat.gcd a b
theorem gcdN_step {x y g : Nat} (h : gcdN x y = g) : gcdN y (x % y) = g := by unfold gcdN at *; rw [gcd_step]; exact h
theorem gcdN_end {x g : Nat} (h : gcdN x 0 = g) : x = g := by unfold gcdN at h; rwa [Nat.gcd_zero_right] at h

end Go.Proofs.YtpkjooiddejgpaaDoor
