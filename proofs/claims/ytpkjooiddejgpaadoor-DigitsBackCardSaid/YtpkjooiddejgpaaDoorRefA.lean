/- What the document's own answers for layer 1 (package steelyardref01) come to, as contracts over memory: Of, Cmp. Conditions: arguments read as limbs, of at most 10^9 of them. -/
import Derived.Test.YtpkjooiddejgpaaDoorRefT
namespace Go.Proofs.YtpkjooiddejgpaaDoor
open Go.RowKit Limb
set_option linter.unusedVariables false

/-- Numbers alike from a place on are so ordered as below it. -/
theorem val_eq_of_lim {xs ys : List Nat} (hx : Small xs) (hy : Small ys) (h : ∀ j, lim xs j = lim ys j) : val xs = val ys := by
  have e : ∀ k, val (xs.take k) = val (ys.take k) := by
    intro k
    induction k with
    | zero => rfl
    | succ k ih => rw [val_take_lim, val_take_lim, ih, h k]
  have := e (max xs.length ys.length)
  rwa [List.take_of_length_le (by omega), List.take_of_length_le (by omega)] at this

theorem val_lt_pad {xs ys : List Nat} (hx : Small xs) (hy : Small ys) {k : Nat} (hlt : lim xs k < lim ys k) (h : ∀ j, k < j → lim xs j = lim ys j) : val xs < val ys := by
  have e : ∀ m, val (xs.take (k + 1 + m)) + 4294967296 ^ k ≤ val (ys.take (k + 1 + m)) + val (xs.take k) := by
    intro m
    induction m with
    | zero =>
      rw [Nat.add_zero, val_take_lim, val_take_lim]
      have h1 : 4294967296 ^ k * (lim xs k + 1) ≤ 4294967296 ^ k * lim ys k := Nat.mul_le_mul_left _ hlt
      rw [Nat.mul_add] at h1
      omega
    | succ m ih =>
      rw [← Nat.add_assoc, val_take_lim, val_take_lim, h (k + 1 + m) (by omega)]
      omega
  have h1 := e (max xs.length ys.length)
  rw [List.take_of_length_le (by omega), List.take_of_length_le (by omega)] at h1
  have h2 := val_lt (small_take hx k)
  have h3 : 4294967296 ^ (xs.take k).length ≤ 4294967296 ^ k := Nat.pow_le_pow_right (by decide) (by rw [List.length_take]; omega)
  omega

end Go.Proofs.YtpkjooiddejgpaaDoor
