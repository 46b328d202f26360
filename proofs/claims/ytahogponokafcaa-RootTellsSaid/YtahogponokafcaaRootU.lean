/- Plain mathematics of roots: the least number whose square is not below, order, squares, four times a number. No condition. -/
import Derived.Test.YtahogponokafcaaRefRoot
namespace Go.Proofs.Ytahogponokafcaa.Limb

/-- The least number whose square is not below. -/
def ceilN (a : Nat) : Nat := if rootN a * rootN a = a then rootN a else rootN a + 1

theorem sq_lt {a b : Nat} (h : a * a < b * b) : a < b := Nat.lt_of_not_le fun hle => absurd (Nat.mul_le_mul hle hle) (by omega)
theorem sq_le {a b : Nat} (h : a * a ≤ b * b) : a ≤ b := Nat.le_of_not_lt fun hlt => absurd (Nat.mul_lt_mul'' hlt hlt) (by omega)

theorem ceilN_yes {a : Nat} (h : rootN a * rootN a = a) : ceilN a = rootN a := if_pos h
theorem ceilN_no {a : Nat} (h : ¬ rootN a * rootN a = a) : ceilN a = rootN a + 1 := if_neg h
theorem ceilN_ge (a : Nat) : a ≤ ceilN a * ceilN a := by
  by_cases h : rootN a * rootN a = a
  · rw [ceilN_yes h, h]; exact Nat.le_refl _
  · rw [ceilN_no h]; exact Nat.le_of_lt (rootN_gt a)
theorem ceilN_least {a m : Nat} (hm : a ≤ m * m) : ceilN a ≤ m := by
  by_cases h : rootN a * rootN a = a
  · rw [ceilN_yes h]; exact sq_le (by rw [h]; exact hm)
  · rw [ceilN_no h]; exact sq_lt (Nat.lt_of_lt_of_le (Nat.lt_of_le_of_ne (rootN_le a) h) hm)
theorem ceilN_le_self (a : Nat) : ceilN a ≤ a := by
  refine ceilN_least ?_
  rcases Nat.eq_zero_or_pos a with h | h
  · subst h; exact Nat.le_refl _
  · exact Nat.le_mul_of_pos_left _ h
theorem ceilN_mono {a b : Nat} (h : a ≤ b) : ceilN a ≤ ceilN b := ceilN_least (Nat.le_trans h (ceilN_ge b))
theorem rootN_mono {a b : Nat} (h : a ≤ b) : rootN a ≤ rootN b :=
  Nat.le_of_lt_succ (sq_lt (Nat.lt_of_le_of_lt (Nat.le_trans (rootN_le a) h) (rootN_gt b)))
theorem rootN_sq (a : Nat) : rootN (a * a) = a := (rootN_eq (Nat.le_refl _) (Nat.mul_lt_mul'' (Nat.lt_succ_self a) (Nat.lt_succ_self a))).symm
theorem rootN_four (a : Nat) : rootN (a * 4) = rootN a * 2 ∨ rootN (a * 4) = rootN a * 2 + 1 := by
  have h1 := rootN_le a
  have h2 := rootN_gt a
  have h3 := rootN_le (a * 4)
  have h4 := rootN_gt (a * 4)
  have k1 : rootN a * 2 < rootN (a * 4) + 1 := by
    refine sq_lt (Nat.lt_of_le_of_lt ?_ h4)
    rw [Nat.mul_mul_mul_comm]
    exact Nat.mul_le_mul h1 (by decide)
  have k2 : rootN (a * 4) < rootN a * 2 + 2 := by
    refine sq_lt (Nat.lt_of_le_of_lt h3 ?_)
    have e : (rootN a * 2 + 2) * (rootN a * 2 + 2) = (rootN a + 1) * (rootN a + 1) * 4 := by
      rw [show rootN a * 2 + 2 = (rootN a + 1) * 2 by omega, Nat.mul_mul_mul_comm]
    rw [e]
    omega
  omega

end Go.Proofs.Ytahogponokafcaa.Limb
namespace Go.Proofs.Ytahogponokafcaa
open Go.RowKit Limb

theorem squareN_yes {a : Nat} (h : rootN a * rootN a = a) : squareN a = true := by simp [squareN, h]
theorem squareN_no {a : Nat} (h : ¬ rootN a * rootN a = a) : squareN a = false := by simp [squareN, h]
theorem squareN_sq (a : Nat) : squareN (a * a) = true := squareN_yes (by rw [rootN_sq])

theorem cmpI_le {a b : Nat} (h : a ≤ b) : cmpI a b ≤ 0 := by
  rcases Nat.lt_or_eq_of_le h with h | h
  · rw [cmpI_lt h]; decide
  · rw [cmpI_same h]; decide

end Go.Proofs.Ytahogponokafcaa
