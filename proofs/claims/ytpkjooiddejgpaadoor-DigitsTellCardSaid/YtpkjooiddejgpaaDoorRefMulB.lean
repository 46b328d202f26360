/- What the reference's Down and Shift of layer 2 come to, as contracts over memory: a number moved by bits, in shortest limbs. Conditions: the list reads as limbs, of at most 9*10^7 of them. -/
import Derived.Test.YtpkjooiddejgpaaDoorRefMulA
namespace Go.Proofs.YtpkjooiddejgpaaDoor
open Go.RowKit Limb
set_option linter.unusedVariables false

theorem down_or {a b r : Nat} (ha : a < 4294967296) : (a ||| b * 4294967296) / 2 ^ r % 4294967296 = a / 2 ^ r ||| b * 2 ^ (32 - r) % 4294967296 ∨ 32 ≤ r := by
  by_cases hr : 32 ≤ r
  · exact .inr hr
  refine .inl (Nat.eq_of_testBit_eq fun i => ?_)
  rw [show (4294967296 : Nat) = 2 ^ 32 from rfl, Nat.testBit_mod_two_pow, Nat.testBit_div_two_pow, Nat.testBit_or, Nat.testBit_mul_two_pow, Nat.testBit_or, Nat.testBit_div_two_pow, Nat.testBit_mod_two_pow, Nat.testBit_mul_two_pow]
  by_cases hi : i < 32
  · by_cases hc : i + r < 32
    · have e1 : ¬ (32 ≤ i + r) := by omega
      have e2 : ¬ (32 - r ≤ i) := by omega
      simp [hi, e1, e2]
    · have e1 : 32 ≤ i + r := by omega
      have e2 : 32 - r ≤ i := by omega
      have e3 : i + r - 32 = i - (32 - r) := by omega
      simp [hi, e1, e2, e3]
  · have e4 : a.testBit (i + r) = false := Nat.testBit_lt_two_pow (Nat.lt_of_lt_of_le ha (by
      have : 2 ^ 32 ≤ 2 ^ (i + r) := Nat.pow_le_pow_right (by decide) (by omega)
      simpa using this))
    simp [hi, e4]

theorem down_lim {ys : List Nat} {r j : Nat} (hy : Small ys) (hr : r < 32) : (lim ys j ||| lim ys (j + 1) * 4294967296) / 2 ^ r % 4294967296 = downLimb ys r j := by
  rcases down_or (a := lim ys j) (b := lim ys (j + 1)) (r := r) (lim_lt hy j) with h | h
  · exact h
  · omega

/-- Limbs of a number moved down, made one by one. -/
def RDown (ys zs : List Nat) (r k : Nat) : Prop := zs.length = k ∧ ∀ j, j < k → lim zs j = downLimb ys r j
theorem RDown.start (ys : List Nat) (r : Nat) : RDown ys [] r 0 := ⟨rfl, fun j hj => by omega⟩
theorem lim_append_lt {zs us : List Nat} {j : Nat} (h : j < zs.length) : lim (zs ++ us) j = lim zs j := by
  simp [lim, List.getD_eq_getElem?_getD, List.getElem?_append_left h]
theorem lim_append_at {zs : List Nat} {u : Nat} : lim (zs ++ [u]) zs.length = u := by
  simp [lim, List.getD_eq_getElem?_getD]
theorem RDown.step {ys zs : List Nat} {r k v : Nat} (h : RDown ys zs r k) (hv : v = downLimb ys r k) : RDown ys (zs ++ [v]) r (k + 1) := by
  obtain ⟨h1, h2⟩ := h
  refine ⟨by simp [h1], fun j hj => ?_⟩
  by_cases e : j = k
  · subst e; rw [← h1, lim_append_at, h1, hv]
  · rw [lim_append_lt (by omega)]; exact h2 j (by omega)

end Go.Proofs.YtpkjooiddejgpaaDoor
