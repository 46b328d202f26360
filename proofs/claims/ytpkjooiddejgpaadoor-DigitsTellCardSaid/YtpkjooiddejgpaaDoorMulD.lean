/- What package mul's down answers, as a contract over memory: a number moved down by bits, in shortest limbs, in new memory. Conditions: the list reads as limbs, of at most 10^8 of them; moves of at most 8192 bits. -/
import Derived.Test.YtpkjooiddejgpaaDoorMulC
import Derived.RegionTactic
import Derived.BigRegion
import Derived.ChangeAlike
namespace Go.Proofs.YtpkjooiddejgpaaDoor.Limb

/-- A limb of a number moved down by r bits, and the lowest bits of the next one. -/
def downLimb (ys : List Nat) (r j : Nat) : Nat := lim ys j / 2 ^ r ||| lim ys (j + 1) * 2 ^ (32 - r) % 4294967296

theorem downLimb_lt {ys : List Nat} (hy : Small ys) (r j : Nat) : downLimb ys r j < 4294967296 := by
  have h1 : lim ys j / 2 ^ r < 2 ^ 32 := Nat.lt_of_le_of_lt (Nat.div_le_self _ _) (lim_lt hy j)
  have h2 : lim ys (j + 1) * 2 ^ (32 - r) % 4294967296 < 2 ^ 32 := Nat.mod_lt _ (by decide)
  exact Nat.or_lt_two_pow h1 h2

theorem downLimb_last {ys : List Nat} (r j : Nat) (h : ys.length ≤ j + 1) : downLimb ys r j = lim ys j / 2 ^ r := by
  unfold downLimb; rw [lim_of_ge h]; simp

theorem val_down {ys zs : List Nat} {r : Nat} (hy : Small ys) (hz : Small zs) (hr : r < 32) (hl : zs.length = ys.length) (h : ∀ j, j < ys.length → lim zs j = downLimb ys r j) : val zs = val ys / 2 ^ r := by
  refine Nat.eq_of_testBit_eq fun i => ?_
  rw [testBit_lim zs hz, Nat.testBit_div_two_pow, testBit_lim ys hy]
  by_cases hj : i / 32 < ys.length
  · rw [h _ hj, downLimb, Nat.testBit_or, Nat.testBit_div_two_pow, show (4294967296 : Nat) = 2 ^ 32 from rfl, Nat.testBit_mod_two_pow, Nat.testBit_mul_two_pow]
    have hq : i % 32 < 32 := Nat.mod_lt _ (by decide)
    by_cases hc : i % 32 + r < 32
    · have e1 : (i + r) / 32 = i / 32 := by omega
      have e2 : (i + r) % 32 = i % 32 + r := by omega
      have e3 : ¬ (32 - r ≤ i % 32) := by omega
      rw [e1, e2]
      simp [e3]
    · have e1 : (i + r) / 32 = i / 32 + 1 := by omega
      have e2 : (i + r) % 32 = i % 32 - (32 - r) := by omega
      have e3 : 32 - r ≤ i % 32 := by omega
      have e4 : (lim ys (i / 32)).testBit (i % 32 + r) = false := Nat.testBit_lt_two_pow (Nat.lt_of_lt_of_le (lim_lt hy _) (by
        have : 2 ^ 32 ≤ 2 ^ (i % 32 + r) := Nat.pow_le_pow_right (by decide) (by omega)
        simpa using this))
      rw [e1, e2, e4]
      simp [e3, hq]
  · rw [lim_of_ge (by omega), lim_of_ge (xs := ys) (by omega)]
    simp

theorem val_drop {xs : List Nat} (hx : Small xs) (k : Nat) (hk : k ≤ xs.length) : val (xs.drop k) = val xs / 4294967296 ^ k := by
  have h1 := val_split xs k hk
  have h2 := val_lt (small_take hx k)
  rw [List.length_take, Nat.min_eq_left hk] at h2
  rw [h1, Nat.add_mul_div_left _ _ (Nat.pow_pos (by decide)), Nat.div_eq_of_lt h2, Nat.zero_add]

theorem div_move (a n : Nat) : a / 4294967296 ^ (n / 32) / 2 ^ (n % 32) = a / 2 ^ n := by
  rw [Nat.div_div_eq_div_mul, pow_move]

/-- So many limbs are moved down. -/
def DownInv (ys zs : List Nat) (r k : Nat) : Prop := zs.length = ys.length ∧ (∀ j, j < k → lim zs j = downLimb ys r j) ∧ ∀ j, k ≤ j → lim zs j = lim ys j

theorem DownInv.start (ys : List Nat) (r : Nat) : DownInv ys ys r 0 := ⟨rfl, fun j hj => by omega, fun _ _ => rfl⟩

theorem DownInv.step {ys zs : List Nat} {r k v : Nat} (h : DownInv ys zs r k) (hk : k < ys.length) (hv : v = downLimb ys r k) : DownInv ys (zs.set k v) r (k + 1) := by
  obtain ⟨h1, h2, h3⟩ := h
  refine ⟨by simpa using h1, fun j hj => ?_, fun j hj => by rw [lim_set_ne (by omega)]; exact h3 j (by omega)⟩
  by_cases e : j = k
  · subst e; rw [lim_set_self (by omega), hv]
  · rw [lim_set_ne (fun h => e h.symm)]; exact h2 j (by omega)

theorem set_set {zs : List Nat} {k u v : Nat} : (zs.set k u).set k v = zs.set k v := by simp

end Go.Proofs.YtpkjooiddejgpaaDoor.Limb
namespace Go.Proofs.YtpkjooiddejgpaaDoor
open Go.RowKit Limb
set_option linter.unusedVariables false

end Go.Proofs.YtpkjooiddejgpaaDoor
