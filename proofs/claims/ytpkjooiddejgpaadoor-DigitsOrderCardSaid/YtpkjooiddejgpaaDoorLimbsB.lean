/- Plain mathematics on bits: how many a number has, and each bit of the number that limbs tell. No condition. -/
import Derived.Test.YtpkjooiddejgpaaDoorLimbs
namespace Go.Proofs.YtpkjooiddejgpaaDoor.Limb

/-- How many bits a number has, counted at most f times. -/
def blenTo : Nat → Nat → Nat
  | 0, _ => 0
  | f + 1, n => if n = 0 then 0 else 1 + blenTo f (n / 2)

/-- How many bits a number has. -/
def blen (n : Nat) : Nat := blenTo n n

theorem blenTo_zero (f : Nat) : blenTo f 0 = 0 := by cases f <;> simp [blenTo]
theorem blenTo_more (f : Nat) : ∀ g n, n ≤ f → n ≤ g → blenTo f n = blenTo g n := by
  induction f with
  | zero => intro g n h _; obtain rfl : n = 0 := by omega
            rw [blenTo_zero, blenTo_zero]
  | succ f ih =>
    intro g n hf hg
    cases g with
    | zero => obtain rfl : n = 0 := by omega
              rw [blenTo_zero, blenTo_zero]
    | succ g =>
      rw [blenTo, blenTo]
      by_cases h : n = 0
      · rw [if_pos h, if_pos h]
      · rw [if_neg h, if_neg h, ih g (n / 2) (by omega) (by omega)]
theorem blen_zero : blen 0 = 0 := rfl
theorem blen_pos {n : Nat} (h : n ≠ 0) : blen n = 1 + blen (n / 2) := by
  cases n with
  | zero => exact absurd rfl h
  | succ m =>
    rw [blen, blenTo, if_neg h, blen, blenTo_more m ((m + 1) / 2) ((m + 1) / 2) (by omega) (Nat.le_refl _)]
theorem blen_eq {n k : Nat} (h1 : 2 ^ k ≤ n) (h2 : n < 2 ^ (k + 1)) : blen n = k + 1 := by
  induction k generalizing n with
  | zero =>
    have : n = 1 := by simp at h1 h2; omega
    subst this
    rw [blen_pos (by omega), show 1 / 2 = 0 from rfl, blen_zero]
  | succ k ih =>
    rw [Nat.pow_succ] at h1 h2
    rw [Nat.pow_succ] at h2
    have : n ≠ 0 := by have := Nat.two_pow_pos k; omega
    rw [blen_pos this, ih (by omega) (by rw [Nat.pow_succ]; omega)]
    omega
theorem blen_spec {n : Nat} (h : n ≠ 0) : 2 ^ (blen n - 1) ≤ n ∧ n < 2 ^ blen n ∧ blen n ≠ 0 := by
  induction n using Nat.strongRecOn with
  | ind n ih =>
    rw [blen_pos h]
    by_cases h2 : n / 2 = 0
    · have : n = 1 := by omega
      subst this
      rw [h2, blen_zero]; simp
    · obtain ⟨a, b, c⟩ := ih (n / 2) (by omega) h2
      refine ⟨?_, ?_, by omega⟩
      · rw [show 1 + blen (n / 2) - 1 = (blen (n / 2) - 1) + 1 by omega, Nat.pow_succ]; omega
      · rw [Nat.add_comm, Nat.pow_succ]; omega
theorem blen_lt (n : Nat) : n < 2 ^ blen n := by
  by_cases h : n = 0
  · subst h; rw [blen_zero]; simp
  · exact (blen_spec h).2.1
theorem blen_eq_zero {n : Nat} : blen n = 0 ↔ n = 0 := by
  constructor
  · intro h; exact Classical.byContradiction fun h0 => (blen_spec h0).2.2 h
  · rintro rfl; exact blen_zero

theorem blen_le {n k : Nat} (h : n < 2 ^ k) : blen n ≤ k := by
  by_cases h0 : n = 0
  · subst h0; rw [blen_zero]; exact Nat.zero_le _
  · have := Nat.lt_of_le_of_lt (blen_spec h0).1 h
    have := (Nat.pow_lt_pow_iff_right (show 1 < 2 by decide)).1 this
    omega
theorem blen_mono {a b : Nat} (h : a ≤ b) : blen a ≤ blen b := blen_le (Nat.lt_of_le_of_lt h (blen_lt b))
theorem blen_top {n : Nat} (h : n ≠ 0) : n.testBit (blen n - 1) = true := by
  obtain ⟨h1, h2, h3⟩ := blen_spec h
  rw [Nat.testBit_eq_decide_div_mod_eq, decide_eq_true_eq]
  have e : 2 ^ blen n = 2 ^ (blen n - 1) * 2 := by rw [← Nat.pow_succ]; congr 1; omega
  have : n / 2 ^ (blen n - 1) = 1 := by
    rw [Nat.div_eq_iff (Nat.two_pow_pos _)]
    omega
  rw [this]
theorem blen_above (n : Nat) : n.testBit (blen n) = false := Nat.testBit_lt_two_pow (blen_lt n)

theorem pow32 (k : Nat) : 4294967296 ^ k = 2 ^ (32 * k) := by rw [Nat.pow_mul]

/-- The bits of limbs: those below the highest, and the highest one's. -/
theorem blen_limbs {xs : List Nat} {k : Nat} (hk : xs.length = k + 1) (h0 : lim xs k ≠ 0) (hs : Small xs) : blen (val xs) = 32 * k + blen (lim xs k) := by
  have e : val xs = val (xs.take k) + 4294967296 ^ k * lim xs k := by
    rw [← val_take_lim, List.take_of_length_le (by omega)]
  have h1 := val_lt (small_take hs k)
  rw [List.length_take, Nat.min_eq_left (by omega)] at h1
  obtain ⟨a, b, c⟩ := blen_spec h0
  rw [e]
  rw [pow32] at h1 ⊢
  have h2 : 32 * k + blen (lim xs k) = (32 * k + (blen (lim xs k) - 1)) + 1 := by omega
  rw [h2]
  refine blen_eq ?_ ?_
  · rw [Nat.pow_add]
    exact Nat.le_trans (Nat.mul_le_mul_left _ a) (Nat.le_add_left _ _)
  · rw [← h2, Nat.pow_add]
    have : 2 ^ (32 * k) * (lim xs k + 1) ≤ 2 ^ (32 * k) * 2 ^ blen (lim xs k) := Nat.mul_le_mul_left _ b
    rw [Nat.mul_add] at this
    omega

theorem lim_eq_div (xs : List Nat) (hs : Small xs) (k : Nat) : val xs / 4294967296 ^ k % 4294967296 = lim xs k := by
  induction xs generalizing k with
  | nil => simp [val, lim]
  | cons x xs ih =>
    rw [small_cons] at hs
    cases k with
    | zero => simp [val, lim]; omega
    | succ k =>
      have := ih hs.2 k
      rw [val, Nat.pow_succ, Nat.mul_comm (4294967296 ^ k), ← Nat.div_div_eq_div_mul]
      have e : (x + 4294967296 * val xs) / 4294967296 = val xs := by omega
      rw [e, this]
      simp [lim]

theorem testBit_lim (xs : List Nat) (hs : Small xs) (i : Nat) : (val xs).testBit i = (lim xs (i / 32)).testBit (i % 32) := by
  have h := lim_eq_div xs hs (i / 32)
  rw [← h, pow32, show (4294967296 : Nat) = 2 ^ 32 from rfl, Nat.testBit_mod_two_pow, Nat.testBit_div_two_pow]
  have h1 : i % 32 < 32 := Nat.mod_lt _ (by decide)
  simp only [h1, decide_true, Bool.true_and]
  congr 1
  omega

end Go.Proofs.YtpkjooiddejgpaaDoor.Limb
