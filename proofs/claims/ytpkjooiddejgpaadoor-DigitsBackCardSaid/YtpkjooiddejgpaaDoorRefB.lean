/- What the document's own answers for layer 1 (package steelyardref01) come to, as contracts over memory: Bit, Bits, Sub. Conditions: arguments read as limbs, of at most 10^8 of them; a difference is asked of a number that is not below. -/
import Derived.Test.YtpkjooiddejgpaaDoorRefA
namespace Go.Proofs.YtpkjooiddejgpaaDoor
open Go.RowKit Limb
set_option linter.unusedVariables false

theorem bit_of64 (t k : Nat) (ht : t < 4294967296) : (bits BinOp.and IntKind.u64 ((t : Int) / 2 ^ k) 1 == 1) = t.testBit k := by
  have e : (t : Int) / 2 ^ k = ((t / 2 ^ k : Nat) : Int) := by simp
  have h1 : t / 2 ^ k < 4294967296 := Nat.lt_of_le_of_lt (Nat.div_le_self _ _) ht
  have h2 := u64_and_nat (t / 2 ^ k) 1 (by omega) (by decide)
  rw [e, show (1 : Int) = ((1 : Nat) : Int) from rfl, h2, Nat.and_one_is_mod, Nat.testBit_eq_decide_div_mod_eq]
  rw [Bool.eq_iff_iff]
  simp
  omega

theorem blen_of_bit {n k : Nat} (h : blen n ≤ k) (hk : k ≠ 0) (hb : n.testBit (k - 1) = true) : blen n = k := by
  have h1 := Nat.ge_two_pow_of_testBit hb
  have h2 := blen_lt n
  have h3 : k - 1 < blen n := (Nat.pow_lt_pow_iff_right (show 1 < 2 by decide)).1 (Nat.lt_of_le_of_lt h1 h2)
  omega

theorem blen_of_nobit {n k : Nat} (h : blen n ≤ k) (hk : k ≠ 0) (hb : n.testBit (k - 1) = false) : blen n ≤ k - 1 := by
  by_cases h0 : n = 0
  · subst h0; rw [blen_zero]; omega
  · have h1 := blen_top h0
    refine Classical.byContradiction fun hn => ?_
    have : blen n - 1 = k - 1 := by omega
    rw [this, hb] at h1
    cases h1

/-- A difference that the reference makes limb by limb. -/
def RSub (xs ys zs : List Nat) (k br : Nat) : Prop := zs.length = k ∧ Small zs ∧ val zs + val (ys.take k) = val (xs.take k) + br * 4294967296 ^ k ∧ br ≤ 1

theorem RSub.start (xs ys : List Nat) : RSub xs ys [] 0 0 := ⟨rfl, small_nil, by simp [val], by omega⟩
theorem sub_step {S X Y z y c P lo hi : Nat} (h : S + Y = X + c * P) (e : lo + y + c = z + hi * 4294967296) : S + P * lo + (Y + P * y) = X + P * z + hi * (P * 4294967296) := by
  have h1 := congrArg (P * ·) e
  simp only [Nat.mul_add] at h1
  rw [Nat.mul_left_comm hi P, Nat.mul_comm c P] at *
  omega
theorem RSub.step0 {xs ys zs : List Nat} {k br lo hi : Nat} (h : RSub xs ys zs k br) (hs : lo < 4294967296) (hi1 : hi ≤ 1) (e : lo + lim ys k + br = lim xs k + hi * 4294967296) : RSub xs ys (zs ++ [lo]) (k + 1) hi := by
  obtain ⟨h1, h2, h3, h4⟩ := h
  have hv : val (zs ++ [lo]) = val zs + 4294967296 ^ k * lo := by rw [val_append, h1]; simp [val]
  have e2 : 4294967296 ^ (k + 1) = 4294967296 ^ k * 4294967296 := Nat.pow_succ ..
  refine ⟨by simp [h1], small_append.2 ⟨h2, small_cons.2 ⟨hs, small_nil⟩⟩, ?_, hi1⟩
  rw [hv, val_take_lim, val_take_lim, e2]
  exact sub_step h3 e
theorem RSub.step {xs ys zs : List Nat} {k br : Nat} (h : RSub xs ys zs k br) (hx : Small xs) (hy : Small ys) : RSub xs ys (zs ++ [diffLo (lim xs k) (lim ys k) br]) (k + 1) (diffHi (lim xs k) (lim ys k) br) :=
  h.step0 (diffLo_lt _ _ _) (diffHi_le _ _ _) (diff_parts (lim_lt hx k) (lim_lt hy k) h.2.2.2)
theorem RSub.done {xs ys zs : List Nat} {k br : Nat} (h : RSub xs ys zs k br) (hk : xs.length = k) (hle : val ys ≤ val xs) (hx : Small xs) : val zs = val xs - val ys := by
  obtain ⟨h1, h2, h3, h4⟩ := h
  have hz := val_lt h2
  rw [h1] at hz
  have hxl := val_lt hx
  rw [hk] at hxl
  rw [List.take_of_length_le (l := xs) (by omega)] at h3
  have hy : val (ys.take k) = val ys := by
    by_cases hky : ys.length ≤ k
    · rw [List.take_of_length_le hky]
    · have e := val_split ys k (by omega)
      have h0 : val (ys.drop k) = 0 := by
        refine Classical.byContradiction fun hn => ?_
        have : 4294967296 ^ k * 1 ≤ 4294967296 ^ k * val (ys.drop k) := Nat.mul_le_mul_left _ (by omega)
        omega
      rw [h0] at e
      omega
  rw [hy] at h3
  rcases (show br = 0 ∨ br = 1 by omega) with rfl | rfl
  · omega
  · omega

theorem diffHi_yes {x y c : Nat} (h : x < y + c) : diffHi x y c = 1 := by simp [diffHi, h]
theorem diffHi_no {x y c : Nat} (h : ¬ x < y + c) : diffHi x y c = 0 := by simp [diffHi, h]

end Go.Proofs.YtpkjooiddejgpaaDoor
