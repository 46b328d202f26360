/- Package mul's contracts in one form (numbers, lengths), and what Pow answers: the power that is made bit by bit from the highest one, or nothing where a step has too many limbs. Conditions: lists read as limbs, of at most 10^7 of them. -/
import Derived.Test.YtpkjooiddejgpaaDoorMulE
namespace Go.Proofs.YtpkjooiddejgpaaDoor.Limb

/-- Has a number more limbs than a step may have? -/
def big (x : Nat) : Bool := decide (4294967296 ^ 256 ≤ x)
theorem big_yes {x : Nat} (h : big x = true) : 256 < (limbs x).length := lt_length_limbs (by simpa [big] using h)
theorem big_no {x : Nat} (h : big x = false) : x < 4294967296 ^ 256 := by simpa [big] using h

/-- One bit of a power: squared, and, if the bit is set, times a. -/
def stepP (a out : Nat) (b : Bool) : Option Nat :=
  if big (out * out) then none else if b then (if big (out * out * a) then none else some (out * out * a)) else some (out * out)

/-- A power bit by bit: the lowest i bits of n are still to do. -/
def powF (a n : Nat) : Nat → Nat → Option Nat
  | 0, out => some out
  | i + 1, out => match stepP a out (n.testBit i) with
    | none => none
    | some o => powF a n i o

theorem powF_none {a n i out : Nat} {T : Option Nat} (h : powF a n (i + 1) out = T) (hs : stepP a out (n.testBit i) = none) : T = none := by
  rw [powF, hs] at h; exact h.symm
theorem powF_some {a n i out o : Nat} {T : Option Nat} (h : powF a n (i + 1) out = T) (hs : stepP a out (n.testBit i) = some o) : powF a n i o = T := by
  rw [powF, hs] at h; exact h

theorem stepP_big {a out : Nat} {b : Bool} (h : big (out * out) = true) : stepP a out b = none := by rw [stepP, if_pos h]
theorem stepP_no {a out : Nat} (h : big (out * out) = false) : stepP a out false = some (out * out) := by simp [stepP, h]
theorem stepP_yes {a out : Nat} (h : big (out * out) = false) (h2 : big (out * out * a) = false) : stepP a out true = some (out * out * a) := by simp [stepP, h, h2]
theorem stepP_over {a out : Nat} (h : big (out * out) = false) (h2 : big (out * out * a) = true) : stepP a out true = none := by simp [stepP, h, h2]

/-- The bits above the highest one change nothing. -/
theorem powF_lead (a n d : Nat) : powF a n (blen n + d) 1 = powF a n (blen n) 1 := by
  induction d with
  | zero => rfl
  | succ d ih =>
    rw [← Nat.add_assoc, powF]
    have h0 : n.testBit (blen n + d) = false := Nat.testBit_lt_two_pow (Nat.lt_of_lt_of_le (blen_lt n) (Nat.pow_le_pow_right (by decide) (by omega)))
    rw [h0, stepP_no (by decide +kernel)]
    exact ih

/-- a to the n, where there is one. -/
def powV (a : Nat) (n : Int) : Option Nat := if n < 0 then none else powF a n.toNat 63 1

theorem powV_neg {a : Nat} {n : Int} (h : n < 0) : powV a n = none := by rw [powV, if_pos h]
theorem powV_nat (a n : Nat) (h : blen n ≤ 63) : powV a (n : Int) = powF a n (blen n) 1 := by
  rw [powV, if_neg (by omega), Int.toNat_natCast]
  have := powF_lead a n (63 - blen n)
  rwa [show blen n + (63 - blen n) = 63 by omega] at this

/-- Where all powers up to n are small enough the power is there. -/
theorem powF_small {a n : Nat} (h : ∀ m, m ≤ n → big (a ^ m) = false) : ∀ i, powF a n i (a ^ (n / 2 ^ i)) = some (a ^ n) := by
  intro i
  induction i with
  | zero => rw [powF, Nat.pow_zero, Nat.div_one]
  | succ i ih =>
    have e : n / 2 ^ i = n / 2 ^ (i + 1) * 2 + (n / 2 ^ i) % 2 := by
      rw [Nat.pow_succ, ← Nat.div_div_eq_div_mul]; omega
    have hle : n / 2 ^ i ≤ n := Nat.div_le_self _ _
    have e1 : a ^ (n / 2 ^ (i + 1)) * a ^ (n / 2 ^ (i + 1)) = a ^ (n / 2 ^ (i + 1) * 2) := by rw [← Nat.pow_add]; congr 1; omega
    have h1 : big (a ^ (n / 2 ^ (i + 1) * 2)) = false := h _ (by omega)
    rcases Nat.mod_two_eq_zero_or_one (n / 2 ^ i) with hb | hb
    · have ht : n.testBit i = false := by rw [Nat.testBit_eq_decide_div_mod_eq, hb]; rfl
      rw [hb, Nat.add_zero] at e
      rw [powF, ht, stepP_no (by rw [e1]; exact h1), e1, ← e]
      exact ih
    · have ht : n.testBit i = true := by rw [Nat.testBit_eq_decide_div_mod_eq, hb]; rfl
      rw [hb] at e
      have e2 : a ^ (n / 2 ^ (i + 1) * 2) * a = a ^ (n / 2 ^ i) := by rw [e]; exact (Nat.pow_succ ..).symm
      rw [powF, ht, stepP_yes (by rw [e1]; exact h1) (by rw [e1, e2]; exact h _ hle), e1, e2]
      exact ih

theorem powV_small {a n : Nat} (hb : blen n ≤ 63) (h : ∀ m, m ≤ n → a ^ m < 4294967296 ^ 256) : powV a (n : Int) = some (a ^ n) := by
  have := powF_small (a := a) (n := n) (fun m hm => by simpa [big] using h m hm) (blen n)
  rw [Nat.div_eq_of_lt (blen_lt n), Nat.pow_zero] at this
  rw [powV_nat a n hb, this]

end Go.Proofs.YtpkjooiddejgpaaDoor.Limb
namespace Go.Proofs.YtpkjooiddejgpaaDoor
open Go.RowKit Limb
set_option linter.unusedVariables false

section
variable {w : World} {A A' : Option Addr} {n c n' c' : Nat} {xs ys : List Nat} {a b L L' : Nat}

theorem mulOf_c (hx : NN w A n c xs a L) (hy : NN w A' n' c' ys b L') (K : Nat) (h1 : L ≤ 100000000) (h2 : L' ≤ 100000000) (h3 : L + L' ≤ K) :
    Calls Tryd.prog 21 #[.slice A n c, .slice A' n' c'] w fun e w' => ∃ A2 n2 c2, e = .returned (.slice A2 n2 c2) ∧ NN w' A2 n2 c2 (limbs (a * b)) (a * b) K ∧ Below w.heap.size w w' := by
  have hlx := lt_pow hx
  have hly := lt_pow hy
  refine (mulOf_any A n c xs A' n' c' ys w hx.isN hy.isN (by have := hx.le; omega) (by have := hy.le; omega) hx.cap hy.cap).mono ?_
  rintro e w' ⟨A2, n2, c2, rfl, how, hb⟩
  rw [hx.val, hy.val] at how
  refine ⟨A2, n2, c2, rfl, NN.own how ?_, hb⟩
  have e1 : 4294967296 ^ (L + L') ≤ 4294967296 ^ K := Nat.pow_le_pow_right (by decide) h3
  rw [Nat.pow_add] at e1
  exact Nat.lt_of_lt_of_le (Nat.mul_lt_mul'' hlx hly) e1

theorem mulSmall_c (hx : NN w A n c xs a L) (v : Nat) (V : Int) (hV : V = v) (hv : v < 4294967296) (h1 : L ≤ 100000000) :
    Calls Tryd.prog 18 #[.slice A n c, .int .u32 V] w fun e w' => ∃ A2 n2 c2, e = .returned (.slice A2 n2 c2) ∧ NN w' A2 n2 c2 (limbs (a * v)) (a * v) (L + 1) ∧ Below w.heap.size w w' := by
  subst hV
  have hlx := lt_pow hx
  refine (mulSmall_any A n c xs v w hx.isN (by have := hx.le; omega) hx.cap hv).mono ?_
  rintro e w' ⟨A2, n2, c2, rfl, how, hb⟩
  rw [hx.val] at how
  refine ⟨A2, n2, c2, rfl, NN.own how ?_, hb⟩
  rw [Nat.pow_succ]
  exact Nat.mul_lt_mul'' hlx hv

theorem two_pow_le {t K : Nat} (h : t ≤ 32 * K) : 2 ^ t ≤ 4294967296 ^ K := by
  rw [pow32]; exact Nat.pow_le_pow_right (by decide) h

theorem shiftV_lt (hx : NN w A n c xs a L) (V : Int) : shiftV a V < 4294967296 ^ (L + 256) := by
  have hlx := lt_pow hx
  have h0 : 4294967296 ^ L ≤ 4294967296 ^ (L + 256) := Nat.pow_le_pow_right (by decide) (by omega)
  unfold shiftV
  split
  · exact Nat.pow_pos (by decide)
  · split
    · exact Nat.lt_of_le_of_lt (Nat.div_le_self _ _) (Nat.lt_of_lt_of_le hlx h0)
    · have h3 : 2 ^ (min V 8192).toNat ≤ 4294967296 ^ 256 := two_pow_le (by omega)
      rw [Nat.pow_add]
      exact Nat.lt_of_lt_of_le (Nat.mul_lt_mul_of_pos_right hlx (Nat.two_pow_pos _)) (Nat.mul_le_mul_left _ h3)

end

theorem i64_bit (m i : Nat) (hm : m < 9223372036854775808) : (bits BinOp.and IntKind.i64 ((m : Int) / 2 ^ i) 1 == 1) = m.testBit i := by
  have e : (m : Int) / 2 ^ i = ((m / 2 ^ i : Nat) : Int) := by simp
  have h1 : m / 2 ^ i < 9223372036854775808 := Nat.lt_of_le_of_lt (Nat.div_le_self _ _) hm
  rw [e, Nat.testBit_eq_decide_div_mod_eq]
  generalize m / 2 ^ i = t at h1 ⊢
  have h2 : bits BinOp.and IntKind.i64 (t : Int) 1 = ((t % 2 : Nat) : Int) := by
    have ht : (BitVec.ofInt 64 (t : Int) &&& BitVec.ofInt 64 1).toNat = t % 2 := by
      rw [BitVec.toNat_and, ofInt_u64 t (by omega), show (BitVec.ofInt 64 1).toNat = 1 by decide, Nat.and_one_is_mod]
    show IntKind.i64.wrap ((BitVec.ofInt 64 (t : Int) &&& BitVec.ofInt 64 1).toNat : Int) = _
    rw [ht, IntKind.wrap_i64]
    omega
  rw [h2, Bool.eq_iff_iff]
  simp
  omega

theorem NN.len {w : World} {A : Option Addr} {n c : Nat} {xs : List Nat} {a L : Nat} (h : NN w A n c xs a L) : n = xs.length := h.isN.len.symm

theorem nn_big {w : World} {A : Option Addr} {n c a L : Nat} (h : NN w A n c (limbs a) a L) (hb : big a = true) : 256 < n := by rw [h.len]; exact big_yes hb
theorem nn_small {w : World} {A : Option Addr} {n c a L : Nat} (h : NN w A n c (limbs a) a L) (hb : big a = false) : n ≤ 256 := by rw [h.len]; exact length_limbs_le (big_no hb)

set_option maxHeartbeats 2000000 in
theorem mulPow_c {w : World} {A : Option Addr} {n c : Nat} {xs : List Nat} {a L : Nat} (hx : NN w A n c xs a L) (h1 : L ≤ 10000000) (V : Int) (h0 : -9223372036854775808 ≤ V) (h2 : V ≤ 9223372036854775807) (T : Option Nat) (hT : powV a V = T) :
    Calls Tryd.prog 26 #[.slice A n c, .int .i64 V] w fun e w' => ∃ A2 n2 c2, e = .returned (.tuple #[.slice A2 n2 c2, .bool T.isSome]) ∧ NN w' A2 n2 c2 (limbs (T.getD 0)) (T.getD 0) 256 ∧ Below w.heap.size w w' := by
  have hnil : ∀ w' : World, NN w' none 0 0 (limbs 0) 0 256 := fun w' => ⟨IsN.nil _ _, rfl, Nat.le_refl _, by omega⟩
  have Hnil := Lib.hid hnil
  clear hnil
  by_cases hneg : V < 0
  · have HT : RowKit.Hid (T = none) := by show _ = _; rw [← hT]; exact powV_neg hneg
    go_enter Tryd.func26, Tryd.ntmps26
    go_wp2
    go_ret2
    exact ⟨none, 0, 0, by rw [HT.out]; rfl, by rw [HT.out]; exact Hnil.out _, Below.refl _ _⟩
  · obtain ⟨m, rfl⟩ := Int.eq_ofNat_of_zero_le (show 0 ≤ V by omega)
    have hm : m < 9223372036854775808 := by omega
    have hb : blen m ≤ 63 := blen_le (by simpa using hm)
    rw [powV_nat a m hb] at hT
    have HT := Lib.hid hT
    clear hT hneg
    have hc1 := of_c 1 1 rfl (by decide) w
    have Hc1 := Lib.hid hc1
    clear hc1
    have Hlen := Lib.hid (len_any (m : Int))
    go_enter Tryd.func26, Tryd.ntmps26
    go_wp2_with fail
    refine Hc1.out.mono ?_
    rintro e w1 ⟨A1, n1, c1, rfl, hone, b1⟩
    have hone : NN w1 A1 n1 c1 (limbs 1) 1 256 := hone.relax (by
      have : 4294967296 ^ 1 ≤ 4294967296 ^ 256 := Nat.pow_le_pow_right (by decide) (by decide)
      omega)
    have h_x := hx.below b1
    clear hx
    go_wp2_with fail
    refine (Hlen.out w1 (by omega) (by omega)).mono ?_
    rintro e w2 ⟨rfl, rfl⟩
    rw [Int.toNat_natCast]
    go_wp2
    go_loopw [7, 6] (fun i ov wr => ∃ (j out : Nat) (A2 : Option Addr) (n2 c2 : Nat), j ≤ 63 ∧ i = .int .i64 ((j : Int) - 1) ∧ ov = .slice A2 n2 c2 ∧ RowKit.Hid (powF a m j out = T) ∧ NN wr A2 n2 c2 (limbs out) out 256 ∧ NN wr A n c xs a L ∧ Below w.heap.size w wr) (fun i _ _ => (intOf i + 1).toNat)
    case atStart => exact ⟨blen m, 1, A1, n1, c1, hb, rfl, rfl, HT, hone, h_x, b1⟩
    case round =>
      clear HT hone h_x b1
      obtain ⟨j, out, A2, n2, c2, hj, rfl, rfl, HT, ho, h_x, bw⟩ := hrel
      rcases j with _ | p
      · go_wp2
        go_ret2
        have e0 : T = some out := by have := HT.out; rw [powF] at this; exact this.symm
        exact ⟨A2, n2, c2, by rw [e0]; rfl, by rw [e0]; exact ho, bw⟩
      · have ep : (((p + 1 : Nat) : Int) - 1) = (p : Int) := by omega
        rw [ep]
        have hp : p ≤ 62 := by omega
        have hbit := i64_bit m p hm
        clear ep hj
        go_wp2_with fail
        refine (mulOf_c ho ho 512 (by decide) (by decide) (by decide)).mono ?_
        rintro e w3 ⟨A3, n3, c3, rfl, h3, bn⟩
        replace h_x := h_x.below bn
        replace bw := below_two bw bn
        clear bn ho
        have hn3 := h3.le
        by_cases hbig : big (out * out) = true
        · have hl3 := nn_big h3 hbig
          have HN := Lib.hid (powF_none HT.out (stepP_big hbig))
          clear hbig
          by_cases hbt : m.testBit p = true
          all_goals
            first
              | rw [hbt] at hbit
              | (have hbt : m.testBit p = false := by simpa using hbt
                 rw [hbt] at hbit)
            clear hbt
            go_wp2
            go_ret2
            exact ⟨none, 0, 0, by rw [HN.out]; rfl, by rw [HN.out]; exact Hnil.out _, bw⟩
        · have hbig : big (out * out) = false := by simpa using hbig
          have hl3 := nn_small h3 hbig
          by_cases hbt : m.testBit p = true
          · rw [hbt] at hbit
            have Hbt := Lib.hid hbt
            have Hbig := Lib.hid hbig
            clear hbt hbig
            go_wp2_with fail
            refine (mulOf_c h3 h_x (512 + L) (by decide) (by omega) (Nat.le_refl _)).mono ?_
            rintro e w4 ⟨A4, n4, c4, rfl, h4, bn⟩
            replace h_x := h_x.below bn
            replace bw := below_two bw bn
            clear bn h3
            have hn4 := h4.le
            by_cases hb2 : big (out * out * a) = true
            · have hl4 := nn_big h4 hb2
              have HN := Lib.hid (powF_none HT.out (by rw [Hbt.out]; exact stepP_over Hbig.out hb2))
              clear hb2
              go_wp2
              go_ret2
              exact ⟨none, 0, 0, by rw [HN.out]; rfl, by rw [HN.out]; exact Hnil.out _, bw⟩
            · have hb2 : big (out * out * a) = false := by simpa using hb2
              have hl4 := nn_small h4 hb2
              have HN := Lib.hid (powF_some HT.out (by rw [Hbt.out]; exact stepP_yes Hbig.out hb2))
              have h5 := h4.relax (big_no hb2)
              clear hb2 h4
              go_wp2
              go_roundw
              case rel => exact ⟨p, _, A4, n4, c4, by omega, by go_num, rfl, HN, h5, h_x, bw⟩
              case measure => simp [intOf]
          · have hbt : m.testBit p = false := by simpa using hbt
            rw [hbt] at hbit
            have HN := Lib.hid (powF_some HT.out (by rw [hbt]; exact stepP_no hbig))
            have h5 := h3.relax (big_no hbig)
            clear hbt hbig h3
            go_wp2
            go_roundw
            case rel => exact ⟨p, _, A3, n3, c3, by omega, by go_num, rfl, HN, h5, h_x, bw⟩
            case measure => simp [intOf]

end Go.Proofs.YtpkjooiddejgpaaDoor
