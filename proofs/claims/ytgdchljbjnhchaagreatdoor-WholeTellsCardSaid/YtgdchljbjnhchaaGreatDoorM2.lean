/- Part 2 of the texts that the statements of this seat lean on: mathematics, and what functions answer, as contracts over memory; each part says its own conditions. -/
import Derived.Test.YtgdchljbjnhchaaGreatDoorM1
import Derived.Laws.Rows
import Derived.Deep.RegionWith
import Derived.Deep.RegionHeld3
import Derived.Deep.CutRange
/- Package mul's contracts in one form (numbers, lengths), and what Pow answers: the power that is made bit by bit from the highest one, or nothing where a step has too many limbs. Conditions: lists read as limbs, of at most 10^7 of them. -/
namespace Go.Proofs.YtgdchljbjnhchaaGreatDoor.Limb

/-- Has a number more limbs than a step may have? -/
def big (x : Nat) : Bool := decide (4294967296 ^ 256 ≤ x)
theorem big_yes {x : Nat} (h : big x = true) : 256 < (limbs x).length := lt_length_limbs (by simpa [big] using h)
theorem big_no {x : Nat} (h : big x = false) : x < 4294967296 ^ 256 := by simpa [big] using h

/-- One bit of a power: squared, and, if the bit is set, times a. -/
def stepP (a out : Nat) (b : Bool) : Option Nat :=
  if big (out * out) then none else if b then (if big (out * out * a) then none else some (out * out * a)) else some (out * out)

/-- A power bit by bit: the lowest i bits of n are still to do. -/
def powF (a n : Nat) : Nat → Nat → Option Nat
  | 0, out => some out
  | i + 1, out => match stepP a out (n.testBit i) with
    | none => none
    | some o => powF a n i o

theorem powF_none {a n i out : Nat} {T : Option Nat} (h : powF a n (i + 1) out = T) (hs : stepP a out (n.testBit i) = none) : T = none := by
  rw [powF, hs] at h; exact h.symm
theorem powF_some {a n i out o : Nat} {T : Option Nat} (h : powF a n (i + 1) out = T) (hs : stepP a out (n.testBit i) = some o) : powF a n i o = T := by
  rw [powF, hs] at h; exact h

theorem stepP_big {a out : Nat} {b : Bool} (h : big (out * out) = true) : stepP a out b = none := by rw [stepP, if_pos h]
theorem stepP_no {a out : Nat} (h : big (out * out) = false) : stepP a out false = some (out * out) := by simp [stepP, h]
theorem stepP_yes {a out : Nat} (h : big (out * out) = false) (h2 : big (out * out * a) = false) : stepP a out true = some (out * out * a) := by simp [stepP, h, h2]
theorem stepP_over {a out : Nat} (h : big (out * out) = false) (h2 : big (out * out * a) = true) : stepP a out true = none := by simp [stepP, h, h2]

/-- The bits above the highest one change nothing. -/
theorem powF_lead (a n d : Nat) : powF a n (blen n + d) 1 = powF a n (blen n) 1 := by
  induction d with
  | zero => rfl
  | succ d ih =>
    rw [← Nat.add_assoc, powF]
    have h0 : n.testBit (blen n + d) = false := Nat.testBit_lt_two_pow (Nat.lt_of_lt_of_le (blen_lt n) (Nat.pow_le_pow_right (by decide) (by omega)))
    rw [h0, stepP_no (by decide +kernel)]
    exact ih

/-- a to the n, where there is one. -/
def powV (a : Nat) (n : Int) : Option Nat := if n < 0 then none else powF a n.toNat 63 1

theorem powV_neg {a : Nat} {n : Int} (h : n < 0) : powV a n = none := by rw [powV, if_pos h]
theorem powV_nat (a n : Nat) (h : blen n ≤ 63) : powV a (n : Int) = powF a n (blen n) 1 := by
  rw [powV, if_neg (by omega), Int.toNat_natCast]
  have := powF_lead a n (63 - blen n)
  rwa [show blen n + (63 - blen n) = 63 by omega] at this

/-- Where all powers up to n are small enough the power is there. -/
theorem powF_small {a n : Nat} (h : ∀ m, m ≤ n → big (a ^ m) = false) : ∀ i, powF a n i (a ^ (n / 2 ^ i)) = some (a ^ n) := by
  intro i
  induction i with
  | zero => rw [powF, Nat.pow_zero, Nat.div_one]
  | succ i ih =>
    have e : n / 2 ^ i = n / 2 ^ (i + 1) * 2 + (n / 2 ^ i) % 2 := by
      rw [Nat.pow_succ, ← Nat.div_div_eq_div_mul]; omega
    have hle : n / 2 ^ i ≤ n := Nat.div_le_self _ _
    have e1 : a ^ (n / 2 ^ (i + 1)) * a ^ (n / 2 ^ (i + 1)) = a ^ (n / 2 ^ (i + 1) * 2) := by rw [← Nat.pow_add]; congr 1; omega
    have h1 : big (a ^ (n / 2 ^ (i + 1) * 2)) = false := h _ (by omega)
    rcases Nat.mod_two_eq_zero_or_one (n / 2 ^ i) with hb | hb
    · have ht : n.testBit i = false := by rw [Nat.testBit_eq_decide_div_mod_eq, hb]; rfl
      rw [hb, Nat.add_zero] at e
      rw [powF, ht, stepP_no (by rw [e1]; exact h1), e1, ← e]
      exact ih
    · have ht : n.testBit i = true := by rw [Nat.testBit_eq_decide_div_mod_eq, hb]; rfl
      rw [hb] at e
      have e2 : a ^ (n / 2 ^ (i + 1) * 2) * a = a ^ (n / 2 ^ i) := by rw [e]; exact (Nat.pow_succ ..).symm
      rw [powF, ht, stepP_yes (by rw [e1]; exact h1) (by rw [e1, e2]; exact h _ hle), e1, e2]
      exact ih

theorem powV_small {a n : Nat} (hb : blen n ≤ 63) (h : ∀ m, m ≤ n → a ^ m < 4294967296 ^ 256) : powV a (n : Int) = some (a ^ n) := by
  have := powF_small (a := a) (n := n) (fun m hm => by simpa [big] using h m hm) (blen n)
  rw [Nat.div_eq_of_lt (blen_lt n), Nat.pow_zero] at this
  rw [powV_nat a n hb, this]

end Go.Proofs.YtgdchljbjnhchaaGreatDoor.Limb
namespace Go.Proofs.YtgdchljbjnhchaaGreatDoor
open Go.RowKit Limb
set_option linter.unusedVariables false

section
variable {w : World} {A A' : Option Addr} {n c n' c' : Nat} {xs ys : List Nat} {a b L L' : Nat}

theorem mulOf_c (hx : NN w A n c xs a L) (hy : NN w A' n' c' ys b L') (K : Nat) (h1 : L ≤ 100000000) (h2 : L' ≤ 100000000) (h3 : L + L' ≤ K) :
    Calls Tryz.prog 37 #[.slice A n c, .slice A' n' c'] w fun e w' => ∃ A2 n2 c2, e = .returned (.slice A2 n2 c2) ∧ NN w' A2 n2 c2 (limbs (a * b)) (a * b) K ∧ Below w.heap.size w w' := by
  have hlx := lt_pow hx
  have hly := lt_pow hy
  refine (mulOf_any A n c xs A' n' c' ys w hx.isN hy.isN (by have := hx.le; omega) (by have := hy.le; omega) hx.cap hy.cap).mono ?_
  rintro e w' ⟨A2, n2, c2, rfl, how, hb⟩
  rw [hx.val, hy.val] at how
  refine ⟨A2, n2, c2, rfl, NN.own how ?_, hb⟩
  have e1 : 4294967296 ^ (L + L') ≤ 4294967296 ^ K := Nat.pow_le_pow_right (by decide) h3
  rw [Nat.pow_add] at e1
  exact Nat.lt_of_lt_of_le (Nat.mul_lt_mul'' hlx hly) e1

theorem mulSmall_c (hx : NN w A n c xs a L) (v : Nat) (V : Int) (hV : V = v) (hv : v < 4294967296) (h1 : L ≤ 100000000) :
    Calls Tryz.prog 48 #[.slice A n c, .int .u32 V] w fun e w' => ∃ A2 n2 c2, e = .returned (.slice A2 n2 c2) ∧ NN w' A2 n2 c2 (limbs (a * v)) (a * v) (L + 1) ∧ Below w.heap.size w w' := by
  subst hV
  have hlx := lt_pow hx
  refine (mulSmall_any A n c xs v w hx.isN (by have := hx.le; omega) hx.cap hv).mono ?_
  rintro e w' ⟨A2, n2, c2, rfl, how, hb⟩
  rw [hx.val] at how
  refine ⟨A2, n2, c2, rfl, NN.own how ?_, hb⟩
  rw [Nat.pow_succ]
  exact Nat.mul_lt_mul'' hlx hv

theorem two_pow_le {t K : Nat} (h : t ≤ 32 * K) : 2 ^ t ≤ 4294967296 ^ K := by
  rw [pow32]; exact Nat.pow_le_pow_right (by decide) h

theorem shiftV_lt (hx : NN w A n c xs a L) (V : Int) : shiftV a V < 4294967296 ^ (L + 256) := by
  have hlx := lt_pow hx
  have h0 : 4294967296 ^ L ≤ 4294967296 ^ (L + 256) := Nat.pow_le_pow_right (by decide) (by omega)
  unfold shiftV
  split
  · exact Nat.pow_pos (by decide)
  · split
    · exact Nat.lt_of_le_of_lt (Nat.div_le_self _ _) (Nat.lt_of_lt_of_le hlx h0)
    · have h3 : 2 ^ (min V 8192).toNat ≤ 4294967296 ^ 256 := two_pow_le (by omega)
      rw [Nat.pow_add]
      exact Nat.lt_of_lt_of_le (Nat.mul_lt_mul_of_pos_right hlx (Nat.two_pow_pos _)) (Nat.mul_le_mul_left _ h3)

end

theorem i64_bit (m i : Nat) (hm : m < 9223372036854775808) : (bits BinOp.and IntKind.i64 ((m : Int) / 2 ^ i) 1 == 1) = m.testBit i := by
  have e : (m : Int) / 2 ^ i = ((m / 2 ^ i : Nat) : Int) := by simp
  have h1 : m / 2 ^ i < 9223372036854775808 := Nat.lt_of_le_of_lt (Nat.div_le_self _ _) hm
  rw [e, Nat.testBit_eq_decide_div_mod_eq]
  generalize m / 2 ^ i = t at h1 ⊢
  have h2 : bits BinOp.and IntKind.i64 (t : Int) 1 = ((t % 2 : Nat) : Int) := by
    have ht : (BitVec.ofInt 64 (t : Int) &&& BitVec.ofInt 64 1).toNat = t % 2 := by
      rw [BitVec.toNat_and, ofInt_u64 t (by omega), show (BitVec.ofInt 64 1).toNat = 1 by decide, Nat.and_one_is_mod]
    show IntKind.i64.wrap ((BitVec.ofInt 64 (t : Int) &&& BitVec.ofInt 64 1).toNat : Int) = _
    rw [ht, IntKind.wrap_i64]
    omega
  rw [h2, Bool.eq_iff_iff]
  simp
  omega

theorem NN.len {w : World} {A : Option Addr} {n c : Nat} {xs : List Nat} {a L : Nat} (h : NN w A n c xs a L) : n = xs.length := h.isN.len.symm

theorem nn_big {w : World} {A : Option Addr} {n c a L : Nat} (h : NN w A n c (limbs a) a L) (hb : big a = true) : 256 < n := by rw [h.len]; exact big_yes hb
theorem nn_small {w : World} {A : Option Addr} {n c a L : Nat} (h : NN w A n c (limbs a) a L) (hb : big a = false) : n ≤ 256 := by rw [h.len]; exact length_limbs_le (big_no hb)

end Go.Proofs.YtgdchljbjnhchaaGreatDoor

/- What the reference's Small and Up of layer 2 come to, as contracts over memory: a number times one limb, moved by bits, in shortest limbs. Conditions: the list reads as limbs, of at most 10^7 of them; moves of at most 10^7 bits. -/
namespace Go.Proofs.YtgdchljbjnhchaaGreatDoor.Limb

/-- Limbs of a product with one limb, made one by one: those made so far, and what goes on. -/
def RSmall (xs zs : List Nat) (v k c : Nat) : Prop := zs.length = k ∧ Small zs ∧ val zs + c * 4294967296 ^ k = val (xs.take k) * v ∧ c < 4294967296

theorem RSmall.start (xs : List Nat) (v : Nat) : RSmall xs [] v 0 0 := ⟨rfl, small_nil, by simp [val], by omega⟩
theorem RSmall.step {xs zs : List Nat} {v k c lo hi : Nat} (h : RSmall xs zs v k c) (hx : Small xs) (hv : v < 4294967296) (hlo : lo < 4294967296) (e : lo + hi * 4294967296 = c + lim xs k * v) : RSmall xs (zs ++ [lo]) v (k + 1) hi := by
  obtain ⟨h1, h2, h3, h4⟩ := h
  refine ⟨by simp [h1], small_append.2 ⟨h2, by intro x hx; simp at hx; omega⟩, ?_, ?_⟩
  · rw [val_append, h1, val_take_lim, Nat.pow_succ]
    have := row_step (S := val zs) (Q := 0) (X := val (xs.take k)) (x := lim xs k) (v := v) (p := 0) (cr := c) (P := 4294967296 ^ k) (lo := lo) (hi := hi) (by rw [h3, Nat.zero_add, Nat.mul_comm]) (by rw [e, Nat.add_zero])
    simp only [val, Nat.mul_zero, Nat.add_zero, Nat.zero_add] at this ⊢
    rw [this, Nat.mul_comm]
  · have := limb_prod (lim_lt hx k) hv
    omega
theorem RSmall.done {xs zs : List Nat} {v k c : Nat} (h : RSmall xs zs v k c) (hx : xs.length = k) : Small (zs ++ [c]) ∧ val (zs ++ [c]) = val xs * v := by
  obtain ⟨h1, h2, h3, h4⟩ := h
  refine ⟨small_append.2 ⟨h2, by intro x hx; simp at hx; omega⟩, ?_⟩
  rw [List.take_of_length_le (by omega)] at h3
  rw [val_append, h1, ← h3, Nat.mul_comm c]
  simp [val]

/-- Limbs of a number moved up, made one by one behind q noughts. -/
def RUp (xs zs : List Nat) (q r k c : Nat) : Prop := zs.length = q + k ∧ Small zs ∧ val zs + c * 4294967296 ^ (q + k) = 4294967296 ^ q * val (xs.take k) * 2 ^ r ∧ c < 2 ^ r

theorem RUp.start (xs : List Nat) (q r : Nat) : RUp xs (List.replicate q 0) q r 0 0 := by
  refine ⟨by simp, small_zeros q, ?_, Nat.two_pow_pos _⟩
  have := val_zeros q []
  rw [List.append_nil] at this
  rw [this]; simp [val]
theorem RUp.step {xs zs : List Nat} {q r k c lo hi : Nat} (h : RUp xs zs q r k c) (hx : Small xs) (hlo : lo < 4294967296) (e : lo + hi * 4294967296 = c + lim xs k * 2 ^ r) : RUp xs (zs ++ [lo]) q r (k + 1) hi := by
  obtain ⟨h1, h2, h3, h4⟩ := h
  refine ⟨by simp [h1]; omega, small_append.2 ⟨h2, by intro x hx; simp at hx; omega⟩, ?_, ?_⟩
  · rw [val_append, h1, val_take_lim, ← Nat.add_assoc, Nat.pow_succ]
    have := row_step (S := val zs) (Q := 0) (X := 4294967296 ^ q * val (xs.take k)) (x := lim xs k) (v := 2 ^ r) (p := 0) (cr := c) (P := 4294967296 ^ (q + k)) (lo := lo) (hi := hi) (by rw [h3, Nat.zero_add, Nat.mul_comm]) (by rw [e, Nat.add_zero])
    simp only [val, Nat.mul_zero, Nat.add_zero, Nat.zero_add] at this ⊢
    have e2 : 4294967296 ^ (q + k) * lim xs k = 4294967296 ^ q * (4294967296 ^ k * lim xs k) := by rw [Nat.pow_add, Nat.mul_assoc]
    rw [this, e2, ← Nat.mul_add, Nat.mul_comm]
  · have h5 : lim xs k * 2 ^ r ≤ 4294967295 * 2 ^ r := Nat.mul_le_mul_right _ (by have := lim_lt hx k; omega)
    omega
theorem RUp.done {xs zs : List Nat} {q r k c : Nat} (h : RUp xs zs q r k c) (hx : xs.length = k) (hr : r < 32) : Small (zs ++ [c]) ∧ val (zs ++ [c]) = 4294967296 ^ q * val xs * 2 ^ r := by
  obtain ⟨h1, h2, h3, h4⟩ := h
  have hc : c < 4294967296 := by
    have : 2 ^ r < 2 ^ 32 := Nat.pow_lt_pow_right (by decide) hr
    omega
  refine ⟨small_append.2 ⟨h2, by intro x hx; simp at hx; omega⟩, ?_⟩
  rw [List.take_of_length_le (by omega)] at h3
  rw [val_append, h1, ← h3, Nat.mul_comm c]
  simp [val]

theorem RUp.or {c x r : Nat} (h : c < 2 ^ r) : c ||| x * 2 ^ r = c + x * 2 ^ r := by
  rw [Nat.or_comm, Nat.mul_comm, ← Nat.two_pow_add_eq_or_of_lt h]
  omega

end Go.Proofs.YtgdchljbjnhchaaGreatDoor.Limb
namespace Go.Proofs.YtgdchljbjnhchaaGreatDoor
open Go.RowKit Limb
set_option linter.unusedVariables false

set_option maxHeartbeats 800000 in
theorem refSmall_c {A : Option Addr} {n c : Nat} {xs : List Nat} {a L : Nat} {w : World} (hx : NN w A n c xs a L) (v : Nat) (V : Int) (hV : V = v) (hv : v < 4294967296) (h1 : L ≤ 100000000) :
    Calls Tryz.prog 51 #[.slice A n c, .int .u32 V] w fun e w' => ∃ A2 n2 c2, e = .returned (.slice A2 n2 c2) ∧ NN w' A2 n2 c2 (limbs (a * v)) (a * v) (L + 1) ∧ Below w.heap.size w w' := by
  subst hV
  have hle := hx.le
  have Hlx := Lib.hid hx.isN.len
  have hsx := hx.isN.small
  go_enter Tryz.func51, Tryz.ntmps51
  go_wp2
  go_loopw [7, 6, 5] (fun i cy ov wr => ∃ (k cr : Nat) (zs : List Nat) (A2 : Option Addr) (c2 : Nat), k ≤ n ∧ i = .int .i64 (k : Int) ∧ cy = .int .u64 (cr : Int) ∧ ov = .slice A2 k c2 ∧ RowKit.Hid (RSmall xs zs v k cr) ∧ OwnN wr w.heap.size A2 k c2 zs ∧ Below w.heap.size w wr) (fun i _ _ _ => n - (intOf i).toNat)
  case atStart => exact ⟨0, 0, [], none, 0, by omega, rfl, rfl, rfl, RSmall.start _ _, OwnN.nil _ _, Below.refl _ _⟩
  case round =>
    obtain ⟨k, cr, zs, A2, c2, hk, rfl, rfl, rfl, Hinv, how, bw⟩ := hrel
    have hcr := Hinv.out.2.2.2
    by_cases hgo : k < n
    · obtain ⟨b1, o1, rfl, hb1, hc1⟩ := hx.isN.2.2 (by omega)
      have hcell : wr.cell? ⟨b1, o1 + k, none⟩ = some (.int .u32 ((lim xs k : Nat) : Int)) := (bw.cell (p := ⟨b1, o1 + k, none⟩) hb1).trans (hc1 k hgo)
      have l1 := lim_lt hsx k
      have hq := limb_prod l1 hv
      have eI : ((lim xs k * v : Nat) : Int) = ((lim xs k : Nat) : Int) * (v : Int) := Int.natCast_mul _ _
      have hq1 : ((lim xs k : Nat) : Int) * (v : Int) ≤ 18446744065119617025 := by omega
      have hq0 : 0 ≤ ((lim xs k : Nat) : Int) * (v : Int) := by omega
      obtain ⟨sl, hsl⟩ : ∃ sl, sl = (cr + lim xs k * v) % 4294967296 := ⟨_, rfl⟩
      obtain ⟨sh, hsh⟩ : ∃ sh, sh = (cr + lim xs k * v) / 4294967296 := ⟨_, rfl⟩
      have es : ((cr : Int) + ((lim xs k : Nat) : Int) * (v : Int)) % 4294967296 = ((sl : Nat) : Int) := by omega
      have eh : ((cr : Int) + ((lim xs k : Nat) : Int) * (v : Int)) / 4294967296 = ((sh : Nat) : Int) := by omega
      have hsl2 : sl < 4294967296 := by omega
      have Hst : RowKit.Hid (RSmall xs (zs ++ [sl]) v (k + 1) sh) := Hinv.out.step hsx hv hsl2 (by omega)
      have Hown : RowKit.Hid ((wr.alloc (.cells #[Value.int IntKind.u32 (sl : Int)] 42)).ownsRow w.heap.size 42 1 (.slice A2 k c2) k (zs.map limV)) := (how.alloc _).row
      have Hlit : RowKit.Hid (NN (wr.alloc (.cells #[Value.int IntKind.u32 (sl : Int)] 42)) (some ⟨wr.heap.size, 0, none⟩) 1 1 [sl] (val [sl]) 1) := lit_c wr [sl] (by intro x hx; simp at hx; omega) 1 rfl
      have Hb : RowKit.Hid (k ≤ 1000000000 ∧ 1 ≤ 1000000000 ∧ w.heap.size ≤ (wr.alloc (.cells #[Value.int IntKind.u32 (sl : Int)] 42)).heap.size ∧ Small zs) := ⟨by omega, by omega, by have := bw.size; simp; omega, how.small⟩
      have How := Lib.hid how
      have Hbw := Lib.hid bw
      clear hq eI hsl hsh hsl2 how bw
      go_wp2_with (at_builtin; refine wpList_append_nat rfl _ _ rfl w.heap.size _ k zs rfl Hown (some ⟨wr.heap.size, 0, none⟩) 1 1 [sl] (val [sl]) 1 rfl Hlit Hb ?_)
      intro A3 c3 w3 how3 hg3
      have bw3 := below_grown Hbw.out How.out hg3.out
      have How3 := how3.out
      clear how3 hg3 Hown Hlit Hb How Hbw
      go_wp2
      go_roundw
      case rel => exact ⟨k + 1, sh, zs ++ [sl], A3, c3, by omega, by go_num, rfl, rfl, Hst, How3, bw3⟩
      case measure => simp [intOf]; omega
    · obtain rfl : k = n := by omega
      have Hd := Lib.hid (Hinv.out.done Hlx.out)
      have Hown : RowKit.Hid ((wr.alloc (.cells #[Value.int IntKind.u32 (cr : Int)] 42)).ownsRow w.heap.size 42 1 (.slice A2 k c2) k (zs.map limV)) := (how.alloc _).row
      have Hlit : RowKit.Hid (NN (wr.alloc (.cells #[Value.int IntKind.u32 (cr : Int)] 42)) (some ⟨wr.heap.size, 0, none⟩) 1 1 [cr] (val [cr]) 1) := lit_c wr [cr] (by intro x hx; simp at hx; omega) 1 rfl
      have Hb : RowKit.Hid (k ≤ 1000000000 ∧ 1 ≤ 1000000000 ∧ w.heap.size ≤ (wr.alloc (.cells #[Value.int IntKind.u32 (cr : Int)] 42)).heap.size ∧ Small zs) := ⟨by omega, by omega, by have := bw.size; simp; omega, how.small⟩
      have How := Lib.hid how
      have Hbw := Lib.hid bw
      have hav : val xs = a := hx.val
      clear how bw
      go_wp2_with (at_builtin; refine wpList_append_nat rfl _ _ rfl w.heap.size _ k zs rfl Hown (some ⟨wr.heap.size, 0, none⟩) 1 1 [cr] (val [cr]) 1 rfl Hlit Hb ?_)
      intro A3 c3 w3 how3 hg3
      have bw3 := below_grown Hbw.out How.out hg3.out
      have hz : NN w3 A3 (k + 1) c3 (zs ++ [cr]) (a * v) (L + 1) := ⟨how3.out.isN, by rw [Hd.out.2, hav], how3.out.caps.1, by omega⟩
      clear how3 hg3 Hown Hlit Hb How Hbw hav
      go_wp2_with fail
      refine (refTrim_c hz (by omega)).mono ?_
      rintro e w4 ⟨A4, n4, c4, rfl, h4, bn⟩
      go_wp2
      go_ret
      exact ⟨_, _, _, rfl, h4, below_two bw3 bn⟩

/-- Making a row of limbs with room. -/
theorem run_made2 (V C : Int) (n cap : Nat) (hV : V = n) (hC : C = cap) (hn : n ≤ cap) (hc : cap ≤ 2000000000) (W : World) : (Instr.makeSlice 23 (.int .i64 V) (.int .i64 C)).run Tryz.prog W = .ok (.slice (some ⟨W.heap.size, 0, none⟩) n cap) (W.alloc (.cells (madeCells #[.int .u32 0] cap) 42)) := by
  subst hV
  subst hC
  obtain ⟨i0, hi, hz0, hz1, hz2⟩ := info_parts u32_info
  have h := run_make (P := Tryz.prog) W 23 42 i0 (.int .u32 0) Tryz.underlying23 hi hz0 .i64 .i64 (n : Int) (cap : Int) (by omega) (by omega) (by rw [hz2]; omega) (by omega)
  rw [hz1] at h
  rw [Int.toNat_natCast, Int.toNat_natCast, Nat.mul_one] at h
  exact h

/-- A row that was made just now, with room. -/
theorem own_made2 (w : World) (n cap : Nat) (hn : n ≤ cap) (hc : cap ≤ 2000000000) : OwnN (w.alloc (.cells (madeCells #[.int .u32 0] cap) 42)) w.heap.size (some ⟨w.heap.size, 0, none⟩) n cap (List.replicate n 0) := by
  have Hg : (w.alloc (.cells (madeCells #[.int .u32 0] cap) 42)).heap[w.heap.size]? = some (.cells (List.replicate cap (Value.int .u32 0)).toArray 42 (0, 0)) := by
    rw [heap_alloc_new, ← toList_madeCells_one]
  refine ⟨⟨by simp, .inr ⟨w.heap.size, cap, _, rfl, Nat.le_refl _, Hg, hn, by unfold maxLen; omega, ?_, ?_⟩⟩, small_zeros _⟩
  · simp
  · simp [limV, List.take_replicate, Nat.min_eq_left hn]

set_option maxHeartbeats 800000 in
theorem refUp_o {A : Option Addr} {n c : Nat} {xs : List Nat} {a L : Nat} {w : World} (hx : NN w A n c xs a L) (m : Nat) (V : Int) (hV : V = m) (hm : m ≤ 100000000) (h1 : L ≤ 100000000) :
    Calls Tryz.prog 59 #[.slice A n c, .int .i64 V] w fun e w' => ∃ A2 n2 c2, e = .returned (.slice A2 n2 c2) ∧ OwnN w' w.heap.size A2 n2 c2 (limbs (a * 2 ^ m)) ∧ Below w.heap.size w w' := by
  subst hV
  obtain ⟨q, hq⟩ : ∃ q, q = m / 32 := ⟨_, rfl⟩
  obtain ⟨r, hr⟩ : ∃ r, r = m % 32 := ⟨_, rfl⟩
  have Hmv : RowKit.Hid (4294967296 ^ q * a * 2 ^ r = a * 2 ^ m) := by show _ = _; rw [hq, hr, Nat.mul_assoc]; exact pow_split _ _
  have eq1 : (m : Int) / 32 = (q : Int) := by omega
  have er1 : (m : Int) % 32 = (r : Int) := by omega
  have hr32 : r < 32 := by omega
  have hq3 : q ≤ 3125000 := by omega
  have hle := hx.le
  have Hlx := Lib.hid hx.isN.len
  have hsx := hx.isN.small
  have hav : RowKit.Hid (val xs = a) := hx.val
  clear hq hr
  have hmk := run_made2 (q : Int) ((q : Int) + (n : Int) + 1) q (q + n + 1) rfl (by omega) (by omega) (by omega)
  have Hs := Lib.hid (own_made2 w q (q + n + 1) (by omega) (by omega))
  have Hb0 := Lib.hid (below_new w (.cells (madeCells #[.int .u32 0] (q + n + 1)) 42))
  go_enter Tryz.func59, Tryz.ntmps59
  go_wp2
  go_loopw [7, 6, 5] (fun i cy ov wr => ∃ (k cr : Nat) (zs : List Nat) (A2 : Option Addr) (c2 : Nat), k ≤ n ∧ i = .int .i64 (k : Int) ∧ cy = .int .u64 (cr : Int) ∧ ov = .slice A2 (q + k) c2 ∧ RowKit.Hid (RUp xs zs q r k cr) ∧ RowKit.Hid (OwnN wr w.heap.size A2 (q + k) c2 zs) ∧ RowKit.Hid (Below w.heap.size w wr)) (fun i _ _ _ => n - (intOf i).toNat)
  case atStart => exact ⟨0, 0, List.replicate q 0, _, _, by omega, rfl, rfl, rfl, RUp.start _ _ _, Hs, Hb0⟩
  case round =>
    clear Hs Hb0 hmk
    obtain ⟨k, cr, zs, A2, c2, hk, rfl, rfl, rfl, Hinv, How0, Hbw0⟩ := hrel
    have how := How0.out
    have bw := Hbw0.out
    clear How0 Hbw0
    have hcr0 := Hinv.out.2.2.2
    have hr2 := two_pow_small r hr32
    have hcr : cr < 4294967296 := by omega
    by_cases hgo : k < n
    · obtain ⟨b1, o1, rfl, hb1, hc1⟩ := hx.isN.2.2 (by omega)
      have hcell : wr.cell? ⟨b1, o1 + k, none⟩ = some (.int .u32 ((lim xs k : Nat) : Int)) := (bw.cell (p := ⟨b1, o1 + k, none⟩) hb1).trans (hc1 k hgo)
      have l1 := lim_lt hsx k
      have hpr := limb_prod l1 hr2
      obtain ⟨s, hs⟩ : ∃ s, s = cr + lim xs k * 2 ^ r := ⟨_, rfl⟩
      have e2 : ((lim xs k : Nat) : Int) * 2 ^ r = ((lim xs k * 2 ^ r : Nat) : Int) := by rw [Int.natCast_mul, Int.natCast_pow]; rfl
      have e3 : IntKind.u64.wrap (((lim xs k : Nat) : Int) * 2 ^ r) = ((lim xs k * 2 ^ r : Nat) : Int) := by
        rw [e2, IntKind.wrap_u64]
        generalize lim xs k * 2 ^ r = t at hpr ⊢
        omega
      have hor : bits BinOp.or IntKind.u64 (cr : Int) (IntKind.u64.wrap (((lim xs k : Nat) : Int) * 2 ^ r)) = (s : Int) := by
        rw [e3, u64_or_nat _ _ (by omega) (by omega), RUp.or hcr0, ← hs]
      clear e2 e3
      have hs2 : s < 18446744073709551616 := by
        rw [hs]
        generalize lim xs k * 2 ^ r = t at hpr ⊢
        omega
      obtain ⟨sl, hsl⟩ : ∃ sl, sl = s % 4294967296 := ⟨_, rfl⟩
      obtain ⟨sh, hsh⟩ : ∃ sh, sh = s / 4294967296 := ⟨_, rfl⟩
      have es : (s : Int) % 4294967296 = ((sl : Nat) : Int) := by omega
      have eh : (s : Int) / 4294967296 = ((sh : Nat) : Int) := by omega
      have hsl2 : sl < 4294967296 := by omega
      have Hst : RowKit.Hid (RUp xs (zs ++ [sl]) q r (k + 1) sh) := Hinv.out.step hsx hsl2 (by rw [← hs]; omega)
      have hqk : q + k ≤ 200000000 := by omega
      have Hown : RowKit.Hid ((wr.alloc (.cells #[Value.int IntKind.u32 (sl : Int)] 42)).ownsRow w.heap.size 42 1 (.slice A2 (q + k) c2) (q + k) (zs.map limV)) := (how.alloc _).row
      have Hlit : RowKit.Hid (NN (wr.alloc (.cells #[Value.int IntKind.u32 (sl : Int)] 42)) (some ⟨wr.heap.size, 0, none⟩) 1 1 [sl] (val [sl]) 1) := lit_c wr [sl] (by intro x hx; simp at hx; omega) 1 rfl
      have Hb : RowKit.Hid ((q + k) ≤ 1000000000 ∧ 1 ≤ 1000000000 ∧ w.heap.size ≤ (wr.alloc (.cells #[Value.int IntKind.u32 (sl : Int)] 42)).heap.size ∧ Small zs) := ⟨by omega, by omega, by have := bw.size; simp; omega, how.small⟩
      have How := Lib.hid how
      have Hbw := Lib.hid bw
      clear hpr hs hsl hsh hsl2 how bw hcr0 hr2 Hinv
      go_wp2_with (at_builtin; refine wpList_append_nat rfl _ _ rfl w.heap.size _ (q + k) zs rfl Hown (some ⟨wr.heap.size, 0, none⟩) 1 1 [sl] (val [sl]) 1 rfl Hlit Hb ?_)
      intro A3 c3 w3 how3 hg3
      have bw3 := below_grown Hbw.out How.out hg3.out
      have How3 := Lib.hid how3.out
      have Bw3 := Lib.hid bw3
      clear how3 hg3 Hown Hlit Hb How Hbw bw3
      go_wp2
      go_roundw
      case rel => exact ⟨k + 1, sh, zs ++ [sl], A3, c3, by omega, by go_num, rfl, rfl, Hst, How3, Bw3⟩
      case measure => simp [intOf]; omega
    · obtain rfl : k = n := by omega
      have Hd := Lib.hid (Hinv.out.done Hlx.out hr32)
      have hqk : q + k ≤ 200000000 := by omega
      have Hown : RowKit.Hid ((wr.alloc (.cells #[Value.int IntKind.u32 (cr : Int)] 42)).ownsRow w.heap.size 42 1 (.slice A2 (q + k) c2) (q + k) (zs.map limV)) := (how.alloc _).row
      have Hlit : RowKit.Hid (NN (wr.alloc (.cells #[Value.int IntKind.u32 (cr : Int)] 42)) (some ⟨wr.heap.size, 0, none⟩) 1 1 [cr] (val [cr]) 1) := lit_c wr [cr] (by intro x hx; simp at hx; omega) 1 rfl
      have Hb : RowKit.Hid ((q + k) ≤ 1000000000 ∧ 1 ≤ 1000000000 ∧ w.heap.size ≤ (wr.alloc (.cells #[Value.int IntKind.u32 (cr : Int)] 42)).heap.size ∧ Small zs) := ⟨by omega, by omega, by have := bw.size; simp; omega, how.small⟩
      have How := Lib.hid how
      have Hbw := Lib.hid bw
      clear how bw hcr0 hr2 Hinv
      go_wp2_with (at_builtin; refine wpList_append_nat rfl _ _ rfl w.heap.size _ (q + k) zs rfl Hown (some ⟨wr.heap.size, 0, none⟩) 1 1 [cr] (val [cr]) 1 rfl Hlit Hb ?_)
      intro A3 c3 w3 how3 hg3
      have bw3 := below_grown Hbw.out How.out hg3.out
      have hv : val (zs ++ [cr]) = a * 2 ^ m := by rw [Hd.out.2, hav.out, Hmv.out]
      have hz : NN w3 A3 (q + k + 1) c3 (zs ++ [cr]) (a * 2 ^ m) 1000000000 := ⟨how3.out.isN, hv, how3.out.caps.1, by omega⟩
      clear how3 hg3 Hown Hlit Hb How Hbw hv
      go_wp2_with fail
      refine (refTrim_o hz (by omega)).mono ?_
      rintro e w4 ⟨A4, n4, c4, rfl, h4, bn⟩
      go_wp2
      go_ret
      exact ⟨_, _, _, rfl, h4.mono bw3.size, below_two bw3 bn⟩

theorem refUp_c {A : Option Addr} {n c : Nat} {xs : List Nat} {a L : Nat} {w : World} (hx : NN w A n c xs a L) (m : Nat) (V : Int) (hV : V = m) (hm : m ≤ 100000000) (h1 : L ≤ 100000000) (K : Nat) (hK : a * 2 ^ m < 4294967296 ^ K) :
    Calls Tryz.prog 59 #[.slice A n c, .int .i64 V] w fun e w' => ∃ A2 n2 c2, e = .returned (.slice A2 n2 c2) ∧ NN w' A2 n2 c2 (limbs (a * 2 ^ m)) (a * 2 ^ m) K ∧ Below w.heap.size w w' := by
  refine (refUp_o hx m V hV hm h1).mono ?_
  rintro e w' ⟨A2, n2, c2, rfl, how, hb⟩
  exact ⟨A2, n2, c2, rfl, NN.own how hK, hb⟩

end Go.Proofs.YtgdchljbjnhchaaGreatDoor

/- What the reference's Down and Shift of layer 2 come to, as contracts over memory: a number moved by bits, in shortest limbs. Conditions: the list reads as limbs, of at most 9*10^7 of them. -/
namespace Go.Proofs.YtgdchljbjnhchaaGreatDoor
open Go.RowKit Limb
set_option linter.unusedVariables false

theorem down_or {a b r : Nat} (ha : a < 4294967296) : (a ||| b * 4294967296) / 2 ^ r % 4294967296 = a / 2 ^ r ||| b * 2 ^ (32 - r) % 4294967296 ∨ 32 ≤ r := by
  by_cases hr : 32 ≤ r
  · exact .inr hr
  refine .inl (Nat.eq_of_testBit_eq fun i => ?_)
  rw [show (4294967296 : Nat) = 2 ^ 32 from rfl, Nat.testBit_mod_two_pow, Nat.testBit_div_two_pow, Nat.testBit_or, Nat.testBit_mul_two_pow, Nat.testBit_or, Nat.testBit_div_two_pow, Nat.testBit_mod_two_pow, Nat.testBit_mul_two_pow]
  by_cases hi : i < 32
  · by_cases hc : i + r < 32
    · have e1 : ¬ (32 ≤ i + r) := by omega
      have e2 : ¬ (32 - r ≤ i) := by omega
      simp [hi, e1, e2]
    · have e1 : 32 ≤ i + r := by omega
      have e2 : 32 - r ≤ i := by omega
      have e3 : i + r - 32 = i - (32 - r) := by omega
      simp [hi, e1, e2, e3]
  · have e4 : a.testBit (i + r) = false := Nat.testBit_lt_two_pow (Nat.lt_of_lt_of_le ha (by
      have : 2 ^ 32 ≤ 2 ^ (i + r) := Nat.pow_le_pow_right (by decide) (by omega)
      simpa using this))
    simp [hi, e4]

theorem down_lim {ys : List Nat} {r j : Nat} (hy : Small ys) (hr : r < 32) : (lim ys j ||| lim ys (j + 1) * 4294967296) / 2 ^ r % 4294967296 = downLimb ys r j := by
  rcases down_or (a := lim ys j) (b := lim ys (j + 1)) (r := r) (lim_lt hy j) with h | h
  · exact h
  · omega

/-- Limbs of a number moved down, made one by one. -/
def RDown (ys zs : List Nat) (r k : Nat) : Prop := zs.length = k ∧ ∀ j, j < k → lim zs j = downLimb ys r j
theorem RDown.start (ys : List Nat) (r : Nat) : RDown ys [] r 0 := ⟨rfl, fun j hj => by omega⟩
theorem lim_append_lt {zs us : List Nat} {j : Nat} (h : j < zs.length) : lim (zs ++ us) j = lim zs j := by
  simp [lim, List.getD_eq_getElem?_getD, List.getElem?_append_left h]
theorem lim_append_at {zs : List Nat} {u : Nat} : lim (zs ++ [u]) zs.length = u := by
  simp [lim, List.getD_eq_getElem?_getD]
theorem RDown.step {ys zs : List Nat} {r k v : Nat} (h : RDown ys zs r k) (hv : v = downLimb ys r k) : RDown ys (zs ++ [v]) r (k + 1) := by
  obtain ⟨h1, h2⟩ := h
  refine ⟨by simp [h1], fun j hj => ?_⟩
  by_cases e : j = k
  · subst e; rw [← h1, lim_append_at, h1, hv]
  · rw [lim_append_lt (by omega)]; exact h2 j (by omega)

end Go.Proofs.YtgdchljbjnhchaaGreatDoor

/- What the document's own answers for layer 1 (package steelyardref01) come to, as contracts over memory: Of, Cmp. Conditions: arguments read as limbs, of at most 10^9 of them. -/
namespace Go.Proofs.YtgdchljbjnhchaaGreatDoor
open Go.RowKit Limb
set_option linter.unusedVariables false

set_option maxHeartbeats 400000 in
theorem refOf_any (v : Int) (w : World) (h0 : 0 ≤ v) (h1 : v < 18446744073709551616) :
    Calls Tryz.prog 45 #[.int .u64 v] w fun e w' => ∃ A' n' c', e = .returned (.slice A' n' c') ∧ OwnN w' w.heap.size A' n' c' (limbs v.toNat) ∧ Below w.heap.size w w' := by
  go_enter Tryz.func45, Tryz.ntmps45
  go_wp2_with fail
  obtain ⟨v, rfl⟩ := Int.eq_ofNat_of_zero_le h0
  have e : (#[Value.int IntKind.u32 ((v : Int) % 4294967296), Value.int IntKind.u32 ((v : Int) / 4294967296)] : Array Value) = ([v % 4294967296, v / 4294967296].map limV).toArray := rfl
  have hs : Small [v % 4294967296, v / 4294967296] := by
    intro x hx
    simp at hx
    omega
  have hv : trim [v % 4294967296, v / 4294967296] = limbs ((v : Int)).toNat := by
    rw [trim_eq_limbs hs]
    congr 1
    simp [val]
    omega
  rw [e]
  refine (refTrim_any _ 2 2 [v % 4294967296, v / 4294967296] _ (isN_lit w [v % 4294967296, v / 4294967296] hs) (by omega) (by omega)).mono ?_
  rintro e w1 ⟨A', n', c', rfl, hown, hbel⟩
  rw [hv] at hown
  have hb : Below w.heap.size w w1 := ((Below.refl _ _).alloc (Nat.le_refl _) _).trans (hbel.mono (by simp))
  have hown' : OwnN w1 w.heap.size A' n' c' (limbs ((v : Int)).toNat) := hown.mono (by simp)
  clear hown hbel hv
  go_wp2
  go_ret
  exact ⟨_, _, _, rfl, hown', hb⟩

/-- Numbers alike from a place on are so ordered as below it. -/
theorem val_eq_of_lim {xs ys : List Nat} (hx : Small xs) (hy : Small ys) (h : ∀ j, lim xs j = lim ys j) : val xs = val ys := by
  have e : ∀ k, val (xs.take k) = val (ys.take k) := by
    intro k
    induction k with
    | zero => rfl
    | succ k ih => rw [val_take_lim, val_take_lim, ih, h k]
  have := e (max xs.length ys.length)
  rwa [List.take_of_length_le (by omega), List.take_of_length_le (by omega)] at this

theorem val_lt_pad {xs ys : List Nat} (hx : Small xs) (hy : Small ys) {k : Nat} (hlt : lim xs k < lim ys k) (h : ∀ j, k < j → lim xs j = lim ys j) : val xs < val ys := by
  have e : ∀ m, val (xs.take (k + 1 + m)) + 4294967296 ^ k ≤ val (ys.take (k + 1 + m)) + val (xs.take k) := by
    intro m
    induction m with
    | zero =>
      rw [Nat.add_zero, val_take_lim, val_take_lim]
      have h1 : 4294967296 ^ k * (lim xs k + 1) ≤ 4294967296 ^ k * lim ys k := Nat.mul_le_mul_left _ hlt
      rw [Nat.mul_add] at h1
      omega
    | succ m ih =>
      rw [← Nat.add_assoc, val_take_lim, val_take_lim, h (k + 1 + m) (by omega)]
      omega
  have h1 := e (max xs.length ys.length)
  rw [List.take_of_length_le (by omega), List.take_of_length_le (by omega)] at h1
  have h2 := val_lt (small_take hx k)
  have h3 : 4294967296 ^ (xs.take k).length ≤ 4294967296 ^ k := Nat.pow_le_pow_right (by decide) (by rw [List.length_take]; omega)
  omega

set_option maxHeartbeats 800000 in
theorem refCmp_any (A : Option Addr) (n c : Nat) (xs : List Nat) (A' : Option Addr) (n' c' : Nat) (ys : List Nat) (w : World) (hx : IsN w A n xs) (hy : IsN w A' n' ys) (hm : n ≤ 1000000000) (hm' : n' ≤ 1000000000) :
    Calls Tryz.prog 35 #[.slice A n c, .slice A' n' c'] w fun e w' => e = .returned (.int .i64 (cmpI (val xs) (val ys))) ∧ w = w' := by
  have hl := Lib.hid hx.len
  have hl' := Lib.hid hy.len
  by_cases hnn : n < n'
  case' pos => obtain ⟨M, hM, hM1, hM2⟩ : ∃ M, n' = M ∧ n ≤ M ∧ n' ≤ M := ⟨n', rfl, by omega, by omega⟩
  case' neg => obtain ⟨M, hM, hM1, hM2⟩ : ∃ M, n = M ∧ n ≤ M ∧ n' ≤ M := ⟨n, rfl, by omega, by omega⟩
  all_goals
    have hMb : M ≤ 1000000000 := by omega
    have HM := Lib.hid hM
    clear hM
    go_enter Tryz.func35, Tryz.ntmps35
    go_wp2
    go_loop [5] (fun i => ∃ k : Nat, k ≤ M ∧ i = .int .i64 ((k : Int) - 1) ∧ (∀ j, k ≤ j → lim xs j = lim ys j)) (fun i => (intOf i + 1).toNat)
    case atStart => exact ⟨M, Nat.le_refl _, by rw [← HM.out], fun j h1 => by rw [lim_of_ge (by have := hl.out; omega), lim_of_ge (by have := hl'.out; omega)]⟩
    case round =>
      obtain ⟨k, hk, rfl, heq⟩ := hrel
      have Heq := Lib.hid heq
      clear heq
      by_cases hk0 : k = 0
      · subst hk0
        have e : RowKit.Hid (cmpI (val xs) (val ys) = 0) := cmpI_same (val_eq_of_lim hx.small hy.small fun j => Heq.out j (Nat.zero_le _))
        go_wp2
        go_ret
        exact ⟨by rw [e.out]; rfl, rfl⟩
      · have b1 := lim_lt hx.small (k - 1)
        have b2 := lim_lt hy.small (k - 1)
        have ek : ((k : Int) - 1).toNat = k - 1 := by omega
        have Ek := Lib.hid ek
        clear ek
        have c1 : ∀ w' : World, w = w' → Calls Tryz.prog 56 #[.slice A n c, .int .i64 ((k : Int) - 1)] w' fun e w2 => e = .returned (.int .u64 ((lim xs (k - 1) : Nat) : Int)) ∧ w' = w2 := by
          rintro w' rfl
          have := refAt_any A n c xs ((k : Int) - 1) w hx hm (by omega) (by omega)
          rwa [Ek.out] at this
        have c2 : ∀ w' : World, w = w' → Calls Tryz.prog 56 #[.slice A' n' c', .int .i64 ((k : Int) - 1)] w' fun e w2 => e = .returned (.int .u64 ((lim ys (k - 1) : Nat) : Int)) ∧ w' = w2 := by
          rintro w' rfl
          have := refAt_any A' n' c' ys ((k : Int) - 1) w hy hm' (by omega) (by omega)
          rwa [Ek.out] at this
        have C1 := Lib.hid c1
        have C2 := Lib.hid c2
        clear c1 c2
        rcases Nat.lt_trichotomy (lim xs (k - 1)) (lim ys (k - 1)) with ho | ho | ho
        · have e : RowKit.Hid (cmpI (val xs) (val ys) = -1) := cmpI_lt (val_lt_pad hx.small hy.small ho fun j hj => Heq.out j (by omega))
          go_wp2_with fail
          refine (C1.out _ rfl).mono ?_
          rintro e w1 ⟨rfl, rfl⟩
          go_wp2_with fail
          refine (C2.out _ rfl).mono ?_
          rintro e w1 ⟨rfl, rfl⟩
          go_wp2
          go_ret
          exact ⟨by rw [e.out]; rfl, rfl⟩
        · have Ho := Lib.hid ho
          have hle : lim xs (k - 1) ≤ lim ys (k - 1) := by omega
          have hge : lim ys (k - 1) ≤ lim xs (k - 1) := by omega
          clear ho
          go_wp2_with fail
          refine (C1.out _ rfl).mono ?_
          rintro e w1 ⟨rfl, rfl⟩
          go_wp2_with fail
          refine (C2.out _ rfl).mono ?_
          rintro e w1 ⟨rfl, rfl⟩
          go_wp2_with fail
          refine (C1.out _ rfl).mono ?_
          rintro e w1 ⟨rfl, rfl⟩
          go_wp2_with fail
          refine (C2.out _ rfl).mono ?_
          rintro e w1 ⟨rfl, rfl⟩
          go_wp2
          go_round
          case rel => exact ⟨k - 1, by omega, by go_num, fun j h1 => by
            rcases Nat.lt_or_ge j k with h | h
            · have : j = k - 1 := by omega
              subst this; exact Ho.out
            · exact Heq.out j h⟩
          case measure => simp [intOf]; omega
        · have e : RowKit.Hid (cmpI (val xs) (val ys) = 1) := cmpI_gt (val_lt_pad hy.small hx.small ho fun j hj => (Heq.out j (by omega)).symm)
          have hle : ¬ lim xs (k - 1) < lim ys (k - 1) := by omega
          go_wp2_with fail
          refine (C1.out _ rfl).mono ?_
          rintro e w1 ⟨rfl, rfl⟩
          go_wp2_with fail
          refine (C2.out _ rfl).mono ?_
          rintro e w1 ⟨rfl, rfl⟩
          go_wp2_with fail
          refine (C1.out _ rfl).mono ?_
          rintro e w1 ⟨rfl, rfl⟩
          go_wp2_with fail
          refine (C2.out _ rfl).mono ?_
          rintro e w1 ⟨rfl, rfl⟩
          go_wp2
          go_ret
          exact ⟨by rw [e.out]; rfl, rfl⟩

end Go.Proofs.YtgdchljbjnhchaaGreatDoor

/- What the document's own answers for layer 1 (package steelyardref01) come to, as contracts over memory: Bit, Bits, Sub. Conditions: arguments read as limbs, of at most 10^8 of them; a difference is asked of a number that is not below. -/
namespace Go.Proofs.YtgdchljbjnhchaaGreatDoor
open Go.RowKit Limb
set_option linter.unusedVariables false

theorem bit_of64 (t k : Nat) (ht : t < 4294967296) : (bits BinOp.and IntKind.u64 ((t : Int) / 2 ^ k) 1 == 1) = t.testBit k := by
  have e : (t : Int) / 2 ^ k = ((t / 2 ^ k : Nat) : Int) := by simp
  have h1 : t / 2 ^ k < 4294967296 := Nat.lt_of_le_of_lt (Nat.div_le_self _ _) ht
  have h2 := u64_and_nat (t / 2 ^ k) 1 (by omega) (by decide)
  rw [e, show (1 : Int) = ((1 : Nat) : Int) from rfl, h2, Nat.and_one_is_mod, Nat.testBit_eq_decide_div_mod_eq]
  rw [Bool.eq_iff_iff]
  simp
  omega

theorem blen_of_bit {n k : Nat} (h : blen n ≤ k) (hk : k ≠ 0) (hb : n.testBit (k - 1) = true) : blen n = k := by
  have h1 := Nat.ge_two_pow_of_testBit hb
  have h2 := blen_lt n
  have h3 : k - 1 < blen n := (Nat.pow_lt_pow_iff_right (show 1 < 2 by decide)).1 (Nat.lt_of_le_of_lt h1 h2)
  omega

theorem blen_of_nobit {n k : Nat} (h : blen n ≤ k) (hk : k ≠ 0) (hb : n.testBit (k - 1) = false) : blen n ≤ k - 1 := by
  by_cases h0 : n = 0
  · subst h0; rw [blen_zero]; omega
  · have h1 := blen_top h0
    refine Classical.byContradiction fun hn => ?_
    have : blen n - 1 = k - 1 := by omega
    rw [this, hb] at h1
    cases h1

/-- A difference that the reference makes limb by limb. -/
def RSub (xs ys zs : List Nat) (k br : Nat) : Prop := zs.length = k ∧ Small zs ∧ val zs + val (ys.take k) = val (xs.take k) + br * 4294967296 ^ k ∧ br ≤ 1

theorem RSub.start (xs ys : List Nat) : RSub xs ys [] 0 0 := ⟨rfl, small_nil, by simp [val], by omega⟩
theorem sub_step {S X Y z y c P lo hi : Nat} (h : S + Y = X + c * P) (e : lo + y + c = z + hi * 4294967296) : S + P * lo + (Y + P * y) = X + P * z + hi * (P * 4294967296) := by
  have h1 := congrArg (P * ·) e
  simp only [Nat.mul_add] at h1
  rw [Nat.mul_left_comm hi P, Nat.mul_comm c P] at *
  omega
theorem RSub.step0 {xs ys zs : List Nat} {k br lo hi : Nat} (h : RSub xs ys zs k br) (hs : lo < 4294967296) (hi1 : hi ≤ 1) (e : lo + lim ys k + br = lim xs k + hi * 4294967296) : RSub xs ys (zs ++ [lo]) (k + 1) hi := by
  obtain ⟨h1, h2, h3, h4⟩ := h
  have hv : val (zs ++ [lo]) = val zs + 4294967296 ^ k * lo := by rw [val_append, h1]; simp [val]
  have e2 : 4294967296 ^ (k + 1) = 4294967296 ^ k * 4294967296 := Nat.pow_succ ..
  refine ⟨by simp [h1], small_append.2 ⟨h2, small_cons.2 ⟨hs, small_nil⟩⟩, ?_, hi1⟩
  rw [hv, val_take_lim, val_take_lim, e2]
  exact sub_step h3 e
theorem RSub.step {xs ys zs : List Nat} {k br : Nat} (h : RSub xs ys zs k br) (hx : Small xs) (hy : Small ys) : RSub xs ys (zs ++ [diffLo (lim xs k) (lim ys k) br]) (k + 1) (diffHi (lim xs k) (lim ys k) br) :=
  h.step0 (diffLo_lt _ _ _) (diffHi_le _ _ _) (diff_parts (lim_lt hx k) (lim_lt hy k) h.2.2.2)
theorem RSub.done {xs ys zs : List Nat} {k br : Nat} (h : RSub xs ys zs k br) (hk : xs.length = k) (hle : val ys ≤ val xs) (hx : Small xs) : val zs = val xs - val ys := by
  obtain ⟨h1, h2, h3, h4⟩ := h
  have hz := val_lt h2
  rw [h1] at hz
  have hxl := val_lt hx
  rw [hk] at hxl
  rw [List.take_of_length_le (l := xs) (by omega)] at h3
  have hy : val (ys.take k) = val ys := by
    by_cases hky : ys.length ≤ k
    · rw [List.take_of_length_le hky]
    · have e := val_split ys k (by omega)
      have h0 : val (ys.drop k) = 0 := by
        refine Classical.byContradiction fun hn => ?_
        have : 4294967296 ^ k * 1 ≤ 4294967296 ^ k * val (ys.drop k) := Nat.mul_le_mul_left _ (by omega)
        omega
      rw [h0] at e
      omega
  rw [hy] at h3
  rcases (show br = 0 ∨ br = 1 by omega) with rfl | rfl
  · omega
  · omega

theorem diffHi_yes {x y c : Nat} (h : x < y + c) : diffHi x y c = 1 := by simp [diffHi, h]
theorem diffHi_no {x y c : Nat} (h : ¬ x < y + c) : diffHi x y c = 0 := by simp [diffHi, h]

set_option maxHeartbeats 800000 in
theorem refSub_o {A A' : Option Addr} {n c n' c' : Nat} {xs ys : List Nat} {a b L L' : Nat} {w : World} (hx : NN w A n c xs a L) (hy : NN w A' n' c' ys b L') (h1 : L ≤ 100000000) (h2 : L' ≤ 100000000) (hab : b ≤ a) :
    Calls Tryz.prog 36 #[.slice A n c, .slice A' n' c'] w fun e w' => ∃ A2 n2 c2, e = .returned (.slice A2 n2 c2) ∧ OwnN w' w.heap.size A2 n2 c2 (limbs (a - b)) ∧ Below w.heap.size w w' := by
  have hle := hx.le
  have hle' := hy.le
  have Hlx := Lib.hid hx.isN.len
  have Hab := Lib.hid hab
  clear hab
  go_enter Tryz.func36, Tryz.ntmps36
  go_wp2
  go_loopw [7, 6, 5] (fun i cy v wr => ∃ (k br : Nat) (zs : List Nat) (A2 : Option Addr) (c2 : Nat), k ≤ n ∧ i = .int .i64 (k : Int) ∧ cy = .int .u64 (br : Int) ∧ v = .slice A2 k c2 ∧ RSub xs ys zs k br ∧ OwnN wr w.heap.size A2 k c2 zs ∧ Below w.heap.size w wr) (fun i _ _ _ => n - (intOf i).toNat)
  case atStart => exact ⟨0, 0, [], none, 0, by omega, rfl, rfl, rfl, RSub.start _ _, OwnN.nil _ _, Below.refl _ _⟩
  case round =>
    obtain ⟨k, br, zs, A2, c2, hk, rfl, rfl, rfl, hinv, how, bw⟩ := hrel
    have Hinv := Lib.hid hinv
    have hbr := hinv.2.2.2
    clear hinv
    have h_x := hx.below bw
    have h_y := hy.below bw
    by_cases hgo : k < n
    · have b1 := lim_lt hx.isN.small k
      have b2 := lim_lt hy.isN.small k
      obtain ⟨sl, hsl⟩ : ∃ sl, sl = diffLo (lim xs k) (lim ys k) br := ⟨_, rfl⟩
      obtain ⟨sh, hsh⟩ : ∃ sh, sh = diffHi (lim xs k) (lim ys k) br := ⟨_, rfl⟩
      have hpar := diff_parts b1 b2 hbr
      have hsl2 : sl < 4294967296 := by rw [hsl]; exact diffLo_lt _ _ _
      have Hst : RowKit.Hid (RSub xs ys (zs ++ [sl]) (k + 1) sh) := by
        show RSub _ _ _ _ _
        rw [hsl, hsh]; exact Hinv.out.step hx.isN.small hy.isN.small
      have Hown : RowKit.Hid ((wr.alloc (.cells #[Value.int IntKind.u32 (sl : Int)] 42)).ownsRow w.heap.size 42 1 (.slice A2 k c2) k (zs.map limV)) := (how.alloc _).row
      have Hlit : RowKit.Hid (NN (wr.alloc (.cells #[Value.int IntKind.u32 (sl : Int)] 42)) (some ⟨wr.heap.size, 0, none⟩) 1 1 [sl] (val [sl]) 1) := lit_c wr [sl] (by intro x hx; simp at hx; omega) 1 rfl
      have Hb : RowKit.Hid (k ≤ 1000000000 ∧ 1 ≤ 1000000000 ∧ w.heap.size ≤ (wr.alloc (.cells #[Value.int IntKind.u32 (sl : Int)] 42)).heap.size ∧ Small zs) := ⟨by omega, by omega, by have := bw.size; simp; omega, how.small⟩
      have How := Lib.hid how
      have Hbw := Lib.hid bw
      clear how bw
      by_cases hlt : lim xs k < lim ys k + br
      case' pos =>
        rw [diffHi_yes hlt] at hpar hsh
        subst hsh
        rw [← hsl] at hpar
        have es : ((lim xs k : Nat) : Int) + 4294967296 - (((lim ys k : Nat) : Int) + (br : Int)) = ((sl : Nat) : Int) := by omega
      case' neg =>
        rw [diffHi_no hlt] at hpar hsh
        subst hsh
        rw [← hsl] at hpar
        have es : ((lim xs k : Nat) : Int) - (((lim ys k : Nat) : Int) + (br : Int)) = ((sl : Nat) : Int) := by omega
      all_goals
        clear hpar hsl
        go_wp2_with fail
        refine (refAt_c h_x (by omega) k (by omega)).mono ?_
        rintro e w1 ⟨rfl, rfl⟩
        go_wp2_with fail
        refine (refAt_c h_y (by omega) k (by omega)).mono ?_
        rintro e w1 ⟨rfl, rfl⟩
        go_wp2_with (at_builtin; refine wpList_append_nat rfl _ _ rfl w.heap.size _ k zs rfl Hown (some ⟨wr.heap.size, 0, none⟩) 1 1 [sl] (val [sl]) 1 rfl Hlit Hb ?_)
        intro A3 c3 w3 how3 hg3
        have bw3 := below_grown Hbw.out How.out hg3.out
        have How3 := how3.out
        clear how3 hg3 Hown Hlit Hb How Hbw
        go_wp2
        go_roundw
        case rel => exact ⟨k + 1, _, zs ++ [sl], A3, c3, by omega, by go_num, rfl, rfl, Hst.out, How3, bw3⟩
        case measure => simp [intOf]; omega
    · obtain rfl : k = n := by omega
      have hv : val zs = a - b := by
        rw [Hinv.out.done Hlx.out (by rw [hx.val, hy.val]; exact Hab.out) hx.isN.small, hx.val, hy.val]
      have hz : NN wr A2 k c2 zs (a - b) L := ⟨how.isN, hv, how.caps.1, by omega⟩
      clear hv how
      go_wp2_with fail
      refine (refTrim_o hz (by omega)).mono ?_
      rintro e w4 ⟨A4, n4, c4, rfl, h4, bn⟩
      go_wp2
      go_ret
      exact ⟨_, _, _, rfl, h4.mono bw.size, below_two bw bn⟩

theorem refSub_c {A A' : Option Addr} {n c n' c' : Nat} {xs ys : List Nat} {a b L L' : Nat} {w : World} (hx : NN w A n c xs a L) (hy : NN w A' n' c' ys b L') (h1 : L ≤ 100000000) (h2 : L' ≤ 100000000) (hab : b ≤ a) :
    Calls Tryz.prog 36 #[.slice A n c, .slice A' n' c'] w fun e w' => ∃ A2 n2 c2, e = .returned (.slice A2 n2 c2) ∧ NN w' A2 n2 c2 (limbs (a - b)) (a - b) L ∧ Below w.heap.size w w' := by
  have hl := lt_pow hx
  refine (refSub_o hx hy h1 h2 hab).mono ?_
  rintro e w' ⟨A2, n2, c2, rfl, how, hb⟩
  exact ⟨A2, n2, c2, rfl, NN.own how (Nat.lt_of_le_of_lt (Nat.sub_le _ _) hl), hb⟩

theorem refCmp_c {A A' : Option Addr} {n c n' c' : Nat} {xs ys : List Nat} {a b L L' : Nat} {w : World} (hx : NN w A n c xs a L) (hy : NN w A' n' c' ys b L') (h1 : L ≤ 1000000000) (h2 : L' ≤ 1000000000) (v : Int) (hv : cmpI a b = v) :
    Calls Tryz.prog 35 #[.slice A n c, .slice A' n' c'] w fun e w' => e = .returned (.int .i64 v) ∧ w = w' := by
  have := refCmp_any A n c xs A' n' c' ys w hx.isN hy.isN (by have := hx.le; omega) (by have := hy.le; omega)
  rwa [hx.val, hy.val, hv] at this

theorem refOf_c (v : Nat) (V : Int) (hV : V = v) (h : v < 18446744073709551616) (w : World) :
    Calls Tryz.prog 45 #[.int .u64 V] w fun e w' => ∃ A2 n2 c2, e = .returned (.slice A2 n2 c2) ∧ NN w' A2 n2 c2 (limbs v) v 2 ∧ Below w.heap.size w w' := by
  subst hV
  refine (refOf_any (v : Int) w (by omega) (by omega)).mono ?_
  rintro e w' ⟨A2, n2, c2, rfl, how, hb⟩
  rw [Int.toNat_natCast] at how
  exact ⟨A2, n2, c2, rfl, NN.own how (by omega), hb⟩

end Go.Proofs.YtgdchljbjnhchaaGreatDoor

/- What the reference's Rem of layer 3 comes to, as a contract over memory: quotient and what is left, by bits moved and taken away. Conditions: both lists read as limbs, of at most 10^5 of them. -/
namespace Go.Proofs.YtgdchljbjnhchaaGreatDoor.Limb

theorem val_set_add {zs : List Nat} {q d : Nat} (hq : q < zs.length) : val (zs.set q (lim zs q + d)) = val zs + 4294967296 ^ q * d := by
  rw [val_split (zs.set q (lim zs q + d)) (q + 1) (by simp; omega), drop_succ_set, val_take_set hq, val_split zs (q + 1) (by omega), val_take_lim, Nat.mul_add]
  omega

theorem low_bit {V i : Nat} (h : V % 2 ^ (i + 1) = 0) : (V / 4294967296 ^ (i / 32) % 4294967296) ||| 2 ^ (i % 32) = V / 4294967296 ^ (i / 32) % 4294967296 + 2 ^ (i % 32) := by
  obtain ⟨c, rfl⟩ := Nat.dvd_of_mod_eq_zero h
  have e1 : 2 ^ (i + 1) = 2 ^ (32 * (i / 32)) * 2 ^ (i % 32 + 1) := by rw [← Nat.pow_add]; congr 1; omega
  have hk : i % 32 < 32 := Nat.mod_lt _ (by decide)
  have e2 : (4294967296 : Nat) = 2 ^ (i % 32 + 1) * 2 ^ (31 - i % 32) := by rw [← Nat.pow_add, show i % 32 + 1 + (31 - i % 32) = 32 by omega]
  have e3 : 2 ^ (i + 1) * c / 4294967296 ^ (i / 32) = 2 ^ (i % 32 + 1) * c := by
    rw [pow32, e1, Nat.mul_assoc, Nat.mul_div_cancel_left _ (Nat.two_pow_pos _)]
  have e4 : 2 ^ (i % 32 + 1) * c % 4294967296 = 2 ^ (i % 32 + 1) * (c % 2 ^ (31 - i % 32)) := by
    rw [show 2 ^ (i % 32 + 1) * c % 4294967296 = 2 ^ (i % 32 + 1) * c % (2 ^ (i % 32 + 1) * 2 ^ (31 - i % 32)) by rw [← e2], Nat.mul_mod_mul_left]
  rw [e3, e4]
  exact (Nat.two_pow_add_eq_or_of_lt (Nat.pow_lt_pow_right (by decide) (Nat.lt_succ_self _)) _).symm

/-- A quotient that is made bit by bit: what is left, and the bits set so far, all from j on. -/
def QInv (a b : Nat) (zs : List Nat) (left j : Nat) : Prop := a = left + b * val zs ∧ left < b * 2 ^ j ∧ val zs % 2 ^ j = 0

theorem QInv.start {a b n : Nat} (k : Nat) (hb : b ≠ 0) (h : blen a ≤ blen b + n) : QInv a b (List.replicate k 0) a (n + 1) := by
  have e0 : val (List.replicate k 0) = 0 := val_zero fun j => by simp [lim, List.getD_eq_getElem?_getD, List.getElem?_replicate]; split <;> rfl
  refine ⟨by rw [e0]; rfl, ?_, by rw [e0, Nat.zero_mod]⟩
  obtain ⟨h1, h2, h3⟩ := blen_spec hb
  have h4 : a < 2 ^ (blen b + n) := Nat.lt_of_lt_of_le (blen_lt a) (Nat.pow_le_pow_right (by decide) h)
  have h5 : 2 ^ (blen b + n) = 2 ^ (blen b - 1) * 2 ^ (n + 1) := by rw [← Nat.pow_add]; congr 1; omega
  rw [h5] at h4
  exact Nat.lt_of_lt_of_le h4 (Nat.mul_le_mul_right _ h1)

theorem mod_low {V j : Nat} (h : V % 2 ^ (j + 1) = 0) : V % 2 ^ j = 0 :=
  Nat.mod_eq_zero_of_dvd (Nat.dvd_trans ⟨2, by rw [Nat.pow_succ]⟩ (Nat.dvd_of_mod_eq_zero h))

theorem QInv.yes {a b left j : Nat} {zs : List Nat} (h : QInv a b zs left (j + 1)) (hz : Small zs) (hle : b * 2 ^ j ≤ left) (hj : j / 32 < zs.length) : QInv a b (zs.set (j / 32) (lim zs (j / 32) ||| 2 ^ (j % 32))) (left - b * 2 ^ j) j := by
  obtain ⟨h1, h2, h3⟩ := h
  have e : val (zs.set (j / 32) (lim zs (j / 32) ||| 2 ^ (j % 32))) = val zs + 2 ^ j := by
    have h4 := low_bit h3
    rw [lim_eq_div zs hz] at h4
    rw [h4, val_set_add hj, pow_move]
  refine ⟨?_, ?_, ?_⟩
  · rw [e, Nat.mul_add, h1]; omega
  · rw [Nat.pow_succ, ← Nat.mul_assoc] at h2; omega
  · rw [e, Nat.add_mod_right]; exact mod_low h3
theorem QInv.no {a b left j : Nat} {zs : List Nat} (h : QInv a b zs left (j + 1)) (hlt : left < b * 2 ^ j) : QInv a b zs left j := ⟨h.1, hlt, mod_low h.2.2⟩
theorem QInv.done {a b left : Nat} {zs : List Nat} (h : QInv a b zs left 0) (hb : b ≠ 0) : val zs = a / b ∧ left = a % b := by
  obtain ⟨h1, h2, _⟩ := h
  rw [Nat.pow_zero, Nat.mul_one] at h2
  refine ⟨?_, ?_⟩
  · rw [h1, Nat.add_mul_div_left _ _ (Nat.pos_of_ne_zero hb), Nat.div_eq_of_lt h2, Nat.zero_add]
  · rw [h1, Nat.add_mul_mod_self_left, Nat.mod_eq_of_lt h2]

theorem bit_small {x k : Nat} (h : x < 4294967296) (hk : k < 32) : x ||| 2 ^ k < 4294967296 :=
  Nat.or_lt_two_pow (n := 32) h (Nat.pow_lt_pow_right (by decide) hk)

/-- The divisor, moved up, at a place. -/
def xAt (b j : Nat) : Nat := b * 2 ^ j / 2
theorem xAt_succ (b j : Nat) : xAt b (j + 1) = b * 2 ^ j := by
  unfold xAt; rw [Nat.pow_succ, ← Nat.mul_assoc, Nat.mul_div_cancel _ (by decide)]

/-- What is left; of a division by nothing: nothing. -/
def remR (a b : Nat) : Nat := if b = 0 then 0 else a % b
theorem remR_pos {a b : Nat} (h : b ≠ 0) : remR a b = a % b := if_neg h
theorem remR_zero {a b : Nat} (h : b = 0) : remR a b = 0 := if_pos h

end Go.Proofs.YtgdchljbjnhchaaGreatDoor.Limb
namespace Go.Proofs.YtgdchljbjnhchaaGreatDoor
open Go.RowKit Limb
set_option linter.unusedVariables false

/-- What a result's three cells hold behind the stores. -/
def fill3 (w : World) (g : Nat) (u v b : Value) : World := ((w.setCell ⟨g, 0, none⟩ u).setCell ⟨g, 1, none⟩ v).setCell ⟨g, 2, none⟩ b
/-- A slice that lies elsewhere. -/
def Apart (g : Nat) (A : Option Addr) (n : Nat) : Prop := 0 < n → ∀ b o s, A = some ⟨b, o, s⟩ → b ≠ g

theorem Apart.old {w : World} {A : Option Addr} {n c : Nat} {xs : List Nat} {a L g : Nat} (h : NN w A n c xs a L) (hg : w.heap.size ≤ g) : Apart g A n := by
  intro hn b o s e
  obtain ⟨b', o', e', hlt, _⟩ := h.isN.2.2 hn
  rw [e] at e'; injection e' with e'; injection e' with e' _
  omega
theorem Apart.own {w : World} {B : Nat} {A : Option Addr} {n c : Nat} {zs : List Nat} {g : Nat} (h : OwnN w B A n c zs) (hg : g < B) : Apart g A n := by
  intro hn b o s e
  obtain ⟨g', e', hB, _⟩ := h.addr hn
  rw [e] at e'; injection e' with e'; injection e' with e' _
  omega
theorem NN.elsewhere {w : World} {A : Option Addr} {n c : Nat} {xs : List Nat} {a L g : Nat} (h : NN w A n c xs a L) (hg : Apart g A n) (k : Nat) (v : Value) : NN (w.setCell ⟨g, k, none⟩ v) A n c xs a L := by
  refine ⟨⟨h.isN.1, h.isN.2.1, fun hn => ?_⟩, h.val, h.cap, h.le⟩
  obtain ⟨b, o, e, hlt, hc⟩ := h.isN.2.2 hn
  refine ⟨b, o, e, by simpa [World.setCell] using hlt, fun j hj => ?_⟩
  rw [cell_setCell_ne _ _ (by intro e2; injection e2 with e2; exact hg hn b o none e e2.symm)]
  exact hc j hj
theorem NN.fill3 {w : World} {A : Option Addr} {n c : Nat} {xs : List Nat} {a L g : Nat} (h : NN w A n c xs a L) (hg : Apart g A n) (u v b : Value) : NN (fill3 w g u v b) A n c xs a L :=
  ((h.elsewhere hg 0 u).elsewhere hg 1 v).elsewhere hg 2 b
theorem below_fill3 {w wr : World} {g : Nat} (h : Below w.heap.size w wr) (hg : w.heap.size ≤ g) (u v b : Value) : Below w.heap.size w (fill3 wr g u v b) :=
  ((h.setCell (by exact hg) _).setCell (by exact hg) _).setCell (by exact hg) _

/-- A machine's number is this one: under a name that no simp set opens. -/
def NumIs (V : Int) (n : Nat) : Prop := V = n

end Go.Proofs.YtgdchljbjnhchaaGreatDoor

/- What the reference's Gcd of layer 3 comes to, as a contract over memory: the greatest divisor in common. Conditions: both lists read as limbs, of at most 40000 of them. -/
namespace Go.Proofs.YtgdchljbjnhchaaGreatDoor
open Go.RowKit Limb
set_option linter.unusedVariables false

/-- What so many cells from an address on read as. -/
def readCells (w : World) (b o : Nat) : Nat → List Nat
  | 0 => []
  | n + 1 => readCells w b o n ++ [match w.cell? ⟨b, o + n, none⟩ with | some (.int _ i) => i.toNat | _ => 0]
/-- The number that a slice of limbs tells in a world: a loop's measure. -/
def readN (w : World) (v : Value) : Nat := match v with
  | .slice (some ⟨b, o, _⟩) n _ => val (readCells w b o n)
  | _ => 0

theorem readCells_eq {w : World} {b o n : Nat} {xs : List Nat} (h : ∀ j, j < n → w.cell? ⟨b, o + j, none⟩ = some (.int .u32 ((lim xs j : Nat) : Int))) (hl : xs.length = n) : ∀ k, k ≤ n → readCells w b o k = xs.take k := by
  intro k
  induction k with
  | zero => intro _; rfl
  | succ k ih =>
    intro hk
    rw [readCells, ih (by omega), h k (by omega), List.take_succ_eq_append_getElem (by omega)]
    simp [lim, List.getD_eq_getElem?_getD, List.getElem?_eq_getElem (show k < xs.length by omega)]

theorem readN_eq {w : World} {A : Option Addr} {n c : Nat} {xs : List Nat} (h : IsN w A n xs) : readN w (.slice A n c) = val xs := by
  by_cases hn : n = 0
  · subst hn
    obtain rfl : xs = [] := List.eq_nil_of_length_eq_zero h.len
    rcases A with _ | ⟨b, o, s⟩ <;> rfl
  · obtain ⟨b, o, rfl, _, hc⟩ := h.2.2 (by omega)
    show val (readCells w b o n) = _
    rw [readCells_eq hc h.len n (Nat.le_refl _), List.take_of_length_le (by rw [h.len]; exact Nat.le_refl _)]

theorem gcd_step (x y : Nat) : Nat.gcd y (x % y) = Nat.gcd x y := by
  rw [Nat.gcd_comm x y, Nat.gcd_rec y x, Nat.gcd_comm]

/-- The greatest divisor in common, under a name that no simp set opens. -/
def gcdN (a b : Nat) : Nat := Nat.gcd a b
theorem gcdN_step {x y g : Nat} (h : gcdN x y = g) : gcdN y (x % y) = g := by unfold gcdN at *; rw [gcd_step]; exact h
theorem gcdN_end {x g : Nat} (h : gcdN x 0 = g) : x = g := by unfold gcdN at h; rwa [Nat.gcd_zero_right] at h

end Go.Proofs.YtgdchljbjnhchaaGreatDoor

/- What the reference's calls of layer 5 come to, as contracts over memory: a number by ten and what is left, its decimal text, ten to a power. Conditions: lists read as limbs, of at most 10^4 of them; exponents of at most 10^4. -/
namespace Go.Proofs.YtgdchljbjnhchaaGreatDoor
open Go.RowKit Limb
set_option linter.unusedVariables false

theorem or_hi (x y : Nat) (hx : x < 4294967296) (hy : y < 4294967296) : bits BinOp.or IntKind.u64 ((x : Int) * 4294967296) (y : Int) = ((x * 4294967296 + y : Nat) : Int) := by
  have e1 : (x : Int) * 4294967296 = ((x * 4294967296 : Nat) : Int) := by omega
  rw [e1, u64_or_nat _ _ (by omega) (by omega), Nat.mul_comm x, show (4294967296 : Nat) = 2 ^ 32 from rfl, Nat.two_pow_add_eq_or_of_lt (by omega)]

theorem ret_digit {A : Option Addr} {n c r s : Nat} (h : r = s) : Ending.returned (.tuple #[.slice A n c, .int .u8 ((r : Nat) : Int)]) = .returned (.tuple #[.slice A n c, .int .u8 ((s : Nat) : Int)]) := by rw [h]

set_option maxHeartbeats 1000000 in
set_option maxRecDepth 4000 in
theorem refTenth_o {A : Option Addr} {n c : Nat} {xs : List Nat} {a L : Nat} {w : World} (hx : NN w A n c xs a L) (h1 : L ≤ 10000) :
    Calls Tryz.prog 65 #[.slice A n c] w fun e w' => ∃ A1 n1 c1, e = .returned (.tuple #[.slice A1 n1 c1, .int .u8 ((a % 10 : Nat) : Int)]) ∧ OwnN w' w.heap.size A1 n1 c1 (limbs (a / 10)) ∧ Below w.heap.size w w' := by
  have hle := hx.le
  have Hval := Lib.hid hx.val
  have Hlen := Lib.hid hx.isN.len
  have Hsm := Lib.hid hx.isN.small
  have HX := Lib.hid (hx.below (below_new w (.cells #[] 42)))
  have HN := Lib.hid hx
  clear hx
  have Hown : RowKit.Hid ((w.alloc (.cells #[] 42)).ownsRow w.heap.size 42 1 (.slice (some ⟨w.heap.size, 0, none⟩) 0 0) 0 (([] : List Nat).map limV)) := own_lit w [] 0 rfl (by omega)
  have Hb : RowKit.Hid (0 ≤ 1000000000 ∧ L ≤ 1000000000 ∧ w.heap.size ≤ (w.alloc (.cells #[] 42)).heap.size ∧ Small []) := ⟨by omega, by omega, by simp, small_nil⟩
  go_enter Tryz.func65, Tryz.ntmps65
  go_wp2_with (at_builtin; refine wpList_append_nat rfl _ _ rfl w.heap.size _ 0 [] rfl Hown A n c xs a L rfl HX Hb ?_)
  intro A1 c1 w1 how hgrow
  have HW := Lib.hid (below_lit hgrow.out (Nat.le_refl _))
  have How : RowKit.Hid (OwnN w1 w.heap.size A1 n c1 xs) := how.out
  have hi0 : RowKit.Hid (OneInv xs xs 10 n 0) := by
    have h := OneInv.start xs (v := 10) (by decide)
    rw [Hlen.out] at h
    exact h
  clear how hgrow Hown Hb HX
  go_wp2
  go_loopw [6, 5] (fun i rv wr => ∃ (k r : Nat) (zs : List Nat), k ≤ n ∧ i = .int .i64 ((k : Int) - 1) ∧ rv = .int .u64 (r : Int) ∧ RowKit.Hid (OneInv xs zs 10 k r) ∧ RowKit.Hid (OwnN wr w.heap.size A1 n c1 zs) ∧ RowKit.Hid (Below w.heap.size w wr)) (fun i _ _ => (intOf i + 1).toNat)
  case atStart => exact ⟨n, 0, xs, Nat.le_refl _, rfl, rfl, hi0, How, HW⟩
  case round =>
    clear hi0 How HW
    obtain ⟨k, r, zs, hk, rfl, rfl, Hinv, How, Hb⟩ := hrel
    by_cases hk0 : k = 0
    · subst hk0
      have hd := Hinv.out.done
      have Hd1 : RowKit.Hid (val zs = a / 10) := by show _ = _; rw [hd.1, Hval.out]
      have hr2 : r = a % 10 := by rw [hd.2, Hval.out]
      have Hr := Lib.hid hr2
      have hr10 := Hinv.out.2.2.2
      have hz : NN wr A1 n c1 zs (a / 10) L := ⟨How.out.isN, Hd1.out, How.out.caps.1, hle⟩
      clear hd hr2
      go_wp2_with fail
      refine (refTrim_o hz (by omega)).mono ?_
      rintro e w2 ⟨A2, n2, c2, rfl, hn2, bn⟩
      have HN2 := Lib.hid (hn2.mono Hb.out.size)
      have HW := Lib.hid (below_two Hb.out bn)
      clear hn2 bn hz Hinv How Hb
      go_wp2
      go_ret2
      exact ⟨_, _, _, ret_digit Hr.out, HN2.out, HW.out⟩
    · obtain ⟨j, rfl⟩ : ∃ j, k = j + 1 := ⟨k - 1, by omega⟩
      have ej : ((j + 1 : Nat) : Int) - 1 = (j : Int) := by omega
      rw [ej]
      obtain ⟨b0, o0, rfl, hb0, hc0⟩ := HN.out.isN.2.2 (by omega)
      obtain ⟨g, rfl, hBg, hgl⟩ := How.out.addr (by omega)
      have h1' : wr.cell? ⟨b0, o0 + j, none⟩ = some (.int .u32 ((lim xs j : Nat) : Int)) := (Hb.out.cell (p := ⟨b0, o0 + j, none⟩) hb0).trans (hc0 j (by omega))
      have h2 := How.out.cell (k := j) (by omega)
      have h4 := How.out.1.frozenAt j
      have hr := Hinv.out.2.2.2
      have hz := lim_lt Hsm.out j
      have Hst := Lib.hid (Hinv.out.step (k := j) (by rw [Hlen.out]; omega))
      rw [Hinv.out.2.1 j (by omega)] at Hst
      have hdl := one_digit (v := 10) hr hz
      have hor := or_hi r (lim xs j) (by omega) hz
      obtain ⟨z, hzz⟩ : ∃ z, z = r * 4294967296 + lim xs j := ⟨_, rfl⟩
      rw [← hzz] at hdl Hst hor
      have hzl : z < 42949672960 := by omega
      obtain ⟨q, hq⟩ : ∃ q, q = z / 10 := ⟨_, rfl⟩
      obtain ⟨m, hm⟩ : ∃ m, m = z % 10 := ⟨_, rfl⟩
      rw [← hq] at hdl Hst
      rw [← hm] at Hst
      have eq1 : (z : Int) / 10 = (q : Int) := by omega
      have em1 : (z : Int) % 10 = (m : Int) := by omega
      have Hset := Lib.hid (How.out.set j hdl)
      have Hb2 : RowKit.Hid (Below w.heap.size w (wr.setCell ⟨g, j, none⟩ (.int .u32 (q : Int)))) := Hb.out.setCell (by exact hBg) _
      clear ej hq hm hzz How Hb Hinv hc0
      go_wp2
      go_roundw
      case rel => exact ⟨j, m, zs.set j q, by omega, by go_num, by rw [em1], Hst, Hset, Hb2⟩
      case measure => simp [intOf] <;> omega

/-- A row of limbs of the call's own stays where another one grows. -/
theorem OwnN.keeps {w w' : World} {B : Nat} {A : Option Addr} {n c : Nat} {zs : List Nat} (h : OwnN w B A n c zs) {row : Option Nat} {o : Obj} (hg : (w.alloc o).grownBy w' row) (hr : ∀ k, row = some k → k < B) : OwnN w' B A n c zs := by
  have ha := h.alloc o
  refine ⟨⟨h.1.1, ?_⟩, h.2⟩
  rcases ha.1.2 with h2 | ⟨g, cap, cur, hv, hB, hh, r⟩
  · exact .inl h2
  · refine .inr ⟨g, cap, cur, hv, hB, ?_, r⟩
    have hlt : g < (w.alloc o).heap.size := by
      rcases Nat.lt_or_ge g (w.alloc o).heap.size with hlt | hge
      · exact hlt
      · rw [Array.getElem?_eq_none hge] at hh; cases hh
    rw [hg.block g hlt (fun e => by have := hr g e.symm; omega)]
    exact hh

end Go.Proofs.YtgdchljbjnhchaaGreatDoor
namespace Go.Proofs.YtgdchljbjnhchaaGreatDoor.Limb

/-- The digits that are still to come: none of 0. -/
def decS (n : Nat) : List Nat := if n = 0 then [] else decT n
theorem decS_zero : decS 0 = [] := rfl
theorem decS_pos {n : Nat} (h : n ≠ 0) : decS n = decT n := if_neg h
theorem decS_step {n : Nat} (h : n ≠ 0) : decS n = decS (n / 10) ++ [48 + n % 10] := by
  rw [decS_pos h]
  by_cases h1 : n < 10
  · rw [decT_small h1, show n / 10 = 0 by omega, decS_zero, show n % 10 = n by omega]; rfl
  · rw [decT_big (by omega), decS_pos (by omega)]

/-- The digits so far, the lowest first, and the number that is left. -/
def TInv (a : Nat) (zs : List Nat) (m : Nat) : Prop := decS a = decS m ++ zs.reverse ∧ Bytes zs
theorem TInv.start (a : Nat) : TInv a [] a := ⟨by simp, bytes_nil⟩
theorem TInv.step {a m : Nat} {zs : List Nat} (h : TInv a zs m) (h0 : m ≠ 0) : TInv a (zs ++ [48 + m % 10]) (m / 10) := by
  refine ⟨?_, bytes_append.2 ⟨h.2, bytes_cons.2 ⟨by omega, bytes_nil⟩⟩⟩
  rw [h.1, decS_step h0, List.reverse_append]; simp
theorem TInv.done {a : Nat} {zs : List Nat} (h : TInv a zs 0) : decS a = zs.reverse := by rw [h.1, decS_zero]; rfl
theorem TInv.len {a m L : Nat} {zs : List Nat} (h : TInv a zs m) (hl : a < 4294967296 ^ L) : zs.length ≤ 10 * L + 1 := by
  have h1 : (decS a).length ≤ 10 * L + 1 := by
    unfold decS
    split
    · simp
    · exact decT_len_limbs hl
  rw [h.1] at h1
  simp at h1
  omega

/-- A row that is being turned round: so many at both ends are. -/
def RevInv (zs ys : List Nat) (i : Nat) : Prop :=
  ys.length = zs.length ∧ (∀ j, j < zs.length → lim ys j = if j < i ∨ zs.length ≤ j + i then lim zs (zs.length - 1 - j) else lim zs j) ∧ 2 * i ≤ zs.length + 1
theorem RevInv.start (zs : List Nat) : RevInv zs zs 0 := ⟨rfl, fun j hj => by rw [if_neg (by omega)], by omega⟩
theorem RevInv.step {zs ys : List Nat} {i k : Nat} (h : RevInv zs ys i) (hk : i + k + 1 = zs.length) (hik : i < k) : RevInv zs ((ys.set i (lim ys k)).set k (lim ys i)) (i + 1) := by
  obtain ⟨h1, h2, h3⟩ := h
  refine ⟨by simp [h1], fun j hj => ?_, by omega⟩
  have e1 := h2 i (by omega)
  have e2 := h2 k (by omega)
  rw [if_neg (by omega)] at e1 e2
  by_cases j1 : j = k
  · subst j1
    rw [lim_set_self (by simp; omega), e1, if_pos (by omega), show zs.length - 1 - j = i by omega]
  · rw [lim_set_ne (fun e => j1 e.symm)]
    by_cases j2 : j = i
    · subst j2
      rw [lim_set_self (by omega), e2, if_pos (by omega), show zs.length - 1 - j = k by omega]
    · rw [lim_set_ne (fun e => j2 e.symm), h2 j hj]
      by_cases c : j < i ∨ zs.length ≤ j + i
      · rw [if_pos c, if_pos (by omega)]
      · rw [if_neg c, if_neg (by omega)]
theorem eq_of_lim {xs ys : List Nat} (hl : xs.length = ys.length) (h : ∀ j, j < xs.length → lim xs j = lim ys j) : xs = ys := by
  refine List.ext_getElem hl fun j h1 h2 => ?_
  have := h j h1
  simpa [lim, List.getD_eq_getElem?_getD, List.getElem?_eq_getElem h1, List.getElem?_eq_getElem h2] using this
theorem lim_reverse {zs : List Nat} {j : Nat} (h : j < zs.length) : lim zs.reverse j = lim zs (zs.length - 1 - j) := by
  simp [lim, List.getD_eq_getElem?_getD, List.getElem?_reverse h]
theorem RevInv.done {zs ys : List Nat} {i k : Nat} (h : RevInv zs ys i) (hk : i + k + 1 = zs.length) (hik : k ≤ i) : ys = zs.reverse := by
  obtain ⟨h1, h2, h3⟩ := h
  refine eq_of_lim (by simp [h1]) fun j hj => ?_
  rw [h2 j (by omega), lim_reverse (by omega)]
  by_cases c : j < i ∨ zs.length ≤ j + i
  · rw [if_pos c]
  · rw [if_neg c, show zs.length - 1 - j = j by omega]

end Go.Proofs.YtgdchljbjnhchaaGreatDoor.Limb
namespace Go.Proofs.YtgdchljbjnhchaaGreatDoor
open Go.RowKit Limb
set_option linter.unusedVariables false

set_option maxHeartbeats 2000000 in
set_option maxRecDepth 4000 in
theorem refText_c {A : Option Addr} {n c : Nat} {xs : List Nat} {a L : Nat} {w : World} (hx : NN w A n c xs a L) (h1 : L ≤ 10000) :
    Calls Tryz.prog 43 #[.slice A n c] w fun e w' => e = .returned (.string (strOf (decT a))) ∧ Below w.heap.size w w' := by
  have Hlt := Lib.hid (lt_pow hx)
  go_enter Tryz.func43, Tryz.ntmps43
  go_wp2_with fail
  refine (refTrim_c hx (by omega)).mono ?_
  rintro e w1 ⟨A1, n1, c1, rfl, hn1, bn⟩
  have HN := Lib.hid hn1
  have HW := Lib.hid bn
  have HT := Lib.hid (TInv.start a)
  clear hn1 bn hx
  go_wp2
  go_loopw [3, 4] (fun bv nv wr => ∃ (m k : Nat) (zs : List Nat) (A2 : Option Addr) (c2 : Nat) (A3 : Option Addr) (n3 c3 : Nat), bv = .slice A2 k c2 ∧ nv = .slice A3 n3 c3 ∧ RowKit.Hid (TInv a zs m) ∧ RowKit.Hid (OwnB wr w.heap.size A2 k c2 zs) ∧ RowKit.Hid (NN wr A3 n3 c3 (limbs m) m L) ∧ RowKit.Hid (Below w.heap.size w wr)) (fun _ nv wr => readN wr nv)
  case atStart => exact ⟨a, 0, [], none, 0, _, _, _, rfl, rfl, HT, OwnB.nil _ _, HN, HW⟩
  case round =>
    clear HN HW HT
    obtain ⟨m, k, zs, A2, c2, A3, n3, c3, rfl, rfl, HT, HB, HN, HW⟩ := hrel
    have hn := HN.out
    by_cases h0 : m = 0
    · subst h0
      have hn3 : n3 = 0 := by have := hn.isN.len; rw [limbs_zero] at this; exact this.symm
      subst hn3
      have Hd := Lib.hid HT.out.done
      have hkl := HB.out.len
      by_cases ha : a = 0
      · subst ha
        have hz : zs.reverse = [] := Hd.out.symm
        obtain rfl : zs = [] := by simpa using hz
        obtain rfl : k = 0 := hkl.symm
        clear hn hz hkl Hd
        go_wp2
        go_ret
        exact ⟨rfl, HW.out⟩
      · have Hz : RowKit.Hid (zs.reverse = decT a) := by show _ = _; rw [← Hd.out, decS_pos ha]
        have hkpos : 0 < k := by
          have h := decT_pos a
          rw [← Hz.out, List.length_reverse, hkl] at h
          exact h
        have hke : ((k : Int) == 0) = false := by simp; omega
        have HRev := Lib.hid (RevInv.start zs)
        have Hkl := Lib.hid hkl
        have hk9 : k ≤ 1000000000 := by have := HT.out.len Hlt.out; omega
        obtain ⟨g, rfl, hBg, hgl⟩ := HB.out.addr hkpos
        have HB0 := HB
        have HW0 := HW
        clear hn hkl ha Hd HN HT HB HW
        go_wp2
        go_loopw [7, 8] (fun iv kv wv => ∃ (i q : Nat) (ys : List Nat), i + q + 1 = k ∧ iv = .int .i64 (i : Int) ∧ kv = .int .i64 (q : Int) ∧ RowKit.Hid (RevInv zs ys i) ∧ RowKit.Hid (OwnB wv w.heap.size (some ⟨g, 0, none⟩) k c2 ys) ∧ RowKit.Hid (Below w.heap.size w wv)) (fun iv _ _ => k - (intOf iv).toNat)
        case atStart => exact ⟨0, k - 1, zs, by omega, rfl, by go_num, HRev, HB0, HW0⟩
        case round =>
          clear HRev HB0 HW0
          obtain ⟨i, q, ys, hiq, rfl, rfl, HRev, HB, HW⟩ := hrel
          by_cases hlt : i < q
          · have hi := HB.out.cell (k := i) (by omega)
            have hq := HB.out.cell (k := q) (by omega)
            have fi := HB.out.1.frozenAt i
            have fq := HB.out.1.frozenAt q
            have li := bytes_lim HB.out.bytes i
            have lq := bytes_lim HB.out.bytes q
            have Hst := Lib.hid (HRev.out.step (k := q) (by rw [Hkl.out]; exact hiq) hlt)
            have HB1 := Lib.hid (((HB.out.set i lq).set q li).below (Below.refl _ _).drew (Nat.le_refl _))
            have HW1 := Lib.hid (((HW.out.setCell (p := ⟨g, i, none⟩) (by exact hBg) (.int .u8 ((lim ys q : Nat) : Int))).setCell (p := ⟨g, q, none⟩) (by exact hBg) (.int .u8 ((lim ys i : Nat) : Int))).drew)
            clear HRev HB HW
            go_wp2
            go_region
            clear hi hq fi fq
            go_wp2
            go_roundw
            case rel => exact ⟨i + 1, q - 1, (ys.set i (lim ys q)).set q (lim ys i), by omega, by go_num, by go_num, Hst, HB1, HW1⟩
            case measure => simp [intOf]; omega
          · have hy := HRev.out.done (k := q) (by rw [Hkl.out]; exact hiq) (by omega)
            have hlt2 : q ≤ i := by omega
            have hconv := run_text HB.out.isB (c := c2) hkpos
            rw [hy, Hz.out] at hconv
            clear hy HRev HB hlt
            go_wp2
            go_ret
            exact ⟨rfl, HW.out⟩
    · have hn3 : 0 < n3 := by
        have h := hn.isN.len
        rw [limbs_pos h0] at h
        simp at h
        omega
      have hn3e : decide (0 < (n3 : Int)) = true := by simp; exact hn3
      have Hst := Lib.hid (HT.out.step h0)
      have hkl := HT.out.len Hlt.out
      have hkl2 := HB.out.len
      have hk9 : k ≤ 1000000000 := by omega
      have hm10 : m % 10 < 10 := Nat.mod_lt _ (by decide)
      have H0 := Lib.hid h0
      clear h0 hkl hkl2
      go_wp2_with fail
      refine (refTenth_o hn h1).mono ?_
      rintro e w2 ⟨A4, n4, c4, rfl, hq, bn⟩
      have HQ := Lib.hid hq
      have Hrow := Lib.hid (fun k hk => (HB.out.1.lt k hk).2)
      have Hq := Lib.hid (Nat.lt_of_le_of_lt (Nat.div_le_self m 10) (lt_pow hn))
      have HB2 := Lib.hid (HB.out.below bn (Nat.le_refl _))
      have HW2 := Lib.hid (below_two HW.out bn)
      have Hm := Lib.hid hn.isN
      clear hq bn HB HW hn HN
      obtain ⟨d, hd⟩ : ∃ d, d = m % 10 := ⟨_, rfl⟩
      rw [← hd] at hm10 Hst ⊢
      clear hd
      have Hown : RowKit.Hid ((w2.alloc (.cells #[Value.int IntKind.u8 (48 + (d : Int))] 5)).ownsRow w.heap.size 5 1 (.slice A2 k c2) k (zs.map byV)) := (HB2.out.alloc _).row
      have Hlit : RowKit.Hid ((w2.alloc (.cells #[Value.int IntKind.u8 (48 + (d : Int))] 5)).cell? ⟨w2.heap.size, 0, none⟩ = some (.int .u8 ((48 + d : Nat) : Int)) ∧ 48 + d < 256) := ⟨by rw [World.cell?_alloc_at _ _ _ _ rfl]; rfl, by omega⟩
      have Hb : RowKit.Hid (k ≤ 1000000000 ∧ w.heap.size ≤ (w2.alloc (.cells #[Value.int IntKind.u8 (48 + (d : Int))] 5)).heap.size ∧ Bytes zs) := ⟨hk9, by have := HW2.out.size; simp; omega, HB2.out.bytes⟩
      go_wp2_with (at_builtin; refine wpList_append_byte rfl _ _ rfl w.heap.size _ k zs rfl Hown w2.heap.size rfl (48 + d) Hlit Hb ?_)
      intro A5 c5 w3 how3 hg3
      have bw3 := below_grownB HW2.out HB2.out hg3.out
      have HQ3 := Lib.hid (NN.own (HQ.out.keeps hg3.out Hrow.out) Hq.out)
      have HM : RowKit.Hid (readN w3 (.slice A4 n4 c4) < readN wr (.slice A3 n3 c3)) := by
        show _ < _
        rw [readN_eq HQ3.out.isN, readN_eq Hm.out, val_limbs, val_limbs]
        exact Nat.div_lt_self (Nat.pos_of_ne_zero H0.out) (by decide)
      have HW3 := Lib.hid bw3
      clear hg3 Hown Hlit Hb HB2 HW2 bw3 HQ Hrow Hq
      go_wp2
      go_roundw
      case rel => exact ⟨m / 10, k + 1, zs ++ [48 + d], A5, c5, A4, n4, c4, rfl, rfl, Hst, how3, HQ3, HW3⟩
      case measure => exact HM.out

theorem refTenth_c {A : Option Addr} {n c : Nat} {xs : List Nat} {a L : Nat} {w : World} (hx : NN w A n c xs a L) (h1 : L ≤ 10000) :
    Calls Tryz.prog 65 #[.slice A n c] w fun e w' => ∃ A1 n1 c1, e = .returned (.tuple #[.slice A1 n1 c1, .int .u8 ((a % 10 : Nat) : Int)]) ∧ NN w' A1 n1 c1 (limbs (a / 10)) (a / 10) L ∧ Below w.heap.size w w' := by
  refine (refTenth_o hx h1).mono ?_
  rintro e w' ⟨A1, n1, c1, rfl, how, hb⟩
  exact ⟨A1, n1, c1, rfl, NN.own how (Nat.lt_of_le_of_lt (Nat.div_le_self _ _) (lt_pow hx)), hb⟩

end Go.Proofs.YtgdchljbjnhchaaGreatDoor

/- What the reference's Parse of layer 5 comes to, as a contract over memory: the number of a text of decimal digits, or that there is none. Conditions: texts that can be read. -/
namespace Go.Proofs.YtgdchljbjnhchaaGreatDoor
open Go.RowKit Limb
set_option linter.unusedVariables false

/-- A block of two cells. -/
def Row2 (w : World) (g : Nat) (T : TypeId) (u v : Value) : Prop := w.heap[g]? = some (.cells #[u, v] T (0, 0))
section
variable {w w' : World} {g : Nat} {T : TypeId} {u v : Value}
theorem Row2.lt (h : Row2 w g T u v) : g < w.heap.size := by
  rcases Nat.lt_or_ge g w.heap.size with hlt | hge
  · exact hlt
  · unfold Row2 at h; rw [Array.getElem?_eq_none hge] at h; cases h
theorem Row2.below (h : Row2 w g T u v) (hb : Below w.heap.size w w') : Row2 w' g T u v := (hb.block g h.lt).trans h
theorem Row2.c0 (h : Row2 w g T u v) : w.cell? ⟨g, 0, none⟩ = some u := by unfold Row2 at h; simp [World.cell?, h]
theorem Row2.c1 (h : Row2 w g T u v) : w.cell? ⟨g, 1, none⟩ = some v := by unfold Row2 at h; simp [World.cell?, h]
theorem Row2.free (h : Row2 w g T u v) (k : Nat) : w.frozen? ⟨g, k, none⟩ = false := by unfold Row2 at h; simp [World.frozen?, h]
theorem Row2.fill (h : Row2 w g T u v) (x y : Value) : ((w.setCell ⟨g, 0, none⟩ x).setCell ⟨g, 1, none⟩ y).heap[g]? = some (.cells #[x, y] T (0, 0)) := by
  unfold Row2 at h
  simp [World.setCell, Array.getElem?_modify, h]
theorem row2_new (w : World) (T : TypeId) (u v : Value) : Row2 (w.alloc (.cells #[u, v] T)) w.heap.size T u v := heap_alloc_new _ _
theorem below_fill (h : Below w.heap.size w w') (hg : w.heap.size ≤ g) (x y : Value) : Below w.heap.size w ((w'.setCell ⟨g, 0, none⟩ x).setCell ⟨g, 1, none⟩ y) :=
  (h.setCell (by exact hg) _).setCell (by exact hg) _
end

theorem got5_size : (Tryz.prog.info? 51).map (·.size) = some 2 := by kernel_rfl

theorem numOk_len {l : List Nat} (h : l.length = 0 ∨ 2000 < l.length) : numOk l = false := by
  unfold numOk
  rcases h with h | h
  · simp [h]
  · rw [decide_eq_false (by omega : ¬ l.length ≤ 2000)]; simp
theorem numOk_bad {l : List Nat} {k : Nat} (hk : k < l.length) (h : isDig (lim l k) = false) : numOk l = false := by
  have : allDig l = false := by
    rw [Bool.eq_false_iff]
    intro h2
    have h3 := List.all_eq_true.1 h2 l[k] (List.getElem_mem hk)
    have e : lim l k = l[k] := by simp [lim, List.getD_eq_getElem?_getD, List.getElem?_eq_getElem hk]
    rw [← e, h] at h3
    cases h3
  unfold numOk
  rw [this]; simp
theorem numOk_good {l : List Nat} (h1 : 1 ≤ l.length) (h2 : l.length ≤ 2000) (h3 : allDig l = true) : numOk l = true := by
  unfold numOk
  simp [h1, h2, h3]

/-- The first bytes are digits, and tell t. -/
def PInv (l : List Nat) (i t : Nat) : Prop := allDig (l.take i) = true ∧ t = decV (l.take i)
theorem PInv.start (l : List Nat) : PInv l 0 0 := ⟨rfl, rfl⟩
theorem PInv.step {l : List Nat} {i t : Nat} (h : PInv l i t) (hi : i < l.length) (hd : isDig (lim l i) = true) : PInv l (i + 1) (t * 10 + (lim l i - 48)) := by
  have e : l.take (i + 1) = l.take i ++ [lim l i] := by
    rw [List.take_succ_eq_append_getElem hi]
    simp [lim, List.getD_eq_getElem?_getD, List.getElem?_eq_getElem hi]
  refine ⟨by rw [e, allDig_append, h.1]; simp [allDig, hd], by rw [e, decV_snoc, h.2]⟩
theorem PInv.lt {l : List Nat} {i t : Nat} (h : PInv l i t) (hi : l.length ≤ 2000) : t < 4294967296 ^ 223 := by
  have h1 := decV_lt h.1
  rw [← h.2] at h1
  refine Nat.lt_of_lt_of_le h1 (dec_room ?_)
  rw [List.length_take]
  omega

/-- What a text of digits tells, 0 where it tells nothing. -/
def numV (l : List Nat) : Nat := if numOk l = true then decV l else 0
theorem numV_yes {l : List Nat} (h : numOk l = true) : numV l = decV l := if_pos h
theorem numV_no {l : List Nat} (h : numOk l = false) : numV l = 0 := if_neg (by rw [h]; decide)
theorem numV_lt (l : List Nat) : numV l < 4294967296 ^ 223 := by
  unfold numV
  split
  · rename_i h
    simp only [numOk, Bool.and_eq_true, decide_eq_true_eq] at h
    exact Nat.lt_of_lt_of_le (decV_lt h.2) (dec_room (by omega))
  · exact Nat.pow_pos (by decide)

set_option maxHeartbeats 4000000 in
set_option maxRecDepth 4000 in
theorem refParse_c (s : ByteArray) (w : World) :
    Calls Tryz.prog 29 #[.string s] w fun e w' => ∃ A1 n1 c1, e = .returned (.agg #[.slice A1 n1 c1, .bool (numOk (bytesOf s))]) ∧ NN w' A1 n1 c1 (limbs (numV (bytesOf s))) (numV (bytesOf s)) 223 ∧ Below w.heap.size w w' := by
  have HB := Lib.hid (row2_new w 51 (.slice none 0 0) (.bool false))
  have HW := Lib.hid (below_new w (.cells #[Value.slice none 0 0, Value.bool false] 51))
  have Hnn : ∀ wx : World, RowKit.Hid (numOk (bytesOf s) = false) → NN wx none 0 0 (limbs (numV (bytesOf s))) (numV (bytesOf s)) 223 := fun wx h => by
    rw [numV_no h.out, limbs_zero]; exact ⟨IsN.nil _ _, rfl, Nat.le_refl _, Nat.zero_le _⟩
  have HNN := Lib.hid Hnn
  clear Hnn
  by_cases hz : s.size < 1
  · have HO : RowKit.Hid (numOk (bytesOf s) = false) := numOk_len (.inl (by rw [length_bytesOf]; omega))
    have hc0 := HB.out.c0
    have hc1 := HB.out.c1
    have hf0 := HB.out.free 0
    have hf1 := HB.out.free 1
    go_enter Tryz.func29, Tryz.ntmps29
    go_wp2
    refine bodyPost_ret (results_cell_row rfl _ _ w.heap.size 51 #[Value.slice none 0 0, Value.bool false] (0, 0) _ rfl HB.out Tryz.underlying51 rfl got5_size) rfl ?_
    exact ⟨none, 0, 0, by rw [HO.out], HNN.out _ HO, HW.out⟩
  · by_cases hz2 : 2000 < s.size
    · have HO : RowKit.Hid (numOk (bytesOf s) = false) := numOk_len (.inr (by rw [length_bytesOf]; omega))
      have hc0 := HB.out.c0
      have hc1 := HB.out.c1
      have hf0 := HB.out.free 0
      have hf1 := HB.out.free 1
      go_enter Tryz.func29, Tryz.ntmps29
      go_wp2
      refine bodyPost_ret (results_cell_row rfl _ _ w.heap.size 51 #[Value.slice none 0 0, Value.bool false] (0, 0) _ rfl HB.out Tryz.underlying51 rfl got5_size) rfl ?_
      exact ⟨none, 0, 0, by rw [HO.out], HNN.out _ HO, HW.out⟩
    · have h1 : 1 ≤ s.size := by omega
      have h2 : s.size ≤ 2000 := by omega
      have HX : RowKit.Hid (NN (w.alloc (.cells #[Value.slice none 0 0, Value.bool false] 51)) none 0 0 (limbs 0) 0 223) := ⟨IsN.nil _ _, rfl, Nat.le_refl _, Nat.zero_le _⟩
      have HP := Lib.hid (PInv.start (bytesOf s))
      clear hz hz2
      go_enter Tryz.func29, Tryz.ntmps29
      go_wp2
      go_loopw [4, 3] (fun iv nv wr => ∃ (i t : Nat) (A2 : Option Addr) (n2 c2 : Nat), i ≤ s.size ∧ iv = .int .i64 (i : Int) ∧ nv = .slice A2 n2 c2 ∧ RowKit.Hid (PInv (bytesOf s) i t) ∧ RowKit.Hid (NN wr A2 n2 c2 (limbs t) t 223) ∧ RowKit.Hid (Row2 wr w.heap.size 51 (.slice none 0 0) (.bool false)) ∧ RowKit.Hid (Below w.heap.size w wr)) (fun iv _ _ => s.size - (intOf iv).toNat)
      case atStart => exact ⟨0, 0, none, 0, 0, Nat.zero_le _, rfl, rfl, HP, HX, HB, HW⟩
      case round =>
        clear HP HX HB HW
        obtain ⟨i, t, A2, n2, c2, hi, rfl, rfl, HP, HX, HB, HW⟩ := hrel
        by_cases hlt : i < s.size
        · obtain ⟨d, hd⟩ : ∃ d, (s[i]'hlt).toNat = d := ⟨_, rfl⟩
          have hdl : lim (bytesOf s) i = d := by rw [← byte_at s i hlt, hd]
          by_cases hdd : 48 ≤ d ∧ d ≤ 57
          · obtain ⟨hd1, hd2⟩ := hdd
            have hdig : isDig d = true := by simp [isDig, hd1, hd2]
            have Hst := Lib.hid (HP.out.step (by rw [length_bytesOf]; exact hlt) (by rw [hdl]; exact hdig))
            rw [hdl] at Hst
            have hx := HX.out
            obtain ⟨x, hxd⟩ : ∃ x, d - 48 = x := ⟨_, rfl⟩
            have hx9 : x ≤ 9 := by omega
            have edd : IntKind.u8.wrap ((d : Int) - 48) = (x : Int) := by rw [IntKind.wrap_u8]; omega
            have ew : IntKind.u32.wrap (x : Int) = (x : Int) := by rw [IntKind.wrap_u32]; omega
            rw [hxd] at Hst
            have KL : RowKit.Hid (∀ wx : World, NN (wx.alloc (.cells #[Value.int IntKind.u32 (x : Int)] 42)) (some ⟨wx.heap.size, 0, none⟩) 1 1 [x] x 1) := fun wx => by
              have h := lit_c wx [x] (by intro y hy; simp at hy; omega) 1 rfl
              have e : Limb.val [x] = x := by simp [Limb.val]
              rw [e] at h
              exact h
            have HLT := Lib.hid (PInv.lt Hst.out (by rw [length_bytesOf]; exact h2))
            clear hxd HP HX hdl hdig
            go_wp2
            go_region_with (first
              | (go_at_call 51; (with_reducible refine (refSmall_c (by first | exact hx | exact hx.below (Below.refl _ _).drew | exact hx.below (below_new _ _) | exact hx.below (below_new _ _).drew) 10 10 rfl (by decide) (by omega)).mono ?_); rintro e w2 ⟨A_x, n_x, c_x, rfl, h_x, bn_x⟩;
                  have hb2 := below_two (w := wr) (by first | exact Below.refl _ _ | exact (Below.refl _ _).drew | exact below_new _ _ | exact (below_new _ _).drew) bn_x)
              | (go_at_call 34; (first | (with_reducible refine (refAdd_c (h_x.below (below_new _ _)) (KL.out _) (by omega) (by omega)).mono ?_) | (with_reducible refine (refAdd_c h_x ((KL.out _).below bn_x) (by omega) (by omega)).mono ?_) | (with_reducible refine (refAdd_c h_x (((KL.out wr).below (Below.refl _ _).drew).below bn_x) (by omega) (by omega)).mono ?_)); rintro e w3 ⟨A_y, n_y, c_y, rfl, h_y, bn_y⟩;
                  have hb3 := below_two (w := wr) (by first | exact hb2 | exact below_two hb2 (below_new _ _)) bn_y))
            all_goals
              have HY := Lib.hid (h_y.relax HLT.out)
              have HB3 := Lib.hid (HB.out.below hb3)
              have HW3 := Lib.hid (below_two HW.out hb3)
              clear h_x bn_x h_y bn_y hb2 hb3 hx HB HW
              go_wp2
              go_roundw
              case rel => exact ⟨i + 1, t * 10 + x, A_y, n_y, c_y, by omega, by go_num, rfl, Hst, HY, HB3, HW3⟩
              case measure => simp [intOf]; omega
          · have HO : RowKit.Hid (numOk (bytesOf s) = false) := numOk_bad (k := i) (by rw [length_bytesOf]; exact hlt) (by
              rw [hdl]; unfold isDig
              rcases (show d < 48 ∨ 57 < d by omega) with h | h
              · simp [show ¬ 48 ≤ d by omega]
              · simp [show ¬ d ≤ 57 by omega])
            have hc0 := HB.out.c0
            have hc1 := HB.out.c1
            have hf0 := HB.out.free 0
            have hf1 := HB.out.free 1
            rcases (show d < 48 ∨ (48 ≤ d ∧ 57 < d) by omega) with h | ⟨h, h'⟩
            all_goals
              clear hdd hdl
              go_wp2
              refine bodyPost_ret (results_cell_row rfl _ _ w.heap.size 51 #[Value.slice none 0 0, Value.bool false] (0, 0) _ rfl (HB.out.fill _ _) Tryz.underlying51 rfl got5_size) rfl ?_
              exact ⟨none, 0, 0, by rw [HO.out], HNN.out _ HO, below_fill HW.out (Nat.le_refl _) _ _⟩
        · obtain rfl : i = s.size := by omega
          have hall := HP.out
          unfold PInv at hall
          rw [← length_bytesOf, List.take_length] at hall
          have HO : RowKit.Hid (numOk (bytesOf s) = true) := numOk_good (by rw [length_bytesOf]; exact h1) (by rw [length_bytesOf]; exact h2) hall.1
          have HV : RowKit.Hid (numV (bytesOf s) = t) := by show _ = _; rw [numV_yes HO.out, ← hall.2]
          have hx := HX.out
          clear hall HP HX
          go_wp2_with fail
          refine (refTrim_o hx (by decide)).mono ?_
          rintro e w2 ⟨A3, n3, c3, rfl, how, bn⟩
          have HB2 := Lib.hid (HB.out.below bn)
          have HW2 := Lib.hid (below_two HW.out bn)
          have Hg := Lib.hid HB.out.lt
          have HN : RowKit.Hid (NN w2 A3 n3 c3 (limbs t) t 223) := NN.own how (lt_pow hx)
          have HA := Lib.hid (Apart.own how Hg.out)
          have hc0 := HB2.out.c0
          have hc1 := HB2.out.c1
          have hf0 := HB2.out.free 0
          have hf1 := HB2.out.free 1
          clear how bn hx HB HW
          go_wp2
          refine bodyPost_ret (results_cell_row rfl _ _ w.heap.size 51 #[Value.slice A3 n3 c3, Value.bool true] (0, 0) _ rfl (HB2.out.fill _ _) Tryz.underlying51 rfl got5_size) rfl ?_
          exact ⟨A3, n3, c3, by rw [HO.out], by rw [HV.out]; exact (HN.out.elsewhere HA.out _ _).elsewhere HA.out _ _, below_fill HW2.out (Nat.le_refl _) _ _⟩

end Go.Proofs.YtgdchljbjnhchaaGreatDoor

/- Whole numbers with a sign in memory: a struct of a sign and a list of limbs that reads as an Int; answers are in the shortest limbs, and 0 is not below 0. Texts of whole numbers. No condition. -/
namespace Go.Proofs.YtgdchljbjnhchaaGreatDoor
open Go.RowKit Limb
set_option linter.unusedVariables false

/-- Is a number below 0? -/
def sg (z : Int) : Bool := decide (z < 0)
theorem sg_neg {z : Int} (h : z < 0) : sg z = true := by simp [sg, h]
theorem sg_pos {z : Int} (h : 0 ≤ z) : sg z = false := by simp [sg]; omega

/-- A sign and a slice read as the number z, of at most L limbs. -/
structure ZZ (w : World) (s : Bool) (A : Option Addr) (n c : Nat) (xs : List Nat) (z : Int) (L : Nat) : Prop where
  nn : NN w A n c xs z.natAbs L
  sgn : z = if s = true then -(z.natAbs : Int) else (z.natAbs : Int)

/-- The number that a sign and a size tell. -/
def zOf (s : Bool) (a : Nat) : Int := if s = true then -(a : Int) else (a : Int)
theorem zOf_abs (s : Bool) (a : Nat) : (zOf s a).natAbs = a := by unfold zOf; split <;> omega
theorem ZZ.of {w : World} {s : Bool} {A : Option Addr} {n c : Nat} {xs : List Nat} {a L : Nat} (h : NN w A n c xs a L) : ZZ w s A n c xs (zOf s a) L := by
  refine ⟨by rw [zOf_abs]; exact h, ?_⟩
  rw [zOf_abs]; rfl
theorem ZZ.below {w w' : World} {s : Bool} {A : Option Addr} {n c : Nat} {xs : List Nat} {z : Int} {L : Nat} (h : ZZ w s A n c xs z L) (hb : Below w.heap.size w w') : ZZ w' s A n c xs z L := ⟨h.nn.below hb, h.sgn⟩
theorem ZZ.neg {w : World} {A : Option Addr} {n c : Nat} {xs : List Nat} {z : Int} {L : Nat} (h : ZZ w true A n c xs z L) : z = -(z.natAbs : Int) := h.sgn
theorem ZZ.pos {w : World} {A : Option Addr} {n c : Nat} {xs : List Nat} {z : Int} {L : Nat} (h : ZZ w false A n c xs z L) : z = (z.natAbs : Int) := h.sgn
/-- A canonical answer: shortest limbs. -/
theorem ZZ.mk' {w : World} {A : Option Addr} {n c : Nat} {z : Int} {L : Nat} (h : NN w A n c (limbs z.natAbs) z.natAbs L) : ZZ w (sg z) A n c (limbs z.natAbs) z L := by
  refine ⟨h, ?_⟩
  unfold sg
  by_cases h0 : z < 0
  · simp [h0]; omega
  · simp [h0]; omega

/-- The text of a whole number, as bytes. -/
def zT (z : Int) : List Nat := if z < 0 then 45 :: decT z.natAbs else decT z.natAbs
theorem zT_neg {z : Int} (h : z < 0) : zT z = 45 :: decT z.natAbs := if_pos h
theorem zT_pos {z : Int} (h : 0 ≤ z) : zT z = decT z.natAbs := if_neg (by omega)
theorem zT_bytes (z : Int) : Bytes (zT z) := by
  unfold zT; split
  · exact bytes_cons.2 ⟨by decide, decT_bytes _⟩
  · exact decT_bytes _
theorem minus_text (l : List Nat) : (⟨#[45]⟩ : ByteArray) ++ strOf l = strOf (45 :: l) := by
  have e : (⟨#[45]⟩ : ByteArray) = strOf [45] := rfl
  rw [e, strOf_append]; rfl

/-- Are bytes the text of a whole number, for the calls that read one? -/
def zOk (l : List Nat) : Bool := if l.head? = some 45 then numOk l.tail && decide (numV l.tail ≠ 0) else numOk l
/-- The number that they tell, 0 where they tell nothing. -/
def zV (l : List Nat) : Int := if l.head? = some 45 then -(numV l.tail : Int) else (numV l : Int)
theorem zOk_minus {l : List Nat} (h : l.head? = some 45) : zOk l = (numOk l.tail && decide (numV l.tail ≠ 0)) := if_pos h
theorem zOk_plain {l : List Nat} (h : l.head? ≠ some 45) : zOk l = numOk l := if_neg h
theorem zV_minus {l : List Nat} (h : l.head? = some 45) : zV l = -(numV l.tail : Int) := if_pos h
theorem zV_plain {l : List Nat} (h : l.head? ≠ some 45) : zV l = (numV l : Int) := if_neg h
theorem zV_no {l : List Nat} (h : zOk l = false) : zV l = 0 := by
  by_cases h1 : l.head? = some 45
  · rw [zOk_minus h1] at h
    rw [zV_minus h1]
    cases h2 : numOk l.tail with
    | false => rw [numV_no h2]; rfl
    | true => rw [h2] at h; simp at h; omega
  · rw [zOk_plain h1] at h
    rw [zV_plain h1, numV_no h]; rfl
theorem zV_abs (l : List Nat) : (zV l).natAbs = if l.head? = some 45 then numV l.tail else numV l := by
  unfold zV; split <;> omega

theorem numV_dec {n : Nat} (h : (decT n).length ≤ 2000) : numV (decT n) = n := by rw [numV_yes (numOk_dec h), decV_decT]
theorem dec_head (n : Nat) : (decT n).head? ≠ some 45 := by
  intro h
  cases hd : decT n with
  | nil => exact absurd hd (decT_ne n)
  | cons x l =>
    rw [hd] at h
    simp at h
    have := allDig_iff.1 (decT_dig n) x (by rw [hd]; simp)
    omega
/-- A number's text is read as it. -/
theorem zOk_T {z : Int} (h : (decT z.natAbs).length ≤ 2000) : zOk (zT z) = true := by
  by_cases h0 : z < 0
  · rw [zT_neg h0, zOk_minus rfl]
    show (numOk (decT z.natAbs) && decide (numV (decT z.natAbs) ≠ 0)) = true
    rw [numOk_dec h, numV_dec h]
    simp; omega
  · rw [zT_pos (by omega), zOk_plain (dec_head _), numOk_dec h]
theorem zV_T {z : Int} (h : (decT z.natAbs).length ≤ 2000) : zV (zT z) = z := by
  by_cases h0 : z < 0
  · rw [zT_neg h0, zV_minus rfl]
    show -(numV (decT z.natAbs) : Int) = z
    rw [numV_dec h]; omega
  · rw [zT_pos (by omega), zV_plain (dec_head _), numV_dec h]; omega
theorem zT_inj {x y : Int} (h : zT x = zT y) : x = y := by
  by_cases hx : x < 0
  · by_cases hy : y < 0
    · rw [zT_neg hx, zT_neg hy] at h
      have := decT_inj (List.cons.inj h).2
      omega
    · rw [zT_neg hx, zT_pos (by omega)] at h
      exact absurd (by rw [← h]; rfl) (dec_head y.natAbs)
  · by_cases hy : y < 0
    · rw [zT_pos (by omega), zT_neg hy] at h
      exact absurd (by rw [h]; rfl) (dec_head x.natAbs)
    · rw [zT_pos (by omega), zT_pos (by omega)] at h
      have := decT_inj h
      omega

/-- Which of two numbers is greater. -/
def cmpZ (x y : Int) : Int := if x < y then -1 else if x = y then 0 else 1
theorem cmpZ_lt {x y : Int} (h : x < y) : cmpZ x y = -1 := if_pos h
theorem cmpZ_eq {x y : Int} (h : x = y) : cmpZ x y = 0 := by unfold cmpZ; rw [if_neg (by omega), if_pos h]
theorem cmpZ_gt {x y : Int} (h : y < x) : cmpZ x y = 1 := by unfold cmpZ; rw [if_neg (by omega), if_neg (by omega)]
theorem cmpZ_bounds (x y : Int) : -1 ≤ cmpZ x y ∧ cmpZ x y ≤ 1 := by unfold cmpZ; split <;> (try split) <;> omega

/-- A sum, a product of sizes has room. -/
theorem abs_add_lt {x y : Int} {K : Nat} (hx : x.natAbs < 4294967296 ^ K) (hy : y.natAbs < 4294967296 ^ K) : (x + y).natAbs < 4294967296 ^ (K + 1) := by
  rw [Nat.pow_succ]; omega

end Go.Proofs.YtgdchljbjnhchaaGreatDoor

/- What the reference's Of of layer 2 comes to, as a contract over memory: the product, in shortest limbs. Conditions: both lists read as limbs, of at most 10^6 of them. -/
namespace Go.Proofs.YtgdchljbjnhchaaGreatDoor
open Go.RowKit Limb
set_option linter.unusedVariables false

theorem mul_step (a : Nat) (ys : List Nat) (k : Nat) : a * val (ys.take k) + a * lim ys k * 2 ^ (32 * k) = a * val (ys.take (k + 1)) := by
  rw [val_take_lim, Nat.mul_add, pow32, Nat.mul_assoc, Nat.mul_comm (lim ys k)]

theorem mul_room {w : World} {A A' : Option Addr} {n c n' c' : Nat} {xs ys : List Nat} {a b L L' : Nat} (hx : NN w A n c xs a L) (hy : NN w A' n' c' ys b L') (k : Nat) : a * val (ys.take k) < 4294967296 ^ (L + L') := by
  have h1 := lt_pow hx
  have h2 := val_lt (small_take hy.isN.small k)
  have h3 : 4294967296 ^ (ys.take k).length ≤ 4294967296 ^ L' := Nat.pow_le_pow_right (by decide) (by rw [List.length_take, hy.isN.len]; have := hy.le; omega)
  rw [Nat.pow_add]
  exact Nat.mul_lt_mul'' h1 (Nat.lt_of_lt_of_le h2 h3)

theorem up_fits {t L k : Nat} (h : t < 4294967296 ^ L) : t * 2 ^ (32 * k) < 4294967296 ^ (L + k) := by
  rw [Nat.pow_add, ← pow32]
  exact Nat.mul_lt_mul_of_pos_right h (Nat.pow_pos (by decide))

set_option maxHeartbeats 1600000 in
theorem refMul_c {A A' : Option Addr} {n c n' c' : Nat} {xs ys : List Nat} {a b L L' : Nat} {w : World} (hx : NN w A n c xs a L) (hy : NN w A' n' c' ys b L') (h1 : L ≤ 1000000) (h2 : L' ≤ 1000000) :
    Calls Tryz.prog 38 #[.slice A n c, .slice A' n' c'] w fun e w' => ∃ A2 n2 c2, e = .returned (.slice A2 n2 c2) ∧ NN w' A2 n2 c2 (limbs (a * b)) (a * b) (L + L') ∧ Below w.heap.size w w' := by
  have hle := hx.le
  have hle' := hy.le
  have Hly := Lib.hid hy.isN.len
  have hsy := hy.isN.small
  have Hyv : RowKit.Hid (val ys = b) := hy.val
  have Hroom := Lib.hid (fun k => mul_room hx hy k)
  have H0 : RowKit.Hid (∀ wr : World, NN wr none 0 0 (limbs (a * val (ys.take 0))) (a * val (ys.take 0)) (L + L')) := by
    intro wr
    have e : a * val (ys.take 0) = 0 := by simp [val]
    rw [e]
    exact ⟨IsN.nil _ _, rfl, Nat.le_refl _, Nat.zero_le _⟩
  go_enter Tryz.func38, Tryz.ntmps38
  go_wp2
  go_loopw [6, 5] (fun i ov wr => ∃ (k t : Nat) (A2 : Option Addr) (n2 c2 : Nat), k ≤ n' ∧ i = .int .i64 (k : Int) ∧ ov = .slice A2 n2 c2 ∧ RowKit.Hid (t = a * val (ys.take k)) ∧ NN wr A2 n2 c2 (limbs t) t (L + L') ∧ Below w.heap.size w wr) (fun i _ _ => n' - (intOf i).toNat)
  case atStart => exact ⟨0, _, none, 0, 0, by omega, rfl, rfl, rfl, H0.out _, Below.refl _ _⟩
  case round =>
    obtain ⟨k, t, A2, n2, c2, hk, rfl, rfl, Ht, ho, bw⟩ := hrel
    have h_x := hx.below bw
    have h_y := hy.below bw
    by_cases hgo : k < n'
    · obtain ⟨b1, o1, hA, hb1, hc1⟩ := h_y.isN.2.2 (by omega)
      subst hA
      have hcell : wr.cell? ⟨b1, o1 + k, none⟩ = some (.int .u32 ((lim ys k : Nat) : Int)) := hc1 k hgo
      have l1 := lim_lt hsy k
      clear hx hy
      go_wp2_with fail
      refine (refSmall_c h_x (lim ys k) _ rfl l1 (by omega)).mono ?_
      rintro e w1 ⟨A3, n3, c3, rfl, h3, bn⟩
      replace ho := ho.below bn
      replace h_x := h_x.below bn
      replace h_y := h_y.below bn
      replace bw := below_two bw bn
      clear bn
      go_wp2_with fail
      refine (refUp_c h3 (32 * k) _ (by omega) (by omega) (by omega) (L + 1 + k) (up_fits (lt_pow h3))).mono ?_
      rintro e w2 ⟨A4, n4, c4, rfl, h4, bn⟩
      replace ho := ho.below bn
      replace h_x := h_x.below bn
      replace h_y := h_y.below bn
      replace bw := below_two bw bn
      clear bn h3
      go_wp2_with fail
      refine (refAdd_c ho h4 (by omega) (by omega)).mono ?_
      rintro e w3 ⟨A5, n5, c5, rfl, h5, bn⟩
      replace bw := below_two bw bn
      clear bn h4 ho h_x h_y
      have e1 : t + a * lim ys k * 2 ^ (32 * k) = a * val (ys.take (k + 1)) := by rw [Ht.out, mul_step]
      rw [e1] at h5
      have h6 := h5.relax (Hroom.out (k + 1))
      clear h5 e1
      obtain ⟨u, hu⟩ : ∃ u, u = a * val (ys.take (k + 1)) := ⟨_, rfl⟩
      rw [← hu] at h6
      have Hu := Lib.hid hu
      clear hu
      go_wp2
      go_roundw
      case rel => exact ⟨k + 1, u, A5, n5, c5, by omega, by go_num, rfl, Hu, h6, bw⟩
      case measure => simp [intOf]; omega
    · obtain rfl : k = n' := by omega
      have Ht2 : RowKit.Hid (t = a * b) := by
        have h := Ht.out
        rw [List.take_of_length_le (by rw [Hly.out]; exact Nat.le_refl _), Hyv.out] at h
        exact h
      clear hx hy
      go_wp2_with fail
      refine (refTrim_c ho (by omega)).mono ?_
      rintro e w4 ⟨A4, n4, c4, rfl, h4, bn⟩
      rw [Ht2.out] at h4
      go_wp2
      go_ret
      exact ⟨_, _, _, rfl, h4, below_two bw bn⟩

end Go.Proofs.YtgdchljbjnhchaaGreatDoor

/- What the reference's Pow of layer 2 comes to, as a contract over memory: the power bit by bit, and whether there is one. Conditions: the list reads as limbs, of at most 10^5 of them. -/
namespace Go.Proofs.YtgdchljbjnhchaaGreatDoor
open Go.RowKit Limb
set_option linter.unusedVariables false

theorem below_put {w wr : World} {g : Nat} (h : Below w.heap.size w wr) (hg : w.heap.size ≤ g) (u v : Value) : Below w.heap.size w ((wr.setCell ⟨g, 0, none⟩ u).setCell ⟨g, 1, none⟩ v) :=
  (h.setCell (by exact hg) _).setCell (by exact hg) _

end Go.Proofs.YtgdchljbjnhchaaGreatDoor

/- What the statements' helpers keep.Int and keep.OwnInt, and the reference of layer 6, answer, as contracts over memory. Conditions: sizes of at most so many limbs. -/
namespace Go.Proofs.YtgdchljbjnhchaaGreatDoor
open Go.RowKit Limb
set_option linter.unusedVariables false

theorem zsame {x y : Int} (h : x = y) : (decide (sg x = sg y) && same (limbs x.natAbs) (limbs y.natAbs)) = true := by
  subst h; rw [same_self]; simp
theorem zdiff {x y : Int} (h : x ≠ y) : (decide (sg x = sg y) && same (limbs x.natAbs) (limbs y.natAbs)) = false := by
  by_cases h1 : x.natAbs = y.natAbs
  · have : sg x ≠ sg y := by
      unfold sg
      intro e
      have e2 := decide_eq_decide.1 e
      omega
    simp [this]
  · rw [same_limbs_ne h1]; simp

theorem int_size : (Tryz.prog.info? 25).map (·.size) = some 2 := by kernel_rfl

/-- A list of limbs stays where a struct of a sign and a slice is filled. -/
theorem NN.put2 {w : World} {A : Option Addr} {n c : Nat} {xs : List Nat} {a L g : Nat} {T : TypeId} {b0 : Bool} {A0 : Option Addr} {n0 c0 : Nat} (h : NN w A n c xs a L) (hb : Row2 w g T (.bool b0) (.slice A0 n0 c0)) (u v : Value) : NN ((w.setCell ⟨g, 0, none⟩ u).setCell ⟨g, 1, none⟩ v) A n c xs a L := by
  refine ⟨⟨h.isN.1, h.isN.2.1, fun hn => ?_⟩, h.val, h.cap, h.le⟩
  obtain ⟨b, o, e, hlt, hc⟩ := h.isN.2.2 hn
  have hbg : b ≠ g := by
    rintro rfl
    have h1 := hc 0 hn
    unfold Row2 at hb
    match o, h1 with
    | 0, h1 => simp [World.cell?, hb] at h1
    | 1, h1 => simp [World.cell?, hb] at h1
    | o + 2, h1 => simp [World.cell?, hb] at h1
  refine ⟨b, o, e, by simpa [World.setCell] using hlt, fun j hj => ?_⟩
  rw [cell_setCell_ne _ _ (by intro e; injection e with e; exact hbg e.symm), cell_setCell_ne _ _ (by intro e; injection e with e; exact hbg e.symm)]
  exact hc j hj

section
variable {w : World} {s s' : Bool} {A A' : Option Addr} {n c n' c' : Nat} {xs ys : List Nat} {x y : Int} {L L' : Nat}

theorem keepInt_c (hx : ZZ w s A n c xs x L) (hy : ZZ w s' A' n' c' ys y L') (h1 : L ≤ 1000000000) (h2 : L' ≤ 1000000000) (v : Bool) (hv : (decide (s = s') && same xs ys) = v) :
    Calls Tryz.prog 9 #[.agg #[.bool s, .slice A n c], .agg #[.bool s', .slice A' n' c']] w fun e w' => e = .returned (.bool v) ∧ Below w.heap.size w w' := by
  have Hx := Lib.hid hx.nn
  have Hy := Lib.hid hy.nn
  have Hv := Lib.hid hv
  have HW : RowKit.Hid (Below w.heap.size w ((w.alloc (.cells #[Value.bool s, Value.slice A n c] 25)).alloc (.cells #[Value.bool s', Value.slice A' n' c'] 25))) := below_two (below_new _ _) (below_new _ _)
  clear hx hy hv
  by_cases hs : s = s'
  · subst hs
    go_enter Tryz.func9, Tryz.ntmps9
    go_wp2_with fail
    refine (keep_c (Hx.out.below HW.out) (Hy.out.below HW.out) h1 h2 v (by have := Hv.out; simpa using this)).mono ?_
    rintro e w1 ⟨rfl, bn⟩
    have HW1 := Lib.hid (below_two HW.out bn)
    clear bn HW
    go_wp2
    go_ret
    exact ⟨rfl, HW1.out⟩
  · go_enter Tryz.func9, Tryz.ntmps9
    have hs2 : (s == s') = false := by simpa using hs
    have Hv2 : RowKit.Hid (v = false) := by show _ = _; rw [← Hv.out]; simp [hs]
    clear hs Hv
    go_wp2
    go_ret
    exact ⟨by rw [Hv2.out]; rfl, HW.out⟩

theorem ownInt_c (hx : ZZ w s A n c xs x L) (h1 : L ≤ 1000000000) :
    Calls Tryz.prog 6 #[.agg #[.bool s, .slice A n c]] w fun e w' => ∃ A2 n2 c2, e = .returned (.agg #[.bool s, .slice A2 n2 c2]) ∧ ZZ w' s A2 n2 c2 xs x L ∧ Below w.heap.size w w' := by
  have b1 := below_new w (.cells #[Value.bool s, Value.slice A n c] 25)
  have b2 := below_new (w.alloc (.cells #[Value.bool s, Value.slice A n c] 25)) (.cells #[Value.bool false, Value.slice none 0 0] 25)
  have HW := Lib.hid (below_two b1 b2)
  have HN := Lib.hid (hx.nn.below HW.out)
  have HS := Lib.hid hx.sgn
  have r1 := (row2_new w 25 (.bool s) (.slice A n c)).below b2
  have r2 := row2_new (w.alloc (.cells #[Value.bool s, Value.slice A n c] 25)) 25 (.bool false) (.slice none 0 0)
  rw [World.size_alloc] at r2
  clear b1 b2 hx
  go_enter Tryz.func6, Tryz.ntmps6
  go_wp2
  generalize (w.alloc (.cells #[Value.bool s, Value.slice A n c] 25)).alloc (.cells #[Value.bool false, Value.slice none 0 0] 25) = w1 at *
  have HR1 := Lib.hid r1
  have HR2 := Lib.hid r2
  have c0 := r1.c0
  have c1 := r1.c1
  clear r1 r2
  go_region_with (go_at_call 24; (with_reducible refine (own_any _ _ _ _ _ _ _ (by first | exact HN.out | exact HN.out.below (Below.refl _ _).drew) h1).mono ?_); rintro e w2 ⟨A2, n2, c2, rfl, h2, bn⟩; have bn1 : Below w1.heap.size w1 w2 := (by first | exact bn | exact below_two (Below.refl _ _).drew bn); have d0 := (HR1.out.below bn1).c0; have d1 := (HR1.out.below bn1).c1; have e0 := (HR2.out.below bn1).c0; have e1 := (HR2.out.below bn1).c1; have f0 := (HR2.out.below bn1).free 0; have f1 := (HR2.out.below bn1).free 1)
  all_goals
    have HR := HR2.out.below bn1
    have HZ := Lib.hid (h2.put2 HR (.bool s) (.slice A2 n2 c2))
    have HB := Lib.hid (below_fill (below_two HW.out bn1) (Nat.le_succ _) (.bool s) (.slice A2 n2 c2))
    have HF := Lib.hid (HR.fill (.bool s) (.slice A2 n2 c2))
    clear d0 d1 e0 e1 f0 f1 bn bn1 HR h2 c0 c1
    go_wp2
    refine bodyPost_ret (results_cell_row rfl _ _ (w.heap.size + 1) 25 #[.bool s, .slice A2 n2 c2] (0, 0) _ rfl HF.out Tryz.underlying25 rfl int_size) rfl ?_
    exact ⟨A2, n2, c2, rfl, ⟨HZ.out, HS.out⟩, HB.out⟩

end

end Go.Proofs.YtgdchljbjnhchaaGreatDoor

/- Two structs of a sign and a slice that two calls answer and that go to two new variables ('x, y := f(..), g(..)'): Go leaves open when the variables are made; whatever the order, both boxes hold the answers. No condition. -/
namespace Go.Proofs.YtgdchljbjnhchaaGreatDoor
open Go.RowKit Limb
set_option linter.unusedVariables false

/-- A new box of the zero struct. -/
abbrev zbox : Obj := .cells #[Value.bool false, Value.slice none 0 0] 25
/-- The box at g holds the zero struct. -/
def ZB (w : World) (g : Nat) : Prop := Row2 w g 25 (.bool false) (.slice none 0 0)

theorem zb1 {w w' : World} (bn : Below (w.alloc zbox).heap.size (w.alloc zbox) w') : ZB w' w.heap.size := (row2_new w _ _ _).below bn
theorem zb1d {w w' : World} (bn : Below (w.alloc zbox).drew.heap.size (w.alloc zbox).drew w') : ZB w' w.heap.size := Row2.below (w := (w.alloc zbox).drew) (row2_new w _ _ _) bn
theorem zb2 {w w' : World} (bn : Below ((w.alloc zbox).alloc zbox).heap.size ((w.alloc zbox).alloc zbox) w') : ZB w' w.heap.size ∧ ZB w' (w.heap.size + 1) := by
  refine ⟨Row2.below (w := (w.alloc zbox).alloc zbox) ((row2_new w _ _ _).below (below_new _ _)) bn, ?_⟩
  have h := Row2.below (row2_new (w.alloc zbox) 25 (.bool false) (.slice none 0 0)) bn
  rw [World.size_alloc] at h
  exact h
theorem zb2d {w w' : World} (bn : Below ((w.alloc zbox).alloc zbox).drew.heap.size ((w.alloc zbox).alloc zbox).drew w') : ZB w' w.heap.size ∧ ZB w' (w.heap.size + 1) := by
  refine ⟨Row2.below (w := ((w.alloc zbox).alloc zbox).drew) (g := w.heap.size) (show Row2 ((w.alloc zbox).alloc zbox) w.heap.size 25 (.bool false) (.slice none 0 0) from (row2_new w _ _ _).below (below_new _ _)) bn, ?_⟩
  have h := Row2.below (w := ((w.alloc zbox).alloc zbox).drew) (g := (w.alloc zbox).heap.size) (row2_new (w.alloc zbox) 25 (.bool false) (.slice none 0 0)) bn
  rw [World.size_alloc] at h
  exact h
theorem ZB.below {w w' : World} {g : Nat} (h : ZB w g) (hb : Below w.heap.size w w') : ZB w' g := Row2.below h hb
theorem ZB.lt {w : World} {g : Nat} (h : ZB w g) : g < w.heap.size := Row2.lt h
theorem ZB.cells {w : World} {g : Nat} (h : ZB w g) : w.cell? ⟨g, 0, none⟩ = some (.bool false) ∧ w.cell? ⟨g, 1, none⟩ = some (.slice none 0 0) ∧ w.frozen? ⟨g, 0, none⟩ = false ∧ w.frozen? ⟨g, 1, none⟩ = false := ⟨h.c0, h.c1, h.free 0, h.free 1⟩

theorem ZB.apart {w : World} {g : Nat} (h : ZB w g) : w.heap.size ≠ g ∧ w.heap.size + 1 ≠ g := by have := h.lt; omega
theorem ZZ.put {w : World} {s : Bool} {A : Option Addr} {n c : Nat} {xs : List Nat} {z : Int} {L g : Nat} (h : ZZ w s A n c xs z L) (hb : ZB w g) (u v : Value) : ZZ ((w.setCell ⟨g, 0, none⟩ u).setCell ⟨g, 1, none⟩ v) s A n c xs z L := ⟨h.nn.put2 hb u v, h.sgn⟩
theorem Row2.far {w : World} {g g' : Nat} {T : TypeId} {u v : Value} (h : Row2 w g' T u v) (hne : g ≠ g') (x y : Value) : Row2 ((w.setCell ⟨g, 0, none⟩ x).setCell ⟨g, 1, none⟩ y) g' T u v := by
  unfold Row2 at h ⊢
  simp only [World.setCell, Array.getElem?_modify]
  rw [if_neg hne, if_neg hne]
  exact h
theorem Row2.filled {w : World} {g : Nat} {T : TypeId} {u v : Value} (h : Row2 w g T u v) (x y : Value) : Row2 ((w.setCell ⟨g, 0, none⟩ x).setCell ⟨g, 1, none⟩ y) g T x y := h.fill x y

section
variable {wP w : World} {q r : Nat} {s : Bool} {A : Option Addr} {n c : Nat} {xs : List Nat} {z : Int} {L : Nat} {s' : Bool} {A' : Option Addr} {n' c' : Nat} {xs' : List Nat} {z' : Int} {L' : Nat}

/-- Both boxes hold the answers. -/
structure Two (wP wx : World) (q r : Nat) (s : Bool) (A : Option Addr) (n c : Nat) (xs : List Nat) (z : Int) (L : Nat) (s' : Bool) (A' : Option Addr) (n' c' : Nat) (xs' : List Nat) (z' : Int) (L' : Nat) : Prop where
  q : Row2 wx q 25 (.bool s) (.slice A n c)
  r : Row2 wx r 25 (.bool s') (.slice A' n' c')
  z : ZZ wx s A n c xs z L
  z' : ZZ wx s' A' n' c' xs' z' L'
  b : Below wP.heap.size wP wx

/-- Both variables were made ahead of the second call. -/
theorem two_pp (hz : ZZ w s A n c xs z L) (hz' : ZZ w s' A' n' c' xs' z' L') (hb : Below wP.heap.size wP w) (h1 : ZB w q) (h2 : ZB w r) (hne : q ≠ r) (hq : wP.heap.size ≤ q) (hr : wP.heap.size ≤ r) :
    Two wP ((((w.setCell ⟨q, 0, none⟩ (.bool s)).setCell ⟨q, 1, none⟩ (.slice A n c)).setCell ⟨r, 0, none⟩ (.bool s')).setCell ⟨r, 1, none⟩ (.slice A' n' c')) q r s A n c xs z L s' A' n' c' xs' z' L' := by
  have h3 : ZB ((w.setCell ⟨q, 0, none⟩ (.bool s)).setCell ⟨q, 1, none⟩ (.slice A n c)) r := Row2.far h2 hne _ _
  exact ⟨(Row2.filled h1 _ _).far (Ne.symm hne) _ _, Row2.filled h3 _ _, (hz.put h1 _ _).put h3 _ _, (hz'.put h1 _ _).put h3 _ _, (((hb.setCell (p := ⟨q, 0, none⟩) hq _).setCell (p := ⟨q, 1, none⟩) hq _).setCell (p := ⟨r, 0, none⟩) hr _).setCell (p := ⟨r, 1, none⟩) hr _⟩
theorem size_set2 (w : World) (q : Nat) (u v : Value) : ((w.setCell ⟨q, 0, none⟩ u).setCell ⟨q, 1, none⟩ v).heap.size = w.heap.size := by simp [World.setCell]
/-- The first one ahead, the second one behind. -/
theorem two_pl (hz : ZZ w s A n c xs z L) (hz' : ZZ w s' A' n' c' xs' z' L') (hb : Below wP.heap.size wP w) (h1 : ZB w q) (hq : wP.heap.size ≤ q) :
    Two wP (((w.setCell ⟨q, 0, none⟩ (.bool s)).setCell ⟨q, 1, none⟩ (.slice A n c)).alloc (.cells #[Value.bool s', Value.slice A' n' c'] 25)) q w.heap.size s A n c xs z L s' A' n' c' xs' z' L' := by
  have b := below_new ((w.setCell ⟨q, 0, none⟩ (.bool s)).setCell ⟨q, 1, none⟩ (.slice A n c)) (.cells #[Value.bool s', Value.slice A' n' c'] 25)
  have h2 := row2_new ((w.setCell ⟨q, 0, none⟩ (.bool s)).setCell ⟨q, 1, none⟩ (.slice A n c)) 25 (.bool s') (.slice A' n' c')
  rw [size_set2] at h2
  exact ⟨(Row2.filled h1 _ _).below b, h2, (hz.put h1 _ _).below b, (hz'.put h1 _ _).below b, below_two ((hb.setCell (p := ⟨q, 0, none⟩) hq _).setCell (p := ⟨q, 1, none⟩) hq _) b⟩
/-- The second one ahead, the first one behind. -/
theorem two_lp (hz : ZZ w s A n c xs z L) (hz' : ZZ w s' A' n' c' xs' z' L') (hb : Below wP.heap.size wP w) (h2 : ZB w r) (hr : wP.heap.size ≤ r) :
    Two wP (((w.setCell ⟨r, 0, none⟩ (.bool s')).setCell ⟨r, 1, none⟩ (.slice A' n' c')).alloc (.cells #[Value.bool s, Value.slice A n c] 25)) w.heap.size r s A n c xs z L s' A' n' c' xs' z' L' := by
  have b := below_new ((w.setCell ⟨r, 0, none⟩ (.bool s')).setCell ⟨r, 1, none⟩ (.slice A' n' c')) (.cells #[Value.bool s, Value.slice A n c] 25)
  have h1 := row2_new ((w.setCell ⟨r, 0, none⟩ (.bool s')).setCell ⟨r, 1, none⟩ (.slice A' n' c')) 25 (.bool s) (.slice A n c)
  rw [size_set2] at h1
  exact ⟨h1, (Row2.filled h2 _ _).below b, (hz.put h2 _ _).below b, (hz'.put h2 _ _).below b, below_two ((hb.setCell (p := ⟨r, 0, none⟩) hr _).setCell (p := ⟨r, 1, none⟩) hr _) b⟩
/-- Both behind. -/
theorem two_ll (hz : ZZ w s A n c xs z L) (hz' : ZZ w s' A' n' c' xs' z' L') (hb : Below wP.heap.size wP w) :
    Two wP ((w.alloc (.cells #[Value.bool s, Value.slice A n c] 25)).alloc (.cells #[Value.bool s', Value.slice A' n' c'] 25)) w.heap.size (w.heap.size + 1) s A n c xs z L s' A' n' c' xs' z' L' := by
  have b1 := below_new w (.cells #[Value.bool s, Value.slice A n c] 25)
  have b2 := below_new (w.alloc (.cells #[Value.bool s, Value.slice A n c] 25)) (.cells #[Value.bool s', Value.slice A' n' c'] 25)
  have h2 := row2_new (w.alloc (.cells #[Value.bool s, Value.slice A n c] 25)) 25 (.bool s') (.slice A' n' c')
  rw [World.size_alloc] at h2
  exact ⟨(row2_new w _ _ _).below b2, h2, (hz.below b1).below b2, (hz'.below b1).below b2, below_two (below_two hb b1) b2⟩
theorem two_ll' (hz : ZZ w s A n c xs z L) (hz' : ZZ w s' A' n' c' xs' z' L') (hb : Below wP.heap.size wP w) :
    Two wP ((w.alloc (.cells #[Value.bool s', Value.slice A' n' c'] 25)).alloc (.cells #[Value.bool s, Value.slice A n c] 25)) (w.heap.size + 1) w.heap.size s A n c xs z L s' A' n' c' xs' z' L' :=
  let h := two_ll hz' hz hb
  ⟨h.r, h.q, h.z', h.z, h.b⟩
end

end Go.Proofs.YtgdchljbjnhchaaGreatDoor
