/- Part 2 of the texts that the statements of this seat lean on: mathematics, and what functions answer, as contracts over memory; each part says its own conditions. -/
import Derived.Test.YtgdchljbjnhchaaDoorM1
import Derived.Laws.Rows
import Derived.Deep.RegionWith
import Derived.Deep.RegionHeld3
import Derived.Deep.CutRange
import Derived.Lib.ParseIntB
import Derived.BigQuiet
import Derived.Deep.QuietTactic
import Derived.RangeFuncOwn
import Derived.Lib.AtoiErrMem
import Derived.RangeFuncNested
import Derived.RangeFuncBox
import Derived.RangeFuncBound
import Derived.RangeFuncCalls
import Derived.RangeFuncLeaves
import Derived.Shelf.Abstract
import Derived.Shelf.RegionOpen
import Derived.OwnWalkIn
import Derived.TacticsInMore
import Derived.LoopNIn
import Derived.LoopIn
/- What the document's own answers for layer 1 (package steelyardref01) come to, as contracts over memory: Bit, Bits, Sub. Conditions: arguments read as limbs, of at most 10^8 of them; a difference is asked of a number that is not below. -/
namespace Go.Proofs.YtgdchljbjnhchaaDoor
open Go.RowKit Limb
set_option linter.unusedVariables false

theorem bit_of64 (t k : Nat) (ht : t < 4294967296) : (bits BinOp.and IntKind.u64 ((t : Int) / 2 ^ k) 1 == 1) = t.testBit k := by
  have e : (t : Int) / 2 ^ k = ((t / 2 ^ k : Nat) : Int) := by simp
  have h1 : t / 2 ^ k < 4294967296 := Nat.lt_of_le_of_lt (Nat.div_le_self _ _) ht
  have h2 := u64_and_nat (t / 2 ^ k) 1 (by omega) (by decide)
  rw [e, show (1 : Int) = ((1 : Nat) : Int) from rfl, h2, Nat.and_one_is_mod, Nat.testBit_eq_decide_div_mod_eq]
  rw [Bool.eq_iff_iff]
  simp
  omega

theorem blen_of_bit {n k : Nat} (h : blen n ≤ k) (hk : k ≠ 0) (hb : n.testBit (k - 1) = true) : blen n = k := by
  have h1 := Nat.ge_two_pow_of_testBit hb
  have h2 := blen_lt n
  have h3 : k - 1 < blen n := (Nat.pow_lt_pow_iff_right (show 1 < 2 by decide)).1 (Nat.lt_of_le_of_lt h1 h2)
  omega

theorem blen_of_nobit {n k : Nat} (h : blen n ≤ k) (hk : k ≠ 0) (hb : n.testBit (k - 1) = false) : blen n ≤ k - 1 := by
  by_cases h0 : n = 0
  · subst h0; rw [blen_zero]; omega
  · have h1 := blen_top h0
    refine Classical.byContradiction fun hn => ?_
    have : blen n - 1 = k - 1 := by omega
    rw [this, hb] at h1
    cases h1

/-- A difference that the reference makes limb by limb. -/
def RSub (xs ys zs : List Nat) (k br : Nat) : Prop := zs.length = k ∧ Small zs ∧ val zs + val (ys.take k) = val (xs.take k) + br * 4294967296 ^ k ∧ br ≤ 1

theorem RSub.start (xs ys : List Nat) : RSub xs ys [] 0 0 := ⟨rfl, small_nil, by simp [val], by omega⟩
theorem sub_step {S X Y z y c P lo hi : Nat} (h : S + Y = X + c * P) (e : lo + y + c = z + hi * 4294967296) : S + P * lo + (Y + P * y) = X + P * z + hi * (P * 4294967296) := by
  have h1 := congrArg (P * ·) e
  simp only [Nat.mul_add] at h1
  rw [Nat.mul_left_comm hi P, Nat.mul_comm c P] at *
  omega
theorem RSub.step0 {xs ys zs : List Nat} {k br lo hi : Nat} (h : RSub xs ys zs k br) (hs : lo < 4294967296) (hi1 : hi ≤ 1) (e : lo + lim ys k + br = lim xs k + hi * 4294967296) : RSub xs ys (zs ++ [lo]) (k + 1) hi := by
  obtain ⟨h1, h2, h3, h4⟩ := h
  have hv : val (zs ++ [lo]) = val zs + 4294967296 ^ k * lo := by rw [val_append, h1]; simp [val]
  have e2 : 4294967296 ^ (k + 1) = 4294967296 ^ k * 4294967296 := Nat.pow_succ ..
  refine ⟨by simp [h1], small_append.2 ⟨h2, small_cons.2 ⟨hs, small_nil⟩⟩, ?_, hi1⟩
  rw [hv, val_take_lim, val_take_lim, e2]
  exact sub_step h3 e
theorem RSub.step {xs ys zs : List Nat} {k br : Nat} (h : RSub xs ys zs k br) (hx : Small xs) (hy : Small ys) : RSub xs ys (zs ++ [diffLo (lim xs k) (lim ys k) br]) (k + 1) (diffHi (lim xs k) (lim ys k) br) :=
  h.step0 (diffLo_lt _ _ _) (diffHi_le _ _ _) (diff_parts (lim_lt hx k) (lim_lt hy k) h.2.2.2)
theorem RSub.done {xs ys zs : List Nat} {k br : Nat} (h : RSub xs ys zs k br) (hk : xs.length = k) (hle : val ys ≤ val xs) (hx : Small xs) : val zs = val xs - val ys := by
  obtain ⟨h1, h2, h3, h4⟩ := h
  have hz := val_lt h2
  rw [h1] at hz
  have hxl := val_lt hx
  rw [hk] at hxl
  rw [List.take_of_length_le (l := xs) (by omega)] at h3
  have hy : val (ys.take k) = val ys := by
    by_cases hky : ys.length ≤ k
    · rw [List.take_of_length_le hky]
    · have e := val_split ys k (by omega)
      have h0 : val (ys.drop k) = 0 := by
        refine Classical.byContradiction fun hn => ?_
        have : 4294967296 ^ k * 1 ≤ 4294967296 ^ k * val (ys.drop k) := Nat.mul_le_mul_left _ (by omega)
        omega
      rw [h0] at e
      omega
  rw [hy] at h3
  rcases (show br = 0 ∨ br = 1 by omega) with rfl | rfl
  · omega
  · omega

theorem diffHi_yes {x y c : Nat} (h : x < y + c) : diffHi x y c = 1 := by simp [diffHi, h]
theorem diffHi_no {x y c : Nat} (h : ¬ x < y + c) : diffHi x y c = 0 := by simp [diffHi, h]

end Go.Proofs.YtgdchljbjnhchaaDoor

/- What the reference's Rem of layer 3 comes to, as a contract over memory: quotient and what is left, by bits moved and taken away. Conditions: both lists read as limbs, of at most 10^5 of them. -/
namespace Go.Proofs.YtgdchljbjnhchaaDoor.Limb

theorem val_set_add {zs : List Nat} {q d : Nat} (hq : q < zs.length) : val (zs.set q (lim zs q + d)) = val zs + 4294967296 ^ q * d := by
  rw [val_split (zs.set q (lim zs q + d)) (q + 1) (by simp; omega), drop_succ_set, val_take_set hq, val_split zs (q + 1) (by omega), val_take_lim, Nat.mul_add]
  omega

theorem low_bit {V i : Nat} (h : V % 2 ^ (i + 1) = 0) : (V / 4294967296 ^ (i / 32) % 4294967296) ||| 2 ^ (i % 32) = V / 4294967296 ^ (i / 32) % 4294967296 + 2 ^ (i % 32) := by
  obtain ⟨c, rfl⟩ := Nat.dvd_of_mod_eq_zero h
  have e1 : 2 ^ (i + 1) = 2 ^ (32 * (i / 32)) * 2 ^ (i % 32 + 1) := by rw [← Nat.pow_add]; congr 1; omega
  have hk : i % 32 < 32 := Nat.mod_lt _ (by decide)
  have e2 : (4294967296 : Nat) = 2 ^ (i % 32 + 1) * 2 ^ (31 - i % 32) := by rw [← Nat.pow_add, show i % 32 + 1 + (31 - i % 32) = 32 by omega]
  have e3 : 2 ^ (i + 1) * c / 4294967296 ^ (i / 32) = 2 ^ (i % 32 + 1) * c := by
    rw [pow32, e1, Nat.mul_assoc, Nat.mul_div_cancel_left _ (Nat.two_pow_pos _)]
  have e4 : 2 ^ (i % 32 + 1) * c % 4294967296 = 2 ^ (i % 32 + 1) * (c % 2 ^ (31 - i % 32)) := by
    rw [show 2 ^ (i % 32 + 1) * c % 4294967296 = 2 ^ (i % 32 + 1) * c % (2 ^ (i % 32 + 1) * 2 ^ (31 - i % 32)) by rw [← e2], Nat.mul_mod_mul_left]
  rw [e3, e4]
  exact (Nat.two_pow_add_eq_or_of_lt (Nat.pow_lt_pow_right (by decide) (Nat.lt_succ_self _)) _).symm

/-- A quotient that is made bit by bit: what is left, and the bits set so far, all from j on. -/
def QInv (a b : Nat) (zs : List Nat) (left j : Nat) : Prop := a = left + b * val zs ∧ left < b * 2 ^ j ∧ val zs % 2 ^ j = 0

theorem QInv.start {a b n : Nat} (k : Nat) (hb : b ≠ 0) (h : blen a ≤ blen b + n) : QInv a b (List.replicate k 0) a (n + 1) := by
  have e0 : val (List.replicate k 0) = 0 := val_zero fun j => by simp [lim, List.getD_eq_getElem?_getD, List.getElem?_replicate]; split <;> rfl
  refine ⟨by rw [e0]; rfl, ?_, by rw [e0, Nat.zero_mod]⟩
  obtain ⟨h1, h2, h3⟩ := blen_spec hb
  have h4 : a < 2 ^ (blen b + n) := Nat.lt_of_lt_of_le (blen_lt a) (Nat.pow_le_pow_right (by decide) h)
  have h5 : 2 ^ (blen b + n) = 2 ^ (blen b - 1) * 2 ^ (n + 1) := by rw [← Nat.pow_add]; congr 1; omega
  rw [h5] at h4
  exact Nat.lt_of_lt_of_le h4 (Nat.mul_le_mul_right _ h1)

theorem mod_low {V j : Nat} (h : V % 2 ^ (j + 1) = 0) : V % 2 ^ j = 0 :=
  Nat.mod_eq_zero_of_dvd (Nat.dvd_trans ⟨2, by rw [Nat.pow_succ]⟩ (Nat.dvd_of_mod_eq_zero h))

theorem QInv.yes {a b left j : Nat} {zs : List Nat} (h : QInv a b zs left (j + 1)) (hz : Small zs) (hle : b * 2 ^ j ≤ left) (hj : j / 32 < zs.length) : QInv a b (zs.set (j / 32) (lim zs (j / 32) ||| 2 ^ (j % 32))) (left - b * 2 ^ j) j := by
  obtain ⟨h1, h2, h3⟩ := h
  have e : val (zs.set (j / 32) (lim zs (j / 32) ||| 2 ^ (j % 32))) = val zs + 2 ^ j := by
    have h4 := low_bit h3
    rw [lim_eq_div zs hz] at h4
    rw [h4, val_set_add hj, pow_move]
  refine ⟨?_, ?_, ?_⟩
  · rw [e, Nat.mul_add, h1]; omega
  · rw [Nat.pow_succ, ← Nat.mul_assoc] at h2; omega
  · rw [e, Nat.add_mod_right]; exact mod_low h3
theorem QInv.no {a b left j : Nat} {zs : List Nat} (h : QInv a b zs left (j + 1)) (hlt : left < b * 2 ^ j) : QInv a b zs left j := ⟨h.1, hlt, mod_low h.2.2⟩
theorem QInv.done {a b left : Nat} {zs : List Nat} (h : QInv a b zs left 0) (hb : b ≠ 0) : val zs = a / b ∧ left = a % b := by
  obtain ⟨h1, h2, _⟩ := h
  rw [Nat.pow_zero, Nat.mul_one] at h2
  refine ⟨?_, ?_⟩
  · rw [h1, Nat.add_mul_div_left _ _ (Nat.pos_of_ne_zero hb), Nat.div_eq_of_lt h2, Nat.zero_add]
  · rw [h1, Nat.add_mul_mod_self_left, Nat.mod_eq_of_lt h2]

theorem bit_small {x k : Nat} (h : x < 4294967296) (hk : k < 32) : x ||| 2 ^ k < 4294967296 :=
  Nat.or_lt_two_pow (n := 32) h (Nat.pow_lt_pow_right (by decide) hk)

/-- The divisor, moved up, at a place. -/
def xAt (b j : Nat) : Nat := b * 2 ^ j / 2
theorem xAt_succ (b j : Nat) : xAt b (j + 1) = b * 2 ^ j := by
  unfold xAt; rw [Nat.pow_succ, ← Nat.mul_assoc, Nat.mul_div_cancel _ (by decide)]

/-- What is left; of a division by nothing: nothing. -/
def remR (a b : Nat) : Nat := if b = 0 then 0 else a % b
theorem remR_pos {a b : Nat} (h : b ≠ 0) : remR a b = a % b := if_neg h
theorem remR_zero {a b : Nat} (h : b = 0) : remR a b = 0 := if_pos h

end Go.Proofs.YtgdchljbjnhchaaDoor.Limb
namespace Go.Proofs.YtgdchljbjnhchaaDoor
open Go.RowKit Limb
set_option linter.unusedVariables false

/-- What a result's three cells hold behind the stores. -/
def fill3 (w : World) (g : Nat) (u v b : Value) : World := ((w.setCell ⟨g, 0, none⟩ u).setCell ⟨g, 1, none⟩ v).setCell ⟨g, 2, none⟩ b
/-- A slice that lies elsewhere. -/
def Apart (g : Nat) (A : Option Addr) (n : Nat) : Prop := 0 < n → ∀ b o s, A = some ⟨b, o, s⟩ → b ≠ g

theorem Apart.old {w : World} {A : Option Addr} {n c : Nat} {xs : List Nat} {a L g : Nat} (h : NN w A n c xs a L) (hg : w.heap.size ≤ g) : Apart g A n := by
  intro hn b o s e
  obtain ⟨b', o', e', hlt, _⟩ := h.isN.2.2 hn
  rw [e] at e'; injection e' with e'; injection e' with e' _
  omega
theorem Apart.own {w : World} {B : Nat} {A : Option Addr} {n c : Nat} {zs : List Nat} {g : Nat} (h : OwnN w B A n c zs) (hg : g < B) : Apart g A n := by
  intro hn b o s e
  obtain ⟨g', e', hB, _⟩ := h.addr hn
  rw [e] at e'; injection e' with e'; injection e' with e' _
  omega
theorem NN.elsewhere {w : World} {A : Option Addr} {n c : Nat} {xs : List Nat} {a L g : Nat} (h : NN w A n c xs a L) (hg : Apart g A n) (k : Nat) (v : Value) : NN (w.setCell ⟨g, k, none⟩ v) A n c xs a L := by
  refine ⟨⟨h.isN.1, h.isN.2.1, fun hn => ?_⟩, h.val, h.cap, h.le⟩
  obtain ⟨b, o, e, hlt, hc⟩ := h.isN.2.2 hn
  refine ⟨b, o, e, by simpa [World.setCell] using hlt, fun j hj => ?_⟩
  rw [cell_setCell_ne _ _ (by intro e2; injection e2 with e2; exact hg hn b o none e e2.symm)]
  exact hc j hj
theorem NN.fill3 {w : World} {A : Option Addr} {n c : Nat} {xs : List Nat} {a L g : Nat} (h : NN w A n c xs a L) (hg : Apart g A n) (u v b : Value) : NN (fill3 w g u v b) A n c xs a L :=
  ((h.elsewhere hg 0 u).elsewhere hg 1 v).elsewhere hg 2 b
theorem below_fill3 {w wr : World} {g : Nat} (h : Below w.heap.size w wr) (hg : w.heap.size ≤ g) (u v b : Value) : Below w.heap.size w (fill3 wr g u v b) :=
  ((h.setCell (by exact hg) _).setCell (by exact hg) _).setCell (by exact hg) _

/-- A machine's number is this one: under a name that no simp set opens. -/
def NumIs (V : Int) (n : Nat) : Prop := V = n

end Go.Proofs.YtgdchljbjnhchaaDoor

/- What the reference's Gcd of layer 3 comes to, as a contract over memory: the greatest divisor in common. Conditions: both lists read as limbs, of at most 40000 of them. -/
namespace Go.Proofs.YtgdchljbjnhchaaDoor
open Go.RowKit Limb
set_option linter.unusedVariables false

/-- What so many cells from an address on read as. -/
def readCells (w : World) (b o : Nat) : Nat → List Nat
  | 0 => []
  | n + 1 => readCells w b o n ++ [match w.cell? ⟨b, o + n, none⟩ with | some (.int _ i) => i.toNat | _ => 0]
/-- The number that a slice of limbs tells in a world: a loop's measure. -/
def readN (w : World) (v : Value) : Nat := match v with
  | .slice (some ⟨b, o, _⟩) n _ => val (readCells w b o n)
  | _ => 0

theorem readCells_eq {w : World} {b o n : Nat} {xs : List Nat} (h : ∀ j, j < n → w.cell? ⟨b, o + j, none⟩ = some (.int .u32 ((lim xs j : Nat) : Int))) (hl : xs.length = n) : ∀ k, k ≤ n → readCells w b o k = xs.take k := by
  intro k
  induction k with
  | zero => intro _; rfl
  | succ k ih =>
    intro hk
    rw [readCells, ih (by omega), h k (by omega), List.take_succ_eq_append_getElem (by omega)]
    simp [lim, List.getD_eq_getElem?_getD, List.getElem?_eq_getElem (show k < xs.length by omega)]

theorem readN_eq {w : World} {A : Option Addr} {n c : Nat} {xs : List Nat} (h : IsN w A n xs) : readN w (.slice A n c) = val xs := by
  by_cases hn : n = 0
  · subst hn
    obtain rfl : xs = [] := List.eq_nil_of_length_eq_zero h.len
    rcases A with _ | ⟨b, o, s⟩ <;> rfl
  · obtain ⟨b, o, rfl, _, hc⟩ := h.2.2 (by omega)
    show val (readCells w b o n) = _
    rw [readCells_eq hc h.len n (Nat.le_refl _), List.take_of_length_le (by rw [h.len]; exact Nat.le_refl _)]

theorem gcd_step (x y : Nat) : Nat.gcd y (x % y) = Nat.gcd x y := by
  rw [Nat.gcd_comm x y, Nat.gcd_rec y x, Nat.gcd_comm]

/-- The greatest divisor in common, under a name that no simp set opens. -/
def gcdN (a b : Nat) : Nat := Nat.gcd a b
theorem gcdN_step {x y g : Nat} (h : gcdN x y = g) : gcdN y (x % y) = g := by unfold gcdN at *; rw [gcd_step]; exact h
theorem gcdN_end {x g : Nat} (h : gcdN x 0 = g) : x = g := by unfold gcdN at h; rwa [Nat.gcd_zero_right] at h

end Go.Proofs.YtgdchljbjnhchaaDoor

/- What the reference's calls of layer 5 come to, as contracts over memory: a number by ten and what is left, its decimal text, ten to a power. Conditions: lists read as limbs, of at most 10^4 of them; exponents of at most 10^4. -/
namespace Go.Proofs.YtgdchljbjnhchaaDoor
open Go.RowKit Limb
set_option linter.unusedVariables false

theorem or_hi (x y : Nat) (hx : x < 4294967296) (hy : y < 4294967296) : bits BinOp.or IntKind.u64 ((x : Int) * 4294967296) (y : Int) = ((x * 4294967296 + y : Nat) : Int) := by
  have e1 : (x : Int) * 4294967296 = ((x * 4294967296 : Nat) : Int) := by omega
  rw [e1, u64_or_nat _ _ (by omega) (by omega), Nat.mul_comm x, show (4294967296 : Nat) = 2 ^ 32 from rfl, Nat.two_pow_add_eq_or_of_lt (by omega)]

theorem ret_digit {A : Option Addr} {n c r s : Nat} (h : r = s) : Ending.returned (.tuple #[.slice A n c, .int .u8 ((r : Nat) : Int)]) = .returned (.tuple #[.slice A n c, .int .u8 ((s : Nat) : Int)]) := by rw [h]

/-- A row of limbs of the call's own stays where another one grows. -/
theorem OwnN.keeps {w w' : World} {B : Nat} {A : Option Addr} {n c : Nat} {zs : List Nat} (h : OwnN w B A n c zs) {row : Option Nat} {o : Obj} (hg : (w.alloc o).grownBy w' row) (hr : ∀ k, row = some k → k < B) : OwnN w' B A n c zs := by
  have ha := h.alloc o
  refine ⟨⟨h.1.1, ?_⟩, h.2⟩
  rcases ha.1.2 with h2 | ⟨g, cap, cur, hv, hB, hh, r⟩
  · exact .inl h2
  · refine .inr ⟨g, cap, cur, hv, hB, ?_, r⟩
    have hlt : g < (w.alloc o).heap.size := by
      rcases Nat.lt_or_ge g (w.alloc o).heap.size with hlt | hge
      · exact hlt
      · rw [Array.getElem?_eq_none hge] at hh; cases hh
    rw [hg.block g hlt (fun e => by have := hr g e.symm; omega)]
    exact hh

end Go.Proofs.YtgdchljbjnhchaaDoor
namespace Go.Proofs.YtgdchljbjnhchaaDoor.Limb

/-- The digits that are still to come: none of 0. -/
def decS (n : Nat) : List Nat := if n = 0 then [] else decT n
theorem decS_zero : decS 0 = [] := rfl
theorem decS_pos {n : Nat} (h : n ≠ 0) : decS n = decT n := if_neg h
theorem decS_step {n : Nat} (h : n ≠ 0) : decS n = decS (n / 10) ++ [48 + n % 10] := by
  rw [decS_pos h]
  by_cases h1 : n < 10
  · rw [decT_small h1, show n / 10 = 0 by omega, decS_zero, show n % 10 = n by omega]; rfl
  · rw [decT_big (by omega), decS_pos (by omega)]

/-- The digits so far, the lowest first, and the number that is left. -/
def TInv (a : Nat) (zs : List Nat) (m : Nat) : Prop := decS a = decS m ++ zs.reverse ∧ Bytes zs
theorem TInv.start (a : Nat) : TInv a [] a := ⟨by simp, bytes_nil⟩
theorem TInv.step {a m : Nat} {zs : List Nat} (h : TInv a zs m) (h0 : m ≠ 0) : TInv a (zs ++ [48 + m % 10]) (m / 10) := by
  refine ⟨?_, bytes_append.2 ⟨h.2, bytes_cons.2 ⟨by omega, bytes_nil⟩⟩⟩
  rw [h.1, decS_step h0, List.reverse_append]; simp
theorem TInv.done {a : Nat} {zs : List Nat} (h : TInv a zs 0) : decS a = zs.reverse := by rw [h.1, decS_zero]; rfl
theorem TInv.len {a m L : Nat} {zs : List Nat} (h : TInv a zs m) (hl : a < 4294967296 ^ L) : zs.length ≤ 10 * L + 1 := by
  have h1 : (decS a).length ≤ 10 * L + 1 := by
    unfold decS
    split
    · simp
    · exact decT_len_limbs hl
  rw [h.1] at h1
  simp at h1
  omega

/-- A row that is being turned round: so many at both ends are. -/
def RevInv (zs ys : List Nat) (i : Nat) : Prop :=
  ys.length = zs.length ∧ (∀ j, j < zs.length → lim ys j = if j < i ∨ zs.length ≤ j + i then lim zs (zs.length - 1 - j) else lim zs j) ∧ 2 * i ≤ zs.length + 1
theorem RevInv.start (zs : List Nat) : RevInv zs zs 0 := ⟨rfl, fun j hj => by rw [if_neg (by omega)], by omega⟩
theorem RevInv.step {zs ys : List Nat} {i k : Nat} (h : RevInv zs ys i) (hk : i + k + 1 = zs.length) (hik : i < k) : RevInv zs ((ys.set i (lim ys k)).set k (lim ys i)) (i + 1) := by
  obtain ⟨h1, h2, h3⟩ := h
  refine ⟨by simp [h1], fun j hj => ?_, by omega⟩
  have e1 := h2 i (by omega)
  have e2 := h2 k (by omega)
  rw [if_neg (by omega)] at e1 e2
  by_cases j1 : j = k
  · subst j1
    rw [lim_set_self (by simp; omega), e1, if_pos (by omega), show zs.length - 1 - j = i by omega]
  · rw [lim_set_ne (fun e => j1 e.symm)]
    by_cases j2 : j = i
    · subst j2
      rw [lim_set_self (by omega), e2, if_pos (by omega), show zs.length - 1 - j = k by omega]
    · rw [lim_set_ne (fun e => j2 e.symm), h2 j hj]
      by_cases c : j < i ∨ zs.length ≤ j + i
      · rw [if_pos c, if_pos (by omega)]
      · rw [if_neg c, if_neg (by omega)]
theorem eq_of_lim {xs ys : List Nat} (hl : xs.length = ys.length) (h : ∀ j, j < xs.length → lim xs j = lim ys j) : xs = ys := by
  refine List.ext_getElem hl fun j h1 h2 => ?_
  have := h j h1
  simpa [lim, List.getD_eq_getElem?_getD, List.getElem?_eq_getElem h1, List.getElem?_eq_getElem h2] using this
theorem lim_reverse {zs : List Nat} {j : Nat} (h : j < zs.length) : lim zs.reverse j = lim zs (zs.length - 1 - j) := by
  simp [lim, List.getD_eq_getElem?_getD, List.getElem?_reverse h]
theorem RevInv.done {zs ys : List Nat} {i k : Nat} (h : RevInv zs ys i) (hk : i + k + 1 = zs.length) (hik : k ≤ i) : ys = zs.reverse := by
  obtain ⟨h1, h2, h3⟩ := h
  refine eq_of_lim (by simp [h1]) fun j hj => ?_
  rw [h2 j (by omega), lim_reverse (by omega)]
  by_cases c : j < i ∨ zs.length ≤ j + i
  · rw [if_pos c]
  · rw [if_neg c, show zs.length - 1 - j = j by omega]

end Go.Proofs.YtgdchljbjnhchaaDoor.Limb
namespace Go.Proofs.YtgdchljbjnhchaaDoor
open Go.RowKit Limb
set_option linter.unusedVariables false

end Go.Proofs.YtgdchljbjnhchaaDoor

/- What the reference's Parse of layer 5 comes to, as a contract over memory: the number of a text of decimal digits, or that there is none. Conditions: texts that can be read. -/
namespace Go.Proofs.YtgdchljbjnhchaaDoor
open Go.RowKit Limb
set_option linter.unusedVariables false

/-- A block of two cells. -/
def Row2 (w : World) (g : Nat) (T : TypeId) (u v : Value) : Prop := w.heap[g]? = some (.cells #[u, v] T (0, 0))
section
variable {w w' : World} {g : Nat} {T : TypeId} {u v : Value}
theorem Row2.lt (h : Row2 w g T u v) : g < w.heap.size := by
  rcases Nat.lt_or_ge g w.heap.size with hlt | hge
  · exact hlt
  · unfold Row2 at h; rw [Array.getElem?_eq_none hge] at h; cases h
theorem Row2.below (h : Row2 w g T u v) (hb : Below w.heap.size w w') : Row2 w' g T u v := (hb.block g h.lt).trans h
theorem Row2.c0 (h : Row2 w g T u v) : w.cell? ⟨g, 0, none⟩ = some u := by unfold Row2 at h; simp [World.cell?, h]
theorem Row2.c1 (h : Row2 w g T u v) : w.cell? ⟨g, 1, none⟩ = some v := by unfold Row2 at h; simp [World.cell?, h]
theorem Row2.free (h : Row2 w g T u v) (k : Nat) : w.frozen? ⟨g, k, none⟩ = false := by unfold Row2 at h; simp [World.frozen?, h]
theorem Row2.fill (h : Row2 w g T u v) (x y : Value) : ((w.setCell ⟨g, 0, none⟩ x).setCell ⟨g, 1, none⟩ y).heap[g]? = some (.cells #[x, y] T (0, 0)) := by
  unfold Row2 at h
  simp [World.setCell, Array.getElem?_modify, h]
theorem row2_new (w : World) (T : TypeId) (u v : Value) : Row2 (w.alloc (.cells #[u, v] T)) w.heap.size T u v := heap_alloc_new _ _
theorem below_fill (h : Below w.heap.size w w') (hg : w.heap.size ≤ g) (x y : Value) : Below w.heap.size w ((w'.setCell ⟨g, 0, none⟩ x).setCell ⟨g, 1, none⟩ y) :=
  (h.setCell (by exact hg) _).setCell (by exact hg) _
end

theorem numOk_len {l : List Nat} (h : l.length = 0 ∨ 2000 < l.length) : numOk l = false := by
  unfold numOk
  rcases h with h | h
  · simp [h]
  · rw [decide_eq_false (by omega : ¬ l.length ≤ 2000)]; simp
theorem numOk_bad {l : List Nat} {k : Nat} (hk : k < l.length) (h : isDig (lim l k) = false) : numOk l = false := by
  have : allDig l = false := by
    rw [Bool.eq_false_iff]
    intro h2
    have h3 := List.all_eq_true.1 h2 l[k] (List.getElem_mem hk)
    have e : lim l k = l[k] := by simp [lim, List.getD_eq_getElem?_getD, List.getElem?_eq_getElem hk]
    rw [← e, h] at h3
    cases h3
  unfold numOk
  rw [this]; simp
theorem numOk_good {l : List Nat} (h1 : 1 ≤ l.length) (h2 : l.length ≤ 2000) (h3 : allDig l = true) : numOk l = true := by
  unfold numOk
  simp [h1, h2, h3]

/-- The first bytes are digits, and tell t. -/
def PInv (l : List Nat) (i t : Nat) : Prop := allDig (l.take i) = true ∧ t = decV (l.take i)
theorem PInv.start (l : List Nat) : PInv l 0 0 := ⟨rfl, rfl⟩
theorem PInv.step {l : List Nat} {i t : Nat} (h : PInv l i t) (hi : i < l.length) (hd : isDig (lim l i) = true) : PInv l (i + 1) (t * 10 + (lim l i - 48)) := by
  have e : l.take (i + 1) = l.take i ++ [lim l i] := by
    rw [List.take_succ_eq_append_getElem hi]
    simp [lim, List.getD_eq_getElem?_getD, List.getElem?_eq_getElem hi]
  refine ⟨by rw [e, allDig_append, h.1]; simp [allDig, hd], by rw [e, decV_snoc, h.2]⟩
theorem PInv.lt {l : List Nat} {i t : Nat} (h : PInv l i t) (hi : l.length ≤ 2000) : t < 4294967296 ^ 223 := by
  have h1 := decV_lt h.1
  rw [← h.2] at h1
  refine Nat.lt_of_lt_of_le h1 (dec_room ?_)
  rw [List.length_take]
  omega

/-- What a text of digits tells, 0 where it tells nothing. -/
def numV (l : List Nat) : Nat := if numOk l = true then decV l else 0
theorem numV_yes {l : List Nat} (h : numOk l = true) : numV l = decV l := if_pos h
theorem numV_no {l : List Nat} (h : numOk l = false) : numV l = 0 := if_neg (by rw [h]; decide)
theorem numV_lt (l : List Nat) : numV l < 4294967296 ^ 223 := by
  unfold numV
  split
  · rename_i h
    simp only [numOk, Bool.and_eq_true, decide_eq_true_eq] at h
    exact Nat.lt_of_lt_of_le (decV_lt h.2) (dec_room (by omega))
  · exact Nat.pow_pos (by decide)

end Go.Proofs.YtgdchljbjnhchaaDoor

/- Whole numbers with a sign in memory: a struct of a sign and a list of limbs that reads as an Int; answers are in the shortest limbs, and 0 is not below 0. Texts of whole numbers. No condition. -/
namespace Go.Proofs.YtgdchljbjnhchaaDoor
open Go.RowKit Limb
set_option linter.unusedVariables false

/-- Is a number below 0? -/
def sg (z : Int) : Bool := decide (z < 0)
theorem sg_neg {z : Int} (h : z < 0) : sg z = true := by simp [sg, h]
theorem sg_pos {z : Int} (h : 0 ≤ z) : sg z = false := by simp [sg]; omega

/-- A sign and a slice read as the number z, of at most L limbs. -/
structure ZZ (w : World) (s : Bool) (A : Option Addr) (n c : Nat) (xs : List Nat) (z : Int) (L : Nat) : Prop where
  nn : NN w A n c xs z.natAbs L
  sgn : z = if s = true then -(z.natAbs : Int) else (z.natAbs : Int)

/-- The number that a sign and a size tell. -/
def zOf (s : Bool) (a : Nat) : Int := if s = true then -(a : Int) else (a : Int)
theorem zOf_abs (s : Bool) (a : Nat) : (zOf s a).natAbs = a := by unfold zOf; split <;> omega
theorem ZZ.of {w : World} {s : Bool} {A : Option Addr} {n c : Nat} {xs : List Nat} {a L : Nat} (h : NN w A n c xs a L) : ZZ w s A n c xs (zOf s a) L := by
  refine ⟨by rw [zOf_abs]; exact h, ?_⟩
  rw [zOf_abs]; rfl
theorem ZZ.below {w w' : World} {s : Bool} {A : Option Addr} {n c : Nat} {xs : List Nat} {z : Int} {L : Nat} (h : ZZ w s A n c xs z L) (hb : Below w.heap.size w w') : ZZ w' s A n c xs z L := ⟨h.nn.below hb, h.sgn⟩
theorem ZZ.neg {w : World} {A : Option Addr} {n c : Nat} {xs : List Nat} {z : Int} {L : Nat} (h : ZZ w true A n c xs z L) : z = -(z.natAbs : Int) := h.sgn
theorem ZZ.pos {w : World} {A : Option Addr} {n c : Nat} {xs : List Nat} {z : Int} {L : Nat} (h : ZZ w false A n c xs z L) : z = (z.natAbs : Int) := h.sgn
/-- A canonical answer: shortest limbs. -/
theorem ZZ.mk' {w : World} {A : Option Addr} {n c : Nat} {z : Int} {L : Nat} (h : NN w A n c (limbs z.natAbs) z.natAbs L) : ZZ w (sg z) A n c (limbs z.natAbs) z L := by
  refine ⟨h, ?_⟩
  unfold sg
  by_cases h0 : z < 0
  · simp [h0]; omega
  · simp [h0]; omega

/-- The text of a whole number, as bytes. -/
def zT (z : Int) : List Nat := if z < 0 then 45 :: decT z.natAbs else decT z.natAbs
theorem zT_neg {z : Int} (h : z < 0) : zT z = 45 :: decT z.natAbs := if_pos h
theorem zT_pos {z : Int} (h : 0 ≤ z) : zT z = decT z.natAbs := if_neg (by omega)
theorem zT_bytes (z : Int) : Bytes (zT z) := by
  unfold zT; split
  · exact bytes_cons.2 ⟨by decide, decT_bytes _⟩
  · exact decT_bytes _
theorem minus_text (l : List Nat) : (⟨#[45]⟩ : ByteArray) ++ strOf l = strOf (45 :: l) := by
  have e : (⟨#[45]⟩ : ByteArray) = strOf [45] := rfl
  rw [e, strOf_append]; rfl

/-- Are bytes the text of a whole number, for the calls that read one? -/
def zOk (l : List Nat) : Bool := if l.head? = some 45 then numOk l.tail && decide (numV l.tail ≠ 0) else numOk l
/-- The number that they tell, 0 where they tell nothing. -/
def zV (l : List Nat) : Int := if l.head? = some 45 then -(numV l.tail : Int) else (numV l : Int)
theorem zOk_minus {l : List Nat} (h : l.head? = some 45) : zOk l = (numOk l.tail && decide (numV l.tail ≠ 0)) := if_pos h
theorem zOk_plain {l : List Nat} (h : l.head? ≠ some 45) : zOk l = numOk l := if_neg h
theorem zV_minus {l : List Nat} (h : l.head? = some 45) : zV l = -(numV l.tail : Int) := if_pos h
theorem zV_plain {l : List Nat} (h : l.head? ≠ some 45) : zV l = (numV l : Int) := if_neg h
theorem zV_no {l : List Nat} (h : zOk l = false) : zV l = 0 := by
  by_cases h1 : l.head? = some 45
  · rw [zOk_minus h1] at h
    rw [zV_minus h1]
    cases h2 : numOk l.tail with
    | false => rw [numV_no h2]; rfl
    | true => rw [h2] at h; simp at h; omega
  · rw [zOk_plain h1] at h
    rw [zV_plain h1, numV_no h]; rfl
theorem zV_abs (l : List Nat) : (zV l).natAbs = if l.head? = some 45 then numV l.tail else numV l := by
  unfold zV; split <;> omega

theorem numV_dec {n : Nat} (h : (decT n).length ≤ 2000) : numV (decT n) = n := by rw [numV_yes (numOk_dec h), decV_decT]
theorem dec_head (n : Nat) : (decT n).head? ≠ some 45 := by
  intro h
  cases hd : decT n with
  | nil => exact absurd hd (decT_ne n)
  | cons x l =>
    rw [hd] at h
    simp at h
    have := allDig_iff.1 (decT_dig n) x (by rw [hd]; simp)
    omega
/-- A number's text is read as it. -/
theorem zOk_T {z : Int} (h : (decT z.natAbs).length ≤ 2000) : zOk (zT z) = true := by
  by_cases h0 : z < 0
  · rw [zT_neg h0, zOk_minus rfl]
    show (numOk (decT z.natAbs) && decide (numV (decT z.natAbs) ≠ 0)) = true
    rw [numOk_dec h, numV_dec h]
    simp; omega
  · rw [zT_pos (by omega), zOk_plain (dec_head _), numOk_dec h]
theorem zV_T {z : Int} (h : (decT z.natAbs).length ≤ 2000) : zV (zT z) = z := by
  by_cases h0 : z < 0
  · rw [zT_neg h0, zV_minus rfl]
    show -(numV (decT z.natAbs) : Int) = z
    rw [numV_dec h]; omega
  · rw [zT_pos (by omega), zV_plain (dec_head _), numV_dec h]; omega
theorem zT_inj {x y : Int} (h : zT x = zT y) : x = y := by
  by_cases hx : x < 0
  · by_cases hy : y < 0
    · rw [zT_neg hx, zT_neg hy] at h
      have := decT_inj (List.cons.inj h).2
      omega
    · rw [zT_neg hx, zT_pos (by omega)] at h
      exact absurd (by rw [← h]; rfl) (dec_head y.natAbs)
  · by_cases hy : y < 0
    · rw [zT_pos (by omega), zT_neg hy] at h
      exact absurd (by rw [h]; rfl) (dec_head x.natAbs)
    · rw [zT_pos (by omega), zT_pos (by omega)] at h
      have := decT_inj h
      omega

/-- Which of two numbers is greater. -/
def cmpZ (x y : Int) : Int := if x < y then -1 else if x = y then 0 else 1
theorem cmpZ_lt {x y : Int} (h : x < y) : cmpZ x y = -1 := if_pos h
theorem cmpZ_eq {x y : Int} (h : x = y) : cmpZ x y = 0 := by unfold cmpZ; rw [if_neg (by omega), if_pos h]
theorem cmpZ_gt {x y : Int} (h : y < x) : cmpZ x y = 1 := by unfold cmpZ; rw [if_neg (by omega), if_neg (by omega)]
theorem cmpZ_bounds (x y : Int) : -1 ≤ cmpZ x y ∧ cmpZ x y ≤ 1 := by unfold cmpZ; split <;> (try split) <;> omega

/-- A sum, a product of sizes has room. -/
theorem abs_add_lt {x y : Int} {K : Nat} (hx : x.natAbs < 4294967296 ^ K) (hy : y.natAbs < 4294967296 ^ K) : (x + y).natAbs < 4294967296 ^ (K + 1) := by
  rw [Nat.pow_succ]; omega

end Go.Proofs.YtgdchljbjnhchaaDoor

/- What the reference's Of of layer 2 comes to, as a contract over memory: the product, in shortest limbs. Conditions: both lists read as limbs, of at most 10^6 of them. -/
namespace Go.Proofs.YtgdchljbjnhchaaDoor
open Go.RowKit Limb
set_option linter.unusedVariables false

theorem mul_step (a : Nat) (ys : List Nat) (k : Nat) : a * val (ys.take k) + a * lim ys k * 2 ^ (32 * k) = a * val (ys.take (k + 1)) := by
  rw [val_take_lim, Nat.mul_add, pow32, Nat.mul_assoc, Nat.mul_comm (lim ys k)]

theorem mul_room {w : World} {A A' : Option Addr} {n c n' c' : Nat} {xs ys : List Nat} {a b L L' : Nat} (hx : NN w A n c xs a L) (hy : NN w A' n' c' ys b L') (k : Nat) : a * val (ys.take k) < 4294967296 ^ (L + L') := by
  have h1 := lt_pow hx
  have h2 := val_lt (small_take hy.isN.small k)
  have h3 : 4294967296 ^ (ys.take k).length ≤ 4294967296 ^ L' := Nat.pow_le_pow_right (by decide) (by rw [List.length_take, hy.isN.len]; have := hy.le; omega)
  rw [Nat.pow_add]
  exact Nat.mul_lt_mul'' h1 (Nat.lt_of_lt_of_le h2 h3)

theorem up_fits {t L k : Nat} (h : t < 4294967296 ^ L) : t * 2 ^ (32 * k) < 4294967296 ^ (L + k) := by
  rw [Nat.pow_add, ← pow32]
  exact Nat.mul_lt_mul_of_pos_right h (Nat.pow_pos (by decide))

end Go.Proofs.YtgdchljbjnhchaaDoor

/- What the reference's Pow of layer 2 comes to, as a contract over memory: the power bit by bit, and whether there is one. Conditions: the list reads as limbs, of at most 10^5 of them. -/
namespace Go.Proofs.YtgdchljbjnhchaaDoor
open Go.RowKit Limb
set_option linter.unusedVariables false

theorem below_put {w wr : World} {g : Nat} (h : Below w.heap.size w wr) (hg : w.heap.size ≤ g) (u v : Value) : Below w.heap.size w ((wr.setCell ⟨g, 0, none⟩ u).setCell ⟨g, 1, none⟩ v) :=
  (h.setCell (by exact hg) _).setCell (by exact hg) _

end Go.Proofs.YtgdchljbjnhchaaDoor

/- What the statements' helpers keep.Int and keep.OwnInt, and the reference of layer 6, answer, as contracts over memory. Conditions: sizes of at most so many limbs. -/
namespace Go.Proofs.YtgdchljbjnhchaaDoor
open Go.RowKit Limb
set_option linter.unusedVariables false

theorem zsame {x y : Int} (h : x = y) : (decide (sg x = sg y) && same (limbs x.natAbs) (limbs y.natAbs)) = true := by
  subst h; rw [same_self]; simp
theorem zdiff {x y : Int} (h : x ≠ y) : (decide (sg x = sg y) && same (limbs x.natAbs) (limbs y.natAbs)) = false := by
  by_cases h1 : x.natAbs = y.natAbs
  · have : sg x ≠ sg y := by
      unfold sg
      intro e
      have e2 := decide_eq_decide.1 e
      omega
    simp [this]
  · rw [same_limbs_ne h1]; simp

theorem int_size : (Tryd.prog.info? 25).map (·.size) = some 2 := by kernel_rfl

/-- A list of limbs stays where a struct of a sign and a slice is filled. -/
theorem NN.put2 {w : World} {A : Option Addr} {n c : Nat} {xs : List Nat} {a L g : Nat} {T : TypeId} {b0 : Bool} {A0 : Option Addr} {n0 c0 : Nat} (h : NN w A n c xs a L) (hb : Row2 w g T (.bool b0) (.slice A0 n0 c0)) (u v : Value) : NN ((w.setCell ⟨g, 0, none⟩ u).setCell ⟨g, 1, none⟩ v) A n c xs a L := by
  refine ⟨⟨h.isN.1, h.isN.2.1, fun hn => ?_⟩, h.val, h.cap, h.le⟩
  obtain ⟨b, o, e, hlt, hc⟩ := h.isN.2.2 hn
  have hbg : b ≠ g := by
    rintro rfl
    have h1 := hc 0 hn
    unfold Row2 at hb
    match o, h1 with
    | 0, h1 => simp [World.cell?, hb] at h1
    | 1, h1 => simp [World.cell?, hb] at h1
    | o + 2, h1 => simp [World.cell?, hb] at h1
  refine ⟨b, o, e, by simpa [World.setCell] using hlt, fun j hj => ?_⟩
  rw [cell_setCell_ne _ _ (by intro e; injection e with e; exact hbg e.symm), cell_setCell_ne _ _ (by intro e; injection e with e; exact hbg e.symm)]
  exact hc j hj

section
variable {w : World} {s s' : Bool} {A A' : Option Addr} {n c n' c' : Nat} {xs ys : List Nat} {x y : Int} {L L' : Nat}

theorem keepInt_c (hx : ZZ w s A n c xs x L) (hy : ZZ w s' A' n' c' ys y L') (h1 : L ≤ 1000000000) (h2 : L' ≤ 1000000000) (v : Bool) (hv : (decide (s = s') && same xs ys) = v) :
    Calls Tryd.prog 10 #[.agg #[.bool s, .slice A n c], .agg #[.bool s', .slice A' n' c']] w fun e w' => e = .returned (.bool v) ∧ Below w.heap.size w w' := by
  have Hx := Lib.hid hx.nn
  have Hy := Lib.hid hy.nn
  have Hv := Lib.hid hv
  have HW : RowKit.Hid (Below w.heap.size w ((w.alloc (.cells #[Value.bool s, Value.slice A n c] 25)).alloc (.cells #[Value.bool s', Value.slice A' n' c'] 25))) := below_two (below_new _ _) (below_new _ _)
  clear hx hy hv
  by_cases hs : s = s'
  · subst hs
    go_enter Tryd.func10, Tryd.ntmps10
    go_wp2_with fail
    refine (keep_c (Hx.out.below HW.out) (Hy.out.below HW.out) h1 h2 v (by have := Hv.out; simpa using this)).mono ?_
    rintro e w1 ⟨rfl, bn⟩
    have HW1 := Lib.hid (below_two HW.out bn)
    clear bn HW
    go_wp2
    go_ret
    exact ⟨rfl, HW1.out⟩
  · go_enter Tryd.func10, Tryd.ntmps10
    have hs2 : (s == s') = false := by simpa using hs
    have Hv2 : RowKit.Hid (v = false) := by show _ = _; rw [← Hv.out]; simp [hs]
    clear hs Hv
    go_wp2
    go_ret
    exact ⟨by rw [Hv2.out]; rfl, HW.out⟩

theorem ownInt_c (hx : ZZ w s A n c xs x L) (h1 : L ≤ 1000000000) :
    Calls Tryd.prog 18 #[.agg #[.bool s, .slice A n c]] w fun e w' => ∃ A2 n2 c2, e = .returned (.agg #[.bool s, .slice A2 n2 c2]) ∧ ZZ w' s A2 n2 c2 xs x L ∧ Below w.heap.size w w' := by
  have b1 := below_new w (.cells #[Value.bool s, Value.slice A n c] 25)
  have b2 := below_new (w.alloc (.cells #[Value.bool s, Value.slice A n c] 25)) (.cells #[Value.bool false, Value.slice none 0 0] 25)
  have HW := Lib.hid (below_two b1 b2)
  have HN := Lib.hid (hx.nn.below HW.out)
  have HS := Lib.hid hx.sgn
  have r1 := (row2_new w 25 (.bool s) (.slice A n c)).below b2
  have r2 := row2_new (w.alloc (.cells #[Value.bool s, Value.slice A n c] 25)) 25 (.bool false) (.slice none 0 0)
  rw [World.size_alloc] at r2
  clear b1 b2 hx
  go_enter Tryd.func18, Tryd.ntmps18
  go_wp2
  generalize (w.alloc (.cells #[Value.bool s, Value.slice A n c] 25)).alloc (.cells #[Value.bool false, Value.slice none 0 0] 25) = w1 at *
  have HR1 := Lib.hid r1
  have HR2 := Lib.hid r2
  have c0 := r1.c0
  have c1 := r1.c1
  clear r1 r2
  go_region_with (go_at_call 32; (with_reducible refine (own_any _ _ _ _ _ _ _ (by first | exact HN.out | exact HN.out.below (Below.refl _ _).drew) h1).mono ?_); rintro e w2 ⟨A2, n2, c2, rfl, h2, bn⟩; have bn1 : Below w1.heap.size w1 w2 := (by first | exact bn | exact below_two (Below.refl _ _).drew bn); have d0 := (HR1.out.below bn1).c0; have d1 := (HR1.out.below bn1).c1; have e0 := (HR2.out.below bn1).c0; have e1 := (HR2.out.below bn1).c1; have f0 := (HR2.out.below bn1).free 0; have f1 := (HR2.out.below bn1).free 1)
  all_goals
    have HR := HR2.out.below bn1
    have HZ := Lib.hid (h2.put2 HR (.bool s) (.slice A2 n2 c2))
    have HB := Lib.hid (below_fill (below_two HW.out bn1) (Nat.le_succ _) (.bool s) (.slice A2 n2 c2))
    have HF := Lib.hid (HR.fill (.bool s) (.slice A2 n2 c2))
    clear d0 d1 e0 e1 f0 f1 bn bn1 HR h2 c0 c1
    go_wp2
    refine bodyPost_ret (results_cell_row rfl _ _ (w.heap.size + 1) 25 #[.bool s, .slice A2 n2 c2] (0, 0) _ rfl HF.out Tryd.underlying25 rfl int_size) rfl ?_
    exact ⟨A2, n2, c2, rfl, ⟨HZ.out, HS.out⟩, HB.out⟩

end

end Go.Proofs.YtgdchljbjnhchaaDoor

/- Two structs of a sign and a slice that two calls answer and that go to two new variables ('x, y := f(..), g(..)'): Go leaves open when the variables are made; whatever the order, both boxes hold the answers. No condition. -/
namespace Go.Proofs.YtgdchljbjnhchaaDoor
open Go.RowKit Limb
set_option linter.unusedVariables false

/-- A new box of the zero struct. -/
abbrev zbox : Obj := .cells #[Value.bool false, Value.slice none 0 0] 25
/-- The box at g holds the zero struct. -/
def ZB (w : World) (g : Nat) : Prop := Row2 w g 25 (.bool false) (.slice none 0 0)

theorem zb1 {w w' : World} (bn : Below (w.alloc zbox).heap.size (w.alloc zbox) w') : ZB w' w.heap.size := (row2_new w _ _ _).below bn
theorem zb1d {w w' : World} (bn : Below (w.alloc zbox).drew.heap.size (w.alloc zbox).drew w') : ZB w' w.heap.size := Row2.below (w := (w.alloc zbox).drew) (row2_new w _ _ _) bn
theorem zb2 {w w' : World} (bn : Below ((w.alloc zbox).alloc zbox).heap.size ((w.alloc zbox).alloc zbox) w') : ZB w' w.heap.size ∧ ZB w' (w.heap.size + 1) := by
  refine ⟨Row2.below (w := (w.alloc zbox).alloc zbox) ((row2_new w _ _ _).below (below_new _ _)) bn, ?_⟩
  have h := Row2.below (row2_new (w.alloc zbox) 25 (.bool false) (.slice none 0 0)) bn
  rw [World.size_alloc] at h
  exact h
theorem zb2d {w w' : World} (bn : Below ((w.alloc zbox).alloc zbox).drew.heap.size ((w.alloc zbox).alloc zbox).drew w') : ZB w' w.heap.size ∧ ZB w' (w.heap.size + 1) := by
  refine ⟨Row2.below (w := ((w.alloc zbox).alloc zbox).drew) (g := w.heap.size) (show Row2 ((w.alloc zbox).alloc zbox) w.heap.size 25 (.bool false) (.slice none 0 0) from (row2_new w _ _ _).below (below_new _ _)) bn, ?_⟩
  have h := Row2.below (w := ((w.alloc zbox).alloc zbox).drew) (g := (w.alloc zbox).heap.size) (row2_new (w.alloc zbox) 25 (.bool false) (.slice none 0 0)) bn
  rw [World.size_alloc] at h
  exact h
theorem ZB.below {w w' : World} {g : Nat} (h : ZB w g) (hb : Below w.heap.size w w') : ZB w' g := Row2.below h hb
theorem ZB.lt {w : World} {g : Nat} (h : ZB w g) : g < w.heap.size := Row2.lt h
theorem ZB.cells {w : World} {g : Nat} (h : ZB w g) : w.cell? ⟨g, 0, none⟩ = some (.bool false) ∧ w.cell? ⟨g, 1, none⟩ = some (.slice none 0 0) ∧ w.frozen? ⟨g, 0, none⟩ = false ∧ w.frozen? ⟨g, 1, none⟩ = false := ⟨h.c0, h.c1, h.free 0, h.free 1⟩

theorem ZB.apart {w : World} {g : Nat} (h : ZB w g) : w.heap.size ≠ g ∧ w.heap.size + 1 ≠ g := by have := h.lt; omega
theorem ZZ.put {w : World} {s : Bool} {A : Option Addr} {n c : Nat} {xs : List Nat} {z : Int} {L g : Nat} (h : ZZ w s A n c xs z L) (hb : ZB w g) (u v : Value) : ZZ ((w.setCell ⟨g, 0, none⟩ u).setCell ⟨g, 1, none⟩ v) s A n c xs z L := ⟨h.nn.put2 hb u v, h.sgn⟩
theorem Row2.far {w : World} {g g' : Nat} {T : TypeId} {u v : Value} (h : Row2 w g' T u v) (hne : g ≠ g') (x y : Value) : Row2 ((w.setCell ⟨g, 0, none⟩ x).setCell ⟨g, 1, none⟩ y) g' T u v := by
  unfold Row2 at h ⊢
  simp only [World.setCell, Array.getElem?_modify]
  rw [if_neg hne, if_neg hne]
  exact h
theorem Row2.filled {w : World} {g : Nat} {T : TypeId} {u v : Value} (h : Row2 w g T u v) (x y : Value) : Row2 ((w.setCell ⟨g, 0, none⟩ x).setCell ⟨g, 1, none⟩ y) g T x y := h.fill x y

section
variable {wP w : World} {q r : Nat} {s : Bool} {A : Option Addr} {n c : Nat} {xs : List Nat} {z : Int} {L : Nat} {s' : Bool} {A' : Option Addr} {n' c' : Nat} {xs' : List Nat} {z' : Int} {L' : Nat}

/-- Both boxes hold the answers. -/
structure Two (wP wx : World) (q r : Nat) (s : Bool) (A : Option Addr) (n c : Nat) (xs : List Nat) (z : Int) (L : Nat) (s' : Bool) (A' : Option Addr) (n' c' : Nat) (xs' : List Nat) (z' : Int) (L' : Nat) : Prop where
  q : Row2 wx q 25 (.bool s) (.slice A n c)
  r : Row2 wx r 25 (.bool s') (.slice A' n' c')
  z : ZZ wx s A n c xs z L
  z' : ZZ wx s' A' n' c' xs' z' L'
  b : Below wP.heap.size wP wx

/-- Both variables were made ahead of the second call. -/
theorem two_pp (hz : ZZ w s A n c xs z L) (hz' : ZZ w s' A' n' c' xs' z' L') (hb : Below wP.heap.size wP w) (h1 : ZB w q) (h2 : ZB w r) (hne : q ≠ r) (hq : wP.heap.size ≤ q) (hr : wP.heap.size ≤ r) :
    Two wP ((((w.setCell ⟨q, 0, none⟩ (.bool s)).setCell ⟨q, 1, none⟩ (.slice A n c)).setCell ⟨r, 0, none⟩ (.bool s')).setCell ⟨r, 1, none⟩ (.slice A' n' c')) q r s A n c xs z L s' A' n' c' xs' z' L' := by
  have h3 : ZB ((w.setCell ⟨q, 0, none⟩ (.bool s)).setCell ⟨q, 1, none⟩ (.slice A n c)) r := Row2.far h2 hne _ _
  exact ⟨(Row2.filled h1 _ _).far (Ne.symm hne) _ _, Row2.filled h3 _ _, (hz.put h1 _ _).put h3 _ _, (hz'.put h1 _ _).put h3 _ _, (((hb.setCell (p := ⟨q, 0, none⟩) hq _).setCell (p := ⟨q, 1, none⟩) hq _).setCell (p := ⟨r, 0, none⟩) hr _).setCell (p := ⟨r, 1, none⟩) hr _⟩
theorem size_set2 (w : World) (q : Nat) (u v : Value) : ((w.setCell ⟨q, 0, none⟩ u).setCell ⟨q, 1, none⟩ v).heap.size = w.heap.size := by simp [World.setCell]
/-- The first one ahead, the second one behind. -/
theorem two_pl (hz : ZZ w s A n c xs z L) (hz' : ZZ w s' A' n' c' xs' z' L') (hb : Below wP.heap.size wP w) (h1 : ZB w q) (hq : wP.heap.size ≤ q) :
    Two wP (((w.setCell ⟨q, 0, none⟩ (.bool s)).setCell ⟨q, 1, none⟩ (.slice A n c)).alloc (.cells #[Value.bool s', Value.slice A' n' c'] 25)) q w.heap.size s A n c xs z L s' A' n' c' xs' z' L' := by
  have b := below_new ((w.setCell ⟨q, 0, none⟩ (.bool s)).setCell ⟨q, 1, none⟩ (.slice A n c)) (.cells #[Value.bool s', Value.slice A' n' c'] 25)
  have h2 := row2_new ((w.setCell ⟨q, 0, none⟩ (.bool s)).setCell ⟨q, 1, none⟩ (.slice A n c)) 25 (.bool s') (.slice A' n' c')
  rw [size_set2] at h2
  exact ⟨(Row2.filled h1 _ _).below b, h2, (hz.put h1 _ _).below b, (hz'.put h1 _ _).below b, below_two ((hb.setCell (p := ⟨q, 0, none⟩) hq _).setCell (p := ⟨q, 1, none⟩) hq _) b⟩
/-- The second one ahead, the first one behind. -/
theorem two_lp (hz : ZZ w s A n c xs z L) (hz' : ZZ w s' A' n' c' xs' z' L') (hb : Below wP.heap.size wP w) (h2 : ZB w r) (hr : wP.heap.size ≤ r) :
    Two wP (((w.setCell ⟨r, 0, none⟩ (.bool s')).setCell ⟨r, 1, none⟩ (.slice A' n' c')).alloc (.cells #[Value.bool s, Value.slice A n c] 25)) w.heap.size r s A n c xs z L s' A' n' c' xs' z' L' := by
  have b := below_new ((w.setCell ⟨r, 0, none⟩ (.bool s')).setCell ⟨r, 1, none⟩ (.slice A' n' c')) (.cells #[Value.bool s, Value.slice A n c] 25)
  have h1 := row2_new ((w.setCell ⟨r, 0, none⟩ (.bool s')).setCell ⟨r, 1, none⟩ (.slice A' n' c')) 25 (.bool s) (.slice A n c)
  rw [size_set2] at h1
  exact ⟨h1, (Row2.filled h2 _ _).below b, (hz.put h2 _ _).below b, (hz'.put h2 _ _).below b, below_two ((hb.setCell (p := ⟨r, 0, none⟩) hr _).setCell (p := ⟨r, 1, none⟩) hr _) b⟩
/-- Both behind. -/
theorem two_ll (hz : ZZ w s A n c xs z L) (hz' : ZZ w s' A' n' c' xs' z' L') (hb : Below wP.heap.size wP w) :
    Two wP ((w.alloc (.cells #[Value.bool s, Value.slice A n c] 25)).alloc (.cells #[Value.bool s', Value.slice A' n' c'] 25)) w.heap.size (w.heap.size + 1) s A n c xs z L s' A' n' c' xs' z' L' := by
  have b1 := below_new w (.cells #[Value.bool s, Value.slice A n c] 25)
  have b2 := below_new (w.alloc (.cells #[Value.bool s, Value.slice A n c] 25)) (.cells #[Value.bool s', Value.slice A' n' c'] 25)
  have h2 := row2_new (w.alloc (.cells #[Value.bool s, Value.slice A n c] 25)) 25 (.bool s') (.slice A' n' c')
  rw [World.size_alloc] at h2
  exact ⟨(row2_new w _ _ _).below b2, h2, (hz.below b1).below b2, (hz'.below b1).below b2, below_two (below_two hb b1) b2⟩
theorem two_ll' (hz : ZZ w s A n c xs z L) (hz' : ZZ w s' A' n' c' xs' z' L') (hb : Below wP.heap.size wP w) :
    Two wP ((w.alloc (.cells #[Value.bool s', Value.slice A' n' c'] 25)).alloc (.cells #[Value.bool s, Value.slice A n c] 25)) (w.heap.size + 1) w.heap.size s A n c xs z L s' A' n' c' xs' z' L' :=
  let h := two_ll hz' hz hb
  ⟨h.r, h.q, h.z', h.z, h.b⟩
end

end Go.Proofs.YtgdchljbjnhchaaDoor

/- What package whole's own helpers answer (signed, isBelow), and strings.CutPrefix of a minus sign, as contracts over memory. Conditions: sizes of at most so many limbs. -/
namespace Go.Proofs.YtgdchljbjnhchaaDoor
open Go.RowKit Limb
set_option linter.unusedVariables false

theorem len_limbs_zero {a : Nat} : (limbs a).length = 0 ↔ a = 0 := by
  constructor
  · intro h
    have h2 := val_limbs a
    rw [List.eq_nil_of_length_eq_zero h] at h2
    exact h2.symm
  · rintro rfl; rw [limbs_zero]; rfl

/-- Two results: a row of cells, and a plain one. -/
theorem results_mixed {P : Program} {fn : Func} {p q : Tmp} {ty : TypeId} (h : fn.results = #[.cell p ty, .tmp q]) (tmps : Array Value) (w : World) (g : Nat) (t : TypeId) (cs : Array Value) (fr : Nat × Nat) (d : TypeDesc) (v : Value)
    (hp : tmps.getD p undef = .pointer (some ⟨g, 0, none⟩)) (hq : tmps.getD q undef = v) (hg : w.heap[g]? = some (.cells cs t fr))
    (hu : P.underlying ty = some d) (hd : (match d with | .struct _ | .array _ _ => true | _ => false) = true) (hi : (P.info? ty).map (·.size) = some cs.size) :
    (results fn tmps).run P w = .ok (.tuple #[.agg cs, v]) w := by
  have hp' : tmps[p]?.getD undef = .pointer (some ⟨g, 0, none⟩) := by simpa using hp
  have hq' : tmps[q]?.getD undef = v := by simpa using hq
  simp [results, h, hp', hq', asAddr, run_loadVar_row w g t ty cs fr d hg hu hd hi]

section
variable {w : World} {s s' : Bool} {A A' : Option Addr} {n c n' c' : Nat} {xs ys : List Nat} {x y : Int} {L L' : Nat}

theorem signed_c {a : Nat} (hx : NN w A n c (limbs a) a L) (b : Bool) (z : Int) (hz : zOf b a = z) :
    Calls Tryd.prog 19 #[.bool b, .slice A n c] w fun e w' => e = .returned (.agg #[.bool (sg z), .slice A n c]) ∧ ZZ w' (sg z) A n c (limbs z.natAbs) z L ∧ Below w.heap.size w w' := by
  have ez : z.natAbs = a := by rw [← hz, zOf_abs]
  have hn : n = 0 ↔ a = 0 := by rw [← hx.isN.len]; exact len_limbs_zero
  have HZ : RowKit.Hid (ZZ w (sg z) A n c (limbs z.natAbs) z L) := ZZ.mk' (by rw [ez]; exact hx)
  clear hx
  by_cases hb : b = true
  · subst hb
    by_cases h0 : a = 0
    · have es : sg z = false := by rw [← hz, h0]; rfl
      obtain rfl : n = 0 := hn.2 h0
      rw [es] at HZ ⊢
      clear es hn ez hz h0
      go_enter Tryd.func19, Tryd.ntmps19
      go_wp2
      refine bodyPost_ret (results_cell_row rfl _ _ w.heap.size 25 #[.bool false, .slice A 0 c] (0, 0) _ rfl (row2_new w _ _ _) Tryd.underlying25 rfl int_size) rfl ?_
      exact ⟨rfl, HZ.out.below (below_new _ _), below_new _ _⟩
    · have es : sg z = true := by
        rw [← hz]; apply sg_neg
        unfold zOf; rw [if_pos rfl]; omega
      have Hp : RowKit.Hid (decide (0 < n) = true) := by
        have : n ≠ 0 := fun h => h0 (hn.1 h)
        show _ = _
        rw [decide_eq_true_eq]; omega
      rw [es] at HZ ⊢
      clear es hn ez hz h0
      go_enter Tryd.func19, Tryd.ntmps19
      go_wp2
      refine bodyPost_ret (results_cell_row rfl _ _ w.heap.size 25 #[.bool (decide (0 < n)), .slice A n c] (0, 0) _ rfl (row2_new w _ _ _) Tryd.underlying25 rfl int_size) rfl ?_
      exact ⟨by rw [Hp.out], HZ.out.below (below_new _ _), below_new _ _⟩
  · have hb2 : b = false := by simpa using hb
    subst hb2
    have es : sg z = false := by rw [← hz]; apply sg_pos; unfold zOf; simp
    rw [es] at HZ ⊢
    clear es hn ez hz hb
    go_enter Tryd.func19, Tryd.ntmps19
    go_wp2
    refine bodyPost_ret (results_cell_row rfl _ _ w.heap.size 25 #[.bool false, .slice A n c] (0, 0) _ rfl (row2_new w _ _ _) Tryd.underlying25 rfl int_size) rfl ?_
    exact ⟨rfl, HZ.out.below (below_new _ _), below_new _ _⟩

theorem isBelow_c (hx : ZZ w s A n c xs x L) (h1 : L ≤ 1000000000) (v : Bool) (hv : sg x = v) :
    Calls Tryd.prog 26 #[.agg #[.bool s, .slice A n c]] w fun e w' => e = .returned (.bool v) ∧ Below w.heap.size w w' := by
  have b1 := below_new w (.cells #[Value.bool s, Value.slice A n c] 25)
  have r1 := row2_new w 25 (.bool s) (.slice A n c)
  have HN := Lib.hid (hx.nn.below b1)
  have HB := Lib.hid b1
  have hc0 := r1.c0
  have hc1 := r1.c1
  have hsg := hx.sgn
  clear b1 r1 hx
  cases s with
  | false =>
    have ev : v = false := by rw [← hv]; apply sg_pos; rw [hsg]; simp
    subst ev
    clear hsg hv
    go_enter Tryd.func26, Tryd.ntmps26
    go_wp2
    go_ret
    exact ⟨rfl, HB.out⟩
  | true =>
    have ev : decide ((0 : Int) < ((blen x.natAbs : Nat) : Int)) = v := by
      rw [← hv]
      unfold sg
      rw [if_pos rfl] at hsg
      rw [decide_eq_decide]
      have h2 : blen x.natAbs = 0 ↔ x.natAbs = 0 := blen_eq_zero
      omega
    obtain ⟨m, hm⟩ : ∃ m, ((blen x.natAbs : Nat) : Int) = m := ⟨_, rfl⟩
    rw [hm] at ev
    have Hm := Lib.hid hm
    clear hsg hv hm
    go_enter Tryd.func26, Tryd.ntmps26
    go_wp2_with fail
    refine (bits_c HN.out h1 m Hm.out).mono ?_
    rintro e w2 ⟨rfl, rfl⟩
    by_cases hp : 0 < m
    · have ev2 : v = true := by rw [← ev]; simp [hp]
      subst ev2
      go_wp2
      go_ret
      exact ⟨rfl, HB.out⟩
    · have ev2 : v = false := by rw [← ev]; simp; omega
      subst ev2
      go_wp2
      go_ret
      exact ⟨rfl, HB.out⟩
end

/-- The first byte of a text is a minus sign; what stands behind it. -/
theorem bytesOf_tail {S : ByteArray} (h : 1 ≤ S.size) : bytesOf (S.extract 1 S.size) = (bytesOf S).tail := by
  unfold bytesOf
  rw [ByteArray.data_extract, Array.toList_extract, List.extract_eq_take_drop, List.map_take, List.map_drop, List.drop_one]
  refine List.take_of_length_le ?_
  rw [List.length_tail, List.length_map, Array.length_toList]
  exact Nat.le_refl _
theorem bytesOf_first {S : ByteArray} : bytesOf (S.extract 0 1) = (bytesOf S).take 1 := by
  unfold bytesOf
  rw [ByteArray.data_extract, Array.toList_extract, List.extract_eq_take_drop, List.map_take, List.map_drop]
  rfl
theorem head_minus (S : ByteArray) : ((S.extract 0 1).toList == (⟨#[45]⟩ : ByteArray).toList) = decide ((bytesOf S).head? = some 45) := by
  have e1 : S.extract 0 1 = strOf ((bytesOf S).take 1) := by rw [← bytesOf_first, strOf_bytesOf]
  have e2 : (⟨#[45]⟩ : ByteArray) = strOf [45] := rfl
  rw [e1, e2, str_beq (bytes_take (bytes_bytesOf S) 1) (bytes_cons.2 ⟨by decide, bytes_nil⟩), decide_eq_decide]
  cases bytesOf S with
  | nil => simp
  | cons x l => simp

theorem hasMinus_c (S : ByteArray) (v : Bool) (hv : decide ((bytesOf S).head? = some 45) = v) (w : World) :
    Calls Tryd.prog 48 #[.string S, .string ⟨#[45]⟩] w fun e w' => e = .returned (.bool v) ∧ w = w' := by
  by_cases h0 : S.size = 0
  · have ev : v = false := by
      rw [← hv, List.eq_nil_of_length_eq_zero ((length_bytesOf S).trans h0)]; rfl
    subst ev
    have h1 : (S.size : Int) < 1 := by omega
    clear hv h0
    go_enter Tryd.func48, Tryd.ntmps48
    go_wp2
    go_ret
    exact ⟨rfl, rfl⟩
  · have h1 : (1 : Int) ≤ (S.size : Int) := by omega
    have h2 : 1 ≤ S.size := by omega
    rw [← head_minus] at hv
    obtain ⟨G, hG⟩ : ∃ G, S.extract 0 1 = G := ⟨_, rfl⟩
    rw [hG] at hv
    have e45 : (⟨#[45]⟩ : ByteArray).toList = [45] := toList_strOf [45]
    rw [e45] at hv
    have HV := Lib.hid hv
    clear h0 hv e45
    go_enter Tryd.func48, Tryd.ntmps48
    go_wp2
    go_ret
    exact ⟨by show Ending.returned (Value.bool (G.toList == [45])) = _; rw [HV.out], rfl⟩

theorem cutLite_yes (S : ByteArray) (h : (bytesOf S).head? = some 45) (w : World) :
    Calls Tryd.prog 40 #[.string S, .string ⟨#[45]⟩] w fun e w' => ∃ R : ByteArray, e = .returned (.tuple #[.string R, .bool true]) ∧ bytesOf R = (bytesOf S).tail ∧ w = w' := by
  have h0 : S.size ≠ 0 := by
    intro h0
    rw [List.eq_nil_of_length_eq_zero ((length_bytesOf S).trans h0)] at h
    cases h
  have h1 : (1 : Int) ≤ (S.size : Int) := by omega
  have h2 : 1 ≤ S.size := by omega
  have HT := Lib.hid (bytesOf_tail h2)
  have HC := Lib.hid (hasMinus_c S true (by rw [h]; rfl) w)
  obtain ⟨R, hR⟩ : ∃ R, S.extract 1 S.size = R := ⟨_, rfl⟩
  rw [hR] at HT
  clear h h0
  go_enter Tryd.func40, Tryd.ntmps40
  go_wp2_with fail
  refine HC.out.mono ?_
  rintro e w2 ⟨rfl, rfl⟩
  go_wp2
  go_ret2
  exact ⟨R, rfl, HT.out, rfl⟩
theorem cutLite_no (S : ByteArray) (h : (bytesOf S).head? ≠ some 45) (w : World) :
    Calls Tryd.prog 40 #[.string S, .string ⟨#[45]⟩] w fun e w' => e = .returned (.tuple #[.string S, .bool false]) ∧ w = w' := by
  have HC := Lib.hid (hasMinus_c S false (by simpa using h) w)
  clear h
  go_enter Tryd.func40, Tryd.ntmps40
  go_wp2_with fail
  refine HC.out.mono ?_
  rintro e w2 ⟨rfl, rfl⟩
  go_wp2
  go_ret2
  exact ⟨rfl, rfl⟩
theorem cutMinus_yes (S : ByteArray) (h : (bytesOf S).head? = some 45) (w : World) :
    Calls Tryd.prog 28 #[.string S, .string ⟨#[45]⟩] w fun e w' => ∃ R : ByteArray, e = .returned (.tuple #[.string R, .bool true]) ∧ bytesOf R = (bytesOf S).tail ∧ w = w' := by
  have HC := Lib.hid (cutLite_yes S h w)
  clear h
  go_enter Tryd.func28, Tryd.ntmps28
  go_wp2_with fail
  refine HC.out.mono ?_
  rintro e w2 ⟨R, rfl, hR, rfl⟩
  have HR := Lib.hid hR
  clear hR
  go_wp2
  go_ret2
  exact ⟨R, rfl, HR.out, rfl⟩
theorem cutMinus_no (S : ByteArray) (h : (bytesOf S).head? ≠ some 45) (w : World) :
    Calls Tryd.prog 28 #[.string S, .string ⟨#[45]⟩] w fun e w' => e = .returned (.tuple #[.string S, .bool false]) ∧ w = w' := by
  have HC := Lib.hid (cutLite_no S h w)
  clear h
  go_enter Tryd.func28, Tryd.ntmps28
  go_wp2_with fail
  refine HC.out.mono ?_
  rintro e w2 ⟨rfl, rfl⟩
  go_wp2
  go_ret2
  exact ⟨rfl, rfl⟩
end Go.Proofs.YtgdchljbjnhchaaDoor

/- Plain mathematics of decimal digits nine by nine: groups of nine, their digits, noughts ahead; what package digits keeps in its table. No condition. -/
namespace Go.Proofs.YtgdchljbjnhchaaDoor.Limb

/-- The last k decimal digits of v, noughts ahead too. -/
def pad : Nat → Nat → List Nat
  | 0, _ => []
  | k + 1, v => pad k (v / 10) ++ [48 + v % 10]
theorem pad_len (k v : Nat) : (pad k v).length = k := by
  induction k generalizing v with
  | zero => rfl
  | succ k ih => rw [pad, List.length_append, ih]; rfl
theorem pad_dig (k v : Nat) : allDig (pad k v) = true := by
  induction k generalizing v with
  | zero => rfl
  | succ k ih => rw [pad, allDig_append, ih]; exact allDig_iff.2 fun x hx => by simp at hx; omega
theorem pad_val (k v : Nat) : decV (pad k v) = v % 10 ^ k := by
  induction k generalizing v with
  | zero => rw [pad, decV_nil, Nat.pow_zero, Nat.mod_one]
  | succ k ih =>
    rw [pad, decV_snoc, ih, Nat.add_sub_cancel_left, Nat.pow_succ, Nat.mul_comm (10 ^ k) 10, Nat.mod_mul]
    omega
theorem pad_step (k p v : Nat) : pad (k + 1) (v / 10 ^ p) = pad k (v / 10 ^ (p + 1)) ++ [48 + v / 10 ^ p % 10] := by
  rw [pad, Nat.div_div_eq_div_mul, ← Nat.pow_succ]

/-- The number that groups of nine digits tell, the lowest first. -/
def gval : List Nat → Nat
  | [] => 0
  | g :: r => gval r * 1000000000 + g
/-- Their digits, the highest first. -/
def flat : List Nat → List Nat
  | [] => []
  | g :: r => flat r ++ pad 9 g
theorem gval_snoc (l : List Nat) (x : Nat) : gval (l ++ [x]) = gval l + x * 1000000000 ^ l.length := by
  induction l with
  | nil => simp [gval]
  | cons g r ih =>
    rw [List.cons_append, gval, ih, gval, List.length_cons, Nat.pow_succ, Nat.add_mul, Nat.mul_assoc]
    omega
theorem flat_dig (l : List Nat) : allDig (flat l) = true := by
  induction l with
  | nil => rfl
  | cons g r ih => rw [flat, allDig_append, ih, pad_dig]; rfl
theorem flat_len (l : List Nat) : (flat l).length = 9 * l.length := by
  induction l with
  | nil => rfl
  | cons g r ih => rw [flat, List.length_append, ih, pad_len, List.length_cons]; omega
theorem flat_val (l : List Nat) (h : ∀ x ∈ l, x < 1000000000) : decV (flat l) = gval l := by
  induction l with
  | nil => rfl
  | cons g r ih =>
    rw [flat, decV_append, ih (fun x hx => h x (by simp [hx])), pad_val, pad_len, gval]
    have := h g (by simp)
    rw [show (10 : Nat) ^ 9 = 1000000000 from rfl, Nat.mod_eq_of_lt this]

/-- Without noughts ahead. -/
def bare (l : List Nat) : List Nat := l.dropWhile (· == 48)
theorem bare_dig {l : List Nat} (h : allDig l = true) : allDig (bare l) = true := allDig_iff.2 fun x hx => allDig_iff.1 h x ((List.dropWhile_sublist _).mem hx)
theorem bare_val (l : List Nat) : decV (bare l) = decV l := by
  induction l with
  | nil => rfl
  | cons x r ih =>
    unfold bare at ih ⊢
    by_cases hx : x = 48
    · subst hx; rw [List.dropWhile_cons_of_pos (by simp), ih, decV_cons]; simp
    · rw [List.dropWhile_cons_of_neg (by simp; exact hx)]
theorem bare_head (l : List Nat) (h : bare l ≠ []) : lim (bare l) 0 ≠ 48 := by
  induction l with
  | nil => exact absurd rfl h
  | cons x r ih =>
    unfold bare at ih h ⊢
    by_cases hx : x = 48
    · subst hx
      rw [List.dropWhile_cons_of_pos (by simp)] at h ⊢
      exact ih h
    · rw [List.dropWhile_cons_of_neg (by simp; exact hx)]; simpa [lim] using hx
theorem bare_nil {l : List Nat} (h : allDig l = true) : bare l = [] ↔ decV l = 0 := by
  constructor
  · intro e; rw [← bare_val, e]; rfl
  · intro e
    rcases Classical.em (bare l = []) with h0 | h0
    · exact h0
    · have := pow_le_of_head (bare_dig h) h0 (bare_head l h0)
      rw [bare_val, e] at this
      have : 0 < 10 ^ ((bare l).length - 1) := Nat.pow_pos (by decide)
      omega
theorem bare_dec {l : List Nat} (h : allDig l = true) (h0 : bare l ≠ []) : bare l = decT (decV l) := (decT_eq (bare_dig h) h0 (bare_head l h0) (bare_val l)).symm

/-- The first k bytes are noughts. -/
def Lead (l : List Nat) (k : Nat) : Prop := k ≤ l.length ∧ bare l = bare (l.drop k)
theorem Lead.start (l : List Nat) : Lead l 0 := ⟨Nat.zero_le _, rfl⟩
theorem Lead.step {l : List Nat} {k : Nat} (h : Lead l k) (hk : k < l.length) (h48 : lim l k = 48) : Lead l (k + 1) := by
  refine ⟨hk, ?_⟩
  have e : l[k] = 48 := by rw [← h48]; simp [lim, List.getD_eq_getElem?_getD, List.getElem?_eq_getElem hk]
  rw [h.2, List.drop_eq_getElem_cons hk, e]
  rfl
theorem Lead.done {l : List Nat} {k : Nat} (h : Lead l k) (hk : k < l.length) (h48 : lim l k ≠ 48) : bare l = l.drop k := by
  have e : l[k] ≠ 48 := by
    intro e; apply h48; rw [← e]; simp [lim, List.getD_eq_getElem?_getD, List.getElem?_eq_getElem hk]
  rw [h.2, List.drop_eq_getElem_cons hk, bare, List.dropWhile_cons_of_neg (by simp; exact e)]
theorem Lead.all {l : List Nat} {k : Nat} (h : Lead l k) (hk : k = l.length) : bare l = [] := by
  rw [h.2, hk, List.drop_length]; rfl

/-- Groups so far, and the number that is left. -/
def GInv (a : Nat) (gs : List Nat) (m : Nat) : Prop := a = m * 1000000000 ^ gs.length + gval gs ∧ (∀ x ∈ gs, x < 1000000000) ∧ (gs.length ≤ 1 ∨ 1000000000 ^ (gs.length - 1) ≤ a)
theorem GInv.start (a : Nat) : GInv a [] a := ⟨by simp [gval], by simp, .inl (by simp)⟩
theorem GInv.step {a m : Nat} {gs : List Nat} (h : GInv a gs m) (h0 : m ≠ 0 ∨ gs = []) : GInv a (gs ++ [m % 1000000000]) (m / 1000000000) := by
  obtain ⟨h1, h2, h3⟩ := h
  refine ⟨?_, ?_, ?_⟩
  · rw [gval_snoc, List.length_append, List.length_singleton, Nat.pow_succ]
    have e := Nat.div_add_mod m 1000000000
    generalize m / 1000000000 = q at *
    generalize m % 1000000000 = r at *
    generalize 1000000000 ^ gs.length = p at *
    subst e
    rw [h1]
    grind
  · intro x hx
    rcases List.mem_append.1 hx with h | h
    · exact h2 x h
    · simp at h; omega
  · rw [List.length_append, List.length_singleton, Nat.add_sub_cancel]
    rcases h0 with h0 | h0
    · right
      have : 1 * 1000000000 ^ gs.length ≤ m * 1000000000 ^ gs.length := Nat.mul_le_mul_right _ (by omega)
      omega
    · left; subst h0; simp
theorem GInv.done {a : Nat} {gs : List Nat} (h : GInv a gs 0) : gval gs = a := by have := h.1; omega
theorem GInv.len {a m L : Nat} {gs : List Nat} (h : GInv a gs m) (hl : a < 4294967296 ^ L) : gs.length ≤ 2 * L + 1 := by
  rcases h.2.2 with h1 | h1
  · omega
  · have h2 : 1000000000 ^ (gs.length - 1) < 10 ^ (10 * L) := Nat.lt_of_le_of_lt h1 (Nat.lt_of_lt_of_le hl pow_digits)
    rw [show (1000000000 : Nat) = 10 ^ 9 from rfl, ← Nat.pow_mul] at h2
    have := (Nat.pow_lt_pow_iff_right (a := 10) (by decide)).1 h2
    omega

theorem PInv.group {l : List Nat} {i t m : Nat} (h : PInv l i t) (hm : i + m ≤ l.length) (hd : allDig ((l.drop i).take m) = true) : PInv l (i + m) (t * 10 ^ m + decV ((l.drop i).take m)) := by
  have e : l.take (i + m) = l.take i ++ (l.drop i).take m := by rw [List.take_add]
  have hl : ((l.drop i).take m).length = m := by rw [List.length_take, List.length_drop]; omega
  refine ⟨by rw [e, allDig_append, h.1, hd]; rfl, by rw [e, decV_append, h.2, hl]⟩

/-- What the library's reader makes of bytes that are too few to overflow. -/
theorem parseM_few (M : Nat) (hM : M ≤ 4294967295) : ∀ (l : List UInt8) (acc : Nat), acc * 10 ^ l.length + 10 ^ l.length ≤ M + 1 →
    Lib.parseUintM M acc l = if allDig (l.map UInt8.toNat) = true then Lib.NumEnd.ok (acc * 10 ^ l.length + decV (l.map UInt8.toNat)) else Lib.NumEnd.syntax
  | [], acc, _ => by
    rw [Lib.parseUintM, if_pos (by rfl)]
    simp [decV_nil]
  | c :: r, acc, h => by
    rw [List.length_cons, Nat.pow_succ] at h
    have h1 : 0 < 10 ^ r.length := Nat.pow_pos (by decide)
    rw [Lib.parseUintM]
    by_cases hd : 48 ≤ c.toNat ∧ c.toNat ≤ 57
    · rw [if_pos hd]
      have h2 : (acc * 10 + (c.toNat - 48)) * 10 ^ r.length + 10 ^ r.length ≤ M + 1 := by
        have h3 := Nat.mul_le_mul_right (10 ^ r.length) (show acc * 10 + (c.toNat - 48) + 1 ≤ acc * 10 + 10 by omega)
        rw [Nat.add_mul, Nat.one_mul] at h3
        have e : (acc * 10 + 10) * 10 ^ r.length = acc * (10 ^ r.length * 10) + 10 ^ r.length * 10 := by grind
        omega
      have h4 : acc * 10 + (c.toNat - 48) ≤ (acc * 10 + (c.toNat - 48)) * 10 ^ r.length := Nat.le_mul_of_pos_right _ h1
      rw [if_neg (by omega), if_neg (by omega), parseM_few M hM r _ h2, List.map_cons]
      have ed : allDig (c.toNat :: r.map UInt8.toNat) = allDig (r.map UInt8.toNat) := by simp [allDig, isDig, hd.1, hd.2]
      have ev : acc * 10 ^ (c :: r).length + decV (c.toNat :: r.map UInt8.toNat) = (acc * 10 + (c.toNat - 48)) * 10 ^ r.length + decV (r.map UInt8.toNat) := by
        rw [decV_cons, List.length_cons, Nat.pow_succ, List.length_map]
        grind
      rw [ed, ev]
    · rw [if_neg hd, List.map_cons]
      have ed : allDig (c.toNat :: r.map UInt8.toNat) = false := by
        simp [allDig, isDig]
        intro h5 h6
        omega
      rw [ed, if_neg (by decide)]

/-- At most nine bytes, and one at least: the number, or a fault. -/
theorem parseB_yes {l : List UInt8} (h0 : l ≠ []) (h9 : l.length ≤ 9) (h : allDig (l.map UInt8.toNat) = true) : Lib.parseUintB 32 l = .ok (decV (l.map UInt8.toNat)) := by
  have hp : 10 ^ l.length ≤ 10 ^ 9 := Nat.pow_le_pow_right (by decide) h9
  rw [Lib.parseUintB, if_neg h0, parseM_few _ (by decide) l 0 (by rw [Nat.zero_mul, Nat.zero_add]; exact Nat.le_trans hp (by decide)), if_pos h, Nat.zero_mul, Nat.zero_add]
theorem parseB_no {l : List UInt8} (h9 : l.length ≤ 9) (h : allDig (l.map UInt8.toNat) = false) : Lib.parseUintB 32 l = Lib.NumEnd.syntax := by
  have hp : 10 ^ l.length ≤ 10 ^ 9 := Nat.pow_le_pow_right (by decide) h9
  rw [Lib.parseUintB]
  split
  · rfl
  · rw [parseM_few _ (by decide) l 0 (by rw [Nat.zero_mul, Nat.zero_add]; exact Nat.le_trans hp (by decide)), if_neg (by rw [h]; decide)]

end Go.Proofs.YtgdchljbjnhchaaDoor.Limb

/- What math/bits' Div32 and package quo's Small answer, as contracts over memory: quotient and rest by one limb. Conditions: the list reads as limbs, of at most 10^8 of them; the high word is below the divisor. -/
namespace Go.Proofs.YtgdchljbjnhchaaDoor
open Go.RowKit Limb
set_option linter.unusedVariables false

theorem or_hi32 (x y : Nat) (hx : x < 4294967296) (hy : y < 4294967296) : bits BinOp.or IntKind.u64 ((x : Int) * 4294967296) (y : Int) = ((x * 4294967296 + y : Nat) : Int) := by
  have e1 : (x : Int) * 4294967296 = ((x * 4294967296 : Nat) : Int) := by omega
  rw [e1, u64_or_nat _ _ (by omega) (by omega), Nat.mul_comm x, show (4294967296 : Nat) = 2 ^ 32 from rfl, Nat.two_pow_add_eq_or_of_lt (by omega)]

set_option maxHeartbeats 400000 in
theorem div32_nat (x y v : Nat) (w : World) (hx : x < v) (hy : y < 4294967296) (hv : v < 4294967296) :
    Calls Tryd.prog 63 #[.int .u32 (x : Int), .int .u32 (y : Int), .int .u32 (v : Int)] w fun e w' => e = .returned (.tuple #[.int .u32 (((x * 4294967296 + y) / v : Nat) : Int), .int .u32 (((x * 4294967296 + y) % v : Nat) : Int)]) ∧ ∃ n, w' = w.drewN n := by
  have hz := one_digit hx hy
  have hm : (x * 4294967296 + y) % v < v := Nat.mod_lt _ (by omega)
  have hs : bits BinOp.or IntKind.u64 ((x : Int) * 4294967296) (y : Int) = ((x * 4294967296 + y : Nat) : Int) := or_hi32 x y (by omega) hy
  obtain ⟨z, hzz⟩ : ∃ z, z = x * 4294967296 + y := ⟨_, rfl⟩
  have hzl : z < 18446744073709551616 := by omega
  rw [← hzz] at hz hm hs ⊢
  obtain ⟨q, hq⟩ : ∃ q, q = z / v := ⟨_, rfl⟩
  obtain ⟨m, hm2⟩ : ∃ m, m = z % v := ⟨_, rfl⟩
  have eq1 : (z : Int) / (v : Int) = (q : Int) := by rw [hq]; simp
  have em1 : (z : Int) % (v : Int) = (m : Int) := by rw [hm2]; simp
  rw [← hq] at hz ⊢
  rw [← hm2] at hm ⊢
  have hv0 : ((v : Int) != 0) = true := by simp; omega
  have hv1 : ((v : Int) == 0) = false := by simp; omega
  clear hzz hq hm2
  go_enter Tryd.func63, Tryd.ntmps63
  go_wp2
  go_quiet (fail)
  go_wp2
  go_ret2
  exact ⟨rfl, _, rfl⟩

theorem ret_small {A : Option Addr} {n c r s : Nat} (h : r = s) : Ending.returned (.tuple #[.slice A n c, .int .u32 ((r : Nat) : Int), .bool true]) = .returned (.tuple #[.slice A n c, .int .u32 ((s : Nat) : Int), .bool true]) := by rw [h]

set_option maxHeartbeats 1000000 in
theorem quoSmall_o {A : Option Addr} {n c : Nat} {xs : List Nat} {a L : Nat} {w : World} (hx : NN w A n c xs a L) (h1 : L ≤ 100000) (v : Nat) (V : Int) (hV : V = v) (hv : v < 4294967296) (h0 : v ≠ 0) :
    Calls Tryd.prog 52 #[.slice A n c, .int .u32 V] w fun e w' => ∃ A1 n1 c1, e = .returned (.tuple #[.slice A1 n1 c1, .int .u32 ((a % v : Nat) : Int), .bool true]) ∧ OwnN w' w.heap.size A1 n1 c1 (limbs (a / v)) ∧ Below w.heap.size w w' := by
  subst hV
  have hv0 : ((v : Int) == 0) = false := by simp; omega
  have hle := hx.le
  have Hval := Lib.hid hx.val
  have Hlt := Lib.hid (lt_pow hx)
  have hT := trim_any A n c xs w hx.isN hx.cap (by omega)
  have hlt := trim_len_le xs
  have hl := hx.isN.len
  have hsm : Small (trim xs) := by rw [trim_eq_limbs hx.isN.small]; exact small_limbs _
  have Hvt : RowKit.Hid (val (trim xs) = a) := by show _ = _; rw [trim_eq_limbs hx.isN.small, val_limbs, Hval.out]
  have hlen : (trim xs).length ≤ 100000 := by omega
  clear hl hlt hx hle Hval
  go_enter Tryd.func52, Tryd.ntmps52
  go_wp2_with fail
  refine hT.mono ?_
  rintro e w1 ⟨A1, n1, c1, rfl, how, hb⟩
  generalize trim xs = ys at *
  have hyl := how.len
  subst hyl
  have How := Lib.hid how
  have Hb := Lib.hid hb
  have hi0 := Lib.hid (OneInv.start ys h0)
  clear how hb hT
  go_wp2
  go_loopw [7, 5] (fun i rv wr => ∃ (k r : Nat) (zs : List Nat), k ≤ ys.length ∧ i = .int .i64 ((k : Int) - 1) ∧ rv = .int .u32 (r : Int) ∧ RowKit.Hid (OneInv ys zs v k r) ∧ RowKit.Hid (OwnN wr w.heap.size A1 ys.length c1 zs) ∧ RowKit.Hid (Below w.heap.size w wr)) (fun i _ _ => (intOf i + 1).toNat)
  case atStart => exact ⟨ys.length, 0, ys, Nat.le_refl _, rfl, rfl, hi0, How, Hb⟩
  case round =>
    clear hi0 How Hb
    obtain ⟨k, r, zs, hk, rfl, rfl, Hinv, How, Hb⟩ := hrel
    by_cases hk0 : k = 0
    · subst hk0
      have hd := Hinv.out.done
      have Hd1 : RowKit.Hid (val zs = a / v) := by show _ = _; rw [hd.1, Hvt.out]
      have hr2 : r = a % v := by rw [hd.2, Hvt.out]
      have Hr := Lib.hid hr2
      have hz := How.out.isN
      have hcap := How.out.caps
      have hsz := How.out.small
      clear hd hr2
      go_wp2_with fail
      refine (trim_any A1 ys.length c1 zs _ hz hcap.1 (by omega)).mono ?_
      rintro e w2 ⟨A2, n2, c2, rfl, how2, hb2⟩
      rw [trim_eq_limbs hsz, Hd1.out] at how2
      have HN := Lib.hid (how2.mono Hb.out.size)
      have HW := Lib.hid (below_two Hb.out hb2)
      clear how2 hb2 hz hcap hsz Hinv How Hb
      go_wp2
      go_ret3
      exact ⟨_, _, _, ret_small Hr.out, HN.out, HW.out⟩
    · obtain ⟨j, rfl⟩ : ∃ j, k = j + 1 := ⟨k - 1, by omega⟩
      have ej : ((j + 1 : Nat) : Int) - 1 = (j : Int) := by omega
      rw [ej]
      obtain ⟨g, rfl, hBg, hgl⟩ := How.out.addr (by omega)
      have h2 := How.out.cell (k := j) (by omega)
      have hr := Hinv.out.2.2.2
      have hz := lim_lt How.out.small j
      clear ej
      go_wp2_with fail
      refine (div32_nat r (lim zs j) v _ hr hz hv).mono ?_
      rintro e w2 ⟨rfl, nd, rfl⟩
      have how2 := How.out.below (below_drewN (Below.refl _ _) nd) (Nat.le_refl _)
      have hb2 := below_drewN Hb.out nd
      have hdl := one_digit hr hz
      have Hst := Lib.hid (Hinv.out.step (k := j) (by omega))
      generalize wr.drewN nd = w2 at *
      obtain ⟨q, hq⟩ : ∃ q, q = (r * 4294967296 + lim zs j) / v := ⟨_, rfl⟩
      obtain ⟨m, hm⟩ : ∃ m, m = (r * 4294967296 + lim zs j) % v := ⟨_, rfl⟩
      rw [← hq] at hdl Hst ⊢
      rw [← hm] at Hst ⊢
      have h3 := how2.cell (k := j) (by omega)
      have h4 := how2.1.frozenAt j
      have Hset := Lib.hid (how2.set j hdl)
      have Hb2 : RowKit.Hid (Below w.heap.size w (w2.setCell ⟨g, j, none⟩ (.int .u32 (q : Int)))) := hb2.setCell (by exact hBg) _
      clear hq hm How Hb Hinv how2 hb2 h2 hz
      go_wp2
      go_roundw
      case rel => exact ⟨j, m, zs.set j q, by omega, by go_num, rfl, Hst, Hset, Hb2⟩
      case measure => simp [intOf] <;> omega

theorem quoSmall_yes {A : Option Addr} {n c : Nat} {xs : List Nat} {a L : Nat} {w : World} (hx : NN w A n c xs a L) (h1 : L ≤ 100000) (v : Nat) (V : Int) (hV : V = v) (hv : v < 4294967296) (h0 : v ≠ 0) :
    Calls Tryd.prog 52 #[.slice A n c, .int .u32 V] w fun e w' => ∃ A1 n1 c1, e = .returned (.tuple #[.slice A1 n1 c1, .int .u32 ((a % v : Nat) : Int), .bool true]) ∧ NN w' A1 n1 c1 (limbs (a / v)) (a / v) L ∧ Below w.heap.size w w' := by
  have Hlt := Lib.hid (lt_pow hx)
  refine (quoSmall_o hx h1 v V hV hv h0).mono ?_
  rintro e w' ⟨A1, n1, c1, rfl, how, hb⟩
  exact ⟨A1, n1, c1, rfl, NN.own how (Nat.lt_of_le_of_lt (Nat.div_le_self _ _) Hlt.out), hb⟩

theorem quoSmall_no {A : Option Addr} {n c : Nat} {xs : List Nat} {a L : Nat} {w : World} (hx : NN w A n c xs a L) (h1 : L ≤ 100000) (V : Int) (hV : V = 0) :
    Calls Tryd.prog 52 #[.slice A n c, .int .u32 V] w fun e w' => ∃ A1 c1, e = .returned (.tuple #[.slice A1 0 c1, .int .u32 0, .bool false]) ∧ Below w.heap.size w w' := by
  subst hV
  go_enter Tryd.func52, Tryd.ntmps52
  go_wp2
  go_ret3
  exact ⟨none, 0, rfl, Below.refl _ _⟩

end Go.Proofs.YtgdchljbjnhchaaDoor

/- What package digits' groups and appendGroup answer, as contracts over memory, where its table of powers of ten reads as it is laid. Condition: the table (Tab), at most 10000 limbs. -/
namespace Go.Proofs.YtgdchljbjnhchaaDoor
open Go.RowKit Limb
set_option linter.unusedVariables false

/-- The table of powers of ten reads as it is laid; the sentinel of strconv is an error. -/
def Tab (w : World) : Prop := (∀ i, i < 10 → w.cell? ⟨0, i, none⟩ = some (.int .u32 ((10 ^ i : Nat) : Int))) ∧ ∃ te pe, w.cell? ⟨1, 0, none⟩ = some (.iface te pe)
theorem Tab.below {w w' : World} (h : Tab w) (hb : Below w.heap.size w w') : Tab w' := by
  obtain ⟨h1, te, pe, h2⟩ := h
  exact ⟨fun i hi => (hb.cell (p := ⟨0, i, none⟩) (Lib.lt_of_cell (h1 i hi))).trans (h1 i hi), te, pe, (hb.cell (p := ⟨1, 0, none⟩) (Lib.lt_of_cell h2)).trans h2⟩
theorem Tab.lt {w : World} (h : Tab w) : 0 < w.heap.size := Lib.lt_of_cell (h.1 0 (by decide))

/-- How long a slice is. -/
def lenOf (v : Value) : Nat := match v with
  | .slice _ n _ => n
  | _ => 0

/-- append of one limb to a row of the call's own, nil too: the literal of one limb lies in a new block. -/
theorem wpList_append_word {w : World} {ops : Array Oper} {rest : List Oper} {o : Oper} {a : Act} {Q : Exit → Act → World → Prop} (hgd : o.guard = none) (s x : Operand)
    (ho : o.op = .call { callee := .builtin .append, args := #[s, x], argTypes := #[22, 22] })
    (base : Nat) (v : Value) (n : Nat) (xs : List Nat) (hs : a.eval s = v) (hown : Hid (w.ownsRow base 37 1 v n (xs.map limV)))
    (g : Nat) (hx : a.eval x = .slice (some ⟨g, 0, none⟩) 1 1) (y : Nat) (hy : Hid (w.cell? ⟨g, 0, none⟩ = some (.int .u32 (y : Int)) ∧ y < 4294967296)) (hb : Hid (n ≤ 1000000000 ∧ base ≤ w.heap.size ∧ Small xs))
    (h : ∀ A2 c2 w', Hid (OwnN w' base A2 (n + 1) c2 (xs ++ [y])) → Hid (w.grownBy w' v.ownBlock) → wpList Tryd.prog ops Q rest (a.put o.dst (.slice A2 (n + 1) c2)) w') : wpList Tryd.prog ops Q (o :: rest) a w := by
  obtain ⟨i0, hi, hz0, hz1, hz2⟩ := info_parts u32_info
  obtain ⟨h1, h3, h4⟩ := hb.out
  refine wpList_append_read hgd s x 22 ho base 37 i0 (.int .u32 0) 4 Tryd.underlying22 hi hz0 hz1 hz2 rfl v n (xs.map limV) hs hown.out (some ⟨g, 0, none⟩) 1 1 ([y].map limV) hx rfl ?_ (oneCell_u32 [y]) (by unfold maxLen; omega) (by omega) h3 ?_
  · intro _
    refine ⟨_, rfl, fun j u hu => ?_⟩
    obtain ⟨hj, rfl⟩ := map_u32_get hu
    obtain rfl : j = 0 := by simpa using hj
    have e : (⟨g, 0, none⟩ : Addr).add 0 = ⟨g, 0, none⟩ := by unfold Addr.add; split <;> simp_all
    rw [e]
    exact hy.out.1
  · intro v' w' hown' hg
    rw [← List.map_append] at hown'
    obtain ⟨A2, c2, rfl, how⟩ := shape_own hown' (small_append.2 ⟨h4, by intro z hz; simp at hz; subst hz; exact hy.out.2⟩)
    exact h A2 c2 w' how hg

/-- What an append to a row of limbs of the call's own leaves of what was there before the call. -/
theorem below_grownN {w0 w w' : World} {A : Option Addr} {n c : Nat} {zs : List Nat} {o : Obj} (hb : Below w0.heap.size w0 w) (how : OwnN w w0.heap.size A n c zs) (hg : (w.alloc o).grownBy w' (Value.ownBlock (.slice A n c))) : Below w0.heap.size w0 w' :=
  (hb.alloc hb.size o).grown hg (by have := hb.size; simp; omega) (fun k hk => (how.1.lt k hk).1)
/-- .. of what lay below a bound. -/
theorem below_grownC {C : Nat} {w0 w w' : World} {A : Option Addr} {n c : Nat} {zs : List Nat} {o : Obj} (hb : Below C w0 w) (hC : C ≤ w.heap.size) (how : OwnB w C A n c zs) (hg : (w.alloc o).grownBy w' (Value.ownBlock (.slice A n c))) : Below C w0 w' :=
  (hb.alloc hC o).grown hg (by simp; omega) (fun k hk => (how.1.lt k hk).1)
/-- .. of whatever is no cells. -/
theorem others_grownB {w0 w w' : World} {B : Nat} {A : Option Addr} {n c : Nat} {zs : List Nat} {o : Obj} (hk : KeepsOthers w0 w) (how : OwnB w B A n c zs) (hg : (w.alloc o).grownBy w' (Value.ownBlock (.slice A n c))) : KeepsOthers w0 w' := by
  refine hk.trans ((KeepsOthers.alloc w o).trans (KeepsOthers.of_grownBy hg fun j ob e ho => ?_))
  have hlt := (how.1.lt j e).2
  rcases how.1.2 with ⟨hv, _⟩ | ⟨g, cap, cur, hv, hB, hh, _⟩
  · injection hv with hA; subst hA; cases e
  · injection hv with hA; subst hA
    injection e with e; subst e
    have h2 := (Below.heap_alloc w o g (Array.getElem?_eq_some_iff.1 hh).1).trans hh
    rw [h2] at ho
    injection ho with ho; subst ho; rfl

set_option maxHeartbeats 2000000 in
set_option maxRecDepth 4000 in
/-- appendGroup: nine digits behind the row. -/
theorem appendGroup_c {w : World} {B : Nat} {A : Option Addr} {n c : Nat} {zs : List Nat} (T : Tab w) (hB : OwnB w B A n c zs) (hBw : B ≤ w.heap.size) (h0 : 0 < B) (hn : n ≤ 900000000) (v : Nat) (hv : v < 1000000000) :
    Calls Tryd.prog 46 #[.slice A n c, .int .u32 (v : Int)] w fun e w' => ∃ A2 c2, e = .returned (.slice A2 (n + 9) c2) ∧ OwnB w' B A2 (n + 9) c2 (zs ++ pad 9 v) ∧ Below B w w' ∧ KeepsOthers w w' := by
  have HT := Lib.hid T
  have HB := Lib.hid hB
  have HK := Lib.hid (KeepsOthers.refl w)
  have HW := Lib.hid (Below.refl B w)
  have HC := Lib.hid hBw
  have H0 := Lib.hid h0
  have HP : RowKit.Hid (zs ++ pad 0 (v / 10 ^ 9) = zs) := by show _ = _; simp [pad]
  clear T hB hBw h0
  go_enter Tryd.func46, Tryd.ntmps46
  go_wp2
  go_loopw [5, 0] (fun pv tv wr => ∃ (j : Nat) (A2 : Option Addr) (c2 : Nat), j ≤ 9 ∧ pv = .int .i64 (8 - (j : Int)) ∧ tv = .slice A2 (n + j) c2 ∧ RowKit.Hid (OwnB wr B A2 (n + j) c2 (zs ++ pad j (v / 10 ^ (9 - j)))) ∧ RowKit.Hid (Below B w wr) ∧ RowKit.Hid (KeepsOthers w wr)) (fun pv _ _ => (intOf pv + 1).toNat)
  case atStart => exact ⟨0, A, c, by decide, rfl, rfl, by show OwnB _ _ _ _ _ _; rw [show 9 - 0 = 9 from rfl, HP.out]; exact HB.out, HW, HK⟩
  case round =>
    clear HB HW HK HP
    obtain ⟨j, A2, c2, hj, rfl, rfl, HB, HW, HK⟩ := hrel
    by_cases h9 : j = 9
    · subst h9
      go_wp2
      go_ret
      exact ⟨A2, c2, rfl, by have := HB.out; rwa [show 9 - 9 = 0 from rfl, Nat.pow_zero, Nat.div_one] at this, HW.out, HK.out⟩
    · obtain ⟨p, hp⟩ : ∃ p, j + p = 8 := ⟨8 - j, by omega⟩
      have ep : (8 : Int) - (j : Int) = (p : Int) := by omega
      have hp9 : p < 10 := by omega
      have hcell : wr.cell? ⟨0, p, none⟩ = some (.int .u32 ((10 ^ p : Nat) : Int)) := (HW.out.cell (p := ⟨0, p, none⟩) H0.out).trans (HT.out.1 p hp9)
      have Hst := pad_step j p v
      rw [show p + 1 = 9 - j by omega] at Hst
      obtain ⟨q, hq⟩ : ∃ q, q = 10 ^ p := ⟨_, rfl⟩
      have hqp : 0 < q := by rw [hq]; exact Nat.pow_pos (by decide)
      rw [← hq] at hcell Hst
      have hq0 : ((q : Int) != 0) = true := by simp; omega
      have hq1 : ((q : Int) == 0) = false := by simp; omega
      obtain ⟨z, hz⟩ : ∃ z, z = v / q := ⟨_, rfl⟩
      have hzl : z < 1000000000 := by rw [hz]; exact Nat.lt_of_le_of_lt (Nat.div_le_self _ _) hv
      have e1 : (v : Int) / (q : Int) = (z : Int) := by rw [hz]; simp
      rw [← hz] at Hst
      have HZ : RowKit.Hid (v / 10 ^ p = z) := by show _ = _; rw [hz, hq]
      obtain ⟨m, hm⟩ : ∃ m, m = z % 10 := ⟨_, rfl⟩
      have hml : m < 10 := by omega
      have e2 : (z : Int) % 10 = (m : Int) := by omega
      rw [← hm] at Hst
      have HS : RowKit.Hid (pad (j + 1) z = pad j (v / 10 ^ (9 - j)) ++ [48 + m]) := Hst
      rw [ep]
      clear hq hz hm Hst ep
      have Hown : RowKit.Hid ((wr.alloc (.cells #[Value.int IntKind.u8 (48 + (m : Int))] 5)).ownsRow B 5 1 (.slice A2 (n + j) c2) (n + j) ((zs ++ pad j (v / 10 ^ (9 - j))).map byV)) := (HB.out.alloc _).row
      have Hlit : RowKit.Hid ((wr.alloc (.cells #[Value.int IntKind.u8 (48 + (m : Int))] 5)).cell? ⟨wr.heap.size, 0, none⟩ = some (.int .u8 ((48 + m : Nat) : Int)) ∧ 48 + m < 256) := ⟨by rw [World.cell?_alloc_at _ _ _ _ rfl]; rfl, by omega⟩
      have Hb : RowKit.Hid (n + j ≤ 1000000000 ∧ B ≤ (wr.alloc (.cells #[Value.int IntKind.u8 (48 + (m : Int))] 5)).heap.size ∧ Bytes (zs ++ pad j (v / 10 ^ (9 - j)))) := ⟨by omega, by have h1 := HW.out.size; have h2 := HC.out; simp; omega, HB.out.bytes⟩
      go_wp2_with (at_builtin; refine wpList_append_byte rfl _ _ rfl B _ (n + j) _ rfl Hown wr.heap.size rfl (48 + m) Hlit Hb ?_)
      intro A3 c3 w3 how3 hg3
      have HW3 := Lib.hid (below_grownC HW.out (Nat.le_trans HC.out HW.out.size) HB.out hg3.out)
      have HK3 := Lib.hid (others_grownB HK.out HB.out hg3.out)
      have HB3 : RowKit.Hid (OwnB w3 B A3 (n + (j + 1)) c3 (zs ++ pad (j + 1) (v / 10 ^ (9 - (j + 1))))) := by
        show OwnB _ _ _ _ _ _
        rw [show 9 - (j + 1) = p by omega, HZ.out, HS.out]
        simpa only [List.append_assoc, Nat.add_assoc] using how3.out
      clear hg3 how3 Hown Hlit Hb HB HW HK
      go_wp2
      go_roundw
      case rel => exact ⟨j + 1, A3, c3, by omega, by go_num, by rw [Nat.add_assoc], HB3, HW3, HK3⟩
      case measure => simp [intOf] <;> omega

set_option maxHeartbeats 2000000 in
set_option maxRecDepth 4000 in
/-- groups: the number nine digits by nine, the lowest first. -/
theorem groups_c {w : World} {A : Option Addr} {n c : Nat} {xs : List Nat} {a L : Nat} (T : Tab w) (hx : NN w A n c xs a L) (h1 : L ≤ 10000) :
    Calls Tryd.prog 45 #[.slice A n c] w fun e w' => ∃ A2 n2 c2 gs, e = .returned (.slice A2 n2 c2) ∧ OwnN w' w.heap.size A2 n2 c2 gs ∧ GInv a gs 0 ∧ n2 ≤ 2 * L + 1 ∧ Below w.heap.size w w' := by
  have HT := Lib.hid T
  have Hlt := Lib.hid (lt_pow hx)
  have Hx := Lib.hid hx
  have HG := Lib.hid (GInv.start a)
  have HW := Lib.hid (Below.refl w.heap.size w)
  have Hle : RowKit.Hid (a = Limb.val xs ∧ xs.length = n) := ⟨hx.val.symm, hx.isN.len⟩
  have H0 : RowKit.Hid ((a ≠ 0 ∨ ([] : List Nat) = []) ∨ n = 0) := .inl (.inr rfl)
  clear T hx
  go_enter Tryd.func45, Tryd.ntmps45
  go_wp2
  go_loopw [0, 3] (fun av ov wr => ∃ (m k : Nat) (ys gs : List Nat) (A1 : Option Addr) (n1 c1 : Nat) (A2 : Option Addr) (c2 : Nat), av = .slice A1 n1 c1 ∧ ov = .slice A2 k c2 ∧ RowKit.Hid (GInv a gs m) ∧ RowKit.Hid (OwnN wr w.heap.size A2 k c2 gs) ∧ RowKit.Hid (NN wr A1 n1 c1 ys m L) ∧ RowKit.Hid (gs = [] ∨ ys = limbs m) ∧ RowKit.Hid (Below w.heap.size w wr)) (fun av _ wr => readN wr av + lenOf av)
  case atStart => exact ⟨a, 0, xs, [], A, n, c, none, 0, rfl, rfl, HG, OwnN.nil _ _, Hx, .inl rfl, HW⟩
  case round =>
    clear HG Hx HW Hle H0
    obtain ⟨m, k, ys, gs, A1, n1, c1, A2, c2, rfl, rfl, HG, HO, HX, HY, HW⟩ := hrel
    by_cases h0 : n1 = 0
    · subst h0
      go_wp2
      go_ret
      have hm : m = 0 := by
        have h2 := HX.out.val
        have h3 := HX.out.isN.len
        rw [List.eq_nil_of_length_eq_zero h3] at h2
        exact h2.symm
      subst hm
      have hk := HO.out.len
      have hl := HG.out.len Hlt.out
      exact ⟨A2, k, c2, gs, rfl, HO.out, HG.out, by omega, HW.out⟩
    · have hpos : (0 : Int) < (n1 : Int) := by omega
      have hcell : wr.cell? ⟨0, 9, none⟩ = some (.int .u32 1000000000) := (HW.out.cell (p := ⟨0, 9, none⟩) HT.out.lt).trans (HT.out.1 9 (by decide))
      have hl := HG.out.len Hlt.out
      have hk2 := HO.out.len
      have hk9 : k ≤ 1000000000 := by omega
      have hm0 : m ≠ 0 ∨ gs = [] := by
        rcases HY.out with h2 | h2
        · exact .inr h2
        · refine .inl fun h3 => h0 ?_
          have h4 := HX.out.isN.len
          rw [h2, h3, limbs_zero] at h4
          exact h4.symm
      have Hst := Lib.hid (HG.out.step hm0)
      obtain ⟨r, hr⟩ : ∃ r, r = m % 1000000000 := ⟨_, rfl⟩
      have hrl : r < 4294967296 := by have := Nat.mod_lt m (show 1000000000 > 0 by decide); omega
      rw [← hr] at Hst
      have HR := Lib.hid hr
      clear hl hk2 hm0 HG hr
      go_wp2_with fail
      refine (quoSmall_o HX.out (by omega) 1000000000 _ rfl (by decide) (by decide)).mono ?_
      rintro e w2 ⟨A3, n3, c3, rfl, hq, bn⟩
      rw [← HR.out]
      have HQ := Lib.hid hq
      have Hrow := Lib.hid (fun k hk => (HO.out.1.lt k hk).2)
      have HO2 := Lib.hid (HO.out.below bn (Nat.le_refl _))
      have HW2 := Lib.hid (below_two HW.out bn)
      have Hm : RowKit.Hid (readN wr (.slice A1 n1 c1) = m ∧ m < 4294967296 ^ n1) := ⟨by rw [readN_eq HX.out.isN, HX.out.val], by have h2 := val_lt HX.out.isN.small; rwa [HX.out.val, HX.out.isN.len] at h2⟩
      have Hq := Lib.hid (Nat.lt_of_le_of_lt (Nat.div_le_self m 1000000000) (lt_pow HX.out))
      clear hq bn HO HW HX HY hcell HR
      have Hown : RowKit.Hid ((w2.alloc (.cells #[Value.int IntKind.u32 (r : Int)] 37)).ownsRow w.heap.size 37 1 (.slice A2 k c2) k (gs.map limV)) := (HO2.out.1.alloc _)
      have Hlit : RowKit.Hid ((w2.alloc (.cells #[Value.int IntKind.u32 (r : Int)] 37)).cell? ⟨w2.heap.size, 0, none⟩ = some (.int .u32 (r : Int)) ∧ r < 4294967296) := ⟨by rw [World.cell?_alloc_at _ _ _ _ rfl]; rfl, hrl⟩
      have Hb : RowKit.Hid (k ≤ 1000000000 ∧ w.heap.size ≤ (w2.alloc (.cells #[Value.int IntKind.u32 (r : Int)] 37)).heap.size ∧ Small gs) := ⟨hk9, by have := HW2.out.size; simp; omega, HO2.out.small⟩
      go_wp2_with (at_builtin; refine wpList_append_word rfl _ _ rfl w.heap.size _ k gs rfl Hown w2.heap.size rfl r Hlit Hb ?_)
      intro A5 c5 w3 how3 hg3
      have HW3 := Lib.hid (below_grownN HW2.out HO2.out hg3.out)
      have HQ3 := Lib.hid (NN.own (HQ.out.keeps hg3.out Hrow.out) Hq.out)
      have HM : RowKit.Hid (readN w3 (.slice A3 n3 c3) + n3 < readN wr (.slice A1 n1 c1) + n1) := by
        show _ < _
        rw [readN_eq HQ3.out.isN, Hm.out.1, val_limbs]
        have h2 := HQ3.out.isN.len
        rcases Nat.eq_zero_or_pos m with h3 | h3
        · rw [h3, Nat.zero_div, limbs_zero] at h2
          rw [h3, ← h2]; simp; omega
        · have h4 := Nat.div_lt_self h3 (show 1 < 1000000000 by decide)
          have h5 := length_limbs_le (Nat.lt_trans h4 Hm.out.2)
          rw [h2] at h5
          omega
      clear hg3 Hown Hlit Hb HO2 HW2 HQ Hrow Hq Hm
      go_wp2
      go_roundw
      case rel => exact ⟨m / 1000000000, k + 1, _, gs ++ [r], A3, n3, c3, A5, c5, rfl, rfl, Hst, how3, HQ3, .inr rfl, HW3⟩
      case measure => exact HM.out

end Go.Proofs.YtgdchljbjnhchaaDoor

/- What the library's bytes.TrimLeft (of noughts) answers, as a contract over memory. Condition: the list reads as bytes. -/
namespace Go.Proofs.YtgdchljbjnhchaaDoor
open Go.RowKit Limb
set_option linter.unusedVariables false

theorem IsB.nil (w : World) (A : Option Addr) : IsB w A 0 [] := ⟨rfl, bytes_nil, fun h => absurd h (by omega)⟩

set_option maxHeartbeats 2000000 in
set_option maxRecDepth 4000 in
theorem trimByte_c {w : World} {A : Option Addr} {n c : Nat} {zs : List Nat} (h : IsB w A n zs) (hc : n ≤ c) (hm : c ≤ maxLen) :
    Calls Tryd.prog 53 #[.slice A n c, .int .u8 48] w fun e w' => ∃ A2 n2 c2, e = .returned (.slice A2 n2 c2) ∧ IsB w A2 n2 (bare zs) ∧ w' = w := by
  have Hm : RowKit.Hid (c ≤ maxLen) := hm
  have H0 : RowKit.Hid (IsB w A n (zs.drop 0)) := h
  have HL := Lib.hid (Lead.start zs)
  have Hn := Lib.hid h.1
  clear h hm
  go_enter Tryd.func53, Tryd.ntmps53
  go_wp2
  go_loopw [0] (fun sv wr => ∃ (k m cc : Nat) (A1 : Option Addr), sv = .slice A1 m cc ∧ m ≤ cc ∧ RowKit.Hid (k + m = n ∧ k + cc = c) ∧ RowKit.Hid (IsB w A1 m (zs.drop k)) ∧ RowKit.Hid (Lead zs k) ∧ wr = w) (fun sv _ => lenOf sv)
  case atStart => exact ⟨0, n, c, A, rfl, hc, ⟨by omega, by omega⟩, H0, HL, rfl⟩
  case round =>
    clear H0 HL
    obtain ⟨k, m, cc, A1, rfl, hmc, Hk, HI, HL, rfl⟩ := hrel
    by_cases h0 : m = 0
    · subst h0
      have hz : bare zs = [] := HL.out.all (by have h1 := Hk.out.1; have h2 := Hn.out; omega)
      have Hz := Lib.hid hz
      clear hz
      go_wp2
      go_ret
      exact ⟨none, 0, 0, rfl, by rw [Hz.out]; exact IsB.nil _ _, rfl⟩
    · have hpos : (0 : Int) < (m : Int) := by omega
      obtain ⟨b, o, rfl, hb, hcs⟩ := HI.out.2.2 (by omega)
      have hx := hcs 0 (by omega)
      have hkl : k < zs.length := by have := Hk.out.1; have := Hn.out; omega
      have hlim : lim (zs.drop k) 0 = lim zs k := by simp [lim]
      rw [hlim, Nat.add_zero] at hx
      by_cases h48 : lim zs k = 48
      · rw [h48] at hx
        have HL2 := Lib.hid (HL.out.step hkl h48)
        have HI2 : ∀ A2 : Option Addr, (cc ≠ 1 → A2 = some ⟨b, o + 1, none⟩) → IsB wr A2 (m - 1) (zs.drop (k + 1)) := fun A2 hA => by
          refine ⟨by rw [List.length_drop]; have h1 := Hk.out.1; have h2 := Hn.out; omega, ?_, fun hp => ?_⟩
          · have := bytes_drop HI.out.2.1 1
            rwa [List.drop_drop] at this
          · refine ⟨b, o + 1, hA (by omega), hb, fun j hj => ?_⟩
            have h3 := hcs (j + 1) (by omega)
            rw [show o + 1 + j = o + (j + 1) by omega, h3]
            have e : lim (zs.drop k) (j + 1) = lim (zs.drop (k + 1)) j := by
              simp only [lim, List.getD_eq_getElem?_getD, List.getElem?_drop]
              rw [show k + (j + 1) = k + 1 + j by omega]
            rw [e]
        have HI3 := Lib.hid HI2
        clear HI2 hcs hlim HI HL
        go_wp2
        go_roundw
        case rel => exact ⟨k + 1, m - 1, cc - 1, _, rfl, by omega, ⟨by have h1 := Hk.out; omega, by have h1 := Hk.out; omega⟩, HI3.out _ (fun hc1 => if_neg hc1), HL2, trivial⟩
        case measure => simp only [lenOf]; omega
      · have hne : ((lim zs k : Nat) : Int) ≠ 48 := by omega
        obtain ⟨d, hd⟩ : ∃ d, lim zs k = d := ⟨_, rfl⟩
        rw [hd] at hx hne
        have hq : ((d : Int) == 48) = false := by simp; omega
        have Hd := Lib.hid (HL.out.done hkl h48)
        have hm0 : ((m : Int) == 0) = false := by simp; omega
        clear hcs hlim
        go_wp2
        go_ret
        exact ⟨_, m, cc, rfl, by rw [Hd.out]; exact HI.out, rfl⟩

set_option maxHeartbeats 2000000 in
set_option maxRecDepth 4000 in
/-- bytes.TrimLeft(s, "0"): without noughts ahead; nothing lies otherwise. -/
theorem trim0_c {w : World} {A : Option Addr} {n c : Nat} {zs : List Nat} (h : IsB w A n zs) (hc : n ≤ c) (hm : c ≤ maxLen) :
    Calls Tryd.prog 47 #[.slice A n c, .string ⟨#[48]⟩] w fun e w' => ∃ A2 n2 c2, e = .returned (.slice A2 n2 c2) ∧ IsB w A2 n2 (bare zs) ∧ w' = w := by
  have HC := Lib.hid (trimByte_c h hc hm)
  have Hz : RowKit.Hid (n = 0 → zs = []) := fun h0 => List.eq_nil_of_length_eq_zero (by rw [h.1, h0])
  clear h
  by_cases h0 : n = 0
  · subst h0
    have HZ : RowKit.Hid (IsB w none 0 (bare zs)) := by show IsB _ _ _ _; rw [Hz.out rfl]; exact IsB.nil _ _
    clear Hz HC
    go_enter Tryd.func47, Tryd.ntmps47
    go_wp2
    go_ret
    exact ⟨none, 0, 0, rfl, HZ.out, rfl⟩
  · have hn0 : ((n : Int) == 0) = false := by simp; omega
    go_enter Tryd.func47, Tryd.ntmps47
    go_wp2_with fail
    refine HC.out.mono ?_
    rintro e w1 ⟨A2, n2, c2, rfl, h2, rfl⟩
    have H2 := Lib.hid h2
    clear h2
    go_wp2
    go_ret
    exact ⟨A2, n2, c2, rfl, H2.out, rfl⟩

end Go.Proofs.YtgdchljbjnhchaaDoor

/- The library's slices.Backward over limbs, as a contract for a loop over it: its closure goes through the limbs from the last one to the first. Condition: what a round keeps (KpB): all blocks below a bound but one. -/
namespace Go.Proofs.YtgdchljbjnhchaaDoor
open Go.RowKit Go.Shelf Limb
set_option linter.unusedVariables false
attribute [local go_sem] Oper.semAt_some

/-- All blocks below n but b lie as they lay. -/
def KpB (b n : Nat) (A B : World) : Prop := ∀ k, k < n → k ≠ b → B.heap[k]? = A.heap[k]?
theorem KpB.refl (b n : Nat) (A : World) : KpB b n A A := fun _ _ _ => rfl
theorem KpB.trans {b n : Nat} {A B C : World} (h : KpB b n A B) (k : KpB b n B C) : KpB b n A C := fun i h1 h2 => (k i h1 h2).trans (h i h1 h2)
theorem KpB.turn {b n : Nat} {w : World} (hn : n ≤ w.heap.size) (W : World) (l : Nat) (o o' : Obj) (hl : w.heap.size ≤ l) (h : W.heap[l]? = some o) (_ : o.isCells = false) (_ : o.isWalk = false) : KpB b n W (W.putObj l o') :=
  fun k h1 _ => World.putObj_heap_other (by omega)
theorem KpB.cell {b n : Nat} {A B : World} (h : KpB b n A B) {p : Addr} (h1 : p.block < n) (h2 : p.block ≠ b) : B.cell? p = A.cell? p := World.cell?_of_block (h p.block h1 h2)
theorem KpB.below {b n : Nat} {A B : World} (h : Below n A B) (hn : n ≤ A.heap.size) : KpB b n A B := fun k h1 _ => h.block k h1
theorem KpB.set {b n : Nat} {A B : World} (h : KpB b n A B) (v : Value) : KpB b n A (B.setCell ⟨b, 0, none⟩ v) := fun k h1 h2 => by
  rw [← h k h1 h2]
  simp only [World.setCell, Array.getElem?_modify]
  rw [if_neg (fun e => h2 e.symm)]

/-- A group of nine digits, and where it stands. -/
abbrev Grp := { p : Nat × Nat // p.2 < 1000000000 }
/-- The group at k. -/
def grpAt (gs : List Nat) (h : ∀ x ∈ gs, x < 1000000000) (k : Nat) : Grp := ⟨(k, lim gs k), by
  show lim gs k < 1000000000
  unfold lim
  rw [List.getD_eq_getElem?_getD]
  rcases Nat.lt_or_ge k gs.length with hk | hk
  · rw [List.getElem?_eq_getElem hk]; exact h _ (List.getElem_mem hk)
  · rw [List.getElem?_eq_none hk]; decide⟩
/-- What has come when k rounds are over: the last groups, the last first. -/
def downs (gs : List Nat) (h : ∀ x ∈ gs, x < 1000000000) (k : Nat) : List Grp := (List.range k).map fun j => grpAt gs h (gs.length - 1 - j)
theorem downs_succ (gs : List Nat) (h : ∀ x ∈ gs, x < 1000000000) (k : Nat) : downs gs h (k + 1) = downs gs h k ++ [grpAt gs h (gs.length - 1 - k)] := by simp [downs, List.range_succ]
theorem downs_len (gs : List Nat) (h : ∀ x ∈ gs, x < 1000000000) (k : Nat) : (downs gs h k).length = k := by simp [downs]
/-- The digits of groups, one behind the other. -/
def cat (l : List Grp) : List Nat := (l.map fun x => pad 9 x.1.2).flatten
theorem cat_snoc (l : List Grp) (x : Grp) : cat (l ++ [x]) = cat l ++ pad 9 x.1.2 := by simp [cat]
theorem cat_len (l : List Grp) : (cat l).length = 9 * l.length := by
  induction l with
  | nil => rfl
  | cons x r ih => simp only [cat, List.map_cons, List.flatten_cons, List.length_append, pad_len, List.length_cons] at ih ⊢; omega
theorem cat_dig (l : List Grp) : allDig (cat l) = true := by
  induction l with
  | nil => rfl
  | cons x r ih => simp only [cat, List.map_cons, List.flatten_cons] at ih ⊢; rw [allDig_append, pad_dig, ih]; rfl
theorem flat_drop (gs : List Nat) (h : ∀ x ∈ gs, x < 1000000000) : ∀ k, k ≤ gs.length → cat (downs gs h k) = flat (gs.drop (gs.length - k))
  | 0, _ => by rw [Nat.sub_zero, List.drop_length]; rfl
  | k + 1, hk => by
    rw [downs_succ, cat_snoc, flat_drop gs h k (by omega)]
    have e : gs.length - (k + 1) < gs.length := by omega
    rw [List.drop_eq_getElem_cons e, flat, show gs.length - (k + 1) + 1 = gs.length - k by omega]
    have e2 : (grpAt gs h (gs.length - 1 - k)).1.2 = gs[gs.length - (k + 1)] := by
      show lim gs _ = _
      rw [show gs.length - 1 - k = gs.length - (k + 1) by omega]
      simp [lim, List.getD_eq_getElem?_getD, List.getElem?_eq_getElem e]
    rw [e2]
theorem cat_downs (gs : List Nat) (h : ∀ x ∈ gs, x < 1000000000) : cat (downs gs h gs.length) = flat gs := by
  rw [flat_drop gs h gs.length (Nat.le_refl _), Nat.sub_self, List.drop_zero]

set_option maxRecDepth 100000 in
set_option maxHeartbeats 2000000 in
theorem back1_in (F : Fence) (n : Nat) (hF : F.fn 51) (hro : F.round = none) (hn : 1 ≤ n) (l Bs Bt n₀ cap : Nat) (A : Option Addr) (gs : List Nat) (hg : ∀ x ∈ gs, x < 1000000000) (hlen : gs.length ≤ 1000000000)
    (hBs : Bs < n₀) (hBst : Bs ≠ Bt) (J Jx : List Grp → World → Prop)
    (hY : ∀ pre x W, J pre W → pre.length < gs.length → YieldAt F (n - 1) Tryd.prog l #[.int .i64 (x.1.1 : Int), .int .u32 (x.1.2 : Int)] W fun e W' =>
      (e = .returned (.bool true) ∧ J (pre ++ [x]) W' ∧ KpB Bt n₀ W W') ∨ (e = .returned (.bool false) ∧ Jx (pre ++ [x]) W'))
    (W : World) (hcB : W.cell? ⟨Bs, 0, none⟩ = some (.slice A gs.length cap)) (hA : 0 < gs.length → ∃ b o, A = some ⟨b, o, none⟩ ∧ b < n₀ ∧ b ≠ Bt ∧ ∀ j, j < gs.length → W.cell? ⟨b, o + j, none⟩ = some (.int .u32 ((lim gs j : Nat) : Int))) (h0 : J [] W) :
    CallsIn F n Tryd.prog 51 #[.func (.yield l) #[] #[], .pointer (some ⟨Bs, 0, none⟩)] W fun e W' => (∃ v, e = .returned v) ∧
      ((∃ ys, ys = downs gs hg gs.length ∧ J ys W') ∨ (∃ pre, (∃ k, k ≤ gs.length ∧ pre = downs gs hg k) ∧ Jx pre W')) := by
  refine callsIn_of_wp Tryd.func51 rfl hF ?_ hro
  simp only [Tryd.ntmps51, List.size_toArray, List.length_cons, List.length_nil, Nat.reduceAdd, Nat.reduceSub, Array.replicate_succ, Array.replicate_zero, List.push_toArray, List.append_toArray, List.nil_append, List.cons_append]
  gi_wp2
  gi_loopw [3] (fun i wr => ∃ k : Nat, k ≤ gs.length ∧ i = .int .i64 ((gs.length : Int) - (k : Int) - 1) ∧ J (downs gs hg k) wr ∧ KpB Bt n₀ W wr)
    (fun i _ => (intOf i + 1).toNat)
  case atStart => exact ⟨0, Nat.zero_le _, by simp, h0, KpB.refl _ _ _⟩
  case round =>
    obtain ⟨k, hk, rfl, hJs, hnx⟩ := hrel
    by_cases hlt : k < gs.length
    · obtain ⟨p, hp⟩ : ∃ p, k + p + 1 = gs.length := ⟨gs.length - 1 - k, by omega⟩
      have ep : (gs.length : Int) - (k : Int) - 1 = (p : Int) := by omega
      obtain ⟨b, o, rfl, hb, hbt, hcs⟩ := hA (by omega)
      have hc1 : wr.cell? ⟨Bs, 0, none⟩ = some (.slice (some ⟨b, o, none⟩) gs.length cap) := (hnx.cell hBs hBst).trans hcB
      have hc2 : wr.cell? ⟨b, o + p, none⟩ = some (.int .u32 ((lim gs p : Nat) : Int)) := (hnx.cell (p := ⟨b, o + p, none⟩) hb hbt).trans (hcs p (by omega))
      obtain ⟨fn, tmps, assign, body, hy, hR⟩ := hY _ (grpAt gs hg (gs.length - 1 - k)) wr hJs (by rw [downs_len]; exact hlt)
      have e1 : ((grpAt gs hg (gs.length - 1 - k)).1.1 : Int) = (p : Int) := by show ((gs.length - 1 - k : Nat) : Int) = _; omega
      have e2 : ((grpAt gs hg (gs.length - 1 - k)).1.2 : Int) = ((lim gs p : Nat) : Int) := by show ((lim gs (gs.length - 1 - k) : Nat) : Int) = _; rw [show gs.length - 1 - k = p by omega]
      rw [e1, e2] at hy
      obtain ⟨d, hd⟩ : ∃ d, lim gs p = d := ⟨_, rfl⟩
      rw [hd] at hy hc2
      rw [ep]
      gi_wp2
      refine hR.mono ?_
      rintro e W3 (⟨rfl, hJ3, hk3⟩ | ⟨rfl, hJx3⟩)
      · gi_wp2
        go_roundw
        case rel => exact ⟨k + 1, by omega, by go_num, by rw [downs_succ]; exact hJ3, hnx.trans hk3⟩
        case measure => simp [intOf] <;> omega
      · gi_wp2
        refine bodyPost_ret (results_none rfl _ _ _) rfl ?_
        exact ⟨⟨_, rfl⟩, .inr ⟨_, ⟨k + 1, by omega, (downs_succ _ _ _).symm⟩, hJx3⟩⟩
    · obtain rfl : k = gs.length := by omega
      gi_wp2
      go_end0
      exact ⟨⟨_, rfl⟩, .inl ⟨_, rfl, hJs⟩⟩

/-- **slices.Backward(s)**: the slice is boxed; the function value captures the box. -/
theorem back_in (A : Option Addr) (len cap : Nat) (w : World) :
    Calls Tryd.prog 44 #[.slice A len cap] w fun e w' => e = .returned (.func (.func 51) #[] #[.pointer (some ⟨w.heap.size, 0, none⟩)]) ∧ w' = w.alloc (.cells #[.slice A len cap] 22) := by
  go_enter Tryd.func44, Tryd.ntmps44
  go_wp2
  go_ret
  exact ⟨rfl, rfl⟩

/-- Its closure over a row of limbs that lies below n₀, in another block than Bt. -/
theorem back_stops (F : Fence) (n : Nat) (hF : F.fn 51) (hro : F.round = none) (hn : 1 ≤ n) (Bs Bt n₀ cap : Nat) (A : Option Addr) (gs : List Nat) (hg : ∀ x ∈ gs, x < 1000000000) (hlen : gs.length ≤ 1000000000)
    (w : World) (hBs : Bs < n₀) (hBst : Bs ≠ Bt) (hn₀ : n₀ ≤ w.heap.size) (hcB : w.cell? ⟨Bs, 0, none⟩ = some (.slice A gs.length cap)) (hA : 0 < gs.length → ∃ b o, A = some ⟨b, o, none⟩ ∧ b < n₀ ∧ b ≠ Bt ∧ ∀ j, j < gs.length → w.cell? ⟨b, o + j, none⟩ = some (.int .u32 ((lim gs j : Nat) : Int))) :
    SeqStopsK F n Tryd.prog 51 #[.pointer (some ⟨Bs, 0, none⟩)] (fun x : Grp => #[Value.int .i64 (x.1.1 : Int), Value.int .u32 (x.1.2 : Int)]) (KpB Bt n₀) (fun ys => ys = downs gs hg gs.length)
      (fun pre => ∃ k, k ≤ gs.length ∧ pre = downs gs hg k) gs.length w := fun l J Jx W hW _ _ hY h0 => by
  refine back1_in F n hF hro hn l Bs Bt n₀ cap A gs hg hlen hBs hBst J Jx hY W ((hW.cell (p := ⟨Bs, 0, none⟩) (Nat.lt_of_lt_of_le hBs hn₀)).trans hcB) (fun h => ?_) h0
  obtain ⟨b, o, e, hb, hbt, hc⟩ := hA h
  exact ⟨b, o, e, hb, hbt, fun j hj => (hW.cell (p := ⟨b, o + j, none⟩) (Nat.lt_of_lt_of_le hb hn₀)).trans (hc j hj)⟩

end Go.Proofs.YtgdchljbjnhchaaDoor

/- What package digits' Text answers, as a contract over memory, where its table of powers of ten reads as it is laid: the decimal digits of any list of limbs. Condition: the table (Tab), at most 10000 limbs. -/
namespace Go.Proofs.YtgdchljbjnhchaaDoor
open Go.RowKit Go.Shelf Limb
set_option linter.unusedVariables false
attribute [local go_sem] Oper.semAt_some

/-- What stands between two rounds: the text so far lies in a row of the call's own beyond n; its slice in the box at b. -/
def TextI (n b B : Nat) (w : World) (pre : List Grp) (W : World) : Prop :=
  ((∃ v, Boxed W b 66 v ∧ W.ownsRow n 5 1 v (cat pre).length ((cat pre).map byV) ∧ True) ∧ n ≤ W.heap.size) ∧ Below B w W

theorem ownFrom_size {β : Type} (B n : Nat) : OwnFrom B (fun (_ : β) W => n ≤ W.heap.size) := fun _ _ _ _ hs hg _ => Nat.le_trans hs hg.size

theorem isB_box {W : World} {A : Option Addr} {n b : Nat} {zs : List Nat} {t : TypeId} {A2 : Option Addr} {n2 c2 : Nat} (h : IsB W A n zs) (hb : Boxed W b t (.slice A2 n2 c2)) (u : Value) : IsB (W.setCell ⟨b, 0, none⟩ u) A n zs := by
  refine ⟨h.1, h.2.1, fun hn => ?_⟩
  obtain ⟨g, o, e, hlt, hc⟩ := h.2.2 hn
  have hne : b ≠ g := by
    rintro rfl
    have h1 := hc 0 hn
    unfold Boxed at hb
    simp only [World.cell?, hb] at h1
    rcases o with _ | o
    · simp at h1
    · simp at h1
  refine ⟨g, o, e, by simpa [World.setCell] using hlt, fun j hj => ?_⟩
  rw [World.cell?_setCell_other W ⟨b, 0, none⟩ ⟨g, o + j, none⟩ u (fun e => hne (by injection e))]
  exact hc j hj

set_option maxRecDepth 100000 in
set_option maxHeartbeats 4000000 in
theorem digText_c {A : Option Addr} {n c : Nat} {xs : List Nat} {a L : Nat} {w : World} (T : Tab w) (hx : NN w A n c xs a L) (h1 : L ≤ 10000) (S : ByteArray) (hS : strOf (decT a) = S) :
    Calls Tryd.prog 31 #[.slice A n c] w fun e w' => e = .returned (.string S) ∧ Below w.heap.size w w' := by
  have HT := Lib.hid T
  have HX := Lib.hid hx
  have HS := Lib.hid hS
  clear T hx hS
  refine (callsIn_wide (n := 6)).1 ?_
  refine callsIn_of_wp_marks Tryd.func31 rfl trivial ?_ rfl
  simp only [Tryd.ntmps31, List.size_toArray, List.length_cons, List.length_nil, Nat.reduceAdd, Nat.reduceSub, Array.replicate_succ, Array.replicate_zero, List.push_toArray, List.append_toArray, List.nil_append, List.cons_append]
  have b0 := (Below.refl w.heap.size w).alloc (Nat.le_refl _) (.cells #[.slice none 0 0] 66)
  have HG := Lib.hid (groups_c (HT.out.below b0) (HX.out.below b0) h1)
  clear b0
  gi_wp2_with fail
  refine ⟨trivial, ?_⟩
  refine (callsIn_wide.2 HG.out).mono ?_
  rintro e w2 ⟨A2, n2, c2, gs, rfl, how, hinv, hn2, bn⟩
  have hgl := how.len
  subst hgl
  have hgs := hinv.2.1
  have Hval := Lib.hid hinv.done
  have hlen9 : gs.length ≤ 1000000000 := by omega
  have bB : Boxed (w.alloc (.cells #[.slice none 0 0] 66)) w.heap.size 66 (.slice none 0 0) := Boxed.new w _ _
  have bB2 : Boxed w2 w.heap.size 66 (.slice none 0 0) := (bn.block _ (by simp)).trans bB
  have hsz : w.heap.size + 1 ≤ w2.heap.size := by have := bn.size; simpa using this
  have bw2 : Below w.heap.size w w2 := ((Below.refl w.heap.size w).alloc (Nat.le_refl _) _).trans (bn.mono (by simp))
  have hA : 0 < gs.length → ∃ b o, A2 = some ⟨b, o, none⟩ ∧ b < w2.heap.size + 1 ∧ b ≠ w.heap.size ∧ ∀ j, j < gs.length → (w2.alloc (.cells #[.slice A2 gs.length c2] 22)).cell? ⟨b, o + j, none⟩ = some (.int .u32 ((lim gs j : Nat) : Int)) := fun h => by
    obtain ⟨g, rfl, hBg, hgw⟩ := how.addr h
    simp only [World.size_alloc] at hBg
    refine ⟨g, 0, rfl, by omega, by omega, fun j hj => ?_⟩
    rw [Nat.zero_add]
    exact (Below.cell (p := ⟨g, j, none⟩) (below_new w2 _) hgw).trans (how.cell hj)
  clear how hinv HG bB bn
  gi_wp2_with fail
  refine ⟨trivial, ?_⟩
  refine (callsIn_wide.2 (back_in _ _ _ w2)).mono ?_
  rintro e w3' ⟨rfl, rfl⟩
  have hs3 : (w2.alloc (.cells #[.slice A2 gs.length c2] 22)).heap.size = w2.heap.size + 1 := World.size_alloc _ _
  have hc3 : (w2.alloc (.cells #[.slice A2 gs.length c2] 22)).cell? ⟨w2.heap.size, 0, none⟩ = some (.slice A2 gs.length c2) := (Boxed.new w2 _ _).cell
  have bB3 : Boxed (w2.alloc (.cells #[.slice A2 gs.length c2] 22)) w.heap.size 66 (.slice none 0 0) := bB2.alloc _
  have bw3 : Below w.heap.size w (w2.alloc (.cells #[.slice A2 gs.length c2] 22)) := bw2.alloc (by omega) _
  generalize w2.alloc (.cells #[.slice A2 gs.length c2] 22) = w3 at *
  clear bB2 bw2
  generalize w2.heap.size = s2 at *
  have hst : Below w3.heap.size w3 w3 := Below.refl _ _
  gi_wp2
  refine wpIn_rangeFunc_ownG rfl (by decide) (gf := 51) (lb := #[.pointer (some ⟨s2, 0, none⟩)]) rfl trivial (enters_of Tryd.func51 (by kernel_rfl) rfl)
    (back_stops Fence.wide _ trivial rfl (by decide) s2 w.heap.size w3.heap.size c2 A2 gs hgs hlen9 w3 (by omega) (by omega) (Nat.le_refl _) hc3 (fun h => by obtain ⟨b, o, e1, e2, e3, e4⟩ := hA h; exact ⟨b, o, e1, by omega, e3, e4⟩))
    (fun h k => KpB.trans h k) (KpB.turn (Nat.le_refl _)) (Below.refl _ _) (fun _ => rfl)
    (TextI w3.heap.size w.heap.size w.heap.size w)
    (fun _ _ _ => False)
    (OwnFrom.and (OwnFrom.and (Own.from (holdsRow_own w3.heap.size w.heap.size 66 5 1 (fun pre => (cat pre).length) (fun pre => (cat pre).map byV) (fun _ _ => True)) _) (ownFrom_size _ _)) (ownFrom_below (Nat.le_refl _) (by omega)))
    (fun _ _ _ _ _ hs _ _ => hs)
    ⟨⟨⟨_, bB3, World.ownsRow_nil _ _ _ _, trivial⟩, Nat.le_refl _⟩, bw3⟩
    (fun x => { tmps := #[.slice A n c, undef, .string ⟨#[]⟩, .pointer (some ⟨w.heap.size, 0, none⟩), undef, .int .u32 (x.1.2 : Int), .slice A n c, .slice A2 gs.length c2, .func (.func 51) #[] #[.pointer (some ⟨s2, 0, none⟩)], .int .i64 (x.1.1 : Int), .int .u32 (x.1.2 : Int), undef, undef, undef, undef, undef, undef, undef, undef, undef, undef], defers := [] }) ?assign ?body ?done ?stop
  case assign =>
    intro l x W K hK
    gi_wp2
    exact hK
  case body =>
    rintro l pre x W ⟨⟨⟨v, hv, hrow, _⟩, hsW⟩, hB⟩ hlt
    obtain ⟨A4, c4, rfl, how⟩ := shape_ownB hrow (allDig_bytes (cat_dig pre))
    rw [cat_len] at how hv
    have hc := hv.cell
    have HC := appendGroup_c (HT.out.below hB) how hsW (by have := HT.out.lt; omega) (by omega) x.1.2 x.2
    clear hrow how
    gi_wp2_with fail
    refine ⟨trivial, ?_⟩
    refine (CallsIn.inRound l (callsIn_wide.2 HC)).mono ?_
    rintro e w4 ⟨A5, c5, rfl, hB5, hb5, hk5⟩
    have hv4 : Boxed w4 w.heap.size 66 (.slice A4 (9 * pre.length) c4) := (hb5.block _ (by omega)).trans hv
    have hc4 := hv4.cell
    have hf4 := hv4.frozen
    have e9 : 9 * pre.length + 9 = (cat (pre ++ [x])).length := by rw [cat_len, List.length_append]; simp; omega
    have hrow5 := hB5.1
    rw [← cat_snoc, e9] at hrow5
    clear hc HC
    gi_wp2
    exact ⟨(hk5.trans (KeepsOthers.setCell _ _ _)).from _, (KpB.below hb5 hsW).set _, ⟨⟨_, hv4.set _, hrow5.kept (grownBy_setCell' _ _ _) (.inr (hv4.not_row (by decide) hrow5).symm), trivial⟩, by have := hb5.size; simp [World.setCell]; omega⟩, (hB.trans (hb5.mono (by omega))).setCell (p := ⟨w.heap.size, 0, none⟩) (Nat.le_refl _) _⟩
  case done =>
    rintro D ys W hD rfl ⟨⟨⟨v, hv, hrow, _⟩, hsW⟩, hB⟩ hK
    obtain ⟨A4, c4, rfl, how⟩ := shape_ownB hrow (allDig_bytes (cat_dig _))
    have hcaps := how.caps
    have hc := hv.cell
    have hf := hv.frozen
    have HC := trim0_c how.isB hcaps.1 hcaps.2
    have hd := flat_dig gs
    have hval : decV (flat gs) = a := by rw [flat_val gs hgs, Hval.out]
    clear hrow how hcaps
    generalize (cat (downs gs hgs gs.length)).length = n4 at *
    rw [cat_downs] at HC
    gi_wp2_with fail
    refine ⟨trivial, ?_⟩
    refine (callsIn_wide.2 HC).mono ?_
    rintro e w5 ⟨A6, n6, c6, rfl, hI, rfl⟩
    have hI2 := isB_box hI hv (.slice A6 n6 c6)
    have hK2 := (KeepsOthers.setCell w5 ⟨w.heap.size, 0, none⟩ (.slice A6 n6 c6)).same D _ hK rfl
    have hB2 : Below w.heap.size w (w5.setCell ⟨w.heap.size, 0, none⟩ (.slice A6 n6 c6)) := hB.setCell (p := ⟨w.heap.size, 0, none⟩) (Nat.le_refl _) _
    have hc2 : (w5.setCell ⟨w.heap.size, 0, none⟩ (.slice A6 n6 c6)).cell? ⟨w.heap.size, 0, none⟩ = some (.slice A6 n6 c6) := (hv.set _).cell
    by_cases h0 : n6 = 0
    · have hz : S = ⟨#[48]⟩ := by
        have h3 : bare (flat gs) = [] := List.eq_nil_of_length_eq_zero (by rw [hI.1, h0])
        have h4 := (bare_nil hd).1 h3
        rw [hval] at h4
        rw [← HS.out, h4]; rfl
      subst h0
      clear hI hI2 HC hd hval
      gi_wp2
      refine ⟨by simp, .inl ⟨_, _, rfl, run_takeDeferred hK2, ?_⟩⟩
      exact ⟨_, results_tmp rfl _ _ _, by rw [hz]; rfl, hB2.trans (belowK_b (w := w) (Nat.le_refl _) _ D _ _ (by omega) hK2 rfl rfl)⟩
    · have hz : strOf (bare (flat gs)) = S := by
        have h3 : bare (flat gs) ≠ [] := fun e => h0 (by rw [← hI.1, e]; rfl)
        rw [bare_dec hd h3, hval, HS.out]
      have hconv := run_text hI2 (c := c6) (by omega)
      rw [hz] at hconv
      clear hI hI2 HC hd hval
      have h00 : ((n6 : Int) == 0) = false := by simp; omega
      gi_wp2
      refine ⟨by simp, .inl ⟨_, _, rfl, run_takeDeferred hK2, ?_⟩⟩
      exact ⟨_, results_tmp rfl _ _ _, rfl, hB2.trans (belowK_b (w := w) (Nat.le_refl _) _ D _ _ (by omega) hK2 rfl rfl)⟩
  case stop =>
    rintro D c pre W _ _ h _
    exact h.elim

end Go.Proofs.YtgdchljbjnhchaaDoor
