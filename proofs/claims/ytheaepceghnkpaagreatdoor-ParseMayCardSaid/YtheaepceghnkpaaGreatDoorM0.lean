/- Part 0 of the texts that the statements of this seat lean on: mathematics, and what functions answer, as contracts over memory; each part says its own conditions. -/
import Derived.Orders
import Derived.Below
import Derived.Laws.Strings
import Derived.Laws.Concat
import Derived.Lib.LaidTab
import Derived.Stop.LaidErr
import Derived.RowKit
import Derived.Test.YtheaepceghnkpaaGreatDoorRows
import Derived.WalkKit
import Derived.WalkSpells
import Derived.WalkLawsBesides
import Derived.Lib.Hide
import Derived.Laws.BitsAllLaws
import Derived.Laws.CopyOwn
import Derived.BigQuiet
import Derived.Deep.QuietTactic
import Derived.Deep.Draws
import Derived.Lib.BitFns
import Derived.Maps.AppendAt
import Derived.Laws.IdiomStrings
import Derived.RegionTactic
import Derived.BigRegion
import Derived.ChangeAlike
import Derived.Laws.Rows
import Derived.Deep.RegionWith
/- Plain mathematics on lists of limbs of 32 bits: the number that a list tells, the shortest list of a number, and what sums and differences limb by limb come to. No condition. -/
namespace Go.Proofs.YtheaepceghnkpaaGreatDoor.Limb
def val : List Nat → Nat
 | [] => 0
 | x :: xs => x + 4294967296 * val xs
def Small (xs : List Nat) : Prop := ∀ x ∈ xs, x < 4294967296
def limbsTo : Nat → Nat → List Nat
 | 0, _ => []
 | f + 1, n => if n = 0 then [] else (n % 4294967296) :: limbsTo f (n / 4294967296)
def limbs (n : Nat) : List Nat := limbsTo n n
theorem limbsTo_zero (f : Nat) : limbsTo f 0 = [] := by cases f <;> simp [limbsTo]
theorem limbsTo_more (f : Nat) : ∀ g n, n ≤ f → n ≤ g → limbsTo f n = limbsTo g n := by
 induction f with
 | zero => intro g n h _; obtain rfl : n = 0 := by omega
           rw [limbsTo_zero, limbsTo_zero]
 | succ f ih =>
  intro g n hf hg
  cases g with
  | zero => obtain rfl : n = 0 := by omega
            rw [limbsTo_zero, limbsTo_zero]
  | succ g =>
   rw [limbsTo, limbsTo]
   by_cases h : n = 0
   · rw [if_pos h, if_pos h]
   · rw [if_neg h, if_neg h, ih g (n / 4294967296) (by omega) (by omega)]
theorem limbs_zero : limbs 0 = [] := rfl
theorem limbs_pos {n : Nat} (h : n ≠ 0) : limbs n = (n % 4294967296) :: limbs (n / 4294967296) := by
 cases n with
 | zero => exact absurd rfl h
 | succ m =>
  rw [limbs, limbsTo, if_neg h, limbs, limbsTo_more m ((m + 1) / 4294967296) ((m + 1) / 4294967296) (by omega) (Nat.le_refl _)]
theorem small_nil : Small [] := by intro x hx; cases hx
theorem small_cons {x : Nat} {xs : List Nat} : Small (x :: xs) ↔ x < 4294967296 ∧ Small xs := by simp [Small]
theorem small_append {xs ys : List Nat} : Small (xs ++ ys) ↔ Small xs ∧ Small ys := by
 simp only [Small, List.mem_append]
 exact ⟨fun h => ⟨fun x hx => h x (.inl hx), fun x hx => h x (.inr hx)⟩, fun h x hx => hx.elim (h.1 x) (h.2 x)⟩
theorem small_take {xs : List Nat} (h : Small xs) (k : Nat) : Small (xs.take k) := fun x hx => h x (List.mem_of_mem_take hx)
theorem small_drop {xs : List Nat} (h : Small xs) (k : Nat) : Small (xs.drop k) := fun x hx => h x (List.mem_of_mem_drop hx)
theorem small_getD {xs : List Nat} (h : Small xs) (k : Nat) : xs.getD k 0 < 4294967296 := by
 by_cases hk : k < xs.length
 · rw [List.getD_eq_getElem?_getD, List.getElem?_eq_getElem hk]; exact h _ (List.getElem_mem hk)
 · rw [List.getD_eq_getElem?_getD, List.getElem?_eq_none (by omega)]; exact (by decide : (0 : Nat) < 4294967296)
theorem small_set {xs : List Nat} (h : Small xs) (k v : Nat) (hv : v < 4294967296) : Small (xs.set k v) := fun x hx => (List.mem_or_eq_of_mem_set hx).elim (h x) (fun e => by omega)
def lim (xs : List Nat) (k : Nat) : Nat := xs.getD k 0
theorem lim_lt {xs : List Nat} (h : Small xs) (k : Nat) : lim xs k < 4294967296 := small_getD h k
theorem small_limbs (n : Nat) : Small (limbs n) := by
 induction n using Nat.strongRecOn with
 | ind n ih =>
  by_cases h : n = 0
  · subst h; rw [limbs_zero]; exact small_nil
  · rw [limbs_pos h, small_cons]; exact ⟨by omega, ih _ (by omega)⟩
theorem val_limbs (n : Nat) : val (limbs n) = n := by
 induction n using Nat.strongRecOn with
 | ind n ih =>
  by_cases h : n = 0
  · subst h; rw [limbs_zero]; rfl
  · rw [limbs_pos h, val, ih _ (by omega)]; omega
theorem val_append (xs ys : List Nat) : val (xs ++ ys) = val xs + 4294967296 ^ xs.length * val ys := by
 induction xs with
 | nil => simp [val]
 | cons x xs ih => rw [List.cons_append, val, val, ih, List.length_cons, Nat.pow_succ, Nat.mul_add, Nat.add_assoc, Nat.mul_comm (4294967296 ^ xs.length) 4294967296, Nat.mul_assoc]
theorem val_lt {xs : List Nat} (h : Small xs) : val xs < 4294967296 ^ xs.length := by
 induction xs with
 | nil => simp [val]
 | cons x xs ih =>
  rw [small_cons] at h
  have := ih h.2
  rw [val, List.length_cons, Nat.pow_succ]
  have : val xs + 1 ≤ 4294967296 ^ xs.length := this
  omega
theorem val_take_succ {xs : List Nat} {k : Nat} (h : k < xs.length) : val (xs.take (k + 1)) = val (xs.take k) + 4294967296 ^ k * xs.getD k 0 := by
 rw [List.take_succ_eq_append_getElem h, val_append, List.length_take, Nat.min_eq_left (by omega)]
 simp [val, List.getD_eq_getElem?_getD, List.getElem?_eq_getElem h]
theorem val_split (xs : List Nat) (k : Nat) (h : k ≤ xs.length) : val xs = val (xs.take k) + 4294967296 ^ k * val (xs.drop k) := by
 have e := val_append (xs.take k) (xs.drop k)
 rw [List.take_append_drop, List.length_take, Nat.min_eq_left h] at e
 exact e
theorem take_set_lt {xs : List Nat} {j k v : Nat} (h : k ≤ j) : (xs.set j v).take k = xs.take k := by
 rw [List.take_set_of_le h]
theorem take_succ_set {xs : List Nat} {k v : Nat} (h : k < xs.length) : (xs.set k v).take (k + 1) = xs.take k ++ [v] := by
 rw [List.take_succ_eq_append_getElem (by simpa using h), List.getElem_set_self, take_set_lt (Nat.le_refl _)]
theorem drop_succ_set {xs : List Nat} {k v : Nat} : (xs.set k v).drop (k + 1) = xs.drop (k + 1) := List.drop_set_of_lt (by omega)
theorem val_take_set {xs : List Nat} {k v : Nat} (h : k < xs.length) : val ((xs.set k v).take (k + 1)) = val (xs.take k) + 4294967296 ^ k * v := by
 rw [take_succ_set h, val_append, List.length_take, Nat.min_eq_left (by omega)]
 simp [val]
theorem length_limbs_le {n k : Nat} (h : n < 4294967296 ^ k) : (limbs n).length ≤ k := by
 induction k generalizing n with
 | zero => have : n = 0 := by simpa using h
           subst this; simp [limbs_zero]
 | succ k ih =>
  by_cases h0 : n = 0
  · subst h0; simp [limbs_zero]
  · rw [limbs_pos h0, List.length_cons]
    have : n / 4294967296 < 4294967296 ^ k := by rw [Nat.div_lt_iff_lt_mul (by decide)]; rwa [Nat.pow_succ] at h
    have := ih this
    omega
theorem add_step {S T z y c P : Nat} (h : S + c * P = T) :
 S + P * ((z + y + c) % 4294967296) + (z + y + c) / 4294967296 * (P * 4294967296) = T + P * z + P * y := by
 have e : (z + y + c) % 4294967296 + (z + y + c) / 4294967296 * 4294967296 = z + y + c := by omega
 have e2 : P * ((z + y + c) % 4294967296) + (z + y + c) / 4294967296 * (P * 4294967296) = P * (z + y + c) := by
  rw [← e, Nat.mul_add]
  simp only [Nat.add_mul_mod_self_right]
  have : ((z + y + c) % 4294967296 + (z + y + c) / 4294967296 * 4294967296) % 4294967296 = (z + y + c) % 4294967296 := by omega
  have h3 : ((z + y + c) % 4294967296 + (z + y + c) / 4294967296 * 4294967296) / 4294967296 = (z + y + c) / 4294967296 := by omega
  rw [h3, Nat.mod_mod]
  congr 1
  rw [Nat.mul_left_comm]
 rw [Nat.add_assoc, e2, ← h, Nat.mul_add, Nat.mul_add, Nat.mul_comm c P]
 omega
theorem lim_of_ge {xs : List Nat} {k : Nat} (h : xs.length ≤ k) : lim xs k = 0 := by
 simp [lim, List.getD_eq_getElem?_getD, List.getElem?_eq_none h]
theorem lim_set_self {xs : List Nat} {k v : Nat} (h : k < xs.length) : lim (xs.set k v) k = v := by
 simp [lim, List.getD_eq_getElem?_getD, h]
theorem lim_set_ne {xs : List Nat} {j k v : Nat} (h : k ≠ j) : lim (xs.set k v) j = lim xs j := by
 simp [lim, List.getD_eq_getElem?_getD, List.getElem?_set_ne h]
theorem val_take_lim (xs : List Nat) (k : Nat) : val (xs.take (k + 1)) = val (xs.take k) + 4294967296 ^ k * lim xs k := by
 by_cases h : k < xs.length
 · exact val_take_succ h
 · rw [lim_of_ge (by omega), List.take_of_length_le (by omega), List.take_of_length_le (by omega)]; simp
theorem drop_eq_of_lim {xs ys : List Nat} {k : Nat} (hl : xs.length = ys.length) (h : ∀ j, k ≤ j → lim xs j = lim ys j) : xs.drop k = ys.drop k := by
 refine List.ext_getElem (by simp [hl]) fun j h1 h2 => ?_
 have := h (k + j) (by omega)
 simp at h1 h2
 simpa [lim, List.getD_eq_getElem?_getD, List.getElem?_eq_getElem (show k + j < xs.length by omega), List.getElem?_eq_getElem (show k + j < ys.length by omega)] using this
def sumLo (x y c : Nat) : Nat := (x + y + c) % 4294967296
def sumHi (x y c : Nat) : Nat := (x + y + c) / 4294967296
theorem sumHi_le {x y c : Nat} (hx : x < 4294967296) (hy : y < 4294967296) (hc : c ≤ 1) : sumHi x y c ≤ 1 := by unfold sumHi; omega
def AddInv (long short zs : List Nat) (k cr : Nat) : Prop :=
 zs.length = long.length ∧ val (zs.take k) + cr * 4294967296 ^ k = val (long.take k) + val (short.take k) ∧ (∀ j, k ≤ j → lim zs j = lim long j) ∧ cr ≤ 1
theorem AddInv.start (long short : List Nat) : AddInv long short long 0 0 := ⟨rfl, by simp [val], fun _ _ => rfl, by omega⟩
theorem AddInv.step {long short zs : List Nat} {k cr : Nat} (h : AddInv long short zs k cr) (hl : Small long) (hs : Small short) (hk : k < long.length) :
 AddInv long short (zs.set k (sumLo (lim zs k) (lim short k) cr)) (k + 1) (sumHi (lim zs k) (lim short k) cr) := by
 obtain ⟨h1, h2, h3, h4⟩ := h
 refine ⟨by simpa using h1, ?_, fun j hj => by rw [lim_set_ne (by omega)]; exact h3 j (by omega), ?_⟩
 · rw [val_take_set (by omega), val_take_lim long, val_take_lim short, ← h3 k (Nat.le_refl _), Nat.pow_succ]
   have := add_step (z := lim zs k) (y := lim short k) (c := cr) (P := 4294967296 ^ k) h2
   unfold sumLo sumHi
   rw [this]
   omega
 · rw [h3 k (Nat.le_refl _)]
   exact sumHi_le (lim_lt hl k) (lim_lt hs k) h4
theorem AddInv.done {long short zs : List Nat} {k cr : Nat} (h : AddInv long short zs k cr) (hs : short.length ≤ k) (hk : k ≤ long.length) (he : k = long.length ∨ cr = 0) :
 val zs + cr * 4294967296 ^ long.length = val long + val short := by
 obtain ⟨h1, h2, h3, h4⟩ := h
 rw [List.take_of_length_le (l := short) hs] at h2
 rcases he with rfl | rfl
 · rwa [List.take_of_length_le (by omega), List.take_of_length_le (by omega)] at h2
 · rw [val_split zs k (by omega), val_split long k hk, drop_eq_of_lim h1 h3]
   omega
def diffLo (x y c : Nat) : Nat := (x + 4294967296 - (y + c)) % 4294967296
def diffHi (x y c : Nat) : Nat := if x < y + c then 1 else 0
theorem diffLo_lt (x y c : Nat) : diffLo x y c < 4294967296 := Nat.mod_lt _ (by decide)
theorem diff_parts {x y c : Nat} (hx : x < 4294967296) (hy : y < 4294967296) (hc : c ≤ 1) : diffLo x y c + y + c = x + diffHi x y c * 4294967296 := by
 unfold diffLo diffHi
 split <;> omega
theorem diffHi_le (x y c : Nat) : diffHi x y c ≤ 1 := by unfold diffHi; split <;> omega
def SubInv (long short zs : List Nat) (k br : Nat) : Prop :=
 zs.length = long.length ∧ val (zs.take k) + val (short.take k) = val (long.take k) + br * 4294967296 ^ k ∧ (∀ j, k ≤ j → lim zs j = lim long j) ∧ br ≤ 1
theorem SubInv.start (long short : List Nat) : SubInv long short long 0 0 := ⟨rfl, by simp [val], fun _ _ => rfl, by omega⟩
theorem SubInv.step {long short zs : List Nat} {k br : Nat} (h : SubInv long short zs k br) (hl : Small long) (hs : Small short) (hk : k < long.length) :
 SubInv long short (zs.set k (diffLo (lim zs k) (lim short k) br)) (k + 1) (diffHi (lim zs k) (lim short k) br) := by
 obtain ⟨h1, h2, h3, h4⟩ := h
 refine ⟨by simpa using h1, ?_, fun j hj => by rw [lim_set_ne (by omega)]; exact h3 j (by omega), diffHi_le _ _ _⟩
 rw [val_take_set (by omega), val_take_lim long, val_take_lim short, ← h3 k (Nat.le_refl _), Nat.pow_succ]
 have e := diff_parts (x := lim zs k) (y := lim short k) (c := br) (by rw [h3 k (Nat.le_refl _)]; exact lim_lt hl k) (lim_lt hs k) h4
 generalize diffLo (lim zs k) (lim short k) br = lo at *
 generalize diffHi (lim zs k) (lim short k) br = hi at *
 generalize lim zs k = x at *
 generalize lim short k = y at *
 generalize 4294967296 ^ k = P at *
 have e2 : P * lo + P * y + br * P = P * x + hi * (P * 4294967296) := by
  have := congrArg (P * ·) e
  simp only [Nat.mul_add] at this
  rw [Nat.mul_comm br P, this, Nat.mul_left_comm hi P]
 omega
theorem SubInv.room {long short zs : List Nat} {k br : Nat} (h : SubInv long short zs k br) (hz : Small zs) (hs : short.length ≤ k) (hk : k ≤ long.length) (hle : val short ≤ val long) (hb : br ≠ 0) : k < long.length := by
 refine Nat.lt_of_le_of_ne hk fun e => ?_
 obtain ⟨h1, h2, h3, h4⟩ := h
 rw [List.take_of_length_le (l := short) hs, List.take_of_length_le (l := zs) (by omega), List.take_of_length_le (l := long) (by omega)] at h2
 have := val_lt hz
 rw [h1, ← e] at this
 have : br = 1 := by omega
 subst this
 omega
theorem SubInv.done {long short zs : List Nat} {k : Nat} (h : SubInv long short zs k 0) (hs : short.length ≤ k) (hk : k ≤ long.length) : val zs = val long - val short := by
 obtain ⟨h1, h2, h3, h4⟩ := h
 rw [List.take_of_length_le (l := short) hs] at h2
 rw [val_split zs k (by omega), val_split long k hk, drop_eq_of_lim h1 h3]
 omega
end Go.Proofs.YtheaepceghnkpaaGreatDoor.Limb

/- Plain mathematics on bits: how many a number has, and each bit of the number that limbs tell. No condition. -/
namespace Go.Proofs.YtheaepceghnkpaaGreatDoor.Limb
def blenTo : Nat → Nat → Nat
 | 0, _ => 0
 | f + 1, n => if n = 0 then 0 else 1 + blenTo f (n / 2)
def blen (n : Nat) : Nat := blenTo n n
theorem blenTo_zero (f : Nat) : blenTo f 0 = 0 := by cases f <;> simp [blenTo]
theorem blenTo_more (f : Nat) : ∀ g n, n ≤ f → n ≤ g → blenTo f n = blenTo g n := by
 induction f with
 | zero => intro g n h _; obtain rfl : n = 0 := by omega
           rw [blenTo_zero, blenTo_zero]
 | succ f ih =>
  intro g n hf hg
  cases g with
  | zero => obtain rfl : n = 0 := by omega
            rw [blenTo_zero, blenTo_zero]
  | succ g =>
   rw [blenTo, blenTo]
   by_cases h : n = 0
   · rw [if_pos h, if_pos h]
   · rw [if_neg h, if_neg h, ih g (n / 2) (by omega) (by omega)]
theorem blen_zero : blen 0 = 0 := rfl
theorem blen_pos {n : Nat} (h : n ≠ 0) : blen n = 1 + blen (n / 2) := by
 cases n with
 | zero => exact absurd rfl h
 | succ m =>
  rw [blen, blenTo, if_neg h, blen, blenTo_more m ((m + 1) / 2) ((m + 1) / 2) (by omega) (Nat.le_refl _)]
theorem blen_spec {n : Nat} (h : n ≠ 0) : 2 ^ (blen n - 1) ≤ n ∧ n < 2 ^ blen n ∧ blen n ≠ 0 := by
 induction n using Nat.strongRecOn with
 | ind n ih =>
  rw [blen_pos h]
  by_cases h2 : n / 2 = 0
  · have : n = 1 := by omega
    subst this
    rw [h2, blen_zero]; simp
  · obtain ⟨a, b, c⟩ := ih (n / 2) (by omega) h2
    refine ⟨?_, ?_, by omega⟩
    · rw [show 1 + blen (n / 2) - 1 = (blen (n / 2) - 1) + 1 by omega, Nat.pow_succ]; omega
    · rw [Nat.add_comm, Nat.pow_succ]; omega
theorem blen_lt (n : Nat) : n < 2 ^ blen n := by
 by_cases h : n = 0
 · subst h; rw [blen_zero]; simp
 · exact (blen_spec h).2.1
theorem pow32 (k : Nat) : 4294967296 ^ k = 2 ^ (32 * k) := by rw [Nat.pow_mul]
theorem lim_eq_div (xs : List Nat) (hs : Small xs) (k : Nat) : val xs / 4294967296 ^ k % 4294967296 = lim xs k := by
 induction xs generalizing k with
 | nil => simp [val, lim]
 | cons x xs ih =>
  rw [small_cons] at hs
  cases k with
  | zero => simp [val, lim]; omega
  | succ k =>
   have := ih hs.2 k
   rw [val, Nat.pow_succ, Nat.mul_comm (4294967296 ^ k), ← Nat.div_div_eq_div_mul]
   have e : (x + 4294967296 * val xs) / 4294967296 = val xs := by omega
   rw [e, this]
   simp [lim]
end Go.Proofs.YtheaepceghnkpaaGreatDoor.Limb

/- Plain mathematics of long division limb by limb: by one limb, the guess of a quotient's limb, what is taken away and paid back. No condition. -/
namespace Go.Proofs.YtheaepceghnkpaaGreatDoor.Limb
theorem val_drop_lim {xs : List Nat} {k : Nat} (h : k < xs.length) : val (xs.drop k) = lim xs k + 4294967296 * val (xs.drop (k + 1)) := by
 rw [List.drop_eq_getElem_cons h, val, lim, List.getD_eq_getElem?_getD, List.getElem?_eq_getElem h]; rfl
theorem val_drop_end {xs : List Nat} {k : Nat} (h : xs.length ≤ k) : val (xs.drop k) = 0 := by
 rw [List.drop_eq_nil_of_le h]; rfl
def OneInv (xs zs : List Nat) (v k r : Nat) : Prop :=
 zs.length = xs.length ∧ (∀ j, j < k → lim zs j = lim xs j) ∧ val (zs.drop k) * v + r = val (xs.drop k) ∧ r < v
theorem OneInv.start (xs : List Nat) {v : Nat} (hv : v ≠ 0) : OneInv xs xs v xs.length 0 := ⟨rfl, fun _ _ => rfl, by rw [val_drop_end (Nat.le_refl _)]; omega, by omega⟩
theorem OneInv.step {xs zs : List Nat} {v k r : Nat} (h : OneInv xs zs v (k + 1) r) (hk : k < xs.length) :
 OneInv xs (zs.set k ((r * 4294967296 + lim zs k) / v)) v k ((r * 4294967296 + lim zs k) % v) := by
 obtain ⟨h1, h2, h3, h4⟩ := h
 have hx := h2 k (by omega)
 refine ⟨by simpa using h1, fun j hj => by rw [lim_set_ne (by omega)]; exact h2 j (by omega), ?_, Nat.mod_lt _ (by omega)⟩
 rw [val_drop_lim (xs := zs.set k _) (by simp; omega), lim_set_self (by omega), drop_succ_set, val_drop_lim hk, ← h3, hx]
 have hd := Nat.div_add_mod (r * 4294967296 + lim xs k) v
 generalize (r * 4294967296 + lim xs k) / v = q at *
 generalize (r * 4294967296 + lim xs k) % v = m at *
 generalize val (zs.drop (k + 1)) = z at *
 have e1 : (q + 4294967296 * z) * v = v * q + 4294967296 * (z * v) := by rw [Nat.add_mul, Nat.mul_comm q v, Nat.mul_assoc]
 rw [e1]
 omega
theorem OneInv.done {xs zs : List Nat} {v r : Nat} (h : OneInv xs zs v 0 r) : val zs = val xs / v ∧ r = val xs % v := by
 obtain ⟨_, _, h3, h4⟩ := h
 simp only [List.drop_zero] at h3
 have hv : 0 < v := by omega
 have e : val xs = r + v * val zs := by rw [← h3, Nat.mul_comm]; omega
 constructor
 · rw [e, Nat.add_mul_div_left _ _ hv, Nat.div_eq_of_lt h4]; omega
 · rw [e, Nat.add_mul_mod_self_left, Nat.mod_eq_of_lt h4]
def LessInv (rs bs zs : List Nat) (v k cr br : Nat) : Prop :=
 zs.length = rs.length ∧ val (zs.take k) + v * val (bs.take k) = val (rs.take k) + (cr + br) * 4294967296 ^ k ∧ (∀ j, k ≤ j → lim zs j = lim rs j) ∧ cr < 4294967296 ∧ br ≤ 1
theorem LessInv.start (rs bs : List Nat) (v : Nat) : LessInv rs bs rs v 0 0 0 := ⟨rfl, by simp [val], fun _ _ => rfl, by omega, by omega⟩
theorem less_step {P x d b v cr br lo cr2 br2 Z S T : Nat} (h : Z + v * S = T + (cr + br) * P) (hp : cr + b * v = lo + cr2 * 4294967296) (hd : d + lo + br = x + br2 * 4294967296) :
 (Z + P * d) + v * (S + P * b) = (T + P * x) + (cr2 + br2) * (P * 4294967296) := by grind
theorem LessInv.step {rs bs zs : List Nat} {v k cr br lo cr2 : Nat} (h : LessInv rs bs zs v k cr br) (hr : Small rs) (hk : k < rs.length) (hb : Small bs) (hv : v < 4294967296)
 (hlo : lo < 4294967296) (hp : cr + lim bs k * v = lo + cr2 * 4294967296) :
 LessInv rs bs (zs.set k (diffLo (lim zs k) lo br)) v (k + 1) cr2 (diffHi (lim zs k) lo br) := by
 obtain ⟨h1, h2, h3, h4, h5⟩ := h
 have hx := h3 k (Nat.le_refl _)
 refine ⟨by simpa using h1, ?_, fun j hj => by rw [lim_set_ne (by omega)]; exact h3 j (by omega), ?_, diffHi_le _ _ _⟩
 · have hd := diff_parts (x := lim zs k) (y := lo) (c := br) (by rw [hx]; exact lim_lt hr k) hlo h5
   rw [val_take_set (by omega), val_take_lim bs, val_take_lim rs, Nat.pow_succ, ← hx]
   exact less_step h2 hp hd
 · have h6 : lim bs k * v ≤ 4294967295 * 4294967295 := Nat.mul_le_mul (by have := lim_lt hb k; omega) (by omega)
   omega
def DivInv (xs ys rs qs : List Nat) (m k : Nat) : Prop := val (qs.drop k) * val ys + val (rs.take m) = val (xs.drop k) ∧ val (rs.take m) < val ys
theorem top_pow {ys : List Nat} {m : Nat} (hl : ys.length = m) (hm : 1 ≤ m) (hh : 0 < lim ys (m - 1)) : 4294967296 ^ (m - 1) ≤ val ys := by
 obtain ⟨k, rfl⟩ : ∃ k, m = k + 1 := ⟨m - 1, by omega⟩
 have h := val_take_lim ys k
 rw [List.take_of_length_le (by omega)] at h
 rw [Nat.add_sub_cancel] at hh ⊢
 have : 4294967296 ^ k * 1 ≤ 4294967296 ^ k * lim ys k := Nat.mul_le_mul_left _ hh
 omega
theorem DivInv.start {xs ys : List Nat} {m s : Nat} (hx : Small xs) (hs : s + m = xs.length + 1) (hm : 2 ≤ m) (hy : ys.length = m) (hh : 0 < lim ys (m - 1)) : DivInv xs ys (xs.drop s ++ [0, 0]) (List.replicate s 0) m s := by
 have hl : (xs.drop s).length = m - 1 := by rw [List.length_drop]; omega
 have e : (xs.drop s ++ [0, 0]).take m = xs.drop s ++ [0] := by
  rw [List.take_append, hl, List.take_of_length_le (by omega), show m - (m - 1) = 1 by omega]
  rfl
 have ev : val ((xs.drop s ++ [0, 0]).take m) = val (xs.drop s) := by
  rw [e, val_append]; simp [val]
 refine ⟨?_, ?_⟩
 · rw [ev, val_drop_end (by simp)]; omega
 · rw [ev]
   have h := val_lt (small_drop hx s)
   rw [hl] at h
   exact Nat.lt_of_lt_of_le h (top_pow hy (by omega) hh)
theorem DivInv.lt {xs ys rs qs : List Nat} {m k x : Nat} (h : DivInv xs ys rs qs m k) (hx : x < 4294967296) : val (x :: rs.take m) < val ys * 4294967296 := by
 have := h.2
 rw [val]
 omega
theorem DivInv.step {xs ys rs qs zs : List Nat} {m j : Nat} (h : DivInv xs ys rs qs m (j + 1)) (hj : j < xs.length) (hq : j < qs.length) (hz : val (zs.take m) = val (lim xs j :: rs.take m) % val ys) :
 DivInv xs ys zs (qs.set j (val (lim xs j :: rs.take m) / val ys)) m j := by
 have hy : 0 < val ys := Nat.lt_of_le_of_lt (Nat.zero_le _) h.2
 obtain ⟨h1, h2⟩ := h
 refine ⟨?_, by rw [hz]; exact Nat.mod_lt _ hy⟩
 rw [val_drop_lim (xs := qs.set j _) (by simp; exact hq), lim_set_self hq, drop_succ_set, hz, val_drop_lim hj, ← h1]
 have hd := Nat.div_add_mod (val (lim xs j :: rs.take m)) (val ys)
 generalize val (lim xs j :: rs.take m) / val ys = q at *
 have hv : val (lim xs j :: rs.take m) = lim xs j + 4294967296 * val (rs.take m) := rfl
 rw [hv] at hd ⊢
 generalize (lim xs j + 4294967296 * val (rs.take m)) % val ys = r at *
 generalize val (qs.drop (j + 1)) = Q at *
 have e1 : (q + 4294967296 * Q) * val ys = val ys * q + 4294967296 * (Q * val ys) := by rw [Nat.add_mul, Nat.mul_comm q, Nat.mul_assoc]
 rw [e1]
 omega
theorem DivInv.done {xs ys rs qs : List Nat} {m : Nat} (h : DivInv xs ys rs qs m 0) : val qs = val xs / val ys ∧ val (rs.take m) = val xs % val ys := by
 obtain ⟨h3, h4⟩ := h
 simp only [List.drop_zero] at h3
 have hv : 0 < val ys := by omega
 have e : val xs = val (rs.take m) + val ys * val qs := by rw [← h3, Nat.mul_comm]; omega
 constructor
 · rw [e, Nat.add_mul_div_left _ _ hv, Nat.div_eq_of_lt h4]; omega
 · rw [e, Nat.add_mul_mod_self_left, Nat.mod_eq_of_lt h4]
end Go.Proofs.YtheaepceghnkpaaGreatDoor.Limb

/- Plain mathematics of products of limbs: a row of products with carries, rows added one above the other, moves by bits, powers bit by bit. No condition. -/
namespace Go.Proofs.YtheaepceghnkpaaGreatDoor.Limb
def RowInv (xs ps zs : List Nat) (v k cr : Nat) : Prop :=
 val (zs.take k) + cr * 4294967296 ^ k = val (ps.take k) + v * val (xs.take k) ∧ cr < 4294967296
theorem RowInv.start (xs ps zs : List Nat) (v : Nat) : RowInv xs ps zs v 0 0 := ⟨by simp [val], by omega⟩
theorem row_step {S Q X x v p cr P lo hi : Nat} (h : S + cr * P = Q + v * X) (e : lo + hi * 4294967296 = cr + x * v + p) : S + P * lo + hi * (P * 4294967296) = Q + P * p + v * (X + P * x) := by
 have h1 := congrArg (P * ·) e
 simp only [Nat.mul_add] at h1
 rw [Nat.mul_left_comm P hi, Nat.mul_comm x v, Nat.mul_left_comm P v] at h1
 rw [Nat.mul_add, Nat.mul_comm cr P] at *
 omega
theorem limb_prod {x v : Nat} (hx : x < 4294967296) (hv : v < 4294967296) : x * v ≤ 18446744065119617025 :=
 Nat.mul_le_mul (show x ≤ 4294967295 by omega) (show v ≤ 4294967295 by omega)
theorem RowInv.step {xs ps zs : List Nat} {v k cr lo hi : Nat} (h : RowInv xs ps zs v k cr) (hz : k < zs.length) (hx : Small xs) (hp : Small ps) (hv : v < 4294967296)
 (hlo : lo < 4294967296) (e : lo + hi * 4294967296 = cr + lim xs k * v + lim ps k) : RowInv xs ps (zs.set k lo) v (k + 1) hi := by
 obtain ⟨h1, h2⟩ := h
 refine ⟨?_, ?_⟩
 · rw [val_take_set hz, val_take_lim ps, val_take_lim xs, Nat.pow_succ]
   exact row_step h1 e
 · have := limb_prod (lim_lt hx k) hv
   have := lim_lt hp k
   omega
theorem RowInv.done {xs ps zs : List Nat} {v k cr : Nat} (h : RowInv xs ps zs v k cr) (hz : zs.length = k + 1) (hx : xs.length = k) : val (zs.set k cr) = val (ps.take k) + v * val xs := by
 obtain ⟨h1, h2⟩ := h
 have e : (zs.set k cr).take (k + 1) = zs.set k cr := List.take_of_length_le (by simp; omega)
 rw [← e, val_take_set (by omega)]
 rw [List.take_of_length_le (by omega : xs.length ≤ k)] at h1
 rw [← h1, Nat.mul_comm]
def lay (zs : List Nat) (i : Nat) (ys : List Nat) : List Nat := zs.take i ++ ys ++ zs.drop (i + ys.length)
theorem lay_length {zs ys : List Nat} {i : Nat} (h : i + ys.length ≤ zs.length) : (lay zs i ys).length = zs.length := by simp [lay]; omega
theorem lim_drop (zs : List Nat) (i j : Nat) : lim (zs.drop i) j = lim zs (i + j) := by simp [lim, List.getD_eq_getElem?_getD]
theorem val_zero {zs : List Nat} (h : ∀ j, lim zs j = 0) : val zs = 0 := by
 induction zs with
 | nil => rfl
 | cons z zs ih =>
  have h0 := h 0
  have h1 : val zs = 0 := ih fun j => by have := h (j + 1); simpa [lim] using this
  simp [lim] at h0
  rw [val, h0, h1]
theorem lay_lim {zs ys : List Nat} {i j : Nat} (h : i + ys.length ≤ zs.length) (hj : i + ys.length ≤ j) : lim (lay zs i ys) j = lim zs j := by
 unfold lay lim
 rw [List.getD_eq_getElem?_getD, List.getD_eq_getElem?_getD, List.getElem?_append_right (by simp; omega)]
 simp
 congr 2
 omega
def MulInv (long short zs : List Nat) (i : Nat) : Prop :=
 zs.length = long.length + short.length ∧ val zs = val long * val (short.take i) ∧ ∀ j, i + long.length ≤ j → lim zs j = 0
theorem MulInv.start (long short : List Nat) : MulInv long short (List.replicate (long.length + short.length) 0) 0 := by
 have h : ∀ j, lim (List.replicate (long.length + short.length) 0) j = 0 := fun j => by
  simp [lim, List.getD_eq_getElem?_getD, List.getElem?_replicate]; split <;> rfl
 exact ⟨by simp, by rw [val_zero h]; simp [val], fun j _ => h j⟩
theorem MulInv.step {long short zs ys : List Nat} {i : Nat} (h : MulInv long short zs i) (hi : i < short.length) (hy : ys.length = long.length + 1)
 (hv : val ys = val ((zs.drop i).take long.length) + lim short i * val long) : MulInv long short (lay zs i ys) (i + 1) := by
 obtain ⟨h1, h2, h3⟩ := h
 refine ⟨by rw [lay_length (by omega), h1], ?_, fun j hj => by rw [lay_lim (by omega) (by omega)]; exact h3 j (by omega)⟩
 have e0 : val (zs.drop (i + ys.length)) = 0 := val_zero fun j => by rw [lim_drop]; exact h3 _ (by omega)
 have e1 : val (zs.drop (i + long.length)) = 0 := val_zero fun j => by rw [lim_drop]; exact h3 _ (by omega)
 have e2 := val_split zs i (by omega)
 have e3 := val_split (zs.drop i) long.length (by simp; omega)
 rw [List.drop_drop, e1, Nat.mul_zero, Nat.add_zero] at e3
 rw [e3, h2] at e2
 rw [val_take_lim, Nat.mul_add, e2, lay, List.append_assoc, val_append, val_append, e0, hv, List.length_take, Nat.min_eq_left (by omega), Nat.mul_zero, Nat.add_zero, Nat.mul_add, Nat.add_assoc,
  Nat.mul_comm (lim short i), Nat.mul_left_comm (val long)]
theorem MulInv.done {long short zs : List Nat} (h : MulInv long short zs short.length) : val zs = val long * val short := by
 have := h.2.1
 rwa [List.take_of_length_le (Nat.le_refl _)] at this
theorem val_zeros (k : Nat) (xs : List Nat) : val (List.replicate k 0 ++ xs) = 4294967296 ^ k * val xs := by
 rw [val_append, List.length_replicate, val_zero (fun j => by simp [lim, List.getD_eq_getElem?_getD, List.getElem?_replicate]; split <;> rfl), Nat.zero_add]
theorem small_zeros (k : Nat) : Small (List.replicate k 0) := by intro x hx; rw [List.mem_replicate] at hx; omega
theorem pow_move (n : Nat) : 4294967296 ^ (n / 32) * 2 ^ (n % 32) = 2 ^ n := by
 rw [pow32, ← Nat.pow_add]; congr 1; omega
end Go.Proofs.YtheaepceghnkpaaGreatDoor.Limb

/- Regions that leave their order open: one law by an invariant over what has come up, whatever the order (no branch for each order). Of any program; no condition. -/
namespace Go.Proofs.YtheaepceghnkpaaGreatDoor
open Go.RowKit
set_option linter.unusedVariables false
def Over (w0 : World) (q : Nat) (w : World) : Prop := w0.heap.size ≤ q
theorem Over.below {w0 w w' : World} {q : Nat} (h : Over w0 q w) (hb : Below w.heap.size w w') : Over w0 q w' := h
section
variable {P : Program} {ops : Array Oper} {Q : Exit → Act → World → Prop} {md : Region.Mode}
def left (listed : Array Bool) : Nat → Nat
 | 0 => 0
 | k + 1 => left listed k + (if listed.getD k false = true then 0 else 1)
theorem left_zero {listed : Array Bool} : ∀ {m}, left listed m = 0 → ∀ k, k < m → listed.getD k false = true
 | 0, _, k, hk => by omega
 | m + 1, h, k, hk => by
  unfold left at h
  split at h
  · rename_i h1
    rcases Nat.lt_or_ge k m with h2 | h2
    · exact left_zero (by omega) k h2
    · obtain rfl : k = m := by omega
      exact h1
  · omega
theorem getD_same {listed : Array Bool} {i : Nat} (h : i < listed.size) (d : Bool) : (listed.setIfInBounds i true).getD i d = true := by
 simp [Array.getD_eq_getD_getElem?, h]
theorem getD_other {listed : Array Bool} {i k : Nat} (h : i ≠ k) (d : Bool) : (listed.setIfInBounds i true).getD k d = listed.getD k d := by
 simp [Array.getD_eq_getD_getElem?, h]
theorem left_same {listed : Array Bool} {i : Nat} : ∀ {m}, m ≤ i → left (listed.setIfInBounds i true) m = left listed m
 | 0, _ => rfl
 | m + 1, h => by
  unfold left
  rw [left_same (by omega), getD_other (by omega)]
theorem left_set {listed : Array Bool} {i : Nat} (hs : i < listed.size) (hi : listed.getD i false = false) : ∀ {m}, i < m → left (listed.setIfInBounds i true) m + 1 = left listed m
 | 0, h => by omega
 | m + 1, h => by
  unfold left
  rcases Nat.lt_or_ge i m with h1 | h1
  · have := left_set hs hi h1
    rw [getD_other (by omega)]
    omega
  · obtain rfl : i = m := by omega
    rw [left_same (Nat.le_refl _), getD_same hs, hi]
    simp
theorem wpAny_inv (m : Nat) (J : Array Bool → Act → World → Prop)
 (hsize : ∀ l a w, J l a w → l.size = ops.size ∧ ∀ k, m ≤ k → l.getD k false = false)
 (hm : m ≤ ops.size)
 (hback : ∀ (i : Nat) (o : Oper), i < m → ops[i]? = some o → ∀ e ∈ o.after, Region.binds md e = true → e.on < i)
 (hstep : ∀ l a w i, J l a w → i ∈ Region.ready md ops l → i < m → wpOp P ops Q i (fun a' w' => J (l.setIfInBounds i true) a' w') a w)
 (hwait : ∀ l a w i, J l a w → i ∈ Region.ready md ops l → m ≤ i → ∀ k, k < m → l.getD k false = true)
 (hfin : ∀ l a w, J l a w → (∀ k, k < m → l.getD k false = true) → wpAny P md ops Q (ops.size - m) l a w) :
 ∀ (c : Nat) (l : Array Bool) (a : Act) (w : World), left l m = c → J l a w → wpAny P md ops Q (ops.size - m + c) l a w := by
 intro c
 induction c with
 | zero => exact fun l a w hc hj => hfin l a w hj (left_zero hc)
 | succ c ih =>
  intro l a w hc hj
  obtain ⟨hs, hlater⟩ := hsize l a w hj
  have hex : ∃ k, k < m ∧ l.getD k false = false := by
   rcases Classical.em (∃ k, k < m ∧ l.getD k false = false) with h | h
   · exact h
   · exfalso
     have hall : ∀ k, k < m → l.getD k false = true := fun k hk => by
      cases hb : l.getD k false with
      | true => rfl
      | false => exact absurd ⟨k, hk, hb⟩ h
     have hz : ∀ j, j ≤ m → left l j = 0 := fun j => by
      induction j with
      | zero => exact fun _ => rfl
      | succ j ihj => exact fun hj2 => by unfold left; rw [ihj (by omega), hall j (by omega)]; rfl
     have := hz m (Nat.le_refl _)
     omega
  refine ⟨fun hr => ?_, fun i hi => ?_⟩
  · exfalso
    -- the least one that has not come up may come up
    obtain ⟨k0, hk0, hb0⟩ := hex
    have hleast : ∀ n, (∃ k, k ≤ n ∧ k < m ∧ l.getD k false = false) → ∃ k, k < m ∧ l.getD k false = false ∧ ∀ j, j < k → l.getD j false = true := by
     intro n
     induction n with
     | zero =>
      rintro ⟨k, h1, h2, h3⟩
      obtain rfl : k = 0 := by omega
      exact ⟨0, h2, h3, fun j hj2 => by omega⟩
     | succ n ihn =>
      rintro ⟨k, h1, h2, h3⟩
      rcases Classical.em (∃ k, k ≤ n ∧ k < m ∧ l.getD k false = false) with h | h
      · exact ihn h
      · refine ⟨k, h2, h3, fun j hj2 => ?_⟩
        cases hb : l.getD j false with
        | true => rfl
        | false => exact absurd ⟨j, by omega, by omega, hb⟩ h
    obtain ⟨k, hk, hb, hmin⟩ := hleast k0 ⟨k0, Nat.le_refl _, hk0, hb0⟩
    have hko : k < ops.size := by omega
    have : k ∈ Region.ready md ops l := mem_ready.2 ⟨by
     simp only [Array.getD_eq_getD_getElem?] at hb ⊢
     rw [Array.getElem?_eq_getElem (by omega)] at hb ⊢
     simpa using hb, ops[k], Array.getElem?_eq_getElem hko, fun e he hbi => hmin _ (hback k _ hk (Array.getElem?_eq_getElem hko) e he hbi)⟩
    rw [hr] at this
    cases this
  · rcases Nat.lt_or_ge i m with h1 | h1
    · have hu : l.getD i false = false := by
       have h2 := (mem_ready.1 hi).1
       simp only [Array.getD_eq_getD_getElem?] at h2 ⊢
       rw [Array.getElem?_eq_getElem (by omega)] at h2 ⊢
       simpa using h2
      have hl := left_set (m := m) (by omega : i < l.size) hu h1
      exact wpOp_mono (fun a' w' hj2 => ih _ a' w' (by omega) hj2) (hstep l a w i hj hi h1)
    · exfalso
      obtain ⟨k, hk, hb⟩ := hex
      rw [hwait l a w i hj hi h1 k hk] at hb
      cases hb
def afters (ops : Array Oper) (i : Nat) : List Nat :=
 match ops[i]? with
 | some o => (o.after.toList.filter (Region.binds .any)).map fun e => e.on
 | none => []
theorem ready_after {l : Array Bool} {i e : Nat} (hi : i ∈ Region.ready .any ops l) (he : e ∈ afters ops i) : l.getD e false = true := by
 obtain ⟨_, o, ho, h⟩ := mem_ready.1 hi
 unfold afters at he
 rw [ho] at he
 obtain ⟨x, hx, rfl⟩ := List.mem_map.1 he
 obtain ⟨h1, h2⟩ := List.mem_filter.1 hx
 exact h x (by simpa using h1) h2
def anc (ops : Array Oper) : Nat → Nat → List Nat
 | 0, _ => []
 | f + 1, i => afters ops i ++ (afters ops i).flatMap (anc ops f)
theorem anc_up {l : Array Bool} (hd : ∀ k, l.getD k false = true → ∀ e ∈ afters ops k, l.getD e false = true) : ∀ (f i : Nat), (∀ e ∈ afters ops i, l.getD e false = true) → ∀ e ∈ anc ops f i, l.getD e false = true
 | 0, _, _, e, he => by cases he
 | f + 1, i, h, e, he => by
  unfold anc at he
  rcases List.mem_append.1 he with h1 | h1
  · exact h e h1
  · obtain ⟨x, hx, hy⟩ := List.mem_flatMap.1 h1
    exact anc_up hd f x (hd x (h x hx)) e hy
def isPlain : Op → Bool
 | .select _ _ => false
 | _ => true
def fill (D : Nat → Option Tmp) (vals : Nat → Value) (l : Array Bool) (a : Act) : Nat → Act
 | 0 => a
 | k + 1 => if l.getD k false = true then (fill D vals l a k).put (D k) (vals k) else fill D vals l a k
def fillAll (D : Nat → Option Tmp) (vals : Nat → Value) (a : Act) : Nat → Act
 | 0 => a
 | k + 1 => (fillAll D vals a k).put (D k) (vals k)
def upd (vals : Nat → Value) (i : Nat) (v : Value) : Nat → Value := fun k => if k = i then v else vals k
theorem put_size (a : Act) (d : Option Tmp) (v : Value) : (a.put d v).tmps.size = a.tmps.size := by
 cases d <;> simp [Act.put]
theorem put_defers2 (a : Act) (d : Option Tmp) (v : Value) : (a.put d v).defers = a.defers := by
 cases d <;> rfl
theorem put_same (a : Act) (d : Tmp) (v : Value) (h : d < a.tmps.size) : (a.put (some d) v).eval (.tmp d) = v := by
 simp [Act.put, Act.eval, Array.getD_eq_getD_getElem?, h]
theorem fill_size (D : Nat → Option Tmp) (vals : Nat → Value) (l : Array Bool) (a : Act) : ∀ m, (fill D vals l a m).tmps.size = a.tmps.size
 | 0 => rfl
 | m + 1 => by unfold fill; split <;> simp [put_size, fill_size]
theorem fillAll_size (D : Nat → Option Tmp) (vals : Nat → Value) (a : Act) : ∀ m, (fillAll D vals a m).tmps.size = a.tmps.size
 | 0 => rfl
 | m + 1 => by simp [fillAll, put_size, fillAll_size]
theorem fill_defers (D : Nat → Option Tmp) (vals : Nat → Value) (l : Array Bool) (a : Act) : ∀ m, (fill D vals l a m).defers = a.defers
 | 0 => rfl
 | m + 1 => by unfold fill; split <;> simp [put_defers2, fill_defers]
theorem fillAll_defers (D : Nat → Option Tmp) (vals : Nat → Value) (a : Act) : ∀ m, (fillAll D vals a m).defers = a.defers
 | 0 => rfl
 | m + 1 => by simp [fillAll, put_defers2, fillAll_defers]
theorem fill_all {D : Nat → Option Tmp} {vals : Nat → Value} {l : Array Bool} {a : Act} : ∀ {m}, (∀ k, k < m → l.getD k false = true) → fill D vals l a m = fillAll D vals a m
 | 0, _ => rfl
 | m + 1, h => by
  unfold fill fillAll
  rw [if_pos (h m (by omega)), fill_all fun k hk => h k (by omega)]
theorem fill_none {D : Nat → Option Tmp} {vals : Nat → Value} {l : Array Bool} {a : Act} : ∀ {m}, (∀ k, k < m → l.getD k false = false) → fill D vals l a m = a
 | 0, _ => rfl
 | m + 1, h => by
  unfold fill
  rw [if_neg (by simp [h m (by omega)]), fill_none fun k hk => h k (by omega)]
theorem fill_congr {D : Nat → Option Tmp} {vals vals' : Nat → Value} {l l' : Array Bool} {a : Act} : ∀ {m}, (∀ k, k < m → l.getD k false = l'.getD k false ∧ vals k = vals' k) → fill D vals l a m = fill D vals' l' a m
 | 0, _ => rfl
 | m + 1, h => by
  obtain ⟨h1, h2⟩ := h m (by omega)
  unfold fill
  rw [h1, h2, fill_congr fun k hk => h k (by omega)]
theorem fill_set {D : Nat → Option Tmp} {vals : Nat → Value} {l : Array Bool} {a : Act} {i : Nat} {v : Value} (hs : i < l.size) (hu : l.getD i false = false) :
 ∀ {m}, i < m → (∀ j, j < m → j ≠ i → ∀ d, D j = some d → D i ≠ some d) → (fill D vals l a m).put (D i) v = fill D (upd vals i v) (l.setIfInBounds i true) a m
 | 0, h, _ => by omega
 | m + 1, h, hd => by
  rcases Nat.lt_or_ge i m with h1 | h1
  · have ih := fill_set (D := D) (vals := vals) (a := a) (v := v) hs hu h1 fun j hj => hd j (by omega)
    unfold fill
    rw [getD_other (by omega : i ≠ m), ← ih, show upd vals i v m = vals m from if_neg (by omega)]
    split
    · exact Act.put_comm _ _ _ (hd m (by omega) (by omega))
    · rfl
  · obtain rfl : i = m := by omega
    unfold fill
    rw [if_neg (by simp [hu]), if_pos (getD_same hs _), show upd vals i v i = v from if_pos rfl]
    rw [fill_congr (vals := vals) (vals' := upd vals i v) (l := l) (l' := l.setIfInBounds i true) fun k hk => ⟨(getD_other (by omega) _).symm, (if_neg (by omega)).symm⟩]
theorem fill_eval {D : Nat → Option Tmp} {vals : Nat → Value} {l : Array Bool} {a : Act} {x : Operand} :
 ∀ {m}, (∀ k, k < m → l.getD k false = false → ∀ d, D k = some d → x ≠ .tmp d) → (fill D vals l a m).eval x = (fillAll D vals a m).eval x
 | 0, _ => rfl
 | m + 1, h => by
  have ih := fill_eval (D := D) (vals := vals) (l := l) (a := a) (x := x) (m := m) fun k hk => h k (by omega)
  unfold fill fillAll
  cases hb : l.getD m false with
  | true =>
   rw [if_pos rfl]
   by_cases hx : ∃ d, D m = some d ∧ x = .tmp d
   · obtain ⟨d, h1, rfl⟩ := hx
     rw [h1]
     simp only [Act.put, Act.eval, Array.getD_eq_getD_getElem?, Array.getElem?_setIfInBounds, fill_size, fillAll_size, if_true]
   · rw [Act.eval_put fun d h1 h2 => hx ⟨d, h1, h2⟩, Act.eval_put fun d h1 h2 => hx ⟨d, h1, h2⟩, ih]
  | false =>
   rw [if_neg (by simp), Act.eval_put (h m (by omega) hb), ih]
def FreeStep (P : Program) (Q : Exit → Act → World → Prop) (ops : Array Oper) (ds : List Tmp) (aF : (Nat → Value) → Act) (S : World → Prop) (Φ : Nat → Value → World → Prop) (fresh : Nat → Bool) (i : Nat) (o : Oper) : Prop :=
 ∀ (vals : Nat → Value) (w : World), S w → (∀ e ∈ afters ops i, Φ e (vals e) w) → ∀ K : Act → World → Prop,
  (∀ a' w', a'.defers = (aF vals).defers → Below w.heap.size w w' → Φ i (a'.eval (.tmp (ds.getD i 0))) w' → (fresh i = true → ∃ q, a'.eval (.tmp (ds.getD i 0)) = .pointer (some ⟨q, 0, none⟩) ∧ w.heap.size ≤ q ∧ q < w'.heap.size) → K a' w') →
  o.wp P (aF vals) w K Q
def AllAt (F : Nat → Oper → Prop) : Nat → List Oper → Nat → Prop
 | _, _, 0 => True
 | _, [], _ + 1 => True
 | k, o :: os, n + 1 => F k o ∧ AllAt F (k + 1) os n
theorem AllAt.nil {F : Nat → Oper → Prop} {k : Nat} {os : List Oper} : AllAt F k os 0 := by unfold AllAt; trivial
theorem AllAt.cons {F : Nat → Oper → Prop} {k n : Nat} {o : Oper} {os : List Oper} (h : F k o) (t : AllAt F (k + 1) os n) : AllAt F k (o :: os) (n + 1) := ⟨h, t⟩
theorem AllAt.at {F : Nat → Oper → Prop} : ∀ {k : Nat} {os : List Oper} {n : Nat}, AllAt F k os n → ∀ i, i < n → ∀ o, os[i]? = some o → F (k + i) o
 | _, _, 0, _, i, h, _, _ => by omega
 | _, [], _ + 1, _, i, _, o, ho => by cases i <;> cases ho
 | k, x :: xs, n + 1, h, 0, _, o, ho => by
  obtain rfl : x = o := by simpa using ho
  exact h.1
 | k, x :: xs, n + 1, h, i + 1, hi, o, ho => by
  have := AllAt.at h.2 i (by omega) o (by simpa using ho)
  rwa [show k + 1 + i = k + (i + 1) by omega] at this
def firsts (n m : Nat) : Array Bool := ((List.range n).map fun k => decide (k < m)).toArray
theorem firsts_eq {l : Array Bool} {n m : Nat} (hs : l.size = n) (hm : m ≤ n) (h : ∀ k, l.getD k false = decide (k < m)) : l = firsts n m := by
 apply Array.ext_getElem?
 intro k
 have := h k
 rw [show (firsts n m)[k]? = ((List.range n).map fun k => decide (k < m))[k]? from List.getElem?_toArray .., List.getElem?_map]
 rcases Nat.lt_or_ge k n with hk | hk
 · rw [List.getElem?_range hk, Array.getElem?_eq_getElem (by omega)]
   simp only [Array.getD_eq_getD_getElem?, Array.getElem?_eq_getElem (show k < l.size by omega), Option.getD_some] at this
   simp [this]
 · rw [Array.getElem?_eq_none (by omega), List.getElem?_eq_none (by simpa using hk)]
   rfl
end
end Go.Proofs.YtheaepceghnkpaaGreatDoor

/- Regions that leave their order open and hold guarded operations ('&&', '||'): the law of XFree, where each guard's value is known. Of any program; no condition. -/
namespace Go.Proofs.YtheaepceghnkpaaGreatDoor
open Go.RowKit
set_option linter.unusedVariables false
section
variable {P : Program} {ops : Array Oper} {Q : Exit → Act → World → Prop}
def okAtG (ops : Array Oper) (m : Nat) (ds : List Tmp) (N : Nat) (i : Nat) : Bool :=
 match ops[i]? with
 | none => false
 | some o => o.dst == ds[i]? && decide (i < ds.length) && decide (ds.getD i 0 < N) && (match o.guard with | none => true | some (g, _) => (afters ops i).contains g) && isPlain o.op && (afters ops i).all (fun e => decide (e < i)) &&
  (List.range m).all (fun k => k == i || ds[k]? != ds[i]?) &&
  o.op.operands.toList.all (fun x => match x with
   | .tmp t => (List.range m).all fun k => ds[k]? != some t || (afters ops i).contains k
   | _ => true)
theorem okAtG_spec {m : Nat} {ds : List Tmp} {N i : Nat} (h : okAtG ops m ds N i = true) :
 ∃ o, ops[i]? = some o ∧ o.dst = some (ds.getD i 0) ∧ ds[i]? = some (ds.getD i 0) ∧ ds.getD i 0 < N ∧ (∀ g b, o.guard = some (g, b) → g ∈ afters ops i) ∧ (∀ cs b, o.op ≠ .select cs b) ∧ (∀ e ∈ afters ops i, e < i) ∧
  (∀ k, k < m → k ≠ i → ds[k]? ≠ ds[i]?) ∧ (∀ x ∈ o.op.operands, ∀ t, x = .tmp t → ∀ k, k < m → ds[k]? = some t → k ∈ afters ops i) := by
 unfold okAtG at h
 cases ho : ops[i]? with
 | none => rw [ho] at h; cases h
 | some o =>
  rw [ho] at h
  simp only [Bool.and_eq_true, beq_iff_eq, decide_eq_true_eq, List.all_eq_true, Bool.or_eq_true, bne_iff_ne, List.mem_range] at h
  obtain ⟨⟨⟨⟨⟨⟨⟨h1, h2⟩, h3⟩, h4⟩, h5⟩, h6⟩, h7⟩, h8⟩ := h
  have hi : ds[i]? = some (ds.getD i 0) := by simp [List.getD_eq_getElem?_getD, h2]
  refine ⟨o, rfl, h1.trans hi, hi, h3, ?_, ?_, h6, fun k hk hne => (h7 k hk).resolve_left hne, ?_⟩
  · intro g b he
    rw [he] at h4
    simpa using h4
  · intro cs b he
    rw [he] at h5
    cases h5
  · rintro x hx t rfl k hk hd
    have := h8 _ (by simpa using hx)
    simp only [List.all_eq_true, List.mem_range, Bool.or_eq_true, bne_iff_ne, List.contains_iff_mem] at this
    exact (this k hk).resolve_left fun h => h hd
def FreeStepG (P : Program) (Q : Exit → Act → World → Prop) (ops : Array Oper) (ds : List Tmp) (aF : (Nat → Value) → Act) (S : World → Prop) (Φ : Nat → Value → World → Prop) (fresh : Nat → Bool) (i : Nat) (o : Oper) : Prop :=
 ((∀ (vals : Nat → Value) (w : World), S w → (∀ e ∈ afters ops i, Φ e (vals e) w) → ∀ g b, o.guard = some (g, b) → vals g = .bool b) ∧ FreeStep P Q ops ds aF S Φ fresh i o) ∨
 (∃ g b, o.guard = some (g, b) ∧ (∀ (vals : Nat → Value) (w : World), S w → (∀ e ∈ afters ops i, Φ e (vals e) w) → vals g = .bool (!b)) ∧ (∀ w, S w → Φ i undef w) ∧ fresh i = false)
theorem FreeStepG.plain {ds : List Tmp} {aF : (Nat → Value) → Act} {S : World → Prop} {Φ : Nat → Value → World → Prop} {fresh : Nat → Bool} {i : Nat} {o : Oper} (hg : o.guard = none) (h : FreeStep P Q ops ds aF S Φ fresh i o) : FreeStepG P Q ops ds aF S Φ fresh i o :=
 .inl ⟨fun _ _ _ _ g b e => (by rw [hg] at e; cases e), h⟩
theorem FreeStepG.yes {ds : List Tmp} {aF : (Nat → Value) → Act} {S : World → Prop} {Φ : Nat → Value → World → Prop} {fresh : Nat → Bool} {i : Nat} {o : Oper} (hg : ∀ (vals : Nat → Value) (w : World), S w → (∀ e ∈ afters ops i, Φ e (vals e) w) → ∀ g b, o.guard = some (g, b) → vals g = .bool b) (h : FreeStep P Q ops ds aF S Φ fresh i o) : FreeStepG P Q ops ds aF S Φ fresh i o :=
 .inl ⟨hg, h⟩
theorem fill_at {D : Nat → Option Tmp} {vals : Nat → Value} {l : Array Bool} {a : Act} {g : Nat} {d : Tmp} (hg : l.getD g false = true) (hd : D g = some d) (hs : d < a.tmps.size) :
 ∀ {m}, g < m → (∀ k, k < m → k ≠ g → D k ≠ some d) → (fill D vals l a m).eval (.tmp d) = vals g
 | 0, h, _ => by omega
 | m + 1, h, hne => by
  unfold fill
  rcases Nat.lt_or_ge g m with h1 | h1
  · have ih := fill_at (vals := vals) hg hd hs (m := m) h1 fun k hk => hne k (by omega)
    split
    · rw [Act.eval_put fun e he1 he2 => hne m (by omega) (by omega) (by injection he2 with he2; rw [he2]; exact he1), ih]
    · exact ih
  · obtain rfl : g = m := by omega
    rw [if_pos hg, hd]
    exact put_same _ _ _ (by rw [fill_size]; exact hs)
theorem yielded_at {a : Act} {g : Nat} {d : Tmp} {b : Bool} (hd : (ops[g]?).bind (·.dst) = some d) (hs : d < a.tmps.size) (h : a.eval (.tmp d) = .bool b) : yielded ops a.tmps g = some b := by
 unfold yielded
 rw [hd]
 simp only [Option.bind_some]
 have h2 : a.tmps[d]? = some (.bool b) := by
  rw [Array.getElem?_eq_getElem hs]
  simp only [Act.eval, Array.getD_eq_getD_getElem?, Array.getElem?_eq_getElem hs, Option.getD_some] at h
  rw [h]
 rw [h2]
theorem region_freed {id : Nat} {a : Act} {w : World} {os : List Oper} (m r D : Nat) (ds : List Tmp) (aF : (Nat → Value) → Act) (S : World → Prop) (Φ : Nat → Value → World → Prop) (fresh : Nat → Bool)
 (hm : P.follows .mixedOrders = true)
 (haF : ∀ vals, fillAll (fun k => ds[k]?) vals a m = aF vals)
 (hr : os.length = m + r)
 (hok : (List.range m).all (okAtG os.toArray m ds a.tmps.size) = true)
 (hend : (List.range os.length).all (fun i => decide (i < m) || (List.range m).all fun k => (anc os.toArray D i).contains k) = true)
 (hQ : ∀ c (t t' : Array Value) (d : List Deferred) w, Q (.panic c) ⟨t, d⟩ w → Q (.panic c) ⟨t', d⟩ w)
 (hSb : ∀ w w', Below w.heap.size w w' → S w → S w')
 (hΦb : ∀ k v w w', Below w.heap.size w w' → Φ k v w → Φ k v w')
 (hS : S w.drew)
 (hop : AllAt (FreeStepG P Q os.toArray ds aF S Φ fresh) 0 os m)
 (hfin : ∀ (vals : Nat → Value) (w : World), S w → (∀ k, k < m → Φ k (vals k) w) →
   (∀ j k, j < m → k < m → j ≠ k → fresh j = true → fresh k = true → ∀ p q, vals j = .pointer (some ⟨p, 0, none⟩) → vals k = .pointer (some ⟨q, 0, none⟩) → p ≠ q) →
   wpAny P .any os.toArray Q r (firsts (m + r) m) (aF vals) w) :
 (Code.region id os.toArray true).wp P Q a w := by
 generalize hops : os.toArray = ops at *
 have hsz0 : ops.size = m + r := by rw [← hops]; simpa using hr
 have hle : m ≤ ops.size := by omega
 replace hend : (List.range ops.size).all (fun i => decide (i < m) || (List.range m).all fun k => (anc ops D i).contains k) = true := by rw [hsz0, ← hr]; exact hend
 replace hop : ∀ i, i < m → ∀ o, ops[i]? = some o → FreeStepG P Q ops ds aF S Φ fresh i o := fun i hi o ho => by
  have := hop.at i hi o (by rw [← hops] at ho; simpa using ho)
  rwa [Nat.zero_add] at this
 replace hfin : ∀ (vals : Nat → Value) (w : World), S w → (∀ k, k < m → Φ k (vals k) w) →
  (∀ j k, j < m → k < m → j ≠ k → fresh j = true → fresh k = true → ∀ p q, vals j = .pointer (some ⟨p, 0, none⟩) → vals k = .pointer (some ⟨q, 0, none⟩) → p ≠ q) →
  ∀ l : Array Bool, l.size = ops.size → (∀ k, l.getD k false = decide (k < m)) → wpAny P .any ops Q (ops.size - m) l (aF vals) w := fun vals w h1 h2 h3 l h4 h5 => by
  rw [firsts_eq (h4.trans hsz0) (by omega) h5, show ops.size - m = r by omega]
  exact hfin vals w h1 h2 h3
 replace hQ : ∀ c (a a' : Act) w, a.defers = a'.defers → Q (.panic c) a w → Q (.panic c) a' w := by
  rintro c ⟨t, d⟩ ⟨t', d'⟩ w he h
  obtain rfl : d = d' := he
  exact hQ c t t' d w h
 refine wp_region_any hm ?_
 have hat : ∀ i, i < m → okAtG ops m ds a.tmps.size i = true := fun i hi => List.all_eq_true.1 hok i (List.mem_range.2 hi)
 have hlate : ∀ i, m ≤ i → i < ops.size → ∀ k, k < m → k ∈ anc ops D i := fun i h1 h2 k hk => by
  have := List.all_eq_true.1 hend i (List.mem_range.2 h2)
  simp only [Bool.or_eq_true, decide_eq_true_eq, List.all_eq_true, List.mem_range, List.contains_iff_mem] at this
  exact (this.resolve_left (by omega)) k hk
 have hfr : ∀ (l : Array Bool), l = Array.replicate ops.size false → ∀ k, l.getD k false = false := by
  rintro l rfl k
  simp only [Array.getD_eq_getD_getElem?, Array.getElem?_replicate]
  split <;> rfl
 let J : Array Bool → Act → World → Prop := fun l a' w' => (l.size = ops.size ∧ ∀ k, m ≤ k → l.getD k false = false) ∧ S w' ∧ (∀ k, k < m → l.getD k false = true → ∀ e ∈ afters ops k, l.getD e false = true) ∧
  ∃ vals, a' = fill (fun k => ds[k]?) vals l a m ∧ (∀ k, k < m → l.getD k false = true → Φ k (vals k) w' ∧ (fresh k = true → ∃ q, vals k = .pointer (some ⟨q, 0, none⟩) ∧ q < w'.heap.size)) ∧
   (∀ j k, j < m → k < m → l.getD j false = true → l.getD k false = true → j ≠ k → fresh j = true → fresh k = true → ∀ p q, vals j = .pointer (some ⟨p, 0, none⟩) → vals k = .pointer (some ⟨q, 0, none⟩) → p ≠ q)
 have hdown : ∀ l a' w', J l a' w' → ∀ k, l.getD k false = true → ∀ e ∈ afters ops k, l.getD e false = true := fun l a' w' hj k hk => by
  rcases Nat.lt_or_ge k m with h1 | h1
  · exact hj.2.2.1 k h1 hk
  · rw [hj.1.2 k h1] at hk
    cases hk
 have hz : ∀ j, j ≤ m → left (Array.replicate ops.size false) j = j := fun j => by
  induction j with
  | zero => exact fun _ => rfl
  | succ j ihj => exact fun h => by unfold left; rw [ihj (by omega), hfr _ rfl j]; rfl
 have key := wpAny_inv (P := P) (ops := ops) (Q := Q) (md := .any) m J (fun l a' w' hj => hj.1) hle (fun i o h1 ho e he hb => ?hback) (fun l a' w' i hj hi h1 => ?hstep) (fun l a' w' i hj hi h1 k hk => ?hwait) (fun l a' w' hj hall => ?hfin)
  m (Array.replicate ops.size false) a w.drew (hz m (Nat.le_refl _)) ⟨⟨by simp, fun k _ => hfr _ rfl k⟩, hS, fun k _ h => (by rw [hfr _ rfl k] at h; cases h),
   fun _ => undef, (fill_none fun k _ => hfr _ rfl k).symm, fun k _ h => (by rw [hfr _ rfl k] at h; cases h), fun j k _ _ h => (by rw [hfr _ rfl j] at h; cases h)⟩
 · have e : ops.size - m + m = ops.size := by omega
   rw [e] at key
   exact key
 case hback =>
  obtain ⟨_, _, _, _, _, _, _, hlow, _, _⟩ := okAtG_spec (hat i h1)
  refine hlow e.on ?_
  unfold afters
  rw [ho]
  exact List.mem_map.2 ⟨e, List.mem_filter.2 ⟨by simpa using he, hb⟩, rfl⟩
 case hwait =>
  have hlt : i < ops.size := by
   obtain ⟨_, o, ho, _⟩ := mem_ready.1 hi
   exact (Array.getElem?_eq_some_iff.1 ho).1
  exact anc_up (hdown l a' w' hj) D i (fun e he => ready_after hi he) k (hlate i h1 hlt k hk)
 case hfin =>
  obtain ⟨⟨hs, hl⟩, hSw, _, vals, rfl, hv, hp⟩ := hj
  rw [fill_all hall, haF]
  refine hfin vals w' hSw (fun k hk => (hv k hk (hall k hk)).1) (fun j k h1 h2 => hp j k h1 h2 (hall j h1) (hall k h2)) l hs fun k => ?_
  rcases Nat.lt_or_ge k m with h | h
  · rw [hall k h, decide_eq_true h]
  · rw [hl k h, decide_eq_false (by omega)]
 case hstep =>
  obtain ⟨⟨hs, hl⟩, hSw, hdn, vals, rfl, hv, hp⟩ := hj
  obtain ⟨o, ho, hdst, hdi, hlt, hg, hsel, hlow, hdist, hops⟩ := okAtG_spec (hat i h1)
  have hu : l.getD i false = false := by
   have h2 := (mem_ready.1 hi).1
   have h3 : i < l.size := by omega
   simp only [Array.getD_eq_getD_getElem?] at h2 ⊢
   rw [Array.getElem?_eq_getElem h3] at h2 ⊢
   simpa using h2
  have hdep : ∀ e ∈ afters ops i, l.getD e false = true := fun e he => ready_after hi he
  have heval : ∀ x ∈ o.op.operands, (fill (fun k => ds[k]?) vals l a m).eval x = (aF vals).eval x := fun x hx => by
   rw [← haF vals]
   exact fill_eval fun k hk hk2 d hd hxd => by
    rw [hdep k (hops x hx d hxd k hk hd)] at hk2
    cases hk2
  have hphi : ∀ e ∈ afters ops i, Φ e (vals e) w' := fun e he => (hv e (by have := hlow e he; omega) (hdep e he)).1
  have hyld : ∀ g b, g ∈ afters ops i → vals g = .bool b → yielded ops (fill (fun k => ds[k]?) vals l a m).tmps g = some b := fun g b hga hb => by
   have hgm : g < m := by have := hlow g hga; omega
   obtain ⟨og, hog, hgd, hgi, hglt, _, _, _, hgdist, _⟩ := okAtG_spec (hat g hgm)
   have h4 : (fill (fun k => ds[k]?) vals l a m).eval (.tmp (ds.getD g 0)) = vals g := fill_at (hdep g hga) hgi hglt hgm fun k hk hne e => hgdist k hk hne (e.trans hgi.symm)
   refine yielded_at (by rw [hog]; exact hgd) (by rw [fill_size]; exact hglt) (h4.trans hb)
  have hsz : ds.getD i 0 < (aF vals).tmps.size := by rw [← haF vals, fillAll_size]; exact hlt
  have next : ∀ v w2, Below w'.heap.size w' w2 → Φ i v w2 → (fresh i = true → ∃ q, v = .pointer (some ⟨q, 0, none⟩) ∧ w'.heap.size ≤ q ∧ q < w2.heap.size) →
   J (l.setIfInBounds i true) ((fill (fun k => ds[k]?) vals l a m).put o.dst v) w2 := fun v w2 hb hphi hfresh => by
   have hne : ∀ k, k ≠ i → (l.setIfInBounds i true).getD k false = l.getD k false := fun k hk => getD_other (Ne.symm hk) _
   refine ⟨⟨by simpa using hs, fun k hk => by rw [hne k (by omega)]; exact hl k hk⟩, hSb _ _ hb hSw, fun k hk hk2 e he => ?_, upd vals i v, ?_, fun k hk hk2 => ?_, fun j k hj hk hj2 hk2 hjk fj fk p q ep eq => ?_⟩
   · by_cases hki : k = i
     · subst hki
       rw [hne e (by have := hlow e he; omega)]
       exact hdep e he
     · rw [hne k hki] at hk2
       by_cases hei : e = i
       · subst hei
         exact getD_same (by omega) _
       · rw [hne e hei]
         exact hdn k hk hk2 e he
   · rw [hdst, ← hdi]
     exact fill_set (by omega) hu h1 fun j hj hji d hd hdi2 => hdist j hj hji (hd.trans hdi2.symm)
   · by_cases hki : k = i
     · subst hki
       rw [show upd vals k v k = v from if_pos rfl]
       exact ⟨hphi, fun hf => by obtain ⟨q, h1, _, h3⟩ := hfresh hf; exact ⟨q, h1, h3⟩⟩
     · rw [hne k hki] at hk2
       rw [show upd vals i v k = vals k from if_neg hki]
       obtain ⟨h3, h4⟩ := hv k hk hk2
       exact ⟨hΦb _ _ _ _ hb h3, fun hf => by obtain ⟨q, h5, h6⟩ := h4 hf; exact ⟨q, h5, Nat.lt_of_lt_of_le h6 hb.size⟩⟩
   · by_cases hji : j = i
     · subst hji
       have hki : k ≠ j := fun h => hjk h.symm
       rw [show upd vals j v j = v from if_pos rfl] at ep
       rw [show upd vals j v k = vals k from if_neg hki] at eq
       rw [hne k hki] at hk2
       obtain ⟨q1, e1, l1, _⟩ := hfresh fj
       obtain ⟨q2, e2, l2⟩ := (hv k hk hk2).2 fk
       rw [e1] at ep
       rw [e2] at eq
       cases ep
       cases eq
       omega
     · by_cases hki : k = i
       · subst hki
         rw [show upd vals k v k = v from if_pos rfl] at eq
         rw [show upd vals k v j = vals j from if_neg hji] at ep
         rw [hne j hji] at hj2
         obtain ⟨q1, e1, l1, _⟩ := hfresh fk
         obtain ⟨q2, e2, l2⟩ := (hv j hj hj2).2 fj
         rw [e1] at eq
         rw [e2] at ep
         cases ep
         cases eq
         omega
       · rw [show upd vals i v j = vals j from if_neg hji] at ep
         rw [show upd vals i v k = vals k from if_neg hki] at eq
         rw [hne j hji] at hj2
         rw [hne k hki] at hk2
         exact hp j k hj hk hj2 hk2 hjk fj fk p q ep eq
  rcases hop i h1 o ho with ⟨hgv, hop2⟩ | ⟨g, b, hgb, hgv, hun, hfr0⟩
  case inr =>
   unfold wpOp
   rw [ho]
   simp only []
   have hnot : Region.wanted o (yielded ops (fill (fun k => ds[k]?) vals l a m).tmps) = false := by
    unfold Region.wanted
    rw [hgb]
    simp only []
    rw [hyld g (!b) (hg g b hgb) (hgv vals w' hSw hphi)]
    cases b <;> rfl
   rw [if_neg (by rw [hnot]; decide)]
   exact next _ _ (Below.refl _ _) (hun w' hSw) (fun hf => by rw [hfr0] at hf; cases hf)
  have hwant : Region.wanted o (yielded ops (fill (fun k => ds[k]?) vals l a m).tmps) = true := by
   unfold Region.wanted
   cases hgo : o.guard with
   | none => rfl
   | some gb =>
    obtain ⟨g, b⟩ := gb
    simp only []
    rw [hyld g b (hg g b hgo) (hgv vals w' hSw hphi g b hgo)]
    simp
  have hrun := hop2 vals w' hSw hphi
   (fun a2 w2 => a2.defers = (aF vals).defers ∧ Below w'.heap.size w' w2 ∧ Φ i (a2.eval (.tmp (ds.getD i 0))) w2 ∧ (fresh i = true → ∃ q, a2.eval (.tmp (ds.getD i 0)) = .pointer (some ⟨q, 0, none⟩) ∧ w'.heap.size ≤ q ∧ q < w2.heap.size))
   (fun a2 w2 h1 h2 h3 h4 => ⟨h1, h2, h3, h4⟩)
  unfold wpOp
  rw [ho]
  simp only []
  rw [if_pos hwant]
  refine .inl ?_
  unfold Oper.wp at hrun ⊢
  rw [execOp_congr o hsel heval]
  generalize (execOp (aF vals).eval o).run P w' = r at hrun ⊢
  have hdef : (aF vals).defers = (fill (fun k => ds[k]?) vals l a m).defers := by rw [← haF vals, fillAll_defers, fill_defers]
  have hput : ∀ v, ((aF vals).put o.dst v).eval (.tmp (ds.getD i 0)) = v := fun v => by rw [hdst]; exact put_same _ _ _ hsz
  cases r with
  | ok n w2 =>
   cases n <;> simp only [Oper.upon] at hrun ⊢
   case value v => rw [hput] at hrun; exact next _ _ hrun.2.1 hrun.2.2.1 hrun.2.2.2
   case skip => rw [hput] at hrun; exact next _ _ hrun.2.1 hrun.2.2.1 hrun.2.2.2
   case defer d =>
    exfalso
    have := hrun.1
    rw [put_defers2] at this
    have := congrArg List.length this
    simp at this
   case enter f args =>
    refine Calls.mono hrun fun e w3 he => ?_
    cases e with
    | returned v => simp only at he ⊢; rw [hput] at he; exact next _ _ he.2.1 he.2.2.1 he.2.2.2
    | panicked c => exact hQ _ _ _ _ hdef he
    | outgrown => exact he
   case row r args =>
    refine Rows.mono hrun fun v w3 he => ?_
    rw [hput] at he
    exact next _ _ he.2.1 he.2.2.1 he.2.2.2
  | halt x w2 =>
   cases x <;> simp only [Oper.upon] at hrun ⊢ <;> exact hQ _ _ _ _ hdef hrun
end
end Go.Proofs.YtheaepceghnkpaaGreatDoor

/- Regions that leave their order open, in which one operation that only reads its frame (a result's second part) may come behind the stores too. Of any program; no condition. -/
namespace Go.Proofs.YtheaepceghnkpaaGreatDoor
open Go.RowKit
set_option linter.unusedVariables false
section
variable {P : Program} {ops : Array Oper} {Q : Exit → Act → World → Prop} {md : Region.Mode}
end
end Go.Proofs.YtheaepceghnkpaaGreatDoor

/- Plain mathematics of texts: bytes as numbers below 256, decimal digits and the numbers that they tell, the order of texts. No condition. -/
namespace Go.Proofs.YtheaepceghnkpaaGreatDoor.Limb
def strOf (l : List Nat) : ByteArray := ⟨(l.map UInt8.ofNat).toArray⟩
def bytesOf (s : ByteArray) : List Nat := s.data.toList.map UInt8.toNat
def Bytes (l : List Nat) : Prop := ∀ x ∈ l, x < 256
theorem bytes_nil : Bytes [] := by intro x hx; cases hx
theorem bytes_cons {x : Nat} {l : List Nat} : Bytes (x :: l) ↔ x < 256 ∧ Bytes l := by simp [Bytes]
theorem bytes_append {a b : List Nat} : Bytes (a ++ b) ↔ Bytes a ∧ Bytes b := by
 simp only [Bytes, List.mem_append]
 exact ⟨fun h => ⟨fun x hx => h x (.inl hx), fun x hx => h x (.inr hx)⟩, fun h x hx => hx.elim (h.1 x) (h.2 x)⟩
theorem bytes_set {l : List Nat} (h : Bytes l) (k v : Nat) (hv : v < 256) : Bytes (l.set k v) := fun x hx => (List.mem_or_eq_of_mem_set hx).elim (h x) (fun e => by omega)
theorem bytes_lim {l : List Nat} (h : Bytes l) (k : Nat) : lim l k < 256 := by
 unfold lim
 rw [List.getD_eq_getElem?_getD]
 rcases Nat.lt_or_ge k l.length with hk | hk
 · rw [List.getElem?_eq_getElem hk]; exact h _ (List.getElem_mem hk)
 · rw [List.getElem?_eq_none hk]; decide
theorem bytes_drop {l : List Nat} (h : Bytes l) (k : Nat) : Bytes (l.drop k) := fun x hx => h x (List.mem_of_mem_drop hx)
theorem bytes_bytesOf (s : ByteArray) : Bytes (bytesOf s) := by
 intro x hx
 obtain ⟨b, _, rfl⟩ := List.mem_map.1 hx
 exact b.toNat_lt
theorem bytesOf_strOf {l : List Nat} (h : Bytes l) : bytesOf (strOf l) = l := by
 show (l.map UInt8.ofNat).map UInt8.toNat = l
 rw [List.map_map]
 refine (List.map_congr_left fun x hx => ?_).trans (List.map_id l)
 show (UInt8.ofNat x).toNat = x
 rw [UInt8.toNat_ofNat']
 exact Nat.mod_eq_of_lt (h x hx)
theorem strOf_bytesOf (s : ByteArray) : strOf (bytesOf s) = s := by
 obtain ⟨⟨l⟩⟩ := s
 have e : UInt8.ofNat ∘ UInt8.toNat = id := by funext x; exact UInt8.ofNat_toNat
 show ByteArray.mk ((l.map UInt8.toNat).map UInt8.ofNat).toArray = _
 rw [List.map_map, e, List.map_id]
theorem length_bytesOf (s : ByteArray) : (bytesOf s).length = s.size := by
 show (s.data.toList.map UInt8.toNat).length = s.data.size
 rw [List.length_map, Array.length_toList]
theorem size_strOf (l : List Nat) : (strOf l).size = l.length := by
 show (l.map UInt8.ofNat).toArray.size = _
 rw [List.size_toArray, List.length_map]
theorem strOf_inj {a b : List Nat} (ha : Bytes a) (hb : Bytes b) (h : strOf a = strOf b) : a = b := by
 rw [← bytesOf_strOf ha, ← bytesOf_strOf hb, h]
theorem toList_strOf (l : List Nat) : (strOf l).toList = l.map UInt8.ofNat := by rw [strOf, ByteArray.toList_mk]
theorem str_beq {a b : List Nat} (ha : Bytes a) (hb : Bytes b) : ((strOf a).toList == (strOf b).toList) = decide (a = b) := by
 rw [Bool.eq_iff_iff]
 simp only [beq_iff_eq, decide_eq_true_eq, ByteArray.toList_eq]
 constructor
 · intro h
   refine strOf_inj ha hb ?_
   have h2 : (strOf a).data = (strOf b).data := Array.toList_inj.1 h
   exact ByteArray.ext h2
 · rintro rfl; rfl
theorem byte_at (s : ByteArray) (k : Nat) (h : k < s.size) : (s[k]'h).toNat = lim (bytesOf s) k := by
 have hk : k < (bytesOf s).length := by rw [length_bytesOf]; exact h
 unfold lim
 rw [List.getD_eq_getElem?_getD, List.getElem?_eq_getElem hk, Option.getD_some]
 simp [bytesOf]
 rfl
def isDig (x : Nat) : Bool := decide (48 ≤ x) && decide (x ≤ 57)
def allDig (l : List Nat) : Bool := l.all isDig
def decV (l : List Nat) : Nat := l.foldl (fun v d => v * 10 + (d - 48)) 0
theorem allDig_iff {l : List Nat} : allDig l = true ↔ ∀ x ∈ l, 48 ≤ x ∧ x ≤ 57 := by simp [allDig, isDig]
theorem allDig_append {a b : List Nat} : allDig (a ++ b) = (allDig a && allDig b) := by simp [allDig]
theorem foldl_dec (l : List Nat) (v : Nat) : l.foldl (fun v d => v * 10 + (d - 48)) v = v * 10 ^ l.length + l.foldl (fun v d => v * 10 + (d - 48)) 0 := by
 induction l generalizing v with
 | nil => simp
 | cons x l ih =>
  rw [List.foldl_cons, List.foldl_cons, ih, ih (0 * 10 + (x - 48)), List.length_cons, Nat.pow_succ]
  grind
theorem decV_append (a b : List Nat) : decV (a ++ b) = decV a * 10 ^ b.length + decV b := by
 unfold decV
 rw [List.foldl_append, foldl_dec]
theorem decV_snoc (l : List Nat) (x : Nat) : decV (l ++ [x]) = decV l * 10 + (x - 48) := by
 rw [decV_append]; simp [decV]
theorem decV_cons (x : Nat) (l : List Nat) : decV (x :: l) = (x - 48) * 10 ^ l.length + decV l := by
 have := decV_append [x] l
 rwa [show [x] ++ l = x :: l from rfl, show decV [x] = x - 48 by simp [decV]] at this
theorem decV_lt : ∀ {l : List Nat}, allDig l = true → decV l < 10 ^ l.length
 | [], _ => by decide
 | x :: l, h => by
  have h1 := allDig_iff.1 h x (by simp)
  have h2 : allDig l = true := allDig_iff.2 fun y hy => allDig_iff.1 h y (by simp [hy])
  have h3 := decV_lt h2
  rw [decV_cons, List.length_cons, Nat.pow_succ]
  have h4 : (x - 48) * 10 ^ l.length ≤ 9 * 10 ^ l.length := Nat.mul_le_mul_right _ (by omega)
  omega
def decF : Nat → Nat → List Nat
 | 0, _ => []
 | f + 1, n => if n < 10 then [48 + n] else decF f (n / 10) ++ [48 + n % 10]
def decT (n : Nat) : List Nat := decF (n + 1) n
theorem decF_more : ∀ f g n, n < f → n < g → decF f n = decF g n
 | 0, _, _, h, _ => by omega
 | _, 0, _, _, h => by omega
 | f + 1, g + 1, n, hf, hg => by
  rw [decF, decF]
  split
  · rfl
  · rw [decF_more f g (n / 10) (by omega) (by omega)]
theorem decT_small {n : Nat} (h : n < 10) : decT n = [48 + n] := by rw [decT, decF, if_pos h]
theorem decT_big {n : Nat} (h : 10 ≤ n) : decT n = decT (n / 10) ++ [48 + n % 10] := by
 rw [decT, decF, if_neg (by omega), decT, decF_more n (n / 10 + 1) (n / 10) (by omega) (by omega)]
theorem decT_spec (n : Nat) : allDig (decT n) = true ∧ decV (decT n) = n ∧ decT n ≠ [] ∧ (n ≠ 0 → lim (decT n) 0 ≠ 48) := by
 induction n using Nat.strongRecOn with
 | _ n ih =>
  by_cases h : n < 10
  · rw [decT_small h]
    refine ⟨allDig_iff.2 fun x hx => by simp at hx; omega, by simp [decV], by simp, fun h0 => by simp [lim]; omega⟩
  · obtain ⟨h1, h2, h3, h4⟩ := ih (n / 10) (by omega)
    rw [decT_big (by omega)]
    refine ⟨by rw [allDig_append, h1]; exact allDig_iff.2 fun x hx => by simp at hx; omega, by rw [decV_snoc, h2]; omega, by simp, fun _ => ?_⟩
    have h5 := h4 (by omega)
    cases hd : decT (n / 10) with
    | nil => exact absurd hd h3
    | cons x l => rw [hd] at h5; simpa [lim] using h5
theorem decT_dig (n : Nat) : allDig (decT n) = true := (decT_spec n).1
theorem decV_decT (n : Nat) : decV (decT n) = n := (decT_spec n).2.1
theorem decT_ne (n : Nat) : decT n ≠ [] := (decT_spec n).2.2.1
theorem pow_le_of_head {l : List Nat} (h : allDig l = true) (h0 : l ≠ []) (h1 : lim l 0 ≠ 48) : 10 ^ (l.length - 1) ≤ decV l := by
 cases l with
 | nil => exact absurd rfl h0
 | cons x l =>
  have hx := allDig_iff.1 h x (by simp)
  have h2 : x ≠ 48 := h1
  rw [decV_cons, List.length_cons, Nat.add_sub_cancel]
  have := Nat.mul_le_mul_right (10 ^ l.length) (show 1 ≤ x - 48 by omega)
  omega
theorem decT_len_pow {n : Nat} (h : n ≠ 0) : 10 ^ ((decT n).length - 1) ≤ n := by
 have := pow_le_of_head (decT_dig n) (decT_ne n) ((decT_spec n).2.2.2 h)
 rwa [decV_decT] at this
theorem decT_len_le {n k : Nat} (h : n < 10 ^ k) (hk : 0 < k) : (decT n).length ≤ k := by
 rcases Nat.eq_zero_or_pos n with h0 | h0
 · subst h0; exact hk
 · have h1 := decT_len_pow (n := n) (by omega)
   have h2 := (Nat.pow_lt_pow_iff_right (a := 10) (by decide)).1 (Nat.lt_of_le_of_lt h1 h)
   omega
theorem pow_digits {L : Nat} : 4294967296 ^ L ≤ 10 ^ (10 * L) := by
 rw [Nat.pow_mul]
 exact Nat.pow_le_pow_left (by decide) _
theorem decT_len_limbs {n L : Nat} (h : n < 4294967296 ^ L) : (decT n).length ≤ 10 * L + 1 := by
 refine decT_len_le (Nat.lt_of_lt_of_le h (Nat.le_trans pow_digits ?_)) (by omega)
 exact Nat.pow_le_pow_right (by decide) (by omega)
theorem dec_room {k L : Nat} (h : k ≤ 9 * L) : 10 ^ k ≤ 4294967296 ^ L := by
 refine Nat.le_trans (Nat.pow_le_pow_right (by decide) h) ?_
 rw [Nat.pow_mul]
 exact Nat.pow_le_pow_left (by decide) _
theorem bytesOf_extract (s : ByteArray) (i j : Nat) : bytesOf (s.extract i j) = ((bytesOf s).drop i).take (j - i) := by
 unfold bytesOf
 rw [ByteArray.data_extract, Array.toList_extract, List.extract_eq_take_drop, List.map_take, List.map_drop]
end Go.Proofs.YtheaepceghnkpaaGreatDoor.Limb

/- What a row's listed variables give, from a place of the list on. Of any program; no condition. -/
namespace Go.Proofs.YtheaepceghnkpaaGreatDoor
open Go.RowKit Go.ChangeShapes
set_option linter.unusedVariables false
theorem laidMet_drop {P : Program} {w : World} : ∀ (k : Nat) {l : List (String × DataW Unit)}, laidMet P l w → laidMet P (l.drop k) w
 | 0, _, h => h
 | _ + 1, [], h => h
 | k + 1, _ :: _, h => laidMet_drop k h.tail
end Go.Proofs.YtheaepceghnkpaaGreatDoor

/- What it means that a slice of 32-bit words in memory reads as a list of limbs, and that this stays so where nothing below a block has changed. No condition. -/
namespace Go.Proofs.YtheaepceghnkpaaGreatDoor
open Go.RowKit Limb
set_option linter.unusedVariables false
def IsN (w : World) (A : Option Addr) (n : Nat) (xs : List Nat) : Prop :=
 xs.length = n ∧ Small xs ∧ (0 < n → ∃ b o, A = some ⟨b, o, none⟩ ∧ b < w.heap.size ∧ ∀ j, j < n → w.cell? ⟨b, o + j, none⟩ = some (.int .u32 ((lim xs j : Nat) : Int)))
theorem IsN.len {w : World} {A : Option Addr} {n : Nat} {xs : List Nat} (h : IsN w A n xs) : xs.length = n := h.1
theorem IsN.small {w : World} {A : Option Addr} {n : Nat} {xs : List Nat} (h : IsN w A n xs) : Small xs := h.2.1
theorem IsN.below {w w' : World} {A : Option Addr} {n : Nat} {xs : List Nat} (h : IsN w A n xs) (hb : Below w.heap.size w w') : IsN w' A n xs := by
 refine ⟨h.1, h.2.1, fun hn => ?_⟩
 obtain ⟨b, o, e, hlt, hc⟩ := h.2.2 hn
 exact ⟨b, o, e, Nat.lt_of_lt_of_le hlt hb.size, fun j hj => (hb.cell (p := ⟨b, o + j, none⟩) hlt).trans (hc j hj)⟩
theorem IsN.take {w : World} {A : Option Addr} {n m : Nat} {xs : List Nat} (h : IsN w A n xs) (hm : m ≤ n) : IsN w A m (xs.take m) := by
 refine ⟨by rw [List.length_take, h.1]; omega, small_take h.2.1 _, fun hn => ?_⟩
 obtain ⟨b, o, e, hlt, hc⟩ := h.2.2 (by omega)
 refine ⟨b, o, e, hlt, fun j hj => ?_⟩
 rw [hc j (by omega)]
 simp [lim, List.getD_eq_getElem?_getD, hj]
theorem IsN.nil (w : World) (A : Option Addr) : IsN w A 0 [] := ⟨rfl, small_nil, fun h => absurd h (by omega)⟩
def IsV (w : World) (A : Option Addr) (n : Nat) (a : Nat) : Prop := IsN w A n (limbs a)
theorem IsV.isN {w : World} {A : Option Addr} {n a : Nat} (h : IsV w A n a) : IsN w A n (limbs a) := h
theorem IsV.below {w w' : World} {A : Option Addr} {n a : Nat} (h : IsV w A n a) (hb : Below w.heap.size w w') : IsV w' A n a := IsN.below h hb
theorem bel_refl (w : World) : Below w.heap.size w w := Below.refl _ _
theorem ret_bool {a b : Bool} (h : a = b) : Ending.returned (.bool a) = .returned (.bool b) := by rw [h]
end Go.Proofs.YtheaepceghnkpaaGreatDoor

/- What math/bits' Add32, Sub32 answer at package nat's carries, and small helpers. Conditions: the arguments are 32-bit words, the carry is 0 or 1. -/
namespace Go.Proofs.YtheaepceghnkpaaGreatDoor
open Go.RowKit Limb
set_option linter.unusedVariables false
end Go.Proofs.YtheaepceghnkpaaGreatDoor

/- What package nat's helpers cut and copied answer, as contracts over memory: the limbs that count, in the same memory; a copy in new memory. Conditions: the argument reads as limbs, of at most 2^46 of them. -/
namespace Go.Proofs.YtheaepceghnkpaaGreatDoor
open Go.RowKit Limb
set_option linter.unusedVariables false
def limV (x : Nat) : Value := .int .u32 (x : Int)
def OwnN (w : World) (B : Nat) (A : Option Addr) (n c : Nat) (zs : List Nat) : Prop :=
 w.ownsRow B 119 1 (.slice A n c) n (zs.map limV) ∧ Small zs
theorem OwnN.len {w : World} {B : Nat} {A : Option Addr} {n c : Nat} {zs : List Nat} (h : OwnN w B A n c zs) : zs.length = n := by
 have := h.1.1; simpa using this
theorem OwnN.small {w : World} {B : Nat} {A : Option Addr} {n c : Nat} {zs : List Nat} (h : OwnN w B A n c zs) : Small zs := h.2
theorem OwnN.isN {w : World} {B : Nat} {A : Option Addr} {n c : Nat} {zs : List Nat} (h : OwnN w B A n c zs) : IsN w A n zs := by
 refine ⟨h.len, h.2, fun hn => ?_⟩
 rcases h.1.2 with ⟨_, h0⟩ | ⟨g, cap, cur, hv, hg, hh, _⟩
 · omega
 · injection hv with hA _ hc
   subst hA
   subst hc
   refine ⟨g, 0, rfl, ?_, fun j hj => ?_⟩
   · rcases Nat.lt_or_ge g w.heap.size with hlt | hge
     · exact hlt
     · rw [Array.getElem?_eq_none hge] at hh; cases hh
   · rw [Nat.zero_add, h.1.cellAt j (by omega), List.getElem?_map, List.getElem?_eq_getElem (by rw [h.len]; exact hj)]
     simp [limV, lim, List.getD_eq_getElem?_getD, List.getElem?_eq_getElem (show j < zs.length by rw [h.len]; exact hj)]
theorem OwnN.caps {w : World} {B : Nat} {A : Option Addr} {n c : Nat} {zs : List Nat} (h : OwnN w B A n c zs) : n ≤ c ∧ c ≤ maxLen := by
 rcases h.1.2 with ⟨hv, h0⟩ | ⟨g, cap, cur, hv, hg, hh, h1, h2, _⟩
 · injection hv with _ _ hc; subst hc; subst h0; exact ⟨Nat.le_refl _, Nat.zero_le _⟩
 · injection hv with _ _ hc; subst hc; exact ⟨h1, h2⟩
theorem OwnN.nil (w : World) (B : Nat) : OwnN w B none 0 0 [] := ⟨World.ownsRow_nil _ _ _ _, small_nil⟩
end Go.Proofs.YtheaepceghnkpaaGreatDoor

/- What the statements' keep.Nat, keep.OwnNat, Long and package nat's Trim, Of and Cmp answer, as contracts over memory. Conditions: arguments read as limbs, of at most 10^9 of them. -/
namespace Go.Proofs.YtheaepceghnkpaaGreatDoor
open Go.RowKit Limb
set_option linter.unusedVariables false
theorem below_drewN {B : Nat} {a w : World} (h : Below B a w) (n : Nat) : Below B a (w.drewN n) := ⟨h.os, h.tape, h.output, h.size, h.block⟩
def same (xs ys : List Nat) : Bool := decide (xs = ys)
theorem OwnN.mono {w : World} {B B' : Nat} {A : Option Addr} {n c : Nat} {zs : List Nat} (h : OwnN w B A n c zs) (hB : B' ≤ B) : OwnN w B' A n c zs := by
 refine ⟨⟨h.1.1, ?_⟩, h.2⟩
 rcases h.1.2 with h2 | ⟨g, cap, cur, hv, hg, r⟩
 · exact .inl h2
 · exact .inr ⟨g, cap, cur, hv, Nat.le_trans hB hg, r⟩
end Go.Proofs.YtheaepceghnkpaaGreatDoor

/- What package nat's Cmp answers, as a contract over memory: the order of the numbers that both lists tell. Conditions: both read as limbs, of at most 10^9 of them. -/
namespace Go.Proofs.YtheaepceghnkpaaGreatDoor
open Go.RowKit Limb
set_option linter.unusedVariables false
end Go.Proofs.YtheaepceghnkpaaGreatDoor

/- What package nat's Add answers, as a contract over memory: the sum of the numbers that both lists tell, in its shortest limbs, in new memory. Conditions: both read as limbs, of at most 10^9 of them. -/
namespace Go.Proofs.YtheaepceghnkpaaGreatDoor
open Go.RowKit Limb
set_option linter.unusedVariables false
theorem OwnN.addr {w : World} {B : Nat} {A : Option Addr} {n c : Nat} {zs : List Nat} (h : OwnN w B A n c zs) (hn : 0 < n) : ∃ g, A = some ⟨g, 0, none⟩ ∧ B ≤ g ∧ g < w.heap.size := by
 rcases h.1.2 with ⟨_, h0⟩ | ⟨g, cap, cur, hv, hg, hh, _⟩
 · omega
 · injection hv with hA
   refine ⟨g, hA, hg, ?_⟩
   rcases Nat.lt_or_ge g w.heap.size with hlt | hge
   · exact hlt
   · rw [Array.getElem?_eq_none hge] at hh; cases hh
theorem OwnN.cell {w : World} {B g n c : Nat} {zs : List Nat} (h : OwnN w B (some ⟨g, 0, none⟩) n c zs) {k : Nat} (hk : k < n) : w.cell? ⟨g, k, none⟩ = some (.int .u32 ((lim zs k : Nat) : Int)) := by
 have hl := h.len
 rw [h.1.cellAt k (by omega), List.getElem?_map, List.getElem?_eq_getElem (by omega)]
 simp [limV, lim, List.getD_eq_getElem?_getD, List.getElem?_eq_getElem (show k < zs.length by omega)]
theorem OwnN.set {w : World} {B g n c : Nat} {zs : List Nat} (h : OwnN w B (some ⟨g, 0, none⟩) n c zs) (k : Nat) {v : Nat} (hv : v < 4294967296) :
 OwnN (w.setCell ⟨g, k, none⟩ (.int .u32 ((v : Nat) : Int))) B (some ⟨g, 0, none⟩) n c (zs.set k v) := by
 have := (h.1.stored k (limV v)).1
 rw [← List.map_set] at this
 exact ⟨this, small_set h.2 k v hv⟩
theorem OwnN.below {w w' : World} {B C : Nat} {A : Option Addr} {n c : Nat} {zs : List Nat} (h : OwnN w B A n c zs) (hb : Below C w w') (hC : w.heap.size ≤ C) : OwnN w' B A n c zs := by
 refine ⟨⟨h.1.1, ?_⟩, h.2⟩
 rcases h.1.2 with h2 | ⟨g, cap, cur, hv, hg, hh, r⟩
 · exact .inl h2
 · refine .inr ⟨g, cap, cur, hv, hg, ?_, r⟩
   have hlt : g < w.heap.size := by
    rcases Nat.lt_or_ge g w.heap.size with hlt | hge
    · exact hlt
    · rw [Array.getElem?_eq_none hge] at hh; cases hh
   rw [hb.block g (by omega)]
   exact hh
end Go.Proofs.YtheaepceghnkpaaGreatDoor

/- What package nat's Sub answers, as a contract over memory: the difference, where the first number is not below the second, in its shortest limbs, in new memory; else none. Conditions: both read as limbs, of at most 10^9 of them. -/
namespace Go.Proofs.YtheaepceghnkpaaGreatDoor
open Go.RowKit Limb
set_option linter.unusedVariables false
theorem OwnN.take {w : World} {B : Nat} {A : Option Addr} {n c m : Nat} {zs : List Nat} (h : OwnN w B A n c zs) (hm : m ≤ n) : OwnN w B A m c (zs.take m) := by
 have hl := h.len
 refine ⟨⟨by simp; omega, ?_⟩, small_take h.2 _⟩
 rcases h.1.2 with ⟨hv, h0⟩ | ⟨g, cap, cur, hv, hg, hh, h1, h2, h3, h4⟩
 · injection hv with hA hn hc
   subst hA hc
   left
   exact ⟨by congr 1; omega, by omega⟩
 · injection hv with hA hn hc
   subst hA hc
   refine .inr ⟨g, c, cur, rfl, hg, hh, by omega, h2, h3, ?_⟩
   rw [List.map_take, ← h4, List.take_take]
   congr 1
   omega
end Go.Proofs.YtheaepceghnkpaaGreatDoor

/- What package nat's Bits and Bit answer, as contracts over memory: how many bits the number has that a list tells, and each bit. Conditions: the list reads as limbs, of at most 10^9 of them. -/
namespace Go.Proofs.YtheaepceghnkpaaGreatDoor
open Go.RowKit Limb
set_option linter.unusedVariables false
end Go.Proofs.YtheaepceghnkpaaGreatDoor

/- The contracts of package nat and of the statements' helpers in one form: a slice reads as limbs that tell a number, within its capacity and a known length; answers are in the shortest limbs. Conditions: at most 10^9 limbs. -/
namespace Go.Proofs.YtheaepceghnkpaaGreatDoor
open Go.RowKit Limb
set_option linter.unusedVariables false
structure NN (w : World) (A : Option Addr) (n c : Nat) (xs : List Nat) (a L : Nat) : Prop where
 isN : IsN w A n xs
 val : Limb.val xs = a
 cap : n ≤ c
 le : n ≤ L
theorem NN.below {w w' : World} {A : Option Addr} {n c : Nat} {xs : List Nat} {a L : Nat} (h : NN w A n c xs a L) (hb : Below w.heap.size w w') : NN w' A n c xs a L := ⟨h.isN.below hb, h.val, h.cap, h.le⟩
theorem NN.own {w : World} {B : Nat} {A : Option Addr} {n c a L : Nat} (h : OwnN w B A n c (limbs a)) (hl : a < 4294967296 ^ L) : NN w A n c (limbs a) a L :=
 ⟨h.isN, val_limbs a, h.caps.1, by have := length_limbs_le hl; rw [h.len] at this; exact this⟩
theorem NN.relax {w : World} {A : Option Addr} {n c a L L' : Nat} (h : NN w A n c (limbs a) a L) (hl : a < 4294967296 ^ L') : NN w A n c (limbs a) a L' :=
 ⟨h.isN, h.val, h.cap, by have := length_limbs_le hl; rw [h.isN.len] at this; exact this⟩
section
variable {w : World} {A A' : Option Addr} {n c n' c' : Nat} {xs ys : List Nat} {a b L L' : Nat}
end
theorem below_new (w : World) (o : Obj) : Below w.heap.size w (w.alloc o) := (Below.refl _ _).alloc (Nat.le_refl _) o
theorem below_two {w w1 w2 : World} (h : Below w.heap.size w w1) (k : Below w1.heap.size w1 w2) : Below w.heap.size w w2 := h.trans (k.mono h.size)
section
variable {P : Program}
end
end Go.Proofs.YtheaepceghnkpaaGreatDoor

/- What the reference's at, Trim and Add of layer 1 come to, as contracts over memory. Conditions: arguments read as limbs, of at most 10^8 of them. -/
namespace Go.Proofs.YtheaepceghnkpaaGreatDoor
open Go.RowKit Limb
set_option linter.unusedVariables false
def RAdd (xs ys zs : List Nat) (k cr : Nat) : Prop := zs.length = k ∧ Small zs ∧ val zs + cr * 4294967296 ^ k = val (xs.take k) + val (ys.take k) ∧ cr ≤ 1
theorem RAdd.start (xs ys : List Nat) : RAdd xs ys [] 0 0 := ⟨rfl, small_nil, by simp [val], by omega⟩
theorem RAdd.step {xs ys zs : List Nat} {k cr : Nat} (h : RAdd xs ys zs k cr) (hx : Small xs) (hy : Small ys) : RAdd xs ys (zs ++ [(lim xs k + lim ys k + cr) % 4294967296]) (k + 1) ((lim xs k + lim ys k + cr) / 4294967296) := by
 obtain ⟨h1, h2, h3, h4⟩ := h
 refine ⟨by simp [h1], small_append.2 ⟨h2, by intro v hv; simp at hv; omega⟩, ?_, ?_⟩
 · rw [val_append, h1, val_take_lim, val_take_lim, Nat.pow_succ]
   have := add_step (z := lim xs k) (y := lim ys k) (c := cr) (P := 4294967296 ^ k) h3
   simp only [val, Nat.mul_zero, Nat.add_zero]
   omega
 · have := lim_lt hx k
   have := lim_lt hy k
   omega
theorem RAdd.done {xs ys zs : List Nat} {k : Nat} (h : RAdd xs ys zs k 0) (hx : xs.length ≤ k) (hy : ys.length ≤ k) : val zs = val xs + val ys := by
 obtain ⟨h1, h2, h3, h4⟩ := h
 rw [List.take_of_length_le hx, List.take_of_length_le hy] at h3
 omega
theorem OwnN.row {w : World} {B : Nat} {A : Option Addr} {n c : Nat} {zs : List Nat} (h : OwnN w B A n c zs) : w.ownsRow B 119 1 (.slice A n c) n (zs.map limV) := h.1
theorem OwnN.alloc {w : World} {B : Nat} {A : Option Addr} {n c : Nat} {zs : List Nat} (h : OwnN w B A n c zs) (o : Obj) : OwnN (w.alloc o) B A n c zs := ⟨h.1.alloc o, h.2⟩
end Go.Proofs.YtheaepceghnkpaaGreatDoor

/- What package mul's helpers cut and addRow answer, as contracts over memory: the limbs that count; a row of products with carries laid over a part. Conditions: arguments read as limbs, of at most 10^9 of them; a part that is the row itself begins where the row does. -/
namespace Go.Proofs.YtheaepceghnkpaaGreatDoor
open Go.RowKit Limb
set_option linter.unusedVariables false
def Others (g : Nat) (w w' : World) : Prop := ∀ k, k ≠ g → w'.heap[k]? = w.heap[k]?
theorem Others.refl (g : Nat) (w : World) : Others g w w := fun _ _ => rfl
theorem Others.setCell {g : Nat} {a w : World} (h : Others g a w) (k : Nat) (u : Value) : Others g a (w.setCell ⟨g, k, none⟩ u) := fun j hj => (Below.heap_setCell w _ u j hj).trans (h j hj)
theorem cell_setCell_ne {a b : Addr} (w : World) (v : Value) (h : a ≠ b) : (w.setCell a v).cell? b = w.cell? b := World.cell?_setCell_other (w := w) (a := a) (b := b) (v := v) h
theorem OwnN.others {w w' : World} {B g : Nat} {A : Option Addr} {n c : Nat} {zs : List Nat} (h : OwnN w B A n c zs) (ho : Others g w w') (hA : ∀ b o s, A = some ⟨b, o, s⟩ → b ≠ g) : OwnN w' B A n c zs := by
 refine ⟨⟨h.1.1, ?_⟩, h.2⟩
 rcases h.1.2 with h2 | ⟨k, cap, cur, hv, hg, hh, r⟩
 · exact .inl h2
 · refine .inr ⟨k, cap, cur, hv, hg, ?_, r⟩
   rw [ho k ?_]
   · exact hh
   · injection hv with hA2
     exact hA _ _ _ hA2
end Go.Proofs.YtheaepceghnkpaaGreatDoor

/- What package mul's Of answers, as a contract over memory: the product of the numbers that both lists tell, in its shortest limbs, in new memory. Conditions: both read as limbs, of at most 10^8 of them. -/
namespace Go.Proofs.YtheaepceghnkpaaGreatDoor
open Go.RowKit Limb
set_option linter.unusedVariables false
theorem OwnN.tail {w : World} {B g n c : Nat} {zs : List Nat} (h : OwnN w B (some ⟨g, 0, none⟩) n c zs) (k : Nat) (hk : k < n) : IsN w (some ⟨g, k, none⟩) (n - k) (zs.drop k) := by
 have hl := h.len
 obtain ⟨b, o, e, hb, hc⟩ := h.isN.2.2 (by omega)
 injection e with e; injection e with e1 e2; subst e1; subst e2
 refine ⟨by simp; omega, small_drop h.small _, fun _ => ⟨g, k, rfl, hb, fun j hj => ?_⟩⟩
 rw [lim_drop]
 have := hc (k + j) (by omega)
 rwa [Nat.zero_add] at this
end Go.Proofs.YtheaepceghnkpaaGreatDoor

/- What package mul's Small and up answer, as contracts over memory: the product of a number and one limb, a number moved up by bits, in shortest limbs, in new memory. Conditions: the list reads as limbs, of at most 10^8 of them; moves of at most 8192 bits. -/
namespace Go.Proofs.YtheaepceghnkpaaGreatDoor
open Go.RowKit Limb
set_option linter.unusedVariables false
end Go.Proofs.YtheaepceghnkpaaGreatDoor

/- What the document's own answers for layer 1 (package steelyardref01) come to, as contracts over memory: Of, Cmp. Conditions: arguments read as limbs, of at most 10^9 of them. -/
namespace Go.Proofs.YtheaepceghnkpaaGreatDoor
open Go.RowKit Limb
set_option linter.unusedVariables false
end Go.Proofs.YtheaepceghnkpaaGreatDoor

/- What the document's own answers for layer 1 (package steelyardref01) come to, as contracts over memory: Bit, Bits, Sub. Conditions: arguments read as limbs, of at most 10^8 of them; a difference is asked of a number that is not below. -/
namespace Go.Proofs.YtheaepceghnkpaaGreatDoor
open Go.RowKit Limb
set_option linter.unusedVariables false
def RSub (xs ys zs : List Nat) (k br : Nat) : Prop := zs.length = k ∧ Small zs ∧ val zs + val (ys.take k) = val (xs.take k) + br * 4294967296 ^ k ∧ br ≤ 1
theorem RSub.start (xs ys : List Nat) : RSub xs ys [] 0 0 := ⟨rfl, small_nil, by simp [val], by omega⟩
theorem sub_step {S X Y z y c P lo hi : Nat} (h : S + Y = X + c * P) (e : lo + y + c = z + hi * 4294967296) : S + P * lo + (Y + P * y) = X + P * z + hi * (P * 4294967296) := by
 have h1 := congrArg (P * ·) e
 simp only [Nat.mul_add] at h1
 rw [Nat.mul_left_comm hi P, Nat.mul_comm c P] at *
 omega
theorem RSub.step0 {xs ys zs : List Nat} {k br lo hi : Nat} (h : RSub xs ys zs k br) (hs : lo < 4294967296) (hi1 : hi ≤ 1) (e : lo + lim ys k + br = lim xs k + hi * 4294967296) : RSub xs ys (zs ++ [lo]) (k + 1) hi := by
 obtain ⟨h1, h2, h3, h4⟩ := h
 have hv : val (zs ++ [lo]) = val zs + 4294967296 ^ k * lo := by rw [val_append, h1]; simp [val]
 have e2 : 4294967296 ^ (k + 1) = 4294967296 ^ k * 4294967296 := Nat.pow_succ ..
 refine ⟨by simp [h1], small_append.2 ⟨h2, small_cons.2 ⟨hs, small_nil⟩⟩, ?_, hi1⟩
 rw [hv, val_take_lim, val_take_lim, e2]
 exact sub_step h3 e
theorem RSub.step {xs ys zs : List Nat} {k br : Nat} (h : RSub xs ys zs k br) (hx : Small xs) (hy : Small ys) : RSub xs ys (zs ++ [diffLo (lim xs k) (lim ys k) br]) (k + 1) (diffHi (lim xs k) (lim ys k) br) :=
 h.step0 (diffLo_lt _ _ _) (diffHi_le _ _ _) (diff_parts (lim_lt hx k) (lim_lt hy k) h.2.2.2)
theorem RSub.done {xs ys zs : List Nat} {k br : Nat} (h : RSub xs ys zs k br) (hk : xs.length = k) (hle : val ys ≤ val xs) (hx : Small xs) : val zs = val xs - val ys := by
 obtain ⟨h1, h2, h3, h4⟩ := h
 have hz := val_lt h2
 rw [h1] at hz
 have hxl := val_lt hx
 rw [hk] at hxl
 rw [List.take_of_length_le (l := xs) (by omega)] at h3
 have hy : val (ys.take k) = val ys := by
  by_cases hky : ys.length ≤ k
  · rw [List.take_of_length_le hky]
  · have e := val_split ys k (by omega)
    have h0 : val (ys.drop k) = 0 := by
     refine Classical.byContradiction fun hn => ?_
     have : 4294967296 ^ k * 1 ≤ 4294967296 ^ k * val (ys.drop k) := Nat.mul_le_mul_left _ (by omega)
     omega
    rw [h0] at e
    omega
 rw [hy] at h3
 rcases (show br = 0 ∨ br = 1 by omega) with rfl | rfl
 · omega
 · omega
end Go.Proofs.YtheaepceghnkpaaGreatDoor

/- Rows of bytes that the call itself made: what they read as, stores, growth by append, the text of one. No condition. -/
namespace Go.Proofs.YtheaepceghnkpaaGreatDoor
open Go.RowKit Limb
set_option linter.unusedVariables false
def byV (x : Nat) : Value := .int .u8 (x : Int)
def IsB (w : World) (A : Option Addr) (n : Nat) (xs : List Nat) : Prop :=
 xs.length = n ∧ Bytes xs ∧ (0 < n → ∃ b o, A = some ⟨b, o, none⟩ ∧ b < w.heap.size ∧ ∀ j, j < n → w.cell? ⟨b, o + j, none⟩ = some (.int .u8 ((lim xs j : Nat) : Int)))
theorem IsB.below {w w' : World} {A : Option Addr} {n : Nat} {xs : List Nat} (h : IsB w A n xs) (hb : Below w.heap.size w w') : IsB w' A n xs := by
 refine ⟨h.1, h.2.1, fun hn => ?_⟩
 obtain ⟨b, o, e, hlt, hc⟩ := h.2.2 hn
 exact ⟨b, o, e, Nat.lt_of_lt_of_le hlt hb.size, fun j hj => (hb.cell (p := ⟨b, o + j, none⟩) hlt).trans (hc j hj)⟩
def OwnB (w : World) (B : Nat) (A : Option Addr) (n c : Nat) (zs : List Nat) : Prop :=
 w.ownsRow B 5 1 (.slice A n c) n (zs.map byV) ∧ Bytes zs
section
variable {w w' : World} {B B' C : Nat} {A : Option Addr} {n c : Nat} {zs : List Nat}
theorem OwnB.len (h : OwnB w B A n c zs) : zs.length = n := by
 have := h.1.1; simpa using this
theorem OwnB.bytes (h : OwnB w B A n c zs) : Bytes zs := h.2
theorem OwnB.caps (h : OwnB w B A n c zs) : n ≤ c ∧ c ≤ maxLen := by
 rcases h.1.2 with ⟨hv, h0⟩ | ⟨g, cap, cur, hv, hg, hh, h1, h2, _⟩
 · injection hv with _ _ hc; subst hc; subst h0; exact ⟨Nat.le_refl _, Nat.zero_le _⟩
 · injection hv with _ _ hc; subst hc; exact ⟨h1, h2⟩
theorem OwnB.nil (w : World) (B : Nat) : OwnB w B none 0 0 [] := ⟨World.ownsRow_nil _ _ _ _, bytes_nil⟩
theorem OwnB.addr (h : OwnB w B A n c zs) (hn : 0 < n) : ∃ g, A = some ⟨g, 0, none⟩ ∧ B ≤ g ∧ g < w.heap.size := by
 rcases h.1.2 with ⟨_, h0⟩ | ⟨g, cap, cur, hv, hg, hh, _⟩
 · omega
 · injection hv with hA
   refine ⟨g, hA, hg, ?_⟩
   rcases Nat.lt_or_ge g w.heap.size with hlt | hge
   · exact hlt
   · rw [Array.getElem?_eq_none hge] at hh; cases hh
theorem OwnB.cell {g : Nat} (h : OwnB w B (some ⟨g, 0, none⟩) n c zs) {k : Nat} (hk : k < n) : w.cell? ⟨g, k, none⟩ = some (.int .u8 ((lim zs k : Nat) : Int)) := by
 have hl := h.len
 rw [h.1.cellAt k (by omega), List.getElem?_map, List.getElem?_eq_getElem (by omega)]
 simp [byV, lim, List.getD_eq_getElem?_getD, List.getElem?_eq_getElem (show k < zs.length by omega)]
theorem OwnB.set {g : Nat} (h : OwnB w B (some ⟨g, 0, none⟩) n c zs) (k : Nat) {v : Nat} (hv : v < 256) :
 OwnB (w.setCell ⟨g, k, none⟩ (.int .u8 ((v : Nat) : Int))) B (some ⟨g, 0, none⟩) n c (zs.set k v) := by
 have := (h.1.stored k (byV v)).1
 rw [← List.map_set] at this
 exact ⟨this, bytes_set h.2 k v hv⟩
theorem OwnB.below (h : OwnB w B A n c zs) (hb : Below C w w') (hC : w.heap.size ≤ C) : OwnB w' B A n c zs := by
 refine ⟨⟨h.1.1, ?_⟩, h.2⟩
 rcases h.1.2 with h2 | ⟨g, cap, cur, hv, hg, hh, r⟩
 · exact .inl h2
 · refine .inr ⟨g, cap, cur, hv, hg, ?_, r⟩
   have hlt : g < w.heap.size := by
    rcases Nat.lt_or_ge g w.heap.size with hlt | hge
    · exact hlt
    · rw [Array.getElem?_eq_none hge] at hh; cases hh
   rw [hb.block g (by omega)]
   exact hh
theorem OwnB.mono (h : OwnB w B A n c zs) (hB : B' ≤ B) : OwnB w B' A n c zs := by
 refine ⟨⟨h.1.1, ?_⟩, h.2⟩
 rcases h.1.2 with h2 | ⟨g, cap, cur, hv, hg, r⟩
 · exact .inl h2
 · exact .inr ⟨g, cap, cur, hv, Nat.le_trans hB hg, r⟩
theorem OwnB.row (h : OwnB w B A n c zs) : w.ownsRow B 5 1 (.slice A n c) n (zs.map byV) := h.1
theorem OwnB.alloc (h : OwnB w B A n c zs) (o : Obj) : OwnB (w.alloc o) B A n c zs := ⟨h.1.alloc o, h.2⟩
end
end Go.Proofs.YtheaepceghnkpaaGreatDoor

/- What package mul's down answers, as a contract over memory: a number moved down by bits, in shortest limbs, in new memory. Conditions: the list reads as limbs, of at most 10^8 of them; moves of at most 8192 bits. -/
namespace Go.Proofs.YtheaepceghnkpaaGreatDoor.Limb
def downLimb (ys : List Nat) (r j : Nat) : Nat := lim ys j / 2 ^ r ||| lim ys (j + 1) * 2 ^ (32 - r) % 4294967296
def DownInv (ys zs : List Nat) (r k : Nat) : Prop := zs.length = ys.length ∧ (∀ j, j < k → lim zs j = downLimb ys r j) ∧ ∀ j, k ≤ j → lim zs j = lim ys j
theorem DownInv.start (ys : List Nat) (r : Nat) : DownInv ys ys r 0 := ⟨rfl, fun j hj => by omega, fun _ _ => rfl⟩
theorem DownInv.step {ys zs : List Nat} {r k v : Nat} (h : DownInv ys zs r k) (hk : k < ys.length) (hv : v = downLimb ys r k) : DownInv ys (zs.set k v) r (k + 1) := by
 obtain ⟨h1, h2, h3⟩ := h
 refine ⟨by simpa using h1, fun j hj => ?_, fun j hj => by rw [lim_set_ne (by omega)]; exact h3 j (by omega)⟩
 by_cases e : j = k
 · subst e; rw [lim_set_self (by omega), hv]
 · rw [lim_set_ne (fun h => e h.symm)]; exact h2 j (by omega)
end Go.Proofs.YtheaepceghnkpaaGreatDoor.Limb
namespace Go.Proofs.YtheaepceghnkpaaGreatDoor
open Go.RowKit Limb
set_option linter.unusedVariables false
end Go.Proofs.YtheaepceghnkpaaGreatDoor

/- What math/bits' Len64 and Len answer: how many bits a word has; and package mul's Shift. Conditions: none for Len; for Shift the list reads as limbs, of at most 9*10^7 of them. -/
namespace Go.Proofs.YtheaepceghnkpaaGreatDoor
open Go.RowKit Limb
set_option linter.unusedVariables false
end Go.Proofs.YtheaepceghnkpaaGreatDoor

/- Package mul's contracts in one form (numbers, lengths), and what Pow answers: the power that is made bit by bit from the highest one, or nothing where a step has too many limbs. Conditions: lists read as limbs, of at most 10^7 of them. -/
namespace Go.Proofs.YtheaepceghnkpaaGreatDoor.Limb
end Go.Proofs.YtheaepceghnkpaaGreatDoor.Limb
namespace Go.Proofs.YtheaepceghnkpaaGreatDoor
open Go.RowKit Limb
set_option linter.unusedVariables false
section
variable {w : World} {A A' : Option Addr} {n c n' c' : Nat} {xs ys : List Nat} {a b L L' : Nat}
end
theorem NN.len {w : World} {A : Option Addr} {n c : Nat} {xs : List Nat} {a L : Nat} (h : NN w A n c xs a L) : n = xs.length := h.isN.len.symm
end Go.Proofs.YtheaepceghnkpaaGreatDoor

/- What the reference's Small and Up of layer 2 come to, as contracts over memory: a number times one limb, moved by bits, in shortest limbs. Conditions: the list reads as limbs, of at most 10^7 of them; moves of at most 10^7 bits. -/
namespace Go.Proofs.YtheaepceghnkpaaGreatDoor.Limb
def RSmall (xs zs : List Nat) (v k c : Nat) : Prop := zs.length = k ∧ Small zs ∧ val zs + c * 4294967296 ^ k = val (xs.take k) * v ∧ c < 4294967296
theorem RSmall.start (xs : List Nat) (v : Nat) : RSmall xs [] v 0 0 := ⟨rfl, small_nil, by simp [val], by omega⟩
theorem RSmall.step {xs zs : List Nat} {v k c lo hi : Nat} (h : RSmall xs zs v k c) (hx : Small xs) (hv : v < 4294967296) (hlo : lo < 4294967296) (e : lo + hi * 4294967296 = c + lim xs k * v) : RSmall xs (zs ++ [lo]) v (k + 1) hi := by
 obtain ⟨h1, h2, h3, h4⟩ := h
 refine ⟨by simp [h1], small_append.2 ⟨h2, by intro x hx; simp at hx; omega⟩, ?_, ?_⟩
 · rw [val_append, h1, val_take_lim, Nat.pow_succ]
   have := row_step (S := val zs) (Q := 0) (X := val (xs.take k)) (x := lim xs k) (v := v) (p := 0) (cr := c) (P := 4294967296 ^ k) (lo := lo) (hi := hi) (by rw [h3, Nat.zero_add, Nat.mul_comm]) (by rw [e, Nat.add_zero])
   simp only [val, Nat.mul_zero, Nat.add_zero, Nat.zero_add] at this ⊢
   rw [this, Nat.mul_comm]
 · have := limb_prod (lim_lt hx k) hv
   omega
theorem RSmall.done {xs zs : List Nat} {v k c : Nat} (h : RSmall xs zs v k c) (hx : xs.length = k) : Small (zs ++ [c]) ∧ val (zs ++ [c]) = val xs * v := by
 obtain ⟨h1, h2, h3, h4⟩ := h
 refine ⟨small_append.2 ⟨h2, by intro x hx; simp at hx; omega⟩, ?_⟩
 rw [List.take_of_length_le (by omega)] at h3
 rw [val_append, h1, ← h3, Nat.mul_comm c]
 simp [val]
def RUp (xs zs : List Nat) (q r k c : Nat) : Prop := zs.length = q + k ∧ Small zs ∧ val zs + c * 4294967296 ^ (q + k) = 4294967296 ^ q * val (xs.take k) * 2 ^ r ∧ c < 2 ^ r
theorem RUp.start (xs : List Nat) (q r : Nat) : RUp xs (List.replicate q 0) q r 0 0 := by
 refine ⟨by simp, small_zeros q, ?_, Nat.two_pow_pos _⟩
 have := val_zeros q []
 rw [List.append_nil] at this
 rw [this]; simp [val]
theorem RUp.step {xs zs : List Nat} {q r k c lo hi : Nat} (h : RUp xs zs q r k c) (hx : Small xs) (hlo : lo < 4294967296) (e : lo + hi * 4294967296 = c + lim xs k * 2 ^ r) : RUp xs (zs ++ [lo]) q r (k + 1) hi := by
 obtain ⟨h1, h2, h3, h4⟩ := h
 refine ⟨by simp [h1]; omega, small_append.2 ⟨h2, by intro x hx; simp at hx; omega⟩, ?_, ?_⟩
 · rw [val_append, h1, val_take_lim, ← Nat.add_assoc, Nat.pow_succ]
   have := row_step (S := val zs) (Q := 0) (X := 4294967296 ^ q * val (xs.take k)) (x := lim xs k) (v := 2 ^ r) (p := 0) (cr := c) (P := 4294967296 ^ (q + k)) (lo := lo) (hi := hi) (by rw [h3, Nat.zero_add, Nat.mul_comm]) (by rw [e, Nat.add_zero])
   simp only [val, Nat.mul_zero, Nat.add_zero, Nat.zero_add] at this ⊢
   have e2 : 4294967296 ^ (q + k) * lim xs k = 4294967296 ^ q * (4294967296 ^ k * lim xs k) := by rw [Nat.pow_add, Nat.mul_assoc]
   rw [this, e2, ← Nat.mul_add, Nat.mul_comm]
 · have h5 : lim xs k * 2 ^ r ≤ 4294967295 * 2 ^ r := Nat.mul_le_mul_right _ (by have := lim_lt hx k; omega)
   omega
theorem RUp.done {xs zs : List Nat} {q r k c : Nat} (h : RUp xs zs q r k c) (hx : xs.length = k) (hr : r < 32) : Small (zs ++ [c]) ∧ val (zs ++ [c]) = 4294967296 ^ q * val xs * 2 ^ r := by
 obtain ⟨h1, h2, h3, h4⟩ := h
 have hc : c < 4294967296 := by
  have : 2 ^ r < 2 ^ 32 := Nat.pow_lt_pow_right (by decide) hr
  omega
 refine ⟨small_append.2 ⟨h2, by intro x hx; simp at hx; omega⟩, ?_⟩
 rw [List.take_of_length_le (by omega)] at h3
 rw [val_append, h1, ← h3, Nat.mul_comm c]
 simp [val]
theorem RUp.or {c x r : Nat} (h : c < 2 ^ r) : c ||| x * 2 ^ r = c + x * 2 ^ r := by
 rw [Nat.or_comm, Nat.mul_comm, ← Nat.two_pow_add_eq_or_of_lt h]
 omega
end Go.Proofs.YtheaepceghnkpaaGreatDoor.Limb
namespace Go.Proofs.YtheaepceghnkpaaGreatDoor
open Go.RowKit Limb
set_option linter.unusedVariables false
end Go.Proofs.YtheaepceghnkpaaGreatDoor

/- What the reference's Down and Shift of layer 2 come to, as contracts over memory: a number moved by bits, in shortest limbs. Conditions: the list reads as limbs, of at most 9*10^7 of them. -/
namespace Go.Proofs.YtheaepceghnkpaaGreatDoor
open Go.RowKit Limb
set_option linter.unusedVariables false
def RDown (ys zs : List Nat) (r k : Nat) : Prop := zs.length = k ∧ ∀ j, j < k → lim zs j = downLimb ys r j
theorem RDown.start (ys : List Nat) (r : Nat) : RDown ys [] r 0 := ⟨rfl, fun j hj => by omega⟩
theorem lim_append_lt {zs us : List Nat} {j : Nat} (h : j < zs.length) : lim (zs ++ us) j = lim zs j := by
 simp [lim, List.getD_eq_getElem?_getD, List.getElem?_append_left h]
theorem lim_append_at {zs : List Nat} {u : Nat} : lim (zs ++ [u]) zs.length = u := by
 simp [lim, List.getD_eq_getElem?_getD]
theorem RDown.step {ys zs : List Nat} {r k v : Nat} (h : RDown ys zs r k) (hv : v = downLimb ys r k) : RDown ys (zs ++ [v]) r (k + 1) := by
 obtain ⟨h1, h2⟩ := h
 refine ⟨by simp [h1], fun j hj => ?_⟩
 by_cases e : j = k
 · subst e; rw [← h1, lim_append_at, h1, hv]
 · rw [lim_append_lt (by omega)]; exact h2 j (by omega)
end Go.Proofs.YtheaepceghnkpaaGreatDoor

/- What the reference's Of of layer 2 comes to, as a contract over memory: the product, in shortest limbs. Conditions: both lists read as limbs, of at most 10^6 of them. -/
namespace Go.Proofs.YtheaepceghnkpaaGreatDoor
open Go.RowKit Limb
set_option linter.unusedVariables false
end Go.Proofs.YtheaepceghnkpaaGreatDoor

/- What the reference's Rem of layer 3 comes to, as a contract over memory: quotient and what is left, by bits moved and taken away. Conditions: both lists read as limbs, of at most 10^5 of them. -/
namespace Go.Proofs.YtheaepceghnkpaaGreatDoor.Limb
theorem val_set_add {zs : List Nat} {q d : Nat} (hq : q < zs.length) : val (zs.set q (lim zs q + d)) = val zs + 4294967296 ^ q * d := by
 rw [val_split (zs.set q (lim zs q + d)) (q + 1) (by simp; omega), drop_succ_set, val_take_set hq, val_split zs (q + 1) (by omega), val_take_lim, Nat.mul_add]
 omega
theorem low_bit {V i : Nat} (h : V % 2 ^ (i + 1) = 0) : (V / 4294967296 ^ (i / 32) % 4294967296) ||| 2 ^ (i % 32) = V / 4294967296 ^ (i / 32) % 4294967296 + 2 ^ (i % 32) := by
 obtain ⟨c, rfl⟩ := Nat.dvd_of_mod_eq_zero h
 have e1 : 2 ^ (i + 1) = 2 ^ (32 * (i / 32)) * 2 ^ (i % 32 + 1) := by rw [← Nat.pow_add]; congr 1; omega
 have hk : i % 32 < 32 := Nat.mod_lt _ (by decide)
 have e2 : (4294967296 : Nat) = 2 ^ (i % 32 + 1) * 2 ^ (31 - i % 32) := by rw [← Nat.pow_add, show i % 32 + 1 + (31 - i % 32) = 32 by omega]
 have e3 : 2 ^ (i + 1) * c / 4294967296 ^ (i / 32) = 2 ^ (i % 32 + 1) * c := by
  rw [pow32, e1, Nat.mul_assoc, Nat.mul_div_cancel_left _ (Nat.two_pow_pos _)]
 have e4 : 2 ^ (i % 32 + 1) * c % 4294967296 = 2 ^ (i % 32 + 1) * (c % 2 ^ (31 - i % 32)) := by
  rw [show 2 ^ (i % 32 + 1) * c % 4294967296 = 2 ^ (i % 32 + 1) * c % (2 ^ (i % 32 + 1) * 2 ^ (31 - i % 32)) by rw [← e2], Nat.mul_mod_mul_left]
 rw [e3, e4]
 exact (Nat.two_pow_add_eq_or_of_lt (Nat.pow_lt_pow_right (by decide) (Nat.lt_succ_self _)) _).symm
def QInv (a b : Nat) (zs : List Nat) (left j : Nat) : Prop := a = left + b * val zs ∧ left < b * 2 ^ j ∧ val zs % 2 ^ j = 0
theorem QInv.start {a b n : Nat} (k : Nat) (hb : b ≠ 0) (h : blen a ≤ blen b + n) : QInv a b (List.replicate k 0) a (n + 1) := by
 have e0 : val (List.replicate k 0) = 0 := val_zero fun j => by simp [lim, List.getD_eq_getElem?_getD, List.getElem?_replicate]; split <;> rfl
 refine ⟨by rw [e0]; rfl, ?_, by rw [e0, Nat.zero_mod]⟩
 obtain ⟨h1, h2, h3⟩ := blen_spec hb
 have h4 : a < 2 ^ (blen b + n) := Nat.lt_of_lt_of_le (blen_lt a) (Nat.pow_le_pow_right (by decide) h)
 have h5 : 2 ^ (blen b + n) = 2 ^ (blen b - 1) * 2 ^ (n + 1) := by rw [← Nat.pow_add]; congr 1; omega
 rw [h5] at h4
 exact Nat.lt_of_lt_of_le h4 (Nat.mul_le_mul_right _ h1)
theorem mod_low {V j : Nat} (h : V % 2 ^ (j + 1) = 0) : V % 2 ^ j = 0 :=
 Nat.mod_eq_zero_of_dvd (Nat.dvd_trans ⟨2, by rw [Nat.pow_succ]⟩ (Nat.dvd_of_mod_eq_zero h))
theorem QInv.yes {a b left j : Nat} {zs : List Nat} (h : QInv a b zs left (j + 1)) (hz : Small zs) (hle : b * 2 ^ j ≤ left) (hj : j / 32 < zs.length) : QInv a b (zs.set (j / 32) (lim zs (j / 32) ||| 2 ^ (j % 32))) (left - b * 2 ^ j) j := by
 obtain ⟨h1, h2, h3⟩ := h
 have e : val (zs.set (j / 32) (lim zs (j / 32) ||| 2 ^ (j % 32))) = val zs + 2 ^ j := by
  have h4 := low_bit h3
  rw [lim_eq_div zs hz] at h4
  rw [h4, val_set_add hj, pow_move]
 refine ⟨?_, ?_, ?_⟩
 · rw [e, Nat.mul_add, h1]; omega
 · rw [Nat.pow_succ, ← Nat.mul_assoc] at h2; omega
 · rw [e, Nat.add_mod_right]; exact mod_low h3
theorem QInv.no {a b left j : Nat} {zs : List Nat} (h : QInv a b zs left (j + 1)) (hlt : left < b * 2 ^ j) : QInv a b zs left j := ⟨h.1, hlt, mod_low h.2.2⟩
theorem QInv.done {a b left : Nat} {zs : List Nat} (h : QInv a b zs left 0) (hb : b ≠ 0) : val zs = a / b ∧ left = a % b := by
 obtain ⟨h1, h2, _⟩ := h
 rw [Nat.pow_zero, Nat.mul_one] at h2
 refine ⟨?_, ?_⟩
 · rw [h1, Nat.add_mul_div_left _ _ (Nat.pos_of_ne_zero hb), Nat.div_eq_of_lt h2, Nat.zero_add]
 · rw [h1, Nat.add_mul_mod_self_left, Nat.mod_eq_of_lt h2]
end Go.Proofs.YtheaepceghnkpaaGreatDoor.Limb
namespace Go.Proofs.YtheaepceghnkpaaGreatDoor
open Go.RowKit Limb
set_option linter.unusedVariables false
def Apart (g : Nat) (A : Option Addr) (n : Nat) : Prop := 0 < n → ∀ b o s, A = some ⟨b, o, s⟩ → b ≠ g
theorem Apart.own {w : World} {B : Nat} {A : Option Addr} {n c : Nat} {zs : List Nat} {g : Nat} (h : OwnN w B A n c zs) (hg : g < B) : Apart g A n := by
 intro hn b o s e
 obtain ⟨g', e', hB, _⟩ := h.addr hn
 rw [e] at e'; injection e' with e'; injection e' with e' _
 omega
theorem NN.elsewhere {w : World} {A : Option Addr} {n c : Nat} {xs : List Nat} {a L g : Nat} (h : NN w A n c xs a L) (hg : Apart g A n) (k : Nat) (v : Value) : NN (w.setCell ⟨g, k, none⟩ v) A n c xs a L := by
 refine ⟨⟨h.isN.1, h.isN.2.1, fun hn => ?_⟩, h.val, h.cap, h.le⟩
 obtain ⟨b, o, e, hlt, hc⟩ := h.isN.2.2 hn
 refine ⟨b, o, e, by simpa [World.setCell] using hlt, fun j hj => ?_⟩
 rw [cell_setCell_ne _ _ (by intro e2; injection e2 with e2; exact hg hn b o none e e2.symm)]
 exact hc j hj
end Go.Proofs.YtheaepceghnkpaaGreatDoor

/- What the reference's Gcd of layer 3 comes to, as a contract over memory: the greatest divisor in common. Conditions: both lists read as limbs, of at most 40000 of them. -/
namespace Go.Proofs.YtheaepceghnkpaaGreatDoor
open Go.RowKit Limb
set_option linter.unusedVariables false
end Go.Proofs.YtheaepceghnkpaaGreatDoor

/- What the reference's calls of layer 5 come to, as contracts over memory: a number by ten and what is left, its decimal text, ten to a power. Conditions: lists read as limbs, of at most 10^4 of them; exponents of at most 10^4. -/
namespace Go.Proofs.YtheaepceghnkpaaGreatDoor
open Go.RowKit Limb
set_option linter.unusedVariables false
theorem OwnN.keeps {w w' : World} {B : Nat} {A : Option Addr} {n c : Nat} {zs : List Nat} (h : OwnN w B A n c zs) {row : Option Nat} {o : Obj} (hg : (w.alloc o).grownBy w' row) (hr : ∀ k, row = some k → k < B) : OwnN w' B A n c zs := by
 have ha := h.alloc o
 refine ⟨⟨h.1.1, ?_⟩, h.2⟩
 rcases ha.1.2 with h2 | ⟨g, cap, cur, hv, hB, hh, r⟩
 · exact .inl h2
 · refine .inr ⟨g, cap, cur, hv, hB, ?_, r⟩
   have hlt : g < (w.alloc o).heap.size := by
    rcases Nat.lt_or_ge g (w.alloc o).heap.size with hlt | hge
    · exact hlt
    · rw [Array.getElem?_eq_none hge] at hh; cases hh
   rw [hg.block g hlt (fun e => by have := hr g e.symm; omega)]
   exact hh
end Go.Proofs.YtheaepceghnkpaaGreatDoor
namespace Go.Proofs.YtheaepceghnkpaaGreatDoor.Limb
def decS (n : Nat) : List Nat := if n = 0 then [] else decT n
theorem decS_zero : decS 0 = [] := rfl
theorem decS_pos {n : Nat} (h : n ≠ 0) : decS n = decT n := if_neg h
theorem decS_step {n : Nat} (h : n ≠ 0) : decS n = decS (n / 10) ++ [48 + n % 10] := by
 rw [decS_pos h]
 by_cases h1 : n < 10
 · rw [decT_small h1, show n / 10 = 0 by omega, decS_zero, show n % 10 = n by omega]; rfl
 · rw [decT_big (by omega), decS_pos (by omega)]
def TInv (a : Nat) (zs : List Nat) (m : Nat) : Prop := decS a = decS m ++ zs.reverse ∧ Bytes zs
theorem TInv.start (a : Nat) : TInv a [] a := ⟨by simp, bytes_nil⟩
theorem TInv.step {a m : Nat} {zs : List Nat} (h : TInv a zs m) (h0 : m ≠ 0) : TInv a (zs ++ [48 + m % 10]) (m / 10) := by
 refine ⟨?_, bytes_append.2 ⟨h.2, bytes_cons.2 ⟨by omega, bytes_nil⟩⟩⟩
 rw [h.1, decS_step h0, List.reverse_append]; simp
theorem TInv.done {a : Nat} {zs : List Nat} (h : TInv a zs 0) : decS a = zs.reverse := by rw [h.1, decS_zero]; rfl
theorem TInv.len {a m L : Nat} {zs : List Nat} (h : TInv a zs m) (hl : a < 4294967296 ^ L) : zs.length ≤ 10 * L + 1 := by
 have h1 : (decS a).length ≤ 10 * L + 1 := by
  unfold decS
  split
  · simp
  · exact decT_len_limbs hl
 rw [h.1] at h1
 simp at h1
 omega
def RevInv (zs ys : List Nat) (i : Nat) : Prop :=
 ys.length = zs.length ∧ (∀ j, j < zs.length → lim ys j = if j < i ∨ zs.length ≤ j + i then lim zs (zs.length - 1 - j) else lim zs j) ∧ 2 * i ≤ zs.length + 1
theorem RevInv.start (zs : List Nat) : RevInv zs zs 0 := ⟨rfl, fun j hj => by rw [if_neg (by omega)], by omega⟩
theorem RevInv.step {zs ys : List Nat} {i k : Nat} (h : RevInv zs ys i) (hk : i + k + 1 = zs.length) (hik : i < k) : RevInv zs ((ys.set i (lim ys k)).set k (lim ys i)) (i + 1) := by
 obtain ⟨h1, h2, h3⟩ := h
 refine ⟨by simp [h1], fun j hj => ?_, by omega⟩
 have e1 := h2 i (by omega)
 have e2 := h2 k (by omega)
 rw [if_neg (by omega)] at e1 e2
 by_cases j1 : j = k
 · subst j1
   rw [lim_set_self (by simp; omega), e1, if_pos (by omega), show zs.length - 1 - j = i by omega]
 · rw [lim_set_ne (fun e => j1 e.symm)]
   by_cases j2 : j = i
   · subst j2
     rw [lim_set_self (by omega), e2, if_pos (by omega), show zs.length - 1 - j = k by omega]
   · rw [lim_set_ne (fun e => j2 e.symm), h2 j hj]
     by_cases c : j < i ∨ zs.length ≤ j + i
     · rw [if_pos c, if_pos (by omega)]
     · rw [if_neg c, if_neg (by omega)]
theorem eq_of_lim {xs ys : List Nat} (hl : xs.length = ys.length) (h : ∀ j, j < xs.length → lim xs j = lim ys j) : xs = ys := by
 refine List.ext_getElem hl fun j h1 h2 => ?_
 have := h j h1
 simpa [lim, List.getD_eq_getElem?_getD, List.getElem?_eq_getElem h1, List.getElem?_eq_getElem h2] using this
theorem lim_reverse {zs : List Nat} {j : Nat} (h : j < zs.length) : lim zs.reverse j = lim zs (zs.length - 1 - j) := by
 simp [lim, List.getD_eq_getElem?_getD, List.getElem?_reverse h]
theorem RevInv.done {zs ys : List Nat} {i k : Nat} (h : RevInv zs ys i) (hk : i + k + 1 = zs.length) (hik : k ≤ i) : ys = zs.reverse := by
 obtain ⟨h1, h2, h3⟩ := h
 refine eq_of_lim (by simp [h1]) fun j hj => ?_
 rw [h2 j (by omega), lim_reverse (by omega)]
 by_cases c : j < i ∨ zs.length ≤ j + i
 · rw [if_pos c]
 · rw [if_neg c, show zs.length - 1 - j = j by omega]
end Go.Proofs.YtheaepceghnkpaaGreatDoor.Limb
namespace Go.Proofs.YtheaepceghnkpaaGreatDoor
open Go.RowKit Limb
set_option linter.unusedVariables false
end Go.Proofs.YtheaepceghnkpaaGreatDoor

/- What the reference's Pow of layer 2 comes to, as a contract over memory: the power bit by bit, and whether there is one. Conditions: the list reads as limbs, of at most 10^5 of them. -/
namespace Go.Proofs.YtheaepceghnkpaaGreatDoor
open Go.RowKit Limb
set_option linter.unusedVariables false
end Go.Proofs.YtheaepceghnkpaaGreatDoor

/- What the reference's Parse of layer 5 comes to, as a contract over memory: the number of a text of decimal digits, or that there is none. Conditions: texts that can be read. -/
namespace Go.Proofs.YtheaepceghnkpaaGreatDoor
open Go.RowKit Limb
set_option linter.unusedVariables false
def Row2 (w : World) (g : Nat) (T : TypeId) (u v : Value) : Prop := w.heap[g]? = some (.cells #[u, v] T (0, 0))
section
variable {w w' : World} {g : Nat} {T : TypeId} {u v : Value}
theorem Row2.lt (h : Row2 w g T u v) : g < w.heap.size := by
 rcases Nat.lt_or_ge g w.heap.size with hlt | hge
 · exact hlt
 · unfold Row2 at h; rw [Array.getElem?_eq_none hge] at h; cases h
theorem Row2.below (h : Row2 w g T u v) (hb : Below w.heap.size w w') : Row2 w' g T u v := (hb.block g h.lt).trans h
theorem Row2.c0 (h : Row2 w g T u v) : w.cell? ⟨g, 0, none⟩ = some u := by unfold Row2 at h; simp [World.cell?, h]
theorem Row2.c1 (h : Row2 w g T u v) : w.cell? ⟨g, 1, none⟩ = some v := by unfold Row2 at h; simp [World.cell?, h]
theorem Row2.free (h : Row2 w g T u v) (k : Nat) : w.frozen? ⟨g, k, none⟩ = false := by unfold Row2 at h; simp [World.frozen?, h]
theorem Row2.fill (h : Row2 w g T u v) (x y : Value) : ((w.setCell ⟨g, 0, none⟩ x).setCell ⟨g, 1, none⟩ y).heap[g]? = some (.cells #[x, y] T (0, 0)) := by
 unfold Row2 at h
 simp [World.setCell, Array.getElem?_modify, h]
end
def PInv (l : List Nat) (i t : Nat) : Prop := allDig (l.take i) = true ∧ t = decV (l.take i)
theorem PInv.start (l : List Nat) : PInv l 0 0 := ⟨rfl, rfl⟩
theorem PInv.step {l : List Nat} {i t : Nat} (h : PInv l i t) (hi : i < l.length) (hd : isDig (lim l i) = true) : PInv l (i + 1) (t * 10 + (lim l i - 48)) := by
 have e : l.take (i + 1) = l.take i ++ [lim l i] := by
  rw [List.take_succ_eq_append_getElem hi]
  simp [lim, List.getD_eq_getElem?_getD, List.getElem?_eq_getElem hi]
 refine ⟨by rw [e, allDig_append, h.1]; simp [allDig, hd], by rw [e, decV_snoc, h.2]⟩
theorem PInv.lt {l : List Nat} {i t : Nat} (h : PInv l i t) (hi : l.length ≤ 2000) : t < 4294967296 ^ 223 := by
 have h1 := decV_lt h.1
 rw [← h.2] at h1
 refine Nat.lt_of_lt_of_le h1 (dec_room ?_)
 rw [List.length_take]
 omega
end Go.Proofs.YtheaepceghnkpaaGreatDoor
