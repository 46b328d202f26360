/- Part 0 of the texts that the statements of this seat lean on: mathematics, and what functions answer, as contracts over memory; each part says its own conditions. -/
import Derived.Test.YtmifgblbicnimaaRows
import Derived.WalkKit
import Derived.WalkSpells
import Derived.WalkLawsBesides
import Derived.Lib.Hide
import Derived.Laws.CopyOwn
import Derived.BigQuiet
import Derived.Deep.QuietTactic
import Derived.Deep.Draws
import Derived.Laws.BitsAllLaws
import Derived.Lib.BitFns
import Derived.Maps.AppendAt
import Derived.ProofKit
import Derived.OpenShut
import Derived.ShutString
import Derived.ChangeOld
import Derived.ChangeArms
/- Plain mathematics on lists of limbs of 32 bits: the number that a list tells, the shortest list of a number, and what sums and differences limb by limb come to. No condition. -/
namespace Go.Proofs.Ytmifgblbicnimaa.Limb

/-- The number that limbs tell, the lowest first. -/
def val : List Nat → Nat
  | [] => 0
  | x :: xs => x + 4294967296 * val xs

/-- All are below 2^32. -/
def Small (xs : List Nat) : Prop := ∀ x ∈ xs, x < 4294967296

/-- The shortest limbs of a number, at most f of them. -/
def limbsTo : Nat → Nat → List Nat
  | 0, _ => []
  | f + 1, n => if n = 0 then [] else (n % 4294967296) :: limbsTo f (n / 4294967296)

/-- The shortest limbs of a number. -/
def limbs (n : Nat) : List Nat := limbsTo n n

/-- Without limbs of 0 at the end. -/
def trim : List Nat → List Nat
  | [] => []
  | x :: xs => if trim xs = [] ∧ x = 0 then [] else x :: trim xs

theorem limbsTo_zero (f : Nat) : limbsTo f 0 = [] := by cases f <;> simp [limbsTo]
theorem limbsTo_more (f : Nat) : ∀ g n, n ≤ f → n ≤ g → limbsTo f n = limbsTo g n := by
  induction f with
  | zero => intro g n h _; obtain rfl : n = 0 := by omega
            rw [limbsTo_zero, limbsTo_zero]
  | succ f ih =>
    intro g n hf hg
    cases g with
    | zero => obtain rfl : n = 0 := by omega
              rw [limbsTo_zero, limbsTo_zero]
    | succ g =>
      rw [limbsTo, limbsTo]
      by_cases h : n = 0
      · rw [if_pos h, if_pos h]
      · rw [if_neg h, if_neg h, ih g (n / 4294967296) (by omega) (by omega)]
theorem limbs_zero : limbs 0 = [] := rfl
theorem limbs_pos {n : Nat} (h : n ≠ 0) : limbs n = (n % 4294967296) :: limbs (n / 4294967296) := by
  cases n with
  | zero => exact absurd rfl h
  | succ m =>
    rw [limbs, limbsTo, if_neg h, limbs, limbsTo_more m ((m + 1) / 4294967296) ((m + 1) / 4294967296) (by omega) (Nat.le_refl _)]

theorem small_nil : Small [] := by intro x hx; cases hx
theorem small_cons {x : Nat} {xs : List Nat} : Small (x :: xs) ↔ x < 4294967296 ∧ Small xs := by simp [Small]
theorem small_append {xs ys : List Nat} : Small (xs ++ ys) ↔ Small xs ∧ Small ys := by
  simp only [Small, List.mem_append]
  exact ⟨fun h => ⟨fun x hx => h x (.inl hx), fun x hx => h x (.inr hx)⟩, fun h x hx => hx.elim (h.1 x) (h.2 x)⟩
theorem small_take {xs : List Nat} (h : Small xs) (k : Nat) : Small (xs.take k) := fun x hx => h x (List.mem_of_mem_take hx)
theorem small_drop {xs : List Nat} (h : Small xs) (k : Nat) : Small (xs.drop k) := fun x hx => h x (List.mem_of_mem_drop hx)
theorem small_getD {xs : List Nat} (h : Small xs) (k : Nat) : xs.getD k 0 < 4294967296 := by
  by_cases hk : k < xs.length
  · rw [List.getD_eq_getElem?_getD, List.getElem?_eq_getElem hk]; exact h _ (List.getElem_mem hk)
  · rw [List.getD_eq_getElem?_getD, List.getElem?_eq_none (by omega)]; exact (by decide : (0 : Nat) < 4294967296)
theorem small_set {xs : List Nat} (h : Small xs) (k v : Nat) (hv : v < 4294967296) : Small (xs.set k v) := fun x hx => (List.mem_or_eq_of_mem_set hx).elim (h x) (fun e => by omega)

/-- A limb, 0 beyond: under a name that no simp set opens. -/
def lim (xs : List Nat) (k : Nat) : Nat := xs.getD k 0
theorem lim_lt {xs : List Nat} (h : Small xs) (k : Nat) : lim xs k < 4294967296 := small_getD h k

theorem small_limbs (n : Nat) : Small (limbs n) := by
  induction n using Nat.strongRecOn with
  | ind n ih =>
    by_cases h : n = 0
    · subst h; rw [limbs_zero]; exact small_nil
    · rw [limbs_pos h, small_cons]; exact ⟨by omega, ih _ (by omega)⟩

theorem val_limbs (n : Nat) : val (limbs n) = n := by
  induction n using Nat.strongRecOn with
  | ind n ih =>
    by_cases h : n = 0
    · subst h; rw [limbs_zero]; rfl
    · rw [limbs_pos h, val, ih _ (by omega)]; omega

theorem val_nil_of_trim {xs : List Nat} (h : trim xs = []) : val xs = 0 := by
  induction xs with
  | nil => rfl
  | cons x xs ih =>
    rw [trim] at h
    split at h
    · rename_i hc; rw [val, ih hc.1, hc.2]
    · cases h

theorem trim_eq_limbs {xs : List Nat} (h : Small xs) : trim xs = limbs (val xs) := by
  induction xs with
  | nil => rw [val, limbs_zero]; rfl
  | cons x xs ih =>
    rw [small_cons] at h
    have ih := ih h.2
    rw [trim]
    split
    · rename_i hc; rw [val, val_nil_of_trim hc.1, hc.2]; simp [limbs_zero]
    · rename_i hc
      have hne : val (x :: xs) ≠ 0 := by
        intro h0
        rw [val] at h0
        apply hc
        have h1 : val xs = 0 := by omega
        exact ⟨by rw [ih, h1, limbs_zero], by omega⟩
      rw [limbs_pos hne, val]
      have e1 : (x + 4294967296 * val xs) % 4294967296 = x := by omega
      have e2 : (x + 4294967296 * val xs) / 4294967296 = val xs := by omega
      rw [e1, e2, ih]

theorem trim_len_le (xs : List Nat) : (trim xs).length ≤ xs.length := by
  induction xs with
  | nil => exact Nat.le_refl _
  | cons x xs ih => rw [trim]; split <;> simp <;> omega

theorem trim_take (ys : List Nat) : trim ys = ys.take (trim ys).length := by
  induction ys with
  | nil => rfl
  | cons y ys ih => rw [trim]; split <;> simp; exact ih

theorem limbs_inj {a b : Nat} (h : limbs a = limbs b) : a = b := by rw [← val_limbs a, ← val_limbs b, h]

theorem val_append (xs ys : List Nat) : val (xs ++ ys) = val xs + 4294967296 ^ xs.length * val ys := by
  induction xs with
  | nil => simp [val]
  | cons x xs ih => rw [List.cons_append, val, val, ih, List.length_cons, Nat.pow_succ, Nat.mul_add, Nat.add_assoc, Nat.mul_comm (4294967296 ^ xs.length) 4294967296, Nat.mul_assoc]

theorem val_lt {xs : List Nat} (h : Small xs) : val xs < 4294967296 ^ xs.length := by
  induction xs with
  | nil => simp [val]
  | cons x xs ih =>
    rw [small_cons] at h
    have := ih h.2
    rw [val, List.length_cons, Nat.pow_succ]
    have : val xs + 1 ≤ 4294967296 ^ xs.length := this
    omega

theorem val_take_succ {xs : List Nat} {k : Nat} (h : k < xs.length) : val (xs.take (k + 1)) = val (xs.take k) + 4294967296 ^ k * xs.getD k 0 := by
  rw [List.take_succ_eq_append_getElem h, val_append, List.length_take, Nat.min_eq_left (by omega)]
  simp [val, List.getD_eq_getElem?_getD, List.getElem?_eq_getElem h]

theorem val_split (xs : List Nat) (k : Nat) (h : k ≤ xs.length) : val xs = val (xs.take k) + 4294967296 ^ k * val (xs.drop k) := by
  have e := val_append (xs.take k) (xs.drop k)
  rw [List.take_append_drop, List.length_take, Nat.min_eq_left h] at e
  exact e

theorem take_set_lt {xs : List Nat} {j k v : Nat} (h : k ≤ j) : (xs.set j v).take k = xs.take k := by
  rw [List.take_set_of_le h]

theorem take_succ_set {xs : List Nat} {k v : Nat} (h : k < xs.length) : (xs.set k v).take (k + 1) = xs.take k ++ [v] := by
  rw [List.take_succ_eq_append_getElem (by simpa using h), List.getElem_set_self, take_set_lt (Nat.le_refl _)]

theorem drop_succ_set {xs : List Nat} {k v : Nat} : (xs.set k v).drop (k + 1) = xs.drop (k + 1) := List.drop_set_of_lt (by omega)

theorem val_take_set {xs : List Nat} {k v : Nat} (h : k < xs.length) : val ((xs.set k v).take (k + 1)) = val (xs.take k) + 4294967296 ^ k * v := by
  rw [take_succ_set h, val_append, List.length_take, Nat.min_eq_left (by omega)]
  simp [val]

theorem length_limbs_le {n k : Nat} (h : n < 4294967296 ^ k) : (limbs n).length ≤ k := by
  induction k generalizing n with
  | zero => have : n = 0 := by simpa using h
            subst this; simp [limbs_zero]
  | succ k ih =>
    by_cases h0 : n = 0
    · subst h0; simp [limbs_zero]
    · rw [limbs_pos h0, List.length_cons]
      have : n / 4294967296 < 4294967296 ^ k := by rw [Nat.div_lt_iff_lt_mul (by decide)]; rwa [Nat.pow_succ] at h
      have := ih this
      omega

theorem lt_length_limbs {n k : Nat} (h : 4294967296 ^ k ≤ n) : k < (limbs n).length := by
  have h1 := val_lt (small_limbs n)
  rw [val_limbs] at h1
  have h2 : 4294967296 ^ k < 4294967296 ^ (limbs n).length := Nat.lt_of_le_of_lt h h1
  exact (Nat.pow_lt_pow_iff_right (by decide)).1 h2

/-- A list of small limbs of which the last counts is the shortest one. -/
theorem eq_limbs {xs : List Nat} (h : Small xs) (hl : xs = [] ∨ 4294967296 ^ (xs.length - 1) ≤ val xs) : xs = limbs (val xs) := by
  rw [← trim_eq_limbs h]
  rcases hl with rfl | hl
  · rfl
  · have hlen : (trim xs).length ≤ xs.length := by
      clear h hl
      induction xs with
      | nil => exact Nat.le_refl _
      | cons x xs ih => rw [trim]; split <;> simp <;> omega
    have hpre : ∀ ys : List Nat, trim ys = ys.take (trim ys).length := by
      intro ys
      induction ys with
      | nil => rfl
      | cons y ys ih => rw [trim]; split <;> simp; exact ih
    have h2 := lt_length_limbs hl
    rw [← trim_eq_limbs h] at h2
    rw [hpre xs, List.take_of_length_le (by omega)]

theorem length_limbs_pred {n : Nat} (h : n ≠ 0) : 4294967296 ^ ((limbs n).length - 1) ≤ n := by
  refine Nat.le_of_not_lt fun hlt => ?_
  have h1 := length_limbs_le hlt
  have h2 : (limbs n).length ≠ 0 := by rw [limbs_pos h]; simp
  omega

theorem limbs_eq_nil {n : Nat} : limbs n = [] ↔ n = 0 := by
  constructor
  · intro h; rw [← val_limbs n, h]; rfl
  · rintro rfl; exact limbs_zero

theorem length_limbs_mono {a b : Nat} (h : a ≤ b) : (limbs a).length ≤ (limbs b).length := by
  refine length_limbs_le (Nat.lt_of_le_of_lt h ?_)
  have := val_lt (small_limbs b)
  rwa [val_limbs] at this

theorem trim_take_last {xs : List Nat} {k : Nat} (hk : k < xs.length) (h : xs.getD k 0 = 0) : trim (xs.take (k + 1)) = trim (xs.take k) := by
  induction xs generalizing k with
  | nil => simp at hk
  | cons x xs ih =>
    cases k with
    | zero => have : x = 0 := by simpa using h
              subst this; simp [trim]
    | succ k =>
      have := ih (k := k) (by simpa using hk) (by simpa using h)
      simp only [List.take_succ_cons, trim, this]

theorem trim_take_full {xs : List Nat} {k : Nat} (hk : k < xs.length) (h : xs.getD k 0 ≠ 0) : trim (xs.take (k + 1)) = xs.take (k + 1) := by
  induction xs generalizing k with
  | nil => simp at hk
  | cons x xs ih =>
    cases k with
    | zero => have : x ≠ 0 := by simpa using h
              simp [trim, this]
    | succ k =>
      have e := ih (k := k) (by simpa using hk) (by simpa using h)
      have hk' : k < xs.length := by simpa using hk
      have hne : xs.take (k + 1) ≠ [] := by
        intro h0
        have h1 := congrArg List.length h0
        rw [List.length_take, List.length_nil] at h1
        omega
      rw [List.take_succ_cons, trim, e, if_neg (fun hc => hne hc.1)]

/-- Of two lists alike above a place the one with the lesser limb there is the lesser. -/
theorem val_lt_of_lim {xs ys : List Nat} (hx : Small xs) (hl : xs.length = ys.length) {k : Nat} (hk : k < xs.length) (hlt : xs.getD k 0 < ys.getD k 0) (h : ∀ j, k < j → j < xs.length → xs.getD j 0 = ys.getD j 0) : val xs < val ys := by
  induction xs generalizing ys k with
  | nil => simp at hk
  | cons x xs ih =>
    cases ys with
    | nil => simp at hl
    | cons y ys =>
      rw [small_cons] at hx
      cases k with
      | zero =>
        have e : xs = ys := by
          refine List.ext_getElem (by simpa using hl) fun j h1 h2 => ?_
          have := h (j + 1) (by omega) (by simpa using h1)
          simpa [List.getElem?_eq_getElem h1, List.getElem?_eq_getElem h2] using this
        subst e
        simp only [val]
        have : x < y := by simpa using hlt
        omega
      | succ k =>
        have := ih (ys := ys) (k := k) hx.2 (by simpa using hl) (by simpa using hk) (by simpa using hlt) (fun j h1 h2 => by
          have := h (j + 1) (by omega) (by simpa using h2)
          simpa using this)
        simp only [val]
        have := hx.1
        omega

/-- One limb of a sum: what stays, and what goes on. -/
theorem add_step {S T z y c P : Nat} (h : S + c * P = T) :
    S + P * ((z + y + c) % 4294967296) + (z + y + c) / 4294967296 * (P * 4294967296) = T + P * z + P * y := by
  have e : (z + y + c) % 4294967296 + (z + y + c) / 4294967296 * 4294967296 = z + y + c := by omega
  have e2 : P * ((z + y + c) % 4294967296) + (z + y + c) / 4294967296 * (P * 4294967296) = P * (z + y + c) := by
    rw [← e, Nat.mul_add]
    simp only [Nat.add_mul_mod_self_right]
    have : ((z + y + c) % 4294967296 + (z + y + c) / 4294967296 * 4294967296) % 4294967296 = (z + y + c) % 4294967296 := by omega
    have h3 : ((z + y + c) % 4294967296 + (z + y + c) / 4294967296 * 4294967296) / 4294967296 = (z + y + c) / 4294967296 := by omega
    rw [h3, Nat.mod_mod]
    congr 1
    rw [Nat.mul_left_comm]
  rw [Nat.add_assoc, e2, ← h, Nat.mul_add, Nat.mul_add, Nat.mul_comm c P]
  omega

theorem lim_of_ge {xs : List Nat} {k : Nat} (h : xs.length ≤ k) : lim xs k = 0 := by
  simp [lim, List.getD_eq_getElem?_getD, List.getElem?_eq_none h]
theorem lim_set_self {xs : List Nat} {k v : Nat} (h : k < xs.length) : lim (xs.set k v) k = v := by
  simp [lim, List.getD_eq_getElem?_getD, h]
theorem lim_set_ne {xs : List Nat} {j k v : Nat} (h : k ≠ j) : lim (xs.set k v) j = lim xs j := by
  simp [lim, List.getD_eq_getElem?_getD, List.getElem?_set_ne h]
theorem val_take_lim (xs : List Nat) (k : Nat) : val (xs.take (k + 1)) = val (xs.take k) + 4294967296 ^ k * lim xs k := by
  by_cases h : k < xs.length
  · exact val_take_succ h
  · rw [lim_of_ge (by omega), List.take_of_length_le (by omega), List.take_of_length_le (by omega)]; simp
theorem drop_eq_of_lim {xs ys : List Nat} {k : Nat} (hl : xs.length = ys.length) (h : ∀ j, k ≤ j → lim xs j = lim ys j) : xs.drop k = ys.drop k := by
  refine List.ext_getElem (by simp [hl]) fun j h1 h2 => ?_
  have := h (k + j) (by omega)
  simp at h1 h2
  simpa [lim, List.getD_eq_getElem?_getD, List.getElem?_eq_getElem (show k + j < xs.length by omega), List.getElem?_eq_getElem (show k + j < ys.length by omega)] using this

/-- What a limb of a sum keeps, and what it carries on. -/
def sumLo (x y c : Nat) : Nat := (x + y + c) % 4294967296
def sumHi (x y c : Nat) : Nat := (x + y + c) / 4294967296
theorem sumLo_lt (x y c : Nat) : sumLo x y c < 4294967296 := Nat.mod_lt _ (by decide)
theorem sumHi_le {x y c : Nat} (hx : x < 4294967296) (hy : y < 4294967296) (hc : c ≤ 1) : sumHi x y c ≤ 1 := by unfold sumHi; omega

/-- A sum that is made limb by limb in the place of the longer number, behind k limbs. -/
def AddInv (long short zs : List Nat) (k cr : Nat) : Prop :=
  zs.length = long.length ∧ val (zs.take k) + cr * 4294967296 ^ k = val (long.take k) + val (short.take k) ∧ (∀ j, k ≤ j → lim zs j = lim long j) ∧ cr ≤ 1

theorem AddInv.start (long short : List Nat) : AddInv long short long 0 0 := ⟨rfl, by simp [val], fun _ _ => rfl, by omega⟩

theorem AddInv.step {long short zs : List Nat} {k cr : Nat} (h : AddInv long short zs k cr) (hl : Small long) (hs : Small short) (hk : k < long.length) :
    AddInv long short (zs.set k (sumLo (lim zs k) (lim short k) cr)) (k + 1) (sumHi (lim zs k) (lim short k) cr) := by
  obtain ⟨h1, h2, h3, h4⟩ := h
  refine ⟨by simpa using h1, ?_, fun j hj => by rw [lim_set_ne (by omega)]; exact h3 j (by omega), ?_⟩
  · rw [val_take_set (by omega), val_take_lim long, val_take_lim short, ← h3 k (Nat.le_refl _), Nat.pow_succ]
    have := add_step (z := lim zs k) (y := lim short k) (c := cr) (P := 4294967296 ^ k) h2
    unfold sumLo sumHi
    rw [this]
    omega
  · rw [h3 k (Nat.le_refl _)]
    exact sumHi_le (lim_lt hl k) (lim_lt hs k) h4

theorem AddInv.done {long short zs : List Nat} {k cr : Nat} (h : AddInv long short zs k cr) (hs : short.length ≤ k) (hk : k ≤ long.length) (he : k = long.length ∨ cr = 0) :
    val zs + cr * 4294967296 ^ long.length = val long + val short := by
  obtain ⟨h1, h2, h3, h4⟩ := h
  rw [List.take_of_length_le (l := short) hs] at h2
  rcases he with rfl | rfl
  · rwa [List.take_of_length_le (by omega), List.take_of_length_le (by omega)] at h2
  · rw [val_split zs k (by omega), val_split long k hk, drop_eq_of_lim h1 h3]
    omega

theorem add_fits {long short zs : List Nat} {a b : Nat} (hl : long = limbs a) (hs : short = limbs b) (hz : Small zs) (hlen : zs.length = long.length) (hv : val zs = val long + val short) : zs = limbs (a + b) := by
  have e : val zs = a + b := by rw [hv, hl, hs, val_limbs, val_limbs]
  rw [← e]
  refine eq_limbs hz ?_
  by_cases h0 : a = 0
  · left
    rw [h0, limbs_zero] at hl
    rw [hl] at hlen
    exact List.eq_nil_of_length_eq_zero hlen
  · right
    rw [hlen, e, hl]
    exact Nat.le_trans (length_limbs_pred h0) (by omega)

theorem add_carries {long short zs : List Nat} {a b : Nat} (hl : long = limbs a) (hs : short = limbs b) (hz : Small zs) (hlen : zs.length = long.length) (hv : val zs + 1 * 4294967296 ^ long.length = val long + val short) : zs ++ [1] = limbs (a + b) := by
  have e : val (zs ++ [1]) = a + b := by
    rw [val_append, hlen]
    simp only [val]
    rw [hl, hs, val_limbs, val_limbs] at hv
    rw [hl]
    omega
  rw [← e]
  refine eq_limbs (small_append.2 ⟨hz, by intro x hx; simp at hx; omega⟩) (.inr ?_)
  rw [val_append]
  simp [val]

/-- What a limb of a difference keeps, and what it borrows. -/
def diffLo (x y c : Nat) : Nat := (x + 4294967296 - (y + c)) % 4294967296
def diffHi (x y c : Nat) : Nat := if x < y + c then 1 else 0
theorem diffLo_lt (x y c : Nat) : diffLo x y c < 4294967296 := Nat.mod_lt _ (by decide)
theorem diff_parts {x y c : Nat} (hx : x < 4294967296) (hy : y < 4294967296) (hc : c ≤ 1) : diffLo x y c + y + c = x + diffHi x y c * 4294967296 := by
  unfold diffLo diffHi
  split <;> omega
theorem diffHi_le (x y c : Nat) : diffHi x y c ≤ 1 := by unfold diffHi; split <;> omega

/-- A difference that is made limb by limb in the place of the greater number, behind k limbs. -/
def SubInv (long short zs : List Nat) (k br : Nat) : Prop :=
  zs.length = long.length ∧ val (zs.take k) + val (short.take k) = val (long.take k) + br * 4294967296 ^ k ∧ (∀ j, k ≤ j → lim zs j = lim long j) ∧ br ≤ 1

theorem SubInv.start (long short : List Nat) : SubInv long short long 0 0 := ⟨rfl, by simp [val], fun _ _ => rfl, by omega⟩

theorem SubInv.step {long short zs : List Nat} {k br : Nat} (h : SubInv long short zs k br) (hl : Small long) (hs : Small short) (hk : k < long.length) :
    SubInv long short (zs.set k (diffLo (lim zs k) (lim short k) br)) (k + 1) (diffHi (lim zs k) (lim short k) br) := by
  obtain ⟨h1, h2, h3, h4⟩ := h
  refine ⟨by simpa using h1, ?_, fun j hj => by rw [lim_set_ne (by omega)]; exact h3 j (by omega), diffHi_le _ _ _⟩
  rw [val_take_set (by omega), val_take_lim long, val_take_lim short, ← h3 k (Nat.le_refl _), Nat.pow_succ]
  have e := diff_parts (x := lim zs k) (y := lim short k) (c := br) (by rw [h3 k (Nat.le_refl _)]; exact lim_lt hl k) (lim_lt hs k) h4
  generalize diffLo (lim zs k) (lim short k) br = lo at *
  generalize diffHi (lim zs k) (lim short k) br = hi at *
  generalize lim zs k = x at *
  generalize lim short k = y at *
  generalize 4294967296 ^ k = P at *
  have e2 : P * lo + P * y + br * P = P * x + hi * (P * 4294967296) := by
    have := congrArg (P * ·) e
    simp only [Nat.mul_add] at this
    rw [Nat.mul_comm br P, this, Nat.mul_left_comm hi P]
  omega

theorem SubInv.room {long short zs : List Nat} {k br : Nat} (h : SubInv long short zs k br) (hz : Small zs) (hs : short.length ≤ k) (hk : k ≤ long.length) (hle : val short ≤ val long) (hb : br ≠ 0) : k < long.length := by
  refine Nat.lt_of_le_of_ne hk fun e => ?_
  obtain ⟨h1, h2, h3, h4⟩ := h
  rw [List.take_of_length_le (l := short) hs, List.take_of_length_le (l := zs) (by omega), List.take_of_length_le (l := long) (by omega)] at h2
  have := val_lt hz
  rw [h1, ← e] at this
  have : br = 1 := by omega
  subst this
  omega

theorem SubInv.done {long short zs : List Nat} {k : Nat} (h : SubInv long short zs k 0) (hs : short.length ≤ k) (hk : k ≤ long.length) : val zs = val long - val short := by
  obtain ⟨h1, h2, h3, h4⟩ := h
  rw [List.take_of_length_le (l := short) hs] at h2
  rw [val_split zs k (by omega), val_split long k hk, drop_eq_of_lim h1 h3]
  omega

theorem top_bit {a : Nat} (h : a < 4294967296) : a.testBit 31 = decide (2147483648 ≤ a) := by
  rw [Nat.testBit_eq_decide_div_mod_eq]
  by_cases h1 : 2147483648 ≤ a
  · have : a / 2 ^ 31 % 2 = 1 := by omega
    simp [this, h1]
  · have : a / 2 ^ 31 % 2 = 0 := by omega
    simp [this, h1]

theorem top_num {a : Nat} (h : a < 4294967296) : a / 2147483648 = (a.testBit 31).toNat := by
  rw [top_bit h]
  by_cases h1 : 2147483648 ≤ a
  · have : a / 2147483648 = 1 := by omega
    simp [this, h1]
  · have : a / 2147483648 = 0 := by omega
    simp [this, h1]

theorem lt_and {a b : Nat} (h : b < 4294967296) : a &&& b < 4294967296 := Nat.lt_of_le_of_lt Nat.and_le_right h
theorem lt_or {a b : Nat} (ha : a < 4294967296) (hb : b < 4294967296) : a ||| b < 4294967296 := Nat.or_lt_two_pow (n := 32) ha hb
theorem lt_xor {a b : Nat} (ha : a < 4294967296) (hb : b < 4294967296) : a ^^^ b < 4294967296 := Nat.xor_lt_two_pow (n := 32) ha hb

theorem borrow_bits (x y d : Nat) (hx : x < 4294967296) (hy : y < 4294967296) (hd : d < 4294967296) :
    (((4294967295 ^^^ x) &&& y) ||| ((4294967295 ^^^ (x ^^^ y)) &&& d)) / 2147483648 =
      ((!(decide (2147483648 ≤ x)) && decide (2147483648 ≤ y)) || ((decide (2147483648 ≤ x) == decide (2147483648 ≤ y)) && decide (2147483648 ≤ d))).toNat := by
  have h1 : (4294967295 : Nat) < 4294967296 := by decide
  rw [top_num (lt_or (lt_and hy) (lt_and hd))]
  congr 1
  simp only [Nat.testBit_or, Nat.testBit_and, Nat.testBit_xor, top_bit hx, top_bit hy, top_bit hd, top_bit h1]
  generalize decide (2147483648 ≤ x) = p
  generalize decide (2147483648 ≤ y) = q
  generalize decide (2147483648 ≤ d) = r
  revert p q r
  decide

end Go.Proofs.Ytmifgblbicnimaa.Limb

/- What it means that a slice of 32-bit words in memory reads as a list of limbs, and that this stays so where nothing below a block has changed. No condition. -/
namespace Go.Proofs.Ytmifgblbicnimaa
open Go.RowKit Limb
set_option linter.unusedVariables false

/-- The slice at A of length n reads as the limbs xs. -/
def IsN (w : World) (A : Option Addr) (n : Nat) (xs : List Nat) : Prop :=
  xs.length = n ∧ Small xs ∧ (0 < n → ∃ b o, A = some ⟨b, o, none⟩ ∧ b < w.heap.size ∧ ∀ j, j < n → w.cell? ⟨b, o + j, none⟩ = some (.int .u32 ((lim xs j : Nat) : Int)))

theorem IsN.len {w : World} {A : Option Addr} {n : Nat} {xs : List Nat} (h : IsN w A n xs) : xs.length = n := h.1
theorem IsN.small {w : World} {A : Option Addr} {n : Nat} {xs : List Nat} (h : IsN w A n xs) : Small xs := h.2.1

theorem IsN.below {w w' : World} {A : Option Addr} {n : Nat} {xs : List Nat} (h : IsN w A n xs) (hb : Below w.heap.size w w') : IsN w' A n xs := by
  refine ⟨h.1, h.2.1, fun hn => ?_⟩
  obtain ⟨b, o, e, hlt, hc⟩ := h.2.2 hn
  exact ⟨b, o, e, Nat.lt_of_lt_of_le hlt hb.size, fun j hj => (hb.cell (p := ⟨b, o + j, none⟩) hlt).trans (hc j hj)⟩

theorem IsN.take {w : World} {A : Option Addr} {n m : Nat} {xs : List Nat} (h : IsN w A n xs) (hm : m ≤ n) : IsN w A m (xs.take m) := by
  refine ⟨by rw [List.length_take, h.1]; omega, small_take h.2.1 _, fun hn => ?_⟩
  obtain ⟨b, o, e, hlt, hc⟩ := h.2.2 (by omega)
  refine ⟨b, o, e, hlt, fun j hj => ?_⟩
  rw [hc j (by omega)]
  simp [lim, List.getD_eq_getElem?_getD, hj]

theorem IsN.nil (w : World) (A : Option Addr) : IsN w A 0 [] := ⟨rfl, small_nil, fun h => absurd h (by omega)⟩

/-- The same, in the shortest limbs: what every call tells. -/
def IsV (w : World) (A : Option Addr) (n : Nat) (a : Nat) : Prop := IsN w A n (limbs a)

theorem IsV.isN {w : World} {A : Option Addr} {n a : Nat} (h : IsV w A n a) : IsN w A n (limbs a) := h
theorem IsV.below {w w' : World} {A : Option Addr} {n a : Nat} (h : IsV w A n a) (hb : Below w.heap.size w w') : IsV w' A n a := IsN.below h hb

/-- Behind a walk that reads alone. -/
theorem bel_refl (w : World) : Below w.heap.size w w := Below.refl _ _

theorem ret_bool {a b : Bool} (h : a = b) : Ending.returned (.bool a) = .returned (.bool b) := by rw [h]
theorem ret_int {k : IntKind} {a b : Int} (h : a = b) : Ending.returned (.int k a) = .returned (.int k b) := by rw [h]

end Go.Proofs.Ytmifgblbicnimaa

/- What package nat's helpers cut and copied answer, as contracts over memory: the limbs that count, in the same memory; a copy in new memory. Conditions: the argument reads as limbs, of at most 2^46 of them. -/
namespace Go.Proofs.Ytmifgblbicnimaa
open Go.RowKit Limb
set_option linter.unusedVariables false

set_option maxHeartbeats 400000 in
theorem cut_any (A : Option Addr) (n c : Nat) (xs : List Nat) (w : World) (hx : IsN w A n xs) (hc : n ≤ c) (hm : n ≤ maxLen) :
    Calls Try.prog 70 #[.slice A n c] w fun e w' => e = .returned (.slice A (trim xs).length c) ∧ w = w' := by
  unfold maxLen at hm
  have hl := hx.len
  go_enter Try.func70, Try.ntmps70
  go_wp2
  go_loop [3] (fun i => ∃ k : Nat, k ≤ n ∧ i = .int .i64 k ∧ trim (xs.take k) = trim xs) (fun i => (intOf i).toNat)
  case atStart => exact ⟨n, Nat.le_refl _, rfl, by rw [List.take_of_length_le (by omega)]⟩
  case round =>
    obtain ⟨k, hk, rfl, ht⟩ := hrel
    by_cases hk0 : k = 0
    · subst hk0
      go_wp2
      go_ret
      refine ⟨?_, rfl⟩
      rw [← ht]; rfl
    · obtain ⟨b, o, rfl, hb, hcell⟩ := hx.2.2 (by omega)
      have h1 := hcell (k - 1) (by omega)
      have hlt := lim_lt hx.small (k - 1)
      by_cases hz : lim xs (k - 1) = 0
      · have h2 : trim (xs.take k) = trim (xs.take (k - 1)) := by
          have := trim_take_last (xs := xs) (k := k - 1) (by omega) hz
          rwa [Nat.sub_add_cancel (by omega)] at this
        have H2 := Lib.hid (h2.symm.trans ht)
        clear h2 ht
        rw [hz] at h1
        clear hz
        go_wp2
        go_round
        case rel => exact ⟨k - 1, by omega, by go_num, H2.out⟩
        case measure => simp [intOf]; omega
      · have h2 : trim (xs.take k) = xs.take k := by
          have := trim_take_full (xs := xs) (k := k - 1) (by omega) hz
          rwa [Nat.sub_add_cancel (by omega)] at this
        have H2 : RowKit.Hid ((trim xs).length = k) := Lib.hid (by rw [← ht, h2, List.length_take]; omega)
        clear h2 ht
        have hz' : (((lim xs (k - 1) : Nat) : Int) == 0) = false := by simp; exact hz
        go_wp2
        go_ret
        exact ⟨by rw [H2.out]; rfl, rfl⟩

theorem u32_info : (Try.prog.info? 62).map (fun i => (i.zero, i.size, i.bytes)) = some (some (.int .u32 0), 1, 4) := by kernel_rfl
theorem u32_size : (Try.prog.info? 62).map (·.size) = some 1 := by kernel_rfl

/-- A limb as a value. -/
def limV (x : Nat) : Value := .int .u32 (x : Int)

theorem oneCell_u32 (xs : List Nat) : ∀ v ∈ xs.map limV, v.oneCell' = true := by
  intro v hv
  obtain ⟨x, _, rfl⟩ := List.mem_map.1 hv
  rfl

theorem map_u32_get {xs : List Nat} {j : Nat} {v : Value} (h : (xs.map limV)[j]? = some v) : j < xs.length ∧ v = limV (lim xs j) := by
  rw [List.getElem?_map] at h
  by_cases hj : j < xs.length
  · rw [List.getElem?_eq_getElem hj] at h
    simp at h
    exact ⟨hj, by rw [← h]; simp [lim, List.getD_eq_getElem?_getD, List.getElem?_eq_getElem hj]⟩
  · rw [List.getElem?_eq_none (by omega)] at h; simp at h

/-- A row of limbs that the call itself made. -/
def OwnN (w : World) (B : Nat) (A : Option Addr) (n c : Nat) (zs : List Nat) : Prop :=
  w.ownsRow B 62 1 (.slice A n c) n (zs.map limV) ∧ Small zs

theorem OwnN.len {w : World} {B : Nat} {A : Option Addr} {n c : Nat} {zs : List Nat} (h : OwnN w B A n c zs) : zs.length = n := by
  have := h.1.1; simpa using this
theorem OwnN.small {w : World} {B : Nat} {A : Option Addr} {n c : Nat} {zs : List Nat} (h : OwnN w B A n c zs) : Small zs := h.2
theorem OwnN.isN {w : World} {B : Nat} {A : Option Addr} {n c : Nat} {zs : List Nat} (h : OwnN w B A n c zs) : IsN w A n zs := by
  refine ⟨h.len, h.2, fun hn => ?_⟩
  rcases h.1.2 with ⟨_, h0⟩ | ⟨g, cap, cur, hv, hg, hh, _⟩
  · omega
  · injection hv with hA _ hc
    subst hA
    subst hc
    refine ⟨g, 0, rfl, ?_, fun j hj => ?_⟩
    · rcases Nat.lt_or_ge g w.heap.size with hlt | hge
      · exact hlt
      · rw [Array.getElem?_eq_none hge] at hh; cases hh
    · rw [Nat.zero_add, h.1.cellAt j (by omega), List.getElem?_map, List.getElem?_eq_getElem (by rw [h.len]; exact hj)]
      simp [limV, lim, List.getD_eq_getElem?_getD, List.getElem?_eq_getElem (show j < zs.length by rw [h.len]; exact hj)]
theorem OwnN.caps {w : World} {B : Nat} {A : Option Addr} {n c : Nat} {zs : List Nat} (h : OwnN w B A n c zs) : n ≤ c ∧ c ≤ maxLen := by
  rcases h.1.2 with ⟨hv, h0⟩ | ⟨g, cap, cur, hv, hg, hh, h1, h2, _⟩
  · injection hv with _ _ hc; subst hc; subst h0; exact ⟨Nat.le_refl _, Nat.zero_le _⟩
  · injection hv with _ _ hc; subst hc; exact ⟨h1, h2⟩
theorem OwnN.nil (w : World) (B : Nat) : OwnN w B none 0 0 [] := ⟨World.ownsRow_nil _ _ _ _, small_nil⟩

set_option maxHeartbeats 400000 in
theorem copied_any (A : Option Addr) (n c : Nat) (R : Int) (r : Nat) (xs : List Nat) (w : World) (hR : R = r) (hr : r ≤ 1) (hx : IsN w A n xs) (hm : n ≤ 1000000000) :
    Calls Try.prog 82 #[.slice A n c, .int .i64 R] w fun e w' => ∃ A' c', e = .returned (.slice A' n c') ∧ OwnN w' w.heap.size A' n c' xs ∧ Below w.heap.size w w' ∧ (0 < n → c' = n + r) := by
  have hl := hx.len
  by_cases hn : n = 0
  · subst hn
    obtain rfl : xs = [] := List.eq_nil_of_length_eq_zero hl
    go_enter Try.func82, Try.ntmps82
    go_wp2
    go_ret
    exact ⟨none, 0, rfl, OwnN.nil _ _, Below.refl _ _, fun h => absurd h (by omega)⟩
  · obtain ⟨i0, hi, hz0, hz1, hz2⟩ := info_parts u32_info
    have hmk : ∀ W : World, (Instr.makeSlice 23 (.int .i64 (n : Int)) (.int .i64 ((n : Int) + (r : Int)))).run Try.prog W = .ok (.slice (some ⟨W.heap.size, 0, none⟩) n (n + r)) (W.alloc (.cells (madeCells #[.int .u32 0] (n + r)) 62)) := by
      intro W
      have h := run_make (P := Try.prog) W 23 62 i0 (.int .u32 0) Try.underlying23 hi hz0 .i64 .i64 (n : Int) ((n : Int) + (r : Int)) (by omega) (by omega) (by rw [hz2]; omega) (by omega)
      rw [hz1] at h
      have e1 : ((n : Int) + (r : Int)).toNat = n + r := by omega
      have e2 : ((n : Int)).toNat = n := by omega
      rw [e1, e2, Nat.mul_one] at h
      exact h
    subst hR
    have Hpos : RowKit.Hid (0 < (xs.map limV).length → (some (⟨w.heap.size, 0, none⟩ : Addr)) = some ⟨w.heap.size, 0, none⟩ ∧ ∃ ad, A = some ad ∧ ∀ j v, (xs.map limV)[j]? = some v →
        (w.alloc (.cells (madeCells #[.int .u32 0] (n + r)) 62)).cell? (ad.add j) = some v) := by
      intro _
      obtain ⟨b, o, rfl, hb, hcell⟩ := hx.2.2 (by omega)
      refine ⟨rfl, _, rfl, fun j v hv => ?_⟩
      obtain ⟨hj, rfl⟩ := map_u32_get hv
      have e : (⟨b, o, none⟩ : Addr).add j = ⟨b, o + j, none⟩ := by unfold Addr.add; split <;> simp_all
      rw [e, World.cell?_alloc_lt _ _ _ hb]
      exact hcell j (by omega)
    have Hg : RowKit.Hid ((w.alloc (.cells (madeCells #[.int .u32 0] (n + r)) 62)).heap[w.heap.size]? = some (.cells (List.replicate (n + r) (Value.int .u32 0)).toArray 62 (0, 0))) := by
      show _ = _
      rw [heap_alloc_new, ← toList_madeCells_one]
    have Hn : RowKit.Hid ((xs.map limV).length = Nat.min n n) := by show _ = _; simp [hl]
    have Hfit : RowKit.Hid (0 + (xs.map limV).length ≤ (List.replicate (n + r) (Value.int .u32 0)).length) := by show _ ≤ _; simp; omega
    have Hb : RowKit.Hid (Below w.heap.size w (w.alloc (.cells (madeCells #[.int .u32 0] (n + r)) 62))) := (Below.refl _ _).alloc (Nat.le_refl _) _
    have hne : ((n : Int) == 0) = false := by simp; omega
    go_enter Try.func82, Try.ntmps82
    go_wp2_with (with_reducible refine wpList_copy_splice rfl (.tmp 16) (.tmp 17) 23 23 rfl 62 Try.underlying23 u32_size (some ⟨w.heap.size, 0, none⟩) A n (n + r) n c rfl rfl w.heap.size 0 (List.replicate (n + r) (Value.int .u32 0)) 62 Hg.out (xs.map limV) Hn.out Hpos.out Hfit.out (oneCell_u32 xs) w.heap.size w Hb.out (Nat.le_refl _) ?_)
    intro w1 hg1 hb1
    go_wp2
    go_ret
    refine ⟨_, _, rfl, ⟨⟨by simp [hl], .inr ⟨w.heap.size, n + r, _, rfl, Nat.le_refl _, hg1.out, by omega, by unfold maxLen; omega, ?_, ?_⟩⟩, hx.small⟩, hb1, fun _ => rfl⟩
    · simp [splice, hl]
    · simp [splice, hl]

end Go.Proofs.Ytmifgblbicnimaa

/- What math/bits' Add32, Sub32 answer at package nat's carries, and small helpers. Conditions: the arguments are 32-bit words, the carry is 0 or 1. -/
namespace Go.Proofs.Ytmifgblbicnimaa
open Go.RowKit Limb
set_option linter.unusedVariables false

set_option maxHeartbeats 400000 in
theorem add32_any (x y c : Int) (w : World) (hx : 0 ≤ x ∧ x < 4294967296) (hy : 0 ≤ y ∧ y < 4294967296) (hc : 0 ≤ c ∧ c < 4294967296) :
    Calls Try.prog 101 #[.int .u32 x, .int .u32 y, .int .u32 c] w fun e w' => e = .returned (.tuple #[.int .u32 ((x + y + c) % 4294967296), .int .u32 ((x + y + c) / 4294967296)]) ∧ w = w' := by
  obtain ⟨hx0, hx1⟩ := hx
  obtain ⟨hy0, hy1⟩ := hy
  obtain ⟨hc0, hc1⟩ := hc
  go_enter Try.func101, Try.ntmps101
  go_wp2
  go_ret2
  exact ⟨rfl, rfl⟩

/-- The borrow of a difference. -/
def bor (x y c : Int) : Int := if x < y + c then 1 else 0

theorem borrow_eq (x y c : Int) (hx0 : 0 ≤ x) (hx1 : x < 4294967296) (hy0 : 0 ≤ y) (hy1 : y < 4294967296) (hc0 : 0 ≤ c) (hc1 : c ≤ 1) :
    bits BinOp.or IntKind.u32 (bits BinOp.and IntKind.u32 (bits BinOp.xor IntKind.u32 IntKind.u32.max x) y) (bits BinOp.and IntKind.u32 (bits BinOp.xor IntKind.u32 IntKind.u32.max (bits BinOp.xor IntKind.u32 x y)) ((x - y - c) % 4294967296)) / 2147483648 = bor x y c := by
  have hd0 : 0 ≤ (x - y - c) % 4294967296 := Int.emod_nonneg _ (by decide)
  have hd1 : (x - y - c) % 4294967296 < 4294967296 := Int.emod_lt_of_pos _ (by decide)
  have hd2 : (x - y - c) % 4294967296 = x - y - c ∨ (x - y - c) % 4294967296 = x - y - c + 4294967296 := by omega
  obtain ⟨d, hd⟩ : ∃ d, d = (x - y - c) % 4294967296 := ⟨_, rfl⟩
  rw [← hd] at hd0 hd1 hd2 ⊢
  clear hd
  obtain ⟨x, rfl⟩ := Int.eq_ofNat_of_zero_le hx0
  obtain ⟨y, rfl⟩ := Int.eq_ofNat_of_zero_le hy0
  obtain ⟨d, rfl⟩ := Int.eq_ofNat_of_zero_le hd0
  have mx : IntKind.u32.max = ((4294967295 : Nat) : Int) := rfl
  have h1 : (4294967295 : Nat) < 4294967296 := by decide
  have hx : x < 4294967296 := by omega
  have hy : y < 4294967296 := by omega
  have hd : d < 4294967296 := by omega
  rw [mx, u32_xor_nat _ _ h1 hx, u32_and_nat _ _ (lt_xor h1 hx) hy, u32_xor_nat _ _ hx hy, u32_xor_nat _ _ h1 (lt_xor hx hy), u32_and_nat _ _ (lt_xor h1 (lt_xor hx hy)) hd,
    u32_or_nat _ _ (lt_and hy) (lt_and hd)]
  have e := borrow_bits x y d hx hy hd
  have e2 : ((((4294967295 ^^^ x) &&& y) ||| ((4294967295 ^^^ (x ^^^ y)) &&& d) : Nat) : Int) / 2147483648 = (((((4294967295 ^^^ x) &&& y) ||| ((4294967295 ^^^ (x ^^^ y)) &&& d)) / 2147483648 : Nat) : Int) := rfl
  rw [e2, e]
  clear e e2
  unfold bor
  by_cases a1 : 2147483648 ≤ x <;> by_cases a2 : 2147483648 ≤ y <;> by_cases a3 : 2147483648 ≤ d <;> simp [a1, a2, a3] <;> omega

theorem congr_ret {a b c d : Int} (h : a = b) (k : c = d) : Ending.returned (.tuple #[.int .u32 a, .int .u32 c]) = Ending.returned (.tuple #[.int .u32 b, .int .u32 d]) := by rw [h, k]

set_option maxHeartbeats 400000 in
theorem sub32_any (x y c : Int) (w : World) (hx : 0 ≤ x ∧ x < 4294967296) (hy : 0 ≤ y ∧ y < 4294967296) (hc : 0 ≤ c ∧ c ≤ 1) :
    Calls Try.prog 100 #[.int .u32 x, .int .u32 y, .int .u32 c] w fun e w' => e = .returned (.tuple #[.int .u32 ((x - y - c) % 4294967296), .int .u32 (bor x y c)]) ∧ w = w' := by
  obtain ⟨hx0, hx1⟩ := hx
  obtain ⟨hy0, hy1⟩ := hy
  obtain ⟨hc0, hc1⟩ := hc
  have hs : IntKind.u32.signed = false := rfl
  go_enter Try.func100, Try.ntmps100
  go_wp2
  go_ret2
  refine ⟨?_, rfl⟩
  have hd0 : 0 ≤ (x - y - c) % 4294967296 := Int.emod_nonneg _ (by decide)
  have hd1 : (x - y - c) % 4294967296 < 4294967296 := Int.emod_lt_of_pos _ (by decide)
  have e0 : ((x - y) % 4294967296 - c) % 4294967296 = (x - y - c) % 4294967296 := by omega
  have e1 : bits BinOp.or IntKind.u32 (bits BinOp.and IntKind.u32 (bits BinOp.xor IntKind.u32 IntKind.u32.max x) y) (bits BinOp.and IntKind.u32 (bits BinOp.xor IntKind.u32 IntKind.u32.max (bits BinOp.xor IntKind.u32 x y)) ((x - y - c) % 4294967296)) / 2147483648 = bor x y c :=
    borrow_eq x y c hx0 hx1 hy0 hy1 hc0 hc1
  exact congr_ret e0 e1

theorem order_any (b : Bool) (w : World) : Calls Try.prog 71 #[.bool b] w fun e w' => e = .returned (.int .i64 (if b then -1 else 1)) ∧ w = w' := by
  cases b
  all_goals
    go_enter Try.func71, Try.ntmps71
    go_wp2
    go_ret
    exact ⟨rfl, rfl⟩

end Go.Proofs.Ytmifgblbicnimaa

/- What the statements' keep.Nat, keep.OwnNat, Long and package nat's Trim, Of and Cmp answer, as contracts over memory. Conditions: arguments read as limbs, of at most 10^9 of them. -/
namespace Go.Proofs.Ytmifgblbicnimaa
open Go.RowKit Limb
set_option linter.unusedVariables false

theorem below_drewN {B : Nat} {a w : World} (h : Below B a w) (n : Nat) : Below B a (w.drewN n) := ⟨h.os, h.tape, h.output, h.size, h.block⟩

theorem lim_ext {xs ys : List Nat} (hl : xs.length = ys.length) (h : ∀ j, j < xs.length → lim xs j = lim ys j) : xs = ys := by
  refine List.ext_getElem hl fun j h1 h2 => ?_
  have := h j h1
  simpa [lim, List.getD_eq_getElem?_getD, List.getElem?_eq_getElem h1, List.getElem?_eq_getElem h2] using this

/-- Are two lists one? Under a name that no simp set opens. -/
def same (xs ys : List Nat) : Bool := decide (xs = ys)

theorem same_false_of_len {xs ys : List Nat} (h : xs.length ≠ ys.length) : same xs ys = false := by
  unfold same; rw [decide_eq_false_iff_not]; rintro rfl; exact h rfl
theorem same_false_of_lim {xs ys : List Nat} {j : Nat} (h : lim xs j ≠ lim ys j) : same xs ys = false := by
  unfold same; rw [decide_eq_false_iff_not]; rintro rfl; exact h rfl
theorem same_true {xs ys : List Nat} (hl : xs.length = ys.length) (h : ∀ j, j < xs.length → lim xs j = lim ys j) : same xs ys = true := by
  unfold same; rw [decide_eq_true_eq]; exact lim_ext hl h

set_option maxHeartbeats 400000 in
theorem keepNat_any (A : Option Addr) (n c : Nat) (xs : List Nat) (A' : Option Addr) (n' c' : Nat) (ys : List Nat) (w : World) (hx : IsN w A n xs) (hy : IsN w A' n' ys) (hm : n ≤ 1000000000) (hm' : n' ≤ 1000000000) :
    Calls Try.prog 36 #[.slice A n c, .slice A' n' c'] w fun e w' => e = .returned (.bool (same xs ys)) ∧ Below w.heap.size w w' := by
  have hl := hx.len
  have hl' := hy.len
  by_cases hn : n = n'
  · subst hn
    have hne : ((n : Int) != (n : Int)) = false := by simp
    go_enter Try.func36, Try.ntmps36
    go_wp2
    go_loopw [5] (fun i wr => ∃ k : Nat, k ≤ n ∧ i = .int .i64 k ∧ (∀ j, j < k → lim xs j = lim ys j) ∧ Below w.heap.size w wr) (fun i _ => n - (intOf i).toNat)
    case atStart => exact ⟨0, Nat.zero_le _, rfl, fun j hj => absurd hj (by omega), Below.refl _ _⟩
    case round =>
      obtain ⟨k, hk, rfl, heq, hbel⟩ := hrel
      have Heq := Lib.hid heq
      clear heq
      by_cases hkn : k < n
      · obtain ⟨b, o, hA, hb, hcell⟩ := hx.2.2 (by omega)
        obtain ⟨b', o', hA', hb', hcell'⟩ := hy.2.2 (by omega)
        have h1 : wr.cell? ⟨b, o + k, none⟩ = some (.int .u32 ((lim xs k : Nat) : Int)) := (hbel.cell (p := ⟨b, o + k, none⟩) hb).trans (hcell k hkn)
        have h2 : wr.cell? ⟨b', o' + k, none⟩ = some (.int .u32 ((lim ys k : Nat) : Int)) := (hbel.cell (p := ⟨b', o' + k, none⟩) hb').trans (hcell' k hkn)
        subst hA
        subst hA'
        by_cases hq : lim xs k = lim ys k
        · have hq' : (((lim xs k : Nat) : Int) != ((lim ys k : Nat) : Int)) = false := by simp [hq]
          have Hq := Lib.hid hq
          clear hq
          go_wp2
          go_quiet (fail)
          go_wp2
          go_roundw
          case rel => exact ⟨k + 1, by omega, by go_num, fun j hj => by
            rcases Nat.lt_or_ge j k with h | h
            · exact Heq.out j h
            · have : j = k := by omega
              subst this; exact Hq.out, below_drewN hbel _⟩
          case measure => simp [intOf]; omega
        · have hq' : (((lim xs k : Nat) : Int) != ((lim ys k : Nat) : Int)) = true := by simp; omega
          have Hq := Lib.hid (same_false_of_lim hq)
          clear hq
          go_wp2
          go_quiet (fail)
          go_wp2
          go_ret
          exact ⟨by rw [Hq.out]; rfl, below_drewN hbel _⟩
      · have hkn : k = n := by omega
        subst hkn
        have Hs := Lib.hid (same_true (by omega) (fun j hj => Heq.out j (by omega)))
        go_wp2
        go_ret
        exact ⟨by rw [Hs.out]; rfl, hbel⟩
  · have hne : ((n : Int) != (n' : Int)) = true := by simp; omega
    have Hs := Lib.hid (same_false_of_len (xs := xs) (ys := ys) (by omega))
    go_enter Try.func36, Try.ntmps36
    go_wp2
    go_ret
    exact ⟨by rw [Hs.out]; rfl, Below.refl _ _⟩

/-- Is a list too long for a statement? -/
def tooLong (n : Nat) : Bool := decide (300 < n)

theorem trim_any (A : Option Addr) (n c : Nat) (xs : List Nat) (w : World) (hx : IsN w A n xs) (hc : n ≤ c) (hm : n ≤ 1000000000) :
    Calls Try.prog 63 #[.slice A n c] w fun e w' => ∃ A' n' c', e = .returned (.slice A' n' c') ∧ OwnN w' w.heap.size A' n' c' (trim xs) ∧ Below w.heap.size w w' := by
  have hlt := trim_len_le xs
  have hl := hx.len
  have hx' := IsN.take hx (m := (trim xs).length) (by omega)
  rw [← trim_take xs] at hx'
  have Hl := Lib.hid hl
  clear hl
  go_enter Try.func63, Try.ntmps63
  go_wp2_with fail
  refine (cut_any A n c xs w hx hc (by unfold maxLen; omega)).mono ?_
  rintro e w1 ⟨rfl, rfl⟩
  go_wp2_with fail
  refine (copied_any A (trim xs).length c 0 0 (trim xs) w rfl (by omega) hx' (by have := Hl.out; omega)).mono ?_
  rintro e w1 ⟨A', c', rfl, hown, hbel, _⟩
  go_wp2
  go_ret
  exact ⟨_, _, _, rfl, hown, hbel⟩

theorem isN_lit (w : World) (zs : List Nat) (h : Small zs) : IsN (w.alloc (.cells (zs.map limV).toArray 62)) (some ⟨w.heap.size, 0, none⟩) zs.length zs := by
  refine ⟨rfl, h, fun hn => ⟨w.heap.size, 0, rfl, by simp, fun j hj => ?_⟩⟩
  rw [Nat.zero_add, World.cell?_alloc_at _ _ _ _ rfl]
  simp [lim, limV, List.getElem?_eq_getElem hj]

theorem OwnN.mono {w : World} {B B' : Nat} {A : Option Addr} {n c : Nat} {zs : List Nat} (h : OwnN w B A n c zs) (hB : B' ≤ B) : OwnN w B' A n c zs := by
  refine ⟨⟨h.1.1, ?_⟩, h.2⟩
  rcases h.1.2 with h2 | ⟨g, cap, cur, hv, hg, r⟩
  · exact .inl h2
  · exact .inr ⟨g, cap, cur, hv, Nat.le_trans hB hg, r⟩

theorem of_any (v : Int) (w : World) (h0 : 0 ≤ v) (h1 : v < 18446744073709551616) :
    Calls Try.prog 41 #[.int .u64 v] w fun e w' => ∃ A' n' c', e = .returned (.slice A' n' c') ∧ OwnN w' w.heap.size A' n' c' (limbs v.toNat) ∧ Below w.heap.size w w' := by
  go_enter Try.func41, Try.ntmps41
  go_wp2_with fail
  obtain ⟨v, rfl⟩ := Int.eq_ofNat_of_zero_le h0
  have e : (#[Value.int IntKind.u32 ((v : Int) % 4294967296), Value.int IntKind.u32 ((v : Int) / 4294967296)] : Array Value) = ([v % 4294967296, v / 4294967296].map limV).toArray := rfl
  have hs : Small [v % 4294967296, v / 4294967296] := by
    intro x hx
    simp at hx
    omega
  have hv : trim [v % 4294967296, v / 4294967296] = limbs ((v : Int)).toNat := by
    rw [trim_eq_limbs hs]
    congr 1
    simp [val]
    omega
  rw [e]
  refine (trim_any _ 2 2 [v % 4294967296, v / 4294967296] _ (isN_lit w [v % 4294967296, v / 4294967296] hs) (by omega) (by omega)).mono ?_
  rintro e w1 ⟨A', n', c', rfl, hown, hbel⟩
  rw [hv] at hown
  have hb : Below w.heap.size w w1 := ((Below.refl _ _).alloc (Nat.le_refl _) _).trans (hbel.mono (by simp))
  have hown' : OwnN w1 w.heap.size A' n' c' (limbs ((v : Int)).toNat) := hown.mono (by simp)
  clear hown hbel hv
  go_wp2
  go_ret
  exact ⟨_, _, _, rfl, hown', hb⟩

end Go.Proofs.Ytmifgblbicnimaa

/- What package nat's Cmp answers, as a contract over memory: the order of the numbers that both lists tell. Conditions: both read as limbs, of at most 10^9 of them. -/
namespace Go.Proofs.Ytmifgblbicnimaa
open Go.RowKit Limb
set_option linter.unusedVariables false

/-- -1, 0 or 1. -/
def cmpI (a b : Nat) : Int := if a < b then -1 else if a = b then 0 else 1
theorem cmpI_lt {a b : Nat} (h : a < b) : cmpI a b = -1 := by simp [cmpI, h]
theorem cmpI_gt {a b : Nat} (h : b < a) : cmpI a b = 1 := by unfold cmpI; rw [if_neg (by omega), if_neg (by omega)]
theorem cmpI_eq (a : Nat) : cmpI a a = 0 := by simp [cmpI]

theorem order_quiet (b : Bool) (w : World) : Calls Try.prog 71 #[.bool b] w fun e w' => e = .returned (.int .i64 (if b then -1 else 1)) ∧ w' = w :=
  (order_any b w).mono fun _ _ h => ⟨h.1, h.2.symm⟩
theorem order_true (w : World) : Calls Try.prog 71 #[.bool true] w fun e w' => e = .returned (.int .i64 (-1)) ∧ w' = w := order_quiet true w
theorem order_false (w : World) : Calls Try.prog 71 #[.bool false] w fun e w' => e = .returned (.int .i64 1) ∧ w' = w := order_quiet false w

set_option maxHeartbeats 800000 in
theorem cmp_any (A : Option Addr) (n c : Nat) (xs : List Nat) (A' : Option Addr) (n' c' : Nat) (ys : List Nat) (w : World) (hx : IsN w A n xs) (hy : IsN w A' n' ys) (hm : n ≤ 1000000000) (hm' : n' ≤ 1000000000) (hc : n ≤ c) (hc' : n' ≤ c') :
    Calls Try.prog 49 #[.slice A n c, .slice A' n' c'] w fun e w' => e = .returned (.int .i64 (cmpI (val xs) (val ys))) ∧ Below w.heap.size w w' := by
  have hlt := trim_len_le xs
  have hlt' := trim_len_le ys
  have hl := hx.len
  have hl' := hy.len
  have hx' := IsN.take hx (m := (trim xs).length) (by omega)
  rw [← trim_take xs] at hx'
  have hy' := IsN.take hy (m := (trim ys).length) (by omega)
  rw [← trim_take ys] at hy'
  have ex := trim_eq_limbs hx.small
  have ey := trim_eq_limbs hy.small
  have hb : (trim xs).length ≤ 1000000000 := by omega
  have hb' : (trim ys).length ≤ 1000000000 := by omega
  have Hl := Lib.hid ex
  have Hl' := Lib.hid ey
  clear hl hl' ex ey hlt hlt'
  go_enter Try.func49, Try.ntmps49
  go_wp2_with fail
  refine (cut_any A n c xs w hx hc (by unfold maxLen; omega)).mono ?_
  rintro e w1 ⟨rfl, rfl⟩
  go_wp2_with fail
  refine (cut_any A' n' c' ys w hy hc' (by unfold maxLen; omega)).mono ?_
  rintro e w1 ⟨rfl, rfl⟩
  generalize trim xs = xs' at *
  generalize trim ys = ys' at *
  clear hx hy
  by_cases hlen : xs'.length = ys'.length
  · have hne : (((xs'.length : Nat) : Int) != ((ys'.length : Nat) : Int)) = false := by simp [hlen]
    have Hlen := Lib.hid hlen
    clear hlen
    go_wp2
    go_loopw [5] (fun i wr => ∃ k : Nat, k ≤ xs'.length ∧ i = .int .i64 ((k : Int) - 1) ∧ (∀ j, k ≤ j → j < xs'.length → lim xs' j = lim ys' j) ∧ Below w.heap.size w wr) (fun i _ => (intOf i + 1).toNat)
    case atStart => exact ⟨xs'.length, Nat.le_refl _, rfl, fun j h1 h2 => absurd h1 (by omega), Below.refl _ _⟩
    case round =>
      obtain ⟨k, hk, rfl, heq, hbel⟩ := hrel
      have Heq := Lib.hid heq
      clear heq
      by_cases hk0 : k = 0
      · subst hk0
        have e : RowKit.Hid (cmpI (val xs) (val ys) = 0) := by
          have h1 : xs' = ys' := lim_ext Hlen.out (fun j hj => Heq.out j (by omega) hj)
          have h2 : val xs = val ys := limbs_inj (by rw [← Hl.out, ← Hl'.out, h1])
          rw [h2]; exact cmpI_eq _
        go_wp2
        go_ret
        exact ⟨by rw [e.out]; rfl, hbel⟩
      · obtain ⟨b1, o, hA, hb1, hcell⟩ := hx'.2.2 (by omega)
        obtain ⟨b2, o', hA', hb2, hcell'⟩ := hy'.2.2 (by have := Hlen.out; omega)
        have h1 : wr.cell? ⟨b1, o + (k - 1), none⟩ = some (.int .u32 ((lim xs' (k - 1) : Nat) : Int)) := (hbel.cell (p := ⟨b1, o + (k - 1), none⟩) hb1).trans (hcell (k - 1) (by omega))
        have h2 : wr.cell? ⟨b2, o' + (k - 1), none⟩ = some (.int .u32 ((lim ys' (k - 1) : Nat) : Int)) := (hbel.cell (p := ⟨b2, o' + (k - 1), none⟩) hb2).trans (hcell' (k - 1) (by have := Hlen.out; omega))
        have hk2 : k ≤ ys'.length := by have := Hlen.out; omega
        subst hA
        subst hA'
        by_cases hq : lim xs' (k - 1) = lim ys' (k - 1)
        · have hq' : (((lim xs' (k - 1) : Nat) : Int) != ((lim ys' (k - 1) : Nat) : Int)) = false := by simp [hq]
          have Hq := Lib.hid hq
          clear hq
          go_wp2
          go_quiet (fail)
          go_wp2
          go_roundw
          case rel => exact ⟨k - 1, by omega, by go_num, fun j h1 h2 => by
            rcases Nat.lt_or_ge j k with h | h
            · have : j = k - 1 := by omega
              subst this; exact Hq.out
            · exact Heq.out j h h2, below_drewN hbel _⟩
          case measure => simp [intOf]; omega
        · have hq' : (((lim xs' (k - 1) : Nat) : Int) != ((lim ys' (k - 1) : Nat) : Int)) = true := by simp; omega
          by_cases ho : lim xs' (k - 1) < lim ys' (k - 1)
          · have e : RowKit.Hid (cmpI (val xs) (val ys) = -1) := by
              have h1 := val_lt_of_lim (xs := xs') (ys := ys') hx'.small Hlen.out (k := k - 1) (by omega) ho (fun j h1 h2 => Heq.out j (by omega) h2)
              rw [Hl.out, Hl'.out, val_limbs, val_limbs] at h1
              exact cmpI_lt h1
            go_wp2
            go_quiet (fail)
            have h1' : (wr.drewN nq).cell? ⟨b1, o + (k - 1), none⟩ = some (.int .u32 ((lim xs' (k - 1) : Nat) : Int)) := h1
            have h2' : (wr.drewN nq).cell? ⟨b2, o' + (k - 1), none⟩ = some (.int .u32 ((lim ys' (k - 1) : Nat) : Int)) := h2
            have hbel' := below_drewN hbel nq
            clear h1 h2 hbel
            generalize wr.drewN nq = wq at *
            go_wp2
            go_quiet ((go_at_call 71; exact Calls.quiet_of_same (order_true _)))
            go_wp2
            go_ret
            exact ⟨by rw [e.out]; rfl, below_drewN hbel' _⟩
          · have ho' : decide (((lim xs' (k - 1) : Nat) : Int) < ((lim ys' (k - 1) : Nat) : Int)) = false := by simp; omega
            have e : RowKit.Hid (cmpI (val xs) (val ys) = 1) := by
              have h1 := val_lt_of_lim (xs := ys') (ys := xs') hy'.small Hlen.out.symm (k := k - 1) (by omega) (show lim ys' (k - 1) < lim xs' (k - 1) by omega) (fun j h1 h2 => (Heq.out j (by omega) (by have := Hlen.out; omega)).symm)
              rw [Hl.out, Hl'.out, val_limbs, val_limbs] at h1
              exact cmpI_gt h1
            go_wp2
            go_quiet (fail)
            have h1' : (wr.drewN nq).cell? ⟨b1, o + (k - 1), none⟩ = some (.int .u32 ((lim xs' (k - 1) : Nat) : Int)) := h1
            have h2' : (wr.drewN nq).cell? ⟨b2, o' + (k - 1), none⟩ = some (.int .u32 ((lim ys' (k - 1) : Nat) : Int)) := h2
            have hbel' := below_drewN hbel nq
            clear h1 h2 hbel
            generalize wr.drewN nq = wq at *
            go_wp2
            go_quiet ((go_at_call 71; exact Calls.quiet_of_same (order_false _)))
            go_wp2
            go_ret
            exact ⟨by rw [e.out]; rfl, below_drewN hbel' _⟩
  · have hne : (((xs'.length : Nat) : Int) != ((ys'.length : Nat) : Int)) = true := by simp; omega
    by_cases ho : xs'.length < ys'.length
    · have e : RowKit.Hid (cmpI (val xs) (val ys) = -1) := by
        refine cmpI_lt (Nat.lt_of_not_le fun h => ?_)
        have := length_limbs_mono h
        rw [← Hl.out, ← Hl'.out] at this
        omega
      go_wp2_with (go_at_call 71; refine (order_true _).mono ?_; rintro e w1 ⟨rfl, rfl⟩)
      go_ret
      exact ⟨by rw [e.out]; rfl, Below.refl _ _⟩
    · have e : RowKit.Hid (cmpI (val xs) (val ys) = 1) := by
        refine cmpI_gt (Nat.lt_of_not_le fun h => ?_)
        have := length_limbs_mono h
        rw [← Hl.out, ← Hl'.out] at this
        omega
      have ho' : decide (((xs'.length : Nat) : Int) < ((ys'.length : Nat) : Int)) = false := by simp; omega
      go_wp2_with (go_at_call 71; refine (order_false _).mono ?_; rintro e w1 ⟨rfl, rfl⟩)
      go_ret
      exact ⟨by rw [e.out]; rfl, Below.refl _ _⟩

end Go.Proofs.Ytmifgblbicnimaa

/- What package nat's Add answers, as a contract over memory: the sum of the numbers that both lists tell, in its shortest limbs, in new memory. Conditions: both read as limbs, of at most 10^9 of them. -/
namespace Go.Proofs.Ytmifgblbicnimaa
open Go.RowKit Limb
set_option linter.unusedVariables false

theorem add32_nat (x y c : Nat) (w : World) (hx : x < 4294967296) (hy : y < 4294967296) (hc : c ≤ 1) :
    Calls Try.prog 101 #[.int .u32 (x : Int), .int .u32 (y : Int), .int .u32 (c : Int)] w fun e w' => e = .returned (.tuple #[.int .u32 ((sumLo x y c : Nat) : Int), .int .u32 ((sumHi x y c : Nat) : Int)]) ∧ w = w' := by
  refine (add32_any (x : Int) (y : Int) (c : Int) w (by omega) (by omega) (by omega)).mono ?_
  rintro e w' ⟨rfl, rfl⟩
  refine ⟨?_, rfl⟩
  have e1 : ((x : Int) + (y : Int) + (c : Int)) % 4294967296 = ((sumLo x y c : Nat) : Int) := by unfold sumLo; omega
  have e2 : ((x : Int) + (y : Int) + (c : Int)) / 4294967296 = ((sumHi x y c : Nat) : Int) := by unfold sumHi; omega
  rw [e1, e2]

theorem add32_zero (x y c : Nat) (w : World) (hx : x < 4294967296) (hy : y = 0) (hc : c ≤ 1) :
    Calls Try.prog 101 #[.int .u32 (x : Int), .int .u32 0, .int .u32 (c : Int)] w fun e w' => e = .returned (.tuple #[.int .u32 ((sumLo x y c : Nat) : Int), .int .u32 ((sumHi x y c : Nat) : Int)]) ∧ w = w' := by
  subst hy
  exact add32_nat x 0 c w hx (by omega) hc

theorem OwnN.addr {w : World} {B : Nat} {A : Option Addr} {n c : Nat} {zs : List Nat} (h : OwnN w B A n c zs) (hn : 0 < n) : ∃ g, A = some ⟨g, 0, none⟩ ∧ B ≤ g ∧ g < w.heap.size := by
  rcases h.1.2 with ⟨_, h0⟩ | ⟨g, cap, cur, hv, hg, hh, _⟩
  · omega
  · injection hv with hA
    refine ⟨g, hA, hg, ?_⟩
    rcases Nat.lt_or_ge g w.heap.size with hlt | hge
    · exact hlt
    · rw [Array.getElem?_eq_none hge] at hh; cases hh

theorem OwnN.cell {w : World} {B g n c : Nat} {zs : List Nat} (h : OwnN w B (some ⟨g, 0, none⟩) n c zs) {k : Nat} (hk : k < n) : w.cell? ⟨g, k, none⟩ = some (.int .u32 ((lim zs k : Nat) : Int)) := by
  have hl := h.len
  rw [h.1.cellAt k (by omega), List.getElem?_map, List.getElem?_eq_getElem (by omega)]
  simp [limV, lim, List.getD_eq_getElem?_getD, List.getElem?_eq_getElem (show k < zs.length by omega)]

theorem OwnN.set {w : World} {B g n c : Nat} {zs : List Nat} (h : OwnN w B (some ⟨g, 0, none⟩) n c zs) (k : Nat) {v : Nat} (hv : v < 4294967296) :
    OwnN (w.setCell ⟨g, k, none⟩ (.int .u32 ((v : Nat) : Int))) B (some ⟨g, 0, none⟩) n c (zs.set k v) := by
  have := (h.1.stored k (limV v)).1
  rw [← List.map_set] at this
  exact ⟨this, small_set h.2 k v hv⟩

theorem OwnN.below {w w' : World} {B C : Nat} {A : Option Addr} {n c : Nat} {zs : List Nat} (h : OwnN w B A n c zs) (hb : Below C w w') (hC : w.heap.size ≤ C) : OwnN w' B A n c zs := by
  refine ⟨⟨h.1.1, ?_⟩, h.2⟩
  rcases h.1.2 with h2 | ⟨g, cap, cur, hv, hg, hh, r⟩
  · exact .inl h2
  · refine .inr ⟨g, cap, cur, hv, hg, ?_, r⟩
    have hlt : g < w.heap.size := by
      rcases Nat.lt_or_ge g w.heap.size with hlt | hge
      · exact hlt
      · rw [Array.getElem?_eq_none hge] at hh; cases hh
    rw [hb.block g (by omega)]
    exact hh

theorem shape_own {w : World} {B : Nat} {v : Value} {n : Nat} {zs : List Nat} (h : w.ownsRow B 62 1 v n (zs.map limV)) (hs : Small zs) : ∃ A c, v = .slice A n c ∧ OwnN w B A n c zs := by
  rcases h.2 with ⟨rfl, rfl⟩ | ⟨g, cap, cur, rfl, hg, r⟩
  · exact ⟨none, 0, rfl, h, hs⟩
  · exact ⟨_, cap, rfl, h, hs⟩

/-- A sum, under a name that no simp set opens. -/
def SumIs (a b t : Nat) : Prop := a + b = t

end Go.Proofs.Ytmifgblbicnimaa

/- What package nat's Sub answers, as a contract over memory: the difference, where the first number is not below the second, in its shortest limbs, in new memory; else none. Conditions: both read as limbs, of at most 10^9 of them. -/
namespace Go.Proofs.Ytmifgblbicnimaa
open Go.RowKit Limb
set_option linter.unusedVariables false

theorem sub32_nat (x y c : Nat) (w : World) (hx : x < 4294967296) (hy : y < 4294967296) (hc : c ≤ 1) :
    Calls Try.prog 100 #[.int .u32 (x : Int), .int .u32 (y : Int), .int .u32 (c : Int)] w fun e w' => e = .returned (.tuple #[.int .u32 ((diffLo x y c : Nat) : Int), .int .u32 ((diffHi x y c : Nat) : Int)]) ∧ w = w' := by
  refine (sub32_any (x : Int) (y : Int) (c : Int) w (by omega) (by omega) (by omega)).mono ?_
  rintro e w' ⟨rfl, rfl⟩
  refine ⟨?_, rfl⟩
  have e1 : ((x : Int) - (y : Int) - (c : Int)) % 4294967296 = ((diffLo x y c : Nat) : Int) := by unfold diffLo; omega
  have e2 : bor (x : Int) (y : Int) (c : Int) = ((diffHi x y c : Nat) : Int) := by
    unfold bor diffHi
    by_cases h : x < y + c
    · rw [if_pos h, if_pos (by omega)]; rfl
    · rw [if_neg h, if_neg (by omega)]; rfl
  rw [e1, e2]

theorem sub32_zero (x y c : Nat) (w : World) (hx : x < 4294967296) (hy : y = 0) (hc : c ≤ 1) :
    Calls Try.prog 100 #[.int .u32 (x : Int), .int .u32 0, .int .u32 (c : Int)] w fun e w' => e = .returned (.tuple #[.int .u32 ((diffLo x y c : Nat) : Int), .int .u32 ((diffHi x y c : Nat) : Int)]) ∧ w = w' := by
  subst hy
  exact sub32_nat x 0 c w hx (by omega) hc

theorem cmp_is (A : Option Addr) (n c : Nat) (xs : List Nat) (A' : Option Addr) (n' c' : Nat) (ys : List Nat) (w : World) (v : Int) (hv : cmpI (val xs) (val ys) = v) (hx : IsN w A n xs) (hy : IsN w A' n' ys) (hm : n ≤ 1000000000) (hm' : n' ≤ 1000000000) (hc : n ≤ c) (hc' : n' ≤ c') :
    Calls Try.prog 49 #[.slice A n c, .slice A' n' c'] w fun e w' => e = .returned (.int .i64 v) ∧ Below w.heap.size w w' := by
  subst hv
  exact cmp_any A n c xs A' n' c' ys w hx hy hm hm' hc hc'

theorem OwnN.take {w : World} {B : Nat} {A : Option Addr} {n c m : Nat} {zs : List Nat} (h : OwnN w B A n c zs) (hm : m ≤ n) : OwnN w B A m c (zs.take m) := by
  have hl := h.len
  refine ⟨⟨by simp; omega, ?_⟩, small_take h.2 _⟩
  rcases h.1.2 with ⟨hv, h0⟩ | ⟨g, cap, cur, hv, hg, hh, h1, h2, h3, h4⟩
  · injection hv with hA hn hc
    subst hA hc
    left
    exact ⟨by congr 1; omega, by omega⟩
  · injection hv with hA hn hc
    subst hA hc
    refine .inr ⟨g, c, cur, rfl, hg, hh, by omega, h2, h3, ?_⟩
    rw [List.map_take, ← h4, List.take_take]
    congr 1
    omega

/-- May b be taken from a? -/
def subOk (a b : Nat) : Bool := decide (b ≤ a)

theorem val_trim {xs : List Nat} (h : Small xs) : val (trim xs) = val xs := by rw [trim_eq_limbs h, val_limbs]

end Go.Proofs.Ytmifgblbicnimaa

/- Plain mathematics on bits: how many a number has, and each bit of the number that limbs tell. No condition. -/
namespace Go.Proofs.Ytmifgblbicnimaa.Limb

/-- How many bits a number has, counted at most f times. -/
def blenTo : Nat → Nat → Nat
  | 0, _ => 0
  | f + 1, n => if n = 0 then 0 else 1 + blenTo f (n / 2)

/-- How many bits a number has. -/
def blen (n : Nat) : Nat := blenTo n n

theorem blenTo_zero (f : Nat) : blenTo f 0 = 0 := by cases f <;> simp [blenTo]
theorem blenTo_more (f : Nat) : ∀ g n, n ≤ f → n ≤ g → blenTo f n = blenTo g n := by
  induction f with
  | zero => intro g n h _; obtain rfl : n = 0 := by omega
            rw [blenTo_zero, blenTo_zero]
  | succ f ih =>
    intro g n hf hg
    cases g with
    | zero => obtain rfl : n = 0 := by omega
              rw [blenTo_zero, blenTo_zero]
    | succ g =>
      rw [blenTo, blenTo]
      by_cases h : n = 0
      · rw [if_pos h, if_pos h]
      · rw [if_neg h, if_neg h, ih g (n / 2) (by omega) (by omega)]
theorem blen_zero : blen 0 = 0 := rfl
theorem blen_pos {n : Nat} (h : n ≠ 0) : blen n = 1 + blen (n / 2) := by
  cases n with
  | zero => exact absurd rfl h
  | succ m =>
    rw [blen, blenTo, if_neg h, blen, blenTo_more m ((m + 1) / 2) ((m + 1) / 2) (by omega) (Nat.le_refl _)]
theorem blen_eq {n k : Nat} (h1 : 2 ^ k ≤ n) (h2 : n < 2 ^ (k + 1)) : blen n = k + 1 := by
  induction k generalizing n with
  | zero =>
    have : n = 1 := by simp at h1 h2; omega
    subst this
    rw [blen_pos (by omega), show 1 / 2 = 0 from rfl, blen_zero]
  | succ k ih =>
    rw [Nat.pow_succ] at h1 h2
    rw [Nat.pow_succ] at h2
    have : n ≠ 0 := by have := Nat.two_pow_pos k; omega
    rw [blen_pos this, ih (by omega) (by rw [Nat.pow_succ]; omega)]
    omega
theorem blen_spec {n : Nat} (h : n ≠ 0) : 2 ^ (blen n - 1) ≤ n ∧ n < 2 ^ blen n ∧ blen n ≠ 0 := by
  induction n using Nat.strongRecOn with
  | ind n ih =>
    rw [blen_pos h]
    by_cases h2 : n / 2 = 0
    · have : n = 1 := by omega
      subst this
      rw [h2, blen_zero]; simp
    · obtain ⟨a, b, c⟩ := ih (n / 2) (by omega) h2
      refine ⟨?_, ?_, by omega⟩
      · rw [show 1 + blen (n / 2) - 1 = (blen (n / 2) - 1) + 1 by omega, Nat.pow_succ]; omega
      · rw [Nat.add_comm, Nat.pow_succ]; omega
theorem blen_lt (n : Nat) : n < 2 ^ blen n := by
  by_cases h : n = 0
  · subst h; rw [blen_zero]; simp
  · exact (blen_spec h).2.1
theorem blen_eq_zero {n : Nat} : blen n = 0 ↔ n = 0 := by
  constructor
  · intro h; exact Classical.byContradiction fun h0 => (blen_spec h0).2.2 h
  · rintro rfl; exact blen_zero

theorem blen_le {n k : Nat} (h : n < 2 ^ k) : blen n ≤ k := by
  by_cases h0 : n = 0
  · subst h0; rw [blen_zero]; exact Nat.zero_le _
  · have := Nat.lt_of_le_of_lt (blen_spec h0).1 h
    have := (Nat.pow_lt_pow_iff_right (show 1 < 2 by decide)).1 this
    omega
theorem blen_mono {a b : Nat} (h : a ≤ b) : blen a ≤ blen b := blen_le (Nat.lt_of_le_of_lt h (blen_lt b))
theorem blen_top {n : Nat} (h : n ≠ 0) : n.testBit (blen n - 1) = true := by
  obtain ⟨h1, h2, h3⟩ := blen_spec h
  rw [Nat.testBit_eq_decide_div_mod_eq, decide_eq_true_eq]
  have e : 2 ^ blen n = 2 ^ (blen n - 1) * 2 := by rw [← Nat.pow_succ]; congr 1; omega
  have : n / 2 ^ (blen n - 1) = 1 := by
    rw [Nat.div_eq_iff (Nat.two_pow_pos _)]
    omega
  rw [this]
theorem blen_above (n : Nat) : n.testBit (blen n) = false := Nat.testBit_lt_two_pow (blen_lt n)

theorem pow32 (k : Nat) : 4294967296 ^ k = 2 ^ (32 * k) := by rw [Nat.pow_mul]

/-- The bits of limbs: those below the highest, and the highest one's. -/
theorem blen_limbs {xs : List Nat} {k : Nat} (hk : xs.length = k + 1) (h0 : lim xs k ≠ 0) (hs : Small xs) : blen (val xs) = 32 * k + blen (lim xs k) := by
  have e : val xs = val (xs.take k) + 4294967296 ^ k * lim xs k := by
    rw [← val_take_lim, List.take_of_length_le (by omega)]
  have h1 := val_lt (small_take hs k)
  rw [List.length_take, Nat.min_eq_left (by omega)] at h1
  obtain ⟨a, b, c⟩ := blen_spec h0
  rw [e]
  rw [pow32] at h1 ⊢
  have h2 : 32 * k + blen (lim xs k) = (32 * k + (blen (lim xs k) - 1)) + 1 := by omega
  rw [h2]
  refine blen_eq ?_ ?_
  · rw [Nat.pow_add]
    exact Nat.le_trans (Nat.mul_le_mul_left _ a) (Nat.le_add_left _ _)
  · rw [← h2, Nat.pow_add]
    have : 2 ^ (32 * k) * (lim xs k + 1) ≤ 2 ^ (32 * k) * 2 ^ blen (lim xs k) := Nat.mul_le_mul_left _ b
    rw [Nat.mul_add] at this
    omega

theorem lim_eq_div (xs : List Nat) (hs : Small xs) (k : Nat) : val xs / 4294967296 ^ k % 4294967296 = lim xs k := by
  induction xs generalizing k with
  | nil => simp [val, lim]
  | cons x xs ih =>
    rw [small_cons] at hs
    cases k with
    | zero => simp [val, lim]; omega
    | succ k =>
      have := ih hs.2 k
      rw [val, Nat.pow_succ, Nat.mul_comm (4294967296 ^ k), ← Nat.div_div_eq_div_mul]
      have e : (x + 4294967296 * val xs) / 4294967296 = val xs := by omega
      rw [e, this]
      simp [lim]

theorem testBit_lim (xs : List Nat) (hs : Small xs) (i : Nat) : (val xs).testBit i = (lim xs (i / 32)).testBit (i % 32) := by
  have h := lim_eq_div xs hs (i / 32)
  rw [← h, pow32, show (4294967296 : Nat) = 2 ^ 32 from rfl, Nat.testBit_mod_two_pow, Nat.testBit_div_two_pow]
  have h1 : i % 32 < 32 := Nat.mod_lt _ (by decide)
  simp only [h1, decide_true, Bool.true_and]
  congr 1
  omega

end Go.Proofs.Ytmifgblbicnimaa.Limb

/- What package nat's Bits and Bit answer, as contracts over memory: how many bits the number has that a list tells, and each bit. Conditions: the list reads as limbs, of at most 10^9 of them. -/
namespace Go.Proofs.Ytmifgblbicnimaa
open Go.RowKit Limb
set_option linter.unusedVariables false

theorem bitLen_blen (x : Nat) (h : x < 2 ^ 64) : Lib.bitLen x = blen x := by
  induction x using Nat.strongRecOn with
  | ind x ih =>
    by_cases h0 : x = 0
    · subst h0; rw [blen_zero]; rfl
    · rw [Lib.bitLen_half x h0 h, blen_pos h0, ih (x / 2) (by omega) (by omega)]

theorem len8tab_size : ((Lib.len8tab.size : Nat) : Int) = 256 := by
  have : Lib.len8tab.size = 256 := by decide +kernel
  omega

theorem len8_byte (y : Int) (h : y.toNat < Lib.len8tab.size) (h0 : 0 ≤ y) (h1 : y ≤ 255) : (Lib.len8tab[y.toNat]'h).toNat = Lib.bitLen y.toNat := by
  have e := Lib.len8_of y h0 h1
  unfold Lib.len8 at e
  rw [getElem?_pos Lib.len8tab y.toNat h] at e
  have : ((((Lib.len8tab[y.toNat]'h)).toNat : Nat) : Int) = ((Lib.bitLen y.toNat : Nat) : Int) := e
  omega

theorem wrap_len (k a b : Nat) (hk : k ≤ 56) (ha : a ≤ 8) (hb : b = k + a) : wrap64 ((k : Int) + wrap64 (a : Int)) = (b : Int) := by
  unfold wrap64
  omega

theorem wrap_len0 (a b : Nat) (ha : a ≤ 8) (hb : b = a) : wrap64 (wrap64 (a : Int)) = (b : Int) := by
  unfold wrap64
  omega

theorem size_bound (y : Int) (h1 : y ≤ 255) : y.toNat < Lib.len8tab.size := by
  have := len8tab_size
  omega

set_option maxHeartbeats 4000000 in
set_option maxRecDepth 100000 in
theorem len32_any (x : Int) (w : World) (h0 : 0 ≤ x) (h1 : x ≤ 4294967295) :
    Calls Try.prog 83 #[.int .u32 x] w fun e w' => e = .returned (.int .i64 ((blen x.toNat : Nat) : Int)) ∧ w = w' := by
  rw [← bitLen_blen x.toNat (by omega)]
  have hsz := len8tab_size
  by_cases c1 : x < 65536
  · by_cases c2 : x < 256
    · have e := len8_byte x (size_bound _ (by omega)) (by omega) (by omega)
      have l := Lib.bitLen_le8' x (by omega) (by omega)
      have H := Lib.hid (wrap_len0 _ (Lib.bitLen x.toNat) (e ▸ l) e.symm)
      clear e
      go_enter Try.func83, Try.ntmps83
      go_wp2
      go_ret
      exact ⟨ret_int H.out, rfl⟩
    · have e := len8_byte (x / 256) (size_bound _ (by omega)) (by omega) (by omega)
      have l := Lib.bitLen_le8' (x / 256) (by omega) (by omega)
      have s := Lib.bitLen_shift8 x.toNat (by omega) (by omega)
      rw [show x.toNat / 256 = (x / 256).toNat by omega] at s
      have H := Lib.hid (wrap_len 8 _ (Lib.bitLen x.toNat) (by omega) (e ▸ l) (by rw [e]; exact s))
      clear e s
      go_enter Try.func83, Try.ntmps83
      go_wp2
      go_ret
      exact ⟨ret_int H.out, rfl⟩
  · by_cases c2 : x < 16777216
    · have e := len8_byte (x / 65536) (size_bound _ (by omega)) (by omega) (by omega)
      have l := Lib.bitLen_le8' (x / 65536) (by omega) (by omega)
      have s := Lib.bitLen_shift16 x.toNat (by omega) (by omega)
      rw [show x.toNat / 65536 = (x / 65536).toNat by omega] at s
      have H := Lib.hid (wrap_len 16 _ (Lib.bitLen x.toNat) (by omega) (e ▸ l) (by rw [e]; exact s))
      clear e s
      go_enter Try.func83, Try.ntmps83
      go_wp2
      go_ret
      exact ⟨ret_int H.out, rfl⟩
    · have e := len8_byte (x / 65536 / 256) (size_bound _ (by omega)) (by omega) (by omega)
      have l := Lib.bitLen_le8' (x / 65536 / 256) (by omega) (by omega)
      have s := Lib.bitLen_shift24 x.toNat (by omega) (by omega)
      rw [show x.toNat / 16777216 = (x / 65536 / 256).toNat by omega] at s
      have H := Lib.hid (wrap_len 24 _ (Lib.bitLen x.toNat) (by omega) (e ▸ l) (by rw [e]; exact s))
      clear e s
      go_enter Try.func83, Try.ntmps83
      go_wp2
      go_ret
      exact ⟨ret_int H.out, rfl⟩

set_option maxHeartbeats 400000 in
theorem bits_any (A : Option Addr) (n c : Nat) (xs : List Nat) (w : World) (hx : IsN w A n xs) (hc : n ≤ c) (hm : n ≤ 1000000000) :
    Calls Try.prog 64 #[.slice A n c] w fun e w' => e = .returned (.int .i64 ((blen (val xs) : Nat) : Int)) ∧ w = w' := by
  have hlt := trim_len_le xs
  have hl := hx.len
  have hx' := IsN.take hx (m := (trim xs).length) (by omega)
  rw [← trim_take xs] at hx'
  have Vx := Lib.hid (val_trim hx.small)
  have Ex := Lib.hid (trim_eq_limbs hx.small)
  have hb : (trim xs).length ≤ 1000000000 := by omega
  by_cases h0 : (trim xs).length = 0
  · have H : RowKit.Hid (blen (val xs) = 0) := by
      have e := List.eq_nil_of_length_eq_zero h0
      rw [Ex.out, limbs_eq_nil] at e
      show _ = _
      rw [e, blen_zero]
    rw [h0] at hlt
    have H0 := Lib.hid h0
    clear hl h0
    go_enter Try.func64, Try.ntmps64
    go_wp2_with fail
    refine (cut_any A n c xs w hx hc (by unfold maxLen; omega)).mono ?_
    rintro e w1 ⟨rfl, rfl⟩
    rw [H0.out]
    go_wp2
    go_ret
    exact ⟨by rw [H.out]; rfl, rfl⟩
  · obtain ⟨b, o, hA, hb1, hcell⟩ := hx'.2.2 (by omega)
    subst hA
    have h1 := hcell ((trim xs).length - 1) (by omega)
    have hlt32 := lim_lt hx'.small ((trim xs).length - 1)
    have hbl := (blen_spec (n := lim (trim xs) ((trim xs).length - 1)))
    have hne : lim (trim xs) ((trim xs).length - 1) ≠ 0 := by
      intro hz
      have h2 := trim_take_last (xs := trim xs) (k := (trim xs).length - 1) (by omega) hz
      rw [Nat.sub_add_cancel (by omega), List.take_of_length_le (Nat.le_refl _)] at h2
      have h3 := trim_len_le ((trim xs).take ((trim xs).length - 1))
      rw [← h2, trim_eq_limbs hx'.small, Vx.out, ← Ex.out, List.length_take] at h3
      omega
    have H : RowKit.Hid (((trim xs).length - 1) * 32 + blen (lim (trim xs) ((trim xs).length - 1)) = blen (val xs)) := by
      show _ = _
      rw [← Vx.out, blen_limbs (k := (trim xs).length - 1) (by omega) hne hx'.small]
      omega
    have hbl32 : blen (lim (trim xs) ((trim xs).length - 1)) ≤ 32 := by
      rw [← bitLen_blen _ (by omega)]
      exact Lib.bitLen_le _ 32 (by omega) (by omega)
    have hbz : ((((trim xs).length : Nat) : Int) == 0) = false := by simp; exact fun h => h0 (by rw [h]; rfl)
    clear hl hne
    go_enter Try.func64, Try.ntmps64
    go_wp2_with fail
    refine (cut_any (some ⟨b, o, none⟩) n c xs w hx hc (by unfold maxLen; omega)).mono ?_
    rintro e w1 ⟨rfl, rfl⟩
    generalize (trim xs).length = m at *
    generalize lim (trim xs) (m - 1) = t at *
    go_wp2_with fail
    refine (len32_any (t : Int) w (by omega) (by omega)).mono ?_
    rintro e w1 ⟨rfl, rfl⟩
    rw [Int.toNat_natCast]
    go_wp2
    go_ret
    refine ⟨ret_int ?_, rfl⟩
    rw [← H.out]
    omega

theorem bit_of (t k : Nat) (ht : t < 4294967296) : (bits BinOp.and IntKind.u32 ((t : Int) / 2 ^ k) 1 == 1) = t.testBit k := by
  have e : (t : Int) / 2 ^ k = ((t / 2 ^ k : Nat) : Int) := by simp
  have h1 : t / 2 ^ k < 4294967296 := Nat.lt_of_le_of_lt (Nat.div_le_self _ _) ht
  have h2 := u32_and_nat (t / 2 ^ k) 1 h1 (by decide)
  rw [e, show (1 : Int) = ((1 : Nat) : Int) from rfl, h2, Nat.and_one_is_mod, Nat.testBit_eq_decide_div_mod_eq]
  rw [Bool.eq_iff_iff]
  simp
  omega

end Go.Proofs.Ytmifgblbicnimaa

/- The contracts of package nat and of the statements' helpers in one form: a slice reads as limbs that tell a number, within its capacity and a known length; answers are in the shortest limbs. Conditions: at most 10^9 limbs. -/
namespace Go.Proofs.Ytmifgblbicnimaa
open Go.RowKit Limb
set_option linter.unusedVariables false

/-- The slice at A reads as the limbs xs, which tell a; at most L of them. -/
structure NN (w : World) (A : Option Addr) (n c : Nat) (xs : List Nat) (a L : Nat) : Prop where
  isN : IsN w A n xs
  val : Limb.val xs = a
  cap : n ≤ c
  le : n ≤ L

theorem NN.below {w w' : World} {A : Option Addr} {n c : Nat} {xs : List Nat} {a L : Nat} (h : NN w A n c xs a L) (hb : Below w.heap.size w w') : NN w' A n c xs a L := ⟨h.isN.below hb, h.val, h.cap, h.le⟩

theorem lt_pow {w : World} {A : Option Addr} {n c : Nat} {xs : List Nat} {a L : Nat} (h : NN w A n c xs a L) : a < 4294967296 ^ L := by
  have := val_lt h.isN.small
  rw [h.val, h.isN.len] at this
  exact Nat.lt_of_lt_of_le this (Nat.pow_le_pow_right (by decide) h.le)

theorem blen_NN {w : World} {A : Option Addr} {n c : Nat} {xs : List Nat} {a L : Nat} (h : NN w A n c xs a L) : blen a ≤ 32 * L := by
  have := lt_pow h
  rw [pow32] at this
  exact blen_le this

theorem NN.own {w : World} {B : Nat} {A : Option Addr} {n c a L : Nat} (h : OwnN w B A n c (limbs a)) (hl : a < 4294967296 ^ L) : NN w A n c (limbs a) a L :=
  ⟨h.isN, val_limbs a, h.caps.1, by have := length_limbs_le hl; rw [h.len] at this; exact this⟩

theorem NN.relax {w : World} {A : Option Addr} {n c a L L' : Nat} (h : NN w A n c (limbs a) a L) (hl : a < 4294967296 ^ L') : NN w A n c (limbs a) a L' :=
  ⟨h.isN, h.val, h.cap, by have := length_limbs_le hl; rw [h.isN.len] at this; exact this⟩

theorem limbs_of_NN {w : World} {A : Option Addr} {n c : Nat} {xs : List Nat} {a L : Nat} (h : NN w A n c xs a L) : trim xs = limbs a := by rw [trim_eq_limbs h.isN.small, h.val]

section
variable {w : World} {A A' : Option Addr} {n c n' c' : Nat} {xs ys : List Nat} {a b L L' : Nat}

theorem cmp_c (hx : NN w A n c xs a L) (hy : NN w A' n' c' ys b L') (h1 : L ≤ 1000000000) (h2 : L' ≤ 1000000000) (v : Int) (hv : cmpI a b = v) :
    Calls Try.prog 49 #[.slice A n c, .slice A' n' c'] w fun e w' => e = .returned (.int .i64 v) ∧ Below w.heap.size w w' :=
  cmp_is A n c xs A' n' c' ys w v (by rw [hx.val, hy.val, hv]) hx.isN hy.isN (by have := hx.le; omega) (by have := hy.le; omega) hx.cap hy.cap

theorem bits_c (hx : NN w A n c xs a L) (h1 : L ≤ 1000000000) (v : Int) (hv : ((blen a : Nat) : Int) = v) :
    Calls Try.prog 64 #[.slice A n c] w fun e w' => e = .returned (.int .i64 v) ∧ w = w' := by
  have := bits_any A n c xs w hx.isN hx.cap (by have := hx.le; omega)
  rwa [hx.val, hv] at this

theorem trim_c (hx : NN w A n c xs a L) (h1 : L ≤ 1000000000) :
    Calls Try.prog 63 #[.slice A n c] w fun e w' => ∃ A2 n2 c2, e = .returned (.slice A2 n2 c2) ∧ NN w' A2 n2 c2 (limbs a) a L ∧ Below w.heap.size w w' := by
  refine (trim_any A n c xs w hx.isN hx.cap (by have := hx.le; omega)).mono ?_
  rintro e w' ⟨A2, n2, c2, rfl, how, hb⟩
  rw [limbs_of_NN hx] at how
  exact ⟨A2, n2, c2, rfl, NN.own how (lt_pow hx), hb⟩

theorem keep_c (hx : NN w A n c xs a L) (hy : NN w A' n' c' ys b L') (h1 : L ≤ 1000000000) (h2 : L' ≤ 1000000000) (v : Bool) (hv : same xs ys = v) :
    Calls Try.prog 36 #[.slice A n c, .slice A' n' c'] w fun e w' => e = .returned (.bool v) ∧ Below w.heap.size w w' := by
  have := keepNat_any A n c xs A' n' c' ys w hx.isN hy.isN (by have := hx.le; omega) (by have := hy.le; omega)
  rwa [hv] at this

theorem same_self (xs : List Nat) : same xs xs = true := by simp [same]
theorem same_of (h : xs = ys) : same xs ys = true := by simp [same, h]
theorem same_limbs_ne (h : a ≠ b) : same (limbs a) (limbs b) = false := by
  unfold same; rw [decide_eq_false_iff_not]; exact fun e => h (limbs_inj e)
theorem cmpI_same (h : a = b) : cmpI a b = 0 := by subst h; exact cmpI_eq _
theorem same_limbs (h : a = b) : same (limbs a) (limbs b) = true := by simp [same, h]
end

theorem of_c (v : Nat) (V : Int) (hV : V = v) (h : v < 18446744073709551616) (w : World) :
    Calls Try.prog 41 #[.int .u64 V] w fun e w' => ∃ A2 n2 c2, e = .returned (.slice A2 n2 c2) ∧ NN w' A2 n2 c2 (limbs v) v 2 ∧ Below w.heap.size w w' := by
  subst hV
  refine (of_any (v : Int) w (by omega) (by omega)).mono ?_
  rintro e w' ⟨A2, n2, c2, rfl, how, hb⟩
  rw [Int.toNat_natCast] at how
  exact ⟨A2, n2, c2, rfl, NN.own how (by omega), hb⟩

theorem lit_c (w : World) (zs : List Nat) (h : Small zs) (n : Nat) (hn : zs.length = n) : NN (w.alloc (.cells (zs.map limV).toArray 62)) (some ⟨w.heap.size, 0, none⟩) n n zs (Limb.val zs) n := by
  subst hn
  exact ⟨isN_lit w zs h, rfl, Nat.le_refl _, Nat.le_refl _⟩

theorem below_new (w : World) (o : Obj) : Below w.heap.size w (w.alloc o) := (Below.refl _ _).alloc (Nat.le_refl _) o

theorem below_two {w w1 w2 : World} (h : Below w.heap.size w w1) (k : Below w1.heap.size w1 w2) : Below w.heap.size w w2 := h.trans (k.mono h.size)

section
variable {P : Program}
theorem run_append_nothing (w : World) (base : Nat) (t ty e : TypeId) (i : TypeInfo) (size : Nat) (ht : P.underlying t = some (.slice e)) (hi : P.info? e = some i)
    (v : Value) (n : Nat) (xs : List Value) (hown : w.ownsRow base e size v n xs) (c : Nat) : (Builtin.append_ #[t, t] ty #[v, .slice none 0 c]).run P w = .ok v w := by
  rcases hown.2 with ⟨rfl, rfl⟩ | ⟨g, cap, cur, rfl, _, _, hnc, _⟩
  · simp [Builtin.append_, run_underlying ht, sizeOf, typeInfo, hi, Builtin.lenOf, Builtin.firstCells]
  · simp [Builtin.append_, run_underlying ht, sizeOf, typeInfo, hi, Builtin.lenOf, Builtin.firstCells, hnc, storeCells]

/-- append of a list that reads from wherever, nil too, to a row of the call's own: elements of one cell. -/
theorem wpList_append_read {w : World} {ops : Array Oper} {rest : List Oper} {o : Oper} {a : Act} {Q : Exit → Act → World → Prop} (hgd : o.guard = none) (s x : Operand) (t : TypeId)
    (ho : o.op = .call { callee := .builtin .append, args := #[s, x], argTypes := #[t, t] })
    (base : Nat) (e : TypeId) (i : TypeInfo) (z : Value) (bytes : Nat) (ht : P.underlying t = some (.slice e)) (hi : P.info? e = some i) (hz : i.zero = some z)
    (hsize : i.size = 1) (hby : i.bytes = bytes) (hzs : z.cells.size = 1)
    (v : Value) (n : Nat) (xs : List Value) (hs : a.eval s = v) (hown : w.ownsRow base e 1 v n xs)
    (A : Option Addr) (m c : Nat) (news : List Value) (hx : a.eval x = .slice A m c) (hl : news.length = m)
    (hnews : 0 < m → ∃ ad, A = some ad ∧ ∀ j u, news[j]? = some u → w.cell? (ad.add j) = some u) (h1 : ∀ u ∈ news, u.oneCell' = true)
    (h63 : n + m ≤ maxLen) (hbytes : (n + m) * bytes ≤ 140737488355328) (hbase : base ≤ w.heap.size)
    (h : ∀ v' w', w'.ownsRow base e 1 v' (n + m) (xs ++ news) → w.grownBy w' v.ownBlock → wpList P ops Q rest (a.put o.dst v') w') : wpList P ops Q (o :: rest) a w := by
  rcases A with _ | ad
  · have hm : m = 0 := by
      rcases Nat.eq_zero_or_pos m with h0 | h0
      · exact h0
      · obtain ⟨ad, hA, _⟩ := hnews h0; cases hA
    subst hm
    have hnw : news = [] := List.eq_nil_of_length_eq_zero hl
    subst hnw
    refine wpList_plain hgd fun K hK => ?_
    have hrun := run_append_nothing (P := P) w base t o.type e i 1 ht hi v n xs hown c
    unfold Oper.wp execOp
    simp only [ho, resolve, invoke, builtin, Sem.run_bind, Sem.run_pure, Result.andThen_ok, List.map_toArray, List.map_cons, List.map_nil, hs, hx, hrun]
    exact hK _ _ (h v w (by simpa using hown) (World.grownBy.refl w _))
  · refine wpList_append_own w hgd s x t ho base e i z 1 bytes ht hi hz hsize hby hzs (by decide) v n xs hs hown ad m c news hx (by omega) ?_ h1 h63 hbytes hbase (fun v' w' a b _ => h v' w' a b)
    intro j u hu
    have hj : j < news.length := by
      rcases Nat.lt_or_ge j news.length with h0 | h0
      · exact h0
      · rw [List.getElem?_eq_none h0] at hu; cases hu
    obtain ⟨ad', hA, hc⟩ := hnews (by omega)
    injection hA with hA
    subst hA
    exact hc j u hu
end

theorem NN.news {w : World} {A : Option Addr} {n c : Nat} {xs : List Nat} {a L : Nat} (h : NN w A n c xs a L) : 0 < n → ∃ ad, A = some ad ∧ ∀ j u, (xs.map limV)[j]? = some u → w.cell? (ad.add j) = some u := by
  intro hn
  obtain ⟨b, o, rfl, hb, hcell⟩ := h.isN.2.2 hn
  refine ⟨_, rfl, fun j u hu => ?_⟩
  obtain ⟨hj, rfl⟩ := map_u32_get hu
  have e : (⟨b, o, none⟩ : Addr).add j = ⟨b, o + j, none⟩ := by unfold Addr.add; split <;> simp_all
  rw [e]
  exact hcell j (by rw [← h.isN.len]; exact hj)

/-- append of a list of limbs, from wherever, to a row of limbs of the call's own: all premises under one name each, so that a walk leaves them as they are. -/
theorem wpList_append_nat {w : World} {ops : Array Oper} {rest : List Oper} {o : Oper} {a : Act} {Q : Exit → Act → World → Prop} (hgd : o.guard = none) (s x : Operand)
    (ho : o.op = .call { callee := .builtin .append, args := #[s, x], argTypes := #[23, 23] })
    (base : Nat) (v : Value) (n : Nat) (xs : List Nat) (hs : a.eval s = v) (hown : Hid (w.ownsRow base 62 1 v n (xs.map limV)))
    (A : Option Addr) (m c : Nat) (ys : List Nat) (b L : Nat) (hx : a.eval x = .slice A m c) (hy : Hid (NN w A m c ys b L)) (hb : Hid (n ≤ 1000000000 ∧ L ≤ 1000000000 ∧ base ≤ w.heap.size ∧ Small xs))
    (h : ∀ A2 c2 w', Hid (OwnN w' base A2 (n + m) c2 (xs ++ ys)) → Hid (w.grownBy w' v.ownBlock) → wpList Try.prog ops Q rest (a.put o.dst (.slice A2 (n + m) c2)) w') : wpList Try.prog ops Q (o :: rest) a w := by
  obtain ⟨i0, hi, hz0, hz1, hz2⟩ := info_parts u32_info
  obtain ⟨h1, h2, h3, h4⟩ := hb.out
  have hm := hy.out.le
  refine wpList_append_read hgd s x 23 ho base 62 i0 (.int .u32 0) 4 Try.underlying23 hi hz0 hz1 hz2 rfl v n (xs.map limV) hs hown.out A m c (ys.map limV) hx (by simp [hy.out.isN.len]) hy.out.news (oneCell_u32 ys) (by unfold maxLen; omega) (by omega) h3 ?_
  intro v' w' hown' hg
  rw [← List.map_append] at hown'
  obtain ⟨A2, c2, rfl, how⟩ := shape_own hown' (small_append.2 ⟨h4, hy.out.isN.small⟩)
  exact h A2 c2 w' how hg

/-- The empty literal is a row of the call's own. -/
theorem own_lit (w : World) (zs : List Nat) (n : Nat) (hn : zs.length = n) (h : n ≤ 1000000000) : (w.alloc (.cells (zs.map limV).toArray 62)).ownsRow w.heap.size 62 1 (.slice (some ⟨w.heap.size, 0, none⟩) n n) n (zs.map limV) := by
  have := World.ownsRow_lit (e := 62) (size := 1) w (zs.map limV).toArray n (Nat.le_refl _) (by unfold maxLen; omega) (by simp [hn])
  simpa using this

/-- What an append to a literal leaves of what was there. -/
theorem below_lit {w w' : World} {o : Obj} {g : Nat} {n c : Nat} (hg : (w.alloc o).grownBy w' (Value.ownBlock (.slice (some ⟨g, 0, none⟩) n c))) (hb : w.heap.size ≤ g) : Below w.heap.size w w' :=
  (below_new w o).grown hg (by simp) (fun k hk => by
    simp [Value.ownBlock] at hk
    omega)

/-- A copy that shares nothing: append to an empty literal. -/
theorem own_any (A : Option Addr) (n c : Nat) (xs : List Nat) (a L : Nat) (w : World) (hx : NN w A n c xs a L) (h1 : L ≤ 1000000000) :
    Calls Try.prog 23 #[.slice A n c] w fun e w' => ∃ A2 n2 c2, e = .returned (.slice A2 n2 c2) ∧ NN w' A2 n2 c2 xs a L ∧ Below w.heap.size w w' := by
  have hle := hx.le
  have Hx := Lib.hid (hx.below (below_new w (.cells #[] 62)))
  have Hn := Lib.hid hx
  clear hx
  have Hown : RowKit.Hid ((w.alloc (.cells #[] 62)).ownsRow w.heap.size 62 1 (.slice (some ⟨w.heap.size, 0, none⟩) 0 0) 0 (([] : List Nat).map limV)) := own_lit w [] 0 rfl (by omega)
  have Hb : RowKit.Hid (0 ≤ 1000000000 ∧ L ≤ 1000000000 ∧ w.heap.size ≤ (w.alloc (.cells #[] 62)).heap.size ∧ Small []) := ⟨by omega, h1, by simp, small_nil⟩
  go_enter Try.func23, Try.ntmps23
  go_wp2_with (at_builtin; refine wpList_append_nat rfl _ _ rfl w.heap.size _ 0 [] rfl Hown A n c xs a L rfl Hx Hb ?_)
  intro A2 c2 w' how hgrow
  have hb2 := below_lit hgrow.out (Nat.le_refl _)
  have hn : NN w' A2 n c2 xs a L := by
    have h := how.out
    exact ⟨h.isN, Hn.out.val, h.caps.1, Hn.out.le⟩
  clear how hgrow Hown Hb Hx Hn
  go_wp2
  go_ret
  exact ⟨_, _, _, rfl, hn, hb2⟩

end Go.Proofs.Ytmifgblbicnimaa

/- How an argument that is a slice of 32-bit words is opened: it reads as limbs in the caller's memory. No condition. -/
namespace Go.Proofs.Ytmifgblbicnimaa
open Go.ChangeShapes Go.WideShapes Go.ChangeAt Go.RowKit Limb
set_option linter.unusedVariables false

theorem own : ownKnob Try.prog.godebug = none := by kernel_rfl
theorem laidOut : laidOutB Try.prog = true := by kernel_rfl

theorem wf_u32 {n : Int} (h : (Lit.int .u32 n).wf = true) : 0 ≤ n ∧ n < 4294967296 := by
  have h1 : IntKind.u32.min = 0 := rfl
  have h2 : IntKind.u32.max = 4294967295 := rfl
  simp only [Lit.wf, Bool.and_eq_true, decide_eq_true_eq] at h
  omega

theorem add_zero_addr (a : Addr) : a.add 0 = a := by simp [Addr.add]

/-- What a slice of words that came in reads as. -/
theorem open_nat {H : Type} {enc : TypeId × Value → H} {W : World} {sp : Nat → Bool} {held : Bool} {a : Option Addr} {n c : Nat} {d : DataW H} {p : List MemPlace}
    (h : DataW.Trod enc Try.prog W 0 sp held 23 (.slice a n c) d p) : ∃ xs, IsN W a n xs ∧ n ≤ c ∧ c ≤ maxLen ∧ (a = none → c = 0) := by
  obtain ⟨fuel, hf⟩ := h
  rcases open_ints Try.underlying23 Try.underlying62 (by kernel_rfl) hf with ⟨hcs, _⟩ | ⟨x, l, k, zs, hcs, _, hl, hm, hz, _, hcell, hwz⟩
  · simp [Value.cells] at hcs
    obtain ⟨rfl, rfl, rfl⟩ := hcs
    exact ⟨[], IsN.nil _ _, Nat.le_refl _, Nat.zero_le _, fun _ => rfl⟩
  · simp [Value.cells] at hcs
    obtain ⟨rfl, rfl, rfl⟩ := hcs
    have hz' : n ≤ zs.length := by rw [hz]; split <;> omega
    refine ⟨(zs.take n).map Int.toNat, ⟨by simp; omega, ?_, fun hn => ?_⟩, hl, hm, fun e => by cases e⟩
    · intro v hv
      obtain ⟨z, hz2, rfl⟩ := List.mem_map.1 hv
      have := wf_u32 (hwz z (List.mem_of_mem_take hz2))
      omega
    · obtain ⟨b, o, spot⟩ := x
      have h0 := hcell 0 (by omega)
      rw [add_zero_addr] at h0
      have hs : spot = none := World.cell?_spot h0
      subst hs
      refine ⟨b, o, rfl, World.block_lt_of_cell? W _ h0, fun j hj => ?_⟩
      have hj2 := hcell j (by omega)
      have e : (⟨b, o, none⟩ : Addr).add j = ⟨b, o + j, none⟩ := by unfold Addr.add; split <;> simp_all
      rw [e] at hj2
      rw [hj2]
      have hw := wf_u32 (hwz zs[j] (List.getElem_mem (by omega)))
      have e2 : zs.getD j 0 = zs[j] := by simp [List.getD_eq_getElem?_getD, List.getElem?_eq_getElem (show j < zs.length by omega)]
      have e3 : lim ((zs.take n).map Int.toNat) j = (zs[j]).toNat := by
        simp [lim, List.getD_eq_getElem?_getD, hj, List.getElem?_eq_getElem (show j < zs.length by omega)]
      rw [e2, e3, Int.toNat_of_nonneg hw.1]

theorem places_lt {H : Type} {enc : TypeId × Value → H} {W : World} {base : Nat} {sp : Nat → Bool} {held : Bool} {t : TypeId} {v : Value} {d : DataW H} {p : List MemPlace} (h : DataW.Trod enc Try.prog W base sp held t v d p) : ∀ x ∈ p, x.block < W.heap.size := by
  obtain ⟨m, hm⟩ := h; exact DataW.trod_lt m _ _ _ hm

theorem long_yes {n : Nat} (h : 300 < n) : tooLong n = true := by simp [tooLong, h]
theorem long_no {n : Nat} (h : n ≤ 300) : tooLong n = false := by simp [tooLong]; omega

end Go.Proofs.Ytmifgblbicnimaa

/- How an argument that is a struct of a sign and a list of limbs is opened. No condition. -/
namespace Go.Proofs.Ytmifgblbicnimaa
open Go.ChangeShapes Go.WideShapes Go.ChangeAt Go.RowKit Limb
set_option linter.unusedVariables false

theorem cells_bool : Try.prog.cellsOf 4 = 1 := by kernel_rfl
theorem cells_nat : Try.prog.cellsOf 23 = 1 := by kernel_rfl
theorem cells_int : Try.prog.cellsOf 25 = 2 := by kernel_rfl

theorem two_cells {cs : Array Value} {u v : Value} (h : cs.toList = [u, v]) : cs = #[u, v] := by
  obtain ⟨l⟩ := cs
  have h2 : l = [u, v] := h
  rw [h2]

set_option maxRecDepth 100000 in
theorem open_zint {H : Type} {enc : TypeId × Value → H} {W : World} {r : Reach} {b0 : Nat} {sp : Nat → Bool} {held : Bool} {v : Value} {d : DataW H} {p : List MemPlace}
    (hok : Value.okWide Try.prog W r b0 25 v) (h : DataW.Trod enc Try.prog W 0 sp held 25 v d p) :
    ∃ (s : Bool) (a : Option Addr) (n c : Nat) (xs : List Nat), v = .agg #[.bool s, .slice a n c] ∧ IsN W a n xs ∧ n ≤ c ∧ c ≤ maxLen := by
  obtain ⟨cs, rfl, hsz⟩ := okWide_struct Try.underlying25 hok
  rw [cells_int] at hsz
  obtain ⟨fuel, hf⟩ := h
  obtain ⟨xs, m, rfl, hx, hlen, hxl, hel⟩ := DataW.trod_struct Try.underlying25 hf
  have h0 : DataW.trod enc Try.prog W 0 sp held m 4 (((Value.agg cs).cells.toList.drop 0).take (Try.prog.cellsOf 4)) = xs[0]? := hel 0 _ rfl
  have h1 : DataW.trod enc Try.prog W 0 sp held m 23 (((Value.agg cs).cells.toList.drop 1).take (Try.prog.cellsOf 23)) = xs[1]? := hel 1 _ rfl
  rw [cells_bool] at h0
  rw [cells_nat] at h1
  have hxl2 : xs.length = 2 := by simpa using hxl
  rw [List.getElem?_eq_getElem (by omega)] at h0 h1
  have hcl : cs.toList.length = 2 := by simpa using hsz
  have hcc : (Value.agg cs).cells.toList = cs.toList := rfl
  rw [hcc] at h0 h1
  match hcs : cs.toList, hcl with
  | [c0, c1], _ =>
    rw [hcs] at h0 h1
    obtain ⟨b, hb, _⟩ := DataW.trod_bool Try.underlying4 h0
    simp at hb
    subst hb
    have h2 : DataW.Trod enc Try.prog W 0 sp held 23 c1 xs[1].1 xs[1].2 := by
      rcases DataW.trod_slice Try.underlying23 h1 with ⟨e, _⟩ | ⟨a, l, k, es, rs, m2, _, e, _⟩
      · simp at e; subst e; exact ⟨_, h1⟩
      · simp at e; subst e; exact ⟨_, h1⟩
    rcases DataW.trod_slice Try.underlying23 h1 with ⟨e, _⟩ | ⟨a, l, k, es, rs, m2, _, e, _⟩
    · simp at e; subst e
      obtain ⟨zs, hz, hc, hm, _⟩ := open_nat h2
      exact ⟨b, _, _, _, zs, by rw [two_cells hcs], hz, hc, hm⟩
    · simp at e; subst e
      obtain ⟨zs, hz, hc, hm, _⟩ := open_nat h2
      exact ⟨b, _, _, _, zs, by rw [two_cells hcs], hz, hc, hm⟩

end Go.Proofs.Ytmifgblbicnimaa

/- How an argument that is a rational number is opened: a struct of a struct of a sign and a list of limbs, and of a list of limbs. No condition. -/
namespace Go.Proofs.Ytmifgblbicnimaa
open Go.ChangeShapes Go.WideShapes Go.ChangeAt Go.RowKit Limb
set_option linter.unusedVariables false

theorem cells_rat : Try.prog.cellsOf 27 = 3 := by kernel_rfl

theorem three_cells {cs : Array Value} {u v x : Value} (h : cs.toList = [u, v, x]) : cs = #[u, v, x] := by
  obtain ⟨l⟩ := cs
  have h2 : l = [u, v, x] := h
  rw [h2]

/-- A slice of limbs among the cells of a struct. -/
theorem slice_cell {H : Type} {enc : TypeId × Value → H} {W : World} {sp : Nat → Bool} {held : Bool} {m : Nat} {c : Value} {x : DataW H × List MemPlace}
    (h : DataW.trod enc Try.prog W 0 sp held m 23 [c] = some x) : ∃ (a : Option Addr) (n k : Nat) (zs : List Nat), c = .slice a n k ∧ IsN W a n zs ∧ n ≤ k ∧ k ≤ maxLen := by
  have h2 : DataW.Trod enc Try.prog W 0 sp held 23 c x.1 x.2 := by
    rcases DataW.trod_slice Try.underlying23 h with ⟨e, _⟩ | ⟨a, l, k, es, rs, m2, _, e, _⟩
    · simp at e; subst e; exact ⟨_, h⟩
    · simp at e; subst e; exact ⟨_, h⟩
  rcases DataW.trod_slice Try.underlying23 h with ⟨e, _⟩ | ⟨a, l, k, es, rs, m2, _, e, _⟩
  · simp at e; subst e
    obtain ⟨zs, hz, hc, hm, _⟩ := open_nat h2
    exact ⟨_, _, _, zs, rfl, hz, hc, hm⟩
  · simp at e; subst e
    obtain ⟨zs, hz, hc, hm, _⟩ := open_nat h2
    exact ⟨_, _, _, zs, rfl, hz, hc, hm⟩

set_option maxRecDepth 100000 in
theorem open_rat {H : Type} {enc : TypeId × Value → H} {W : World} {r : Reach} {b0 : Nat} {sp : Nat → Bool} {held : Bool} {v : Value} {d : DataW H} {p : List MemPlace}
    (hok : Value.okWide Try.prog W r b0 27 v) (h : DataW.Trod enc Try.prog W 0 sp held 27 v d p) :
    ∃ (s : Bool) (a : Option Addr) (n c : Nat) (xs : List Nat) (b : Option Addr) (m k : Nat) (ys : List Nat), v = .agg #[.bool s, .slice a n c, .slice b m k] ∧ IsN W a n xs ∧ n ≤ c ∧ c ≤ maxLen ∧ IsN W b m ys ∧ m ≤ k ∧ k ≤ maxLen := by
  obtain ⟨cs, rfl, hsz⟩ := okWide_struct Try.underlying27 hok
  rw [cells_rat] at hsz
  obtain ⟨fuel, hf⟩ := h
  obtain ⟨xs, m, rfl, hx, hlen, hxl, hel⟩ := DataW.trod_struct Try.underlying27 hf
  have h0 : DataW.trod enc Try.prog W 0 sp held m 25 (((Value.agg cs).cells.toList.drop 0).take (Try.prog.cellsOf 25)) = xs[0]? := hel 0 _ rfl
  have h1 : DataW.trod enc Try.prog W 0 sp held m 23 (((Value.agg cs).cells.toList.drop 2).take (Try.prog.cellsOf 23)) = xs[1]? := hel 1 _ rfl
  rw [cells_int] at h0
  rw [cells_nat] at h1
  have hxl2 : xs.length = 2 := by simpa using hxl
  rw [List.getElem?_eq_getElem (by omega)] at h0 h1
  have hcl : cs.toList.length = 3 := by simpa using hsz
  have hcc : (Value.agg cs).cells.toList = cs.toList := rfl
  rw [hcc] at h0 h1
  match hcs : cs.toList, hcl with
  | [c0, c1, c2], _ =>
    rw [hcs] at h0 h1
    obtain ⟨ys, m1, e0, hy, hylen, hyl, hyel⟩ := DataW.trod_struct Try.underlying25 h0
    have k0 : DataW.trod enc Try.prog W 0 sp held m1 4 ((([c0, c1] : List Value).drop 0).take (Try.prog.cellsOf 4)) = ys[0]? := hyel 0 _ rfl
    have k1 : DataW.trod enc Try.prog W 0 sp held m1 23 ((([c0, c1] : List Value).drop 1).take (Try.prog.cellsOf 23)) = ys[1]? := hyel 1 _ rfl
    rw [cells_bool] at k0
    rw [cells_nat] at k1
    have hyl2 : ys.length = 2 := by simpa using hyl
    rw [List.getElem?_eq_getElem (by omega)] at k0 k1
    obtain ⟨b, hb, _⟩ := DataW.trod_bool Try.underlying4 k0
    simp at hb
    subst hb
    obtain ⟨a, n, c, zs, rfl, hz, hc, hm⟩ := slice_cell (c := c1) k1
    obtain ⟨a2, n2, k2, zs2, rfl, hz2, hc2, hm2⟩ := slice_cell (c := c2) h1
    exact ⟨b, _, _, _, zs, _, _, _, zs2, by rw [three_cells hcs], hz, hc, hm, hz2, hc2, hm2⟩

end Go.Proofs.Ytmifgblbicnimaa

/- What the reference's at, Trim and Add of layer 1 come to, as contracts over memory. Conditions: arguments read as limbs, of at most 10^8 of them. -/
namespace Go.Proofs.Ytmifgblbicnimaa
open Go.RowKit Limb
set_option linter.unusedVariables false

theorem refAt_any (A : Option Addr) (n c : Nat) (xs : List Nat) (i : Int) (w : World) (hx : IsN w A n xs) (hm : n ≤ 1000000000) (h0 : 0 ≤ i) (h1 : i ≤ 9223372036854775807) :
    Calls Try.prog 78 #[.slice A n c, .int .i64 i] w fun e w' => e = .returned (.int .u64 ((lim xs i.toNat : Nat) : Int)) ∧ w = w' := by
  obtain ⟨i, rfl⟩ := Int.eq_ofNat_of_zero_le h0
  rw [Int.toNat_natCast]
  have hl := hx.len
  by_cases hi : i < n
  · obtain ⟨b, o, hA, hb1, hcell⟩ := hx.2.2 (by omega)
    subst hA
    have h2 := hcell i hi
    have hlt32 := lim_lt hx.small i
    go_enter Try.func78, Try.ntmps78
    go_wp2
    go_ret
    exact ⟨rfl, rfl⟩
  · have H := Lib.hid (lim_of_ge (xs := xs) (k := i) (by omega))
    have hi' : (n : Int) ≤ (i : Int) := by omega
    go_enter Try.func78, Try.ntmps78
    go_wp2
    go_ret
    exact ⟨by rw [H.out]; rfl, rfl⟩

set_option maxHeartbeats 400000 in
theorem refTrim_any (A : Option Addr) (n c : Nat) (xs : List Nat) (w : World) (hx : IsN w A n xs) (hc : n ≤ c) (hm : n ≤ 1000000000) :
    Calls Try.prog 56 #[.slice A n c] w fun e w' => ∃ A2 n2 c2, e = .returned (.slice A2 n2 c2) ∧ OwnN w' w.heap.size A2 n2 c2 (trim xs) ∧ Below w.heap.size w w' := by
  have hl := hx.len
  go_enter Try.func56, Try.ntmps56
  go_wp2
  go_loop [3] (fun i => ∃ k : Nat, k ≤ n ∧ i = .int .i64 k ∧ trim (xs.take k) = trim xs) (fun i => (intOf i).toNat)
  case atStart => exact ⟨n, Nat.le_refl _, rfl, by rw [List.take_of_length_le (by omega)]⟩
  case round =>
    obtain ⟨k, hk, rfl, ht⟩ := hrel
    by_cases hgo : 0 < k ∧ lim xs (k - 1) = 0
    · obtain ⟨hk0, hz⟩ := hgo
      obtain ⟨b, o, rfl, hb, hcell⟩ := hx.2.2 (by omega)
      have h1 := hcell (k - 1) (by omega)
      have h2 : trim (xs.take k) = trim (xs.take (k - 1)) := by
        have := trim_take_last (xs := xs) (k := k - 1) (by omega) hz
        rwa [Nat.sub_add_cancel (by omega)] at this
      have H2 := Lib.hid (h2.symm.trans ht)
      clear h2 ht
      rw [hz] at h1
      clear hz
      go_wp2
      go_round
      case rel => exact ⟨k - 1, by omega, by go_num, H2.out⟩
      case measure => simp [intOf]; omega
    · have h2 : trim xs = xs.take k := by
        rw [← ht]
        by_cases hk0 : k = 0
        · subst hk0; rfl
        · have := trim_take_full (xs := xs) (k := k - 1) (by omega) (fun h => hgo ⟨by omega, h⟩)
          rwa [Nat.sub_add_cancel (by omega)] at this
      have H2 := Lib.hid h2
      have hx2 := IsN.take hx hk
      have b0 := below_new w (.cells #[] 62)
      have Hx : RowKit.Hid (NN (w.alloc (.cells #[] 62)) A k c (xs.take k) (val (xs.take k)) 1000000000) := NN.below ⟨hx2, rfl, by omega, by omega⟩ b0
      have Hown : RowKit.Hid ((w.alloc (.cells #[] 62)).ownsRow w.heap.size 62 1 (.slice (some ⟨w.heap.size, 0, none⟩) 0 0) 0 (([] : List Nat).map limV)) := own_lit w [] 0 rfl (by omega)
      have Hb : RowKit.Hid (0 ≤ 1000000000 ∧ 1000000000 ≤ 1000000000 ∧ w.heap.size ≤ (w.alloc (.cells #[] 62)).heap.size ∧ Small []) := ⟨by omega, by omega, by simp, small_nil⟩
      clear hx2 b0
      by_cases hk0 : k = 0
      · subst hk0
        clear h2 ht
        go_wp2_with (at_builtin; refine wpList_append_nat rfl _ _ rfl w.heap.size _ 0 [] rfl Hown A 0 c (xs.take 0) (val (xs.take 0)) 1000000000 rfl Hx Hb ?_)
        intro A2 c2 w' how hgrow
        have hb2 := below_lit hgrow.out (Nat.le_refl _)
        have hn : OwnN w' w.heap.size A2 0 c2 (trim xs) := by
          rw [H2.out]
          exact how.out
        clear how hgrow Hown Hb Hx
        go_wp2
        go_ret
        exact ⟨_, _, _, rfl, hn, hb2⟩
      · obtain ⟨b, o, rfl, hb, hcell⟩ := hx.2.2 (by omega)
        have h1 := hcell (k - 1) (by omega)
        have hlt := lim_lt hx.small (k - 1)
        have hz' : (((lim xs (k - 1) : Nat) : Int) == 0) = false := by simp; exact fun h => hgo ⟨by omega, h⟩
        clear hgo h2 ht
        go_wp2_with (at_builtin; refine wpList_append_nat rfl _ _ rfl w.heap.size _ 0 [] rfl Hown (some ⟨b, o, none⟩) k c (xs.take k) (val (xs.take k)) 1000000000 rfl Hx Hb ?_)
        intro A2 c2 w' how hgrow
        have hb2 := below_lit hgrow.out (Nat.le_refl _)
        have hn : OwnN w' w.heap.size A2 k c2 (trim xs) := by
          rw [H2.out]
          exact how.out
        clear how hgrow Hown Hb Hx
        go_wp2
        go_ret
        exact ⟨_, _, _, rfl, hn, hb2⟩

/-- A sum that the reference makes limb by limb: the limbs made so far, and what goes on. -/
def RAdd (xs ys zs : List Nat) (k cr : Nat) : Prop := zs.length = k ∧ Small zs ∧ val zs + cr * 4294967296 ^ k = val (xs.take k) + val (ys.take k) ∧ cr ≤ 1

theorem RAdd.start (xs ys : List Nat) : RAdd xs ys [] 0 0 := ⟨rfl, small_nil, by simp [val], by omega⟩
theorem RAdd.step {xs ys zs : List Nat} {k cr : Nat} (h : RAdd xs ys zs k cr) (hx : Small xs) (hy : Small ys) : RAdd xs ys (zs ++ [(lim xs k + lim ys k + cr) % 4294967296]) (k + 1) ((lim xs k + lim ys k + cr) / 4294967296) := by
  obtain ⟨h1, h2, h3, h4⟩ := h
  refine ⟨by simp [h1], small_append.2 ⟨h2, by intro v hv; simp at hv; omega⟩, ?_, ?_⟩
  · rw [val_append, h1, val_take_lim, val_take_lim, Nat.pow_succ]
    have := add_step (z := lim xs k) (y := lim ys k) (c := cr) (P := 4294967296 ^ k) h3
    simp only [val, Nat.mul_zero, Nat.add_zero]
    omega
  · have := lim_lt hx k
    have := lim_lt hy k
    omega
theorem RAdd.done {xs ys zs : List Nat} {k : Nat} (h : RAdd xs ys zs k 0) (hx : xs.length ≤ k) (hy : ys.length ≤ k) : val zs = val xs + val ys := by
  obtain ⟨h1, h2, h3, h4⟩ := h
  rw [List.take_of_length_le hx, List.take_of_length_le hy] at h3
  omega

/-- The same, with the word that it is a row of the call's own. -/
theorem refTrim_o {A : Option Addr} {n c : Nat} {xs : List Nat} {a L : Nat} {w : World} (hx : NN w A n c xs a L) (h1 : L ≤ 1000000000) :
    Calls Try.prog 56 #[.slice A n c] w fun e w' => ∃ A2 n2 c2, e = .returned (.slice A2 n2 c2) ∧ OwnN w' w.heap.size A2 n2 c2 (limbs a) ∧ Below w.heap.size w w' := by
  refine (refTrim_any A n c xs w hx.isN hx.cap (by have := hx.le; omega)).mono ?_
  rintro e w' ⟨A2, n2, c2, rfl, how, hb⟩
  rw [limbs_of_NN hx] at how
  exact ⟨A2, n2, c2, rfl, how, hb⟩

theorem refTrim_c {A : Option Addr} {n c : Nat} {xs : List Nat} {a L : Nat} {w : World} (hx : NN w A n c xs a L) (h1 : L ≤ 1000000000) :
    Calls Try.prog 56 #[.slice A n c] w fun e w' => ∃ A2 n2 c2, e = .returned (.slice A2 n2 c2) ∧ NN w' A2 n2 c2 (limbs a) a L ∧ Below w.heap.size w w' := by
  refine (refTrim_any A n c xs w hx.isN hx.cap (by have := hx.le; omega)).mono ?_
  rintro e w' ⟨A2, n2, c2, rfl, how, hb⟩
  rw [limbs_of_NN hx] at how
  exact ⟨A2, n2, c2, rfl, NN.own how (lt_pow hx), hb⟩

theorem refAt_c {A : Option Addr} {n c : Nat} {xs : List Nat} {a L : Nat} {w : World} (hx : NN w A n c xs a L) (h1 : L ≤ 1000000000) (k : Nat) (hk : k ≤ 9000000000000000000) :
    Calls Try.prog 78 #[.slice A n c, .int .i64 (k : Int)] w fun e w' => e = .returned (.int .u64 ((lim xs k : Nat) : Int)) ∧ w = w' := by
  have := refAt_any A n c xs (k : Int) w hx.isN (by have := hx.le; omega) (by omega) (by omega)
  rwa [Int.toNat_natCast] at this

/-- A row that may grow: limbs of the call's own, nil too. -/
theorem OwnN.row {w : World} {B : Nat} {A : Option Addr} {n c : Nat} {zs : List Nat} (h : OwnN w B A n c zs) : w.ownsRow B 62 1 (.slice A n c) n (zs.map limV) := h.1

theorem OwnN.alloc {w : World} {B : Nat} {A : Option Addr} {n c : Nat} {zs : List Nat} (h : OwnN w B A n c zs) (o : Obj) : OwnN (w.alloc o) B A n c zs := ⟨h.1.alloc o, h.2⟩

/-- What an append to a row of the call's own leaves of what was there before the call. -/
theorem below_grown {w0 w w' : World} {A : Option Addr} {n c : Nat} {zs : List Nat} {o : Obj} (hb : Below w0.heap.size w0 w) (how : OwnN w w0.heap.size A n c zs) (hg : (w.alloc o).grownBy w' (Value.ownBlock (.slice A n c))) : Below w0.heap.size w0 w' :=
  (hb.alloc hb.size o).grown hg (by have := hb.size; simp; omega) (fun k hk => (how.1.lt k hk).1)

set_option maxHeartbeats 800000 in
theorem refAdd_c {A A' : Option Addr} {n c n' c' : Nat} {xs ys : List Nat} {a b L L' : Nat} {w : World} (hx : NN w A n c xs a L) (hy : NN w A' n' c' ys b L') (h1 : L ≤ 100000000) (h2 : L' ≤ 100000000) :
    Calls Try.prog 58 #[.slice A n c, .slice A' n' c'] w fun e w' => ∃ A2 n2 c2, e = .returned (.slice A2 n2 c2) ∧ NN w' A2 n2 c2 (limbs (a + b)) (a + b) (L + L' + 1) ∧ Below w.heap.size w w' := by
  have hle := hx.le
  have hle' := hy.le
  have hlx := hx.isN.len
  have hly := hy.isN.len
  have Hlx := Lib.hid hlx
  have Hly := Lib.hid hly
  clear hlx hly
  go_enter Try.func58, Try.ntmps58
  go_wp2
  go_loopw [7, 6, 5] (fun i cy v wr => ∃ (k cr : Nat) (zs : List Nat) (A2 : Option Addr) (c2 : Nat), k ≤ n + n' + 1 ∧ (n < k → n' < k → cr = 0) ∧ i = .int .i64 (k : Int) ∧ cy = .int .u64 (cr : Int) ∧ v = .slice A2 k c2 ∧ RAdd xs ys zs k cr ∧ OwnN wr w.heap.size A2 k c2 zs ∧ Below w.heap.size w wr) (fun i _ _ _ => n + n' + 2 - (intOf i).toNat)
  case atStart => exact ⟨0, 0, [], none, 0, by omega, fun h => by omega, rfl, rfl, rfl, RAdd.start _ _, OwnN.nil _ _, Below.refl _ _⟩
  case round =>
    obtain ⟨k, cr, zs, A2, c2, hk, hkc, rfl, rfl, rfl, hinv, how, bw⟩ := hrel
    have Hinv := Lib.hid hinv
    have hcr := hinv.2.2.2
    have Hkc := Lib.hid hkc
    clear hinv hkc
    have h_x := hx.below bw
    have h_y := hy.below bw
    by_cases hgo : k < n ∨ k < n' ∨ 0 < cr
    · have hk1 : k ≤ n + n' := by
        rcases hgo with h | h | h
        · omega
        · omega
        · have := Hkc.out; omega
      have b1 := lim_lt hx.isN.small k
      have b2 := lim_lt hy.isN.small k
      obtain ⟨sl, hsl⟩ : ∃ sl, sl = (lim xs k + lim ys k + cr) % 4294967296 := ⟨_, rfl⟩
      obtain ⟨sh, hsh⟩ : ∃ sh, sh = (lim xs k + lim ys k + cr) / 4294967296 := ⟨_, rfl⟩
      have es : ((cr : Int) + (((lim xs k : Nat) : Int) + ((lim ys k : Nat) : Int))) % 4294967296 = ((sl : Nat) : Int) := by omega
      have eh : ((cr : Int) + (((lim xs k : Nat) : Int) + ((lim ys k : Nat) : Int))) / 4294967296 = ((sh : Nat) : Int) := by omega
      have hsl2 : sl < 4294967296 := by omega
      have hkc2 : n < k + 1 → n' < k + 1 → sh = 0 := by
        intro p q
        rw [hsh, lim_of_ge (xs := xs) (by rw [Hlx.out]; omega), lim_of_ge (xs := ys) (by rw [Hly.out]; omega)]
        omega
      have Hkc2 := Lib.hid hkc2
      have Hst : RowKit.Hid (RAdd xs ys (zs ++ [sl]) (k + 1) sh) := by
        show RAdd _ _ _ _ _
        rw [hsl, hsh]; exact Hinv.out.step hx.isN.small hy.isN.small
      have Hown : RowKit.Hid ((wr.alloc (.cells #[Value.int IntKind.u32 (sl : Int)] 62)).ownsRow w.heap.size 62 1 (.slice A2 k c2) k (zs.map limV)) := (how.alloc _).row
      have Hlit : RowKit.Hid (NN (wr.alloc (.cells #[Value.int IntKind.u32 (sl : Int)] 62)) (some ⟨wr.heap.size, 0, none⟩) 1 1 [sl] (val [sl]) 1) := lit_c wr [sl] (by intro x hx; simp at hx; omega) 1 rfl
      have Hb : RowKit.Hid (k ≤ 1000000000 ∧ 1 ≤ 1000000000 ∧ w.heap.size ≤ (wr.alloc (.cells #[Value.int IntKind.u32 (sl : Int)] 62)).heap.size ∧ Small zs) := ⟨by omega, by omega, by have := bw.size; simp; omega, how.small⟩
      have How := Lib.hid how
      have Hbw := Lib.hid bw
      clear hkc2 hsl hsh hsl2 how bw
      rcases (show k < n ∨ (¬ k < n ∧ k < n') ∨ (¬ k < n ∧ ¬ k < n' ∧ 0 < cr) by omega) with h | ⟨h, h'⟩ | ⟨h, h', h''⟩
      all_goals
        clear hgo
        go_wp2_with fail
        refine (refAt_c h_x (by omega) k (by omega)).mono ?_
        rintro e w1 ⟨rfl, rfl⟩
        go_wp2_with fail
        refine (refAt_c h_y (by omega) k (by omega)).mono ?_
        rintro e w1 ⟨rfl, rfl⟩
        go_wp2_with (at_builtin; refine wpList_append_nat rfl _ _ rfl w.heap.size _ k zs rfl Hown (some ⟨wr.heap.size, 0, none⟩) 1 1 [sl] (val [sl]) 1 rfl Hlit Hb ?_)
        intro A3 c3 w3 how3 hg3
        have bw3 := below_grown Hbw.out How.out hg3.out
        have How3 := how3.out
        clear how3 hg3 Hown Hlit Hb How Hbw
        go_wp2
        go_roundw
        case rel => exact ⟨k + 1, sh, zs ++ [sl], A3, c3, by omega, Hkc2.out, by go_num, rfl, rfl, Hst.out, How3, bw3⟩
        case measure => simp [intOf]; omega
    · obtain rfl : cr = 0 := by omega
      have hv : val zs = a + b := by
        rw [Hinv.out.done (by rw [Hlx.out]; omega) (by rw [Hly.out]; omega), hx.val, hy.val]
      have hz : NN wr A2 k c2 zs (a + b) (L + L' + 1) := ⟨how.isN, hv, how.caps.1, by omega⟩
      have e1 : ¬ k < n := by omega
      have e2 : ¬ k < n' := by omega
      clear hgo hv how
      go_wp2_with fail
      refine (refTrim_c hz (by omega)).mono ?_
      rintro e w4 ⟨A4, n4, c4, rfl, h4, bn⟩
      go_wp2
      go_ret
      exact ⟨_, _, _, rfl, h4, below_two bw bn⟩

end Go.Proofs.Ytmifgblbicnimaa
