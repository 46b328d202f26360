/- Part 0 of the texts that the statements of this seat lean on: mathematics, and what functions answer, as contracts over memory; each part says its own conditions. -/
import Derived.Orders
import Derived.Below
/- Plain mathematics on lists of limbs of 32 bits: the number that a list tells, the shortest list of a number, and what sums and differences limb by limb come to. No condition. -/
namespace Go.Proofs.YtohokfbohdoijaaGreatDoor.Limb
def val : List Nat → Nat
 | [] => 0
 | x :: xs => x + 4294967296 * val xs
def Small (xs : List Nat) : Prop := ∀ x ∈ xs, x < 4294967296
def limbsTo : Nat → Nat → List Nat
 | 0, _ => []
 | f + 1, n => if n = 0 then [] else (n % 4294967296) :: limbsTo f (n / 4294967296)
def limbs (n : Nat) : List Nat := limbsTo n n
def trim : List Nat → List Nat
 | [] => []
 | x :: xs => if trim xs = [] ∧ x = 0 then [] else x :: trim xs
theorem limbsTo_zero (f : Nat) : limbsTo f 0 = [] := by cases f <;> simp [limbsTo]
theorem limbsTo_more (f : Nat) : ∀ g n, n ≤ f → n ≤ g → limbsTo f n = limbsTo g n := by
 induction f with
 | zero => intro g n h _; obtain rfl : n = 0 := by omega
           rw [limbsTo_zero, limbsTo_zero]
 | succ f ih =>
  intro g n hf hg
  cases g with
  | zero => obtain rfl : n = 0 := by omega
            rw [limbsTo_zero, limbsTo_zero]
  | succ g =>
   rw [limbsTo, limbsTo]
   by_cases h : n = 0
   · rw [if_pos h, if_pos h]
   · rw [if_neg h, if_neg h, ih g (n / 4294967296) (by omega) (by omega)]
theorem limbs_zero : limbs 0 = [] := rfl
theorem limbs_pos {n : Nat} (h : n ≠ 0) : limbs n = (n % 4294967296) :: limbs (n / 4294967296) := by
 cases n with
 | zero => exact absurd rfl h
 | succ m =>
  rw [limbs, limbsTo, if_neg h, limbs, limbsTo_more m ((m + 1) / 4294967296) ((m + 1) / 4294967296) (by omega) (Nat.le_refl _)]
theorem small_nil : Small [] := by intro x hx; cases hx
theorem small_cons {x : Nat} {xs : List Nat} : Small (x :: xs) ↔ x < 4294967296 ∧ Small xs := by simp [Small]
theorem small_append {xs ys : List Nat} : Small (xs ++ ys) ↔ Small xs ∧ Small ys := by
 simp only [Small, List.mem_append]
 exact ⟨fun h => ⟨fun x hx => h x (.inl hx), fun x hx => h x (.inr hx)⟩, fun h x hx => hx.elim (h.1 x) (h.2 x)⟩
theorem small_take {xs : List Nat} (h : Small xs) (k : Nat) : Small (xs.take k) := fun x hx => h x (List.mem_of_mem_take hx)
theorem small_drop {xs : List Nat} (h : Small xs) (k : Nat) : Small (xs.drop k) := fun x hx => h x (List.mem_of_mem_drop hx)
theorem small_getD {xs : List Nat} (h : Small xs) (k : Nat) : xs.getD k 0 < 4294967296 := by
 by_cases hk : k < xs.length
 · rw [List.getD_eq_getElem?_getD, List.getElem?_eq_getElem hk]; exact h _ (List.getElem_mem hk)
 · rw [List.getD_eq_getElem?_getD, List.getElem?_eq_none (by omega)]; exact (by decide : (0 : Nat) < 4294967296)
theorem small_set {xs : List Nat} (h : Small xs) (k v : Nat) (hv : v < 4294967296) : Small (xs.set k v) := fun x hx => (List.mem_or_eq_of_mem_set hx).elim (h x) (fun e => by omega)
def lim (xs : List Nat) (k : Nat) : Nat := xs.getD k 0
theorem lim_lt {xs : List Nat} (h : Small xs) (k : Nat) : lim xs k < 4294967296 := small_getD h k
theorem small_limbs (n : Nat) : Small (limbs n) := by
 induction n using Nat.strongRecOn with
 | ind n ih =>
  by_cases h : n = 0
  · subst h; rw [limbs_zero]; exact small_nil
  · rw [limbs_pos h, small_cons]; exact ⟨by omega, ih _ (by omega)⟩
theorem val_limbs (n : Nat) : val (limbs n) = n := by
 induction n using Nat.strongRecOn with
 | ind n ih =>
  by_cases h : n = 0
  · subst h; rw [limbs_zero]; rfl
  · rw [limbs_pos h, val, ih _ (by omega)]; omega
theorem val_nil_of_trim {xs : List Nat} (h : trim xs = []) : val xs = 0 := by
 induction xs with
 | nil => rfl
 | cons x xs ih =>
  rw [trim] at h
  split at h
  · rename_i hc; rw [val, ih hc.1, hc.2]
  · cases h
theorem trim_eq_limbs {xs : List Nat} (h : Small xs) : trim xs = limbs (val xs) := by
 induction xs with
 | nil => rw [val, limbs_zero]; rfl
 | cons x xs ih =>
  rw [small_cons] at h
  have ih := ih h.2
  rw [trim]
  split
  · rename_i hc; rw [val, val_nil_of_trim hc.1, hc.2]; simp [limbs_zero]
  · rename_i hc
    have hne : val (x :: xs) ≠ 0 := by
     intro h0
     rw [val] at h0
     apply hc
     have h1 : val xs = 0 := by omega
     exact ⟨by rw [ih, h1, limbs_zero], by omega⟩
    rw [limbs_pos hne, val]
    have e1 : (x + 4294967296 * val xs) % 4294967296 = x := by omega
    have e2 : (x + 4294967296 * val xs) / 4294967296 = val xs := by omega
    rw [e1, e2, ih]
theorem trim_len_le (xs : List Nat) : (trim xs).length ≤ xs.length := by
 induction xs with
 | nil => exact Nat.le_refl _
 | cons x xs ih => rw [trim]; split <;> simp <;> omega
theorem trim_take (ys : List Nat) : trim ys = ys.take (trim ys).length := by
 induction ys with
 | nil => rfl
 | cons y ys ih => rw [trim]; split <;> simp; exact ih
theorem limbs_inj {a b : Nat} (h : limbs a = limbs b) : a = b := by rw [← val_limbs a, ← val_limbs b, h]
theorem val_append (xs ys : List Nat) : val (xs ++ ys) = val xs + 4294967296 ^ xs.length * val ys := by
 induction xs with
 | nil => simp [val]
 | cons x xs ih => rw [List.cons_append, val, val, ih, List.length_cons, Nat.pow_succ, Nat.mul_add, Nat.add_assoc, Nat.mul_comm (4294967296 ^ xs.length) 4294967296, Nat.mul_assoc]
theorem val_lt {xs : List Nat} (h : Small xs) : val xs < 4294967296 ^ xs.length := by
 induction xs with
 | nil => simp [val]
 | cons x xs ih =>
  rw [small_cons] at h
  have := ih h.2
  rw [val, List.length_cons, Nat.pow_succ]
  have : val xs + 1 ≤ 4294967296 ^ xs.length := this
  omega
theorem val_take_succ {xs : List Nat} {k : Nat} (h : k < xs.length) : val (xs.take (k + 1)) = val (xs.take k) + 4294967296 ^ k * xs.getD k 0 := by
 rw [List.take_succ_eq_append_getElem h, val_append, List.length_take, Nat.min_eq_left (by omega)]
 simp [val, List.getD_eq_getElem?_getD, List.getElem?_eq_getElem h]
theorem val_split (xs : List Nat) (k : Nat) (h : k ≤ xs.length) : val xs = val (xs.take k) + 4294967296 ^ k * val (xs.drop k) := by
 have e := val_append (xs.take k) (xs.drop k)
 rw [List.take_append_drop, List.length_take, Nat.min_eq_left h] at e
 exact e
theorem take_set_lt {xs : List Nat} {j k v : Nat} (h : k ≤ j) : (xs.set j v).take k = xs.take k := by
 rw [List.take_set_of_le h]
theorem take_succ_set {xs : List Nat} {k v : Nat} (h : k < xs.length) : (xs.set k v).take (k + 1) = xs.take k ++ [v] := by
 rw [List.take_succ_eq_append_getElem (by simpa using h), List.getElem_set_self, take_set_lt (Nat.le_refl _)]
theorem drop_succ_set {xs : List Nat} {k v : Nat} : (xs.set k v).drop (k + 1) = xs.drop (k + 1) := List.drop_set_of_lt (by omega)
theorem val_take_set {xs : List Nat} {k v : Nat} (h : k < xs.length) : val ((xs.set k v).take (k + 1)) = val (xs.take k) + 4294967296 ^ k * v := by
 rw [take_succ_set h, val_append, List.length_take, Nat.min_eq_left (by omega)]
 simp [val]
theorem length_limbs_le {n k : Nat} (h : n < 4294967296 ^ k) : (limbs n).length ≤ k := by
 induction k generalizing n with
 | zero => have : n = 0 := by simpa using h
           subst this; simp [limbs_zero]
 | succ k ih =>
  by_cases h0 : n = 0
  · subst h0; simp [limbs_zero]
  · rw [limbs_pos h0, List.length_cons]
    have : n / 4294967296 < 4294967296 ^ k := by rw [Nat.div_lt_iff_lt_mul (by decide)]; rwa [Nat.pow_succ] at h
    have := ih this
    omega
theorem lt_length_limbs {n k : Nat} (h : 4294967296 ^ k ≤ n) : k < (limbs n).length := by
 have h1 := val_lt (small_limbs n)
 rw [val_limbs] at h1
 have h2 : 4294967296 ^ k < 4294967296 ^ (limbs n).length := Nat.lt_of_le_of_lt h h1
 exact (Nat.pow_lt_pow_iff_right (by decide)).1 h2
theorem eq_limbs {xs : List Nat} (h : Small xs) (hl : xs = [] ∨ 4294967296 ^ (xs.length - 1) ≤ val xs) : xs = limbs (val xs) := by
 rw [← trim_eq_limbs h]
 rcases hl with rfl | hl
 · rfl
 · have hlen : (trim xs).length ≤ xs.length := by
    clear h hl
    induction xs with
    | nil => exact Nat.le_refl _
    | cons x xs ih => rw [trim]; split <;> simp <;> omega
   have hpre : ∀ ys : List Nat, trim ys = ys.take (trim ys).length := by
    intro ys
    induction ys with
    | nil => rfl
    | cons y ys ih => rw [trim]; split <;> simp; exact ih
   have h2 := lt_length_limbs hl
   rw [← trim_eq_limbs h] at h2
   rw [hpre xs, List.take_of_length_le (by omega)]
theorem length_limbs_pred {n : Nat} (h : n ≠ 0) : 4294967296 ^ ((limbs n).length - 1) ≤ n := by
 refine Nat.le_of_not_lt fun hlt => ?_
 have h1 := length_limbs_le hlt
 have h2 : (limbs n).length ≠ 0 := by rw [limbs_pos h]; simp
 omega
theorem limbs_eq_nil {n : Nat} : limbs n = [] ↔ n = 0 := by
 constructor
 · intro h; rw [← val_limbs n, h]; rfl
 · rintro rfl; exact limbs_zero
theorem length_limbs_mono {a b : Nat} (h : a ≤ b) : (limbs a).length ≤ (limbs b).length := by
 refine length_limbs_le (Nat.lt_of_le_of_lt h ?_)
 have := val_lt (small_limbs b)
 rwa [val_limbs] at this
theorem trim_take_last {xs : List Nat} {k : Nat} (hk : k < xs.length) (h : xs.getD k 0 = 0) : trim (xs.take (k + 1)) = trim (xs.take k) := by
 induction xs generalizing k with
 | nil => simp at hk
 | cons x xs ih =>
  cases k with
  | zero => have : x = 0 := by simpa using h
            subst this; simp [trim]
  | succ k =>
   have := ih (k := k) (by simpa using hk) (by simpa using h)
   simp only [List.take_succ_cons, trim, this]
theorem trim_take_full {xs : List Nat} {k : Nat} (hk : k < xs.length) (h : xs.getD k 0 ≠ 0) : trim (xs.take (k + 1)) = xs.take (k + 1) := by
 induction xs generalizing k with
 | nil => simp at hk
 | cons x xs ih =>
  cases k with
  | zero => have : x ≠ 0 := by simpa using h
            simp [trim, this]
  | succ k =>
   have e := ih (k := k) (by simpa using hk) (by simpa using h)
   have hk' : k < xs.length := by simpa using hk
   have hne : xs.take (k + 1) ≠ [] := by
    intro h0
    have h1 := congrArg List.length h0
    rw [List.length_take, List.length_nil] at h1
    omega
   rw [List.take_succ_cons, trim, e, if_neg (fun hc => hne hc.1)]
theorem val_lt_of_lim {xs ys : List Nat} (hx : Small xs) (hl : xs.length = ys.length) {k : Nat} (hk : k < xs.length) (hlt : xs.getD k 0 < ys.getD k 0) (h : ∀ j, k < j → j < xs.length → xs.getD j 0 = ys.getD j 0) : val xs < val ys := by
 induction xs generalizing ys k with
 | nil => simp at hk
 | cons x xs ih =>
  cases ys with
  | nil => simp at hl
  | cons y ys =>
   rw [small_cons] at hx
   cases k with
   | zero =>
    have e : xs = ys := by
     refine List.ext_getElem (by simpa using hl) fun j h1 h2 => ?_
     have := h (j + 1) (by omega) (by simpa using h1)
     simpa [List.getElem?_eq_getElem h1, List.getElem?_eq_getElem h2] using this
    subst e
    simp only [val]
    have : x < y := by simpa using hlt
    omega
   | succ k =>
    have := ih (ys := ys) (k := k) hx.2 (by simpa using hl) (by simpa using hk) (by simpa using hlt) (fun j h1 h2 => by
     have := h (j + 1) (by omega) (by simpa using h2)
     simpa using this)
    simp only [val]
    have := hx.1
    omega
theorem add_step {S T z y c P : Nat} (h : S + c * P = T) :
 S + P * ((z + y + c) % 4294967296) + (z + y + c) / 4294967296 * (P * 4294967296) = T + P * z + P * y := by
 have e : (z + y + c) % 4294967296 + (z + y + c) / 4294967296 * 4294967296 = z + y + c := by omega
 have e2 : P * ((z + y + c) % 4294967296) + (z + y + c) / 4294967296 * (P * 4294967296) = P * (z + y + c) := by
  rw [← e, Nat.mul_add]
  simp only [Nat.add_mul_mod_self_right]
  have : ((z + y + c) % 4294967296 + (z + y + c) / 4294967296 * 4294967296) % 4294967296 = (z + y + c) % 4294967296 := by omega
  have h3 : ((z + y + c) % 4294967296 + (z + y + c) / 4294967296 * 4294967296) / 4294967296 = (z + y + c) / 4294967296 := by omega
  rw [h3, Nat.mod_mod]
  congr 1
  rw [Nat.mul_left_comm]
 rw [Nat.add_assoc, e2, ← h, Nat.mul_add, Nat.mul_add, Nat.mul_comm c P]
 omega
theorem lim_of_ge {xs : List Nat} {k : Nat} (h : xs.length ≤ k) : lim xs k = 0 := by
 simp [lim, List.getD_eq_getElem?_getD, List.getElem?_eq_none h]
theorem lim_set_self {xs : List Nat} {k v : Nat} (h : k < xs.length) : lim (xs.set k v) k = v := by
 simp [lim, List.getD_eq_getElem?_getD, h]
theorem lim_set_ne {xs : List Nat} {j k v : Nat} (h : k ≠ j) : lim (xs.set k v) j = lim xs j := by
 simp [lim, List.getD_eq_getElem?_getD, List.getElem?_set_ne h]
theorem val_take_lim (xs : List Nat) (k : Nat) : val (xs.take (k + 1)) = val (xs.take k) + 4294967296 ^ k * lim xs k := by
 by_cases h : k < xs.length
 · exact val_take_succ h
 · rw [lim_of_ge (by omega), List.take_of_length_le (by omega), List.take_of_length_le (by omega)]; simp
theorem drop_eq_of_lim {xs ys : List Nat} {k : Nat} (hl : xs.length = ys.length) (h : ∀ j, k ≤ j → lim xs j = lim ys j) : xs.drop k = ys.drop k := by
 refine List.ext_getElem (by simp [hl]) fun j h1 h2 => ?_
 have := h (k + j) (by omega)
 simp at h1 h2
 simpa [lim, List.getD_eq_getElem?_getD, List.getElem?_eq_getElem (show k + j < xs.length by omega), List.getElem?_eq_getElem (show k + j < ys.length by omega)] using this
def sumLo (x y c : Nat) : Nat := (x + y + c) % 4294967296
def sumHi (x y c : Nat) : Nat := (x + y + c) / 4294967296
theorem sumLo_lt (x y c : Nat) : sumLo x y c < 4294967296 := Nat.mod_lt _ (by decide)
theorem sumHi_le {x y c : Nat} (hx : x < 4294967296) (hy : y < 4294967296) (hc : c ≤ 1) : sumHi x y c ≤ 1 := by unfold sumHi; omega
def AddInv (long short zs : List Nat) (k cr : Nat) : Prop :=
 zs.length = long.length ∧ val (zs.take k) + cr * 4294967296 ^ k = val (long.take k) + val (short.take k) ∧ (∀ j, k ≤ j → lim zs j = lim long j) ∧ cr ≤ 1
theorem AddInv.start (long short : List Nat) : AddInv long short long 0 0 := ⟨rfl, by simp [val], fun _ _ => rfl, by omega⟩
theorem AddInv.step {long short zs : List Nat} {k cr : Nat} (h : AddInv long short zs k cr) (hl : Small long) (hs : Small short) (hk : k < long.length) :
 AddInv long short (zs.set k (sumLo (lim zs k) (lim short k) cr)) (k + 1) (sumHi (lim zs k) (lim short k) cr) := by
 obtain ⟨h1, h2, h3, h4⟩ := h
 refine ⟨by simpa using h1, ?_, fun j hj => by rw [lim_set_ne (by omega)]; exact h3 j (by omega), ?_⟩
 · rw [val_take_set (by omega), val_take_lim long, val_take_lim short, ← h3 k (Nat.le_refl _), Nat.pow_succ]
   have := add_step (z := lim zs k) (y := lim short k) (c := cr) (P := 4294967296 ^ k) h2
   unfold sumLo sumHi
   rw [this]
   omega
 · rw [h3 k (Nat.le_refl _)]
   exact sumHi_le (lim_lt hl k) (lim_lt hs k) h4
theorem AddInv.done {long short zs : List Nat} {k cr : Nat} (h : AddInv long short zs k cr) (hs : short.length ≤ k) (hk : k ≤ long.length) (he : k = long.length ∨ cr = 0) :
 val zs + cr * 4294967296 ^ long.length = val long + val short := by
 obtain ⟨h1, h2, h3, h4⟩ := h
 rw [List.take_of_length_le (l := short) hs] at h2
 rcases he with rfl | rfl
 · rwa [List.take_of_length_le (by omega), List.take_of_length_le (by omega)] at h2
 · rw [val_split zs k (by omega), val_split long k hk, drop_eq_of_lim h1 h3]
   omega
def diffLo (x y c : Nat) : Nat := (x + 4294967296 - (y + c)) % 4294967296
def diffHi (x y c : Nat) : Nat := if x < y + c then 1 else 0
theorem diffLo_lt (x y c : Nat) : diffLo x y c < 4294967296 := Nat.mod_lt _ (by decide)
theorem diff_parts {x y c : Nat} (hx : x < 4294967296) (hy : y < 4294967296) (hc : c ≤ 1) : diffLo x y c + y + c = x + diffHi x y c * 4294967296 := by
 unfold diffLo diffHi
 split <;> omega
theorem diffHi_le (x y c : Nat) : diffHi x y c ≤ 1 := by unfold diffHi; split <;> omega
def SubInv (long short zs : List Nat) (k br : Nat) : Prop :=
 zs.length = long.length ∧ val (zs.take k) + val (short.take k) = val (long.take k) + br * 4294967296 ^ k ∧ (∀ j, k ≤ j → lim zs j = lim long j) ∧ br ≤ 1
theorem SubInv.start (long short : List Nat) : SubInv long short long 0 0 := ⟨rfl, by simp [val], fun _ _ => rfl, by omega⟩
theorem SubInv.step {long short zs : List Nat} {k br : Nat} (h : SubInv long short zs k br) (hl : Small long) (hs : Small short) (hk : k < long.length) :
 SubInv long short (zs.set k (diffLo (lim zs k) (lim short k) br)) (k + 1) (diffHi (lim zs k) (lim short k) br) := by
 obtain ⟨h1, h2, h3, h4⟩ := h
 refine ⟨by simpa using h1, ?_, fun j hj => by rw [lim_set_ne (by omega)]; exact h3 j (by omega), diffHi_le _ _ _⟩
 rw [val_take_set (by omega), val_take_lim long, val_take_lim short, ← h3 k (Nat.le_refl _), Nat.pow_succ]
 have e := diff_parts (x := lim zs k) (y := lim short k) (c := br) (by rw [h3 k (Nat.le_refl _)]; exact lim_lt hl k) (lim_lt hs k) h4
 generalize diffLo (lim zs k) (lim short k) br = lo at *
 generalize diffHi (lim zs k) (lim short k) br = hi at *
 generalize lim zs k = x at *
 generalize lim short k = y at *
 generalize 4294967296 ^ k = P at *
 have e2 : P * lo + P * y + br * P = P * x + hi * (P * 4294967296) := by
  have := congrArg (P * ·) e
  simp only [Nat.mul_add] at this
  rw [Nat.mul_comm br P, this, Nat.mul_left_comm hi P]
 omega
theorem SubInv.room {long short zs : List Nat} {k br : Nat} (h : SubInv long short zs k br) (hz : Small zs) (hs : short.length ≤ k) (hk : k ≤ long.length) (hle : val short ≤ val long) (hb : br ≠ 0) : k < long.length := by
 refine Nat.lt_of_le_of_ne hk fun e => ?_
 obtain ⟨h1, h2, h3, h4⟩ := h
 rw [List.take_of_length_le (l := short) hs, List.take_of_length_le (l := zs) (by omega), List.take_of_length_le (l := long) (by omega)] at h2
 have := val_lt hz
 rw [h1, ← e] at this
 have : br = 1 := by omega
 subst this
 omega
theorem SubInv.done {long short zs : List Nat} {k : Nat} (h : SubInv long short zs k 0) (hs : short.length ≤ k) (hk : k ≤ long.length) : val zs = val long - val short := by
 obtain ⟨h1, h2, h3, h4⟩ := h
 rw [List.take_of_length_le (l := short) hs] at h2
 rw [val_split zs k (by omega), val_split long k hk, drop_eq_of_lim h1 h3]
 omega
theorem top_bit {a : Nat} (h : a < 4294967296) : a.testBit 31 = decide (2147483648 ≤ a) := by
 rw [Nat.testBit_eq_decide_div_mod_eq]
 by_cases h1 : 2147483648 ≤ a
 · have : a / 2 ^ 31 % 2 = 1 := by omega
   simp [this, h1]
 · have : a / 2 ^ 31 % 2 = 0 := by omega
   simp [this, h1]
theorem top_num {a : Nat} (h : a < 4294967296) : a / 2147483648 = (a.testBit 31).toNat := by
 rw [top_bit h]
 by_cases h1 : 2147483648 ≤ a
 · have : a / 2147483648 = 1 := by omega
   simp [this, h1]
 · have : a / 2147483648 = 0 := by omega
   simp [this, h1]
theorem lt_and {a b : Nat} (h : b < 4294967296) : a &&& b < 4294967296 := Nat.lt_of_le_of_lt Nat.and_le_right h
theorem lt_or {a b : Nat} (ha : a < 4294967296) (hb : b < 4294967296) : a ||| b < 4294967296 := Nat.or_lt_two_pow (n := 32) ha hb
theorem lt_xor {a b : Nat} (ha : a < 4294967296) (hb : b < 4294967296) : a ^^^ b < 4294967296 := Nat.xor_lt_two_pow (n := 32) ha hb
theorem borrow_bits (x y d : Nat) (hx : x < 4294967296) (hy : y < 4294967296) (hd : d < 4294967296) :
 (((4294967295 ^^^ x) &&& y) ||| ((4294967295 ^^^ (x ^^^ y)) &&& d)) / 2147483648 =
   ((!(decide (2147483648 ≤ x)) && decide (2147483648 ≤ y)) || ((decide (2147483648 ≤ x) == decide (2147483648 ≤ y)) && decide (2147483648 ≤ d))).toNat := by
 have h1 : (4294967295 : Nat) < 4294967296 := by decide
 rw [top_num (lt_or (lt_and hy) (lt_and hd))]
 congr 1
 simp only [Nat.testBit_or, Nat.testBit_and, Nat.testBit_xor, top_bit hx, top_bit hy, top_bit hd, top_bit h1]
 generalize decide (2147483648 ≤ x) = p
 generalize decide (2147483648 ≤ y) = q
 generalize decide (2147483648 ≤ d) = r
 revert p q r
 decide
end Go.Proofs.YtohokfbohdoijaaGreatDoor.Limb

/- Plain mathematics on bits: how many a number has, and each bit of the number that limbs tell. No condition. -/
namespace Go.Proofs.YtohokfbohdoijaaGreatDoor.Limb
def blenTo : Nat → Nat → Nat
 | 0, _ => 0
 | f + 1, n => if n = 0 then 0 else 1 + blenTo f (n / 2)
def blen (n : Nat) : Nat := blenTo n n
theorem blenTo_zero (f : Nat) : blenTo f 0 = 0 := by cases f <;> simp [blenTo]
theorem blenTo_more (f : Nat) : ∀ g n, n ≤ f → n ≤ g → blenTo f n = blenTo g n := by
 induction f with
 | zero => intro g n h _; obtain rfl : n = 0 := by omega
           rw [blenTo_zero, blenTo_zero]
 | succ f ih =>
  intro g n hf hg
  cases g with
  | zero => obtain rfl : n = 0 := by omega
            rw [blenTo_zero, blenTo_zero]
  | succ g =>
   rw [blenTo, blenTo]
   by_cases h : n = 0
   · rw [if_pos h, if_pos h]
   · rw [if_neg h, if_neg h, ih g (n / 2) (by omega) (by omega)]
theorem blen_zero : blen 0 = 0 := rfl
theorem blen_pos {n : Nat} (h : n ≠ 0) : blen n = 1 + blen (n / 2) := by
 cases n with
 | zero => exact absurd rfl h
 | succ m =>
  rw [blen, blenTo, if_neg h, blen, blenTo_more m ((m + 1) / 2) ((m + 1) / 2) (by omega) (Nat.le_refl _)]
theorem blen_eq {n k : Nat} (h1 : 2 ^ k ≤ n) (h2 : n < 2 ^ (k + 1)) : blen n = k + 1 := by
 induction k generalizing n with
 | zero =>
  have : n = 1 := by simp at h1 h2; omega
  subst this
  rw [blen_pos (by omega), show 1 / 2 = 0 from rfl, blen_zero]
 | succ k ih =>
  rw [Nat.pow_succ] at h1 h2
  rw [Nat.pow_succ] at h2
  have : n ≠ 0 := by have := Nat.two_pow_pos k; omega
  rw [blen_pos this, ih (by omega) (by rw [Nat.pow_succ]; omega)]
  omega
theorem blen_spec {n : Nat} (h : n ≠ 0) : 2 ^ (blen n - 1) ≤ n ∧ n < 2 ^ blen n ∧ blen n ≠ 0 := by
 induction n using Nat.strongRecOn with
 | ind n ih =>
  rw [blen_pos h]
  by_cases h2 : n / 2 = 0
  · have : n = 1 := by omega
    subst this
    rw [h2, blen_zero]; simp
  · obtain ⟨a, b, c⟩ := ih (n / 2) (by omega) h2
    refine ⟨?_, ?_, by omega⟩
    · rw [show 1 + blen (n / 2) - 1 = (blen (n / 2) - 1) + 1 by omega, Nat.pow_succ]; omega
    · rw [Nat.add_comm, Nat.pow_succ]; omega
theorem blen_lt (n : Nat) : n < 2 ^ blen n := by
 by_cases h : n = 0
 · subst h; rw [blen_zero]; simp
 · exact (blen_spec h).2.1
theorem blen_eq_zero {n : Nat} : blen n = 0 ↔ n = 0 := by
 constructor
 · intro h; exact Classical.byContradiction fun h0 => (blen_spec h0).2.2 h
 · rintro rfl; exact blen_zero
theorem blen_le {n k : Nat} (h : n < 2 ^ k) : blen n ≤ k := by
 by_cases h0 : n = 0
 · subst h0; rw [blen_zero]; exact Nat.zero_le _
 · have := Nat.lt_of_le_of_lt (blen_spec h0).1 h
   have := (Nat.pow_lt_pow_iff_right (show 1 < 2 by decide)).1 this
   omega
theorem blen_top {n : Nat} (h : n ≠ 0) : n.testBit (blen n - 1) = true := by
 obtain ⟨h1, h2, h3⟩ := blen_spec h
 rw [Nat.testBit_eq_decide_div_mod_eq, decide_eq_true_eq]
 have e : 2 ^ blen n = 2 ^ (blen n - 1) * 2 := by rw [← Nat.pow_succ]; congr 1; omega
 have : n / 2 ^ (blen n - 1) = 1 := by
  rw [Nat.div_eq_iff (Nat.two_pow_pos _)]
  omega
 rw [this]
theorem pow32 (k : Nat) : 4294967296 ^ k = 2 ^ (32 * k) := by rw [Nat.pow_mul]
theorem blen_limbs {xs : List Nat} {k : Nat} (hk : xs.length = k + 1) (h0 : lim xs k ≠ 0) (hs : Small xs) : blen (val xs) = 32 * k + blen (lim xs k) := by
 have e : val xs = val (xs.take k) + 4294967296 ^ k * lim xs k := by
  rw [← val_take_lim, List.take_of_length_le (by omega)]
 have h1 := val_lt (small_take hs k)
 rw [List.length_take, Nat.min_eq_left (by omega)] at h1
 obtain ⟨a, b, c⟩ := blen_spec h0
 rw [e]
 rw [pow32] at h1 ⊢
 have h2 : 32 * k + blen (lim xs k) = (32 * k + (blen (lim xs k) - 1)) + 1 := by omega
 rw [h2]
 refine blen_eq ?_ ?_
 · rw [Nat.pow_add]
   exact Nat.le_trans (Nat.mul_le_mul_left _ a) (Nat.le_add_left _ _)
 · rw [← h2, Nat.pow_add]
   have : 2 ^ (32 * k) * (lim xs k + 1) ≤ 2 ^ (32 * k) * 2 ^ blen (lim xs k) := Nat.mul_le_mul_left _ b
   rw [Nat.mul_add] at this
   omega
theorem lim_eq_div (xs : List Nat) (hs : Small xs) (k : Nat) : val xs / 4294967296 ^ k % 4294967296 = lim xs k := by
 induction xs generalizing k with
 | nil => simp [val, lim]
 | cons x xs ih =>
  rw [small_cons] at hs
  cases k with
  | zero => simp [val, lim]; omega
  | succ k =>
   have := ih hs.2 k
   rw [val, Nat.pow_succ, Nat.mul_comm (4294967296 ^ k), ← Nat.div_div_eq_div_mul]
   have e : (x + 4294967296 * val xs) / 4294967296 = val xs := by omega
   rw [e, this]
   simp [lim]
theorem testBit_lim (xs : List Nat) (hs : Small xs) (i : Nat) : (val xs).testBit i = (lim xs (i / 32)).testBit (i % 32) := by
 have h := lim_eq_div xs hs (i / 32)
 rw [← h, pow32, show (4294967296 : Nat) = 2 ^ 32 from rfl, Nat.testBit_mod_two_pow, Nat.testBit_div_two_pow]
 have h1 : i % 32 < 32 := Nat.mod_lt _ (by decide)
 simp only [h1, decide_true, Bool.true_and]
 congr 1
 omega
end Go.Proofs.YtohokfbohdoijaaGreatDoor.Limb

/- Plain mathematics of long division limb by limb: by one limb, the guess of a quotient's limb, what is taken away and paid back. No condition. -/
namespace Go.Proofs.YtohokfbohdoijaaGreatDoor.Limb
theorem val_drop_lim {xs : List Nat} {k : Nat} (h : k < xs.length) : val (xs.drop k) = lim xs k + 4294967296 * val (xs.drop (k + 1)) := by
 rw [List.drop_eq_getElem_cons h, val, lim, List.getD_eq_getElem?_getD, List.getElem?_eq_getElem h]; rfl
theorem val_drop_end {xs : List Nat} {k : Nat} (h : xs.length ≤ k) : val (xs.drop k) = 0 := by
 rw [List.drop_eq_nil_of_le h]; rfl
def OneInv (xs zs : List Nat) (v k r : Nat) : Prop :=
 zs.length = xs.length ∧ (∀ j, j < k → lim zs j = lim xs j) ∧ val (zs.drop k) * v + r = val (xs.drop k) ∧ r < v
theorem OneInv.start (xs : List Nat) {v : Nat} (hv : v ≠ 0) : OneInv xs xs v xs.length 0 := ⟨rfl, fun _ _ => rfl, by rw [val_drop_end (Nat.le_refl _)]; omega, by omega⟩
theorem one_digit {r x v : Nat} (hr : r < v) (hx : x < 4294967296) : (r * 4294967296 + x) / v < 4294967296 := by
 rw [Nat.div_lt_iff_lt_mul (by omega)]
 have : (r + 1) * 4294967296 ≤ v * 4294967296 := Nat.mul_le_mul_right _ hr
 omega
theorem OneInv.step {xs zs : List Nat} {v k r : Nat} (h : OneInv xs zs v (k + 1) r) (hk : k < xs.length) :
 OneInv xs (zs.set k ((r * 4294967296 + lim zs k) / v)) v k ((r * 4294967296 + lim zs k) % v) := by
 obtain ⟨h1, h2, h3, h4⟩ := h
 have hx := h2 k (by omega)
 refine ⟨by simpa using h1, fun j hj => by rw [lim_set_ne (by omega)]; exact h2 j (by omega), ?_, Nat.mod_lt _ (by omega)⟩
 rw [val_drop_lim (xs := zs.set k _) (by simp; omega), lim_set_self (by omega), drop_succ_set, val_drop_lim hk, ← h3, hx]
 have hd := Nat.div_add_mod (r * 4294967296 + lim xs k) v
 generalize (r * 4294967296 + lim xs k) / v = q at *
 generalize (r * 4294967296 + lim xs k) % v = m at *
 generalize val (zs.drop (k + 1)) = z at *
 have e1 : (q + 4294967296 * z) * v = v * q + 4294967296 * (z * v) := by rw [Nat.add_mul, Nat.mul_comm q v, Nat.mul_assoc]
 rw [e1]
 omega
theorem OneInv.done {xs zs : List Nat} {v r : Nat} (h : OneInv xs zs v 0 r) : val zs = val xs / v ∧ r = val xs % v := by
 obtain ⟨_, _, h3, h4⟩ := h
 simp only [List.drop_zero] at h3
 have hv : 0 < v := by omega
 have e : val xs = r + v * val zs := by rw [← h3, Nat.mul_comm]; omega
 constructor
 · rw [e, Nat.add_mul_div_left _ _ hv, Nat.div_eq_of_lt h4]; omega
 · rw [e, Nat.add_mul_mod_self_left, Nat.mod_eq_of_lt h4]
def LessInv (rs bs zs : List Nat) (v k cr br : Nat) : Prop :=
 zs.length = rs.length ∧ val (zs.take k) + v * val (bs.take k) = val (rs.take k) + (cr + br) * 4294967296 ^ k ∧ (∀ j, k ≤ j → lim zs j = lim rs j) ∧ cr < 4294967296 ∧ br ≤ 1
theorem LessInv.start (rs bs : List Nat) (v : Nat) : LessInv rs bs rs v 0 0 0 := ⟨rfl, by simp [val], fun _ _ => rfl, by omega, by omega⟩
theorem less_step {P x d b v cr br lo cr2 br2 Z S T : Nat} (h : Z + v * S = T + (cr + br) * P) (hp : cr + b * v = lo + cr2 * 4294967296) (hd : d + lo + br = x + br2 * 4294967296) :
 (Z + P * d) + v * (S + P * b) = (T + P * x) + (cr2 + br2) * (P * 4294967296) := by grind
theorem LessInv.step {rs bs zs : List Nat} {v k cr br lo cr2 : Nat} (h : LessInv rs bs zs v k cr br) (hr : Small rs) (hk : k < rs.length) (hb : Small bs) (hv : v < 4294967296)
 (hlo : lo < 4294967296) (hp : cr + lim bs k * v = lo + cr2 * 4294967296) :
 LessInv rs bs (zs.set k (diffLo (lim zs k) lo br)) v (k + 1) cr2 (diffHi (lim zs k) lo br) := by
 obtain ⟨h1, h2, h3, h4, h5⟩ := h
 have hx := h3 k (Nat.le_refl _)
 refine ⟨by simpa using h1, ?_, fun j hj => by rw [lim_set_ne (by omega)]; exact h3 j (by omega), ?_, diffHi_le _ _ _⟩
 · have hd := diff_parts (x := lim zs k) (y := lo) (c := br) (by rw [hx]; exact lim_lt hr k) hlo h5
   rw [val_take_set (by omega), val_take_lim bs, val_take_lim rs, Nat.pow_succ, ← hx]
   exact less_step h2 hp hd
 · have h6 : lim bs k * v ≤ 4294967295 * 4294967295 := Nat.mul_le_mul (by have := lim_lt hb k; omega) (by omega)
   omega
theorem less_top {Z V R T P l t : Nat} (h : Z + V = T + t * P) (hz : Z < P) (hR : R = T + P * l) : R < V ↔ l < t := by
 constructor
 · intro h1
   rcases Nat.lt_or_ge l t with h2 | h2
   · exact h2
   · exfalso
     have : t * P ≤ l * P := Nat.mul_le_mul_right _ h2
     have e : P * l = l * P := Nat.mul_comm _ _
     omega
 · intro h1
   have : (l + 1) * P ≤ t * P := Nat.mul_le_mul_right _ h1
   have e : P * l = l * P := Nat.mul_comm _ _
   rw [Nat.add_mul] at this
   omega
theorem less_fits {Z V R T P l t r : Nat} (h : Z + V = T + t * P) (hz : Z < P) (hR : R = T + P * l) (hr : R = V + r) (hrP : r < P) : Z = r := by
 have h1 : t = l := by
  rcases Nat.lt_trichotomy t l with h2 | h2 | h2
  · exfalso
    have : (t + 1) * P ≤ l * P := Nat.mul_le_mul_right _ h2
    have e : P * l = l * P := Nat.mul_comm _ _
    rw [Nat.add_mul] at this
    omega
  · exact h2
  · exfalso
    have : (l + 1) * P ≤ t * P := Nat.mul_le_mul_right _ h2
    have e : P * l = l * P := Nat.mul_comm _ _
    rw [Nat.add_mul] at this
    omega
 subst h1
 have e : P * t = t * P := Nat.mul_comm _ _
 omega
theorem less_back {Z V R T P l t r b Y c : Nat} (h : Z + (V + b) = T + t * P) (hR : R = T + P * l) (hr : R = V + r) (hrP : r < P) (hY : Y + c * P = Z + b) (hyP : Y < P) : Y = r := by
 have e : Y + (c * P + P * l) = r + t * P := by omega
 have h1 : (Y + P * (c + l)) % P = (r + P * t) % P := by
  rw [show Y + P * (c + l) = Y + (c * P + P * l) by rw [Nat.mul_add, Nat.mul_comm P c], e, Nat.mul_comm P t]
 rwa [Nat.add_mul_mod_self_left, Nat.add_mul_mod_self_left, Nat.mod_eq_of_lt hyP, Nat.mod_eq_of_lt hrP] at h1
def guessO (top high : Nat) : Nat := min (top / high) 4294967295
def guessT (top high next r2 : Nat) : Bool := decide (top - guessO top high * high ≤ 4294967295) && decide ((top - guessO top high * high) * 4294967296 + r2 < guessO top high * next)
def guessV (top high next r2 : Nat) : Nat := if guessT top high next r2 then guessO top high - 1 else guessO top high
theorem guessO_le (top high : Nat) : guessO top high ≤ 4294967295 := Nat.min_le_right _ _
theorem guessO_mul (top high : Nat) : guessO top high * high ≤ top :=
 Nat.le_trans (Nat.mul_le_mul_right _ (Nat.min_le_left _ _)) (Nat.div_mul_le_self _ _)
theorem guess_low {top high P R b q : Nat} (hb1 : high * P ≤ b) (hR : R < (top + 1) * P) (hq : q * b ≤ R) (hh : 0 < high) (hqB : q ≤ 4294967295) : q ≤ guessO top high := by
 have h1 : q * (high * P) ≤ q * b := Nat.mul_le_mul_left _ hb1
 have h2 : (q * high) * P < (top + 1) * P := by rw [Nat.mul_assoc]; omega
 have h3 : q * high < top + 1 := Nat.lt_of_mul_lt_mul_right h2
 exact Nat.le_min.2 ⟨(Nat.le_div_iff_mul_le hh).2 (by omega), hqB⟩
theorem guess_high {top high P R b q : Nat} (hb2 : b < (high + 1) * P) (hR : top * P ≤ R) (hq : R < (q + 1) * b) (hh : 2147483648 ≤ high) (hqB : q ≤ 4294967295) : guessO top high ≤ q + 2 := by
 rcases Nat.lt_or_ge (q + 2) (guessO top high) with h | h
 · exfalso
   have h1 := guessO_mul top high
   have h2 : (q + 3) * high ≤ guessO top high * high := Nat.mul_le_mul_right _ h
   have h3 : (q + 1) * b ≤ (q + 1) * ((high + 1) * P) := Nat.mul_le_mul_left _ (by omega)
   have h4 : (q + 3) * high * P ≤ top * P := Nat.mul_le_mul_right _ (by omega)
   have h5 : (q + 3) * high * P < (q + 1) * (high + 1) * P := by rw [Nat.mul_assoc (q + 1)]; omega
   have h6 : (q + 3) * high < (q + 1) * (high + 1) := Nat.lt_of_mul_lt_mul_right h5
   have h7 : q ≤ 4294967295 := hqB
   grind
 · exact h
theorem guess_over {top high next r2 P R b q : Nat} (hb1 : (high * 4294967296 + next) * P ≤ b) (hR : R < (top * 4294967296 + r2 + 1) * P) (hq : q * b ≤ R) (ht : guessT top high next r2 = true) : q < guessO top high := by
 unfold guessT at ht
 rw [Bool.and_eq_true, decide_eq_true_eq, decide_eq_true_eq] at ht
 have h0 := guessO_mul top high
 generalize guessO top high = o at *
 rcases Nat.lt_or_ge q o with h | h
 · exact h
 · exfalso
   have h1 : o * ((high * 4294967296 + next) * P) ≤ q * b := Nat.mul_le_mul h hb1
   have h2 : o * (high * 4294967296 + next) * P < (top * 4294967296 + r2 + 1) * P := by rw [Nat.mul_assoc]; omega
   have h3 := Nat.lt_of_mul_lt_mul_right h2
   have e : o * (high * 4294967296 + next) = (o * high) * 4294967296 + o * next := by rw [Nat.mul_add, Nat.mul_assoc]
   obtain ⟨d, hd⟩ : ∃ d, top = o * high + d := ⟨top - o * high, by omega⟩
   generalize o * high = oh at *
   subst hd
   omega
theorem bears_plain {p hv : Nat} (h5 : (p + 1) * hv < p * (hv + 1)) (h : p ≤ hv) : False := by
 rw [Nat.add_mul, Nat.one_mul, Nat.mul_add, Nat.mul_one] at h5
 omega
theorem guess_bears {top high next r2 P R b q : Nat} (hb2 : b < (high * 4294967296 + next + 1) * P) (hR : (top * 4294967296 + r2) * P ≤ R) (hq : R < (q + 1) * b) (hh : 2147483648 ≤ high) (ht : guessT top high next r2 = false) (hn : next < 4294967296) : guessO top high ≤ q + 1 := by
 have h0 := guessO_mul top high
 have ho := guessO_le top high
 rcases Nat.lt_or_ge (q + 1) (guessO top high) with h | h
 · exfalso
   have hoq : guessO top high * next ≤ 4294967295 * 4294967295 := Nat.mul_le_mul ho (by omega)
   have hT : guessO top high * (high * 4294967296 + next) ≤ top * 4294967296 + r2 := by
    rw [Nat.mul_add, ← Nat.mul_assoc]
    unfold guessT at ht
    rw [Bool.and_eq_false_iff, decide_eq_false_iff_not, decide_eq_false_iff_not] at ht
    obtain ⟨d, hd⟩ : ∃ d, top = guessO top high * high + d := ⟨top - guessO top high * high, by omega⟩
    generalize guessO top high * high = oh at *
    generalize guessO top high * next = on at *
    rcases ht with ht | ht <;> omega
   generalize guessO top high = o at *
   obtain ⟨p, rfl⟩ : ∃ p, o = p + 1 := ⟨o - 1, by omega⟩
   have h1 : (q + 1) * b ≤ p * b := Nat.mul_le_mul_right _ (by omega)
   have h2 : p * b ≤ p * ((high * 4294967296 + next + 1) * P) := Nat.mul_le_mul_left _ (by omega)
   have h3 : (p + 1) * (high * 4294967296 + next) * P ≤ (top * 4294967296 + r2) * P := Nat.mul_le_mul_right _ hT
   have h4 : (p + 1) * (high * 4294967296 + next) * P < p * (high * 4294967296 + next + 1) * P := by rw [Nat.mul_assoc p]; omega
   have h5 := Nat.lt_of_mul_lt_mul_right h4
   exact bears_plain h5 (by omega)
 · exact h
theorem guess_ok_num {bl next high rl r2 top P q b R G : Nat} (hb : b = bl + P * next + P * 4294967296 * high) (hbl : bl < P) (hn : next < 4294967296) (hR : R = rl + P * r2 + P * 4294967296 * top) (hrl : rl < P) (hr2 : r2 < 4294967296)
 (hh : 2147483648 ≤ high) (hq1 : q * b ≤ R) (hq2 : R < (q + 1) * b) (hqB : q ≤ 4294967295) (hG : guessV top high next r2 = G) : q ≤ G ∧ G ≤ q + 1 ∧ G ≤ 4294967295 := by
 have p1 : P * (next + 1) ≤ P * 4294967296 := Nat.mul_le_mul_left _ hn
 have p2 : P * (r2 + 1) ≤ P * 4294967296 := Nat.mul_le_mul_left _ hr2
 have e1 : high * (P * 4294967296) = P * 4294967296 * high := Nat.mul_comm _ _
 have e2 : top * (P * 4294967296) = P * 4294967296 * top := Nat.mul_comm _ _
 have e3 : (high * 4294967296 + next) * P = P * 4294967296 * high + P * next := by grind
 have e4 : (top * 4294967296 + r2) * P = P * 4294967296 * top + P * r2 := by grind
 rw [Nat.mul_add, Nat.mul_one] at p1 p2
 have c1 : q ≤ guessO top high := guess_low (P := P * 4294967296) (b := b) (R := R) (by omega) (by rw [Nat.add_mul, Nat.one_mul]; omega) hq1 (by omega) hqB
 have c2 : guessO top high ≤ q + 2 := guess_high (P := P * 4294967296) (b := b) (R := R) (by rw [Nat.add_mul, Nat.one_mul]; omega) (by omega) hq2 hh hqB
 have c3 := guessO_le top high
 cases ht : guessT top high next r2 with
 | true =>
  have c4 := guess_over (P := P) (b := b) (R := R) (by omega) (by rw [Nat.add_mul, Nat.one_mul]; omega) hq1 ht
  unfold guessV at hG
  rw [ht] at hG
  simp only [if_true] at hG
  omega
 | false =>
  have c4 := guess_bears (P := P) (b := b) (R := R) (by rw [Nat.add_mul, Nat.one_mul]; omega) (by omega) hq2 hh ht hn
  unfold guessV at hG
  rw [ht] at hG
  simp only [Bool.false_eq_true, if_false] at hG
  omega
theorem guess_ok {rs bs : List Nat} {m G : Nat} (hr : Small rs) (hb : Small bs) (hm : 2 ≤ m) (hrl : rs.length = m + 1) (hbl : bs.length = m) (hh : 2147483648 ≤ lim bs (m - 1)) (hlt : val rs < val bs * 4294967296)
 (hG : guessV (lim rs m * 4294967296 + lim rs (m - 1)) (lim bs (m - 1)) (lim bs (m - 2)) (lim rs (m - 2)) = G) : val rs / val bs ≤ G ∧ G ≤ val rs / val bs + 1 ∧ G ≤ 4294967295 := by
 obtain ⟨k, rfl⟩ : ∃ k, m = k + 2 := ⟨m - 2, by omega⟩
 have e1 : val bs = val (bs.take k) + 4294967296 ^ k * lim bs k + 4294967296 ^ k * 4294967296 * lim bs (k + 1) := by
  have h := val_take_lim bs (k + 1)
  rwa [val_take_lim bs k, List.take_of_length_le (by omega), Nat.pow_succ] at h
 have e2 : val rs = val (rs.take k) + 4294967296 ^ k * lim rs k + 4294967296 ^ k * 4294967296 * (lim rs (k + 2) * 4294967296 + lim rs (k + 1)) := by
  have h := val_take_lim rs (k + 2)
  rw [val_take_lim rs (k + 1), val_take_lim rs k, List.take_of_length_le (by omega), Nat.pow_succ, Nat.pow_succ] at h
  rw [h, Nat.mul_add, Nat.mul_comm (lim rs (k + 2)), Nat.mul_assoc _ 4294967296 (_ * _)]
  rw [Nat.mul_assoc _ 4294967296 (lim rs (k + 2))]
  grind
 have t1 := val_lt (small_take hb k)
 have t2 := val_lt (small_take hr k)
 rw [List.length_take, Nat.min_eq_left (by omega)] at t1 t2
 have hb0 : 0 < val bs := by
  rcases Nat.eq_zero_or_pos (val bs) with h | h
  · rw [h] at hlt; omega
  · exact h
 have q1 : val rs / val bs * val bs ≤ val rs := Nat.div_mul_le_self _ _
 have q2 : val rs < (val rs / val bs + 1) * val bs := by
  have := Nat.lt_mul_div_succ (val rs) hb0
  rwa [Nat.mul_comm] at this
 have q3 : val rs / val bs ≤ 4294967295 := by
  have : val rs / val bs < 4294967296 := by rw [Nat.div_lt_iff_lt_mul hb0, Nat.mul_comm]; exact hlt
  omega
 exact guess_ok_num e1 t1 (lim_lt hb k) e2 t2 (lim_lt hr k) hh q1 q2 q3 hG
def DivInv (xs ys rs qs : List Nat) (m k : Nat) : Prop := val (qs.drop k) * val ys + val (rs.take m) = val (xs.drop k) ∧ val (rs.take m) < val ys
theorem top_pow {ys : List Nat} {m : Nat} (hl : ys.length = m) (hm : 1 ≤ m) (hh : 0 < lim ys (m - 1)) : 4294967296 ^ (m - 1) ≤ val ys := by
 obtain ⟨k, rfl⟩ : ∃ k, m = k + 1 := ⟨m - 1, by omega⟩
 have h := val_take_lim ys k
 rw [List.take_of_length_le (by omega)] at h
 rw [Nat.add_sub_cancel] at hh ⊢
 have : 4294967296 ^ k * 1 ≤ 4294967296 ^ k * lim ys k := Nat.mul_le_mul_left _ hh
 omega
theorem DivInv.start {xs ys : List Nat} {m s : Nat} (hx : Small xs) (hs : s + m = xs.length + 1) (hm : 2 ≤ m) (hy : ys.length = m) (hh : 0 < lim ys (m - 1)) : DivInv xs ys (xs.drop s ++ [0, 0]) (List.replicate s 0) m s := by
 have hl : (xs.drop s).length = m - 1 := by rw [List.length_drop]; omega
 have e : (xs.drop s ++ [0, 0]).take m = xs.drop s ++ [0] := by
  rw [List.take_append, hl, List.take_of_length_le (by omega), show m - (m - 1) = 1 by omega]
  rfl
 have ev : val ((xs.drop s ++ [0, 0]).take m) = val (xs.drop s) := by
  rw [e, val_append]; simp [val]
 refine ⟨?_, ?_⟩
 · rw [ev, val_drop_end (by simp)]; omega
 · rw [ev]
   have h := val_lt (small_drop hx s)
   rw [hl] at h
   exact Nat.lt_of_lt_of_le h (top_pow hy (by omega) hh)
theorem DivInv.lt {xs ys rs qs : List Nat} {m k x : Nat} (h : DivInv xs ys rs qs m k) (hx : x < 4294967296) : val (x :: rs.take m) < val ys * 4294967296 := by
 have := h.2
 rw [val]
 omega
theorem DivInv.step {xs ys rs qs zs : List Nat} {m j : Nat} (h : DivInv xs ys rs qs m (j + 1)) (hj : j < xs.length) (hq : j < qs.length) (hz : val (zs.take m) = val (lim xs j :: rs.take m) % val ys) :
 DivInv xs ys zs (qs.set j (val (lim xs j :: rs.take m) / val ys)) m j := by
 have hy : 0 < val ys := Nat.lt_of_le_of_lt (Nat.zero_le _) h.2
 obtain ⟨h1, h2⟩ := h
 refine ⟨?_, by rw [hz]; exact Nat.mod_lt _ hy⟩
 rw [val_drop_lim (xs := qs.set j _) (by simp; exact hq), lim_set_self hq, drop_succ_set, hz, val_drop_lim hj, ← h1]
 have hd := Nat.div_add_mod (val (lim xs j :: rs.take m)) (val ys)
 generalize val (lim xs j :: rs.take m) / val ys = q at *
 have hv : val (lim xs j :: rs.take m) = lim xs j + 4294967296 * val (rs.take m) := rfl
 rw [hv] at hd ⊢
 generalize (lim xs j + 4294967296 * val (rs.take m)) % val ys = r at *
 generalize val (qs.drop (j + 1)) = Q at *
 have e1 : (q + 4294967296 * Q) * val ys = val ys * q + 4294967296 * (Q * val ys) := by rw [Nat.add_mul, Nat.mul_comm q, Nat.mul_assoc]
 rw [e1]
 omega
theorem DivInv.done {xs ys rs qs : List Nat} {m : Nat} (h : DivInv xs ys rs qs m 0) : val qs = val xs / val ys ∧ val (rs.take m) = val xs % val ys := by
 obtain ⟨h3, h4⟩ := h
 simp only [List.drop_zero] at h3
 have hv : 0 < val ys := by omega
 have e : val xs = val (rs.take m) + val ys * val qs := by rw [← h3, Nat.mul_comm]; omega
 constructor
 · rw [e, Nat.add_mul_div_left _ _ hv, Nat.div_eq_of_lt h4]; omega
 · rw [e, Nat.add_mul_mod_self_left, Nat.mod_eq_of_lt h4]
end Go.Proofs.YtohokfbohdoijaaGreatDoor.Limb

/- Plain mathematics of products of limbs: a row of products with carries, rows added one above the other, moves by bits, powers bit by bit. No condition. -/
namespace Go.Proofs.YtohokfbohdoijaaGreatDoor.Limb
theorem blen_count (n : Nat) : (blen n + 31) / 32 = (limbs n).length := by
 by_cases h : n = 0
 · subst h; rw [blen_zero, limbs_zero]; rfl
 · have h1 := length_limbs_pred h
   have h2 := val_lt (small_limbs n)
   rw [val_limbs, pow32] at h2
   rw [pow32] at h1
   have h3 := blen_le h2
   have h4 : 32 * ((limbs n).length - 1) < blen n := (Nat.pow_lt_pow_iff_right (show 1 < 2 by decide)).1 (Nat.lt_of_le_of_lt h1 (blen_lt n))
   omega
def RowInv (xs ps zs : List Nat) (v k cr : Nat) : Prop :=
 val (zs.take k) + cr * 4294967296 ^ k = val (ps.take k) + v * val (xs.take k) ∧ cr < 4294967296
theorem RowInv.start (xs ps zs : List Nat) (v : Nat) : RowInv xs ps zs v 0 0 := ⟨by simp [val], by omega⟩
theorem row_step {S Q X x v p cr P lo hi : Nat} (h : S + cr * P = Q + v * X) (e : lo + hi * 4294967296 = cr + x * v + p) : S + P * lo + hi * (P * 4294967296) = Q + P * p + v * (X + P * x) := by
 have h1 := congrArg (P * ·) e
 simp only [Nat.mul_add] at h1
 rw [Nat.mul_left_comm P hi, Nat.mul_comm x v, Nat.mul_left_comm P v] at h1
 rw [Nat.mul_add, Nat.mul_comm cr P] at *
 omega
theorem limb_prod {x v : Nat} (hx : x < 4294967296) (hv : v < 4294967296) : x * v ≤ 18446744065119617025 :=
 Nat.mul_le_mul (show x ≤ 4294967295 by omega) (show v ≤ 4294967295 by omega)
theorem RowInv.step {xs ps zs : List Nat} {v k cr lo hi : Nat} (h : RowInv xs ps zs v k cr) (hz : k < zs.length) (hx : Small xs) (hp : Small ps) (hv : v < 4294967296)
 (hlo : lo < 4294967296) (e : lo + hi * 4294967296 = cr + lim xs k * v + lim ps k) : RowInv xs ps (zs.set k lo) v (k + 1) hi := by
 obtain ⟨h1, h2⟩ := h
 refine ⟨?_, ?_⟩
 · rw [val_take_set hz, val_take_lim ps, val_take_lim xs, Nat.pow_succ]
   exact row_step h1 e
 · have := limb_prod (lim_lt hx k) hv
   have := lim_lt hp k
   omega
theorem RowInv.done {xs ps zs : List Nat} {v k cr : Nat} (h : RowInv xs ps zs v k cr) (hz : zs.length = k + 1) (hx : xs.length = k) : val (zs.set k cr) = val (ps.take k) + v * val xs := by
 obtain ⟨h1, h2⟩ := h
 have e : (zs.set k cr).take (k + 1) = zs.set k cr := List.take_of_length_le (by simp; omega)
 rw [← e, val_take_set (by omega)]
 rw [List.take_of_length_le (by omega : xs.length ≤ k)] at h1
 rw [← h1, Nat.mul_comm]
def lay (zs : List Nat) (i : Nat) (ys : List Nat) : List Nat := zs.take i ++ ys ++ zs.drop (i + ys.length)
theorem lay_length {zs ys : List Nat} {i : Nat} (h : i + ys.length ≤ zs.length) : (lay zs i ys).length = zs.length := by simp [lay]; omega
theorem lay_small {zs ys : List Nat} {i : Nat} (hz : Small zs) (hy : Small ys) : Small (lay zs i ys) := small_append.2 ⟨small_append.2 ⟨small_take hz _, hy⟩, small_drop hz _⟩
theorem lim_drop (zs : List Nat) (i j : Nat) : lim (zs.drop i) j = lim zs (i + j) := by simp [lim, List.getD_eq_getElem?_getD]
theorem val_zero {zs : List Nat} (h : ∀ j, lim zs j = 0) : val zs = 0 := by
 induction zs with
 | nil => rfl
 | cons z zs ih =>
  have h0 := h 0
  have h1 : val zs = 0 := ih fun j => by have := h (j + 1); simpa [lim] using this
  simp [lim] at h0
  rw [val, h0, h1]
theorem lay_lim {zs ys : List Nat} {i j : Nat} (h : i + ys.length ≤ zs.length) (hj : i + ys.length ≤ j) : lim (lay zs i ys) j = lim zs j := by
 unfold lay lim
 rw [List.getD_eq_getElem?_getD, List.getD_eq_getElem?_getD, List.getElem?_append_right (by simp; omega)]
 simp
 congr 2
 omega
def MulInv (long short zs : List Nat) (i : Nat) : Prop :=
 zs.length = long.length + short.length ∧ val zs = val long * val (short.take i) ∧ ∀ j, i + long.length ≤ j → lim zs j = 0
theorem MulInv.start (long short : List Nat) : MulInv long short (List.replicate (long.length + short.length) 0) 0 := by
 have h : ∀ j, lim (List.replicate (long.length + short.length) 0) j = 0 := fun j => by
  simp [lim, List.getD_eq_getElem?_getD, List.getElem?_replicate]; split <;> rfl
 exact ⟨by simp, by rw [val_zero h]; simp [val], fun j _ => h j⟩
theorem MulInv.step {long short zs ys : List Nat} {i : Nat} (h : MulInv long short zs i) (hi : i < short.length) (hy : ys.length = long.length + 1)
 (hv : val ys = val ((zs.drop i).take long.length) + lim short i * val long) : MulInv long short (lay zs i ys) (i + 1) := by
 obtain ⟨h1, h2, h3⟩ := h
 refine ⟨by rw [lay_length (by omega), h1], ?_, fun j hj => by rw [lay_lim (by omega) (by omega)]; exact h3 j (by omega)⟩
 have e0 : val (zs.drop (i + ys.length)) = 0 := val_zero fun j => by rw [lim_drop]; exact h3 _ (by omega)
 have e1 : val (zs.drop (i + long.length)) = 0 := val_zero fun j => by rw [lim_drop]; exact h3 _ (by omega)
 have e2 := val_split zs i (by omega)
 have e3 := val_split (zs.drop i) long.length (by simp; omega)
 rw [List.drop_drop, e1, Nat.mul_zero, Nat.add_zero] at e3
 rw [e3, h2] at e2
 rw [val_take_lim, Nat.mul_add, e2, lay, List.append_assoc, val_append, val_append, e0, hv, List.length_take, Nat.min_eq_left (by omega), Nat.mul_zero, Nat.add_zero, Nat.mul_add, Nat.add_assoc,
  Nat.mul_comm (lim short i), Nat.mul_left_comm (val long)]
theorem MulInv.done {long short zs : List Nat} (h : MulInv long short zs short.length) : val zs = val long * val short := by
 have := h.2.1
 rwa [List.take_of_length_le (Nat.le_refl _)] at this
theorem val_zeros (k : Nat) (xs : List Nat) : val (List.replicate k 0 ++ xs) = 4294967296 ^ k * val xs := by
 rw [val_append, List.length_replicate, val_zero (fun j => by simp [lim, List.getD_eq_getElem?_getD, List.getElem?_replicate]; split <;> rfl), Nat.zero_add]
theorem small_zeros (k : Nat) : Small (List.replicate k 0) := by intro x hx; rw [List.mem_replicate] at hx; omega
theorem pow_move (n : Nat) : 4294967296 ^ (n / 32) * 2 ^ (n % 32) = 2 ^ n := by
 rw [pow32, ← Nat.pow_add]; congr 1; omega
end Go.Proofs.YtohokfbohdoijaaGreatDoor.Limb

/- Regions that leave their order open: one law by an invariant over what has come up, whatever the order (no branch for each order). Of any program; no condition. -/
namespace Go.Proofs.YtohokfbohdoijaaGreatDoor
open Go.RowKit
set_option linter.unusedVariables false
def Over (w0 : World) (q : Nat) (w : World) : Prop := w0.heap.size ≤ q
theorem Over.below {w0 w w' : World} {q : Nat} (h : Over w0 q w) (hb : Below w.heap.size w w') : Over w0 q w' := h
section
variable {P : Program} {ops : Array Oper} {Q : Exit → Act → World → Prop} {md : Region.Mode}
def left (listed : Array Bool) : Nat → Nat
 | 0 => 0
 | k + 1 => left listed k + (if listed.getD k false = true then 0 else 1)
theorem left_zero {listed : Array Bool} : ∀ {m}, left listed m = 0 → ∀ k, k < m → listed.getD k false = true
 | 0, _, k, hk => by omega
 | m + 1, h, k, hk => by
  unfold left at h
  split at h
  · rename_i h1
    rcases Nat.lt_or_ge k m with h2 | h2
    · exact left_zero (by omega) k h2
    · obtain rfl : k = m := by omega
      exact h1
  · omega
theorem getD_same {listed : Array Bool} {i : Nat} (h : i < listed.size) (d : Bool) : (listed.setIfInBounds i true).getD i d = true := by
 simp [Array.getD_eq_getD_getElem?, h]
theorem getD_other {listed : Array Bool} {i k : Nat} (h : i ≠ k) (d : Bool) : (listed.setIfInBounds i true).getD k d = listed.getD k d := by
 simp [Array.getD_eq_getD_getElem?, h]
theorem left_same {listed : Array Bool} {i : Nat} : ∀ {m}, m ≤ i → left (listed.setIfInBounds i true) m = left listed m
 | 0, _ => rfl
 | m + 1, h => by
  unfold left
  rw [left_same (by omega), getD_other (by omega)]
theorem left_set {listed : Array Bool} {i : Nat} (hs : i < listed.size) (hi : listed.getD i false = false) : ∀ {m}, i < m → left (listed.setIfInBounds i true) m + 1 = left listed m
 | 0, h => by omega
 | m + 1, h => by
  unfold left
  rcases Nat.lt_or_ge i m with h1 | h1
  · have := left_set hs hi h1
    rw [getD_other (by omega)]
    omega
  · obtain rfl : i = m := by omega
    rw [left_same (Nat.le_refl _), getD_same hs, hi]
    simp
theorem wpAny_inv (m : Nat) (J : Array Bool → Act → World → Prop)
 (hsize : ∀ l a w, J l a w → l.size = ops.size ∧ ∀ k, m ≤ k → l.getD k false = false)
 (hm : m ≤ ops.size)
 (hback : ∀ (i : Nat) (o : Oper), i < m → ops[i]? = some o → ∀ e ∈ o.after, Region.binds md e = true → e.on < i)
 (hstep : ∀ l a w i, J l a w → i ∈ Region.ready md ops l → i < m → wpOp P ops Q i (fun a' w' => J (l.setIfInBounds i true) a' w') a w)
 (hwait : ∀ l a w i, J l a w → i ∈ Region.ready md ops l → m ≤ i → ∀ k, k < m → l.getD k false = true)
 (hfin : ∀ l a w, J l a w → (∀ k, k < m → l.getD k false = true) → wpAny P md ops Q (ops.size - m) l a w) :
 ∀ (c : Nat) (l : Array Bool) (a : Act) (w : World), left l m = c → J l a w → wpAny P md ops Q (ops.size - m + c) l a w := by
 intro c
 induction c with
 | zero => exact fun l a w hc hj => hfin l a w hj (left_zero hc)
 | succ c ih =>
  intro l a w hc hj
  obtain ⟨hs, hlater⟩ := hsize l a w hj
  have hex : ∃ k, k < m ∧ l.getD k false = false := by
   rcases Classical.em (∃ k, k < m ∧ l.getD k false = false) with h | h
   · exact h
   · exfalso
     have hall : ∀ k, k < m → l.getD k false = true := fun k hk => by
      cases hb : l.getD k false with
      | true => rfl
      | false => exact absurd ⟨k, hk, hb⟩ h
     have hz : ∀ j, j ≤ m → left l j = 0 := fun j => by
      induction j with
      | zero => exact fun _ => rfl
      | succ j ihj => exact fun hj2 => by unfold left; rw [ihj (by omega), hall j (by omega)]; rfl
     have := hz m (Nat.le_refl _)
     omega
  refine ⟨fun hr => ?_, fun i hi => ?_⟩
  · exfalso
    -- the least one that has not come up may come up
    obtain ⟨k0, hk0, hb0⟩ := hex
    have hleast : ∀ n, (∃ k, k ≤ n ∧ k < m ∧ l.getD k false = false) → ∃ k, k < m ∧ l.getD k false = false ∧ ∀ j, j < k → l.getD j false = true := by
     intro n
     induction n with
     | zero =>
      rintro ⟨k, h1, h2, h3⟩
      obtain rfl : k = 0 := by omega
      exact ⟨0, h2, h3, fun j hj2 => by omega⟩
     | succ n ihn =>
      rintro ⟨k, h1, h2, h3⟩
      rcases Classical.em (∃ k, k ≤ n ∧ k < m ∧ l.getD k false = false) with h | h
      · exact ihn h
      · refine ⟨k, h2, h3, fun j hj2 => ?_⟩
        cases hb : l.getD j false with
        | true => rfl
        | false => exact absurd ⟨j, by omega, by omega, hb⟩ h
    obtain ⟨k, hk, hb, hmin⟩ := hleast k0 ⟨k0, Nat.le_refl _, hk0, hb0⟩
    have hko : k < ops.size := by omega
    have : k ∈ Region.ready md ops l := mem_ready.2 ⟨by
     simp only [Array.getD_eq_getD_getElem?] at hb ⊢
     rw [Array.getElem?_eq_getElem (by omega)] at hb ⊢
     simpa using hb, ops[k], Array.getElem?_eq_getElem hko, fun e he hbi => hmin _ (hback k _ hk (Array.getElem?_eq_getElem hko) e he hbi)⟩
    rw [hr] at this
    cases this
  · rcases Nat.lt_or_ge i m with h1 | h1
    · have hu : l.getD i false = false := by
       have h2 := (mem_ready.1 hi).1
       simp only [Array.getD_eq_getD_getElem?] at h2 ⊢
       rw [Array.getElem?_eq_getElem (by omega)] at h2 ⊢
       simpa using h2
      have hl := left_set (m := m) (by omega : i < l.size) hu h1
      exact wpOp_mono (fun a' w' hj2 => ih _ a' w' (by omega) hj2) (hstep l a w i hj hi h1)
    · exfalso
      obtain ⟨k, hk, hb⟩ := hex
      rw [hwait l a w i hj hi h1 k hk] at hb
      cases hb
def afters (ops : Array Oper) (i : Nat) : List Nat :=
 match ops[i]? with
 | some o => (o.after.toList.filter (Region.binds .any)).map fun e => e.on
 | none => []
theorem ready_after {l : Array Bool} {i e : Nat} (hi : i ∈ Region.ready .any ops l) (he : e ∈ afters ops i) : l.getD e false = true := by
 obtain ⟨_, o, ho, h⟩ := mem_ready.1 hi
 unfold afters at he
 rw [ho] at he
 obtain ⟨x, hx, rfl⟩ := List.mem_map.1 he
 obtain ⟨h1, h2⟩ := List.mem_filter.1 hx
 exact h x (by simpa using h1) h2
def anc (ops : Array Oper) : Nat → Nat → List Nat
 | 0, _ => []
 | f + 1, i => afters ops i ++ (afters ops i).flatMap (anc ops f)
theorem anc_up {l : Array Bool} (hd : ∀ k, l.getD k false = true → ∀ e ∈ afters ops k, l.getD e false = true) : ∀ (f i : Nat), (∀ e ∈ afters ops i, l.getD e false = true) → ∀ e ∈ anc ops f i, l.getD e false = true
 | 0, _, _, e, he => by cases he
 | f + 1, i, h, e, he => by
  unfold anc at he
  rcases List.mem_append.1 he with h1 | h1
  · exact h e h1
  · obtain ⟨x, hx, hy⟩ := List.mem_flatMap.1 h1
    exact anc_up hd f x (hd x (h x hx)) e hy
def isPlain : Op → Bool
 | .select _ _ => false
 | _ => true
def fill (D : Nat → Option Tmp) (vals : Nat → Value) (l : Array Bool) (a : Act) : Nat → Act
 | 0 => a
 | k + 1 => if l.getD k false = true then (fill D vals l a k).put (D k) (vals k) else fill D vals l a k
def fillAll (D : Nat → Option Tmp) (vals : Nat → Value) (a : Act) : Nat → Act
 | 0 => a
 | k + 1 => (fillAll D vals a k).put (D k) (vals k)
def upd (vals : Nat → Value) (i : Nat) (v : Value) : Nat → Value := fun k => if k = i then v else vals k
theorem put_size (a : Act) (d : Option Tmp) (v : Value) : (a.put d v).tmps.size = a.tmps.size := by
 cases d <;> simp [Act.put]
theorem put_defers2 (a : Act) (d : Option Tmp) (v : Value) : (a.put d v).defers = a.defers := by
 cases d <;> rfl
theorem put_same (a : Act) (d : Tmp) (v : Value) (h : d < a.tmps.size) : (a.put (some d) v).eval (.tmp d) = v := by
 simp [Act.put, Act.eval, Array.getD_eq_getD_getElem?, h]
theorem fill_size (D : Nat → Option Tmp) (vals : Nat → Value) (l : Array Bool) (a : Act) : ∀ m, (fill D vals l a m).tmps.size = a.tmps.size
 | 0 => rfl
 | m + 1 => by unfold fill; split <;> simp [put_size, fill_size]
theorem fillAll_size (D : Nat → Option Tmp) (vals : Nat → Value) (a : Act) : ∀ m, (fillAll D vals a m).tmps.size = a.tmps.size
 | 0 => rfl
 | m + 1 => by simp [fillAll, put_size, fillAll_size]
theorem fill_defers (D : Nat → Option Tmp) (vals : Nat → Value) (l : Array Bool) (a : Act) : ∀ m, (fill D vals l a m).defers = a.defers
 | 0 => rfl
 | m + 1 => by unfold fill; split <;> simp [put_defers2, fill_defers]
theorem fillAll_defers (D : Nat → Option Tmp) (vals : Nat → Value) (a : Act) : ∀ m, (fillAll D vals a m).defers = a.defers
 | 0 => rfl
 | m + 1 => by simp [fillAll, put_defers2, fillAll_defers]
theorem fill_all {D : Nat → Option Tmp} {vals : Nat → Value} {l : Array Bool} {a : Act} : ∀ {m}, (∀ k, k < m → l.getD k false = true) → fill D vals l a m = fillAll D vals a m
 | 0, _ => rfl
 | m + 1, h => by
  unfold fill fillAll
  rw [if_pos (h m (by omega)), fill_all fun k hk => h k (by omega)]
theorem fill_none {D : Nat → Option Tmp} {vals : Nat → Value} {l : Array Bool} {a : Act} : ∀ {m}, (∀ k, k < m → l.getD k false = false) → fill D vals l a m = a
 | 0, _ => rfl
 | m + 1, h => by
  unfold fill
  rw [if_neg (by simp [h m (by omega)]), fill_none fun k hk => h k (by omega)]
theorem fill_congr {D : Nat → Option Tmp} {vals vals' : Nat → Value} {l l' : Array Bool} {a : Act} : ∀ {m}, (∀ k, k < m → l.getD k false = l'.getD k false ∧ vals k = vals' k) → fill D vals l a m = fill D vals' l' a m
 | 0, _ => rfl
 | m + 1, h => by
  obtain ⟨h1, h2⟩ := h m (by omega)
  unfold fill
  rw [h1, h2, fill_congr fun k hk => h k (by omega)]
theorem fill_set {D : Nat → Option Tmp} {vals : Nat → Value} {l : Array Bool} {a : Act} {i : Nat} {v : Value} (hs : i < l.size) (hu : l.getD i false = false) :
 ∀ {m}, i < m → (∀ j, j < m → j ≠ i → ∀ d, D j = some d → D i ≠ some d) → (fill D vals l a m).put (D i) v = fill D (upd vals i v) (l.setIfInBounds i true) a m
 | 0, h, _ => by omega
 | m + 1, h, hd => by
  rcases Nat.lt_or_ge i m with h1 | h1
  · have ih := fill_set (D := D) (vals := vals) (a := a) (v := v) hs hu h1 fun j hj => hd j (by omega)
    unfold fill
    rw [getD_other (by omega : i ≠ m), ← ih, show upd vals i v m = vals m from if_neg (by omega)]
    split
    · exact Act.put_comm _ _ _ (hd m (by omega) (by omega))
    · rfl
  · obtain rfl : i = m := by omega
    unfold fill
    rw [if_neg (by simp [hu]), if_pos (getD_same hs _), show upd vals i v i = v from if_pos rfl]
    rw [fill_congr (vals := vals) (vals' := upd vals i v) (l := l) (l' := l.setIfInBounds i true) fun k hk => ⟨(getD_other (by omega) _).symm, (if_neg (by omega)).symm⟩]
theorem fill_eval {D : Nat → Option Tmp} {vals : Nat → Value} {l : Array Bool} {a : Act} {x : Operand} :
 ∀ {m}, (∀ k, k < m → l.getD k false = false → ∀ d, D k = some d → x ≠ .tmp d) → (fill D vals l a m).eval x = (fillAll D vals a m).eval x
 | 0, _ => rfl
 | m + 1, h => by
  have ih := fill_eval (D := D) (vals := vals) (l := l) (a := a) (x := x) (m := m) fun k hk => h k (by omega)
  unfold fill fillAll
  cases hb : l.getD m false with
  | true =>
   rw [if_pos rfl]
   by_cases hx : ∃ d, D m = some d ∧ x = .tmp d
   · obtain ⟨d, h1, rfl⟩ := hx
     rw [h1]
     simp only [Act.put, Act.eval, Array.getD_eq_getD_getElem?, Array.getElem?_setIfInBounds, fill_size, fillAll_size, if_true]
   · rw [Act.eval_put fun d h1 h2 => hx ⟨d, h1, h2⟩, Act.eval_put fun d h1 h2 => hx ⟨d, h1, h2⟩, ih]
  | false =>
   rw [if_neg (by simp), Act.eval_put (h m (by omega) hb), ih]
def okAt (ops : Array Oper) (m : Nat) (ds : List Tmp) (N : Nat) (i : Nat) : Bool :=
 match ops[i]? with
 | none => false
 | some o => o.dst == ds[i]? && decide (i < ds.length) && decide (ds.getD i 0 < N) && o.guard.isNone && isPlain o.op && (afters ops i).all (fun e => decide (e < i)) &&
  (List.range m).all (fun k => k == i || ds[k]? != ds[i]?) &&
  o.op.operands.toList.all (fun x => match x with
   | .tmp t => (List.range m).all fun k => ds[k]? != some t || (afters ops i).contains k
   | _ => true)
theorem okAt_spec {m : Nat} {ds : List Tmp} {N i : Nat} (h : okAt ops m ds N i = true) :
 ∃ o, ops[i]? = some o ∧ o.dst = some (ds.getD i 0) ∧ ds[i]? = some (ds.getD i 0) ∧ ds.getD i 0 < N ∧ o.guard = none ∧ (∀ cs b, o.op ≠ .select cs b) ∧ (∀ e ∈ afters ops i, e < i) ∧
  (∀ k, k < m → k ≠ i → ds[k]? ≠ ds[i]?) ∧ (∀ x ∈ o.op.operands, ∀ t, x = .tmp t → ∀ k, k < m → ds[k]? = some t → k ∈ afters ops i) := by
 unfold okAt at h
 cases ho : ops[i]? with
 | none => rw [ho] at h; cases h
 | some o =>
  rw [ho] at h
  simp only [Bool.and_eq_true, beq_iff_eq, decide_eq_true_eq, List.all_eq_true, Bool.or_eq_true, bne_iff_ne, List.mem_range, Option.isNone_iff_eq_none] at h
  obtain ⟨⟨⟨⟨⟨⟨⟨h1, h2⟩, h3⟩, h4⟩, h5⟩, h6⟩, h7⟩, h8⟩ := h
  have hi : ds[i]? = some (ds.getD i 0) := by simp [List.getD_eq_getElem?_getD, h2]
  refine ⟨o, rfl, h1.trans hi, hi, h3, h4, ?_, h6, fun k hk hne => (h7 k hk).resolve_left hne, ?_⟩
  · intro cs b he
    rw [he] at h5
    cases h5
  · rintro x hx t rfl k hk hd
    have := h8 _ (by simpa using hx)
    simp only [List.all_eq_true, List.mem_range, Bool.or_eq_true, bne_iff_ne, List.contains_iff_mem] at this
    exact (this k hk).resolve_left fun h => h hd
def FreeStep (P : Program) (Q : Exit → Act → World → Prop) (ops : Array Oper) (ds : List Tmp) (aF : (Nat → Value) → Act) (S : World → Prop) (Φ : Nat → Value → World → Prop) (fresh : Nat → Bool) (i : Nat) (o : Oper) : Prop :=
 ∀ (vals : Nat → Value) (w : World), S w → (∀ e ∈ afters ops i, Φ e (vals e) w) → ∀ K : Act → World → Prop,
  (∀ a' w', a'.defers = (aF vals).defers → Below w.heap.size w w' → Φ i (a'.eval (.tmp (ds.getD i 0))) w' → (fresh i = true → ∃ q, a'.eval (.tmp (ds.getD i 0)) = .pointer (some ⟨q, 0, none⟩) ∧ w.heap.size ≤ q ∧ q < w'.heap.size) → K a' w') →
  o.wp P (aF vals) w K Q
def AllAt (F : Nat → Oper → Prop) : Nat → List Oper → Nat → Prop
 | _, _, 0 => True
 | _, [], _ + 1 => True
 | k, o :: os, n + 1 => F k o ∧ AllAt F (k + 1) os n
theorem AllAt.nil {F : Nat → Oper → Prop} {k : Nat} {os : List Oper} : AllAt F k os 0 := by unfold AllAt; trivial
theorem AllAt.cons {F : Nat → Oper → Prop} {k n : Nat} {o : Oper} {os : List Oper} (h : F k o) (t : AllAt F (k + 1) os n) : AllAt F k (o :: os) (n + 1) := ⟨h, t⟩
theorem AllAt.at {F : Nat → Oper → Prop} : ∀ {k : Nat} {os : List Oper} {n : Nat}, AllAt F k os n → ∀ i, i < n → ∀ o, os[i]? = some o → F (k + i) o
 | _, _, 0, _, i, h, _, _ => by omega
 | _, [], _ + 1, _, i, _, o, ho => by cases i <;> cases ho
 | k, x :: xs, n + 1, h, 0, _, o, ho => by
  obtain rfl : x = o := by simpa using ho
  exact h.1
 | k, x :: xs, n + 1, h, i + 1, hi, o, ho => by
  have := AllAt.at h.2 i (by omega) o (by simpa using ho)
  rwa [show k + 1 + i = k + (i + 1) by omega] at this
def firsts (n m : Nat) : Array Bool := ((List.range n).map fun k => decide (k < m)).toArray
theorem firsts_eq {l : Array Bool} {n m : Nat} (hs : l.size = n) (hm : m ≤ n) (h : ∀ k, l.getD k false = decide (k < m)) : l = firsts n m := by
 apply Array.ext_getElem?
 intro k
 have := h k
 rw [show (firsts n m)[k]? = ((List.range n).map fun k => decide (k < m))[k]? from List.getElem?_toArray .., List.getElem?_map]
 rcases Nat.lt_or_ge k n with hk | hk
 · rw [List.getElem?_range hk, Array.getElem?_eq_getElem (by omega)]
   simp only [Array.getD_eq_getD_getElem?, Array.getElem?_eq_getElem (show k < l.size by omega), Option.getD_some] at this
   simp [this]
 · rw [Array.getElem?_eq_none (by omega), List.getElem?_eq_none (by simpa using hk)]
   rfl
theorem region_free {id : Nat} {a : Act} {w : World} {os : List Oper} (m r : Nat) (ds : List Tmp) (aF : (Nat → Value) → Act) (S : World → Prop) (Φ : Nat → Value → World → Prop) (fresh : Nat → Bool)
 (hm : P.follows .mixedOrders = true)
 (haF : ∀ vals, fillAll (fun k => ds[k]?) vals a m = aF vals)
 (hr : os.length = m + r)
 (hok : (List.range m).all (okAt os.toArray m ds a.tmps.size) = true)
 (hend : (List.range os.length).all (fun i => decide (i < m) || (List.range m).all fun k => (anc os.toArray 3 i).contains k) = true)
 (hQ : ∀ c (t t' : Array Value) (d : List Deferred) w, Q (.panic c) ⟨t, d⟩ w → Q (.panic c) ⟨t', d⟩ w)
 (hSb : ∀ w w', Below w.heap.size w w' → S w → S w')
 (hΦb : ∀ k v w w', Below w.heap.size w w' → Φ k v w → Φ k v w')
 (hS : S w.drew)
 (hop : AllAt (FreeStep P Q os.toArray ds aF S Φ fresh) 0 os m)
 (hfin : ∀ (vals : Nat → Value) (w : World), S w → (∀ k, k < m → Φ k (vals k) w) →
   (∀ j k, j < m → k < m → j ≠ k → fresh j = true → fresh k = true → ∀ p q, vals j = .pointer (some ⟨p, 0, none⟩) → vals k = .pointer (some ⟨q, 0, none⟩) → p ≠ q) →
   wpAny P .any os.toArray Q r (firsts (m + r) m) (aF vals) w) :
 (Code.region id os.toArray true).wp P Q a w := by
 generalize hops : os.toArray = ops at *
 have hsz0 : ops.size = m + r := by rw [← hops]; simpa using hr
 have hle : m ≤ ops.size := by omega
 replace hend : (List.range ops.size).all (fun i => decide (i < m) || (List.range m).all fun k => (anc ops 3 i).contains k) = true := by rw [hsz0, ← hr]; exact hend
 replace hop : ∀ i, i < m → ∀ o, ops[i]? = some o → FreeStep P Q ops ds aF S Φ fresh i o := fun i hi o ho => by
  have := hop.at i hi o (by rw [← hops] at ho; simpa using ho)
  rwa [Nat.zero_add] at this
 replace hfin : ∀ (vals : Nat → Value) (w : World), S w → (∀ k, k < m → Φ k (vals k) w) →
  (∀ j k, j < m → k < m → j ≠ k → fresh j = true → fresh k = true → ∀ p q, vals j = .pointer (some ⟨p, 0, none⟩) → vals k = .pointer (some ⟨q, 0, none⟩) → p ≠ q) →
  ∀ l : Array Bool, l.size = ops.size → (∀ k, l.getD k false = decide (k < m)) → wpAny P .any ops Q (ops.size - m) l (aF vals) w := fun vals w h1 h2 h3 l h4 h5 => by
  rw [firsts_eq (h4.trans hsz0) (by omega) h5, show ops.size - m = r by omega]
  exact hfin vals w h1 h2 h3
 replace hQ : ∀ c (a a' : Act) w, a.defers = a'.defers → Q (.panic c) a w → Q (.panic c) a' w := by
  rintro c ⟨t, d⟩ ⟨t', d'⟩ w he h
  obtain rfl : d = d' := he
  exact hQ c t t' d w h
 refine wp_region_any hm ?_
 have hat : ∀ i, i < m → okAt ops m ds a.tmps.size i = true := fun i hi => List.all_eq_true.1 hok i (List.mem_range.2 hi)
 have hlate : ∀ i, m ≤ i → i < ops.size → ∀ k, k < m → k ∈ anc ops 3 i := fun i h1 h2 k hk => by
  have := List.all_eq_true.1 hend i (List.mem_range.2 h2)
  simp only [Bool.or_eq_true, decide_eq_true_eq, List.all_eq_true, List.mem_range, List.contains_iff_mem] at this
  exact (this.resolve_left (by omega)) k hk
 have hfr : ∀ (l : Array Bool), l = Array.replicate ops.size false → ∀ k, l.getD k false = false := by
  rintro l rfl k
  simp only [Array.getD_eq_getD_getElem?, Array.getElem?_replicate]
  split <;> rfl
 let J : Array Bool → Act → World → Prop := fun l a' w' => (l.size = ops.size ∧ ∀ k, m ≤ k → l.getD k false = false) ∧ S w' ∧ (∀ k, k < m → l.getD k false = true → ∀ e ∈ afters ops k, l.getD e false = true) ∧
  ∃ vals, a' = fill (fun k => ds[k]?) vals l a m ∧ (∀ k, k < m → l.getD k false = true → Φ k (vals k) w' ∧ (fresh k = true → ∃ q, vals k = .pointer (some ⟨q, 0, none⟩) ∧ q < w'.heap.size)) ∧
   (∀ j k, j < m → k < m → l.getD j false = true → l.getD k false = true → j ≠ k → fresh j = true → fresh k = true → ∀ p q, vals j = .pointer (some ⟨p, 0, none⟩) → vals k = .pointer (some ⟨q, 0, none⟩) → p ≠ q)
 have hdown : ∀ l a' w', J l a' w' → ∀ k, l.getD k false = true → ∀ e ∈ afters ops k, l.getD e false = true := fun l a' w' hj k hk => by
  rcases Nat.lt_or_ge k m with h1 | h1
  · exact hj.2.2.1 k h1 hk
  · rw [hj.1.2 k h1] at hk
    cases hk
 have hz : ∀ j, j ≤ m → left (Array.replicate ops.size false) j = j := fun j => by
  induction j with
  | zero => exact fun _ => rfl
  | succ j ihj => exact fun h => by unfold left; rw [ihj (by omega), hfr _ rfl j]; rfl
 have key := wpAny_inv (P := P) (ops := ops) (Q := Q) (md := .any) m J (fun l a' w' hj => hj.1) hle (fun i o h1 ho e he hb => ?hback) (fun l a' w' i hj hi h1 => ?hstep) (fun l a' w' i hj hi h1 k hk => ?hwait) (fun l a' w' hj hall => ?hfin)
  m (Array.replicate ops.size false) a w.drew (hz m (Nat.le_refl _)) ⟨⟨by simp, fun k _ => hfr _ rfl k⟩, hS, fun k _ h => (by rw [hfr _ rfl k] at h; cases h),
   fun _ => undef, (fill_none fun k _ => hfr _ rfl k).symm, fun k _ h => (by rw [hfr _ rfl k] at h; cases h), fun j k _ _ h => (by rw [hfr _ rfl j] at h; cases h)⟩
 · have e : ops.size - m + m = ops.size := by omega
   rw [e] at key
   exact key
 case hback =>
  obtain ⟨_, _, _, _, _, _, _, hlow, _, _⟩ := okAt_spec (hat i h1)
  refine hlow e.on ?_
  unfold afters
  rw [ho]
  exact List.mem_map.2 ⟨e, List.mem_filter.2 ⟨by simpa using he, hb⟩, rfl⟩
 case hwait =>
  have hlt : i < ops.size := by
   obtain ⟨_, o, ho, _⟩ := mem_ready.1 hi
   exact (Array.getElem?_eq_some_iff.1 ho).1
  exact anc_up (hdown l a' w' hj) 3 i (fun e he => ready_after hi he) k (hlate i h1 hlt k hk)
 case hfin =>
  obtain ⟨⟨hs, hl⟩, hSw, _, vals, rfl, hv, hp⟩ := hj
  rw [fill_all hall, haF]
  refine hfin vals w' hSw (fun k hk => (hv k hk (hall k hk)).1) (fun j k h1 h2 => hp j k h1 h2 (hall j h1) (hall k h2)) l hs fun k => ?_
  rcases Nat.lt_or_ge k m with h | h
  · rw [hall k h, decide_eq_true h]
  · rw [hl k h, decide_eq_false (by omega)]
 case hstep =>
  obtain ⟨⟨hs, hl⟩, hSw, hdn, vals, rfl, hv, hp⟩ := hj
  obtain ⟨o, ho, hdst, hdi, hlt, hg, hsel, hlow, hdist, hops⟩ := okAt_spec (hat i h1)
  have hu : l.getD i false = false := by
   have h2 := (mem_ready.1 hi).1
   have h3 : i < l.size := by omega
   simp only [Array.getD_eq_getD_getElem?] at h2 ⊢
   rw [Array.getElem?_eq_getElem h3] at h2 ⊢
   simpa using h2
  have hdep : ∀ e ∈ afters ops i, l.getD e false = true := fun e he => ready_after hi he
  have heval : ∀ x ∈ o.op.operands, (fill (fun k => ds[k]?) vals l a m).eval x = (aF vals).eval x := fun x hx => by
   rw [← haF vals]
   exact fill_eval fun k hk hk2 d hd hxd => by
    rw [hdep k (hops x hx d hxd k hk hd)] at hk2
    cases hk2
  have hrun := hop i h1 o ho vals w' hSw (fun e he => (hv e (by have := hlow e he; omega) (hdep e he)).1)
   (fun a2 w2 => a2.defers = (aF vals).defers ∧ Below w'.heap.size w' w2 ∧ Φ i (a2.eval (.tmp (ds.getD i 0))) w2 ∧ (fresh i = true → ∃ q, a2.eval (.tmp (ds.getD i 0)) = .pointer (some ⟨q, 0, none⟩) ∧ w'.heap.size ≤ q ∧ q < w2.heap.size))
   (fun a2 w2 h1 h2 h3 h4 => ⟨h1, h2, h3, h4⟩)
  have hsz : ds.getD i 0 < (aF vals).tmps.size := by rw [← haF vals, fillAll_size]; exact hlt
  have next : ∀ v w2, Below w'.heap.size w' w2 → Φ i v w2 → (fresh i = true → ∃ q, v = .pointer (some ⟨q, 0, none⟩) ∧ w'.heap.size ≤ q ∧ q < w2.heap.size) →
   J (l.setIfInBounds i true) ((fill (fun k => ds[k]?) vals l a m).put o.dst v) w2 := fun v w2 hb hphi hfresh => by
   have hne : ∀ k, k ≠ i → (l.setIfInBounds i true).getD k false = l.getD k false := fun k hk => getD_other (Ne.symm hk) _
   refine ⟨⟨by simpa using hs, fun k hk => by rw [hne k (by omega)]; exact hl k hk⟩, hSb _ _ hb hSw, fun k hk hk2 e he => ?_, upd vals i v, ?_, fun k hk hk2 => ?_, fun j k hj hk hj2 hk2 hjk fj fk p q ep eq => ?_⟩
   · by_cases hki : k = i
     · subst hki
       rw [hne e (by have := hlow e he; omega)]
       exact hdep e he
     · rw [hne k hki] at hk2
       by_cases hei : e = i
       · subst hei
         exact getD_same (by omega) _
       · rw [hne e hei]
         exact hdn k hk hk2 e he
   · rw [hdst, ← hdi]
     exact fill_set (by omega) hu h1 fun j hj hji d hd hdi2 => hdist j hj hji (hd.trans hdi2.symm)
   · by_cases hki : k = i
     · subst hki
       rw [show upd vals k v k = v from if_pos rfl]
       exact ⟨hphi, fun hf => by obtain ⟨q, h1, _, h3⟩ := hfresh hf; exact ⟨q, h1, h3⟩⟩
     · rw [hne k hki] at hk2
       rw [show upd vals i v k = vals k from if_neg hki]
       obtain ⟨h3, h4⟩ := hv k hk hk2
       exact ⟨hΦb _ _ _ _ hb h3, fun hf => by obtain ⟨q, h5, h6⟩ := h4 hf; exact ⟨q, h5, Nat.lt_of_lt_of_le h6 hb.size⟩⟩
   · by_cases hji : j = i
     · subst hji
       have hki : k ≠ j := fun h => hjk h.symm
       rw [show upd vals j v j = v from if_pos rfl] at ep
       rw [show upd vals j v k = vals k from if_neg hki] at eq
       rw [hne k hki] at hk2
       obtain ⟨q1, e1, l1, _⟩ := hfresh fj
       obtain ⟨q2, e2, l2⟩ := (hv k hk hk2).2 fk
       rw [e1] at ep
       rw [e2] at eq
       cases ep
       cases eq
       omega
     · by_cases hki : k = i
       · subst hki
         rw [show upd vals k v k = v from if_pos rfl] at eq
         rw [show upd vals k v j = vals j from if_neg hji] at ep
         rw [hne j hji] at hj2
         obtain ⟨q1, e1, l1, _⟩ := hfresh fk
         obtain ⟨q2, e2, l2⟩ := (hv j hj hj2).2 fj
         rw [e1] at eq
         rw [e2] at ep
         cases ep
         cases eq
         omega
       · rw [show upd vals i v j = vals j from if_neg hji] at ep
         rw [show upd vals i v k = vals k from if_neg hki] at eq
         rw [hne j hji] at hj2
         rw [hne k hki] at hk2
         exact hp j k hj hk hj2 hk2 hjk fj fk p q ep eq
  unfold wpOp
  rw [ho]
  simp only []
  rw [if_pos (by unfold Region.wanted; rw [hg])]
  refine .inl ?_
  unfold Oper.wp at hrun ⊢
  rw [execOp_congr o hsel heval]
  generalize (execOp (aF vals).eval o).run P w' = r at hrun ⊢
  have hdef : (aF vals).defers = (fill (fun k => ds[k]?) vals l a m).defers := by rw [← haF vals, fillAll_defers, fill_defers]
  have hput : ∀ v, ((aF vals).put o.dst v).eval (.tmp (ds.getD i 0)) = v := fun v => by rw [hdst]; exact put_same _ _ _ hsz
  cases r with
  | ok n w2 =>
   cases n <;> simp only [Oper.upon] at hrun ⊢
   case value v => rw [hput] at hrun; exact next _ _ hrun.2.1 hrun.2.2.1 hrun.2.2.2
   case skip => rw [hput] at hrun; exact next _ _ hrun.2.1 hrun.2.2.1 hrun.2.2.2
   case defer d =>
    exfalso
    have := hrun.1
    rw [put_defers2] at this
    have := congrArg List.length this
    simp at this
   case enter f args =>
    refine Calls.mono hrun fun e w3 he => ?_
    cases e with
    | returned v => simp only at he ⊢; rw [hput] at he; exact next _ _ he.2.1 he.2.2.1 he.2.2.2
    | panicked c => exact hQ _ _ _ _ hdef he
    | outgrown => exact he
   case row r args =>
    refine Rows.mono hrun fun v w3 he => ?_
    rw [hput] at he
    exact next _ _ he.2.1 he.2.2.1 he.2.2.2
  | halt x w2 =>
   cases x <;> simp only [Oper.upon] at hrun ⊢ <;> exact hQ _ _ _ _ hdef hrun
end
end Go.Proofs.YtohokfbohdoijaaGreatDoor

/- Regions that leave their order open and hold guarded operations ('&&', '||'): the law of XFree, where each guard's value is known. Of any program; no condition. -/
namespace Go.Proofs.YtohokfbohdoijaaGreatDoor
open Go.RowKit
set_option linter.unusedVariables false
section
variable {P : Program} {ops : Array Oper} {Q : Exit → Act → World → Prop}
def okAtG (ops : Array Oper) (m : Nat) (ds : List Tmp) (N : Nat) (i : Nat) : Bool :=
 match ops[i]? with
 | none => false
 | some o => o.dst == ds[i]? && decide (i < ds.length) && decide (ds.getD i 0 < N) && (match o.guard with | none => true | some (g, _) => (afters ops i).contains g) && isPlain o.op && (afters ops i).all (fun e => decide (e < i)) &&
  (List.range m).all (fun k => k == i || ds[k]? != ds[i]?) &&
  o.op.operands.toList.all (fun x => match x with
   | .tmp t => (List.range m).all fun k => ds[k]? != some t || (afters ops i).contains k
   | _ => true)
theorem okAtG_spec {m : Nat} {ds : List Tmp} {N i : Nat} (h : okAtG ops m ds N i = true) :
 ∃ o, ops[i]? = some o ∧ o.dst = some (ds.getD i 0) ∧ ds[i]? = some (ds.getD i 0) ∧ ds.getD i 0 < N ∧ (∀ g b, o.guard = some (g, b) → g ∈ afters ops i) ∧ (∀ cs b, o.op ≠ .select cs b) ∧ (∀ e ∈ afters ops i, e < i) ∧
  (∀ k, k < m → k ≠ i → ds[k]? ≠ ds[i]?) ∧ (∀ x ∈ o.op.operands, ∀ t, x = .tmp t → ∀ k, k < m → ds[k]? = some t → k ∈ afters ops i) := by
 unfold okAtG at h
 cases ho : ops[i]? with
 | none => rw [ho] at h; cases h
 | some o =>
  rw [ho] at h
  simp only [Bool.and_eq_true, beq_iff_eq, decide_eq_true_eq, List.all_eq_true, Bool.or_eq_true, bne_iff_ne, List.mem_range] at h
  obtain ⟨⟨⟨⟨⟨⟨⟨h1, h2⟩, h3⟩, h4⟩, h5⟩, h6⟩, h7⟩, h8⟩ := h
  have hi : ds[i]? = some (ds.getD i 0) := by simp [List.getD_eq_getElem?_getD, h2]
  refine ⟨o, rfl, h1.trans hi, hi, h3, ?_, ?_, h6, fun k hk hne => (h7 k hk).resolve_left hne, ?_⟩
  · intro g b he
    rw [he] at h4
    simpa using h4
  · intro cs b he
    rw [he] at h5
    cases h5
  · rintro x hx t rfl k hk hd
    have := h8 _ (by simpa using hx)
    simp only [List.all_eq_true, List.mem_range, Bool.or_eq_true, bne_iff_ne, List.contains_iff_mem] at this
    exact (this k hk).resolve_left fun h => h hd
def FreeStepG (P : Program) (Q : Exit → Act → World → Prop) (ops : Array Oper) (ds : List Tmp) (aF : (Nat → Value) → Act) (S : World → Prop) (Φ : Nat → Value → World → Prop) (fresh : Nat → Bool) (i : Nat) (o : Oper) : Prop :=
 ((∀ (vals : Nat → Value) (w : World), S w → (∀ e ∈ afters ops i, Φ e (vals e) w) → ∀ g b, o.guard = some (g, b) → vals g = .bool b) ∧ FreeStep P Q ops ds aF S Φ fresh i o) ∨
 (∃ g b, o.guard = some (g, b) ∧ (∀ (vals : Nat → Value) (w : World), S w → (∀ e ∈ afters ops i, Φ e (vals e) w) → vals g = .bool (!b)) ∧ (∀ w, S w → Φ i undef w) ∧ fresh i = false)
theorem FreeStepG.plain {ds : List Tmp} {aF : (Nat → Value) → Act} {S : World → Prop} {Φ : Nat → Value → World → Prop} {fresh : Nat → Bool} {i : Nat} {o : Oper} (hg : o.guard = none) (h : FreeStep P Q ops ds aF S Φ fresh i o) : FreeStepG P Q ops ds aF S Φ fresh i o :=
 .inl ⟨fun _ _ _ _ g b e => (by rw [hg] at e; cases e), h⟩
theorem FreeStepG.yes {ds : List Tmp} {aF : (Nat → Value) → Act} {S : World → Prop} {Φ : Nat → Value → World → Prop} {fresh : Nat → Bool} {i : Nat} {o : Oper} (hg : ∀ (vals : Nat → Value) (w : World), S w → (∀ e ∈ afters ops i, Φ e (vals e) w) → ∀ g b, o.guard = some (g, b) → vals g = .bool b) (h : FreeStep P Q ops ds aF S Φ fresh i o) : FreeStepG P Q ops ds aF S Φ fresh i o :=
 .inl ⟨hg, h⟩
theorem fill_at {D : Nat → Option Tmp} {vals : Nat → Value} {l : Array Bool} {a : Act} {g : Nat} {d : Tmp} (hg : l.getD g false = true) (hd : D g = some d) (hs : d < a.tmps.size) :
 ∀ {m}, g < m → (∀ k, k < m → k ≠ g → D k ≠ some d) → (fill D vals l a m).eval (.tmp d) = vals g
 | 0, h, _ => by omega
 | m + 1, h, hne => by
  unfold fill
  rcases Nat.lt_or_ge g m with h1 | h1
  · have ih := fill_at (vals := vals) hg hd hs (m := m) h1 fun k hk => hne k (by omega)
    split
    · rw [Act.eval_put fun e he1 he2 => hne m (by omega) (by omega) (by injection he2 with he2; rw [he2]; exact he1), ih]
    · exact ih
  · obtain rfl : g = m := by omega
    rw [if_pos hg, hd]
    exact put_same _ _ _ (by rw [fill_size]; exact hs)
theorem yielded_at {a : Act} {g : Nat} {d : Tmp} {b : Bool} (hd : (ops[g]?).bind (·.dst) = some d) (hs : d < a.tmps.size) (h : a.eval (.tmp d) = .bool b) : yielded ops a.tmps g = some b := by
 unfold yielded
 rw [hd]
 simp only [Option.bind_some]
 have h2 : a.tmps[d]? = some (.bool b) := by
  rw [Array.getElem?_eq_getElem hs]
  simp only [Act.eval, Array.getD_eq_getD_getElem?, Array.getElem?_eq_getElem hs, Option.getD_some] at h
  rw [h]
 rw [h2]
theorem region_freed {id : Nat} {a : Act} {w : World} {os : List Oper} (m r D : Nat) (ds : List Tmp) (aF : (Nat → Value) → Act) (S : World → Prop) (Φ : Nat → Value → World → Prop) (fresh : Nat → Bool)
 (hm : P.follows .mixedOrders = true)
 (haF : ∀ vals, fillAll (fun k => ds[k]?) vals a m = aF vals)
 (hr : os.length = m + r)
 (hok : (List.range m).all (okAtG os.toArray m ds a.tmps.size) = true)
 (hend : (List.range os.length).all (fun i => decide (i < m) || (List.range m).all fun k => (anc os.toArray D i).contains k) = true)
 (hQ : ∀ c (t t' : Array Value) (d : List Deferred) w, Q (.panic c) ⟨t, d⟩ w → Q (.panic c) ⟨t', d⟩ w)
 (hSb : ∀ w w', Below w.heap.size w w' → S w → S w')
 (hΦb : ∀ k v w w', Below w.heap.size w w' → Φ k v w → Φ k v w')
 (hS : S w.drew)
 (hop : AllAt (FreeStepG P Q os.toArray ds aF S Φ fresh) 0 os m)
 (hfin : ∀ (vals : Nat → Value) (w : World), S w → (∀ k, k < m → Φ k (vals k) w) →
   (∀ j k, j < m → k < m → j ≠ k → fresh j = true → fresh k = true → ∀ p q, vals j = .pointer (some ⟨p, 0, none⟩) → vals k = .pointer (some ⟨q, 0, none⟩) → p ≠ q) →
   wpAny P .any os.toArray Q r (firsts (m + r) m) (aF vals) w) :
 (Code.region id os.toArray true).wp P Q a w := by
 generalize hops : os.toArray = ops at *
 have hsz0 : ops.size = m + r := by rw [← hops]; simpa using hr
 have hle : m ≤ ops.size := by omega
 replace hend : (List.range ops.size).all (fun i => decide (i < m) || (List.range m).all fun k => (anc ops D i).contains k) = true := by rw [hsz0, ← hr]; exact hend
 replace hop : ∀ i, i < m → ∀ o, ops[i]? = some o → FreeStepG P Q ops ds aF S Φ fresh i o := fun i hi o ho => by
  have := hop.at i hi o (by rw [← hops] at ho; simpa using ho)
  rwa [Nat.zero_add] at this
 replace hfin : ∀ (vals : Nat → Value) (w : World), S w → (∀ k, k < m → Φ k (vals k) w) →
  (∀ j k, j < m → k < m → j ≠ k → fresh j = true → fresh k = true → ∀ p q, vals j = .pointer (some ⟨p, 0, none⟩) → vals k = .pointer (some ⟨q, 0, none⟩) → p ≠ q) →
  ∀ l : Array Bool, l.size = ops.size → (∀ k, l.getD k false = decide (k < m)) → wpAny P .any ops Q (ops.size - m) l (aF vals) w := fun vals w h1 h2 h3 l h4 h5 => by
  rw [firsts_eq (h4.trans hsz0) (by omega) h5, show ops.size - m = r by omega]
  exact hfin vals w h1 h2 h3
 replace hQ : ∀ c (a a' : Act) w, a.defers = a'.defers → Q (.panic c) a w → Q (.panic c) a' w := by
  rintro c ⟨t, d⟩ ⟨t', d'⟩ w he h
  obtain rfl : d = d' := he
  exact hQ c t t' d w h
 refine wp_region_any hm ?_
 have hat : ∀ i, i < m → okAtG ops m ds a.tmps.size i = true := fun i hi => List.all_eq_true.1 hok i (List.mem_range.2 hi)
 have hlate : ∀ i, m ≤ i → i < ops.size → ∀ k, k < m → k ∈ anc ops D i := fun i h1 h2 k hk => by
  have := List.all_eq_true.1 hend i (List.mem_range.2 h2)
  simp only [Bool.or_eq_true, decide_eq_true_eq, List.all_eq_true, List.mem_range, List.contains_iff_mem] at this
  exact (this.resolve_left (by omega)) k hk
 have hfr : ∀ (l : Array Bool), l = Array.replicate ops.size false → ∀ k, l.getD k false = false := by
  rintro l rfl k
  simp only [Array.getD_eq_getD_getElem?, Array.getElem?_replicate]
  split <;> rfl
 let J : Array Bool → Act → World → Prop := fun l a' w' => (l.size = ops.size ∧ ∀ k, m ≤ k → l.getD k false = false) ∧ S w' ∧ (∀ k, k < m → l.getD k false = true → ∀ e ∈ afters ops k, l.getD e false = true) ∧
  ∃ vals, a' = fill (fun k => ds[k]?) vals l a m ∧ (∀ k, k < m → l.getD k false = true → Φ k (vals k) w' ∧ (fresh k = true → ∃ q, vals k = .pointer (some ⟨q, 0, none⟩) ∧ q < w'.heap.size)) ∧
   (∀ j k, j < m → k < m → l.getD j false = true → l.getD k false = true → j ≠ k → fresh j = true → fresh k = true → ∀ p q, vals j = .pointer (some ⟨p, 0, none⟩) → vals k = .pointer (some ⟨q, 0, none⟩) → p ≠ q)
 have hdown : ∀ l a' w', J l a' w' → ∀ k, l.getD k false = true → ∀ e ∈ afters ops k, l.getD e false = true := fun l a' w' hj k hk => by
  rcases Nat.lt_or_ge k m with h1 | h1
  · exact hj.2.2.1 k h1 hk
  · rw [hj.1.2 k h1] at hk
    cases hk
 have hz : ∀ j, j ≤ m → left (Array.replicate ops.size false) j = j := fun j => by
  induction j with
  | zero => exact fun _ => rfl
  | succ j ihj => exact fun h => by unfold left; rw [ihj (by omega), hfr _ rfl j]; rfl
 have key := wpAny_inv (P := P) (ops := ops) (Q := Q) (md := .any) m J (fun l a' w' hj => hj.1) hle (fun i o h1 ho e he hb => ?hback) (fun l a' w' i hj hi h1 => ?hstep) (fun l a' w' i hj hi h1 k hk => ?hwait) (fun l a' w' hj hall => ?hfin)
  m (Array.replicate ops.size false) a w.drew (hz m (Nat.le_refl _)) ⟨⟨by simp, fun k _ => hfr _ rfl k⟩, hS, fun k _ h => (by rw [hfr _ rfl k] at h; cases h),
   fun _ => undef, (fill_none fun k _ => hfr _ rfl k).symm, fun k _ h => (by rw [hfr _ rfl k] at h; cases h), fun j k _ _ h => (by rw [hfr _ rfl j] at h; cases h)⟩
 · have e : ops.size - m + m = ops.size := by omega
   rw [e] at key
   exact key
 case hback =>
  obtain ⟨_, _, _, _, _, _, _, hlow, _, _⟩ := okAtG_spec (hat i h1)
  refine hlow e.on ?_
  unfold afters
  rw [ho]
  exact List.mem_map.2 ⟨e, List.mem_filter.2 ⟨by simpa using he, hb⟩, rfl⟩
 case hwait =>
  have hlt : i < ops.size := by
   obtain ⟨_, o, ho, _⟩ := mem_ready.1 hi
   exact (Array.getElem?_eq_some_iff.1 ho).1
  exact anc_up (hdown l a' w' hj) D i (fun e he => ready_after hi he) k (hlate i h1 hlt k hk)
 case hfin =>
  obtain ⟨⟨hs, hl⟩, hSw, _, vals, rfl, hv, hp⟩ := hj
  rw [fill_all hall, haF]
  refine hfin vals w' hSw (fun k hk => (hv k hk (hall k hk)).1) (fun j k h1 h2 => hp j k h1 h2 (hall j h1) (hall k h2)) l hs fun k => ?_
  rcases Nat.lt_or_ge k m with h | h
  · rw [hall k h, decide_eq_true h]
  · rw [hl k h, decide_eq_false (by omega)]
 case hstep =>
  obtain ⟨⟨hs, hl⟩, hSw, hdn, vals, rfl, hv, hp⟩ := hj
  obtain ⟨o, ho, hdst, hdi, hlt, hg, hsel, hlow, hdist, hops⟩ := okAtG_spec (hat i h1)
  have hu : l.getD i false = false := by
   have h2 := (mem_ready.1 hi).1
   have h3 : i < l.size := by omega
   simp only [Array.getD_eq_getD_getElem?] at h2 ⊢
   rw [Array.getElem?_eq_getElem h3] at h2 ⊢
   simpa using h2
  have hdep : ∀ e ∈ afters ops i, l.getD e false = true := fun e he => ready_after hi he
  have heval : ∀ x ∈ o.op.operands, (fill (fun k => ds[k]?) vals l a m).eval x = (aF vals).eval x := fun x hx => by
   rw [← haF vals]
   exact fill_eval fun k hk hk2 d hd hxd => by
    rw [hdep k (hops x hx d hxd k hk hd)] at hk2
    cases hk2
  have hphi : ∀ e ∈ afters ops i, Φ e (vals e) w' := fun e he => (hv e (by have := hlow e he; omega) (hdep e he)).1
  have hyld : ∀ g b, g ∈ afters ops i → vals g = .bool b → yielded ops (fill (fun k => ds[k]?) vals l a m).tmps g = some b := fun g b hga hb => by
   have hgm : g < m := by have := hlow g hga; omega
   obtain ⟨og, hog, hgd, hgi, hglt, _, _, _, hgdist, _⟩ := okAtG_spec (hat g hgm)
   have h4 : (fill (fun k => ds[k]?) vals l a m).eval (.tmp (ds.getD g 0)) = vals g := fill_at (hdep g hga) hgi hglt hgm fun k hk hne e => hgdist k hk hne (e.trans hgi.symm)
   refine yielded_at (by rw [hog]; exact hgd) (by rw [fill_size]; exact hglt) (h4.trans hb)
  have hsz : ds.getD i 0 < (aF vals).tmps.size := by rw [← haF vals, fillAll_size]; exact hlt
  have next : ∀ v w2, Below w'.heap.size w' w2 → Φ i v w2 → (fresh i = true → ∃ q, v = .pointer (some ⟨q, 0, none⟩) ∧ w'.heap.size ≤ q ∧ q < w2.heap.size) →
   J (l.setIfInBounds i true) ((fill (fun k => ds[k]?) vals l a m).put o.dst v) w2 := fun v w2 hb hphi hfresh => by
   have hne : ∀ k, k ≠ i → (l.setIfInBounds i true).getD k false = l.getD k false := fun k hk => getD_other (Ne.symm hk) _
   refine ⟨⟨by simpa using hs, fun k hk => by rw [hne k (by omega)]; exact hl k hk⟩, hSb _ _ hb hSw, fun k hk hk2 e he => ?_, upd vals i v, ?_, fun k hk hk2 => ?_, fun j k hj hk hj2 hk2 hjk fj fk p q ep eq => ?_⟩
   · by_cases hki : k = i
     · subst hki
       rw [hne e (by have := hlow e he; omega)]
       exact hdep e he
     · rw [hne k hki] at hk2
       by_cases hei : e = i
       · subst hei
         exact getD_same (by omega) _
       · rw [hne e hei]
         exact hdn k hk hk2 e he
   · rw [hdst, ← hdi]
     exact fill_set (by omega) hu h1 fun j hj hji d hd hdi2 => hdist j hj hji (hd.trans hdi2.symm)
   · by_cases hki : k = i
     · subst hki
       rw [show upd vals k v k = v from if_pos rfl]
       exact ⟨hphi, fun hf => by obtain ⟨q, h1, _, h3⟩ := hfresh hf; exact ⟨q, h1, h3⟩⟩
     · rw [hne k hki] at hk2
       rw [show upd vals i v k = vals k from if_neg hki]
       obtain ⟨h3, h4⟩ := hv k hk hk2
       exact ⟨hΦb _ _ _ _ hb h3, fun hf => by obtain ⟨q, h5, h6⟩ := h4 hf; exact ⟨q, h5, Nat.lt_of_lt_of_le h6 hb.size⟩⟩
   · by_cases hji : j = i
     · subst hji
       have hki : k ≠ j := fun h => hjk h.symm
       rw [show upd vals j v j = v from if_pos rfl] at ep
       rw [show upd vals j v k = vals k from if_neg hki] at eq
       rw [hne k hki] at hk2
       obtain ⟨q1, e1, l1, _⟩ := hfresh fj
       obtain ⟨q2, e2, l2⟩ := (hv k hk hk2).2 fk
       rw [e1] at ep
       rw [e2] at eq
       cases ep
       cases eq
       omega
     · by_cases hki : k = i
       · subst hki
         rw [show upd vals k v k = v from if_pos rfl] at eq
         rw [show upd vals k v j = vals j from if_neg hji] at ep
         rw [hne j hji] at hj2
         obtain ⟨q1, e1, l1, _⟩ := hfresh fk
         obtain ⟨q2, e2, l2⟩ := (hv j hj hj2).2 fj
         rw [e1] at eq
         rw [e2] at ep
         cases ep
         cases eq
         omega
       · rw [show upd vals i v j = vals j from if_neg hji] at ep
         rw [show upd vals i v k = vals k from if_neg hki] at eq
         rw [hne j hji] at hj2
         rw [hne k hki] at hk2
         exact hp j k hj hk hj2 hk2 hjk fj fk p q ep eq
  rcases hop i h1 o ho with ⟨hgv, hop2⟩ | ⟨g, b, hgb, hgv, hun, hfr0⟩
  case inr =>
   unfold wpOp
   rw [ho]
   simp only []
   have hnot : Region.wanted o (yielded ops (fill (fun k => ds[k]?) vals l a m).tmps) = false := by
    unfold Region.wanted
    rw [hgb]
    simp only []
    rw [hyld g (!b) (hg g b hgb) (hgv vals w' hSw hphi)]
    cases b <;> rfl
   rw [if_neg (by rw [hnot]; decide)]
   exact next _ _ (Below.refl _ _) (hun w' hSw) (fun hf => by rw [hfr0] at hf; cases hf)
  have hwant : Region.wanted o (yielded ops (fill (fun k => ds[k]?) vals l a m).tmps) = true := by
   unfold Region.wanted
   cases hgo : o.guard with
   | none => rfl
   | some gb =>
    obtain ⟨g, b⟩ := gb
    simp only []
    rw [hyld g b (hg g b hgo) (hgv vals w' hSw hphi g b hgo)]
    simp
  have hrun := hop2 vals w' hSw hphi
   (fun a2 w2 => a2.defers = (aF vals).defers ∧ Below w'.heap.size w' w2 ∧ Φ i (a2.eval (.tmp (ds.getD i 0))) w2 ∧ (fresh i = true → ∃ q, a2.eval (.tmp (ds.getD i 0)) = .pointer (some ⟨q, 0, none⟩) ∧ w'.heap.size ≤ q ∧ q < w2.heap.size))
   (fun a2 w2 h1 h2 h3 h4 => ⟨h1, h2, h3, h4⟩)
  unfold wpOp
  rw [ho]
  simp only []
  rw [if_pos hwant]
  refine .inl ?_
  unfold Oper.wp at hrun ⊢
  rw [execOp_congr o hsel heval]
  generalize (execOp (aF vals).eval o).run P w' = r at hrun ⊢
  have hdef : (aF vals).defers = (fill (fun k => ds[k]?) vals l a m).defers := by rw [← haF vals, fillAll_defers, fill_defers]
  have hput : ∀ v, ((aF vals).put o.dst v).eval (.tmp (ds.getD i 0)) = v := fun v => by rw [hdst]; exact put_same _ _ _ hsz
  cases r with
  | ok n w2 =>
   cases n <;> simp only [Oper.upon] at hrun ⊢
   case value v => rw [hput] at hrun; exact next _ _ hrun.2.1 hrun.2.2.1 hrun.2.2.2
   case skip => rw [hput] at hrun; exact next _ _ hrun.2.1 hrun.2.2.1 hrun.2.2.2
   case defer d =>
    exfalso
    have := hrun.1
    rw [put_defers2] at this
    have := congrArg List.length this
    simp at this
   case enter f args =>
    refine Calls.mono hrun fun e w3 he => ?_
    cases e with
    | returned v => simp only at he ⊢; rw [hput] at he; exact next _ _ he.2.1 he.2.2.1 he.2.2.2
    | panicked c => exact hQ _ _ _ _ hdef he
    | outgrown => exact he
   case row r args =>
    refine Rows.mono hrun fun v w3 he => ?_
    rw [hput] at he
    exact next _ _ he.2.1 he.2.2.1 he.2.2.2
  | halt x w2 =>
   cases x <;> simp only [Oper.upon] at hrun ⊢ <;> exact hQ _ _ _ _ hdef hrun
theorem region_freeg {id : Nat} {a : Act} {w : World} {os : List Oper} (m r : Nat) (ds : List Tmp) (aF : (Nat → Value) → Act) (S : World → Prop) (Φ : Nat → Value → World → Prop) (fresh : Nat → Bool)
 (hm : P.follows .mixedOrders = true)
 (haF : ∀ vals, fillAll (fun k => ds[k]?) vals a m = aF vals)
 (hr : os.length = m + r)
 (hok : (List.range m).all (okAtG os.toArray m ds a.tmps.size) = true)
 (hend : (List.range os.length).all (fun i => decide (i < m) || (List.range m).all fun k => (anc os.toArray 3 i).contains k) = true)
 (hQ : ∀ c (t t' : Array Value) (d : List Deferred) w, Q (.panic c) ⟨t, d⟩ w → Q (.panic c) ⟨t', d⟩ w)
 (hSb : ∀ w w', Below w.heap.size w w' → S w → S w')
 (hΦb : ∀ k v w w', Below w.heap.size w w' → Φ k v w → Φ k v w')
 (hS : S w.drew)
 (hop : AllAt (FreeStepG P Q os.toArray ds aF S Φ fresh) 0 os m)
 (hfin : ∀ (vals : Nat → Value) (w : World), S w → (∀ k, k < m → Φ k (vals k) w) →
   (∀ j k, j < m → k < m → j ≠ k → fresh j = true → fresh k = true → ∀ p q, vals j = .pointer (some ⟨p, 0, none⟩) → vals k = .pointer (some ⟨q, 0, none⟩) → p ≠ q) →
   wpAny P .any os.toArray Q r (firsts (m + r) m) (aF vals) w) :
 (Code.region id os.toArray true).wp P Q a w :=
 region_freed m r 3 ds aF S Φ fresh hm haF hr hok hend hQ hSb hΦb hS hop hfin
end
end Go.Proofs.YtohokfbohdoijaaGreatDoor
