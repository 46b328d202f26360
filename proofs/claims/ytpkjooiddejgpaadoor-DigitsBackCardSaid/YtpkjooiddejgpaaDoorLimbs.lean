/- Plain mathematics on lists of limbs of 32 bits: the number that a list tells, the shortest list of a number, and what sums and differences limb by limb come to. No condition. -/
namespace Go.Proofs.YtpkjooiddejgpaaDoor.Limb

/-- The number that limbs tell, the lowest first. -/
def val : List Nat → Nat
  | [] => 0
  | x :: xs => x + 4294967296 * val xs

/-- All are below 2^32. -/
def Small (xs : List Nat) : Prop := ∀ x ∈ xs, x < 4294967296

/-- The shortest limbs of a number, at most f of them. -/
def limbsTo : Nat → Nat → List Nat
  | 0, _ => []
  | f + 1, n => if n = 0 then [] else (n % 4294967296) :: limbsTo f (n / 4294967296)

/-- The shortest limbs of a number. -/
def limbs (n : Nat) : List Nat := limbsTo n n

/-- Without limbs of 0 at the end. -/
def trim : List Nat → List Nat
  | [] => []
  | x :: xs => if trim xs = [] ∧ x = 0 then [] else x :: trim xs

theorem limbsTo_zero (f : Nat) : limbsTo f 0 = [] := by cases f <;> simp [limbsTo]
theorem limbsTo_more (f : Nat) : ∀ g n, n ≤ f → n ≤ g → limbsTo f n = limbsTo g n := by
  induction f with
  | zero => intro g n h _; obtain rfl : n = 0 := by omega
            rw [limbsTo_zero, limbsTo_zero]
  | succ f ih =>
    intro g n hf hg
    cases g with
    | zero => obtain rfl : n = 0 := by omega
              rw [limbsTo_zero, limbsTo_zero]
    | succ g =>
      rw [limbsTo, limbsTo]
      by_cases h : n = 0
      · rw [if_pos h, if_pos h]
      · rw [if_neg h, if_neg h, ih g (n / 4294967296) (by omega) (by omega)]
theorem limbs_zero : limbs 0 = [] := rfl
theorem limbs_pos {n : Nat} (h : n ≠ 0) : limbs n = (n % 4294967296) :: limbs (n / 4294967296) := by
  cases n with
  | zero => exact absurd rfl h
  | succ m =>
    rw [limbs, limbsTo, if_neg h, limbs, limbsTo_more m ((m + 1) / 4294967296) ((m + 1) / 4294967296) (by omega) (Nat.le_refl _)]

theorem small_nil : Small [] := by intro x hx; cases hx
theorem small_cons {x : Nat} {xs : List Nat} : Small (x :: xs) ↔ x < 4294967296 ∧ Small xs := by simp [Small]
theorem small_append {xs ys : List Nat} : Small (xs ++ ys) ↔ Small xs ∧ Small ys := by
  simp only [Small, List.mem_append]
  exact ⟨fun h => ⟨fun x hx => h x (.inl hx), fun x hx => h x (.inr hx)⟩, fun h x hx => hx.elim (h.1 x) (h.2 x)⟩
theorem small_take {xs : List Nat} (h : Small xs) (k : Nat) : Small (xs.take k) := fun x hx => h x (List.mem_of_mem_take hx)
theorem small_drop {xs : List Nat} (h : Small xs) (k : Nat) : Small (xs.drop k) := fun x hx => h x (List.mem_of_mem_drop hx)
theorem small_getD {xs : List Nat} (h : Small xs) (k : Nat) : xs.getD k 0 < 4294967296 := by
  by_cases hk : k < xs.length
  · rw [List.getD_eq_getElem?_getD, List.getElem?_eq_getElem hk]; exact h _ (List.getElem_mem hk)
  · rw [List.getD_eq_getElem?_getD, List.getElem?_eq_none (by omega)]; exact (by decide : (0 : Nat) < 4294967296)
theorem small_set {xs : List Nat} (h : Small xs) (k v : Nat) (hv : v < 4294967296) : Small (xs.set k v) := fun x hx => (List.mem_or_eq_of_mem_set hx).elim (h x) (fun e => by omega)

/-- A limb, 0 beyond: under a name that no simp set opens. -/
def lim (xs : List Nat) (k : Nat) : Nat := xs.getD k 0
theorem lim_lt {xs : List Nat} (h : Small xs) (k : Nat) : lim xs k < 4294967296 := small_getD h k

theorem small_limbs (n : Nat) : Small (limbs n) := by
  induction n using Nat.strongRecOn with
  | ind n ih =>
    by_cases h : n = 0
    · subst h; rw [limbs_zero]; exact small_nil
    · rw [limbs_pos h, small_cons]; exact ⟨by omega, ih _ (by omega)⟩

theorem val_limbs (n : Nat) : val (limbs n) = n := by
  induction n using Nat.strongRecOn with
  | ind n ih =>
    by_cases h : n = 0
    · subst h; rw [limbs_zero]; rfl
    · rw [limbs_pos h, val, ih _ (by omega)]; omega

theorem val_nil_of_trim {xs : List Nat} (h : trim xs = []) : val xs = 0 := by
  induction xs with
  | nil => rfl
  | cons x xs ih =>
    rw [trim] at h
    split at h
    · rename_i hc; rw [val, ih hc.1, hc.2]
    · cases h

theorem trim_eq_limbs {xs : List Nat} (h : Small xs) : trim xs = limbs (val xs) := by
  induction xs with
  | nil => rw [val, limbs_zero]; rfl
  | cons x xs ih =>
    rw [small_cons] at h
    have ih := ih h.2
    rw [trim]
    split
    · rename_i hc; rw [val, val_nil_of_trim hc.1, hc.2]; simp [limbs_zero]
    · rename_i hc
      have hne : val (x :: xs) ≠ 0 := by
        intro h0
        rw [val] at h0
        apply hc
        have h1 : val xs = 0 := by omega
        exact ⟨by rw [ih, h1, limbs_zero], by omega⟩
      rw [limbs_pos hne, val]
      have e1 : (x + 4294967296 * val xs) % 4294967296 = x := by omega
      have e2 : (x + 4294967296 * val xs) / 4294967296 = val xs := by omega
      rw [e1, e2, ih]

theorem trim_len_le (xs : List Nat) : (trim xs).length ≤ xs.length := by
  induction xs with
  | nil => exact Nat.le_refl _
  | cons x xs ih => rw [trim]; split <;> simp <;> omega

theorem trim_take (ys : List Nat) : trim ys = ys.take (trim ys).length := by
  induction ys with
  | nil => rfl
  | cons y ys ih => rw [trim]; split <;> simp; exact ih

theorem limbs_inj {a b : Nat} (h : limbs a = limbs b) : a = b := by rw [← val_limbs a, ← val_limbs b, h]

theorem val_append (xs ys : List Nat) : val (xs ++ ys) = val xs + 4294967296 ^ xs.length * val ys := by
  induction xs with
  | nil => simp [val]
  | cons x xs ih => rw [List.cons_append, val, val, ih, List.length_cons, Nat.pow_succ, Nat.mul_add, Nat.add_assoc, Nat.mul_comm (4294967296 ^ xs.length) 4294967296, Nat.mul_assoc]

theorem val_lt {xs : List Nat} (h : Small xs) : val xs < 4294967296 ^ xs.length := by
  induction xs with
  | nil => simp [val]
  | cons x xs ih =>
    rw [small_cons] at h
    have := ih h.2
    rw [val, List.length_cons, Nat.pow_succ]
    have : val xs + 1 ≤ 4294967296 ^ xs.length := this
    omega

theorem val_take_succ {xs : List Nat} {k : Nat} (h : k < xs.length) : val (xs.take (k + 1)) = val (xs.take k) + 4294967296 ^ k * xs.getD k 0 := by
  rw [List.take_succ_eq_append_getElem h, val_append, List.length_take, Nat.min_eq_left (by omega)]
  simp [val, List.getD_eq_getElem?_getD, List.getElem?_eq_getElem h]

theorem val_split (xs : List Nat) (k : Nat) (h : k ≤ xs.length) : val xs = val (xs.take k) + 4294967296 ^ k * val (xs.drop k) := by
  have e := val_append (xs.take k) (xs.drop k)
  rw [List.take_append_drop, List.length_take, Nat.min_eq_left h] at e
  exact e

theorem take_set_lt {xs : List Nat} {j k v : Nat} (h : k ≤ j) : (xs.set j v).take k = xs.take k := by
  rw [List.take_set_of_le h]

theorem take_succ_set {xs : List Nat} {k v : Nat} (h : k < xs.length) : (xs.set k v).take (k + 1) = xs.take k ++ [v] := by
  rw [List.take_succ_eq_append_getElem (by simpa using h), List.getElem_set_self, take_set_lt (Nat.le_refl _)]

theorem drop_succ_set {xs : List Nat} {k v : Nat} : (xs.set k v).drop (k + 1) = xs.drop (k + 1) := List.drop_set_of_lt (by omega)

theorem val_take_set {xs : List Nat} {k v : Nat} (h : k < xs.length) : val ((xs.set k v).take (k + 1)) = val (xs.take k) + 4294967296 ^ k * v := by
  rw [take_succ_set h, val_append, List.length_take, Nat.min_eq_left (by omega)]
  simp [val]

theorem length_limbs_le {n k : Nat} (h : n < 4294967296 ^ k) : (limbs n).length ≤ k := by
  induction k generalizing n with
  | zero => have : n = 0 := by simpa using h
            subst this; simp [limbs_zero]
  | succ k ih =>
    by_cases h0 : n = 0
    · subst h0; simp [limbs_zero]
    · rw [limbs_pos h0, List.length_cons]
      have : n / 4294967296 < 4294967296 ^ k := by rw [Nat.div_lt_iff_lt_mul (by decide)]; rwa [Nat.pow_succ] at h
      have := ih this
      omega

theorem lt_length_limbs {n k : Nat} (h : 4294967296 ^ k ≤ n) : k < (limbs n).length := by
  have h1 := val_lt (small_limbs n)
  rw [val_limbs] at h1
  have h2 : 4294967296 ^ k < 4294967296 ^ (limbs n).length := Nat.lt_of_le_of_lt h h1
  exact (Nat.pow_lt_pow_iff_right (by decide)).1 h2

/-- A list of small limbs of which the last counts is the shortest one. -/
theorem eq_limbs {xs : List Nat} (h : Small xs) (hl : xs = [] ∨ 4294967296 ^ (xs.length - 1) ≤ val xs) : xs = limbs (val xs) := by
  rw [← trim_eq_limbs h]
  rcases hl with rfl | hl
  · rfl
  · have hlen : (trim xs).length ≤ xs.length := by
      clear h hl
      induction xs with
      | nil => exact Nat.le_refl _
      | cons x xs ih => rw [trim]; split <;> simp <;> omega
    have hpre : ∀ ys : List Nat, trim ys = ys.take (trim ys).length := by
      intro ys
      induction ys with
      | nil => rfl
      | cons y ys ih => rw [trim]; split <;> simp; exact ih
    have h2 := lt_length_limbs hl
    rw [← trim_eq_limbs h] at h2
    rw [hpre xs, List.take_of_length_le (by omega)]

theorem length_limbs_pred {n : Nat} (h : n ≠ 0) : 4294967296 ^ ((limbs n).length - 1) ≤ n := by
  refine Nat.le_of_not_lt fun hlt => ?_
  have h1 := length_limbs_le hlt
  have h2 : (limbs n).length ≠ 0 := by rw [limbs_pos h]; simp
  omega

theorem limbs_eq_nil {n : Nat} : limbs n = [] ↔ n = 0 := by
  constructor
  · intro h; rw [← val_limbs n, h]; rfl
  · rintro rfl; exact limbs_zero

theorem length_limbs_mono {a b : Nat} (h : a ≤ b) : (limbs a).length ≤ (limbs b).length := by
  refine length_limbs_le (Nat.lt_of_le_of_lt h ?_)
  have := val_lt (small_limbs b)
  rwa [val_limbs] at this

theorem trim_take_last {xs : List Nat} {k : Nat} (hk : k < xs.length) (h : xs.getD k 0 = 0) : trim (xs.take (k + 1)) = trim (xs.take k) := by
  induction xs generalizing k with
  | nil => simp at hk
  | cons x xs ih =>
    cases k with
    | zero => have : x = 0 := by simpa using h
              subst this; simp [trim]
    | succ k =>
      have := ih (k := k) (by simpa using hk) (by simpa using h)
      simp only [List.take_succ_cons, trim, this]

theorem trim_take_full {xs : List Nat} {k : Nat} (hk : k < xs.length) (h : xs.getD k 0 ≠ 0) : trim (xs.take (k + 1)) = xs.take (k + 1) := by
  induction xs generalizing k with
  | nil => simp at hk
  | cons x xs ih =>
    cases k with
    | zero => have : x ≠ 0 := by simpa using h
              simp [trim, this]
    | succ k =>
      have e := ih (k := k) (by simpa using hk) (by simpa using h)
      have hk' : k < xs.length := by simpa using hk
      have hne : xs.take (k + 1) ≠ [] := by
        intro h0
        have h1 := congrArg List.length h0
        rw [List.length_take, List.length_nil] at h1
        omega
      rw [List.take_succ_cons, trim, e, if_neg (fun hc => hne hc.1)]

/-- Of two lists alike above a place the one with the lesser limb there is the lesser. -/
theorem val_lt_of_lim {xs ys : List Nat} (hx : Small xs) (hl : xs.length = ys.length) {k : Nat} (hk : k < xs.length) (hlt : xs.getD k 0 < ys.getD k 0) (h : ∀ j, k < j → j < xs.length → xs.getD j 0 = ys.getD j 0) : val xs < val ys := by
  induction xs generalizing ys k with
  | nil => simp at hk
  | cons x xs ih =>
    cases ys with
    | nil => simp at hl
    | cons y ys =>
      rw [small_cons] at hx
      cases k with
      | zero =>
        have e : xs = ys := by
          refine List.ext_getElem (by simpa using hl) fun j h1 h2 => ?_
          have := h (j + 1) (by omega) (by simpa using h1)
          simpa [List.getElem?_eq_getElem h1, List.getElem?_eq_getElem h2] using this
        subst e
        simp only [val]
        have : x < y := by simpa using hlt
        omega
      | succ k =>
        have := ih (ys := ys) (k := k) hx.2 (by simpa using hl) (by simpa using hk) (by simpa using hlt) (fun j h1 h2 => by
          have := h (j + 1) (by omega) (by simpa using h2)
          simpa using this)
        simp only [val]
        have := hx.1
        omega

/-- One limb of a sum: what stays, and what goes on. -/
theorem add_step {S T z y c P : Nat} (h : S + c * P = T) :
    S + P * ((z + y + c) % 4294967296) + (z + y + c) / 4294967296 * (P * 4294967296) = T + P * z + P * y := by
  have e : (z + y + c) % 4294967296 + (z + y + c) / 4294967296 * 4294967296 = z + y + c := by omega
  have e2 : P * ((z + y + c) % 4294967296) + (z + y + c) / 4294967296 * (P * 4294967296) = P * (z + y + c) := by
    rw [← e, Nat.mul_add]
    simp only [Nat.add_mul_mod_self_right]
    have : ((z + y + c) % 4294967296 + (z + y + c) / 4294967296 * 4294967296) % 4294967296 = (z + y + c) % 4294967296 := by omega
    have h3 : ((z + y + c) % 4294967296 + (z + y + c) / 4294967296 * 4294967296) / 4294967296 = (z + y + c) / 4294967296 := by omega
    rw [h3, Nat.mod_mod]
    congr 1
    rw [Nat.mul_left_comm]
  rw [Nat.add_assoc, e2, ← h, Nat.mul_add, Nat.mul_add, Nat.mul_comm c P]
  omega

theorem lim_of_ge {xs : List Nat} {k : Nat} (h : xs.length ≤ k) : lim xs k = 0 := by
  simp [lim, List.getD_eq_getElem?_getD, List.getElem?_eq_none h]
theorem lim_set_self {xs : List Nat} {k v : Nat} (h : k < xs.length) : lim (xs.set k v) k = v := by
  simp [lim, List.getD_eq_getElem?_getD, h]
theorem lim_set_ne {xs : List Nat} {j k v : Nat} (h : k ≠ j) : lim (xs.set k v) j = lim xs j := by
  simp [lim, List.getD_eq_getElem?_getD, List.getElem?_set_ne h]
theorem val_take_lim (xs : List Nat) (k : Nat) : val (xs.take (k + 1)) = val (xs.take k) + 4294967296 ^ k * lim xs k := by
  by_cases h : k < xs.length
  · exact val_take_succ h
  · rw [lim_of_ge (by omega), List.take_of_length_le (by omega), List.take_of_length_le (by omega)]; simp
theorem drop_eq_of_lim {xs ys : List Nat} {k : Nat} (hl : xs.length = ys.length) (h : ∀ j, k ≤ j → lim xs j = lim ys j) : xs.drop k = ys.drop k := by
  refine List.ext_getElem (by simp [hl]) fun j h1 h2 => ?_
  have := h (k + j) (by omega)
  simp at h1 h2
  simpa [lim, List.getD_eq_getElem?_getD, List.getElem?_eq_getElem (show k + j < xs.length by omega), List.getElem?_eq_getElem (show k + j < ys.length by omega)] using this

/-- What a limb of a sum keeps, and what it carries on. -/
def sumLo (x y c : Nat) : Nat := (x + y + c) % 4294967296
def sumHi (x y c : Nat) : Nat := (x + y + c) / 4294967296
theorem sumLo_lt (x y c : Nat) : sumLo x y c < 4294967296 := Nat.mod_lt _ (by decide)
theorem sumHi_le {x y c : Nat} (hx : x < 4294967296) (hy : y < 4294967296) (hc : c ≤ 1) : sumHi x y c ≤ 1 := by unfold sumHi; omega

/-- A sum that is made limb by limb in the place of the longer number, behind k limbs. -/
def AddInv (long short zs : List Nat) (k cr : Nat) : Prop :=
  zs.length = long.length ∧ val (zs.take k) + cr * 4294967296 ^ k = val (long.take k) + val (short.take k) ∧ (∀ j, k ≤ j → lim zs j = lim long j) ∧ cr ≤ 1

theorem AddInv.start (long short : List Nat) : AddInv long short long 0 0 := ⟨rfl, by simp [val], fun _ _ => rfl, by omega⟩

theorem AddInv.step {long short zs : List Nat} {k cr : Nat} (h : AddInv long short zs k cr) (hl : Small long) (hs : Small short) (hk : k < long.length) :
    AddInv long short (zs.set k (sumLo (lim zs k) (lim short k) cr)) (k + 1) (sumHi (lim zs k) (lim short k) cr) := by
  obtain ⟨h1, h2, h3, h4⟩ := h
  refine ⟨by simpa using h1, ?_, fun j hj => by rw [lim_set_ne (by omega)]; exact h3 j (by omega), ?_⟩
  · rw [val_take_set (by omega), val_take_lim long, val_take_lim short, ← h3 k (Nat.le_refl _), Nat.pow_succ]
    have := add_step (z := lim zs k) (y := lim short k) (c := cr) (P := 4294967296 ^ k) h2
    unfold sumLo sumHi
    rw [this]
    omega
  · rw [h3 k (Nat.le_refl _)]
    exact sumHi_le (lim_lt hl k) (lim_lt hs k) h4

theorem AddInv.done {long short zs : List Nat} {k cr : Nat} (h : AddInv long short zs k cr) (hs : short.length ≤ k) (hk : k ≤ long.length) (he : k = long.length ∨ cr = 0) :
    val zs + cr * 4294967296 ^ long.length = val long + val short := by
  obtain ⟨h1, h2, h3, h4⟩ := h
  rw [List.take_of_length_le (l := short) hs] at h2
  rcases he with rfl | rfl
  · rwa [List.take_of_length_le (by omega), List.take_of_length_le (by omega)] at h2
  · rw [val_split zs k (by omega), val_split long k hk, drop_eq_of_lim h1 h3]
    omega

theorem add_fits {long short zs : List Nat} {a b : Nat} (hl : long = limbs a) (hs : short = limbs b) (hz : Small zs) (hlen : zs.length = long.length) (hv : val zs = val long + val short) : zs = limbs (a + b) := by
  have e : val zs = a + b := by rw [hv, hl, hs, val_limbs, val_limbs]
  rw [← e]
  refine eq_limbs hz ?_
  by_cases h0 : a = 0
  · left
    rw [h0, limbs_zero] at hl
    rw [hl] at hlen
    exact List.eq_nil_of_length_eq_zero hlen
  · right
    rw [hlen, e, hl]
    exact Nat.le_trans (length_limbs_pred h0) (by omega)

theorem add_carries {long short zs : List Nat} {a b : Nat} (hl : long = limbs a) (hs : short = limbs b) (hz : Small zs) (hlen : zs.length = long.length) (hv : val zs + 1 * 4294967296 ^ long.length = val long + val short) : zs ++ [1] = limbs (a + b) := by
  have e : val (zs ++ [1]) = a + b := by
    rw [val_append, hlen]
    simp only [val]
    rw [hl, hs, val_limbs, val_limbs] at hv
    rw [hl]
    omega
  rw [← e]
  refine eq_limbs (small_append.2 ⟨hz, by intro x hx; simp at hx; omega⟩) (.inr ?_)
  rw [val_append]
  simp [val]

/-- What a limb of a difference keeps, and what it borrows. -/
def diffLo (x y c : Nat) : Nat := (x + 4294967296 - (y + c)) % 4294967296
def diffHi (x y c : Nat) : Nat := if x < y + c then 1 else 0
theorem diffLo_lt (x y c : Nat) : diffLo x y c < 4294967296 := Nat.mod_lt _ (by decide)
theorem diff_parts {x y c : Nat} (hx : x < 4294967296) (hy : y < 4294967296) (hc : c ≤ 1) : diffLo x y c + y + c = x + diffHi x y c * 4294967296 := by
  unfold diffLo diffHi
  split <;> omega
theorem diffHi_le (x y c : Nat) : diffHi x y c ≤ 1 := by unfold diffHi; split <;> omega

/-- A difference that is made limb by limb in the place of the greater number, behind k limbs. -/
def SubInv (long short zs : List Nat) (k br : Nat) : Prop :=
  zs.length = long.length ∧ val (zs.take k) + val (short.take k) = val (long.take k) + br * 4294967296 ^ k ∧ (∀ j, k ≤ j → lim zs j = lim long j) ∧ br ≤ 1

theorem SubInv.start (long short : List Nat) : SubInv long short long 0 0 := ⟨rfl, by simp [val], fun _ _ => rfl, by omega⟩

theorem SubInv.step {long short zs : List Nat} {k br : Nat} (h : SubInv long short zs k br) (hl : Small long) (hs : Small short) (hk : k < long.length) :
    SubInv long short (zs.set k (diffLo (lim zs k) (lim short k) br)) (k + 1) (diffHi (lim zs k) (lim short k) br) := by
  obtain ⟨h1, h2, h3, h4⟩ := h
  refine ⟨by simpa using h1, ?_, fun j hj => by rw [lim_set_ne (by omega)]; exact h3 j (by omega), diffHi_le _ _ _⟩
  rw [val_take_set (by omega), val_take_lim long, val_take_lim short, ← h3 k (Nat.le_refl _), Nat.pow_succ]
  have e := diff_parts (x := lim zs k) (y := lim short k) (c := br) (by rw [h3 k (Nat.le_refl _)]; exact lim_lt hl k) (lim_lt hs k) h4
  generalize diffLo (lim zs k) (lim short k) br = lo at *
  generalize diffHi (lim zs k) (lim short k) br = hi at *
  generalize lim zs k = x at *
  generalize lim short k = y at *
  generalize 4294967296 ^ k = P at *
  have e2 : P * lo + P * y + br * P = P * x + hi * (P * 4294967296) := by
    have := congrArg (P * ·) e
    simp only [Nat.mul_add] at this
    rw [Nat.mul_comm br P, this, Nat.mul_left_comm hi P]
  omega

theorem SubInv.room {long short zs : List Nat} {k br : Nat} (h : SubInv long short zs k br) (hz : Small zs) (hs : short.length ≤ k) (hk : k ≤ long.length) (hle : val short ≤ val long) (hb : br ≠ 0) : k < long.length := by
  refine Nat.lt_of_le_of_ne hk fun e => ?_
  obtain ⟨h1, h2, h3, h4⟩ := h
  rw [List.take_of_length_le (l := short) hs, List.take_of_length_le (l := zs) (by omega), List.take_of_length_le (l := long) (by omega)] at h2
  have := val_lt hz
  rw [h1, ← e] at this
  have : br = 1 := by omega
  subst this
  omega

theorem SubInv.done {long short zs : List Nat} {k : Nat} (h : SubInv long short zs k 0) (hs : short.length ≤ k) (hk : k ≤ long.length) : val zs = val long - val short := by
  obtain ⟨h1, h2, h3, h4⟩ := h
  rw [List.take_of_length_le (l := short) hs] at h2
  rw [val_split zs k (by omega), val_split long k hk, drop_eq_of_lim h1 h3]
  omega

theorem top_bit {a : Nat} (h : a < 4294967296) : a.testBit 31 = decide (2147483648 ≤ a) := by
  rw [Nat.testBit_eq_decide_div_mod_eq]
  by_cases h1 : 2147483648 ≤ a
  · have : a / 2 ^ 31 % 2 = 1 := by omega
    simp [this, h1]
  · have : a / 2 ^ 31 % 2 = 0 := by omega
    simp [this, h1]

theorem top_num {a : Nat} (h : a < 4294967296) : a / 2147483648 = (a.testBit 31).toNat := by
  rw [top_bit h]
  by_cases h1 : 2147483648 ≤ a
  · have : a / 2147483648 = 1 := by omega
    simp [this, h1]
  · have : a / 2147483648 = 0 := by omega
    simp [this, h1]

theorem lt_and {a b : Nat} (h : b < 4294967296) : a &&& b < 4294967296 := Nat.lt_of_le_of_lt Nat.and_le_right h
theorem lt_or {a b : Nat} (ha : a < 4294967296) (hb : b < 4294967296) : a ||| b < 4294967296 := Nat.or_lt_two_pow (n := 32) ha hb
theorem lt_xor {a b : Nat} (ha : a < 4294967296) (hb : b < 4294967296) : a ^^^ b < 4294967296 := Nat.xor_lt_two_pow (n := 32) ha hb

theorem borrow_bits (x y d : Nat) (hx : x < 4294967296) (hy : y < 4294967296) (hd : d < 4294967296) :
    (((4294967295 ^^^ x) &&& y) ||| ((4294967295 ^^^ (x ^^^ y)) &&& d)) / 2147483648 =
      ((!(decide (2147483648 ≤ x)) && decide (2147483648 ≤ y)) || ((decide (2147483648 ≤ x) == decide (2147483648 ≤ y)) && decide (2147483648 ≤ d))).toNat := by
  have h1 : (4294967295 : Nat) < 4294967296 := by decide
  rw [top_num (lt_or (lt_and hy) (lt_and hd))]
  congr 1
  simp only [Nat.testBit_or, Nat.testBit_and, Nat.testBit_xor, top_bit hx, top_bit hy, top_bit hd, top_bit h1]
  generalize decide (2147483648 ≤ x) = p
  generalize decide (2147483648 ≤ y) = q
  generalize decide (2147483648 ≤ d) = r
  revert p q r
  decide

end Go.Proofs.YtpkjooiddejgpaaDoor.Limb
