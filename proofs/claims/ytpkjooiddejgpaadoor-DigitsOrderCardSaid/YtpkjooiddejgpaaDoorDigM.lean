/- Plain mathematics of decimal digits nine by nine: groups of nine, their digits, noughts ahead; what package digits keeps in its table. No condition. -/
import Derived.Test.YtpkjooiddejgpaaDoorRefDigP
import Derived.Lib.ParseIntB
namespace Go.Proofs.YtpkjooiddejgpaaDoor.Limb

/-- The last k decimal digits of v, noughts ahead too. -/
def pad : Nat → Nat → List Nat
  | 0, _ => []
  | k + 1, v => pad k (v / 10) ++ [48 + v % 10]
theorem pad_len (k v : Nat) : (pad k v).length = k := by
  induction k generalizing v with
  | zero => rfl
  | succ k ih => rw [pad, List.length_append, ih]; rfl
theorem pad_dig (k v : Nat) : allDig (pad k v) = true := by
  induction k generalizing v with
  | zero => rfl
  | succ k ih => rw [pad, allDig_append, ih]; exact allDig_iff.2 fun x hx => by simp at hx; omega
theorem pad_val (k v : Nat) : decV (pad k v) = v % 10 ^ k := by
  induction k generalizing v with
  | zero => rw [pad, decV_nil, Nat.pow_zero, Nat.mod_one]
  | succ k ih =>
    rw [pad, decV_snoc, ih, Nat.add_sub_cancel_left, Nat.pow_succ, Nat.mul_comm (10 ^ k) 10, Nat.mod_mul]
    omega
theorem pad_step (k p v : Nat) : pad (k + 1) (v / 10 ^ p) = pad k (v / 10 ^ (p + 1)) ++ [48 + v / 10 ^ p % 10] := by
  rw [pad, Nat.div_div_eq_div_mul, ← Nat.pow_succ]

/-- The number that groups of nine digits tell, the lowest first. -/
def gval : List Nat → Nat
  | [] => 0
  | g :: r => gval r * 1000000000 + g
/-- Their digits, the highest first. -/
def flat : List Nat → List Nat
  | [] => []
  | g :: r => flat r ++ pad 9 g
theorem gval_snoc (l : List Nat) (x : Nat) : gval (l ++ [x]) = gval l + x * 1000000000 ^ l.length := by
  induction l with
  | nil => simp [gval]
  | cons g r ih =>
    rw [List.cons_append, gval, ih, gval, List.length_cons, Nat.pow_succ, Nat.add_mul, Nat.mul_assoc]
    omega
theorem flat_dig (l : List Nat) : allDig (flat l) = true := by
  induction l with
  | nil => rfl
  | cons g r ih => rw [flat, allDig_append, ih, pad_dig]; rfl
theorem flat_len (l : List Nat) : (flat l).length = 9 * l.length := by
  induction l with
  | nil => rfl
  | cons g r ih => rw [flat, List.length_append, ih, pad_len, List.length_cons]; omega
theorem flat_val (l : List Nat) (h : ∀ x ∈ l, x < 1000000000) : decV (flat l) = gval l := by
  induction l with
  | nil => rfl
  | cons g r ih =>
    rw [flat, decV_append, ih (fun x hx => h x (by simp [hx])), pad_val, pad_len, gval]
    have := h g (by simp)
    rw [show (10 : Nat) ^ 9 = 1000000000 from rfl, Nat.mod_eq_of_lt this]

/-- Without noughts ahead. -/
def bare (l : List Nat) : List Nat := l.dropWhile (· == 48)
theorem bare_dig {l : List Nat} (h : allDig l = true) : allDig (bare l) = true := allDig_iff.2 fun x hx => allDig_iff.1 h x ((List.dropWhile_sublist _).mem hx)
theorem bare_val (l : List Nat) : decV (bare l) = decV l := by
  induction l with
  | nil => rfl
  | cons x r ih =>
    unfold bare at ih ⊢
    by_cases hx : x = 48
    · subst hx; rw [List.dropWhile_cons_of_pos (by simp), ih, decV_cons]; simp
    · rw [List.dropWhile_cons_of_neg (by simp; exact hx)]
theorem bare_head (l : List Nat) (h : bare l ≠ []) : lim (bare l) 0 ≠ 48 := by
  induction l with
  | nil => exact absurd rfl h
  | cons x r ih =>
    unfold bare at ih h ⊢
    by_cases hx : x = 48
    · subst hx
      rw [List.dropWhile_cons_of_pos (by simp)] at h ⊢
      exact ih h
    · rw [List.dropWhile_cons_of_neg (by simp; exact hx)]; simpa [lim] using hx
theorem bare_nil {l : List Nat} (h : allDig l = true) : bare l = [] ↔ decV l = 0 := by
  constructor
  · intro e; rw [← bare_val, e]; rfl
  · intro e
    rcases Classical.em (bare l = []) with h0 | h0
    · exact h0
    · have := pow_le_of_head (bare_dig h) h0 (bare_head l h0)
      rw [bare_val, e] at this
      have : 0 < 10 ^ ((bare l).length - 1) := Nat.pow_pos (by decide)
      omega
theorem bare_dec {l : List Nat} (h : allDig l = true) (h0 : bare l ≠ []) : bare l = decT (decV l) := (decT_eq (bare_dig h) h0 (bare_head l h0) (bare_val l)).symm

/-- The first k bytes are noughts. -/
def Lead (l : List Nat) (k : Nat) : Prop := k ≤ l.length ∧ bare l = bare (l.drop k)
theorem Lead.start (l : List Nat) : Lead l 0 := ⟨Nat.zero_le _, rfl⟩
theorem Lead.step {l : List Nat} {k : Nat} (h : Lead l k) (hk : k < l.length) (h48 : lim l k = 48) : Lead l (k + 1) := by
  refine ⟨hk, ?_⟩
  have e : l[k] = 48 := by rw [← h48]; simp [lim, List.getD_eq_getElem?_getD, List.getElem?_eq_getElem hk]
  rw [h.2, List.drop_eq_getElem_cons hk, e]
  rfl
theorem Lead.done {l : List Nat} {k : Nat} (h : Lead l k) (hk : k < l.length) (h48 : lim l k ≠ 48) : bare l = l.drop k := by
  have e : l[k] ≠ 48 := by
    intro e; apply h48; rw [← e]; simp [lim, List.getD_eq_getElem?_getD, List.getElem?_eq_getElem hk]
  rw [h.2, List.drop_eq_getElem_cons hk, bare, List.dropWhile_cons_of_neg (by simp; exact e)]
theorem Lead.all {l : List Nat} {k : Nat} (h : Lead l k) (hk : k = l.length) : bare l = [] := by
  rw [h.2, hk, List.drop_length]; rfl

/-- Groups so far, and the number that is left. -/
def GInv (a : Nat) (gs : List Nat) (m : Nat) : Prop := a = m * 1000000000 ^ gs.length + gval gs ∧ (∀ x ∈ gs, x < 1000000000) ∧ (gs.length ≤ 1 ∨ 1000000000 ^ (gs.length - 1) ≤ a)
theorem GInv.start (a : Nat) : GInv a [] a := ⟨by simp [gval], by simp, .inl (by simp)⟩
theorem GInv.step {a m : Nat} {gs : List Nat} (h : GInv a gs m) (h0 : m ≠ 0 ∨ gs = []) : GInv a (gs ++ [m % 1000000000]) (m / 1000000000) := by
  obtain ⟨h1, h2, h3⟩ := h
  refine ⟨?_, ?_, ?_⟩
  · rw [gval_snoc, List.length_append, List.length_singleton, Nat.pow_succ]
    have e := Nat.div_add_mod m 1000000000
    generalize m / 1000000000 = q at *
    generalize m % 1000000000 = r at *
    generalize 1000000000 ^ gs.length = p at *
    subst e
    rw [h1]
    grind
  · intro x hx
    rcases List.mem_append.1 hx with h | h
    · exact h2 x h
    · simp at h; omega
  · rw [List.length_append, List.length_singleton, Nat.add_sub_cancel]
    rcases h0 with h0 | h0
    · right
      have : 1 * 1000000000 ^ gs.length ≤ m * 1000000000 ^ gs.length := Nat.mul_le_mul_right _ (by omega)
      omega
    · left; subst h0; simp
theorem GInv.done {a : Nat} {gs : List Nat} (h : GInv a gs 0) : gval gs = a := by have := h.1; omega
theorem GInv.len {a m L : Nat} {gs : List Nat} (h : GInv a gs m) (hl : a < 4294967296 ^ L) : gs.length ≤ 2 * L + 1 := by
  rcases h.2.2 with h1 | h1
  · omega
  · have h2 : 1000000000 ^ (gs.length - 1) < 10 ^ (10 * L) := Nat.lt_of_le_of_lt h1 (Nat.lt_of_lt_of_le hl pow_digits)
    rw [show (1000000000 : Nat) = 10 ^ 9 from rfl, ← Nat.pow_mul] at h2
    have := (Nat.pow_lt_pow_iff_right (a := 10) (by decide)).1 h2
    omega

theorem PInv.group {l : List Nat} {i t m : Nat} (h : PInv l i t) (hm : i + m ≤ l.length) (hd : allDig ((l.drop i).take m) = true) : PInv l (i + m) (t * 10 ^ m + decV ((l.drop i).take m)) := by
  have e : l.take (i + m) = l.take i ++ (l.drop i).take m := by rw [List.take_add]
  have hl : ((l.drop i).take m).length = m := by rw [List.length_take, List.length_drop]; omega
  refine ⟨by rw [e, allDig_append, h.1, hd]; rfl, by rw [e, decV_append, h.2, hl]⟩

/-- What the library's reader makes of bytes that are too few to overflow. -/
theorem parseM_few (M : Nat) (hM : M ≤ 4294967295) : ∀ (l : List UInt8) (acc : Nat), acc * 10 ^ l.length + 10 ^ l.length ≤ M + 1 →
    Lib.parseUintM M acc l = if allDig (l.map UInt8.toNat) = true then Lib.NumEnd.ok (acc * 10 ^ l.length + decV (l.map UInt8.toNat)) else Lib.NumEnd.syntax
  | [], acc, _ => by
    rw [Lib.parseUintM, if_pos (by rfl)]
    simp [decV_nil]
  | c :: r, acc, h => by
    rw [List.length_cons, Nat.pow_succ] at h
    have h1 : 0 < 10 ^ r.length := Nat.pow_pos (by decide)
    rw [Lib.parseUintM]
    by_cases hd : 48 ≤ c.toNat ∧ c.toNat ≤ 57
    · rw [if_pos hd]
      have h2 : (acc * 10 + (c.toNat - 48)) * 10 ^ r.length + 10 ^ r.length ≤ M + 1 := by
        have h3 := Nat.mul_le_mul_right (10 ^ r.length) (show acc * 10 + (c.toNat - 48) + 1 ≤ acc * 10 + 10 by omega)
        rw [Nat.add_mul, Nat.one_mul] at h3
        have e : (acc * 10 + 10) * 10 ^ r.length = acc * (10 ^ r.length * 10) + 10 ^ r.length * 10 := by grind
        omega
      have h4 : acc * 10 + (c.toNat - 48) ≤ (acc * 10 + (c.toNat - 48)) * 10 ^ r.length := Nat.le_mul_of_pos_right _ h1
      rw [if_neg (by omega), if_neg (by omega), parseM_few M hM r _ h2, List.map_cons]
      have ed : allDig (c.toNat :: r.map UInt8.toNat) = allDig (r.map UInt8.toNat) := by simp [allDig, isDig, hd.1, hd.2]
      have ev : acc * 10 ^ (c :: r).length + decV (c.toNat :: r.map UInt8.toNat) = (acc * 10 + (c.toNat - 48)) * 10 ^ r.length + decV (r.map UInt8.toNat) := by
        rw [decV_cons, List.length_cons, Nat.pow_succ, List.length_map]
        grind
      rw [ed, ev]
    · rw [if_neg hd, List.map_cons]
      have ed : allDig (c.toNat :: r.map UInt8.toNat) = false := by
        simp [allDig, isDig]
        intro h5 h6
        omega
      rw [ed, if_neg (by decide)]

/-- At most nine bytes, and one at least: the number, or a fault. -/
theorem parseB_yes {l : List UInt8} (h0 : l ≠ []) (h9 : l.length ≤ 9) (h : allDig (l.map UInt8.toNat) = true) : Lib.parseUintB 32 l = .ok (decV (l.map UInt8.toNat)) := by
  have hp : 10 ^ l.length ≤ 10 ^ 9 := Nat.pow_le_pow_right (by decide) h9
  rw [Lib.parseUintB, if_neg h0, parseM_few _ (by decide) l 0 (by rw [Nat.zero_mul, Nat.zero_add]; exact Nat.le_trans hp (by decide)), if_pos h, Nat.zero_mul, Nat.zero_add]
theorem parseB_no {l : List UInt8} (h9 : l.length ≤ 9) (h : allDig (l.map UInt8.toNat) = false) : Lib.parseUintB 32 l = Lib.NumEnd.syntax := by
  have hp : 10 ^ l.length ≤ 10 ^ 9 := Nat.pow_le_pow_right (by decide) h9
  rw [Lib.parseUintB]
  split
  · rfl
  · rw [parseM_few _ (by decide) l 0 (by rw [Nat.zero_mul, Nat.zero_add]; exact Nat.le_trans hp (by decide)), if_neg (by rw [h]; decide)]

end Go.Proofs.YtpkjooiddejgpaaDoor.Limb
