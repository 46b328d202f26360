/- Plain mathematics of products of limbs: a row of products with carries, rows added one above the other, moves by bits, powers bit by bit. No condition. -/
import Derived.Test.YtpkjooiddejgpaaDoorLimbs
import Derived.Test.YtpkjooiddejgpaaDoorLimbsB
namespace Go.Proofs.YtpkjooiddejgpaaDoor.Limb

theorem blen_count (n : Nat) : (blen n + 31) / 32 = (limbs n).length := by
  by_cases h : n = 0
  · subst h; rw [blen_zero, limbs_zero]; rfl
  · have h1 := length_limbs_pred h
    have h2 := val_lt (small_limbs n)
    rw [val_limbs, pow32] at h2
    rw [pow32] at h1
    have h3 := blen_le h2
    have h4 : 32 * ((limbs n).length - 1) < blen n := (Nat.pow_lt_pow_iff_right (show 1 < 2 by decide)).1 (Nat.lt_of_le_of_lt h1 (blen_lt n))
    omega

/-- A row of products that is laid over a part: the limbs laid so far, and what goes on. -/
def RowInv (xs ps zs : List Nat) (v k cr : Nat) : Prop :=
  val (zs.take k) + cr * 4294967296 ^ k = val (ps.take k) + v * val (xs.take k) ∧ cr < 4294967296

theorem RowInv.start (xs ps zs : List Nat) (v : Nat) : RowInv xs ps zs v 0 0 := ⟨by simp [val], by omega⟩

theorem row_step {S Q X x v p cr P lo hi : Nat} (h : S + cr * P = Q + v * X) (e : lo + hi * 4294967296 = cr + x * v + p) : S + P * lo + hi * (P * 4294967296) = Q + P * p + v * (X + P * x) := by
  have h1 := congrArg (P * ·) e
  simp only [Nat.mul_add] at h1
  rw [Nat.mul_left_comm P hi, Nat.mul_comm x v, Nat.mul_left_comm P v] at h1
  rw [Nat.mul_add, Nat.mul_comm cr P] at *
  omega

theorem limb_prod {x v : Nat} (hx : x < 4294967296) (hv : v < 4294967296) : x * v ≤ 18446744065119617025 :=
  Nat.mul_le_mul (show x ≤ 4294967295 by omega) (show v ≤ 4294967295 by omega)

theorem RowInv.step {xs ps zs : List Nat} {v k cr lo hi : Nat} (h : RowInv xs ps zs v k cr) (hz : k < zs.length) (hx : Small xs) (hp : Small ps) (hv : v < 4294967296)
    (hlo : lo < 4294967296) (e : lo + hi * 4294967296 = cr + lim xs k * v + lim ps k) : RowInv xs ps (zs.set k lo) v (k + 1) hi := by
  obtain ⟨h1, h2⟩ := h
  refine ⟨?_, ?_⟩
  · rw [val_take_set hz, val_take_lim ps, val_take_lim xs, Nat.pow_succ]
    exact row_step h1 e
  · have := limb_prod (lim_lt hx k) hv
    have := lim_lt hp k
    omega

theorem RowInv.done {xs ps zs : List Nat} {v k cr : Nat} (h : RowInv xs ps zs v k cr) (hz : zs.length = k + 1) (hx : xs.length = k) : val (zs.set k cr) = val (ps.take k) + v * val xs := by
  obtain ⟨h1, h2⟩ := h
  have e : (zs.set k cr).take (k + 1) = zs.set k cr := List.take_of_length_le (by simp; omega)
  rw [← e, val_take_set (by omega)]
  rw [List.take_of_length_le (by omega : xs.length ≤ k)] at h1
  rw [← h1, Nat.mul_comm]

/-- Limbs laid into the place of others. -/
def lay (zs : List Nat) (i : Nat) (ys : List Nat) : List Nat := zs.take i ++ ys ++ zs.drop (i + ys.length)

theorem lay_length {zs ys : List Nat} {i : Nat} (h : i + ys.length ≤ zs.length) : (lay zs i ys).length = zs.length := by simp [lay]; omega
theorem lay_small {zs ys : List Nat} {i : Nat} (hz : Small zs) (hy : Small ys) : Small (lay zs i ys) := small_append.2 ⟨small_append.2 ⟨small_take hz _, hy⟩, small_drop hz _⟩

theorem lim_drop (zs : List Nat) (i j : Nat) : lim (zs.drop i) j = lim zs (i + j) := by simp [lim, List.getD_eq_getElem?_getD]

theorem val_zero {zs : List Nat} (h : ∀ j, lim zs j = 0) : val zs = 0 := by
  induction zs with
  | nil => rfl
  | cons z zs ih =>
    have h0 := h 0
    have h1 : val zs = 0 := ih fun j => by have := h (j + 1); simpa [lim] using this
    simp [lim] at h0
    rw [val, h0, h1]

theorem lay_lim {zs ys : List Nat} {i j : Nat} (h : i + ys.length ≤ zs.length) (hj : i + ys.length ≤ j) : lim (lay zs i ys) j = lim zs j := by
  unfold lay lim
  rw [List.getD_eq_getElem?_getD, List.getD_eq_getElem?_getD, List.getElem?_append_right (by simp; omega)]
  simp
  congr 2
  omega

/-- Rows of products, one above the other: so many limbs of the shorter number are done. -/
def MulInv (long short zs : List Nat) (i : Nat) : Prop :=
  zs.length = long.length + short.length ∧ val zs = val long * val (short.take i) ∧ ∀ j, i + long.length ≤ j → lim zs j = 0

theorem MulInv.start (long short : List Nat) : MulInv long short (List.replicate (long.length + short.length) 0) 0 := by
  have h : ∀ j, lim (List.replicate (long.length + short.length) 0) j = 0 := fun j => by
    simp [lim, List.getD_eq_getElem?_getD, List.getElem?_replicate]; split <;> rfl
  exact ⟨by simp, by rw [val_zero h]; simp [val], fun j _ => h j⟩

theorem MulInv.step {long short zs ys : List Nat} {i : Nat} (h : MulInv long short zs i) (hi : i < short.length) (hy : ys.length = long.length + 1)
    (hv : val ys = val ((zs.drop i).take long.length) + lim short i * val long) : MulInv long short (lay zs i ys) (i + 1) := by
  obtain ⟨h1, h2, h3⟩ := h
  refine ⟨by rw [lay_length (by omega), h1], ?_, fun j hj => by rw [lay_lim (by omega) (by omega)]; exact h3 j (by omega)⟩
  have e0 : val (zs.drop (i + ys.length)) = 0 := val_zero fun j => by rw [lim_drop]; exact h3 _ (by omega)
  have e1 : val (zs.drop (i + long.length)) = 0 := val_zero fun j => by rw [lim_drop]; exact h3 _ (by omega)
  have e2 := val_split zs i (by omega)
  have e3 := val_split (zs.drop i) long.length (by simp; omega)
  rw [List.drop_drop, e1, Nat.mul_zero, Nat.add_zero] at e3
  rw [e3, h2] at e2
  rw [val_take_lim, Nat.mul_add, e2, lay, List.append_assoc, val_append, val_append, e0, hv, List.length_take, Nat.min_eq_left (by omega), Nat.mul_zero, Nat.add_zero, Nat.mul_add, Nat.add_assoc,
    Nat.mul_comm (lim short i), Nat.mul_left_comm (val long)]

theorem MulInv.done {long short zs : List Nat} (h : MulInv long short zs short.length) : val zs = val long * val short := by
  have := h.2.1
  rwa [List.take_of_length_le (Nat.le_refl _)] at this

theorem val_zeros (k : Nat) (xs : List Nat) : val (List.replicate k 0 ++ xs) = 4294967296 ^ k * val xs := by
  rw [val_append, List.length_replicate, val_zero (fun j => by simp [lim, List.getD_eq_getElem?_getD, List.getElem?_replicate]; split <;> rfl), Nat.zero_add]

theorem small_zeros (k : Nat) : Small (List.replicate k 0) := by intro x hx; rw [List.mem_replicate] at hx; omega

theorem pow_move (n : Nat) : 4294967296 ^ (n / 32) * 2 ^ (n % 32) = 2 ^ n := by
  rw [pow32, ← Nat.pow_add]; congr 1; omega

end Go.Proofs.YtpkjooiddejgpaaDoor.Limb
