/- Plain mathematics of long division limb by limb: by one limb, the guess of a quotient's limb, what is taken away and paid back. No condition. -/
import Derived.Test.YtpkjooiddejgpaaDoorLimbs
import Derived.Test.YtpkjooiddejgpaaDoorLimbsB
namespace Go.Proofs.YtpkjooiddejgpaaDoor.Limb

theorem val_drop_lim {xs : List Nat} {k : Nat} (h : k < xs.length) : val (xs.drop k) = lim xs k + 4294967296 * val (xs.drop (k + 1)) := by
  rw [List.drop_eq_getElem_cons h, val, lim, List.getD_eq_getElem?_getD, List.getElem?_eq_getElem h]; rfl

theorem val_drop_end {xs : List Nat} {k : Nat} (h : xs.length ≤ k) : val (xs.drop k) = 0 := by
  rw [List.drop_eq_nil_of_le h]; rfl

/-- Division by one limb, from the top down to limb k. -/
def OneInv (xs zs : List Nat) (v k r : Nat) : Prop :=
  zs.length = xs.length ∧ (∀ j, j < k → lim zs j = lim xs j) ∧ val (zs.drop k) * v + r = val (xs.drop k) ∧ r < v

theorem OneInv.start (xs : List Nat) {v : Nat} (hv : v ≠ 0) : OneInv xs xs v xs.length 0 := ⟨rfl, fun _ _ => rfl, by rw [val_drop_end (Nat.le_refl _)]; omega, by omega⟩

theorem one_digit {r x v : Nat} (hr : r < v) (hx : x < 4294967296) : (r * 4294967296 + x) / v < 4294967296 := by
  rw [Nat.div_lt_iff_lt_mul (by omega)]
  have : (r + 1) * 4294967296 ≤ v * 4294967296 := Nat.mul_le_mul_right _ hr
  omega

theorem OneInv.step {xs zs : List Nat} {v k r : Nat} (h : OneInv xs zs v (k + 1) r) (hk : k < xs.length) :
    OneInv xs (zs.set k ((r * 4294967296 + lim zs k) / v)) v k ((r * 4294967296 + lim zs k) % v) := by
  obtain ⟨h1, h2, h3, h4⟩ := h
  have hx := h2 k (by omega)
  refine ⟨by simpa using h1, fun j hj => by rw [lim_set_ne (by omega)]; exact h2 j (by omega), ?_, Nat.mod_lt _ (by omega)⟩
  rw [val_drop_lim (xs := zs.set k _) (by simp; omega), lim_set_self (by omega), drop_succ_set, val_drop_lim hk, ← h3, hx]
  have hd := Nat.div_add_mod (r * 4294967296 + lim xs k) v
  generalize (r * 4294967296 + lim xs k) / v = q at *
  generalize (r * 4294967296 + lim xs k) % v = m at *
  generalize val (zs.drop (k + 1)) = z at *
  have e1 : (q + 4294967296 * z) * v = v * q + 4294967296 * (z * v) := by rw [Nat.add_mul, Nat.mul_comm q v, Nat.mul_assoc]
  rw [e1]
  omega

theorem OneInv.done {xs zs : List Nat} {v r : Nat} (h : OneInv xs zs v 0 r) : val zs = val xs / v ∧ r = val xs % v := by
  obtain ⟨_, _, h3, h4⟩ := h
  simp only [List.drop_zero] at h3
  have hv : 0 < v := by omega
  have e : val xs = r + v * val zs := by rw [← h3, Nat.mul_comm]; omega
  constructor
  · rw [e, Nat.add_mul_div_left _ _ hv, Nat.div_eq_of_lt h4]; omega
  · rw [e, Nat.add_mul_mod_self_left, Nat.mod_eq_of_lt h4]

/-- What is left while v times bs is taken from rs, behind k limbs: carry and borrow are still to pay. -/
def LessInv (rs bs zs : List Nat) (v k cr br : Nat) : Prop :=
  zs.length = rs.length ∧ val (zs.take k) + v * val (bs.take k) = val (rs.take k) + (cr + br) * 4294967296 ^ k ∧ (∀ j, k ≤ j → lim zs j = lim rs j) ∧ cr < 4294967296 ∧ br ≤ 1

theorem LessInv.start (rs bs : List Nat) (v : Nat) : LessInv rs bs rs v 0 0 0 := ⟨rfl, by simp [val], fun _ _ => rfl, by omega, by omega⟩

theorem less_step {P x d b v cr br lo cr2 br2 Z S T : Nat} (h : Z + v * S = T + (cr + br) * P) (hp : cr + b * v = lo + cr2 * 4294967296) (hd : d + lo + br = x + br2 * 4294967296) :
    (Z + P * d) + v * (S + P * b) = (T + P * x) + (cr2 + br2) * (P * 4294967296) := by grind

theorem LessInv.step {rs bs zs : List Nat} {v k cr br lo cr2 : Nat} (h : LessInv rs bs zs v k cr br) (hr : Small rs) (hk : k < rs.length) (hb : Small bs) (hv : v < 4294967296)
    (hlo : lo < 4294967296) (hp : cr + lim bs k * v = lo + cr2 * 4294967296) :
    LessInv rs bs (zs.set k (diffLo (lim zs k) lo br)) v (k + 1) cr2 (diffHi (lim zs k) lo br) := by
  obtain ⟨h1, h2, h3, h4, h5⟩ := h
  have hx := h3 k (Nat.le_refl _)
  refine ⟨by simpa using h1, ?_, fun j hj => by rw [lim_set_ne (by omega)]; exact h3 j (by omega), ?_, diffHi_le _ _ _⟩
  · have hd := diff_parts (x := lim zs k) (y := lo) (c := br) (by rw [hx]; exact lim_lt hr k) hlo h5
    rw [val_take_set (by omega), val_take_lim bs, val_take_lim rs, Nat.pow_succ, ← hx]
    exact less_step h2 hp hd
  · have h6 : lim bs k * v ≤ 4294967295 * 4294967295 := Nat.mul_le_mul (by have := lim_lt hb k; omega) (by omega)
    omega

/-- All of it: less than nothing is there just if what is to pay is above the limb on top. -/
theorem less_top {Z V R T P l t : Nat} (h : Z + V = T + t * P) (hz : Z < P) (hR : R = T + P * l) : R < V ↔ l < t := by
  constructor
  · intro h1
    rcases Nat.lt_or_ge l t with h2 | h2
    · exact h2
    · exfalso
      have : t * P ≤ l * P := Nat.mul_le_mul_right _ h2
      have e : P * l = l * P := Nat.mul_comm _ _
      omega
  · intro h1
    have : (l + 1) * P ≤ t * P := Nat.mul_le_mul_right _ h1
    have e : P * l = l * P := Nat.mul_comm _ _
    rw [Nat.add_mul] at this
    omega

/-- Not too much was taken away: what is left is below the divisor. -/
theorem less_fits {Z V R T P l t r : Nat} (h : Z + V = T + t * P) (hz : Z < P) (hR : R = T + P * l) (hr : R = V + r) (hrP : r < P) : Z = r := by
  have h1 : t = l := by
    rcases Nat.lt_trichotomy t l with h2 | h2 | h2
    · exfalso
      have : (t + 1) * P ≤ l * P := Nat.mul_le_mul_right _ h2
      have e : P * l = l * P := Nat.mul_comm _ _
      rw [Nat.add_mul] at this
      omega
    · exact h2
    · exfalso
      have : (l + 1) * P ≤ t * P := Nat.mul_le_mul_right _ h2
      have e : P * l = l * P := Nat.mul_comm _ _
      rw [Nat.add_mul] at this
      omega
  subst h1
  have e : P * t = t * P := Nat.mul_comm _ _
  omega

/-- Too much was taken away: the divisor is paid back. -/
theorem less_back {Z V R T P l t r b Y c : Nat} (h : Z + (V + b) = T + t * P) (hR : R = T + P * l) (hr : R = V + r) (hrP : r < P) (hY : Y + c * P = Z + b) (hyP : Y < P) : Y = r := by
  have e : Y + (c * P + P * l) = r + t * P := by omega
  have h1 : (Y + P * (c + l)) % P = (r + P * t) % P := by
    rw [show Y + P * (c + l) = Y + (c * P + P * l) by rw [Nat.mul_add, Nat.mul_comm P c], e, Nat.mul_comm P t]
  rwa [Nat.add_mul_mod_self_left, Nat.add_mul_mod_self_left, Nat.mod_eq_of_lt hyP, Nat.mod_eq_of_lt hrP] at h1

/-- How often the divisor is in what is left, guessed off the highest limbs. -/
def guessO (top high : Nat) : Nat := min (top / high) 4294967295
def guessT (top high next r2 : Nat) : Bool := decide (top - guessO top high * high ≤ 4294967295) && decide ((top - guessO top high * high) * 4294967296 + r2 < guessO top high * next)
def guessV (top high next r2 : Nat) : Nat := if guessT top high next r2 then guessO top high - 1 else guessO top high

theorem guessO_le (top high : Nat) : guessO top high ≤ 4294967295 := Nat.min_le_right _ _
theorem guessO_mul (top high : Nat) : guessO top high * high ≤ top :=
  Nat.le_trans (Nat.mul_le_mul_right _ (Nat.min_le_left _ _)) (Nat.div_mul_le_self _ _)

theorem guess_low {top high P R b q : Nat} (hb1 : high * P ≤ b) (hR : R < (top + 1) * P) (hq : q * b ≤ R) (hh : 0 < high) (hqB : q ≤ 4294967295) : q ≤ guessO top high := by
  have h1 : q * (high * P) ≤ q * b := Nat.mul_le_mul_left _ hb1
  have h2 : (q * high) * P < (top + 1) * P := by rw [Nat.mul_assoc]; omega
  have h3 : q * high < top + 1 := Nat.lt_of_mul_lt_mul_right h2
  exact Nat.le_min.2 ⟨(Nat.le_div_iff_mul_le hh).2 (by omega), hqB⟩

/-- At most two more, if the divisor's highest bit is set. -/
theorem guess_high {top high P R b q : Nat} (hb2 : b < (high + 1) * P) (hR : top * P ≤ R) (hq : R < (q + 1) * b) (hh : 2147483648 ≤ high) (hqB : q ≤ 4294967295) : guessO top high ≤ q + 2 := by
  rcases Nat.lt_or_ge (q + 2) (guessO top high) with h | h
  · exfalso
    have h1 := guessO_mul top high
    have h2 : (q + 3) * high ≤ guessO top high * high := Nat.mul_le_mul_right _ h
    have h3 : (q + 1) * b ≤ (q + 1) * ((high + 1) * P) := Nat.mul_le_mul_left _ (by omega)
    have h4 : (q + 3) * high * P ≤ top * P := Nat.mul_le_mul_right _ (by omega)
    have h5 : (q + 3) * high * P < (q + 1) * (high + 1) * P := by rw [Nat.mul_assoc (q + 1)]; omega
    have h6 : (q + 3) * high < (q + 1) * (high + 1) := Nat.lt_of_mul_lt_mul_right h5
    have h7 : q ≤ 4294967295 := hqB
    grind
  · exact h

/-- A guess that the third limb contradicts is too great. -/
theorem guess_over {top high next r2 P R b q : Nat} (hb1 : (high * 4294967296 + next) * P ≤ b) (hR : R < (top * 4294967296 + r2 + 1) * P) (hq : q * b ≤ R) (ht : guessT top high next r2 = true) : q < guessO top high := by
  unfold guessT at ht
  rw [Bool.and_eq_true, decide_eq_true_eq, decide_eq_true_eq] at ht
  have h0 := guessO_mul top high
  generalize guessO top high = o at *
  rcases Nat.lt_or_ge q o with h | h
  · exact h
  · exfalso
    have h1 : o * ((high * 4294967296 + next) * P) ≤ q * b := Nat.mul_le_mul h hb1
    have h2 : o * (high * 4294967296 + next) * P < (top * 4294967296 + r2 + 1) * P := by rw [Nat.mul_assoc]; omega
    have h3 := Nat.lt_of_mul_lt_mul_right h2
    have e : o * (high * 4294967296 + next) = (o * high) * 4294967296 + o * next := by rw [Nat.mul_add, Nat.mul_assoc]
    obtain ⟨d, hd⟩ : ∃ d, top = o * high + d := ⟨top - o * high, by omega⟩
    generalize o * high = oh at *
    subst hd
    omega

theorem bears_plain {p hv : Nat} (h5 : (p + 1) * hv < p * (hv + 1)) (h : p ≤ hv) : False := by
  rw [Nat.add_mul, Nat.one_mul, Nat.mul_add, Nat.mul_one] at h5
  omega

/-- A guess that the third limb bears is at most one more. -/
theorem guess_bears {top high next r2 P R b q : Nat} (hb2 : b < (high * 4294967296 + next + 1) * P) (hR : (top * 4294967296 + r2) * P ≤ R) (hq : R < (q + 1) * b) (hh : 2147483648 ≤ high) (ht : guessT top high next r2 = false) (hn : next < 4294967296) : guessO top high ≤ q + 1 := by
  have h0 := guessO_mul top high
  have ho := guessO_le top high
  rcases Nat.lt_or_ge (q + 1) (guessO top high) with h | h
  · exfalso
    have hoq : guessO top high * next ≤ 4294967295 * 4294967295 := Nat.mul_le_mul ho (by omega)
    have hT : guessO top high * (high * 4294967296 + next) ≤ top * 4294967296 + r2 := by
      rw [Nat.mul_add, ← Nat.mul_assoc]
      unfold guessT at ht
      rw [Bool.and_eq_false_iff, decide_eq_false_iff_not, decide_eq_false_iff_not] at ht
      obtain ⟨d, hd⟩ : ∃ d, top = guessO top high * high + d := ⟨top - guessO top high * high, by omega⟩
      generalize guessO top high * high = oh at *
      generalize guessO top high * next = on at *
      rcases ht with ht | ht <;> omega
    generalize guessO top high = o at *
    obtain ⟨p, rfl⟩ : ∃ p, o = p + 1 := ⟨o - 1, by omega⟩
    have h1 : (q + 1) * b ≤ p * b := Nat.mul_le_mul_right _ (by omega)
    have h2 : p * b ≤ p * ((high * 4294967296 + next + 1) * P) := Nat.mul_le_mul_left _ (by omega)
    have h3 : (p + 1) * (high * 4294967296 + next) * P ≤ (top * 4294967296 + r2) * P := Nat.mul_le_mul_right _ hT
    have h4 : (p + 1) * (high * 4294967296 + next) * P < p * (high * 4294967296 + next + 1) * P := by rw [Nat.mul_assoc p]; omega
    have h5 := Nat.lt_of_mul_lt_mul_right h4
    exact bears_plain h5 (by omega)
  · exact h

theorem guess_ok_num {bl next high rl r2 top P q b R G : Nat} (hb : b = bl + P * next + P * 4294967296 * high) (hbl : bl < P) (hn : next < 4294967296) (hR : R = rl + P * r2 + P * 4294967296 * top) (hrl : rl < P) (hr2 : r2 < 4294967296)
    (hh : 2147483648 ≤ high) (hq1 : q * b ≤ R) (hq2 : R < (q + 1) * b) (hqB : q ≤ 4294967295) (hG : guessV top high next r2 = G) : q ≤ G ∧ G ≤ q + 1 ∧ G ≤ 4294967295 := by
  have p1 : P * (next + 1) ≤ P * 4294967296 := Nat.mul_le_mul_left _ hn
  have p2 : P * (r2 + 1) ≤ P * 4294967296 := Nat.mul_le_mul_left _ hr2
  have e1 : high * (P * 4294967296) = P * 4294967296 * high := Nat.mul_comm _ _
  have e2 : top * (P * 4294967296) = P * 4294967296 * top := Nat.mul_comm _ _
  have e3 : (high * 4294967296 + next) * P = P * 4294967296 * high + P * next := by grind
  have e4 : (top * 4294967296 + r2) * P = P * 4294967296 * top + P * r2 := by grind
  rw [Nat.mul_add, Nat.mul_one] at p1 p2
  have c1 : q ≤ guessO top high := guess_low (P := P * 4294967296) (b := b) (R := R) (by omega) (by rw [Nat.add_mul, Nat.one_mul]; omega) hq1 (by omega) hqB
  have c2 : guessO top high ≤ q + 2 := guess_high (P := P * 4294967296) (b := b) (R := R) (by rw [Nat.add_mul, Nat.one_mul]; omega) (by omega) hq2 hh hqB
  have c3 := guessO_le top high
  cases ht : guessT top high next r2 with
  | true =>
    have c4 := guess_over (P := P) (b := b) (R := R) (by omega) (by rw [Nat.add_mul, Nat.one_mul]; omega) hq1 ht
    unfold guessV at hG
    rw [ht] at hG
    simp only [if_true] at hG
    omega
  | false =>
    have c4 := guess_bears (P := P) (b := b) (R := R) (by rw [Nat.add_mul, Nat.one_mul]; omega) (by omega) hq2 hh ht hn
    unfold guessV at hG
    rw [ht] at hG
    simp only [Bool.false_eq_true, if_false] at hG
    omega

theorem guess_ok {rs bs : List Nat} {m G : Nat} (hr : Small rs) (hb : Small bs) (hm : 2 ≤ m) (hrl : rs.length = m + 1) (hbl : bs.length = m) (hh : 2147483648 ≤ lim bs (m - 1)) (hlt : val rs < val bs * 4294967296)
    (hG : guessV (lim rs m * 4294967296 + lim rs (m - 1)) (lim bs (m - 1)) (lim bs (m - 2)) (lim rs (m - 2)) = G) : val rs / val bs ≤ G ∧ G ≤ val rs / val bs + 1 ∧ G ≤ 4294967295 := by
  obtain ⟨k, rfl⟩ : ∃ k, m = k + 2 := ⟨m - 2, by omega⟩
  have e1 : val bs = val (bs.take k) + 4294967296 ^ k * lim bs k + 4294967296 ^ k * 4294967296 * lim bs (k + 1) := by
    have h := val_take_lim bs (k + 1)
    rwa [val_take_lim bs k, List.take_of_length_le (by omega), Nat.pow_succ] at h
  have e2 : val rs = val (rs.take k) + 4294967296 ^ k * lim rs k + 4294967296 ^ k * 4294967296 * (lim rs (k + 2) * 4294967296 + lim rs (k + 1)) := by
    have h := val_take_lim rs (k + 2)
    rw [val_take_lim rs (k + 1), val_take_lim rs k, List.take_of_length_le (by omega), Nat.pow_succ, Nat.pow_succ] at h
    rw [h, Nat.mul_add, Nat.mul_comm (lim rs (k + 2)), Nat.mul_assoc _ 4294967296 (_ * _)]
    rw [Nat.mul_assoc _ 4294967296 (lim rs (k + 2))]
    grind
  have t1 := val_lt (small_take hb k)
  have t2 := val_lt (small_take hr k)
  rw [List.length_take, Nat.min_eq_left (by omega)] at t1 t2
  have hb0 : 0 < val bs := by
    rcases Nat.eq_zero_or_pos (val bs) with h | h
    · rw [h] at hlt; omega
    · exact h
  have q1 : val rs / val bs * val bs ≤ val rs := Nat.div_mul_le_self _ _
  have q2 : val rs < (val rs / val bs + 1) * val bs := by
    have := Nat.lt_mul_div_succ (val rs) hb0
    rwa [Nat.mul_comm] at this
  have q3 : val rs / val bs ≤ 4294967295 := by
    have : val rs / val bs < 4294967296 := by rw [Nat.div_lt_iff_lt_mul hb0, Nat.mul_comm]; exact hlt
    omega
  exact guess_ok_num e1 t1 (lim_lt hb k) e2 t2 (lim_lt hr k) hh q1 q2 q3 hG

/-- Long division, from the top down to limb k: the quotient's limbs from k on, and what is left. -/
def DivInv (xs ys rs qs : List Nat) (m k : Nat) : Prop := val (qs.drop k) * val ys + val (rs.take m) = val (xs.drop k) ∧ val (rs.take m) < val ys

theorem top_pow {ys : List Nat} {m : Nat} (hl : ys.length = m) (hm : 1 ≤ m) (hh : 0 < lim ys (m - 1)) : 4294967296 ^ (m - 1) ≤ val ys := by
  obtain ⟨k, rfl⟩ : ∃ k, m = k + 1 := ⟨m - 1, by omega⟩
  have h := val_take_lim ys k
  rw [List.take_of_length_le (by omega)] at h
  rw [Nat.add_sub_cancel] at hh ⊢
  have : 4294967296 ^ k * 1 ≤ 4294967296 ^ k * lim ys k := Nat.mul_le_mul_left _ hh
  omega

theorem DivInv.start {xs ys : List Nat} {m s : Nat} (hx : Small xs) (hs : s + m = xs.length + 1) (hm : 2 ≤ m) (hy : ys.length = m) (hh : 0 < lim ys (m - 1)) : DivInv xs ys (xs.drop s ++ [0, 0]) (List.replicate s 0) m s := by
  have hl : (xs.drop s).length = m - 1 := by rw [List.length_drop]; omega
  have e : (xs.drop s ++ [0, 0]).take m = xs.drop s ++ [0] := by
    rw [List.take_append, hl, List.take_of_length_le (by omega), show m - (m - 1) = 1 by omega]
    rfl
  have ev : val ((xs.drop s ++ [0, 0]).take m) = val (xs.drop s) := by
    rw [e, val_append]; simp [val]
  refine ⟨?_, ?_⟩
  · rw [ev, val_drop_end (by simp)]; omega
  · rw [ev]
    have h := val_lt (small_drop hx s)
    rw [hl] at h
    exact Nat.lt_of_lt_of_le h (top_pow hy (by omega) hh)

theorem DivInv.lt {xs ys rs qs : List Nat} {m k x : Nat} (h : DivInv xs ys rs qs m k) (hx : x < 4294967296) : val (x :: rs.take m) < val ys * 4294967296 := by
  have := h.2
  rw [val]
  omega

theorem DivInv.step {xs ys rs qs zs : List Nat} {m j : Nat} (h : DivInv xs ys rs qs m (j + 1)) (hj : j < xs.length) (hq : j < qs.length) (hz : val (zs.take m) = val (lim xs j :: rs.take m) % val ys) :
    DivInv xs ys zs (qs.set j (val (lim xs j :: rs.take m) / val ys)) m j := by
  have hy : 0 < val ys := Nat.lt_of_le_of_lt (Nat.zero_le _) h.2
  obtain ⟨h1, h2⟩ := h
  refine ⟨?_, by rw [hz]; exact Nat.mod_lt _ hy⟩
  rw [val_drop_lim (xs := qs.set j _) (by simp; exact hq), lim_set_self hq, drop_succ_set, hz, val_drop_lim hj, ← h1]
  have hd := Nat.div_add_mod (val (lim xs j :: rs.take m)) (val ys)
  generalize val (lim xs j :: rs.take m) / val ys = q at *
  have hv : val (lim xs j :: rs.take m) = lim xs j + 4294967296 * val (rs.take m) := rfl
  rw [hv] at hd ⊢
  generalize (lim xs j + 4294967296 * val (rs.take m)) % val ys = r at *
  generalize val (qs.drop (j + 1)) = Q at *
  have e1 : (q + 4294967296 * Q) * val ys = val ys * q + 4294967296 * (Q * val ys) := by rw [Nat.add_mul, Nat.mul_comm q, Nat.mul_assoc]
  rw [e1]
  omega

theorem DivInv.done {xs ys rs qs : List Nat} {m : Nat} (h : DivInv xs ys rs qs m 0) : val qs = val xs / val ys ∧ val (rs.take m) = val xs % val ys := by
  obtain ⟨h3, h4⟩ := h
  simp only [List.drop_zero] at h3
  have hv : 0 < val ys := by omega
  have e : val xs = val (rs.take m) + val ys * val qs := by rw [← h3, Nat.mul_comm]; omega
  constructor
  · rw [e, Nat.add_mul_div_left _ _ hv, Nat.div_eq_of_lt h4]; omega
  · rw [e, Nat.add_mul_mod_self_left, Nat.mod_eq_of_lt h4]

end Go.Proofs.YtpkjooiddejgpaaDoor.Limb
