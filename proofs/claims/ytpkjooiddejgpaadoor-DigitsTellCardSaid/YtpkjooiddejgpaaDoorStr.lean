/- Plain mathematics of texts: bytes as numbers below 256, decimal digits and the numbers that they tell, the order of texts. No condition. -/
import Derived.Test.YtpkjooiddejgpaaDoorLimbsB
import Derived.Laws.Strings
import Derived.Laws.Concat
namespace Go.Proofs.YtpkjooiddejgpaaDoor.Limb

/-- The text of bytes that are told as numbers. -/
def strOf (l : List Nat) : ByteArray := ⟨(l.map UInt8.ofNat).toArray⟩
/-- A text's bytes as numbers. -/
def bytesOf (s : ByteArray) : List Nat := s.data.toList.map UInt8.toNat
/-- All numbers of a list are bytes. -/
def Bytes (l : List Nat) : Prop := ∀ x ∈ l, x < 256

theorem bytes_nil : Bytes [] := by intro x hx; cases hx
theorem bytes_cons {x : Nat} {l : List Nat} : Bytes (x :: l) ↔ x < 256 ∧ Bytes l := by simp [Bytes]
theorem bytes_append {a b : List Nat} : Bytes (a ++ b) ↔ Bytes a ∧ Bytes b := by
  simp only [Bytes, List.mem_append]
  exact ⟨fun h => ⟨fun x hx => h x (.inl hx), fun x hx => h x (.inr hx)⟩, fun h x hx => hx.elim (h.1 x) (h.2 x)⟩
theorem bytes_small {l : List Nat} (h : Bytes l) : Small l := fun x hx => Nat.lt_trans (h x hx) (by decide)
theorem bytes_set {l : List Nat} (h : Bytes l) (k v : Nat) (hv : v < 256) : Bytes (l.set k v) := fun x hx => (List.mem_or_eq_of_mem_set hx).elim (h x) (fun e => by omega)
theorem bytes_lim {l : List Nat} (h : Bytes l) (k : Nat) : lim l k < 256 := by
  unfold lim
  rw [List.getD_eq_getElem?_getD]
  rcases Nat.lt_or_ge k l.length with hk | hk
  · rw [List.getElem?_eq_getElem hk]; exact h _ (List.getElem_mem hk)
  · rw [List.getElem?_eq_none hk]; decide
theorem bytes_take {l : List Nat} (h : Bytes l) (k : Nat) : Bytes (l.take k) := fun x hx => h x (List.mem_of_mem_take hx)
theorem bytes_drop {l : List Nat} (h : Bytes l) (k : Nat) : Bytes (l.drop k) := fun x hx => h x (List.mem_of_mem_drop hx)
theorem bytes_reverse {l : List Nat} (h : Bytes l) : Bytes l.reverse := fun x hx => h x (List.mem_reverse.1 hx)

theorem bytes_bytesOf (s : ByteArray) : Bytes (bytesOf s) := by
  intro x hx
  obtain ⟨b, _, rfl⟩ := List.mem_map.1 hx
  exact b.toNat_lt
theorem bytesOf_strOf {l : List Nat} (h : Bytes l) : bytesOf (strOf l) = l := by
  show (l.map UInt8.ofNat).map UInt8.toNat = l
  rw [List.map_map]
  refine (List.map_congr_left fun x hx => ?_).trans (List.map_id l)
  show (UInt8.ofNat x).toNat = x
  rw [UInt8.toNat_ofNat']
  exact Nat.mod_eq_of_lt (h x hx)
theorem strOf_bytesOf (s : ByteArray) : strOf (bytesOf s) = s := by
  obtain ⟨⟨l⟩⟩ := s
  have e : UInt8.ofNat ∘ UInt8.toNat = id := by funext x; exact UInt8.ofNat_toNat
  show ByteArray.mk ((l.map UInt8.toNat).map UInt8.ofNat).toArray = _
  rw [List.map_map, e, List.map_id]
theorem length_bytesOf (s : ByteArray) : (bytesOf s).length = s.size := by
  show (s.data.toList.map UInt8.toNat).length = s.data.size
  rw [List.length_map, Array.length_toList]
theorem size_strOf (l : List Nat) : (strOf l).size = l.length := by
  show (l.map UInt8.ofNat).toArray.size = _
  rw [List.size_toArray, List.length_map]
theorem strOf_append (a b : List Nat) : strOf a ++ strOf b = strOf (a ++ b) := by
  rw [strOf, strOf, ByteArray.mk_append_mk, strOf, List.map_append]
theorem bytesOf_append (s t : ByteArray) : bytesOf (s ++ t) = bytesOf s ++ bytesOf t := by
  simp [bytesOf, ByteArray.data_append]
theorem strOf_inj {a b : List Nat} (ha : Bytes a) (hb : Bytes b) (h : strOf a = strOf b) : a = b := by
  rw [← bytesOf_strOf ha, ← bytesOf_strOf hb, h]
theorem toList_strOf (l : List Nat) : (strOf l).toList = l.map UInt8.ofNat := by rw [strOf, ByteArray.toList_mk]
theorem str_beq {a b : List Nat} (ha : Bytes a) (hb : Bytes b) : ((strOf a).toList == (strOf b).toList) = decide (a = b) := by
  rw [Bool.eq_iff_iff]
  simp only [beq_iff_eq, decide_eq_true_eq, ByteArray.toList_eq]
  constructor
  · intro h
    refine strOf_inj ha hb ?_
    have h2 : (strOf a).data = (strOf b).data := Array.toList_inj.1 h
    exact ByteArray.ext h2
  · rintro rfl; rfl
theorem byte_at (s : ByteArray) (k : Nat) (h : k < s.size) : (s[k]'h).toNat = lim (bytesOf s) k := by
  have hk : k < (bytesOf s).length := by rw [length_bytesOf]; exact h
  unfold lim
  rw [List.getD_eq_getElem?_getD, List.getElem?_eq_getElem hk, Option.getD_some]
  simp [bytesOf]
  rfl

/-- The order of texts, by numbers. -/
def lessB : List Nat → List Nat → Bool
  | _, [] => false
  | [], _ :: _ => true
  | a :: x, b :: y => decide (a < b) || (decide (a = b) && lessB x y)

theorem u8_lt {a b : Nat} (ha : a < 256) (hb : b < 256) : decide (UInt8.ofNat a < UInt8.ofNat b) = decide (a < b) := by
  rw [Bool.eq_iff_iff]
  simp only [decide_eq_true_eq, UInt8.lt_iff_toNat_lt, UInt8.toNat_ofNat']
  rw [Nat.mod_eq_of_lt ha, Nat.mod_eq_of_lt hb]
theorem u8_eq {a b : Nat} (ha : a < 256) (hb : b < 256) : (UInt8.ofNat a == UInt8.ofNat b) = decide (a = b) := by
  rw [Bool.eq_iff_iff]
  simp only [beq_iff_eq, decide_eq_true_eq]
  constructor
  · intro h
    have h2 := congrArg UInt8.toNat h
    simp only [UInt8.toNat_ofNat'] at h2
    omega
  · rintro rfl; rfl
theorem less_map : ∀ {a b : List Nat}, Bytes a → Bytes b → Op.bytesLess (a.map UInt8.ofNat) (b.map UInt8.ofNat) = lessB a b
  | [], [], _, _ => rfl
  | _ :: _, [], _, _ => rfl
  | [], _ :: _, _, _ => rfl
  | x :: a, y :: b, ha, hb => by
    obtain ⟨hx, ha⟩ := bytes_cons.1 ha
    obtain ⟨hy, hb⟩ := bytes_cons.1 hb
    rw [List.map_cons, List.map_cons, Op.bytesLess, u8_lt hx hy, u8_eq hx hy, less_map ha hb, lessB]
theorem str_less {a b : List Nat} (ha : Bytes a) (hb : Bytes b) : Op.bytesLess (strOf a).toList (strOf b).toList = lessB a b := by
  rw [toList_strOf, toList_strOf, less_map ha hb]

/-- Is a byte a decimal digit? -/
def isDig (x : Nat) : Bool := decide (48 ≤ x) && decide (x ≤ 57)
/-- Are all bytes decimal digits? -/
def allDig (l : List Nat) : Bool := l.all isDig
/-- The number that decimal digits tell. -/
def decV (l : List Nat) : Nat := l.foldl (fun v d => v * 10 + (d - 48)) 0

theorem allDig_iff {l : List Nat} : allDig l = true ↔ ∀ x ∈ l, 48 ≤ x ∧ x ≤ 57 := by simp [allDig, isDig]
theorem allDig_append {a b : List Nat} : allDig (a ++ b) = (allDig a && allDig b) := by simp [allDig]
theorem allDig_bytes {l : List Nat} (h : allDig l = true) : Bytes l := fun x hx => by have := allDig_iff.1 h x hx; omega
theorem decV_nil : decV [] = 0 := rfl
theorem foldl_dec (l : List Nat) (v : Nat) : l.foldl (fun v d => v * 10 + (d - 48)) v = v * 10 ^ l.length + l.foldl (fun v d => v * 10 + (d - 48)) 0 := by
  induction l generalizing v with
  | nil => simp
  | cons x l ih =>
    rw [List.foldl_cons, List.foldl_cons, ih, ih (0 * 10 + (x - 48)), List.length_cons, Nat.pow_succ]
    grind
theorem decV_append (a b : List Nat) : decV (a ++ b) = decV a * 10 ^ b.length + decV b := by
  unfold decV
  rw [List.foldl_append, foldl_dec]
theorem decV_snoc (l : List Nat) (x : Nat) : decV (l ++ [x]) = decV l * 10 + (x - 48) := by
  rw [decV_append]; simp [decV]
theorem decV_cons (x : Nat) (l : List Nat) : decV (x :: l) = (x - 48) * 10 ^ l.length + decV l := by
  have := decV_append [x] l
  rwa [show [x] ++ l = x :: l from rfl, show decV [x] = x - 48 by simp [decV]] at this
theorem decV_lt : ∀ {l : List Nat}, allDig l = true → decV l < 10 ^ l.length
  | [], _ => by decide
  | x :: l, h => by
    have h1 := allDig_iff.1 h x (by simp)
    have h2 : allDig l = true := allDig_iff.2 fun y hy => allDig_iff.1 h y (by simp [hy])
    have h3 := decV_lt h2
    rw [decV_cons, List.length_cons, Nat.pow_succ]
    have h4 : (x - 48) * 10 ^ l.length ≤ 9 * 10 ^ l.length := Nat.mul_le_mul_right _ (by omega)
    omega
theorem decV_zeros (k : Nat) (l : List Nat) : decV (List.replicate k 48 ++ l) = decV l := by
  rw [decV_append]
  have : decV (List.replicate k 48) = 0 := by
    induction k with
    | zero => rfl
    | succ k ih => rw [List.replicate_succ, decV_cons, ih]; simp
  rw [this]; simp
theorem allDig_zeros (k : Nat) : allDig (List.replicate k 48) = true := allDig_iff.2 fun x hx => by have := (List.mem_replicate.1 hx).2; omega

/-- Two rows of as many digits that tell one number are one. -/
theorem decV_inj : ∀ {a b : List Nat}, allDig a = true → allDig b = true → a.length = b.length → decV a = decV b → a = b
  | [], [], _, _, _, _ => rfl
  | [], _ :: _, _, _, h, _ => by simp at h
  | _ :: _, [], _, _, h, _ => by simp at h
  | x :: a, y :: b, ha, hb, hl, hv => by
    have hx := allDig_iff.1 ha x (by simp)
    have hy := allDig_iff.1 hb y (by simp)
    have ha2 : allDig a = true := allDig_iff.2 fun z hz => allDig_iff.1 ha z (by simp [hz])
    have hb2 : allDig b = true := allDig_iff.2 fun z hz => allDig_iff.1 hb z (by simp [hz])
    have hl2 : a.length = b.length := by simpa using hl
    rw [decV_cons, decV_cons] at hv
    have h1 := decV_lt ha2
    have h2 := decV_lt hb2
    rw [← hl2] at h2 hv
    have e : x - 48 = y - 48 := by
      rcases Nat.lt_trichotomy (x - 48) (y - 48) with h | h | h
      · have := Nat.mul_le_mul_right (10 ^ a.length) (show x - 48 + 1 ≤ y - 48 from h)
        rw [Nat.add_mul] at this; omega
      · exact h
      · have := Nat.mul_le_mul_right (10 ^ a.length) (show y - 48 + 1 ≤ x - 48 from h)
        rw [Nat.add_mul] at this; omega
    rw [e] at hv
    rw [decV_inj ha2 hb2 hl2 (by omega), show x = y by omega]

/-- The order of rows of as many digits is that of their numbers. -/
theorem lessB_dec : ∀ {a b : List Nat}, allDig a = true → allDig b = true → a.length = b.length → lessB a b = decide (decV a < decV b)
  | [], [], _, _, _ => rfl
  | [], _ :: _, _, _, h => by simp at h
  | _ :: _, [], _, _, h => by simp at h
  | x :: a, y :: b, ha, hb, hl => by
    have hx := allDig_iff.1 ha x (by simp)
    have hy := allDig_iff.1 hb y (by simp)
    have ha2 : allDig a = true := allDig_iff.2 fun z hz => allDig_iff.1 ha z (by simp [hz])
    have hb2 : allDig b = true := allDig_iff.2 fun z hz => allDig_iff.1 hb z (by simp [hz])
    have hl2 : a.length = b.length := by simpa using hl
    have h1 := decV_lt ha2
    have h2 := decV_lt hb2
    rw [lessB, lessB_dec ha2 hb2 hl2, decV_cons, decV_cons, ← hl2]
    rw [← hl2] at h2
    rw [Bool.eq_iff_iff]
    simp only [Bool.or_eq_true, Bool.and_eq_true, decide_eq_true_eq]
    rcases Nat.lt_trichotomy (x - 48) (y - 48) with h | h | h
    · have := Nat.mul_le_mul_right (10 ^ a.length) (show x - 48 + 1 ≤ y - 48 from h)
      rw [Nat.add_mul] at this
      constructor
      · intro _; omega
      · intro _; left; omega
    · have e : x = y := by omega
      subst e
      constructor
      · rintro (h | h)
        · omega
        · omega
      · intro h3; right; exact ⟨rfl, by omega⟩
    · have := Nat.mul_le_mul_right (10 ^ a.length) (show y - 48 + 1 ≤ x - 48 from h)
      rw [Nat.add_mul] at this
      constructor
      · rintro (h | h)
        · omega
        · omega
      · intro h3; omega

/-- The decimal digits of a number, as bytes; the first argument is how many may be asked. -/
def decF : Nat → Nat → List Nat
  | 0, _ => []
  | f + 1, n => if n < 10 then [48 + n] else decF f (n / 10) ++ [48 + n % 10]
/-- The decimal digits of a number, as bytes. -/
def decT (n : Nat) : List Nat := decF (n + 1) n

theorem decF_more : ∀ f g n, n < f → n < g → decF f n = decF g n
  | 0, _, _, h, _ => by omega
  | _, 0, _, _, h => by omega
  | f + 1, g + 1, n, hf, hg => by
    rw [decF, decF]
    split
    · rfl
    · rw [decF_more f g (n / 10) (by omega) (by omega)]
theorem decT_small {n : Nat} (h : n < 10) : decT n = [48 + n] := by rw [decT, decF, if_pos h]
theorem decT_big {n : Nat} (h : 10 ≤ n) : decT n = decT (n / 10) ++ [48 + n % 10] := by
  rw [decT, decF, if_neg (by omega), decT, decF_more n (n / 10 + 1) (n / 10) (by omega) (by omega)]

theorem decT_spec (n : Nat) : allDig (decT n) = true ∧ decV (decT n) = n ∧ decT n ≠ [] ∧ (n ≠ 0 → lim (decT n) 0 ≠ 48) := by
  induction n using Nat.strongRecOn with
  | _ n ih =>
    by_cases h : n < 10
    · rw [decT_small h]
      refine ⟨allDig_iff.2 fun x hx => by simp at hx; omega, by simp [decV], by simp, fun h0 => by simp [lim]; omega⟩
    · obtain ⟨h1, h2, h3, h4⟩ := ih (n / 10) (by omega)
      rw [decT_big (by omega)]
      refine ⟨by rw [allDig_append, h1]; exact allDig_iff.2 fun x hx => by simp at hx; omega, by rw [decV_snoc, h2]; omega, by simp, fun _ => ?_⟩
      have h5 := h4 (by omega)
      cases hd : decT (n / 10) with
      | nil => exact absurd hd h3
      | cons x l => rw [hd] at h5; simpa [lim] using h5
theorem decT_dig (n : Nat) : allDig (decT n) = true := (decT_spec n).1
theorem decV_decT (n : Nat) : decV (decT n) = n := (decT_spec n).2.1
theorem decT_ne (n : Nat) : decT n ≠ [] := (decT_spec n).2.2.1
theorem decT_bytes (n : Nat) : Bytes (decT n) := allDig_bytes (decT_dig n)
theorem decT_pos (n : Nat) : 0 < (decT n).length := List.length_pos_iff.2 (decT_ne n)
theorem decT_zero : decT 0 = [48] := rfl

/-- A number's first digit is no nought: so it is not below a power of ten. -/
theorem pow_le_of_head {l : List Nat} (h : allDig l = true) (h0 : l ≠ []) (h1 : lim l 0 ≠ 48) : 10 ^ (l.length - 1) ≤ decV l := by
  cases l with
  | nil => exact absurd rfl h0
  | cons x l =>
    have hx := allDig_iff.1 h x (by simp)
    have h2 : x ≠ 48 := h1
    rw [decV_cons, List.length_cons, Nat.add_sub_cancel]
    have := Nat.mul_le_mul_right (10 ^ l.length) (show 1 ≤ x - 48 by omega)
    omega
theorem decT_len_pow {n : Nat} (h : n ≠ 0) : 10 ^ ((decT n).length - 1) ≤ n := by
  have := pow_le_of_head (decT_dig n) (decT_ne n) ((decT_spec n).2.2.2 h)
  rwa [decV_decT] at this
theorem decT_lt_pow (n : Nat) : n < 10 ^ (decT n).length := by
  have := decV_lt (decT_dig n)
  rwa [decV_decT] at this
theorem decT_len_le {n k : Nat} (h : n < 10 ^ k) (hk : 0 < k) : (decT n).length ≤ k := by
  rcases Nat.eq_zero_or_pos n with h0 | h0
  · subst h0; exact hk
  · have h1 := decT_len_pow (n := n) (by omega)
    have h2 := (Nat.pow_lt_pow_iff_right (a := 10) (by decide)).1 (Nat.lt_of_le_of_lt h1 h)
    omega
theorem decT_len_mono {a b : Nat} (h : a ≤ b) : (decT a).length ≤ (decT b).length :=
  decT_len_le (Nat.lt_of_le_of_lt h (decT_lt_pow b)) (decT_pos b)
/-- The one row of digits without noughts ahead that tells a number. -/
theorem decT_eq {l : List Nat} {n : Nat} (h : allDig l = true) (h0 : l ≠ []) (h1 : lim l 0 ≠ 48) (hv : decV l = n) : decT n = l := by
  have p1 := pow_le_of_head h h0 h1
  have p2 := decV_lt h
  rw [hv] at p1 p2
  have hl : 0 < l.length := List.length_pos_iff.2 h0
  have e : (decT n).length = l.length := by
    have a1 := decT_len_le p2 hl
    have a2 := (Nat.pow_lt_pow_iff_right (a := 10) (by decide)).1 (Nat.lt_of_le_of_lt p1 (decT_lt_pow n))
    omega
  exact decV_inj (decT_dig n) h e (by rw [decV_decT, hv])
theorem decT_ten (k : Nat) : decT (10 ^ k) = 49 :: List.replicate k 48 := by
  refine decT_eq ?_ (by simp) (by simp [lim]) ?_
  · have := allDig_zeros k
    simp only [allDig, List.all_cons] at this ⊢
    rw [this]; rfl
  · rw [decV_cons, List.length_replicate]
    have := decV_zeros k []
    rw [List.append_nil] at this
    rw [this]; simp [decV_nil]
theorem decT_snoc {n d : Nat} (h : n ≠ 0) (hd : d < 10) : decT (n * 10 + d) = decT n ++ [48 + d] := by
  rw [decT_big (by omega), show (n * 10 + d) / 10 = n by omega, show (n * 10 + d) % 10 = d by omega]
theorem decT_inj {a b : Nat} (h : decT a = decT b) : a = b := by rw [← decV_decT a, ← decV_decT b, h]

/-- Are bytes the text of a number, for the calls that read one? -/
def numOk (l : List Nat) : Bool := decide (1 ≤ l.length) && decide (l.length ≤ 2000) && allDig l
theorem numOk_dec {n : Nat} (h : (decT n).length ≤ 2000) : numOk (decT n) = true := by
  have := decT_pos n
  simp [numOk, decT_dig, h]; omega

theorem pow_digits {L : Nat} : 4294967296 ^ L ≤ 10 ^ (10 * L) := by
  rw [Nat.pow_mul]
  exact Nat.pow_le_pow_left (by decide) _
theorem decT_len_limbs {n L : Nat} (h : n < 4294967296 ^ L) : (decT n).length ≤ 10 * L + 1 := by
  refine decT_len_le (Nat.lt_of_lt_of_le h (Nat.le_trans pow_digits ?_)) (by omega)
  exact Nat.pow_le_pow_right (by decide) (by omega)
/-- 9 digits are less than a limb. -/
theorem dec_room {k L : Nat} (h : k ≤ 9 * L) : 10 ^ k ≤ 4294967296 ^ L := by
  refine Nat.le_trans (Nat.pow_le_pow_right (by decide) h) ?_
  rw [Nat.pow_mul]
  exact Nat.pow_le_pow_left (by decide) _

theorem dec_room_lt {k L : Nat} (h : k < 9 * L) : 10 ^ k < 4294967296 ^ L :=
  Nat.lt_of_lt_of_le (Nat.pow_lt_pow_right (by decide) h) (dec_room (Nat.le_refl _))

end Go.Proofs.YtpkjooiddejgpaaDoor.Limb
