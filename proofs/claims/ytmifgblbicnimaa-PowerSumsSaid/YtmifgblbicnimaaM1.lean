/- Part 1 of the texts that the statements of this seat lean on: mathematics, and what functions answer, as contracts over memory; each part says its own conditions. -/
import Derived.Test.YtmifgblbicnimaaM0
import Derived.Laws.Strings
import Derived.Laws.Concat
import Derived.Laws.IdiomStrings
import Derived.RegionTactic
import Derived.BigRegion
import Derived.ChangeAlike
/- Plain mathematics of texts: bytes as numbers below 256, decimal digits and the numbers that they tell, the order of texts. No condition. -/
namespace Go.Proofs.Ytmifgblbicnimaa.Limb

/-- The text of bytes that are told as numbers. -/
def strOf (l : List Nat) : ByteArray := ⟨(l.map UInt8.ofNat).toArray⟩
/-- A text's bytes as numbers. -/
def bytesOf (s : ByteArray) : List Nat := s.data.toList.map UInt8.toNat
/-- All numbers of a list are bytes. -/
def Bytes (l : List Nat) : Prop := ∀ x ∈ l, x < 256

theorem bytes_nil : Bytes [] := by intro x hx; cases hx
theorem bytes_cons {x : Nat} {l : List Nat} : Bytes (x :: l) ↔ x < 256 ∧ Bytes l := by simp [Bytes]
theorem bytes_append {a b : List Nat} : Bytes (a ++ b) ↔ Bytes a ∧ Bytes b := by
  simp only [Bytes, List.mem_append]
  exact ⟨fun h => ⟨fun x hx => h x (.inl hx), fun x hx => h x (.inr hx)⟩, fun h x hx => hx.elim (h.1 x) (h.2 x)⟩
theorem bytes_small {l : List Nat} (h : Bytes l) : Small l := fun x hx => Nat.lt_trans (h x hx) (by decide)
theorem bytes_set {l : List Nat} (h : Bytes l) (k v : Nat) (hv : v < 256) : Bytes (l.set k v) := fun x hx => (List.mem_or_eq_of_mem_set hx).elim (h x) (fun e => by omega)
theorem bytes_lim {l : List Nat} (h : Bytes l) (k : Nat) : lim l k < 256 := by
  unfold lim
  rw [List.getD_eq_getElem?_getD]
  rcases Nat.lt_or_ge k l.length with hk | hk
  · rw [List.getElem?_eq_getElem hk]; exact h _ (List.getElem_mem hk)
  · rw [List.getElem?_eq_none hk]; decide
theorem bytes_take {l : List Nat} (h : Bytes l) (k : Nat) : Bytes (l.take k) := fun x hx => h x (List.mem_of_mem_take hx)
theorem bytes_drop {l : List Nat} (h : Bytes l) (k : Nat) : Bytes (l.drop k) := fun x hx => h x (List.mem_of_mem_drop hx)
theorem bytes_reverse {l : List Nat} (h : Bytes l) : Bytes l.reverse := fun x hx => h x (List.mem_reverse.1 hx)

theorem bytes_bytesOf (s : ByteArray) : Bytes (bytesOf s) := by
  intro x hx
  obtain ⟨b, _, rfl⟩ := List.mem_map.1 hx
  exact b.toNat_lt
theorem bytesOf_strOf {l : List Nat} (h : Bytes l) : bytesOf (strOf l) = l := by
  show (l.map UInt8.ofNat).map UInt8.toNat = l
  rw [List.map_map]
  refine (List.map_congr_left fun x hx => ?_).trans (List.map_id l)
  show (UInt8.ofNat x).toNat = x
  rw [UInt8.toNat_ofNat']
  exact Nat.mod_eq_of_lt (h x hx)
theorem strOf_bytesOf (s : ByteArray) : strOf (bytesOf s) = s := by
  obtain ⟨⟨l⟩⟩ := s
  have e : UInt8.ofNat ∘ UInt8.toNat = id := by funext x; exact UInt8.ofNat_toNat
  show ByteArray.mk ((l.map UInt8.toNat).map UInt8.ofNat).toArray = _
  rw [List.map_map, e, List.map_id]
theorem length_bytesOf (s : ByteArray) : (bytesOf s).length = s.size := by
  show (s.data.toList.map UInt8.toNat).length = s.data.size
  rw [List.length_map, Array.length_toList]
theorem size_strOf (l : List Nat) : (strOf l).size = l.length := by
  show (l.map UInt8.ofNat).toArray.size = _
  rw [List.size_toArray, List.length_map]
theorem strOf_append (a b : List Nat) : strOf a ++ strOf b = strOf (a ++ b) := by
  rw [strOf, strOf, ByteArray.mk_append_mk, strOf, List.map_append]
theorem bytesOf_append (s t : ByteArray) : bytesOf (s ++ t) = bytesOf s ++ bytesOf t := by
  simp [bytesOf, ByteArray.data_append]
theorem strOf_inj {a b : List Nat} (ha : Bytes a) (hb : Bytes b) (h : strOf a = strOf b) : a = b := by
  rw [← bytesOf_strOf ha, ← bytesOf_strOf hb, h]
theorem toList_strOf (l : List Nat) : (strOf l).toList = l.map UInt8.ofNat := by rw [strOf, ByteArray.toList_mk]
theorem str_beq {a b : List Nat} (ha : Bytes a) (hb : Bytes b) : ((strOf a).toList == (strOf b).toList) = decide (a = b) := by
  rw [Bool.eq_iff_iff]
  simp only [beq_iff_eq, decide_eq_true_eq, ByteArray.toList_eq]
  constructor
  · intro h
    refine strOf_inj ha hb ?_
    have h2 : (strOf a).data = (strOf b).data := Array.toList_inj.1 h
    exact ByteArray.ext h2
  · rintro rfl; rfl
theorem byte_at (s : ByteArray) (k : Nat) (h : k < s.size) : (s[k]'h).toNat = lim (bytesOf s) k := by
  have hk : k < (bytesOf s).length := by rw [length_bytesOf]; exact h
  unfold lim
  rw [List.getD_eq_getElem?_getD, List.getElem?_eq_getElem hk, Option.getD_some]
  simp [bytesOf]
  rfl

/-- The order of texts, by numbers. -/
def lessB : List Nat → List Nat → Bool
  | _, [] => false
  | [], _ :: _ => true
  | a :: x, b :: y => decide (a < b) || (decide (a = b) && lessB x y)

theorem u8_lt {a b : Nat} (ha : a < 256) (hb : b < 256) : decide (UInt8.ofNat a < UInt8.ofNat b) = decide (a < b) := by
  rw [Bool.eq_iff_iff]
  simp only [decide_eq_true_eq, UInt8.lt_iff_toNat_lt, UInt8.toNat_ofNat']
  rw [Nat.mod_eq_of_lt ha, Nat.mod_eq_of_lt hb]
theorem u8_eq {a b : Nat} (ha : a < 256) (hb : b < 256) : (UInt8.ofNat a == UInt8.ofNat b) = decide (a = b) := by
  rw [Bool.eq_iff_iff]
  simp only [beq_iff_eq, decide_eq_true_eq]
  constructor
  · intro h
    have h2 := congrArg UInt8.toNat h
    simp only [UInt8.toNat_ofNat'] at h2
    omega
  · rintro rfl; rfl
theorem less_map : ∀ {a b : List Nat}, Bytes a → Bytes b → Op.bytesLess (a.map UInt8.ofNat) (b.map UInt8.ofNat) = lessB a b
  | [], [], _, _ => rfl
  | _ :: _, [], _, _ => rfl
  | [], _ :: _, _, _ => rfl
  | x :: a, y :: b, ha, hb => by
    obtain ⟨hx, ha⟩ := bytes_cons.1 ha
    obtain ⟨hy, hb⟩ := bytes_cons.1 hb
    rw [List.map_cons, List.map_cons, Op.bytesLess, u8_lt hx hy, u8_eq hx hy, less_map ha hb, lessB]
theorem str_less {a b : List Nat} (ha : Bytes a) (hb : Bytes b) : Op.bytesLess (strOf a).toList (strOf b).toList = lessB a b := by
  rw [toList_strOf, toList_strOf, less_map ha hb]

/-- Is a byte a decimal digit? -/
def isDig (x : Nat) : Bool := decide (48 ≤ x) && decide (x ≤ 57)
/-- Are all bytes decimal digits? -/
def allDig (l : List Nat) : Bool := l.all isDig
/-- The number that decimal digits tell. -/
def decV (l : List Nat) : Nat := l.foldl (fun v d => v * 10 + (d - 48)) 0

theorem allDig_iff {l : List Nat} : allDig l = true ↔ ∀ x ∈ l, 48 ≤ x ∧ x ≤ 57 := by simp [allDig, isDig]
theorem allDig_append {a b : List Nat} : allDig (a ++ b) = (allDig a && allDig b) := by simp [allDig]
theorem allDig_bytes {l : List Nat} (h : allDig l = true) : Bytes l := fun x hx => by have := allDig_iff.1 h x hx; omega
theorem decV_nil : decV [] = 0 := rfl
theorem foldl_dec (l : List Nat) (v : Nat) : l.foldl (fun v d => v * 10 + (d - 48)) v = v * 10 ^ l.length + l.foldl (fun v d => v * 10 + (d - 48)) 0 := by
  induction l generalizing v with
  | nil => simp
  | cons x l ih =>
    rw [List.foldl_cons, List.foldl_cons, ih, ih (0 * 10 + (x - 48)), List.length_cons, Nat.pow_succ]
    grind
theorem decV_append (a b : List Nat) : decV (a ++ b) = decV a * 10 ^ b.length + decV b := by
  unfold decV
  rw [List.foldl_append, foldl_dec]
theorem decV_snoc (l : List Nat) (x : Nat) : decV (l ++ [x]) = decV l * 10 + (x - 48) := by
  rw [decV_append]; simp [decV]
theorem decV_cons (x : Nat) (l : List Nat) : decV (x :: l) = (x - 48) * 10 ^ l.length + decV l := by
  have := decV_append [x] l
  rwa [show [x] ++ l = x :: l from rfl, show decV [x] = x - 48 by simp [decV]] at this
theorem decV_lt : ∀ {l : List Nat}, allDig l = true → decV l < 10 ^ l.length
  | [], _ => by decide
  | x :: l, h => by
    have h1 := allDig_iff.1 h x (by simp)
    have h2 : allDig l = true := allDig_iff.2 fun y hy => allDig_iff.1 h y (by simp [hy])
    have h3 := decV_lt h2
    rw [decV_cons, List.length_cons, Nat.pow_succ]
    have h4 : (x - 48) * 10 ^ l.length ≤ 9 * 10 ^ l.length := Nat.mul_le_mul_right _ (by omega)
    omega
theorem decV_zeros (k : Nat) (l : List Nat) : decV (List.replicate k 48 ++ l) = decV l := by
  rw [decV_append]
  have : decV (List.replicate k 48) = 0 := by
    induction k with
    | zero => rfl
    | succ k ih => rw [List.replicate_succ, decV_cons, ih]; simp
  rw [this]; simp
theorem allDig_zeros (k : Nat) : allDig (List.replicate k 48) = true := allDig_iff.2 fun x hx => by have := (List.mem_replicate.1 hx).2; omega

/-- Two rows of as many digits that tell one number are one. -/
theorem decV_inj : ∀ {a b : List Nat}, allDig a = true → allDig b = true → a.length = b.length → decV a = decV b → a = b
  | [], [], _, _, _, _ => rfl
  | [], _ :: _, _, _, h, _ => by simp at h
  | _ :: _, [], _, _, h, _ => by simp at h
  | x :: a, y :: b, ha, hb, hl, hv => by
    have hx := allDig_iff.1 ha x (by simp)
    have hy := allDig_iff.1 hb y (by simp)
    have ha2 : allDig a = true := allDig_iff.2 fun z hz => allDig_iff.1 ha z (by simp [hz])
    have hb2 : allDig b = true := allDig_iff.2 fun z hz => allDig_iff.1 hb z (by simp [hz])
    have hl2 : a.length = b.length := by simpa using hl
    rw [decV_cons, decV_cons] at hv
    have h1 := decV_lt ha2
    have h2 := decV_lt hb2
    rw [← hl2] at h2 hv
    have e : x - 48 = y - 48 := by
      rcases Nat.lt_trichotomy (x - 48) (y - 48) with h | h | h
      · have := Nat.mul_le_mul_right (10 ^ a.length) (show x - 48 + 1 ≤ y - 48 from h)
        rw [Nat.add_mul] at this; omega
      · exact h
      · have := Nat.mul_le_mul_right (10 ^ a.length) (show y - 48 + 1 ≤ x - 48 from h)
        rw [Nat.add_mul] at this; omega
    rw [e] at hv
    rw [decV_inj ha2 hb2 hl2 (by omega), show x = y by omega]

/-- The order of rows of as many digits is that of their numbers. -/
theorem lessB_dec : ∀ {a b : List Nat}, allDig a = true → allDig b = true → a.length = b.length → lessB a b = decide (decV a < decV b)
  | [], [], _, _, _ => rfl
  | [], _ :: _, _, _, h => by simp at h
  | _ :: _, [], _, _, h => by simp at h
  | x :: a, y :: b, ha, hb, hl => by
    have hx := allDig_iff.1 ha x (by simp)
    have hy := allDig_iff.1 hb y (by simp)
    have ha2 : allDig a = true := allDig_iff.2 fun z hz => allDig_iff.1 ha z (by simp [hz])
    have hb2 : allDig b = true := allDig_iff.2 fun z hz => allDig_iff.1 hb z (by simp [hz])
    have hl2 : a.length = b.length := by simpa using hl
    have h1 := decV_lt ha2
    have h2 := decV_lt hb2
    rw [lessB, lessB_dec ha2 hb2 hl2, decV_cons, decV_cons, ← hl2]
    rw [← hl2] at h2
    rw [Bool.eq_iff_iff]
    simp only [Bool.or_eq_true, Bool.and_eq_true, decide_eq_true_eq]
    rcases Nat.lt_trichotomy (x - 48) (y - 48) with h | h | h
    · have := Nat.mul_le_mul_right (10 ^ a.length) (show x - 48 + 1 ≤ y - 48 from h)
      rw [Nat.add_mul] at this
      constructor
      · intro _; omega
      · intro _; left; omega
    · have e : x = y := by omega
      subst e
      constructor
      · rintro (h | h)
        · omega
        · omega
      · intro h3; right; exact ⟨rfl, by omega⟩
    · have := Nat.mul_le_mul_right (10 ^ a.length) (show y - 48 + 1 ≤ x - 48 from h)
      rw [Nat.add_mul] at this
      constructor
      · rintro (h | h)
        · omega
        · omega
      · intro h3; omega

/-- The decimal digits of a number, as bytes; the first argument is how many may be asked. -/
def decF : Nat → Nat → List Nat
  | 0, _ => []
  | f + 1, n => if n < 10 then [48 + n] else decF f (n / 10) ++ [48 + n % 10]
/-- The decimal digits of a number, as bytes. -/
def decT (n : Nat) : List Nat := decF (n + 1) n

theorem decF_more : ∀ f g n, n < f → n < g → decF f n = decF g n
  | 0, _, _, h, _ => by omega
  | _, 0, _, _, h => by omega
  | f + 1, g + 1, n, hf, hg => by
    rw [decF, decF]
    split
    · rfl
    · rw [decF_more f g (n / 10) (by omega) (by omega)]
theorem decT_small {n : Nat} (h : n < 10) : decT n = [48 + n] := by rw [decT, decF, if_pos h]
theorem decT_big {n : Nat} (h : 10 ≤ n) : decT n = decT (n / 10) ++ [48 + n % 10] := by
  rw [decT, decF, if_neg (by omega), decT, decF_more n (n / 10 + 1) (n / 10) (by omega) (by omega)]

theorem decT_spec (n : Nat) : allDig (decT n) = true ∧ decV (decT n) = n ∧ decT n ≠ [] ∧ (n ≠ 0 → lim (decT n) 0 ≠ 48) := by
  induction n using Nat.strongRecOn with
  | _ n ih =>
    by_cases h : n < 10
    · rw [decT_small h]
      refine ⟨allDig_iff.2 fun x hx => by simp at hx; omega, by simp [decV], by simp, fun h0 => by simp [lim]; omega⟩
    · obtain ⟨h1, h2, h3, h4⟩ := ih (n / 10) (by omega)
      rw [decT_big (by omega)]
      refine ⟨by rw [allDig_append, h1]; exact allDig_iff.2 fun x hx => by simp at hx; omega, by rw [decV_snoc, h2]; omega, by simp, fun _ => ?_⟩
      have h5 := h4 (by omega)
      cases hd : decT (n / 10) with
      | nil => exact absurd hd h3
      | cons x l => rw [hd] at h5; simpa [lim] using h5
theorem decT_dig (n : Nat) : allDig (decT n) = true := (decT_spec n).1
theorem decV_decT (n : Nat) : decV (decT n) = n := (decT_spec n).2.1
theorem decT_ne (n : Nat) : decT n ≠ [] := (decT_spec n).2.2.1
theorem decT_bytes (n : Nat) : Bytes (decT n) := allDig_bytes (decT_dig n)
theorem decT_pos (n : Nat) : 0 < (decT n).length := List.length_pos_iff.2 (decT_ne n)
theorem decT_zero : decT 0 = [48] := rfl

/-- A number's first digit is no nought: so it is not below a power of ten. -/
theorem pow_le_of_head {l : List Nat} (h : allDig l = true) (h0 : l ≠ []) (h1 : lim l 0 ≠ 48) : 10 ^ (l.length - 1) ≤ decV l := by
  cases l with
  | nil => exact absurd rfl h0
  | cons x l =>
    have hx := allDig_iff.1 h x (by simp)
    have h2 : x ≠ 48 := h1
    rw [decV_cons, List.length_cons, Nat.add_sub_cancel]
    have := Nat.mul_le_mul_right (10 ^ l.length) (show 1 ≤ x - 48 by omega)
    omega
theorem decT_len_pow {n : Nat} (h : n ≠ 0) : 10 ^ ((decT n).length - 1) ≤ n := by
  have := pow_le_of_head (decT_dig n) (decT_ne n) ((decT_spec n).2.2.2 h)
  rwa [decV_decT] at this
theorem decT_lt_pow (n : Nat) : n < 10 ^ (decT n).length := by
  have := decV_lt (decT_dig n)
  rwa [decV_decT] at this
theorem decT_len_le {n k : Nat} (h : n < 10 ^ k) (hk : 0 < k) : (decT n).length ≤ k := by
  rcases Nat.eq_zero_or_pos n with h0 | h0
  · subst h0; exact hk
  · have h1 := decT_len_pow (n := n) (by omega)
    have h2 := (Nat.pow_lt_pow_iff_right (a := 10) (by decide)).1 (Nat.lt_of_le_of_lt h1 h)
    omega
theorem decT_len_mono {a b : Nat} (h : a ≤ b) : (decT a).length ≤ (decT b).length :=
  decT_len_le (Nat.lt_of_le_of_lt h (decT_lt_pow b)) (decT_pos b)
/-- The one row of digits without noughts ahead that tells a number. -/
theorem decT_eq {l : List Nat} {n : Nat} (h : allDig l = true) (h0 : l ≠ []) (h1 : lim l 0 ≠ 48) (hv : decV l = n) : decT n = l := by
  have p1 := pow_le_of_head h h0 h1
  have p2 := decV_lt h
  rw [hv] at p1 p2
  have hl : 0 < l.length := List.length_pos_iff.2 h0
  have e : (decT n).length = l.length := by
    have a1 := decT_len_le p2 hl
    have a2 := (Nat.pow_lt_pow_iff_right (a := 10) (by decide)).1 (Nat.lt_of_le_of_lt p1 (decT_lt_pow n))
    omega
  exact decV_inj (decT_dig n) h e (by rw [decV_decT, hv])
theorem decT_ten (k : Nat) : decT (10 ^ k) = 49 :: List.replicate k 48 := by
  refine decT_eq ?_ (by simp) (by simp [lim]) ?_
  · have := allDig_zeros k
    simp only [allDig, List.all_cons] at this ⊢
    rw [this]; rfl
  · rw [decV_cons, List.length_replicate]
    have := decV_zeros k []
    rw [List.append_nil] at this
    rw [this]; simp [decV_nil]
theorem decT_snoc {n d : Nat} (h : n ≠ 0) (hd : d < 10) : decT (n * 10 + d) = decT n ++ [48 + d] := by
  rw [decT_big (by omega), show (n * 10 + d) / 10 = n by omega, show (n * 10 + d) % 10 = d by omega]
theorem decT_inj {a b : Nat} (h : decT a = decT b) : a = b := by rw [← decV_decT a, ← decV_decT b, h]

/-- Are bytes the text of a number, for the calls that read one? -/
def numOk (l : List Nat) : Bool := decide (1 ≤ l.length) && decide (l.length ≤ 2000) && allDig l
theorem numOk_dec {n : Nat} (h : (decT n).length ≤ 2000) : numOk (decT n) = true := by
  have := decT_pos n
  simp [numOk, decT_dig, h]; omega

theorem pow_digits {L : Nat} : 4294967296 ^ L ≤ 10 ^ (10 * L) := by
  rw [Nat.pow_mul]
  exact Nat.pow_le_pow_left (by decide) _
theorem decT_len_limbs {n L : Nat} (h : n < 4294967296 ^ L) : (decT n).length ≤ 10 * L + 1 := by
  refine decT_len_le (Nat.lt_of_lt_of_le h (Nat.le_trans pow_digits ?_)) (by omega)
  exact Nat.pow_le_pow_right (by decide) (by omega)
/-- 9 digits are less than a limb. -/
theorem dec_room {k L : Nat} (h : k ≤ 9 * L) : 10 ^ k ≤ 4294967296 ^ L := by
  refine Nat.le_trans (Nat.pow_le_pow_right (by decide) h) ?_
  rw [Nat.pow_mul]
  exact Nat.pow_le_pow_left (by decide) _

theorem dec_room_lt {k L : Nat} (h : k < 9 * L) : 10 ^ k < 4294967296 ^ L :=
  Nat.lt_of_lt_of_le (Nat.pow_lt_pow_right (by decide) h) (dec_room (Nat.le_refl _))

end Go.Proofs.Ytmifgblbicnimaa.Limb

/- Rows of bytes that the call itself made: what they read as, stores, growth by append, the text of one. No condition. -/
namespace Go.Proofs.Ytmifgblbicnimaa
open Go.RowKit Limb
set_option linter.unusedVariables false

theorem u8_info : (Try.prog.info? 5).map (fun i => (i.zero, i.size, i.bytes)) = some (some (.int .u8 0), 1, 1) := by kernel_rfl
theorem u8_size : (Try.prog.info? 5).map (·.size) = some 1 := by kernel_rfl

/-- A byte as a value. -/
def byV (x : Nat) : Value := .int .u8 (x : Int)

theorem oneCell_u8 (xs : List Nat) : ∀ v ∈ xs.map byV, v.oneCell' = true := by
  intro v hv
  obtain ⟨x, _, rfl⟩ := List.mem_map.1 hv
  rfl

theorem map_u8_get {xs : List Nat} {j : Nat} {v : Value} (h : (xs.map byV)[j]? = some v) : j < xs.length ∧ v = byV (lim xs j) := by
  rw [List.getElem?_map] at h
  by_cases hj : j < xs.length
  · rw [List.getElem?_eq_getElem hj] at h
    simp at h
    exact ⟨hj, by rw [← h]; simp [lim, List.getD_eq_getElem?_getD, List.getElem?_eq_getElem hj]⟩
  · rw [List.getElem?_eq_none (by omega)] at h; simp at h

/-- The slice of bytes at A reads as xs. -/
def IsB (w : World) (A : Option Addr) (n : Nat) (xs : List Nat) : Prop :=
  xs.length = n ∧ Bytes xs ∧ (0 < n → ∃ b o, A = some ⟨b, o, none⟩ ∧ b < w.heap.size ∧ ∀ j, j < n → w.cell? ⟨b, o + j, none⟩ = some (.int .u8 ((lim xs j : Nat) : Int)))

theorem IsB.below {w w' : World} {A : Option Addr} {n : Nat} {xs : List Nat} (h : IsB w A n xs) (hb : Below w.heap.size w w') : IsB w' A n xs := by
  refine ⟨h.1, h.2.1, fun hn => ?_⟩
  obtain ⟨b, o, e, hlt, hc⟩ := h.2.2 hn
  exact ⟨b, o, e, Nat.lt_of_lt_of_le hlt hb.size, fun j hj => (hb.cell (p := ⟨b, o + j, none⟩) hlt).trans (hc j hj)⟩

/-- A row of bytes that the call itself made. -/
def OwnB (w : World) (B : Nat) (A : Option Addr) (n c : Nat) (zs : List Nat) : Prop :=
  w.ownsRow B 5 1 (.slice A n c) n (zs.map byV) ∧ Bytes zs

section
variable {w w' : World} {B B' C : Nat} {A : Option Addr} {n c : Nat} {zs : List Nat}

theorem OwnB.len (h : OwnB w B A n c zs) : zs.length = n := by
  have := h.1.1; simpa using this
theorem OwnB.bytes (h : OwnB w B A n c zs) : Bytes zs := h.2
theorem OwnB.caps (h : OwnB w B A n c zs) : n ≤ c ∧ c ≤ maxLen := by
  rcases h.1.2 with ⟨hv, h0⟩ | ⟨g, cap, cur, hv, hg, hh, h1, h2, _⟩
  · injection hv with _ _ hc; subst hc; subst h0; exact ⟨Nat.le_refl _, Nat.zero_le _⟩
  · injection hv with _ _ hc; subst hc; exact ⟨h1, h2⟩
theorem OwnB.nil (w : World) (B : Nat) : OwnB w B none 0 0 [] := ⟨World.ownsRow_nil _ _ _ _, bytes_nil⟩
theorem OwnB.addr (h : OwnB w B A n c zs) (hn : 0 < n) : ∃ g, A = some ⟨g, 0, none⟩ ∧ B ≤ g ∧ g < w.heap.size := by
  rcases h.1.2 with ⟨_, h0⟩ | ⟨g, cap, cur, hv, hg, hh, _⟩
  · omega
  · injection hv with hA
    refine ⟨g, hA, hg, ?_⟩
    rcases Nat.lt_or_ge g w.heap.size with hlt | hge
    · exact hlt
    · rw [Array.getElem?_eq_none hge] at hh; cases hh
theorem OwnB.cell {g : Nat} (h : OwnB w B (some ⟨g, 0, none⟩) n c zs) {k : Nat} (hk : k < n) : w.cell? ⟨g, k, none⟩ = some (.int .u8 ((lim zs k : Nat) : Int)) := by
  have hl := h.len
  rw [h.1.cellAt k (by omega), List.getElem?_map, List.getElem?_eq_getElem (by omega)]
  simp [byV, lim, List.getD_eq_getElem?_getD, List.getElem?_eq_getElem (show k < zs.length by omega)]
theorem OwnB.set {g : Nat} (h : OwnB w B (some ⟨g, 0, none⟩) n c zs) (k : Nat) {v : Nat} (hv : v < 256) :
    OwnB (w.setCell ⟨g, k, none⟩ (.int .u8 ((v : Nat) : Int))) B (some ⟨g, 0, none⟩) n c (zs.set k v) := by
  have := (h.1.stored k (byV v)).1
  rw [← List.map_set] at this
  exact ⟨this, bytes_set h.2 k v hv⟩
theorem OwnB.below (h : OwnB w B A n c zs) (hb : Below C w w') (hC : w.heap.size ≤ C) : OwnB w' B A n c zs := by
  refine ⟨⟨h.1.1, ?_⟩, h.2⟩
  rcases h.1.2 with h2 | ⟨g, cap, cur, hv, hg, hh, r⟩
  · exact .inl h2
  · refine .inr ⟨g, cap, cur, hv, hg, ?_, r⟩
    have hlt : g < w.heap.size := by
      rcases Nat.lt_or_ge g w.heap.size with hlt | hge
      · exact hlt
      · rw [Array.getElem?_eq_none hge] at hh; cases hh
    rw [hb.block g (by omega)]
    exact hh
theorem OwnB.isB (h : OwnB w B A n c zs) : IsB w A n zs := by
  refine ⟨h.len, h.2, fun hn => ?_⟩
  obtain ⟨g, rfl, hg, hl⟩ := h.addr hn
  exact ⟨g, 0, rfl, hl, fun j hj => by rw [Nat.zero_add]; exact h.cell hj⟩
theorem OwnB.mono (h : OwnB w B A n c zs) (hB : B' ≤ B) : OwnB w B' A n c zs := by
  refine ⟨⟨h.1.1, ?_⟩, h.2⟩
  rcases h.1.2 with h2 | ⟨g, cap, cur, hv, hg, r⟩
  · exact .inl h2
  · exact .inr ⟨g, cap, cur, hv, Nat.le_trans hB hg, r⟩
theorem OwnB.row (h : OwnB w B A n c zs) : w.ownsRow B 5 1 (.slice A n c) n (zs.map byV) := h.1
theorem OwnB.alloc (h : OwnB w B A n c zs) (o : Obj) : OwnB (w.alloc o) B A n c zs := ⟨h.1.alloc o, h.2⟩
end

theorem shape_ownB {w : World} {B : Nat} {v : Value} {n : Nat} {zs : List Nat} (h : w.ownsRow B 5 1 v n (zs.map byV)) (hs : Bytes zs) : ∃ A c, v = .slice A n c ∧ OwnB w B A n c zs := by
  rcases h.2 with ⟨rfl, rfl⟩ | ⟨g, cap, cur, rfl, hg, r⟩
  · exact ⟨none, 0, rfl, h, hs⟩
  · exact ⟨_, cap, rfl, h, hs⟩

/-- What an append to a row of bytes of the call's own leaves of what was there before the call. -/
theorem below_grownB {w0 w w' : World} {A : Option Addr} {n c : Nat} {zs : List Nat} {o : Obj} (hb : Below w0.heap.size w0 w) (how : OwnB w w0.heap.size A n c zs) (hg : (w.alloc o).grownBy w' (Value.ownBlock (.slice A n c))) : Below w0.heap.size w0 w' :=
  (hb.alloc hb.size o).grown hg (by have := hb.size; simp; omega) (fun k hk => (how.1.lt k hk).1)

end Go.Proofs.Ytmifgblbicnimaa

/- Plain mathematics of long division limb by limb: by one limb, the guess of a quotient's limb, what is taken away and paid back. No condition. -/
namespace Go.Proofs.Ytmifgblbicnimaa.Limb

theorem val_drop_lim {xs : List Nat} {k : Nat} (h : k < xs.length) : val (xs.drop k) = lim xs k + 4294967296 * val (xs.drop (k + 1)) := by
  rw [List.drop_eq_getElem_cons h, val, lim, List.getD_eq_getElem?_getD, List.getElem?_eq_getElem h]; rfl

theorem val_drop_end {xs : List Nat} {k : Nat} (h : xs.length ≤ k) : val (xs.drop k) = 0 := by
  rw [List.drop_eq_nil_of_le h]; rfl

/-- Division by one limb, from the top down to limb k. -/
def OneInv (xs zs : List Nat) (v k r : Nat) : Prop :=
  zs.length = xs.length ∧ (∀ j, j < k → lim zs j = lim xs j) ∧ val (zs.drop k) * v + r = val (xs.drop k) ∧ r < v

theorem OneInv.start (xs : List Nat) {v : Nat} (hv : v ≠ 0) : OneInv xs xs v xs.length 0 := ⟨rfl, fun _ _ => rfl, by rw [val_drop_end (Nat.le_refl _)]; omega, by omega⟩

theorem one_digit {r x v : Nat} (hr : r < v) (hx : x < 4294967296) : (r * 4294967296 + x) / v < 4294967296 := by
  rw [Nat.div_lt_iff_lt_mul (by omega)]
  have : (r + 1) * 4294967296 ≤ v * 4294967296 := Nat.mul_le_mul_right _ hr
  omega

theorem OneInv.step {xs zs : List Nat} {v k r : Nat} (h : OneInv xs zs v (k + 1) r) (hk : k < xs.length) :
    OneInv xs (zs.set k ((r * 4294967296 + lim zs k) / v)) v k ((r * 4294967296 + lim zs k) % v) := by
  obtain ⟨h1, h2, h3, h4⟩ := h
  have hx := h2 k (by omega)
  refine ⟨by simpa using h1, fun j hj => by rw [lim_set_ne (by omega)]; exact h2 j (by omega), ?_, Nat.mod_lt _ (by omega)⟩
  rw [val_drop_lim (xs := zs.set k _) (by simp; omega), lim_set_self (by omega), drop_succ_set, val_drop_lim hk, ← h3, hx]
  have hd := Nat.div_add_mod (r * 4294967296 + lim xs k) v
  generalize (r * 4294967296 + lim xs k) / v = q at *
  generalize (r * 4294967296 + lim xs k) % v = m at *
  generalize val (zs.drop (k + 1)) = z at *
  have e1 : (q + 4294967296 * z) * v = v * q + 4294967296 * (z * v) := by rw [Nat.add_mul, Nat.mul_comm q v, Nat.mul_assoc]
  rw [e1]
  omega

theorem OneInv.done {xs zs : List Nat} {v r : Nat} (h : OneInv xs zs v 0 r) : val zs = val xs / v ∧ r = val xs % v := by
  obtain ⟨_, _, h3, h4⟩ := h
  simp only [List.drop_zero] at h3
  have hv : 0 < v := by omega
  have e : val xs = r + v * val zs := by rw [← h3, Nat.mul_comm]; omega
  constructor
  · rw [e, Nat.add_mul_div_left _ _ hv, Nat.div_eq_of_lt h4]; omega
  · rw [e, Nat.add_mul_mod_self_left, Nat.mod_eq_of_lt h4]

/-- What is left while v times bs is taken from rs, behind k limbs: carry and borrow are still to pay. -/
def LessInv (rs bs zs : List Nat) (v k cr br : Nat) : Prop :=
  zs.length = rs.length ∧ val (zs.take k) + v * val (bs.take k) = val (rs.take k) + (cr + br) * 4294967296 ^ k ∧ (∀ j, k ≤ j → lim zs j = lim rs j) ∧ cr < 4294967296 ∧ br ≤ 1

theorem LessInv.start (rs bs : List Nat) (v : Nat) : LessInv rs bs rs v 0 0 0 := ⟨rfl, by simp [val], fun _ _ => rfl, by omega, by omega⟩

theorem less_step {P x d b v cr br lo cr2 br2 Z S T : Nat} (h : Z + v * S = T + (cr + br) * P) (hp : cr + b * v = lo + cr2 * 4294967296) (hd : d + lo + br = x + br2 * 4294967296) :
    (Z + P * d) + v * (S + P * b) = (T + P * x) + (cr2 + br2) * (P * 4294967296) := by grind

theorem LessInv.step {rs bs zs : List Nat} {v k cr br lo cr2 : Nat} (h : LessInv rs bs zs v k cr br) (hr : Small rs) (hk : k < rs.length) (hb : Small bs) (hv : v < 4294967296)
    (hlo : lo < 4294967296) (hp : cr + lim bs k * v = lo + cr2 * 4294967296) :
    LessInv rs bs (zs.set k (diffLo (lim zs k) lo br)) v (k + 1) cr2 (diffHi (lim zs k) lo br) := by
  obtain ⟨h1, h2, h3, h4, h5⟩ := h
  have hx := h3 k (Nat.le_refl _)
  refine ⟨by simpa using h1, ?_, fun j hj => by rw [lim_set_ne (by omega)]; exact h3 j (by omega), ?_, diffHi_le _ _ _⟩
  · have hd := diff_parts (x := lim zs k) (y := lo) (c := br) (by rw [hx]; exact lim_lt hr k) hlo h5
    rw [val_take_set (by omega), val_take_lim bs, val_take_lim rs, Nat.pow_succ, ← hx]
    exact less_step h2 hp hd
  · have h6 : lim bs k * v ≤ 4294967295 * 4294967295 := Nat.mul_le_mul (by have := lim_lt hb k; omega) (by omega)
    omega

/-- All of it: less than nothing is there just if what is to pay is above the limb on top. -/
theorem less_top {Z V R T P l t : Nat} (h : Z + V = T + t * P) (hz : Z < P) (hR : R = T + P * l) : R < V ↔ l < t := by
  constructor
  · intro h1
    rcases Nat.lt_or_ge l t with h2 | h2
    · exact h2
    · exfalso
      have : t * P ≤ l * P := Nat.mul_le_mul_right _ h2
      have e : P * l = l * P := Nat.mul_comm _ _
      omega
  · intro h1
    have : (l + 1) * P ≤ t * P := Nat.mul_le_mul_right _ h1
    have e : P * l = l * P := Nat.mul_comm _ _
    rw [Nat.add_mul] at this
    omega

/-- Not too much was taken away: what is left is below the divisor. -/
theorem less_fits {Z V R T P l t r : Nat} (h : Z + V = T + t * P) (hz : Z < P) (hR : R = T + P * l) (hr : R = V + r) (hrP : r < P) : Z = r := by
  have h1 : t = l := by
    rcases Nat.lt_trichotomy t l with h2 | h2 | h2
    · exfalso
      have : (t + 1) * P ≤ l * P := Nat.mul_le_mul_right _ h2
      have e : P * l = l * P := Nat.mul_comm _ _
      rw [Nat.add_mul] at this
      omega
    · exact h2
    · exfalso
      have : (l + 1) * P ≤ t * P := Nat.mul_le_mul_right _ h2
      have e : P * l = l * P := Nat.mul_comm _ _
      rw [Nat.add_mul] at this
      omega
  subst h1
  have e : P * t = t * P := Nat.mul_comm _ _
  omega

/-- Too much was taken away: the divisor is paid back. -/
theorem less_back {Z V R T P l t r b Y c : Nat} (h : Z + (V + b) = T + t * P) (hR : R = T + P * l) (hr : R = V + r) (hrP : r < P) (hY : Y + c * P = Z + b) (hyP : Y < P) : Y = r := by
  have e : Y + (c * P + P * l) = r + t * P := by omega
  have h1 : (Y + P * (c + l)) % P = (r + P * t) % P := by
    rw [show Y + P * (c + l) = Y + (c * P + P * l) by rw [Nat.mul_add, Nat.mul_comm P c], e, Nat.mul_comm P t]
  rwa [Nat.add_mul_mod_self_left, Nat.add_mul_mod_self_left, Nat.mod_eq_of_lt hyP, Nat.mod_eq_of_lt hrP] at h1

/-- How often the divisor is in what is left, guessed off the highest limbs. -/
def guessO (top high : Nat) : Nat := min (top / high) 4294967295
def guessT (top high next r2 : Nat) : Bool := decide (top - guessO top high * high ≤ 4294967295) && decide ((top - guessO top high * high) * 4294967296 + r2 < guessO top high * next)
def guessV (top high next r2 : Nat) : Nat := if guessT top high next r2 then guessO top high - 1 else guessO top high

theorem guessO_le (top high : Nat) : guessO top high ≤ 4294967295 := Nat.min_le_right _ _
theorem guessO_mul (top high : Nat) : guessO top high * high ≤ top :=
  Nat.le_trans (Nat.mul_le_mul_right _ (Nat.min_le_left _ _)) (Nat.div_mul_le_self _ _)

theorem guess_low {top high P R b q : Nat} (hb1 : high * P ≤ b) (hR : R < (top + 1) * P) (hq : q * b ≤ R) (hh : 0 < high) (hqB : q ≤ 4294967295) : q ≤ guessO top high := by
  have h1 : q * (high * P) ≤ q * b := Nat.mul_le_mul_left _ hb1
  have h2 : (q * high) * P < (top + 1) * P := by rw [Nat.mul_assoc]; omega
  have h3 : q * high < top + 1 := Nat.lt_of_mul_lt_mul_right h2
  exact Nat.le_min.2 ⟨(Nat.le_div_iff_mul_le hh).2 (by omega), hqB⟩

/-- At most two more, if the divisor's highest bit is set. -/
theorem guess_high {top high P R b q : Nat} (hb2 : b < (high + 1) * P) (hR : top * P ≤ R) (hq : R < (q + 1) * b) (hh : 2147483648 ≤ high) (hqB : q ≤ 4294967295) : guessO top high ≤ q + 2 := by
  rcases Nat.lt_or_ge (q + 2) (guessO top high) with h | h
  · exfalso
    have h1 := guessO_mul top high
    have h2 : (q + 3) * high ≤ guessO top high * high := Nat.mul_le_mul_right _ h
    have h3 : (q + 1) * b ≤ (q + 1) * ((high + 1) * P) := Nat.mul_le_mul_left _ (by omega)
    have h4 : (q + 3) * high * P ≤ top * P := Nat.mul_le_mul_right _ (by omega)
    have h5 : (q + 3) * high * P < (q + 1) * (high + 1) * P := by rw [Nat.mul_assoc (q + 1)]; omega
    have h6 : (q + 3) * high < (q + 1) * (high + 1) := Nat.lt_of_mul_lt_mul_right h5
    have h7 : q ≤ 4294967295 := hqB
    grind
  · exact h

/-- A guess that the third limb contradicts is too great. -/
theorem guess_over {top high next r2 P R b q : Nat} (hb1 : (high * 4294967296 + next) * P ≤ b) (hR : R < (top * 4294967296 + r2 + 1) * P) (hq : q * b ≤ R) (ht : guessT top high next r2 = true) : q < guessO top high := by
  unfold guessT at ht
  rw [Bool.and_eq_true, decide_eq_true_eq, decide_eq_true_eq] at ht
  have h0 := guessO_mul top high
  generalize guessO top high = o at *
  rcases Nat.lt_or_ge q o with h | h
  · exact h
  · exfalso
    have h1 : o * ((high * 4294967296 + next) * P) ≤ q * b := Nat.mul_le_mul h hb1
    have h2 : o * (high * 4294967296 + next) * P < (top * 4294967296 + r2 + 1) * P := by rw [Nat.mul_assoc]; omega
    have h3 := Nat.lt_of_mul_lt_mul_right h2
    have e : o * (high * 4294967296 + next) = (o * high) * 4294967296 + o * next := by rw [Nat.mul_add, Nat.mul_assoc]
    obtain ⟨d, hd⟩ : ∃ d, top = o * high + d := ⟨top - o * high, by omega⟩
    generalize o * high = oh at *
    subst hd
    omega

theorem bears_plain {p hv : Nat} (h5 : (p + 1) * hv < p * (hv + 1)) (h : p ≤ hv) : False := by
  rw [Nat.add_mul, Nat.one_mul, Nat.mul_add, Nat.mul_one] at h5
  omega

/-- A guess that the third limb bears is at most one more. -/
theorem guess_bears {top high next r2 P R b q : Nat} (hb2 : b < (high * 4294967296 + next + 1) * P) (hR : (top * 4294967296 + r2) * P ≤ R) (hq : R < (q + 1) * b) (hh : 2147483648 ≤ high) (ht : guessT top high next r2 = false) (hn : next < 4294967296) : guessO top high ≤ q + 1 := by
  have h0 := guessO_mul top high
  have ho := guessO_le top high
  rcases Nat.lt_or_ge (q + 1) (guessO top high) with h | h
  · exfalso
    have hoq : guessO top high * next ≤ 4294967295 * 4294967295 := Nat.mul_le_mul ho (by omega)
    have hT : guessO top high * (high * 4294967296 + next) ≤ top * 4294967296 + r2 := by
      rw [Nat.mul_add, ← Nat.mul_assoc]
      unfold guessT at ht
      rw [Bool.and_eq_false_iff, decide_eq_false_iff_not, decide_eq_false_iff_not] at ht
      obtain ⟨d, hd⟩ : ∃ d, top = guessO top high * high + d := ⟨top - guessO top high * high, by omega⟩
      generalize guessO top high * high = oh at *
      generalize guessO top high * next = on at *
      rcases ht with ht | ht <;> omega
    generalize guessO top high = o at *
    obtain ⟨p, rfl⟩ : ∃ p, o = p + 1 := ⟨o - 1, by omega⟩
    have h1 : (q + 1) * b ≤ p * b := Nat.mul_le_mul_right _ (by omega)
    have h2 : p * b ≤ p * ((high * 4294967296 + next + 1) * P) := Nat.mul_le_mul_left _ (by omega)
    have h3 : (p + 1) * (high * 4294967296 + next) * P ≤ (top * 4294967296 + r2) * P := Nat.mul_le_mul_right _ hT
    have h4 : (p + 1) * (high * 4294967296 + next) * P < p * (high * 4294967296 + next + 1) * P := by rw [Nat.mul_assoc p]; omega
    have h5 := Nat.lt_of_mul_lt_mul_right h4
    exact bears_plain h5 (by omega)
  · exact h

theorem guess_ok_num {bl next high rl r2 top P q b R G : Nat} (hb : b = bl + P * next + P * 4294967296 * high) (hbl : bl < P) (hn : next < 4294967296) (hR : R = rl + P * r2 + P * 4294967296 * top) (hrl : rl < P) (hr2 : r2 < 4294967296)
    (hh : 2147483648 ≤ high) (hq1 : q * b ≤ R) (hq2 : R < (q + 1) * b) (hqB : q ≤ 4294967295) (hG : guessV top high next r2 = G) : q ≤ G ∧ G ≤ q + 1 ∧ G ≤ 4294967295 := by
  have p1 : P * (next + 1) ≤ P * 4294967296 := Nat.mul_le_mul_left _ hn
  have p2 : P * (r2 + 1) ≤ P * 4294967296 := Nat.mul_le_mul_left _ hr2
  have e1 : high * (P * 4294967296) = P * 4294967296 * high := Nat.mul_comm _ _
  have e2 : top * (P * 4294967296) = P * 4294967296 * top := Nat.mul_comm _ _
  have e3 : (high * 4294967296 + next) * P = P * 4294967296 * high + P * next := by grind
  have e4 : (top * 4294967296 + r2) * P = P * 4294967296 * top + P * r2 := by grind
  rw [Nat.mul_add, Nat.mul_one] at p1 p2
  have c1 : q ≤ guessO top high := guess_low (P := P * 4294967296) (b := b) (R := R) (by omega) (by rw [Nat.add_mul, Nat.one_mul]; omega) hq1 (by omega) hqB
  have c2 : guessO top high ≤ q + 2 := guess_high (P := P * 4294967296) (b := b) (R := R) (by rw [Nat.add_mul, Nat.one_mul]; omega) (by omega) hq2 hh hqB
  have c3 := guessO_le top high
  cases ht : guessT top high next r2 with
  | true =>
    have c4 := guess_over (P := P) (b := b) (R := R) (by omega) (by rw [Nat.add_mul, Nat.one_mul]; omega) hq1 ht
    unfold guessV at hG
    rw [ht] at hG
    simp only [if_true] at hG
    omega
  | false =>
    have c4 := guess_bears (P := P) (b := b) (R := R) (by rw [Nat.add_mul, Nat.one_mul]; omega) (by omega) hq2 hh ht hn
    unfold guessV at hG
    rw [ht] at hG
    simp only [Bool.false_eq_true, if_false] at hG
    omega

theorem guess_ok {rs bs : List Nat} {m G : Nat} (hr : Small rs) (hb : Small bs) (hm : 2 ≤ m) (hrl : rs.length = m + 1) (hbl : bs.length = m) (hh : 2147483648 ≤ lim bs (m - 1)) (hlt : val rs < val bs * 4294967296)
    (hG : guessV (lim rs m * 4294967296 + lim rs (m - 1)) (lim bs (m - 1)) (lim bs (m - 2)) (lim rs (m - 2)) = G) : val rs / val bs ≤ G ∧ G ≤ val rs / val bs + 1 ∧ G ≤ 4294967295 := by
  obtain ⟨k, rfl⟩ : ∃ k, m = k + 2 := ⟨m - 2, by omega⟩
  have e1 : val bs = val (bs.take k) + 4294967296 ^ k * lim bs k + 4294967296 ^ k * 4294967296 * lim bs (k + 1) := by
    have h := val_take_lim bs (k + 1)
    rwa [val_take_lim bs k, List.take_of_length_le (by omega), Nat.pow_succ] at h
  have e2 : val rs = val (rs.take k) + 4294967296 ^ k * lim rs k + 4294967296 ^ k * 4294967296 * (lim rs (k + 2) * 4294967296 + lim rs (k + 1)) := by
    have h := val_take_lim rs (k + 2)
    rw [val_take_lim rs (k + 1), val_take_lim rs k, List.take_of_length_le (by omega), Nat.pow_succ, Nat.pow_succ] at h
    rw [h, Nat.mul_add, Nat.mul_comm (lim rs (k + 2)), Nat.mul_assoc _ 4294967296 (_ * _)]
    rw [Nat.mul_assoc _ 4294967296 (lim rs (k + 2))]
    grind
  have t1 := val_lt (small_take hb k)
  have t2 := val_lt (small_take hr k)
  rw [List.length_take, Nat.min_eq_left (by omega)] at t1 t2
  have hb0 : 0 < val bs := by
    rcases Nat.eq_zero_or_pos (val bs) with h | h
    · rw [h] at hlt; omega
    · exact h
  have q1 : val rs / val bs * val bs ≤ val rs := Nat.div_mul_le_self _ _
  have q2 : val rs < (val rs / val bs + 1) * val bs := by
    have := Nat.lt_mul_div_succ (val rs) hb0
    rwa [Nat.mul_comm] at this
  have q3 : val rs / val bs ≤ 4294967295 := by
    have : val rs / val bs < 4294967296 := by rw [Nat.div_lt_iff_lt_mul hb0, Nat.mul_comm]; exact hlt
    omega
  exact guess_ok_num e1 t1 (lim_lt hb k) e2 t2 (lim_lt hr k) hh q1 q2 q3 hG

/-- Long division, from the top down to limb k: the quotient's limbs from k on, and what is left. -/
def DivInv (xs ys rs qs : List Nat) (m k : Nat) : Prop := val (qs.drop k) * val ys + val (rs.take m) = val (xs.drop k) ∧ val (rs.take m) < val ys

theorem top_pow {ys : List Nat} {m : Nat} (hl : ys.length = m) (hm : 1 ≤ m) (hh : 0 < lim ys (m - 1)) : 4294967296 ^ (m - 1) ≤ val ys := by
  obtain ⟨k, rfl⟩ : ∃ k, m = k + 1 := ⟨m - 1, by omega⟩
  have h := val_take_lim ys k
  rw [List.take_of_length_le (by omega)] at h
  rw [Nat.add_sub_cancel] at hh ⊢
  have : 4294967296 ^ k * 1 ≤ 4294967296 ^ k * lim ys k := Nat.mul_le_mul_left _ hh
  omega

theorem DivInv.start {xs ys : List Nat} {m s : Nat} (hx : Small xs) (hs : s + m = xs.length + 1) (hm : 2 ≤ m) (hy : ys.length = m) (hh : 0 < lim ys (m - 1)) : DivInv xs ys (xs.drop s ++ [0, 0]) (List.replicate s 0) m s := by
  have hl : (xs.drop s).length = m - 1 := by rw [List.length_drop]; omega
  have e : (xs.drop s ++ [0, 0]).take m = xs.drop s ++ [0] := by
    rw [List.take_append, hl, List.take_of_length_le (by omega), show m - (m - 1) = 1 by omega]
    rfl
  have ev : val ((xs.drop s ++ [0, 0]).take m) = val (xs.drop s) := by
    rw [e, val_append]; simp [val]
  refine ⟨?_, ?_⟩
  · rw [ev, val_drop_end (by simp)]; omega
  · rw [ev]
    have h := val_lt (small_drop hx s)
    rw [hl] at h
    exact Nat.lt_of_lt_of_le h (top_pow hy (by omega) hh)

theorem DivInv.lt {xs ys rs qs : List Nat} {m k x : Nat} (h : DivInv xs ys rs qs m k) (hx : x < 4294967296) : val (x :: rs.take m) < val ys * 4294967296 := by
  have := h.2
  rw [val]
  omega

theorem DivInv.step {xs ys rs qs zs : List Nat} {m j : Nat} (h : DivInv xs ys rs qs m (j + 1)) (hj : j < xs.length) (hq : j < qs.length) (hz : val (zs.take m) = val (lim xs j :: rs.take m) % val ys) :
    DivInv xs ys zs (qs.set j (val (lim xs j :: rs.take m) / val ys)) m j := by
  have hy : 0 < val ys := Nat.lt_of_le_of_lt (Nat.zero_le _) h.2
  obtain ⟨h1, h2⟩ := h
  refine ⟨?_, by rw [hz]; exact Nat.mod_lt _ hy⟩
  rw [val_drop_lim (xs := qs.set j _) (by simp; exact hq), lim_set_self hq, drop_succ_set, hz, val_drop_lim hj, ← h1]
  have hd := Nat.div_add_mod (val (lim xs j :: rs.take m)) (val ys)
  generalize val (lim xs j :: rs.take m) / val ys = q at *
  have hv : val (lim xs j :: rs.take m) = lim xs j + 4294967296 * val (rs.take m) := rfl
  rw [hv] at hd ⊢
  generalize (lim xs j + 4294967296 * val (rs.take m)) % val ys = r at *
  generalize val (qs.drop (j + 1)) = Q at *
  have e1 : (q + 4294967296 * Q) * val ys = val ys * q + 4294967296 * (Q * val ys) := by rw [Nat.add_mul, Nat.mul_comm q, Nat.mul_assoc]
  rw [e1]
  omega

theorem DivInv.done {xs ys rs qs : List Nat} {m : Nat} (h : DivInv xs ys rs qs m 0) : val qs = val xs / val ys ∧ val (rs.take m) = val xs % val ys := by
  obtain ⟨h3, h4⟩ := h
  simp only [List.drop_zero] at h3
  have hv : 0 < val ys := by omega
  have e : val xs = val (rs.take m) + val ys * val qs := by rw [← h3, Nat.mul_comm]; omega
  constructor
  · rw [e, Nat.add_mul_div_left _ _ hv, Nat.div_eq_of_lt h4]; omega
  · rw [e, Nat.add_mul_mod_self_left, Nat.mod_eq_of_lt h4]

end Go.Proofs.Ytmifgblbicnimaa.Limb

/- Plain mathematics of products of limbs: a row of products with carries, rows added one above the other, moves by bits, powers bit by bit. No condition. -/
namespace Go.Proofs.Ytmifgblbicnimaa.Limb

theorem blen_count (n : Nat) : (blen n + 31) / 32 = (limbs n).length := by
  by_cases h : n = 0
  · subst h; rw [blen_zero, limbs_zero]; rfl
  · have h1 := length_limbs_pred h
    have h2 := val_lt (small_limbs n)
    rw [val_limbs, pow32] at h2
    rw [pow32] at h1
    have h3 := blen_le h2
    have h4 : 32 * ((limbs n).length - 1) < blen n := (Nat.pow_lt_pow_iff_right (show 1 < 2 by decide)).1 (Nat.lt_of_le_of_lt h1 (blen_lt n))
    omega

/-- A row of products that is laid over a part: the limbs laid so far, and what goes on. -/
def RowInv (xs ps zs : List Nat) (v k cr : Nat) : Prop :=
  val (zs.take k) + cr * 4294967296 ^ k = val (ps.take k) + v * val (xs.take k) ∧ cr < 4294967296

theorem RowInv.start (xs ps zs : List Nat) (v : Nat) : RowInv xs ps zs v 0 0 := ⟨by simp [val], by omega⟩

theorem row_step {S Q X x v p cr P lo hi : Nat} (h : S + cr * P = Q + v * X) (e : lo + hi * 4294967296 = cr + x * v + p) : S + P * lo + hi * (P * 4294967296) = Q + P * p + v * (X + P * x) := by
  have h1 := congrArg (P * ·) e
  simp only [Nat.mul_add] at h1
  rw [Nat.mul_left_comm P hi, Nat.mul_comm x v, Nat.mul_left_comm P v] at h1
  rw [Nat.mul_add, Nat.mul_comm cr P] at *
  omega

theorem limb_prod {x v : Nat} (hx : x < 4294967296) (hv : v < 4294967296) : x * v ≤ 18446744065119617025 :=
  Nat.mul_le_mul (show x ≤ 4294967295 by omega) (show v ≤ 4294967295 by omega)

theorem RowInv.step {xs ps zs : List Nat} {v k cr lo hi : Nat} (h : RowInv xs ps zs v k cr) (hz : k < zs.length) (hx : Small xs) (hp : Small ps) (hv : v < 4294967296)
    (hlo : lo < 4294967296) (e : lo + hi * 4294967296 = cr + lim xs k * v + lim ps k) : RowInv xs ps (zs.set k lo) v (k + 1) hi := by
  obtain ⟨h1, h2⟩ := h
  refine ⟨?_, ?_⟩
  · rw [val_take_set hz, val_take_lim ps, val_take_lim xs, Nat.pow_succ]
    exact row_step h1 e
  · have := limb_prod (lim_lt hx k) hv
    have := lim_lt hp k
    omega

theorem RowInv.done {xs ps zs : List Nat} {v k cr : Nat} (h : RowInv xs ps zs v k cr) (hz : zs.length = k + 1) (hx : xs.length = k) : val (zs.set k cr) = val (ps.take k) + v * val xs := by
  obtain ⟨h1, h2⟩ := h
  have e : (zs.set k cr).take (k + 1) = zs.set k cr := List.take_of_length_le (by simp; omega)
  rw [← e, val_take_set (by omega)]
  rw [List.take_of_length_le (by omega : xs.length ≤ k)] at h1
  rw [← h1, Nat.mul_comm]

/-- Limbs laid into the place of others. -/
def lay (zs : List Nat) (i : Nat) (ys : List Nat) : List Nat := zs.take i ++ ys ++ zs.drop (i + ys.length)

theorem lay_length {zs ys : List Nat} {i : Nat} (h : i + ys.length ≤ zs.length) : (lay zs i ys).length = zs.length := by simp [lay]; omega
theorem lay_small {zs ys : List Nat} {i : Nat} (hz : Small zs) (hy : Small ys) : Small (lay zs i ys) := small_append.2 ⟨small_append.2 ⟨small_take hz _, hy⟩, small_drop hz _⟩

theorem lim_drop (zs : List Nat) (i j : Nat) : lim (zs.drop i) j = lim zs (i + j) := by simp [lim, List.getD_eq_getElem?_getD]

theorem val_zero {zs : List Nat} (h : ∀ j, lim zs j = 0) : val zs = 0 := by
  induction zs with
  | nil => rfl
  | cons z zs ih =>
    have h0 := h 0
    have h1 : val zs = 0 := ih fun j => by have := h (j + 1); simpa [lim] using this
    simp [lim] at h0
    rw [val, h0, h1]

theorem lay_lim {zs ys : List Nat} {i j : Nat} (h : i + ys.length ≤ zs.length) (hj : i + ys.length ≤ j) : lim (lay zs i ys) j = lim zs j := by
  unfold lay lim
  rw [List.getD_eq_getElem?_getD, List.getD_eq_getElem?_getD, List.getElem?_append_right (by simp; omega)]
  simp
  congr 2
  omega

/-- Rows of products, one above the other: so many limbs of the shorter number are done. -/
def MulInv (long short zs : List Nat) (i : Nat) : Prop :=
  zs.length = long.length + short.length ∧ val zs = val long * val (short.take i) ∧ ∀ j, i + long.length ≤ j → lim zs j = 0

theorem MulInv.start (long short : List Nat) : MulInv long short (List.replicate (long.length + short.length) 0) 0 := by
  have h : ∀ j, lim (List.replicate (long.length + short.length) 0) j = 0 := fun j => by
    simp [lim, List.getD_eq_getElem?_getD, List.getElem?_replicate]; split <;> rfl
  exact ⟨by simp, by rw [val_zero h]; simp [val], fun j _ => h j⟩

theorem MulInv.step {long short zs ys : List Nat} {i : Nat} (h : MulInv long short zs i) (hi : i < short.length) (hy : ys.length = long.length + 1)
    (hv : val ys = val ((zs.drop i).take long.length) + lim short i * val long) : MulInv long short (lay zs i ys) (i + 1) := by
  obtain ⟨h1, h2, h3⟩ := h
  refine ⟨by rw [lay_length (by omega), h1], ?_, fun j hj => by rw [lay_lim (by omega) (by omega)]; exact h3 j (by omega)⟩
  have e0 : val (zs.drop (i + ys.length)) = 0 := val_zero fun j => by rw [lim_drop]; exact h3 _ (by omega)
  have e1 : val (zs.drop (i + long.length)) = 0 := val_zero fun j => by rw [lim_drop]; exact h3 _ (by omega)
  have e2 := val_split zs i (by omega)
  have e3 := val_split (zs.drop i) long.length (by simp; omega)
  rw [List.drop_drop, e1, Nat.mul_zero, Nat.add_zero] at e3
  rw [e3, h2] at e2
  rw [val_take_lim, Nat.mul_add, e2, lay, List.append_assoc, val_append, val_append, e0, hv, List.length_take, Nat.min_eq_left (by omega), Nat.mul_zero, Nat.add_zero, Nat.mul_add, Nat.add_assoc,
    Nat.mul_comm (lim short i), Nat.mul_left_comm (val long)]

theorem MulInv.done {long short zs : List Nat} (h : MulInv long short zs short.length) : val zs = val long * val short := by
  have := h.2.1
  rwa [List.take_of_length_le (Nat.le_refl _)] at this

theorem val_zeros (k : Nat) (xs : List Nat) : val (List.replicate k 0 ++ xs) = 4294967296 ^ k * val xs := by
  rw [val_append, List.length_replicate, val_zero (fun j => by simp [lim, List.getD_eq_getElem?_getD, List.getElem?_replicate]; split <;> rfl), Nat.zero_add]

theorem small_zeros (k : Nat) : Small (List.replicate k 0) := by intro x hx; rw [List.mem_replicate] at hx; omega

theorem pow_move (n : Nat) : 4294967296 ^ (n / 32) * 2 ^ (n % 32) = 2 ^ n := by
  rw [pow32, ← Nat.pow_add]; congr 1; omega

end Go.Proofs.Ytmifgblbicnimaa.Limb

/- What package mul's helpers cut and addRow answer, as contracts over memory: the limbs that count; a row of products with carries laid over a part. Conditions: arguments read as limbs, of at most 10^9 of them; a part that is the row itself begins where the row does. -/
namespace Go.Proofs.Ytmifgblbicnimaa
open Go.RowKit Limb
set_option linter.unusedVariables false

set_option maxHeartbeats 400000 in
theorem mulCut_any (A : Option Addr) (n c : Nat) (xs : List Nat) (w : World) (hx : IsN w A n xs) (hc : n ≤ c) (hm : n ≤ 1000000000) :
    Calls Try.prog 67 #[.slice A n c] w fun e w' => e = .returned (.slice A (trim xs).length c) ∧ w = w' := by
  have hlt := trim_len_le xs
  have hl := hx.len
  have hcount : (blen (val xs) + 31) / 32 = (trim xs).length := by rw [blen_count, trim_eq_limbs hx.small]
  have hb : blen (val xs) ≤ 32 * n := by
    have := val_lt hx.small
    rw [pow32, hl] at this
    exact blen_le this
  obtain ⟨m, hm2⟩ : ∃ m, m = (trim xs).length := ⟨_, rfl⟩
  rw [← hm2] at hcount hlt ⊢
  obtain ⟨b, hb2⟩ : ∃ b, b = blen (val xs) := ⟨_, rfl⟩
  have Hb2 := Lib.hid hb2
  rw [← hb2] at hcount hb
  have e1 : ((b : Int) + 32 - 1) / 32 = (m : Int) := by omega
  clear hm2 hb2 hcount
  go_enter Try.func67, Try.ntmps67
  go_wp2_with fail
  refine (bits_any A n c xs w hx hc hm).mono ?_
  rintro e w1 ⟨rfl, rfl⟩
  rw [← Hb2.out]
  go_wp2
  go_ret
  refine ⟨?_, rfl⟩
  first | rfl | (congr 2; omega)

/-- All blocks but one are as they were. -/
def Others (g : Nat) (w w' : World) : Prop := ∀ k, k ≠ g → w'.heap[k]? = w.heap[k]?
theorem Others.refl (g : Nat) (w : World) : Others g w w := fun _ _ => rfl
theorem Others.setCell {g : Nat} {a w : World} (h : Others g a w) (k : Nat) (u : Value) : Others g a (w.setCell ⟨g, k, none⟩ u) := fun j hj => (Below.heap_setCell w _ u j hj).trans (h j hj)

theorem cell_setCell_ne {a b : Addr} (w : World) (v : Value) (h : a ≠ b) : (w.setCell a v).cell? b = w.cell? b := World.cell?_setCell_other (w := w) (a := a) (b := b) (v := v) h

theorem OwnN.others {w w' : World} {B g : Nat} {A : Option Addr} {n c : Nat} {zs : List Nat} (h : OwnN w B A n c zs) (ho : Others g w w') (hA : ∀ b o s, A = some ⟨b, o, s⟩ → b ≠ g) : OwnN w' B A n c zs := by
  refine ⟨⟨h.1.1, ?_⟩, h.2⟩
  rcases h.1.2 with h2 | ⟨k, cap, cur, hv, hg, hh, r⟩
  · exact .inl h2
  · refine .inr ⟨k, cap, cur, hv, hg, ?_, r⟩
    rw [ho k ?_]
    · exact hh
    · injection hv with hA2
      exact hA _ _ _ hA2

set_option maxHeartbeats 1000000 in
theorem addRow_any (w0 w : World) (hb : Below w0.heap.size w0 w) (g m cs : Nat) (zs : List Nat) (how : OwnN w w0.heap.size (some ⟨g, 0, none⟩) (m + 1) cs zs)
    (Ap : Option Addr) (np cp : Nat) (ps : List Nat) (hp : IsN w Ap np ps) (hpm : m ≤ np) (hdis : ∀ b o, Ap = some ⟨b, o, none⟩ → b = g → o = 0)
    (A : Option Addr) (c : Nat) (xs : List Nat) (hx : IsN w0 A m xs) (v : Nat) (hv : v < 4294967296) (hm : m ≤ 1000000000) :
    Calls Try.prog 68 #[.slice (some ⟨g, 0, none⟩) (m + 1) cs, .slice Ap np cp, .slice A m c, .int .u32 (v : Int)] w fun e w' => e = .returned (.tuple #[]) ∧
      (∃ zs', OwnN w' w0.heap.size (some ⟨g, 0, none⟩) (m + 1) cs zs' ∧ val zs' = val (ps.take m) + v * val xs) ∧ Below w0.heap.size w0 w' ∧ Others g w w' := by
  have hBg : w0.heap.size ≤ g := by
    obtain ⟨g', e, h1, _⟩ := how.addr (by omega)
    injection e with e; injection e with e; subst e; exact h1
  have hps : ∀ j, 0 ≤ j → j < m → ∃ b o, Ap = some ⟨b, o, none⟩ ∧ w.cell? ⟨b, o + j, none⟩ = some (.int .u32 ((lim ps j : Nat) : Int)) := by
    intro j _ hj
    obtain ⟨b, o, e, _, hc⟩ := hp.2.2 (by omega)
    exact ⟨b, o, e, hc j (by omega)⟩
  have hsp := hp.small
  have hsx := hx.small
  have Hpl := Lib.hid hp.len
  have Hxl := Lib.hid hx.len
  have Hps := Lib.hid hps
  have Hdis := Lib.hid hdis
  have Hzl := Lib.hid how.len
  clear hps hdis hp
  go_enter Try.func68, Try.ntmps68
  go_wp2
  go_loopw [13, 8] (fun i cy wr => ∃ (k cr : Nat) (zs : List Nat), k ≤ m ∧ i = .int .i64 (k : Int) ∧ cy = .int .u64 (cr : Int) ∧ RowInv xs ps zs v k cr ∧ OwnN wr w0.heap.size (some ⟨g, 0, none⟩) (m + 1) cs zs ∧ Below w0.heap.size w0 wr ∧ Others g w wr ∧
    RowKit.Hid (∀ j, k ≤ j → j < m → ∃ b o, Ap = some ⟨b, o, none⟩ ∧ wr.cell? ⟨b, o + j, none⟩ = some (.int .u32 ((lim ps j : Nat) : Int)))) (fun i _ _ => m - (intOf i).toNat)
  case atStart => exact ⟨0, 0, zs, Nat.zero_le _, rfl, rfl, RowInv.start _ _ _ _, how, hb, Others.refl _ _, Hps⟩
  case round =>
    clear how hb Hps Hzl
    obtain ⟨k, cr, zs, hk, rfl, rfl, hinv, how, hbe, hoth, Hps⟩ := hrel
    have hcr := hinv.2
    have Hinv := Lib.hid hinv
    have Hzl := Lib.hid how.len
    have Hoth := Lib.hid hoth
    clear hinv hoth
    by_cases hkm : k < m
    · obtain ⟨b1, o1, rfl, hb1, hc1⟩ := hx.2.2 (by omega)
      have h1 : wr.cell? ⟨b1, o1 + k, none⟩ = some (.int .u32 ((lim xs k : Nat) : Int)) := (hbe.cell (p := ⟨b1, o1 + k, none⟩) hb1).trans (hc1 k hkm)
      obtain ⟨b2, o2, rfl, h2⟩ := Hps.out k (Nat.le_refl _) hkm
      have h3 := how.cell (k := k) (by omega)
      have h4 := how.1.frozenAt k
      have l1 := lim_lt hsx k
      have l2 := lim_lt hsp k
      have hq := limb_prod l1 hv
      have hq1 : ((lim xs k : Nat) : Int) * (v : Int) ≤ 18446744065119617025 := by
        have : ((lim xs k * v : Nat) : Int) ≤ 18446744065119617025 := by omega
        rwa [Int.natCast_mul] at this
      have hq0 : 0 ≤ ((lim xs k : Nat) : Int) * (v : Int) := by
        have : 0 ≤ ((lim xs k * v : Nat) : Int) := by omega
        rwa [Int.natCast_mul] at this
      obtain ⟨lo, hlo⟩ : ∃ lo, lo = (cr + lim xs k * v + lim ps k) % 4294967296 := ⟨_, rfl⟩
      obtain ⟨hi, hhi⟩ : ∃ hi, hi = (cr + lim xs k * v + lim ps k) / 4294967296 := ⟨_, rfl⟩
      have eI : ((lim xs k * v : Nat) : Int) = ((lim xs k : Nat) : Int) * (v : Int) := Int.natCast_mul _ _
      have hlo2 : lo < 4294967296 := by omega
      have hsum : lo + hi * 4294967296 = cr + lim xs k * v + lim ps k := by omega
      have elo : ((cr : Int) + (((lim xs k : Nat) : Int) * (v : Int) + ((lim ps k : Nat) : Int))) % 4294967296 = (lo : Int) := by omega
      have ehi : ((cr : Int) + (((lim xs k : Nat) : Int) * (v : Int) + ((lim ps k : Nat) : Int))) / 4294967296 = (hi : Int) := by omega
      have Hst : RowKit.Hid (RowInv xs ps (zs.set k lo) v (k + 1) hi) := Hinv.out.step (by have := Hzl.out; omega) hsx hsp hv hlo2 hsum
      have Hset : RowKit.Hid (OwnN (wr.setCell ⟨g, k, none⟩ (.int .u32 (lo : Int))) w0.heap.size (some ⟨g, 0, none⟩) (m + 1) cs (zs.set k lo)) := how.set k hlo2
      have Hbe : RowKit.Hid (Below w0.heap.size w0 (wr.setCell ⟨g, k, none⟩ (.int .u32 (lo : Int)))) := hbe.setCell (by exact hBg) _
      have Ho2 : RowKit.Hid (Others g w (wr.setCell ⟨g, k, none⟩ (.int .u32 (lo : Int)))) := Hoth.out.setCell k _
      have Hps2 : RowKit.Hid (∀ j, k + 1 ≤ j → j < m → ∃ b o, (some (⟨b2, o2, none⟩ : Addr)) = some ⟨b, o, none⟩ ∧ (wr.setCell ⟨g, k, none⟩ (.int .u32 (lo : Int))).cell? ⟨b, o + j, none⟩ = some (.int .u32 ((lim ps j : Nat) : Int))) := by
        intro j h5 h6
        obtain ⟨b, o, e, hc⟩ := Hps.out j (by omega) h6
        refine ⟨b, o, e, (cell_setCell_ne _ _ ?_).trans hc⟩
        intro e2
        injection e2 with e3 e4
        have := Hdis.out b o e e3.symm
        omega
      clear hq hlo hhi hsum
      clear eI
      go_wp2
      go_roundw
      case rel => exact ⟨k + 1, hi, zs.set k lo, by omega, by go_num, rfl, Hst.out, Hset.out, Hbe.out, Ho2.out, Hps2⟩
      case measure => simp [intOf]; omega
    · obtain rfl : k = m := by omega
      have h3 := how.cell (k := k) (by omega)
      have h4 := how.1.frozenAt k
      have Hset : RowKit.Hid (OwnN (wr.setCell ⟨g, k, none⟩ (.int .u32 (cr : Int))) w0.heap.size (some ⟨g, 0, none⟩) (k + 1) cs (zs.set k cr)) := how.set k hcr
      have Hbe : RowKit.Hid (Below w0.heap.size w0 (wr.setCell ⟨g, k, none⟩ (.int .u32 (cr : Int)))) := hbe.setCell (by exact hBg) _
      have Ho2 : RowKit.Hid (Others g w (wr.setCell ⟨g, k, none⟩ (.int .u32 (cr : Int)))) := Hoth.out.setCell k _
      have Hd : RowKit.Hid (val (zs.set k cr) = val (ps.take k) + v * val xs) := Hinv.out.done Hzl.out Hxl.out
      go_wp2
      first | go_end0 | refine bodyPost_ret (results_none rfl _ _ _) rfl ?_
      exact ⟨rfl, ⟨_, Hset.out, Hd.out⟩, Hbe.out, Ho2.out⟩

end Go.Proofs.Ytmifgblbicnimaa

/- What package mul's Of answers, as a contract over memory: the product of the numbers that both lists tell, in its shortest limbs, in new memory. Conditions: both read as limbs, of at most 10^8 of them. -/
namespace Go.Proofs.Ytmifgblbicnimaa
open Go.RowKit Limb
set_option linter.unusedVariables false

/-- Making a row of limbs. -/
theorem run_made (V : Int) (n : Nat) (hV : V = n) (hn : n ≤ 2000000000) (W : World) : (Instr.makeSlice 23 (.int .i64 V) (.int .i64 V)).run Try.prog W = .ok (.slice (some ⟨W.heap.size, 0, none⟩) n n) (W.alloc (.cells (madeCells #[.int .u32 0] n) 62)) := by
  subst hV
  obtain ⟨i0, hi, hz0, hz1, hz2⟩ := info_parts u32_info
  have h := run_make (P := Try.prog) W 23 62 i0 (.int .u32 0) Try.underlying23 hi hz0 .i64 .i64 (n : Int) (n : Int) (by omega) (by omega) (by rw [hz2]; omega) (by omega)
  rw [hz1] at h
  rw [Int.toNat_natCast, Nat.mul_one] at h
  exact h

/-- A row that was made just now. -/
theorem own_made (w : World) (n : Nat) (hn : n ≤ 2000000000) : OwnN (w.alloc (.cells (madeCells #[.int .u32 0] n) 62)) w.heap.size (some ⟨w.heap.size, 0, none⟩) n n (List.replicate n 0) := by
  have Hg : (w.alloc (.cells (madeCells #[.int .u32 0] n) 62)).heap[w.heap.size]? = some (.cells (List.replicate n (Value.int .u32 0)).toArray 62 (0, 0)) := by
    rw [heap_alloc_new, ← toList_madeCells_one]
  refine ⟨⟨by simp, .inr ⟨w.heap.size, n, _, rfl, Nat.le_refl _, Hg, Nat.le_refl _, by unfold maxLen; omega, ?_, ?_⟩⟩, small_zeros _⟩
  · simp
  · simp [limV]

/-- A part of a row of the call's own, from a place on. -/
theorem OwnN.tail {w : World} {B g n c : Nat} {zs : List Nat} (h : OwnN w B (some ⟨g, 0, none⟩) n c zs) (k : Nat) (hk : k < n) : IsN w (some ⟨g, k, none⟩) (n - k) (zs.drop k) := by
  have hl := h.len
  obtain ⟨b, o, e, hb, hc⟩ := h.isN.2.2 (by omega)
  injection e with e; injection e with e1 e2; subst e1; subst e2
  refine ⟨by simp; omega, small_drop h.small _, fun _ => ⟨g, k, rfl, hb, fun j hj => ?_⟩⟩
  rw [lim_drop]
  have := hc (k + j) (by omega)
  rwa [Nat.zero_add] at this

/-- copy of limbs into a row of the call's own, from a place on. -/
theorem wpList_copy_nat {w : World} {ops : Array Oper} {rest : List Oper} {o : Oper} {a : Act} {Q : Exit → Act → World → Prop} (hgd : o.guard = none) (d s : Operand)
    (ho : o.op = .call { callee := .builtin .copy, args := #[d, s], argTypes := #[23, 23] })
    (g off dLen dCap : Nat) (sp : Option Addr) (sLen sCap : Nat) (hd : a.eval d = .slice (some ⟨g, off, none⟩) dLen dCap) (hs : a.eval s = .slice sp sLen sCap)
    (B n : Nat) (zs : List Nat) (hown : Hid (OwnN w B (some ⟨g, 0, none⟩) n n zs)) (ys : List Nat) (hy : Hid (IsN w sp sLen ys)) (hlen : Hid (sLen ≤ dLen ∧ off + sLen ≤ n))
    (h : ∀ w', Hid (OwnN w' B (some ⟨g, 0, none⟩) n n (lay zs off ys)) → Hid (Others g w w') → Hid (∀ w0, Below B w0 w → Below B w0 w') → wpList Try.prog ops Q rest (a.put o.dst (goInt sLen)) w') :
    wpList Try.prog ops Q (o :: rest) a w := by
  have hyl := hy.out.len
  obtain ⟨h1, h2⟩ := hlen.out
  by_cases h0 : sLen = 0
  · subst h0
    obtain rfl : ys = [] := List.eq_nil_of_length_eq_zero hyl
    refine wpList_copy_nothing hgd d s _ _ ho 62 Try.underlying23 u32_size _ _ _ _ _ _ hd hs (Nat.zero_min _) ?_
    have e : lay zs off [] = zs := by simp [lay]
    exact h w (show OwnN _ _ _ _ _ _ by rw [e]; exact hown.out) (Others.refl _ _) (fun _ hb => hb)
  · obtain ⟨b, ob, rfl, hb1, hcell⟩ := hy.out.2.2 (by omega)
    have hzl := hown.out.len
    rcases hown.out.1.2 with ⟨hv, _⟩ | ⟨g2, cap, cur, hv, hg, hh, h3, h4, h5, h6⟩
    · cases hv
    · injection hv with e1 e2 e3
      injection e1 with e1
      injection e1 with e1
      subst e1
      subst e3
      rw [Nat.mul_one] at h5 h6
      have hcur : cur.toList = zs.map limV := by rw [← h6, List.take_of_length_le (by simp [h5])]
      have hb : ∀ w0, Below B w0 w → Below B w0 (w.setRow g (cur.toList.take off ++ ((ys.map limV) ++ cur.toList.drop (off + (ys.map limV).length))).toArray) := fun w0 hb => below_setRow hb hg _
      have ho' : Others g w (w.setRow g (cur.toList.take off ++ ((ys.map limV) ++ cur.toList.drop (off + (ys.map limV).length))).toArray) := fun k hk => setRow_other w g k _ hk
      have hn : OwnN (w.setRow g (cur.toList.take off ++ ((ys.map limV) ++ cur.toList.drop (off + (ys.map limV).length))).toArray) B (some ⟨g, 0, none⟩) n n (lay zs off ys) := by
        have hl2 : (lay zs off ys).length = n := by rw [lay_length (by omega), hzl]
        refine ⟨⟨by simp [hl2], .inr ⟨g, n, _, rfl, hg, setRow_heap w g _ _ _ _ hh, Nat.le_refl _, h4, ?_, ?_⟩⟩, lay_small hown.out.small hy.out.small⟩
        · rw [hcur]; simp; omega
        · rw [hcur, List.take_of_length_le (by simp; omega)]
          simp [lay, List.map_append, List.map_take, List.map_drop]
      have e2 : goInt (ys.map limV).length = goInt sLen := by rw [List.length_map, hyl]
      refine wpList_copy_own hgd d s _ _ ho 62 Try.underlying23 u32_size g off dLen dCap ⟨b, ob, none⟩ sLen sCap hd hs cur 62 hh (ys.map limV) (by rw [List.length_map, hyl]; exact (Nat.min_eq_left h1).symm) ?_ ?_ (oneCell_u32 ys) ?_
      · intro j v hv
        obtain ⟨hj, rfl⟩ := map_u32_get hv
        have e : (⟨b, ob, none⟩ : Addr).add j = ⟨b, ob + j, none⟩ := by unfold Addr.add; split <;> simp_all
        rw [e]
        exact hcell j (by omega)
      · rw [h5]; simp; omega
      · rw [e2]
        exact h _ hn ho' hb

/-- A product, under a name that no simp set opens. -/
def ProdIs (a b t : Nat) : Prop := a * b = t

set_option maxHeartbeats 2000000 in
theorem mulOf_any (A : Option Addr) (n c : Nat) (xs : List Nat) (A' : Option Addr) (n' c' : Nat) (ys : List Nat) (w : World) (hx : IsN w A n xs) (hy : IsN w A' n' ys) (hm : n ≤ 100000000) (hm' : n' ≤ 100000000) (hc : n ≤ c) (hc' : n' ≤ c') :
    Calls Try.prog 44 #[.slice A n c, .slice A' n' c'] w fun e w' => ∃ A2 n2 c2, e = .returned (.slice A2 n2 c2) ∧ OwnN w' w.heap.size A2 n2 c2 (limbs (val xs * val ys)) ∧ Below w.heap.size w w' := by
  have hlt := trim_len_le xs
  have hlt' := trim_len_le ys
  have hl := hx.len
  have hl' := hy.len
  have hx' := IsN.take hx (m := (trim xs).length) (by omega)
  rw [← trim_take xs] at hx'
  have hy' := IsN.take hy (m := (trim ys).length) (by omega)
  rw [← trim_take ys] at hy'
  have ex := trim_eq_limbs hx.small
  have ey := trim_eq_limbs hy.small
  have hb : (trim xs).length ≤ 100000000 := by omega
  have hb' : (trim ys).length ≤ 100000000 := by omega
  have Hl : RowKit.Hid (val (trim xs) = val xs) := by show _ = _; rw [ex, val_limbs]
  have Hl' : RowKit.Hid (val (trim ys) = val ys) := by show _ = _; rw [ey, val_limbs]
  clear hl hl' ex ey hlt hlt'
  go_enter Try.func44, Try.ntmps44
  go_wp2_with fail
  refine (mulCut_any A n c xs w hx hc (by omega)).mono ?_
  rintro e w1 ⟨rfl, rfl⟩
  go_wp2_with fail
  refine (mulCut_any A' n' c' ys w hy hc' (by omega)).mono ?_
  rintro e w1 ⟨rfl, rfl⟩
  generalize trim xs = xs' at *
  generalize trim ys = ys' at *
  clear hx hy
  by_cases hlen : xs'.length < ys'.length
  case' pos =>
    have hle : xs'.length ≤ ys'.length := by omega
    have hlen' : decide (((xs'.length : Nat) : Int) < ((ys'.length : Nat) : Int)) = true := by simpa using hlen
    have HT : ProdIs (val ys') (val xs') (val xs * val ys) := by unfold ProdIs; rw [Hl.out, Hl'.out]; exact Nat.mul_comm _ _
    obtain ⟨long, e⟩ : ∃ l, l = ys' := ⟨_, rfl⟩
    subst e
    obtain ⟨short, e⟩ : ∃ l, l = xs' := ⟨_, rfl⟩
    subst e
    have hL := hy'
    have hS := hx'
    have hbL := hb'
    have hbS := hb
    clear hy' hx' hb hb' Hl Hl' hc hc' hm hm'
  case' neg =>
    have hle : ys'.length ≤ xs'.length := by omega
    have hlen' : decide (((xs'.length : Nat) : Int) < ((ys'.length : Nat) : Int)) = false := by simpa using hlen
    have hlenN : decide (xs'.length < ys'.length) = false := by simpa using hlen
    clear hlen
    have HT : ProdIs (val xs') (val ys') (val xs * val ys) := by unfold ProdIs; rw [Hl.out, Hl'.out]
    obtain ⟨long, e⟩ : ∃ l, l = xs' := ⟨_, rfl⟩
    subst e
    obtain ⟨short, e⟩ : ∃ l, l = ys' := ⟨_, rfl⟩
    subst e
    have hL := hx'
    have hS := hy'
    have hbL := hb
    have hbS := hb'
    clear hy' hx' hb hb' Hl Hl' hc hc' hm hm'
  all_goals
    by_cases h0 : short.length = 0
    · obtain rfl : short = [] := List.eq_nil_of_length_eq_zero h0
      have Hf : RowKit.Hid (limbs (val xs * val ys) = []) := by
        show _ = _
        unfold ProdIs at HT
        rw [← HT]
        simp [val, limbs_zero]
      go_wp2
      go_ret
      exact ⟨_, _, _, rfl, by rw [Hf.out]; exact OwnN.nil _ _, Below.refl _ _⟩
    · have hne : (((short.length : Nat) : Int) == 0) = false := by simp; intro h; exact h0 (by rw [h]; rfl)
      have hpos : 0 < short.length := by omega
      clear h0
      have hmk1 := run_made ((long.length : Int) + (short.length : Int)) (long.length + short.length) (by omega) (by omega)
      have hmk2 := run_made ((long.length : Int) + 1) (long.length + 1) (by omega) (by omega)
      have b0 := below_new w (.cells (madeCells #[.int .u32 0] (long.length + short.length)) 62)
      have b1 := below_two b0 (below_new _ (.cells (madeCells #[.int .u32 0] (long.length + 1)) 62))
      have ho : OwnN _ w.heap.size _ _ _ _ := (own_made w (long.length + short.length) (by omega)).below (below_new _ (.cells (madeCells #[.int .u32 0] (long.length + 1)) 62)) (Nat.le_refl _)
      have hs := (own_made (w.alloc (.cells (madeCells #[.int .u32 0] (long.length + short.length)) 62)) (long.length + 1) (by omega)).mono (B' := w.heap.size) (by simp)
      have hi0 : MulInv long short (List.replicate (long.length + short.length) 0) 0 := MulInv.start _ _
      have hgs : (w.alloc (.cells (madeCells #[.int .u32 0] (long.length + short.length)) 62)).heap.size = w.heap.size + 1 := by simp
      rw [hgs] at hs
      have hsmS := hS.small
      have Hi0 := Lib.hid hi0
      have Ho := Lib.hid ho
      have Hs := Lib.hid hs
      have Hb1 := Lib.hid b1
      clear hi0 ho hs b1 b0 hgs
      go_wp2
      go_loopw [37] (fun i wr => ∃ (k : Nat) (zs zt : List Nat), k ≤ short.length ∧ i = .int .i64 (k : Int) ∧ RowKit.Hid (MulInv long short zs k) ∧ RowKit.Hid (OwnN wr w.heap.size (some ⟨w.heap.size, 0, none⟩) (long.length + short.length) (long.length + short.length) zs) ∧
        RowKit.Hid (OwnN wr w.heap.size (some ⟨w.heap.size + 1, 0, none⟩) (long.length + 1) (long.length + 1) zt) ∧ RowKit.Hid (Below w.heap.size w wr)) (fun i _ => short.length - (intOf i).toNat)
      case atStart => exact ⟨0, _, _, Nat.zero_le _, rfl, Hi0, Ho, Hs, Hb1⟩
      case round =>
        clear Hi0 Ho Hs Hb1 hmk1 hmk2
        obtain ⟨k, zs, zt, hk, rfl, Hinv, Ho, Hs, Hb⟩ := hrel
        by_cases hkq : k < short.length
        · obtain ⟨bs, os, hA, hbs, hcs⟩ := hS.2.2 (by omega)
          subst hA
          have h1 : wr.cell? ⟨bs, os + k, none⟩ = some (.int .u32 ((lim short k : Nat) : Int)) := (Hb.out.cell (p := ⟨bs, os + k, none⟩) hbs).trans (hcs k hkq)
          have l1 := lim_lt hsmS k
          have Hpart : RowKit.Hid (IsN wr (some ⟨w.heap.size, k, none⟩) (long.length + short.length - k) (zs.drop k)) := Ho.out.tail k (by omega)
          have Hdis : RowKit.Hid (∀ b o, (some (⟨w.heap.size, k, none⟩ : Addr)) = some ⟨b, o, none⟩ → b = w.heap.size + 1 → o = 0) := by
            intro b o e1 e2
            injection e1 with e1; injection e1 with e1
            omega
          go_wp2_with fail
          refine (addRow_any w wr Hb.out (w.heap.size + 1) long.length (long.length + 1) zt Hs.out _ _ _ (zs.drop k) Hpart.out (by omega) Hdis.out _ _ long hL (lim short k) l1 (by omega)).mono ?_
          rintro e w2 ⟨rfl, ⟨zu, hu, hvu⟩, hb2, ho2⟩
          have Ho2 : RowKit.Hid (OwnN w2 w.heap.size (some ⟨w.heap.size, 0, none⟩) (long.length + short.length) (long.length + short.length) zs) := Ho.out.others ho2 (by intro b o s e; injection e with e; injection e with e; omega)
          have Hu := Lib.hid hu.isN
          have Hu2 := Lib.hid hu
          have Hul := Lib.hid hu.len
          have Hv := Lib.hid hvu
          have Hb2 := Lib.hid hb2
          have Hlen : RowKit.Hid (long.length + 1 ≤ long.length + short.length - k ∧ k + (long.length + 1) ≤ long.length + short.length) := ⟨by omega, by omega⟩
          clear hu hvu hb2 ho2 Hb Ho Hs Hpart Hdis
          go_wp2_with (with_reducible refine wpList_copy_nat rfl (.tmp 51) (.tmp 52) rfl w.heap.size k (long.length + short.length - k) (long.length + short.length - k) (some ⟨w.heap.size + 1, 0, none⟩) (long.length + 1) (long.length + 1) rfl rfl w.heap.size (long.length + short.length) zs Ho2 zu Hu Hlen ?_)
          intro w3 Ho3 Hoth Hbel
          have Hs3 : RowKit.Hid (OwnN w3 w.heap.size (some ⟨w.heap.size + 1, 0, none⟩) (long.length + 1) (long.length + 1) zu) := Hu2.out.others Hoth.out (by intro b o s e; injection e with e; injection e with e; omega)
          have Hb3 : RowKit.Hid (Below w.heap.size w w3) := Hbel.out w Hb2.out
          have Hst : RowKit.Hid (MulInv long short (lay zs k zu) (k + 1)) := Hinv.out.step (by omega) Hul.out Hv.out
          clear Hoth Hbel Hb2 Hu Hu2 Hv Hinv
          go_wp2
          go_roundw
          case rel => exact ⟨k + 1, lay zs k zu, zu, by omega, by go_num, Hst, Ho3, Hs3, Hb3⟩
          case measure => simp [intOf]; omega
        · obtain rfl : k = short.length := by omega
          have hz := Ho.out.isN
          have hzl := Ho.out.len
          have ht := trim_len_le zs
          have how2 := Ho.out.take (m := (trim zs).length) (by omega)
          rw [← trim_take zs] at how2
          have Hf : RowKit.Hid (trim zs = limbs (val xs * val ys)) := by
            show _ = _
            unfold ProdIs at HT
            rw [trim_eq_limbs Ho.out.small, Hinv.out.done, HT]
          go_wp2_with fail
          refine (mulCut_any _ _ _ zs _ hz (Nat.le_refl _) (by omega)).mono ?_
          rintro e w3 ⟨rfl, rfl⟩
          go_wp2
          go_ret
          refine ⟨_, (trim zs).length, _, rfl, ?_, Hb.out⟩
          rw [← Hf.out]
          exact how2

end Go.Proofs.Ytmifgblbicnimaa

/- What package mul's Small and up answer, as contracts over memory: the product of a number and one limb, a number moved up by bits, in shortest limbs, in new memory. Conditions: the list reads as limbs, of at most 10^8 of them; moves of at most 8192 bits. -/
namespace Go.Proofs.Ytmifgblbicnimaa
open Go.RowKit Limb
set_option linter.unusedVariables false

theorem zeros_limbs (k m : Nat) (h : m ≠ 0) : List.replicate k 0 ++ limbs m = limbs (4294967296 ^ k * m) := by
  have e := eq_limbs (xs := List.replicate k 0 ++ limbs m) (small_append.2 ⟨small_zeros k, small_limbs m⟩) (.inr ?_)
  · rwa [val_zeros, val_limbs] at e
  · rw [val_zeros, val_limbs, List.length_append, List.length_replicate]
    have h1 := length_limbs_pred h
    have h2 : (limbs m).length ≠ 0 := by rw [limbs_pos h]; simp
    rw [show k + (limbs m).length - 1 = k + ((limbs m).length - 1) by omega, Nat.pow_add]
    exact Nat.mul_le_mul_left _ h1

theorem lay_zeros (k : Nat) (ys : List Nat) : lay (List.replicate (k + ys.length) 0) k ys = List.replicate k 0 ++ ys := by
  simp [lay]

set_option maxHeartbeats 1000000 in
theorem mulSmall_any (A : Option Addr) (n c : Nat) (xs : List Nat) (v : Nat) (w : World) (hx : IsN w A n xs) (hm : n ≤ 100000000) (hc : n ≤ c) (hv : v < 4294967296) :
    Calls Try.prog 99 #[.slice A n c, .int .u32 (v : Int)] w fun e w' => ∃ A2 n2 c2, e = .returned (.slice A2 n2 c2) ∧ OwnN w' w.heap.size A2 n2 c2 (limbs (val xs * v)) ∧ Below w.heap.size w w' := by
  have hlt := trim_len_le xs
  have hl := hx.len
  have hx' := IsN.take hx (m := (trim xs).length) (by omega)
  rw [← trim_take xs] at hx'
  have ex := trim_eq_limbs hx.small
  have hb : (trim xs).length ≤ 100000000 := by omega
  have Hl : RowKit.Hid (val (trim xs) = val xs) := by show _ = _; rw [ex, val_limbs]
  clear hl ex hlt
  go_enter Try.func99, Try.ntmps99
  go_wp2_with fail
  refine (mulCut_any A n c xs w hx hc (by omega)).mono ?_
  rintro e w1 ⟨rfl, rfl⟩
  generalize trim xs = ys at *
  clear hx
  by_cases h0 : ys.length = 0
  · obtain rfl : ys = [] := List.eq_nil_of_length_eq_zero h0
    have Hf : RowKit.Hid (limbs (val xs * v) = []) := by show _ = _; rw [← Hl.out]; simp [val, limbs_zero]
    go_wp2
    go_ret
    exact ⟨_, _, _, rfl, by rw [Hf.out]; exact OwnN.nil _ _, Below.refl _ _⟩
  · have hne : (((ys.length : Nat) : Int) == 0) = false := by simp; intro h; exact h0 (by rw [h]; rfl)
    by_cases hv0 : v = 0
    · subst hv0
      have Hf : RowKit.Hid (limbs (val xs * 0) = []) := by show _ = _; rw [Nat.mul_zero, limbs_zero]
      go_wp2
      go_ret
      exact ⟨_, _, _, rfl, by rw [Hf.out]; exact OwnN.nil _ _, Below.refl _ _⟩
    · have hvne : ((v : Int) == 0) = false := by simp; exact hv0
      have hpos : 0 < ys.length := by omega
      clear h0 hv0
      have hmk2 := run_made ((ys.length : Int) + 1) (ys.length + 1) (by omega) (by omega)
      have Hb1 := Lib.hid (below_new w (.cells (madeCells #[.int .u32 0] (ys.length + 1)) 62))
      have hs := own_made w (ys.length + 1) (by omega)
      have Hs := Lib.hid hs
      have Hpart := Lib.hid hs.isN
      have Hdis : RowKit.Hid (∀ b o, (some (⟨w.heap.size, 0, none⟩ : Addr)) = some ⟨b, o, none⟩ → b = w.heap.size → o = 0) := by
        intro b o e1 e2
        injection e1 with e1; injection e1 with e1 e3
        exact e3.symm
      clear hs
      go_wp2_with fail
      refine (addRow_any w _ Hb1.out w.heap.size ys.length (ys.length + 1) _ Hs.out _ _ _ _ Hpart.out (by omega) Hdis.out _ _ ys hx' v hv (by omega)).mono ?_
      rintro e w2 ⟨rfl, ⟨zs, hz, hvz⟩, hb2, ho2⟩
      have hv2 : val zs = val xs * v := by
        rw [hvz, Hl.out, Nat.mul_comm, val_zero (zs := List.take _ _) (fun j => ?_), Nat.zero_add]
        simp [lim, List.getD_eq_getElem?_getD, List.getElem?_replicate]
        split <;> (try split) <;> rfl
      clear Hs Hpart Hdis ho2 hvz
      have hzi := hz.isN
      have hzl := hz.len
      have ht := trim_len_le zs
      have how2 := hz.take (m := (trim zs).length) (by omega)
      rw [← trim_take zs] at how2
      have Hf : RowKit.Hid (trim zs = limbs (val xs * v)) := by
        show _ = _
        rw [trim_eq_limbs hz.small, hv2]
      clear hv2 hz hzl
      go_wp2_with fail
      refine (mulCut_any _ _ _ zs _ hzi (Nat.le_refl _) (by omega)).mono ?_
      rintro e w3 ⟨rfl, rfl⟩
      go_wp2
      go_ret
      refine ⟨_, (trim zs).length, _, rfl, ?_, hb2⟩
      rw [← Hf.out]
      exact how2

theorem two_pow_small (r : Nat) (h : r < 32) : 2 ^ r < 4294967296 := by
  have : 2 ^ r < 2 ^ 32 := Nat.pow_lt_pow_right (by decide) h
  simpa using this

theorem two_pow_int (r : Nat) (h : r < 32) : (2 : Int) ^ r % 4294967296 = ((2 ^ r : Nat) : Int) := by
  have h1 := two_pow_small r h
  have e : (2 : Int) ^ r = ((2 ^ r : Nat) : Int) := by rw [Int.natCast_pow]; rfl
  rw [e]
  generalize 2 ^ r = t at h1 ⊢
  omega

theorem pow_split (a k : Nat) : 4294967296 ^ (k / 32) * (a * 2 ^ (k % 32)) = a * 2 ^ k := by
  rw [Nat.mul_left_comm, pow_move]

set_option maxHeartbeats 1000000 in
theorem mulUp_any (A : Option Addr) (n c : Nat) (xs : List Nat) (k : Nat) (V : Int) (hV : V = k) (w : World) (hx : IsN w A n xs) (hm : n ≤ 90000000) (hc : n ≤ c) (hk : k ≤ 8192) :
    Calls Try.prog 95 #[.slice A n c, .int .i64 V] w fun e w' => ∃ A2 n2 c2, e = .returned (.slice A2 n2 c2) ∧ OwnN w' w.heap.size A2 n2 c2 (limbs (val xs * 2 ^ k)) ∧ Below w.heap.size w w' := by
  subst hV
  have hlt : val xs * 2 ^ (k % 32) < 4294967296 ^ (n + 1) := by
    have h1 := val_lt hx.small
    rw [hx.len] at h1
    have h2 := two_pow_small (k % 32) (Nat.mod_lt _ (by decide))
    have h3 : 0 < 2 ^ (k % 32) := Nat.two_pow_pos _
    rw [Nat.pow_succ]
    exact Nat.lt_of_lt_of_le (Nat.mul_lt_mul_of_pos_right h1 h3) (Nat.mul_le_mul_left _ (Nat.le_of_lt h2))
  have Hlen := Lib.hid (length_limbs_le hlt)
  have hsh : 2 ^ (k % 32) < 4294967296 := two_pow_small _ (Nat.mod_lt _ (by decide))
  have Hsh := Lib.hid hsh
  clear hlt hsh
  go_enter Try.func95, Try.ntmps95
  go_wp2_with fail
  rw [two_pow_int _ (Nat.mod_lt _ (by decide))]
  obtain ⟨t, ht⟩ : ∃ t, t = 2 ^ (k % 32) := ⟨_, rfl⟩
  have Hprod : RowKit.Hid (4294967296 ^ (k / 32) * (val xs * t) = val xs * 2 ^ k) := by show _ = _; rw [ht]; exact pow_split _ _
  rw [← ht] at Hsh Hlen ⊢
  clear ht
  refine (mulSmall_any A n c xs t w hx (by omega) hc Hsh.out).mono ?_
  rintro e w1 ⟨A1, n1, c1, rfl, h1, b1⟩
  have hn1 : n1 ≤ n + 1 := by have := h1.len; have := Hlen.out; omega
  by_cases h0 : n1 = 0
  · subst h0
    have Hf : RowKit.Hid (limbs (val xs * 2 ^ k) = []) := by
      show _ = _
      have e0 := List.eq_nil_of_length_eq_zero h1.len
      rw [limbs_eq_nil] at e0
      rw [← Hprod.out, e0, Nat.mul_zero, limbs_zero]
    clear h1
    go_wp2
    go_ret
    exact ⟨_, _, _, rfl, by rw [Hf.out]; exact OwnN.nil _ _, b1⟩
  · have hne : ((n1 : Int) == 0) = false := by simp; exact h0
    have hpos : 0 < n1 := by omega
    clear h0
    have hq : k / 32 ≤ 256 := by omega
    obtain ⟨q, hq2⟩ : ∃ q, q = k / 32 := ⟨_, rfl⟩
    have eq1 : (k : Int) / 32 = (q : Int) := by omega
    have hq3 : q ≤ 256 := by omega
    have Hf : RowKit.Hid (List.replicate q 0 ++ limbs (val xs * t) = limbs (val xs * 2 ^ k)) := by
      show _ = _
      rw [zeros_limbs, hq2, Hprod.out]
      intro h0
      have := h1.len
      rw [h0, limbs_zero] at this
      simp at this
      omega
    have hmk2 := run_made ((q : Int) + (n1 : Int)) (q + n1) (by omega) (by omega)
    have b2 := below_new w1 (.cells (madeCells #[.int .u32 0] (q + n1)) 62)
    have Hs := Lib.hid (own_made w1 (q + n1) (by omega))
    have Hu := Lib.hid (h1.isN.below b2)
    have Hul := Lib.hid h1.len
    have Hb2 := Lib.hid b2
    have Hb1 := Lib.hid b1
    have Hsz := Lib.hid b1.size
    have Hlen2 : RowKit.Hid (n1 ≤ n1 ∧ q + n1 ≤ q + n1) := ⟨Nat.le_refl _, Nat.le_refl _⟩
    clear h1 b1 b2 Hlen Hprod hq hq2
    go_wp2_with (with_reducible refine wpList_copy_nat rfl (.tmp 24) (.tmp 25) rfl w1.heap.size q n1 n1 A1 n1 c1 rfl rfl w1.heap.size (q + n1) (List.replicate (q + n1) 0) Hs (limbs (val xs * t)) Hu Hlen2 ?_)
    intro w3 Ho Hoth Hbel
    have Hb3 := Lib.hid (below_two Hb1.out (Hbel.out w1 Hb2.out))
    have Ho3 : RowKit.Hid (OwnN w3 w.heap.size (some ⟨w1.heap.size, 0, none⟩) (q + n1) (q + n1) (limbs (val xs * 2 ^ k))) := by
      have h := Ho.out.mono Hsz.out
      have e2 : lay (List.replicate (q + n1) 0) q (limbs (val xs * t)) = List.replicate q 0 ++ limbs (val xs * t) := by
        have := lay_zeros q (limbs (val xs * t))
        rwa [Hul.out] at this
      rw [e2, Hf.out] at h
      exact h
    clear Hs Hu Hul Hb2 Hb1 Hsz Hoth Hbel Ho Hf
    go_wp2
    go_ret
    exact ⟨_, _, _, rfl, Ho3.out, Hb3.out⟩

end Go.Proofs.Ytmifgblbicnimaa

/- What package mul's down answers, as a contract over memory: a number moved down by bits, in shortest limbs, in new memory. Conditions: the list reads as limbs, of at most 10^8 of them; moves of at most 8192 bits. -/
namespace Go.Proofs.Ytmifgblbicnimaa.Limb

/-- A limb of a number moved down by r bits, and the lowest bits of the next one. -/
def downLimb (ys : List Nat) (r j : Nat) : Nat := lim ys j / 2 ^ r ||| lim ys (j + 1) * 2 ^ (32 - r) % 4294967296

theorem downLimb_lt {ys : List Nat} (hy : Small ys) (r j : Nat) : downLimb ys r j < 4294967296 := by
  have h1 : lim ys j / 2 ^ r < 2 ^ 32 := Nat.lt_of_le_of_lt (Nat.div_le_self _ _) (lim_lt hy j)
  have h2 : lim ys (j + 1) * 2 ^ (32 - r) % 4294967296 < 2 ^ 32 := Nat.mod_lt _ (by decide)
  exact Nat.or_lt_two_pow h1 h2

theorem downLimb_last {ys : List Nat} (r j : Nat) (h : ys.length ≤ j + 1) : downLimb ys r j = lim ys j / 2 ^ r := by
  unfold downLimb; rw [lim_of_ge h]; simp

theorem val_down {ys zs : List Nat} {r : Nat} (hy : Small ys) (hz : Small zs) (hr : r < 32) (hl : zs.length = ys.length) (h : ∀ j, j < ys.length → lim zs j = downLimb ys r j) : val zs = val ys / 2 ^ r := by
  refine Nat.eq_of_testBit_eq fun i => ?_
  rw [testBit_lim zs hz, Nat.testBit_div_two_pow, testBit_lim ys hy]
  by_cases hj : i / 32 < ys.length
  · rw [h _ hj, downLimb, Nat.testBit_or, Nat.testBit_div_two_pow, show (4294967296 : Nat) = 2 ^ 32 from rfl, Nat.testBit_mod_two_pow, Nat.testBit_mul_two_pow]
    have hq : i % 32 < 32 := Nat.mod_lt _ (by decide)
    by_cases hc : i % 32 + r < 32
    · have e1 : (i + r) / 32 = i / 32 := by omega
      have e2 : (i + r) % 32 = i % 32 + r := by omega
      have e3 : ¬ (32 - r ≤ i % 32) := by omega
      rw [e1, e2]
      simp [e3]
    · have e1 : (i + r) / 32 = i / 32 + 1 := by omega
      have e2 : (i + r) % 32 = i % 32 - (32 - r) := by omega
      have e3 : 32 - r ≤ i % 32 := by omega
      have e4 : (lim ys (i / 32)).testBit (i % 32 + r) = false := Nat.testBit_lt_two_pow (Nat.lt_of_lt_of_le (lim_lt hy _) (by
        have : 2 ^ 32 ≤ 2 ^ (i % 32 + r) := Nat.pow_le_pow_right (by decide) (by omega)
        simpa using this))
      rw [e1, e2, e4]
      simp [e3, hq]
  · rw [lim_of_ge (by omega), lim_of_ge (xs := ys) (by omega)]
    simp

theorem val_drop {xs : List Nat} (hx : Small xs) (k : Nat) (hk : k ≤ xs.length) : val (xs.drop k) = val xs / 4294967296 ^ k := by
  have h1 := val_split xs k hk
  have h2 := val_lt (small_take hx k)
  rw [List.length_take, Nat.min_eq_left hk] at h2
  rw [h1, Nat.add_mul_div_left _ _ (Nat.pow_pos (by decide)), Nat.div_eq_of_lt h2, Nat.zero_add]

theorem div_move (a n : Nat) : a / 4294967296 ^ (n / 32) / 2 ^ (n % 32) = a / 2 ^ n := by
  rw [Nat.div_div_eq_div_mul, pow_move]

/-- So many limbs are moved down. -/
def DownInv (ys zs : List Nat) (r k : Nat) : Prop := zs.length = ys.length ∧ (∀ j, j < k → lim zs j = downLimb ys r j) ∧ ∀ j, k ≤ j → lim zs j = lim ys j

theorem DownInv.start (ys : List Nat) (r : Nat) : DownInv ys ys r 0 := ⟨rfl, fun j hj => by omega, fun _ _ => rfl⟩

theorem DownInv.step {ys zs : List Nat} {r k v : Nat} (h : DownInv ys zs r k) (hk : k < ys.length) (hv : v = downLimb ys r k) : DownInv ys (zs.set k v) r (k + 1) := by
  obtain ⟨h1, h2, h3⟩ := h
  refine ⟨by simpa using h1, fun j hj => ?_, fun j hj => by rw [lim_set_ne (by omega)]; exact h3 j (by omega)⟩
  by_cases e : j = k
  · subst e; rw [lim_set_self (by omega), hv]
  · rw [lim_set_ne (fun h => e h.symm)]; exact h2 j (by omega)

theorem set_set {zs : List Nat} {k u v : Nat} : (zs.set k u).set k v = zs.set k v := by simp

end Go.Proofs.Ytmifgblbicnimaa.Limb
namespace Go.Proofs.Ytmifgblbicnimaa
open Go.RowKit Limb
set_option linter.unusedVariables false

set_option maxHeartbeats 1000000 in
theorem mulDown_any (A : Option Addr) (n c : Nat) (xs : List Nat) (k : Nat) (V : Int) (hV : V = k) (w : World) (hx : IsN w A n xs) (hm : n ≤ 90000000) (hc : n ≤ c) (hk : k ≤ 8192) :
    Calls Try.prog 94 #[.slice A n c, .int .i64 V] w fun e w' => ∃ A2 n2 c2, e = .returned (.slice A2 n2 c2) ∧ OwnN w' w.heap.size A2 n2 c2 (limbs (val xs / 2 ^ k)) ∧ Below w.heap.size w w' := by
  subst hV
  obtain ⟨q, hq⟩ : ∃ q, q = k / 32 := ⟨_, rfl⟩
  obtain ⟨r, hr⟩ : ∃ r, r = k % 32 := ⟨_, rfl⟩
  have Hk : RowKit.Hid (val xs / 4294967296 ^ q / 2 ^ r = val xs / 2 ^ k) := by show _ = _; rw [hq, hr]; exact div_move _ _
  have eq1 : (k : Int) / 32 = (q : Int) := by omega
  have er1 : (k : Int) % 32 = (r : Int) := by omega
  have hr32 : r < 32 := by omega
  have hq3 : q ≤ 256 := by omega
  clear hq hr
  by_cases hqn : n ≤ q
  · have Hf : RowKit.Hid (limbs (val xs / 2 ^ k) = []) := by
      show _ = _
      have h1 := val_lt hx.small
      rw [hx.len] at h1
      have h2 : 4294967296 ^ n ≤ 4294967296 ^ q := Nat.pow_le_pow_right (by decide) hqn
      rw [← Hk.out, Nat.div_eq_of_lt (Nat.lt_of_lt_of_le h1 h2), Nat.zero_div, limbs_zero]
    go_enter Try.func94, Try.ntmps94
    go_wp2
    go_ret
    exact ⟨_, _, _, rfl, by rw [Hf.out]; exact OwnN.nil _ _, Below.refl _ _⟩
  · have hqn : q < n := by omega
    obtain ⟨m, hm2⟩ : ∃ m, m = n - q := ⟨_, rfl⟩
    have em : (n : Int) - (q : Int) = (m : Int) := by omega
    have em2 : n - q = m := hm2.symm
    have hm0 : 0 < m := by omega
    have hmn : m ≤ 90000000 := by omega
    have hmk2 := run_made (m : Int) m rfl (by omega)
    obtain ⟨b1, o1, rfl, hb1, hc1⟩ := hx.2.2 (by omega)
    have hsrc : IsN w (some ⟨b1, o1 + q, none⟩) m (xs.drop q) := by
      refine ⟨by rw [List.length_drop, hx.len]; omega, small_drop hx.small _, fun _ => ⟨b1, o1 + q, rfl, hb1, fun j hj => ?_⟩⟩
      rw [lim_drop, Nat.add_assoc]
      exact hc1 (q + j) (by omega)
    have b2 := below_new w (.cells (madeCells #[.int .u32 0] m) 62)
    have Hs := Lib.hid (own_made w m (by omega))
    have Hu := Lib.hid (hsrc.below b2)
    have Hb2 := Lib.hid b2
    have Hlen2 : RowKit.Hid (m ≤ m ∧ 0 + m ≤ m) := ⟨Nat.le_refl _, by omega⟩
    have Hvd : RowKit.Hid (val (xs.drop q) = val xs / 4294967296 ^ q) := val_drop hx.small q (by rw [hx.len]; omega)
    obtain ⟨ys, hys⟩ : ∃ ys, ys = xs.drop q := ⟨_, rfl⟩
    rw [← hys] at hsrc Hu Hvd
    have hyl := hsrc.len
    have hysm := hsrc.small
    have Hyl := Lib.hid hyl
    clear hys hsrc b2 hx hc1 hm2 hyl
    go_enter Try.func94, Try.ntmps94
    go_wp2_with (with_reducible refine wpList_copy_nat rfl (.tmp 20) (.tmp 23) rfl w.heap.size 0 m m (some ⟨b1, o1 + q, none⟩) m (c - q) rfl rfl w.heap.size m (List.replicate m 0) Hs ys Hu Hlen2 ?_)
    intro w3 Ho Hoth Hbel
    have Hb3 := Lib.hid (Hbel.out w Hb2.out)
    have Ho3 : RowKit.Hid (OwnN w3 w.heap.size (some ⟨w.heap.size, 0, none⟩) m m ys) := by
      have h := Ho.out
      have e2 : lay (List.replicate m 0) 0 ys = ys := by simp [lay, Hyl.out]
      rw [e2] at h
      exact h
    clear Hs Hu Hb2 Hoth Hbel Ho
    go_wp2
    go_loopw [29] (fun i wr => ∃ (j : Nat) (zs : List Nat), j ≤ m ∧ i = .int .i64 (j : Int) ∧ RowKit.Hid (DownInv ys zs r j) ∧ RowKit.Hid (OwnN wr w.heap.size (some ⟨w.heap.size, 0, none⟩) m m zs) ∧ RowKit.Hid (Below w.heap.size w wr)) (fun i _ => m - (intOf i).toNat)
    case atStart => exact ⟨0, ys, Nat.zero_le _, rfl, DownInv.start _ _, Ho3, Hb3⟩
    case round =>
      clear Ho3 Hb3
      obtain ⟨j, zs, hj, rfl, Hinv, Ho, Hb⟩ := hrel
      by_cases hjm : j < m
      · have hsz := Ho.out.small
        have l1 := lim_lt hsz j
        have l2 := lim_lt hsz (j + 1)
        have h2 := Ho.out.cell (k := j) (by omega)
        have h3 := Ho.out.1.frozenAt j
        obtain ⟨t, ht⟩ : ∃ t, t = lim zs j / 2 ^ r := ⟨_, rfl⟩
        have et : ((lim zs j : Nat) : Int) / 2 ^ r = (t : Int) := by rw [ht]; simp
        have htl : t < 4294967296 := by rw [ht]; exact Nat.lt_of_le_of_lt (Nat.div_le_self _ _) l1
        have Ho1 : RowKit.Hid (OwnN (wr.setCell ⟨w.heap.size, j, none⟩ (.int .u32 (t : Int))) w.heap.size (some ⟨w.heap.size, 0, none⟩) m m (zs.set j t)) := Ho.out.set j htl
        have Hb1 : RowKit.Hid (Below w.heap.size w (wr.setCell ⟨w.heap.size, j, none⟩ (.int .u32 (t : Int)))) := Hb.out.setCell (by exact Nat.le_refl _) _
        have Hz : RowKit.Hid (lim zs j = lim ys j ∧ lim zs (j + 1) = lim ys (j + 1) ∧ zs.length = m) := ⟨Hinv.out.2.2 j (Nat.le_refl _), Hinv.out.2.2 (j + 1) (by omega), Ho.out.len⟩
        have Ht := Lib.hid ht
        by_cases hlast : j + 1 < m
        · have c1 : (wr.setCell ⟨w.heap.size, j, none⟩ (.int .u32 (t : Int))).cell? ⟨w.heap.size, j, none⟩ = some (.int .u32 (t : Int)) := by
            have := Ho1.out.cell (k := j) (by omega)
            rwa [lim_set_self (by rw [Hz.out.2.2]; omega)] at this
          have c2 : (wr.setCell ⟨w.heap.size, j, none⟩ (.int .u32 (t : Int))).cell? ⟨w.heap.size, j + 1, none⟩ = some (.int .u32 ((lim zs (j + 1) : Nat) : Int)) := by
            have := Ho1.out.cell (k := j + 1) (by omega)
            rwa [lim_set_ne (by omega)] at this
          have f1 := Ho1.out.1.frozenAt j
          have hle : (((j : Int) + 1)) < (m : Int) := by omega
          obtain ⟨d, hd⟩ : ∃ d, d = downLimb ys r j := ⟨_, rfl⟩
          have hdl : d < 4294967296 := by rw [hd]; exact downLimb_lt hysm _ _
          have Hbits : RowKit.Hid (bits BinOp.or IntKind.u32 (t : Int) (((lim zs (j + 1) : Nat) : Int) * 2 ^ (32 - r) % 4294967296) = (d : Int)) := by
            have e1 : (((lim zs (j + 1) : Nat) : Int) * 2 ^ (32 - r) % 4294967296) = ((lim zs (j + 1) * 2 ^ (32 - r) % 4294967296 : Nat) : Int) := by
              rw [Int.natCast_emod, Int.natCast_mul, Int.natCast_pow]; rfl
            show _ = _
            rw [e1, u32_or_nat _ _ htl (Nat.mod_lt _ (by decide)), hd, downLimb, ht, Hz.out.1, Hz.out.2.1]
          have Hst : RowKit.Hid (DownInv ys (zs.set j d) r (j + 1)) := Hinv.out.step (by rw [Hyl.out]; exact hjm) hd
          clear ht hd
          go_wp2
          clear h2 h3 et Ho Hb
          generalize wr.setCell ⟨w.heap.size, j, none⟩ (.int .u32 (t : Int)) = W1 at *
          go_region
          rw [Hbits.out]
          have Ho2 : RowKit.Hid (OwnN (W1.setCell ⟨w.heap.size, j, none⟩ (.int .u32 (d : Int))).drew w.heap.size (some ⟨w.heap.size, 0, none⟩) m m (zs.set j d)) := by
            have h := Ho1.out.set j hdl
            rw [set_set] at h
            exact h.below (C := _) (Below.refl _ _).drew (Nat.le_refl _)
          have Hb2 : RowKit.Hid (Below w.heap.size w (W1.setCell ⟨w.heap.size, j, none⟩ (.int .u32 (d : Int))).drew) := (Hb1.out.setCell (by exact Nat.le_refl _) _).drew
          clear Ho1 Hb1 c1 c2 f1 Hbits
          go_wp2
          go_roundw
          case rel => exact ⟨j + 1, zs.set j d, by omega, by go_num, Hst, Ho2, Hb2⟩
          case measure => simp [intOf]; omega
        · have Hst : RowKit.Hid (DownInv ys (zs.set j t) r (j + 1)) := Hinv.out.step (by rw [Hyl.out]; exact hjm) (by rw [downLimb_last _ _ (by rw [Hyl.out]; omega), ht, Hz.out.1])
          have hle : (m : Int) ≤ ((j : Int) + 1) := by omega
          clear ht
          go_wp2
          go_roundw
          case rel => exact ⟨j + 1, zs.set j t, by omega, by go_num, Hst, Ho1, Hb1⟩
          case measure => simp [intOf]; omega
      · obtain rfl : j = m := by omega
        have hz := Ho.out.isN
        have hzl := Ho.out.len
        have ht := trim_len_le zs
        have how2 := Ho.out.take (m := (trim zs).length) (by omega)
        rw [← trim_take zs] at how2
        have Hf : RowKit.Hid (trim zs = limbs (val xs / 2 ^ k)) := by
          show _ = _
          rw [trim_eq_limbs Ho.out.small, val_down hysm Ho.out.small hr32 (by rw [hzl, Hyl.out]) (fun i hi => Hinv.out.2.1 i (by rw [← Hyl.out]; exact hi)), Hvd.out, Hk.out]
        clear hzl
        go_wp2_with fail
        refine (mulCut_any _ _ _ zs _ hz (Nat.le_refl _) (by omega)).mono ?_
        rintro e w3 ⟨rfl, rfl⟩
        go_wp2
        go_ret
        refine ⟨_, (trim zs).length, _, rfl, ?_, Hb.out⟩
        rw [← Hf.out]
        exact how2

end Go.Proofs.Ytmifgblbicnimaa

/- What math/bits' Len64 and Len answer: how many bits a word has; and package mul's Shift. Conditions: none for Len; for Shift the list reads as limbs, of at most 9*10^7 of them. -/
namespace Go.Proofs.Ytmifgblbicnimaa
open Go.RowKit Limb
set_option linter.unusedVariables false

set_option maxHeartbeats 8000000 in
set_option maxRecDepth 100000 in
theorem len64_any (x : Int) (w : World) (h0 : 0 ≤ x) (h1 : x < 18446744073709551616) :
    Calls Try.prog 91 #[.int .u64 x] w fun e w' => e = .returned (.int .i64 ((blen x.toNat : Nat) : Int)) ∧ w = w' := by
  rw [← bitLen_blen x.toNat (by omega)]
  have hsz := len8tab_size
  by_cases c0 : x < 4294967296
  · by_cases c1 : x < 65536
    · by_cases c2 : x < 256
      · have e := len8_byte (x) (size_bound _ (by omega)) (by omega) (by omega)
        have l := Lib.bitLen_le8' (x) (by omega) (by omega)
        have H := Lib.hid (wrap_len0 _ (Lib.bitLen x.toNat) (e ▸ l) e.symm)
        clear e
        go_enter Try.func91, Try.ntmps91
        go_wp2
        go_ret
        exact ⟨ret_int H.out, rfl⟩
      · have e := len8_byte (x / 256) (size_bound _ (by omega)) (by omega) (by omega)
        have l := Lib.bitLen_le8' (x / 256) (by omega) (by omega)
        have s := Lib.bitLen_shift8 x.toNat (by omega) (by omega)
        rw [show x.toNat / 256 = (x / 256).toNat by omega] at s
        have H := Lib.hid (wrap_len 8 _ (Lib.bitLen x.toNat) (by omega) (e ▸ l) (by rw [e]; exact s))
        clear e s
        go_enter Try.func91, Try.ntmps91
        go_wp2
        go_ret
        exact ⟨ret_int H.out, rfl⟩
    · by_cases c2 : x / 65536 < 256
      · have e := len8_byte (x / 65536) (size_bound _ (by omega)) (by omega) (by omega)
        have l := Lib.bitLen_le8' (x / 65536) (by omega) (by omega)
        have s := Lib.bitLen_shift16 x.toNat (by omega) (by omega)
        rw [show x.toNat / 65536 = (x / 65536).toNat by omega] at s
        have H := Lib.hid (wrap_len 16 _ (Lib.bitLen x.toNat) (by omega) (e ▸ l) (by rw [e]; exact s))
        clear e s
        go_enter Try.func91, Try.ntmps91
        go_wp2
        go_ret
        exact ⟨ret_int H.out, rfl⟩
      · have e := len8_byte (x / 65536 / 256) (size_bound _ (by omega)) (by omega) (by omega)
        have l := Lib.bitLen_le8' (x / 65536 / 256) (by omega) (by omega)
        have s := Lib.bitLen_shift24 x.toNat (by omega) (by omega)
        rw [show x.toNat / 16777216 = (x / 65536 / 256).toNat by omega] at s
        have H := Lib.hid (wrap_len 24 _ (Lib.bitLen x.toNat) (by omega) (e ▸ l) (by rw [e]; exact s))
        clear e s
        go_enter Try.func91, Try.ntmps91
        go_wp2
        go_ret
        exact ⟨ret_int H.out, rfl⟩
  · by_cases c1 : x / 4294967296 < 65536
    · by_cases c2 : x / 4294967296 < 256
      · have e := len8_byte (x / 4294967296) (size_bound _ (by omega)) (by omega) (by omega)
        have l := Lib.bitLen_le8' (x / 4294967296) (by omega) (by omega)
        have s := Lib.bitLen_shift32 x.toNat (by omega) (by omega)
        rw [show x.toNat / 4294967296 = (x / 4294967296).toNat by omega] at s
        have H := Lib.hid (wrap_len 32 _ (Lib.bitLen x.toNat) (by omega) (e ▸ l) (by rw [e]; exact s))
        clear e s
        go_enter Try.func91, Try.ntmps91
        go_wp2
        go_ret
        exact ⟨ret_int H.out, rfl⟩
      · have e := len8_byte (x / 4294967296 / 256) (size_bound _ (by omega)) (by omega) (by omega)
        have l := Lib.bitLen_le8' (x / 4294967296 / 256) (by omega) (by omega)
        have s := Lib.bitLen_shift40 x.toNat (by omega) (by omega)
        rw [show x.toNat / 1099511627776 = (x / 4294967296 / 256).toNat by omega] at s
        have H := Lib.hid (wrap_len 40 _ (Lib.bitLen x.toNat) (by omega) (e ▸ l) (by rw [e]; exact s))
        clear e s
        go_enter Try.func91, Try.ntmps91
        go_wp2
        go_ret
        exact ⟨ret_int H.out, rfl⟩
    · by_cases c2 : x / 4294967296 / 65536 < 256
      · have e := len8_byte (x / 4294967296 / 65536) (size_bound _ (by omega)) (by omega) (by omega)
        have l := Lib.bitLen_le8' (x / 4294967296 / 65536) (by omega) (by omega)
        have s := Lib.bitLen_shift48 x.toNat (by omega) (by omega)
        rw [show x.toNat / 281474976710656 = (x / 4294967296 / 65536).toNat by omega] at s
        have H := Lib.hid (wrap_len 48 _ (Lib.bitLen x.toNat) (by omega) (e ▸ l) (by rw [e]; exact s))
        clear e s
        go_enter Try.func91, Try.ntmps91
        go_wp2
        go_ret
        exact ⟨ret_int H.out, rfl⟩
      · have e := len8_byte (x / 4294967296 / 65536 / 256) (size_bound _ (by omega)) (by omega) (by omega)
        have l := Lib.bitLen_le8' (x / 4294967296 / 65536 / 256) (by omega) (by omega)
        have s := Lib.bitLen_shift56 x.toNat (by omega) (by omega)
        rw [show x.toNat / 72057594037927936 = (x / 4294967296 / 65536 / 256).toNat by omega] at s
        have H := Lib.hid (wrap_len 56 _ (Lib.bitLen x.toNat) (by omega) (e ▸ l) (by rw [e]; exact s))
        clear e s
        go_enter Try.func91, Try.ntmps91
        go_wp2
        go_ret
        exact ⟨ret_int H.out, rfl⟩

theorem len_any (x : Int) (w : World) (h0 : 0 ≤ x) (h1 : x < 18446744073709551616) :
    Calls Try.prog 75 #[.int .u64 x] w fun e w' => e = .returned (.int .i64 ((blen x.toNat : Nat) : Int)) ∧ w = w' := by
  go_enter Try.func75, Try.ntmps75
  go_wp2_with fail
  refine (len64_any x w h0 h1).mono ?_
  rintro e w1 ⟨rfl, rfl⟩
  go_wp2
  go_ret
  exact ⟨rfl, rfl⟩

/-- A number moved by so many bits, up or down; far moves up as of 8192 bits, far moves down to nothing. -/
def shiftV (a : Nat) (n : Int) : Nat := if n < -8192 then 0 else if n < 0 then a / 2 ^ (-n).toNat else a * 2 ^ (min n 8192).toNat

theorem shiftV_far {a : Nat} {n : Int} (h : n < -8192) : shiftV a n = 0 := by simp [shiftV, h]
theorem shiftV_down {a : Nat} {n : Int} {k : Nat} (h : n < 0) (h2 : ¬ n < -8192) (hk : -n = k) : shiftV a n = a / 2 ^ k := by
  unfold shiftV; rw [if_neg h2, if_pos h, hk, Int.toNat_natCast]
theorem shiftV_up {a : Nat} {n : Int} {k : Nat} (h : ¬ n < 0) (hk : min n 8192 = k) : shiftV a n = a * 2 ^ k := by
  unfold shiftV; rw [if_neg (by omega), if_neg h, hk, Int.toNat_natCast]

set_option maxHeartbeats 1000000 in
theorem mulShift_any (A : Option Addr) (n c : Nat) (xs : List Nat) (V : Int) (w : World) (hx : IsN w A n xs) (hm : n ≤ 90000000) (hc : n ≤ c) (h0 : -9223372036854775808 ≤ V) (h1 : V ≤ 9223372036854775807) :
    Calls Try.prog 87 #[.slice A n c, .int .i64 V] w fun e w' => ∃ A2 n2 c2, e = .returned (.slice A2 n2 c2) ∧ OwnN w' w.heap.size A2 n2 c2 (limbs (shiftV (val xs) V)) ∧ Below w.heap.size w w' := by
  by_cases c1 : V < -8192
  · have Hf : RowKit.Hid (limbs (shiftV (val xs) V) = []) := by show _ = _; rw [shiftV_far c1, limbs_zero]
    go_enter Try.func87, Try.ntmps87
    go_wp2
    go_ret
    exact ⟨_, _, _, rfl, by rw [Hf.out]; exact OwnN.nil _ _, Below.refl _ _⟩
  · by_cases c2 : V < 0
    · obtain ⟨k, hk⟩ := Int.eq_ofNat_of_zero_le (show 0 ≤ -V by omega)
      have Hf := Lib.hid (shiftV_down (a := val xs) c2 c1 hk)
      have hlt := trim_len_le xs
      have hl := hx.len
      have hx' := IsN.take hx (m := (trim xs).length) (by omega)
      rw [← trim_take xs] at hx'
      have ex := trim_eq_limbs hx.small
      have hb : (trim xs).length ≤ 90000000 := by omega
      have hbc : (trim xs).length ≤ c := by omega
      have Hl : RowKit.Hid (val (trim xs) = val xs) := by show _ = _; rw [ex, val_limbs]
      have c3 : -8192 ≤ V := by omega
      have hk2 : k ≤ 8192 := by omega
      clear hl ex hlt c1
      go_enter Try.func87, Try.ntmps87
      go_wp2_with fail
      refine (mulCut_any A n c xs w hx hc (by omega)).mono ?_
      rintro e w1 ⟨rfl, rfl⟩
      generalize trim xs = ys at *
      go_wp2_with fail
      refine (mulDown_any A ys.length c ys k _ (by omega) w hx' hb hbc hk2).mono ?_
      rintro e w1 ⟨A1, n1, c1, rfl, how, hbe⟩
      rw [Hl.out, ← Hf.out] at how
      clear hk
      go_wp2
      go_ret
      exact ⟨_, _, _, rfl, how, hbe⟩
    · by_cases c3 : V ≤ 8192
      case' pos =>
        obtain ⟨k, hk⟩ := Int.eq_ofNat_of_zero_le (show 0 ≤ V by omega)
        have Hf := Lib.hid (shiftV_up (a := val xs) (k := k) c2 (by omega))
        have hk2 : k ≤ 8192 := by omega
        have hk3 : V = k := by omega
      case' neg =>
        obtain ⟨k, hk, hk2⟩ : ∃ k : Nat, k = 8192 ∧ k ≤ 8192 := ⟨8192, rfl, by omega⟩
        have Hf := Lib.hid (shiftV_up (a := val xs) (k := k) c2 (by omega))
        have c4 : 8192 < V := by omega
        have hk3 : (8192 : Int) = k := by omega
        clear c3
      all_goals
        have Hk := Lib.hid hk3
        have c5 : 0 ≤ V := by omega
        clear hk3 c1 c2 hk
        go_enter Try.func87, Try.ntmps87
        go_wp2_with fail
        refine (mulUp_any A n c xs k _ Hk.out w hx hm hc hk2).mono ?_
        rintro e w1 ⟨A1, n1, c1, rfl, how, hbe⟩
        rw [← Hf.out] at how
        go_wp2
        go_ret
        exact ⟨_, _, _, rfl, how, hbe⟩

end Go.Proofs.Ytmifgblbicnimaa

/- Package mul's contracts in one form (numbers, lengths), and what Pow answers: the power that is made bit by bit from the highest one, or nothing where a step has too many limbs. Conditions: lists read as limbs, of at most 10^7 of them. -/
namespace Go.Proofs.Ytmifgblbicnimaa.Limb

/-- Has a number more limbs than a step may have? -/
def big (x : Nat) : Bool := decide (4294967296 ^ 256 ≤ x)
theorem big_yes {x : Nat} (h : big x = true) : 256 < (limbs x).length := lt_length_limbs (by simpa [big] using h)
theorem big_no {x : Nat} (h : big x = false) : x < 4294967296 ^ 256 := by simpa [big] using h

/-- One bit of a power: squared, and, if the bit is set, times a. -/
def stepP (a out : Nat) (b : Bool) : Option Nat :=
  if big (out * out) then none else if b then (if big (out * out * a) then none else some (out * out * a)) else some (out * out)

/-- A power bit by bit: the lowest i bits of n are still to do. -/
def powF (a n : Nat) : Nat → Nat → Option Nat
  | 0, out => some out
  | i + 1, out => match stepP a out (n.testBit i) with
    | none => none
    | some o => powF a n i o

theorem powF_none {a n i out : Nat} {T : Option Nat} (h : powF a n (i + 1) out = T) (hs : stepP a out (n.testBit i) = none) : T = none := by
  rw [powF, hs] at h; exact h.symm
theorem powF_some {a n i out o : Nat} {T : Option Nat} (h : powF a n (i + 1) out = T) (hs : stepP a out (n.testBit i) = some o) : powF a n i o = T := by
  rw [powF, hs] at h; exact h

theorem stepP_big {a out : Nat} {b : Bool} (h : big (out * out) = true) : stepP a out b = none := by rw [stepP, if_pos h]
theorem stepP_no {a out : Nat} (h : big (out * out) = false) : stepP a out false = some (out * out) := by simp [stepP, h]
theorem stepP_yes {a out : Nat} (h : big (out * out) = false) (h2 : big (out * out * a) = false) : stepP a out true = some (out * out * a) := by simp [stepP, h, h2]
theorem stepP_over {a out : Nat} (h : big (out * out) = false) (h2 : big (out * out * a) = true) : stepP a out true = none := by simp [stepP, h, h2]

/-- The bits above the highest one change nothing. -/
theorem powF_lead (a n d : Nat) : powF a n (blen n + d) 1 = powF a n (blen n) 1 := by
  induction d with
  | zero => rfl
  | succ d ih =>
    rw [← Nat.add_assoc, powF]
    have h0 : n.testBit (blen n + d) = false := Nat.testBit_lt_two_pow (Nat.lt_of_lt_of_le (blen_lt n) (Nat.pow_le_pow_right (by decide) (by omega)))
    rw [h0, stepP_no (by decide +kernel)]
    exact ih

/-- a to the n, where there is one. -/
def powV (a : Nat) (n : Int) : Option Nat := if n < 0 then none else powF a n.toNat 63 1

theorem powV_neg {a : Nat} {n : Int} (h : n < 0) : powV a n = none := by rw [powV, if_pos h]
theorem powV_nat (a n : Nat) (h : blen n ≤ 63) : powV a (n : Int) = powF a n (blen n) 1 := by
  rw [powV, if_neg (by omega), Int.toNat_natCast]
  have := powF_lead a n (63 - blen n)
  rwa [show blen n + (63 - blen n) = 63 by omega] at this

/-- Where all powers up to n are small enough the power is there. -/
theorem powF_small {a n : Nat} (h : ∀ m, m ≤ n → big (a ^ m) = false) : ∀ i, powF a n i (a ^ (n / 2 ^ i)) = some (a ^ n) := by
  intro i
  induction i with
  | zero => rw [powF, Nat.pow_zero, Nat.div_one]
  | succ i ih =>
    have e : n / 2 ^ i = n / 2 ^ (i + 1) * 2 + (n / 2 ^ i) % 2 := by
      rw [Nat.pow_succ, ← Nat.div_div_eq_div_mul]; omega
    have hle : n / 2 ^ i ≤ n := Nat.div_le_self _ _
    have e1 : a ^ (n / 2 ^ (i + 1)) * a ^ (n / 2 ^ (i + 1)) = a ^ (n / 2 ^ (i + 1) * 2) := by rw [← Nat.pow_add]; congr 1; omega
    have h1 : big (a ^ (n / 2 ^ (i + 1) * 2)) = false := h _ (by omega)
    rcases Nat.mod_two_eq_zero_or_one (n / 2 ^ i) with hb | hb
    · have ht : n.testBit i = false := by rw [Nat.testBit_eq_decide_div_mod_eq, hb]; rfl
      rw [hb, Nat.add_zero] at e
      rw [powF, ht, stepP_no (by rw [e1]; exact h1), e1, ← e]
      exact ih
    · have ht : n.testBit i = true := by rw [Nat.testBit_eq_decide_div_mod_eq, hb]; rfl
      rw [hb] at e
      have e2 : a ^ (n / 2 ^ (i + 1) * 2) * a = a ^ (n / 2 ^ i) := by rw [e]; exact (Nat.pow_succ ..).symm
      rw [powF, ht, stepP_yes (by rw [e1]; exact h1) (by rw [e1, e2]; exact h _ hle), e1, e2]
      exact ih

theorem powV_small {a n : Nat} (hb : blen n ≤ 63) (h : ∀ m, m ≤ n → a ^ m < 4294967296 ^ 256) : powV a (n : Int) = some (a ^ n) := by
  have := powF_small (a := a) (n := n) (fun m hm => by simpa [big] using h m hm) (blen n)
  rw [Nat.div_eq_of_lt (blen_lt n), Nat.pow_zero] at this
  rw [powV_nat a n hb, this]

end Go.Proofs.Ytmifgblbicnimaa.Limb
namespace Go.Proofs.Ytmifgblbicnimaa
open Go.RowKit Limb
set_option linter.unusedVariables false

section
variable {w : World} {A A' : Option Addr} {n c n' c' : Nat} {xs ys : List Nat} {a b L L' : Nat}

theorem mulOf_c (hx : NN w A n c xs a L) (hy : NN w A' n' c' ys b L') (K : Nat) (h1 : L ≤ 100000000) (h2 : L' ≤ 100000000) (h3 : L + L' ≤ K) :
    Calls Try.prog 44 #[.slice A n c, .slice A' n' c'] w fun e w' => ∃ A2 n2 c2, e = .returned (.slice A2 n2 c2) ∧ NN w' A2 n2 c2 (limbs (a * b)) (a * b) K ∧ Below w.heap.size w w' := by
  have hlx := lt_pow hx
  have hly := lt_pow hy
  refine (mulOf_any A n c xs A' n' c' ys w hx.isN hy.isN (by have := hx.le; omega) (by have := hy.le; omega) hx.cap hy.cap).mono ?_
  rintro e w' ⟨A2, n2, c2, rfl, how, hb⟩
  rw [hx.val, hy.val] at how
  refine ⟨A2, n2, c2, rfl, NN.own how ?_, hb⟩
  have e1 : 4294967296 ^ (L + L') ≤ 4294967296 ^ K := Nat.pow_le_pow_right (by decide) h3
  rw [Nat.pow_add] at e1
  exact Nat.lt_of_lt_of_le (Nat.mul_lt_mul'' hlx hly) e1

theorem mulSmall_c (hx : NN w A n c xs a L) (v : Nat) (V : Int) (hV : V = v) (hv : v < 4294967296) (h1 : L ≤ 100000000) :
    Calls Try.prog 99 #[.slice A n c, .int .u32 V] w fun e w' => ∃ A2 n2 c2, e = .returned (.slice A2 n2 c2) ∧ NN w' A2 n2 c2 (limbs (a * v)) (a * v) (L + 1) ∧ Below w.heap.size w w' := by
  subst hV
  have hlx := lt_pow hx
  refine (mulSmall_any A n c xs v w hx.isN (by have := hx.le; omega) hx.cap hv).mono ?_
  rintro e w' ⟨A2, n2, c2, rfl, how, hb⟩
  rw [hx.val] at how
  refine ⟨A2, n2, c2, rfl, NN.own how ?_, hb⟩
  rw [Nat.pow_succ]
  exact Nat.mul_lt_mul'' hlx hv

theorem mulShift_c (hx : NN w A n c xs a L) (V : Int) (h0 : -9223372036854775808 ≤ V) (h2 : V ≤ 9223372036854775807) (v K : Nat) (hv : shiftV a V = v) (hk : v < 4294967296 ^ K) (h1 : L ≤ 90000000) :
    Calls Try.prog 87 #[.slice A n c, .int .i64 V] w fun e w' => ∃ A2 n2 c2, e = .returned (.slice A2 n2 c2) ∧ NN w' A2 n2 c2 (limbs v) v K ∧ Below w.heap.size w w' := by
  refine (mulShift_any A n c xs V w hx.isN (by have := hx.le; omega) hx.cap h0 h2).mono ?_
  rintro e w' ⟨A2, n2, c2, rfl, how, hb⟩
  rw [hx.val, hv] at how
  exact ⟨A2, n2, c2, rfl, NN.own how hk, hb⟩

theorem two_pow_le {t K : Nat} (h : t ≤ 32 * K) : 2 ^ t ≤ 4294967296 ^ K := by
  rw [pow32]; exact Nat.pow_le_pow_right (by decide) h

theorem shiftV_lt (hx : NN w A n c xs a L) (V : Int) : shiftV a V < 4294967296 ^ (L + 256) := by
  have hlx := lt_pow hx
  have h0 : 4294967296 ^ L ≤ 4294967296 ^ (L + 256) := Nat.pow_le_pow_right (by decide) (by omega)
  unfold shiftV
  split
  · exact Nat.pow_pos (by decide)
  · split
    · exact Nat.lt_of_le_of_lt (Nat.div_le_self _ _) (Nat.lt_of_lt_of_le hlx h0)
    · have h3 : 2 ^ (min V 8192).toNat ≤ 4294967296 ^ 256 := two_pow_le (by omega)
      rw [Nat.pow_add]
      exact Nat.lt_of_lt_of_le (Nat.mul_lt_mul_of_pos_right hlx (Nat.two_pow_pos _)) (Nat.mul_le_mul_left _ h3)

theorem mulShift_o (hx : NN w A n c xs a L) (V : Int) (h0 : -9223372036854775808 ≤ V) (h2 : V ≤ 9223372036854775807) (h1 : L ≤ 90000000) :
    Calls Try.prog 87 #[.slice A n c, .int .i64 V] w fun e w' => ∃ A2 n2 c2, e = .returned (.slice A2 n2 c2) ∧ NN w' A2 n2 c2 (limbs (shiftV a V)) (shiftV a V) (L + 256) ∧ Below w.heap.size w w' :=
  mulShift_c hx V h0 h2 _ _ rfl (shiftV_lt hx V) h1
end

theorem i64_bit (m i : Nat) (hm : m < 9223372036854775808) : (bits BinOp.and IntKind.i64 ((m : Int) / 2 ^ i) 1 == 1) = m.testBit i := by
  have e : (m : Int) / 2 ^ i = ((m / 2 ^ i : Nat) : Int) := by simp
  have h1 : m / 2 ^ i < 9223372036854775808 := Nat.lt_of_le_of_lt (Nat.div_le_self _ _) hm
  rw [e, Nat.testBit_eq_decide_div_mod_eq]
  generalize m / 2 ^ i = t at h1 ⊢
  have h2 : bits BinOp.and IntKind.i64 (t : Int) 1 = ((t % 2 : Nat) : Int) := by
    have ht : (BitVec.ofInt 64 (t : Int) &&& BitVec.ofInt 64 1).toNat = t % 2 := by
      rw [BitVec.toNat_and, ofInt_u64 t (by omega), show (BitVec.ofInt 64 1).toNat = 1 by decide, Nat.and_one_is_mod]
    show IntKind.i64.wrap ((BitVec.ofInt 64 (t : Int) &&& BitVec.ofInt 64 1).toNat : Int) = _
    rw [ht, IntKind.wrap_i64]
    omega
  rw [h2, Bool.eq_iff_iff]
  simp
  omega

theorem NN.len {w : World} {A : Option Addr} {n c : Nat} {xs : List Nat} {a L : Nat} (h : NN w A n c xs a L) : n = xs.length := h.isN.len.symm

theorem nn_big {w : World} {A : Option Addr} {n c a L : Nat} (h : NN w A n c (limbs a) a L) (hb : big a = true) : 256 < n := by rw [h.len]; exact big_yes hb
theorem nn_small {w : World} {A : Option Addr} {n c a L : Nat} (h : NN w A n c (limbs a) a L) (hb : big a = false) : n ≤ 256 := by rw [h.len]; exact length_limbs_le (big_no hb)

end Go.Proofs.Ytmifgblbicnimaa
