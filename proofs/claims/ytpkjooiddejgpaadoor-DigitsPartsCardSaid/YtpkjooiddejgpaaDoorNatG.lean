/- What package nat's Bits and Bit answer, as contracts over memory: how many bits the number has that a list tells, and each bit. Conditions: the list reads as limbs, of at most 10^9 of them. -/
import Derived.Test.YtpkjooiddejgpaaDoorNatF
import Derived.Test.YtpkjooiddejgpaaDoorLimbsB
import Derived.Lib.BitFns
namespace Go.Proofs.YtpkjooiddejgpaaDoor
open Go.RowKit Limb
set_option linter.unusedVariables false

theorem bitLen_blen (x : Nat) (h : x < 2 ^ 64) : Lib.bitLen x = blen x := by
  induction x using Nat.strongRecOn with
  | ind x ih =>
    by_cases h0 : x = 0
    · subst h0; rw [blen_zero]; rfl
    · rw [Lib.bitLen_half x h0 h, blen_pos h0, ih (x / 2) (by omega) (by omega)]

theorem len8tab_size : ((Lib.len8tab.size : Nat) : Int) = 256 := by
  have : Lib.len8tab.size = 256 := by decide +kernel
  omega

theorem len8_byte (y : Int) (h : y.toNat < Lib.len8tab.size) (h0 : 0 ≤ y) (h1 : y ≤ 255) : (Lib.len8tab[y.toNat]'h).toNat = Lib.bitLen y.toNat := by
  have e := Lib.len8_of y h0 h1
  unfold Lib.len8 at e
  rw [getElem?_pos Lib.len8tab y.toNat h] at e
  have : ((((Lib.len8tab[y.toNat]'h)).toNat : Nat) : Int) = ((Lib.bitLen y.toNat : Nat) : Int) := e
  omega

theorem wrap_len (k a b : Nat) (hk : k ≤ 56) (ha : a ≤ 8) (hb : b = k + a) : wrap64 ((k : Int) + wrap64 (a : Int)) = (b : Int) := by
  unfold wrap64
  omega

theorem wrap_len0 (a b : Nat) (ha : a ≤ 8) (hb : b = a) : wrap64 (wrap64 (a : Int)) = (b : Int) := by
  unfold wrap64
  omega

theorem size_bound (y : Int) (h1 : y ≤ 255) : y.toNat < Lib.len8tab.size := by
  have := len8tab_size
  omega

set_option maxHeartbeats 4000000 in
set_option maxRecDepth 100000 in
theorem len32_any (x : Int) (w : World) (h0 : 0 ≤ x) (h1 : x ≤ 4294967295) :
    Calls Tryd.prog 55 #[.int .u32 x] w fun e w' => e = .returned (.int .i64 ((blen x.toNat : Nat) : Int)) ∧ w = w' := by
  rw [← bitLen_blen x.toNat (by omega)]
  have hsz := len8tab_size
  by_cases c1 : x < 65536
  · by_cases c2 : x < 256
    · have e := len8_byte x (size_bound _ (by omega)) (by omega) (by omega)
      have l := Lib.bitLen_le8' x (by omega) (by omega)
      have H := Lib.hid (wrap_len0 _ (Lib.bitLen x.toNat) (e ▸ l) e.symm)
      clear e
      go_enter Tryd.func55, Tryd.ntmps55
      go_wp2
      go_ret
      exact ⟨ret_int H.out, rfl⟩
    · have e := len8_byte (x / 256) (size_bound _ (by omega)) (by omega) (by omega)
      have l := Lib.bitLen_le8' (x / 256) (by omega) (by omega)
      have s := Lib.bitLen_shift8 x.toNat (by omega) (by omega)
      rw [show x.toNat / 256 = (x / 256).toNat by omega] at s
      have H := Lib.hid (wrap_len 8 _ (Lib.bitLen x.toNat) (by omega) (e ▸ l) (by rw [e]; exact s))
      clear e s
      go_enter Tryd.func55, Tryd.ntmps55
      go_wp2
      go_ret
      exact ⟨ret_int H.out, rfl⟩
  · by_cases c2 : x < 16777216
    · have e := len8_byte (x / 65536) (size_bound _ (by omega)) (by omega) (by omega)
      have l := Lib.bitLen_le8' (x / 65536) (by omega) (by omega)
      have s := Lib.bitLen_shift16 x.toNat (by omega) (by omega)
      rw [show x.toNat / 65536 = (x / 65536).toNat by omega] at s
      have H := Lib.hid (wrap_len 16 _ (Lib.bitLen x.toNat) (by omega) (e ▸ l) (by rw [e]; exact s))
      clear e s
      go_enter Tryd.func55, Tryd.ntmps55
      go_wp2
      go_ret
      exact ⟨ret_int H.out, rfl⟩
    · have e := len8_byte (x / 65536 / 256) (size_bound _ (by omega)) (by omega) (by omega)
      have l := Lib.bitLen_le8' (x / 65536 / 256) (by omega) (by omega)
      have s := Lib.bitLen_shift24 x.toNat (by omega) (by omega)
      rw [show x.toNat / 16777216 = (x / 65536 / 256).toNat by omega] at s
      have H := Lib.hid (wrap_len 24 _ (Lib.bitLen x.toNat) (by omega) (e ▸ l) (by rw [e]; exact s))
      clear e s
      go_enter Tryd.func55, Tryd.ntmps55
      go_wp2
      go_ret
      exact ⟨ret_int H.out, rfl⟩

set_option maxHeartbeats 400000 in
theorem bits_any (A : Option Addr) (n c : Nat) (xs : List Nat) (w : World) (hx : IsN w A n xs) (hc : n ≤ c) (hm : n ≤ 1000000000) :
    Calls Tryd.prog 48 #[.slice A n c] w fun e w' => e = .returned (.int .i64 ((blen (val xs) : Nat) : Int)) ∧ w = w' := by
  have hlt := trim_len_le xs
  have hl := hx.len
  have hx' := IsN.take hx (m := (trim xs).length) (by omega)
  rw [← trim_take xs] at hx'
  have Vx := Lib.hid (val_trim hx.small)
  have Ex := Lib.hid (trim_eq_limbs hx.small)
  have hb : (trim xs).length ≤ 1000000000 := by omega
  by_cases h0 : (trim xs).length = 0
  · have H : RowKit.Hid (blen (val xs) = 0) := by
      have e := List.eq_nil_of_length_eq_zero h0
      rw [Ex.out, limbs_eq_nil] at e
      show _ = _
      rw [e, blen_zero]
    rw [h0] at hlt
    have H0 := Lib.hid h0
    clear hl h0
    go_enter Tryd.func48, Tryd.ntmps48
    go_wp2_with fail
    refine (cut_any A n c xs w hx hc (by unfold maxLen; omega)).mono ?_
    rintro e w1 ⟨rfl, rfl⟩
    rw [H0.out]
    go_wp2
    go_ret
    exact ⟨by rw [H.out]; rfl, rfl⟩
  · obtain ⟨b, o, hA, hb1, hcell⟩ := hx'.2.2 (by omega)
    subst hA
    have h1 := hcell ((trim xs).length - 1) (by omega)
    have hlt32 := lim_lt hx'.small ((trim xs).length - 1)
    have hbl := (blen_spec (n := lim (trim xs) ((trim xs).length - 1)))
    have hne : lim (trim xs) ((trim xs).length - 1) ≠ 0 := by
      intro hz
      have h2 := trim_take_last (xs := trim xs) (k := (trim xs).length - 1) (by omega) hz
      rw [Nat.sub_add_cancel (by omega), List.take_of_length_le (Nat.le_refl _)] at h2
      have h3 := trim_len_le ((trim xs).take ((trim xs).length - 1))
      rw [← h2, trim_eq_limbs hx'.small, Vx.out, ← Ex.out, List.length_take] at h3
      omega
    have H : RowKit.Hid (((trim xs).length - 1) * 32 + blen (lim (trim xs) ((trim xs).length - 1)) = blen (val xs)) := by
      show _ = _
      rw [← Vx.out, blen_limbs (k := (trim xs).length - 1) (by omega) hne hx'.small]
      omega
    have hbl32 : blen (lim (trim xs) ((trim xs).length - 1)) ≤ 32 := by
      rw [← bitLen_blen _ (by omega)]
      exact Lib.bitLen_le _ 32 (by omega) (by omega)
    have hbz : ((((trim xs).length : Nat) : Int) == 0) = false := by simp; exact fun h => h0 (by rw [h]; rfl)
    clear hl hne
    go_enter Tryd.func48, Tryd.ntmps48
    go_wp2_with fail
    refine (cut_any (some ⟨b, o, none⟩) n c xs w hx hc (by unfold maxLen; omega)).mono ?_
    rintro e w1 ⟨rfl, rfl⟩
    generalize (trim xs).length = m at *
    generalize lim (trim xs) (m - 1) = t at *
    go_wp2_with fail
    refine (len32_any (t : Int) w (by omega) (by omega)).mono ?_
    rintro e w1 ⟨rfl, rfl⟩
    rw [Int.toNat_natCast]
    go_wp2
    go_ret
    refine ⟨ret_int ?_, rfl⟩
    rw [← H.out]
    omega

theorem bit_of (t k : Nat) (ht : t < 4294967296) : (bits BinOp.and IntKind.u32 ((t : Int) / 2 ^ k) 1 == 1) = t.testBit k := by
  have e : (t : Int) / 2 ^ k = ((t / 2 ^ k : Nat) : Int) := by simp
  have h1 : t / 2 ^ k < 4294967296 := Nat.lt_of_le_of_lt (Nat.div_le_self _ _) ht
  have h2 := u32_and_nat (t / 2 ^ k) 1 h1 (by decide)
  rw [e, show (1 : Int) = ((1 : Nat) : Int) from rfl, h2, Nat.and_one_is_mod, Nat.testBit_eq_decide_div_mod_eq]
  rw [Bool.eq_iff_iff]
  simp
  omega

end Go.Proofs.YtpkjooiddejgpaaDoor
