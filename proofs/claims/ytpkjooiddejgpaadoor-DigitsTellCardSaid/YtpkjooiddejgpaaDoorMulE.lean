/- What math/bits' Len64 and Len answer: how many bits a word has; and package mul's Shift. Conditions: none for Len; for Shift the list reads as limbs, of at most 9*10^7 of them. -/
import Derived.Test.YtpkjooiddejgpaaDoorMulD
namespace Go.Proofs.YtpkjooiddejgpaaDoor
open Go.RowKit Limb
set_option linter.unusedVariables false

set_option maxHeartbeats 8000000 in
set_option maxRecDepth 100000 in
theorem len64_any (x : Int) (w : World) (h0 : 0 ≤ x) (h1 : x < 18446744073709551616) :
    Calls Tryd.prog 56 #[.int .u64 x] w fun e w' => e = .returned (.int .i64 ((blen x.toNat : Nat) : Int)) ∧ w = w' := by
  rw [← bitLen_blen x.toNat (by omega)]
  have hsz := len8tab_size
  by_cases c0 : x < 4294967296
  · by_cases c1 : x < 65536
    · by_cases c2 : x < 256
      · have e := len8_byte (x) (size_bound _ (by omega)) (by omega) (by omega)
        have l := Lib.bitLen_le8' (x) (by omega) (by omega)
        have H := Lib.hid (wrap_len0 _ (Lib.bitLen x.toNat) (e ▸ l) e.symm)
        clear e
        go_enter Tryd.func56, Tryd.ntmps56
        go_wp2
        go_ret
        exact ⟨ret_int H.out, rfl⟩
      · have e := len8_byte (x / 256) (size_bound _ (by omega)) (by omega) (by omega)
        have l := Lib.bitLen_le8' (x / 256) (by omega) (by omega)
        have s := Lib.bitLen_shift8 x.toNat (by omega) (by omega)
        rw [show x.toNat / 256 = (x / 256).toNat by omega] at s
        have H := Lib.hid (wrap_len 8 _ (Lib.bitLen x.toNat) (by omega) (e ▸ l) (by rw [e]; exact s))
        clear e s
        go_enter Tryd.func56, Tryd.ntmps56
        go_wp2
        go_ret
        exact ⟨ret_int H.out, rfl⟩
    · by_cases c2 : x / 65536 < 256
      · have e := len8_byte (x / 65536) (size_bound _ (by omega)) (by omega) (by omega)
        have l := Lib.bitLen_le8' (x / 65536) (by omega) (by omega)
        have s := Lib.bitLen_shift16 x.toNat (by omega) (by omega)
        rw [show x.toNat / 65536 = (x / 65536).toNat by omega] at s
        have H := Lib.hid (wrap_len 16 _ (Lib.bitLen x.toNat) (by omega) (e ▸ l) (by rw [e]; exact s))
        clear e s
        go_enter Tryd.func56, Tryd.ntmps56
        go_wp2
        go_ret
        exact ⟨ret_int H.out, rfl⟩
      · have e := len8_byte (x / 65536 / 256) (size_bound _ (by omega)) (by omega) (by omega)
        have l := Lib.bitLen_le8' (x / 65536 / 256) (by omega) (by omega)
        have s := Lib.bitLen_shift24 x.toNat (by omega) (by omega)
        rw [show x.toNat / 16777216 = (x / 65536 / 256).toNat by omega] at s
        have H := Lib.hid (wrap_len 24 _ (Lib.bitLen x.toNat) (by omega) (e ▸ l) (by rw [e]; exact s))
        clear e s
        go_enter Tryd.func56, Tryd.ntmps56
        go_wp2
        go_ret
        exact ⟨ret_int H.out, rfl⟩
  · by_cases c1 : x / 4294967296 < 65536
    · by_cases c2 : x / 4294967296 < 256
      · have e := len8_byte (x / 4294967296) (size_bound _ (by omega)) (by omega) (by omega)
        have l := Lib.bitLen_le8' (x / 4294967296) (by omega) (by omega)
        have s := Lib.bitLen_shift32 x.toNat (by omega) (by omega)
        rw [show x.toNat / 4294967296 = (x / 4294967296).toNat by omega] at s
        have H := Lib.hid (wrap_len 32 _ (Lib.bitLen x.toNat) (by omega) (e ▸ l) (by rw [e]; exact s))
        clear e s
        go_enter Tryd.func56, Tryd.ntmps56
        go_wp2
        go_ret
        exact ⟨ret_int H.out, rfl⟩
      · have e := len8_byte (x / 4294967296 / 256) (size_bound _ (by omega)) (by omega) (by omega)
        have l := Lib.bitLen_le8' (x / 4294967296 / 256) (by omega) (by omega)
        have s := Lib.bitLen_shift40 x.toNat (by omega) (by omega)
        rw [show x.toNat / 1099511627776 = (x / 4294967296 / 256).toNat by omega] at s
        have H := Lib.hid (wrap_len 40 _ (Lib.bitLen x.toNat) (by omega) (e ▸ l) (by rw [e]; exact s))
        clear e s
        go_enter Tryd.func56, Tryd.ntmps56
        go_wp2
        go_ret
        exact ⟨ret_int H.out, rfl⟩
    · by_cases c2 : x / 4294967296 / 65536 < 256
      · have e := len8_byte (x / 4294967296 / 65536) (size_bound _ (by omega)) (by omega) (by omega)
        have l := Lib.bitLen_le8' (x / 4294967296 / 65536) (by omega) (by omega)
        have s := Lib.bitLen_shift48 x.toNat (by omega) (by omega)
        rw [show x.toNat / 281474976710656 = (x / 4294967296 / 65536).toNat by omega] at s
        have H := Lib.hid (wrap_len 48 _ (Lib.bitLen x.toNat) (by omega) (e ▸ l) (by rw [e]; exact s))
        clear e s
        go_enter Tryd.func56, Tryd.ntmps56
        go_wp2
        go_ret
        exact ⟨ret_int H.out, rfl⟩
      · have e := len8_byte (x / 4294967296 / 65536 / 256) (size_bound _ (by omega)) (by omega) (by omega)
        have l := Lib.bitLen_le8' (x / 4294967296 / 65536 / 256) (by omega) (by omega)
        have s := Lib.bitLen_shift56 x.toNat (by omega) (by omega)
        rw [show x.toNat / 72057594037927936 = (x / 4294967296 / 65536 / 256).toNat by omega] at s
        have H := Lib.hid (wrap_len 56 _ (Lib.bitLen x.toNat) (by omega) (e ▸ l) (by rw [e]; exact s))
        clear e s
        go_enter Tryd.func56, Tryd.ntmps56
        go_wp2
        go_ret
        exact ⟨ret_int H.out, rfl⟩

theorem len_any (x : Int) (w : World) (h0 : 0 ≤ x) (h1 : x < 18446744073709551616) :
    Calls Tryd.prog 41 #[.int .u64 x] w fun e w' => e = .returned (.int .i64 ((blen x.toNat : Nat) : Int)) ∧ w = w' := by
  go_enter Tryd.func41, Tryd.ntmps41
  go_wp2_with fail
  refine (len64_any x w h0 h1).mono ?_
  rintro e w1 ⟨rfl, rfl⟩
  go_wp2
  go_ret
  exact ⟨rfl, rfl⟩

/-- A number moved by so many bits, up or down; far moves up as of 8192 bits, far moves down to nothing. -/
def shiftV (a : Nat) (n : Int) : Nat := if n < -8192 then 0 else if n < 0 then a / 2 ^ (-n).toNat else a * 2 ^ (min n 8192).toNat

theorem shiftV_far {a : Nat} {n : Int} (h : n < -8192) : shiftV a n = 0 := by simp [shiftV, h]
theorem shiftV_down {a : Nat} {n : Int} {k : Nat} (h : n < 0) (h2 : ¬ n < -8192) (hk : -n = k) : shiftV a n = a / 2 ^ k := by
  unfold shiftV; rw [if_neg h2, if_pos h, hk, Int.toNat_natCast]
theorem shiftV_up {a : Nat} {n : Int} {k : Nat} (h : ¬ n < 0) (hk : min n 8192 = k) : shiftV a n = a * 2 ^ k := by
  unfold shiftV; rw [if_neg (by omega), if_neg h, hk, Int.toNat_natCast]

end Go.Proofs.YtpkjooiddejgpaaDoor
