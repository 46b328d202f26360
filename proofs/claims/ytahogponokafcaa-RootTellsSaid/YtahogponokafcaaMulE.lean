/- What math/bits' Len64 and Len answer: how many bits a word has; and package mul's Shift. Conditions: none for Len; for Shift the list reads as limbs, of at most 9*10^7 of them. -/
import Derived.Test.YtahogponokafcaaMulD
namespace Go.Proofs.Ytahogponokafcaa
open Go.RowKit Limb
set_option linter.unusedVariables false

/-- A number moved by so many bits, up or down; far moves up as of 8192 bits, far moves down to nothing. -/
def shiftV (a : Nat) (n : Int) : Nat := if n < -8192 then 0 else if n < 0 then a / 2 ^ (-n).toNat else a * 2 ^ (min n 8192).toNat

theorem shiftV_far {a : Nat} {n : Int} (h : n < -8192) : shiftV a n = 0 := by simp [shiftV, h]
theorem shiftV_down {a : Nat} {n : Int} {k : Nat} (h : n < 0) (h2 : ¬ n < -8192) (hk : -n = k) : shiftV a n = a / 2 ^ k := by
  unfold shiftV; rw [if_neg h2, if_pos h, hk, Int.toNat_natCast]
theorem shiftV_up {a : Nat} {n : Int} {k : Nat} (h : ¬ n < 0) (hk : min n 8192 = k) : shiftV a n = a * 2 ^ k := by
  unfold shiftV; rw [if_neg (by omega), if_neg h, hk, Int.toNat_natCast]

set_option maxHeartbeats 1000000 in
theorem mulShift_any (A : Option Addr) (n c : Nat) (xs : List Nat) (V : Int) (w : World) (hx : IsN w A n xs) (hm : n ≤ 90000000) (hc : n ≤ c) (h0 : -9223372036854775808 ≤ V) (h1 : V ≤ 9223372036854775807) :
    Calls Try.prog 20 #[.slice A n c, .int .i64 V] w fun e w' => ∃ A2 n2 c2, e = .returned (.slice A2 n2 c2) ∧ OwnN w' w.heap.size A2 n2 c2 (limbs (shiftV (val xs) V)) ∧ Below w.heap.size w w' := by
  by_cases c1 : V < -8192
  · have Hf : RowKit.Hid (limbs (shiftV (val xs) V) = []) := by show _ = _; rw [shiftV_far c1, limbs_zero]
    go_enter Try.func20, Try.ntmps20
    go_wp2
    go_ret
    exact ⟨_, _, _, rfl, by rw [Hf.out]; exact OwnN.nil _ _, Below.refl _ _⟩
  · by_cases c2 : V < 0
    · obtain ⟨k, hk⟩ := Int.eq_ofNat_of_zero_le (show 0 ≤ -V by omega)
      have Hf := Lib.hid (shiftV_down (a := val xs) c2 c1 hk)
      have hlt := trim_len_le xs
      have hl := hx.len
      have hx' := IsN.take hx (m := (trim xs).length) (by omega)
      rw [← trim_take xs] at hx'
      have ex := trim_eq_limbs hx.small
      have hb : (trim xs).length ≤ 90000000 := by omega
      have hbc : (trim xs).length ≤ c := by omega
      have Hl : RowKit.Hid (val (trim xs) = val xs) := by show _ = _; rw [ex, val_limbs]
      have c3 : -8192 ≤ V := by omega
      have hk2 : k ≤ 8192 := by omega
      clear hl ex hlt c1
      go_enter Try.func20, Try.ntmps20
      go_wp2_with fail
      refine (mulCut_any A n c xs w hx hc (by omega)).mono ?_
      rintro e w1 ⟨rfl, rfl⟩
      generalize trim xs = ys at *
      go_wp2_with fail
      refine (mulDown_any A ys.length c ys k _ (by omega) w hx' hb hbc hk2).mono ?_
      rintro e w1 ⟨A1, n1, c1, rfl, how, hbe⟩
      rw [Hl.out, ← Hf.out] at how
      clear hk
      go_wp2
      go_ret
      exact ⟨_, _, _, rfl, how, hbe⟩
    · by_cases c3 : V ≤ 8192
      case' pos =>
        obtain ⟨k, hk⟩ := Int.eq_ofNat_of_zero_le (show 0 ≤ V by omega)
        have Hf := Lib.hid (shiftV_up (a := val xs) (k := k) c2 (by omega))
        have hk2 : k ≤ 8192 := by omega
        have hk3 : V = k := by omega
      case' neg =>
        obtain ⟨k, hk, hk2⟩ : ∃ k : Nat, k = 8192 ∧ k ≤ 8192 := ⟨8192, rfl, by omega⟩
        have Hf := Lib.hid (shiftV_up (a := val xs) (k := k) c2 (by omega))
        have c4 : 8192 < V := by omega
        have hk3 : (8192 : Int) = k := by omega
        clear c3
      all_goals
        have Hk := Lib.hid hk3
        have c5 : 0 ≤ V := by omega
        clear hk3 c1 c2 hk
        go_enter Try.func20, Try.ntmps20
        go_wp2_with fail
        refine (mulUp_any A n c xs k _ Hk.out w hx hm hc hk2).mono ?_
        rintro e w1 ⟨A1, n1, c1, rfl, how, hbe⟩
        rw [← Hf.out] at how
        go_wp2
        go_ret
        exact ⟨_, _, _, rfl, how, hbe⟩

end Go.Proofs.Ytahogponokafcaa
