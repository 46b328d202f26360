/- Of any three lists of limbs: one number is greater than another or they are one, both ways, and on to a third; a number is as great as its bits say. No condition. -/
import Derived.Test.YthcacnlajfidoaaOpen
import Derived.Test.YthcacnlajfidoaaNatW
namespace Go.Proofs.Ythcacnlajfidoaa.lawNatOrder
open Go.ChangeShapes Go.WideShapes Go.ChangeAt Go.RowKit Limb
set_option linter.unusedVariables false

set_option maxHeartbeats 2000000 in
theorem case_LLL_zl (A_a : Option Addr) (n_a c_a : Nat) (xs_a : List Nat) (A_b : Option Addr) (n_b c_b : Nat) (xs_b : List Nat) (A_c : Option Addr) (n_c c_c : Nat) (xs_c : List Nat) (w : World) (i_a : IsN w A_a n_a xs_a) (hc_a : n_a ≤ c_a) (hm_a : c_a ≤ maxLen) (i_b : IsN w A_b n_b xs_b) (hc_b : n_b ≤ c_b) (hm_b : c_b ≤ maxLen) (i_c : IsN w A_c n_c xs_c) (hc_c : n_c ≤ c_c) (hm_c : c_c ≤ maxLen) (l_a : n_a ≤ 300) (l_b : n_b ≤ 300) (l_c : n_c ≤ 300)
    (HX : RowKit.Hid (cmpI (Limb.val xs_a) (Limb.val xs_b) = -1)) (HW : RowKit.Hid (cmpI (Limb.val xs_b) (Limb.val xs_a) = 1)) (HY : RowKit.Hid (cmpI (Limb.val xs_b) (Limb.val xs_c) = -1)) (HZ : RowKit.Hid (cmpI (Limb.val xs_a) (Limb.val xs_c) = -1))
    (HA : RowKit.Hid ((Limb.val xs_a) = 0)) (HB : RowKit.Hid (blen (Limb.val xs_b) > blen (Limb.val xs_a))) (HS : RowKit.Hid (same (limbs (Limb.val xs_a)) (limbs (Limb.val xs_b)) = false)) :
    Calls Try.prog 5 #[.slice A_a n_a c_a, .slice A_b n_b c_b, .slice A_c n_c c_c] w fun e w' => e = .returned (.bool true) ∧ Below w.heap.size w w' := by
  have bw := bel_refl w
  have h_a : NN w A_a n_a c_a xs_a (Limb.val xs_a) 300 := ⟨i_a, rfl, hc_a, by omega⟩
  have h_b : NN w A_b n_b c_b xs_b (Limb.val xs_b) 300 := ⟨i_b, rfl, hc_b, by omega⟩
  have h_c : NN w A_c n_c c_c xs_c (Limb.val xs_c) 300 := ⟨i_c, rfl, hc_c, by omega⟩
  have hbb : 0 < blen (Limb.val xs_b) := by have h := HB.out; rw [HA.out, blen_zero] at h; exact h
  go_enter Try.func5, Try.ntmps5
  go_wp2_with fail
  refine (long_c A_a n_a c_a w hc_a hm_a false (long_no (by omega))).mono ?_
  rintro e wx ⟨rfl, rfl⟩
  go_wp2_with fail
  refine (long_c A_b n_b c_b w hc_b hm_b false (long_no (by omega))).mono ?_
  rintro e wx ⟨rfl, rfl⟩
  go_wp2_with fail
  refine (long_c A_c n_c c_c w hc_c hm_c false (long_no (by omega))).mono ?_
  rintro e wx ⟨rfl, rfl⟩
  go_wp2_with fail
  refine (cmp_c h_a h_b (by decide) (by decide) (-1) HX.out).mono ?_
  rintro e w1 ⟨rfl, bn⟩
  replace h_a := h_a.below bn
  replace h_b := h_b.below bn
  replace h_c := h_c.below bn
  replace bw := below_two bw bn
  clear bn
  go_wp2_with fail
  refine (cmp_c h_b h_c (by decide) (by decide) (-1) HY.out).mono ?_
  rintro e w2 ⟨rfl, bn⟩
  replace h_a := h_a.below bn
  replace h_b := h_b.below bn
  replace h_c := h_c.below bn
  replace bw := below_two bw bn
  clear bn
  go_wp2_with fail
  refine (cmp_c h_a h_c (by decide) (by decide) (-1) HZ.out).mono ?_
  rintro e w3 ⟨rfl, bn⟩
  replace h_a := h_a.below bn
  replace h_b := h_b.below bn
  replace h_c := h_c.below bn
  replace bw := below_two bw bn
  clear bn
  go_wp2_with fail
  refine (cmp_c h_b h_a (by decide) (by decide) (1) HW.out).mono ?_
  rintro e w4 ⟨rfl, bn⟩
  replace h_a := h_a.below bn
  replace h_b := h_b.below bn
  replace h_c := h_c.below bn
  replace bw := below_two bw bn
  clear bn
  go_wp2_with fail
  refine (trim_c h_a (by decide)).mono ?_
  rintro e w5 ⟨A_p, n_p, c_p, rfl, h_p, bn⟩
  replace h_a := h_a.below bn
  replace h_b := h_b.below bn
  replace h_c := h_c.below bn
  replace bw := below_two bw bn
  clear bn
  go_wp2_with fail
  refine (trim_c h_b (by decide)).mono ?_
  rintro e w6 ⟨A_q, n_q, c_q, rfl, h_q, bn⟩
  replace h_a := h_a.below bn
  replace h_b := h_b.below bn
  replace h_c := h_c.below bn
  replace h_p := h_p.below bn
  replace bw := below_two bw bn
  clear bn
  go_wp2_with fail
  refine (keep_c h_p h_q (by decide) (by decide) false HS.out).mono ?_
  rintro e w7 ⟨rfl, bn⟩
  replace h_a := h_a.below bn
  replace h_b := h_b.below bn
  replace h_c := h_c.below bn
  replace h_p := h_p.below bn
  replace h_q := h_q.below bn
  replace bw := below_two bw bn
  clear bn
  clear h_p h_q
  go_wp2_with fail
  refine (bits_c h_a (by decide) 0 (by rw [HA.out, blen_zero]; rfl)).mono ?_
  rintro e w7x ⟨rfl, rfl⟩
  go_wp2_with fail
  refine (bit_c h_a (by decide) 0 (by decide) (by decide) false (by rw [HA.out]; rfl)).mono ?_
  rintro e w7x ⟨rfl, rfl⟩
  go_wp2_with fail
  refine (trim_c h_a (by decide)).mono ?_
  rintro e w8 ⟨A_r, n_r, c_r, rfl, h_r, bn⟩
  replace h_a := h_a.below bn
  replace h_b := h_b.below bn
  replace h_c := h_c.below bn
  replace bw := below_two bw bn
  clear bn
  obtain rfl : n_r = 0 := by have := h_r.isN.len; rw [HA.out, limbs_zero] at this; exact this.symm
  go_wp2_with fail
  refine (bits_c h_a (by decide) 0 (by rw [HA.out, blen_zero]; rfl)).mono ?_
  rintro e w8x ⟨rfl, rfl⟩
  go_wp2_with fail
  refine (bits_c h_b (by decide) _ rfl).mono ?_
  rintro e w8x ⟨rfl, rfl⟩
  go_wp2_with fail
  refine (wakes_any w8).mono ?_
  rintro e w9 ⟨rfl, bn⟩
  replace h_a := h_a.below bn
  replace h_b := h_b.below bn
  replace h_c := h_c.below bn
  replace h_r := h_r.below bn
  replace bw := below_two bw bn
  clear bn
  go_wp2
  go_ret
  exact ⟨rfl, bw⟩

set_option maxHeartbeats 2000000 in
theorem case_LLL_ng (A_a : Option Addr) (n_a c_a : Nat) (xs_a : List Nat) (A_b : Option Addr) (n_b c_b : Nat) (xs_b : List Nat) (A_c : Option Addr) (n_c c_c : Nat) (xs_c : List Nat) (w : World) (i_a : IsN w A_a n_a xs_a) (hc_a : n_a ≤ c_a) (hm_a : c_a ≤ maxLen) (i_b : IsN w A_b n_b xs_b) (hc_b : n_b ≤ c_b) (hm_b : c_b ≤ maxLen) (i_c : IsN w A_c n_c xs_c) (hc_c : n_c ≤ c_c) (hm_c : c_c ≤ maxLen) (l_a : n_a ≤ 300) (l_b : n_b ≤ 300) (l_c : n_c ≤ 300)
    (HX : RowKit.Hid (cmpI (Limb.val xs_a) (Limb.val xs_b) = -1)) (HW : RowKit.Hid (cmpI (Limb.val xs_b) (Limb.val xs_a) = 1)) (HY : RowKit.Hid (cmpI (Limb.val xs_b) (Limb.val xs_c) = -1)) (HZ : RowKit.Hid (cmpI (Limb.val xs_a) (Limb.val xs_c) = -1))
    (HA : RowKit.Hid ((Limb.val xs_a) ≠ 0)) (HB : RowKit.Hid (blen (Limb.val xs_b) ≤ blen (Limb.val xs_a))) (HS : RowKit.Hid (same (limbs (Limb.val xs_a)) (limbs (Limb.val xs_b)) = false)) :
    Calls Try.prog 5 #[.slice A_a n_a c_a, .slice A_b n_b c_b, .slice A_c n_c c_c] w fun e w' => e = .returned (.bool true) ∧ Below w.heap.size w w' := by
  have bw := bel_refl w
  have h_a : NN w A_a n_a c_a xs_a (Limb.val xs_a) 300 := ⟨i_a, rfl, hc_a, by omega⟩
  have h_b : NN w A_b n_b c_b xs_b (Limb.val xs_b) 300 := ⟨i_b, rfl, hc_b, by omega⟩
  have h_c : NN w A_c n_c c_c xs_c (Limb.val xs_c) 300 := ⟨i_c, rfl, hc_c, by omega⟩
  have hm0 : blen (Limb.val xs_a) ≠ 0 := fun h => HA.out (blen_eq_zero.1 h)
  have hm1 : blen (Limb.val xs_a) ≤ 9600 := blen_NN h_a
  have Hlow := Lib.hid (blen_top HA.out)
  have Hhigh := Lib.hid (blen_above (Limb.val xs_a))
  have hmz : (((blen (Limb.val xs_a) : Nat) : Int) == 0) = false := by simp; exact hm0
  have hbb : blen (Limb.val xs_b) ≤ blen (Limb.val xs_a) := HB.out
  go_enter Try.func5, Try.ntmps5
  go_wp2_with fail
  refine (long_c A_a n_a c_a w hc_a hm_a false (long_no (by omega))).mono ?_
  rintro e wx ⟨rfl, rfl⟩
  go_wp2_with fail
  refine (long_c A_b n_b c_b w hc_b hm_b false (long_no (by omega))).mono ?_
  rintro e wx ⟨rfl, rfl⟩
  go_wp2_with fail
  refine (long_c A_c n_c c_c w hc_c hm_c false (long_no (by omega))).mono ?_
  rintro e wx ⟨rfl, rfl⟩
  go_wp2_with fail
  refine (cmp_c h_a h_b (by decide) (by decide) (-1) HX.out).mono ?_
  rintro e w1 ⟨rfl, bn⟩
  replace h_a := h_a.below bn
  replace h_b := h_b.below bn
  replace h_c := h_c.below bn
  replace bw := below_two bw bn
  clear bn
  go_wp2_with fail
  refine (cmp_c h_b h_c (by decide) (by decide) (-1) HY.out).mono ?_
  rintro e w2 ⟨rfl, bn⟩
  replace h_a := h_a.below bn
  replace h_b := h_b.below bn
  replace h_c := h_c.below bn
  replace bw := below_two bw bn
  clear bn
  go_wp2_with fail
  refine (cmp_c h_a h_c (by decide) (by decide) (-1) HZ.out).mono ?_
  rintro e w3 ⟨rfl, bn⟩
  replace h_a := h_a.below bn
  replace h_b := h_b.below bn
  replace h_c := h_c.below bn
  replace bw := below_two bw bn
  clear bn
  go_wp2_with fail
  refine (cmp_c h_b h_a (by decide) (by decide) (1) HW.out).mono ?_
  rintro e w4 ⟨rfl, bn⟩
  replace h_a := h_a.below bn
  replace h_b := h_b.below bn
  replace h_c := h_c.below bn
  replace bw := below_two bw bn
  clear bn
  go_wp2_with fail
  refine (trim_c h_a (by decide)).mono ?_
  rintro e w5 ⟨A_p, n_p, c_p, rfl, h_p, bn⟩
  replace h_a := h_a.below bn
  replace h_b := h_b.below bn
  replace h_c := h_c.below bn
  replace bw := below_two bw bn
  clear bn
  go_wp2_with fail
  refine (trim_c h_b (by decide)).mono ?_
  rintro e w6 ⟨A_q, n_q, c_q, rfl, h_q, bn⟩
  replace h_a := h_a.below bn
  replace h_b := h_b.below bn
  replace h_c := h_c.below bn
  replace h_p := h_p.below bn
  replace bw := below_two bw bn
  clear bn
  go_wp2_with fail
  refine (keep_c h_p h_q (by decide) (by decide) false HS.out).mono ?_
  rintro e w7 ⟨rfl, bn⟩
  replace h_a := h_a.below bn
  replace h_b := h_b.below bn
  replace h_c := h_c.below bn
  replace h_p := h_p.below bn
  replace h_q := h_q.below bn
  replace bw := below_two bw bn
  clear bn
  clear h_p h_q
  go_wp2_with fail
  refine (bits_c h_a (by decide) _ rfl).mono ?_
  rintro e w7x ⟨rfl, rfl⟩
  go_wp2_with fail
  refine (bit_c h_a (by decide) _ (by omega) (by omega) true (by rw [show (((blen (Limb.val xs_a) : Nat) : Int) - 1).toNat = blen (Limb.val xs_a) - 1 by omega]; exact Hlow.out)).mono ?_
  rintro e w7x ⟨rfl, rfl⟩
  go_wp2_with fail
  refine (bit_c h_a (by decide) _ (by omega) (by omega) false (by rw [Int.toNat_natCast]; exact Hhigh.out)).mono ?_
  rintro e w7x ⟨rfl, rfl⟩
  go_wp2_with fail
  refine (trim_c h_a (by decide)).mono ?_
  rintro e w8 ⟨A_r, n_r, c_r, rfl, h_r, bn⟩
  replace h_a := h_a.below bn
  replace h_b := h_b.below bn
  replace h_c := h_c.below bn
  replace bw := below_two bw bn
  clear bn
  have hrz : ((n_r : Int) == 0) = false := by have := h_r.isN.len; simp; intro h; rw [h] at this; exact HA.out (limbs_eq_nil.1 (List.eq_nil_of_length_eq_zero this))
  go_wp2_with fail
  refine (bits_c h_a (by decide) _ rfl).mono ?_
  rintro e w8x ⟨rfl, rfl⟩
  go_wp2_with fail
  refine (bits_c h_b (by decide) _ rfl).mono ?_
  rintro e w8x ⟨rfl, rfl⟩
  go_wp2_with fail
  refine (wakes_any w8).mono ?_
  rintro e w9 ⟨rfl, bn⟩
  replace h_a := h_a.below bn
  replace h_b := h_b.below bn
  replace h_c := h_c.below bn
  replace h_r := h_r.below bn
  replace bw := below_two bw bn
  clear bn
  go_wp2
  go_ret
  exact ⟨rfl, bw⟩

set_option maxHeartbeats 2000000 in
theorem case_LLL_nl (A_a : Option Addr) (n_a c_a : Nat) (xs_a : List Nat) (A_b : Option Addr) (n_b c_b : Nat) (xs_b : List Nat) (A_c : Option Addr) (n_c c_c : Nat) (xs_c : List Nat) (w : World) (i_a : IsN w A_a n_a xs_a) (hc_a : n_a ≤ c_a) (hm_a : c_a ≤ maxLen) (i_b : IsN w A_b n_b xs_b) (hc_b : n_b ≤ c_b) (hm_b : c_b ≤ maxLen) (i_c : IsN w A_c n_c xs_c) (hc_c : n_c ≤ c_c) (hm_c : c_c ≤ maxLen) (l_a : n_a ≤ 300) (l_b : n_b ≤ 300) (l_c : n_c ≤ 300)
    (HX : RowKit.Hid (cmpI (Limb.val xs_a) (Limb.val xs_b) = -1)) (HW : RowKit.Hid (cmpI (Limb.val xs_b) (Limb.val xs_a) = 1)) (HY : RowKit.Hid (cmpI (Limb.val xs_b) (Limb.val xs_c) = -1)) (HZ : RowKit.Hid (cmpI (Limb.val xs_a) (Limb.val xs_c) = -1))
    (HA : RowKit.Hid ((Limb.val xs_a) ≠ 0)) (HB : RowKit.Hid (blen (Limb.val xs_b) > blen (Limb.val xs_a))) (HS : RowKit.Hid (same (limbs (Limb.val xs_a)) (limbs (Limb.val xs_b)) = false)) :
    Calls Try.prog 5 #[.slice A_a n_a c_a, .slice A_b n_b c_b, .slice A_c n_c c_c] w fun e w' => e = .returned (.bool true) ∧ Below w.heap.size w w' := by
  have bw := bel_refl w
  have h_a : NN w A_a n_a c_a xs_a (Limb.val xs_a) 300 := ⟨i_a, rfl, hc_a, by omega⟩
  have h_b : NN w A_b n_b c_b xs_b (Limb.val xs_b) 300 := ⟨i_b, rfl, hc_b, by omega⟩
  have h_c : NN w A_c n_c c_c xs_c (Limb.val xs_c) 300 := ⟨i_c, rfl, hc_c, by omega⟩
  have hm0 : blen (Limb.val xs_a) ≠ 0 := fun h => HA.out (blen_eq_zero.1 h)
  have hm1 : blen (Limb.val xs_a) ≤ 9600 := blen_NN h_a
  have Hlow := Lib.hid (blen_top HA.out)
  have Hhigh := Lib.hid (blen_above (Limb.val xs_a))
  have hmz : (((blen (Limb.val xs_a) : Nat) : Int) == 0) = false := by simp; exact hm0
  have hbb : blen (Limb.val xs_a) < blen (Limb.val xs_b) := HB.out
  go_enter Try.func5, Try.ntmps5
  go_wp2_with fail
  refine (long_c A_a n_a c_a w hc_a hm_a false (long_no (by omega))).mono ?_
  rintro e wx ⟨rfl, rfl⟩
  go_wp2_with fail
  refine (long_c A_b n_b c_b w hc_b hm_b false (long_no (by omega))).mono ?_
  rintro e wx ⟨rfl, rfl⟩
  go_wp2_with fail
  refine (long_c A_c n_c c_c w hc_c hm_c false (long_no (by omega))).mono ?_
  rintro e wx ⟨rfl, rfl⟩
  go_wp2_with fail
  refine (cmp_c h_a h_b (by decide) (by decide) (-1) HX.out).mono ?_
  rintro e w1 ⟨rfl, bn⟩
  replace h_a := h_a.below bn
  replace h_b := h_b.below bn
  replace h_c := h_c.below bn
  replace bw := below_two bw bn
  clear bn
  go_wp2_with fail
  refine (cmp_c h_b h_c (by decide) (by decide) (-1) HY.out).mono ?_
  rintro e w2 ⟨rfl, bn⟩
  replace h_a := h_a.below bn
  replace h_b := h_b.below bn
  replace h_c := h_c.below bn
  replace bw := below_two bw bn
  clear bn
  go_wp2_with fail
  refine (cmp_c h_a h_c (by decide) (by decide) (-1) HZ.out).mono ?_
  rintro e w3 ⟨rfl, bn⟩
  replace h_a := h_a.below bn
  replace h_b := h_b.below bn
  replace h_c := h_c.below bn
  replace bw := below_two bw bn
  clear bn
  go_wp2_with fail
  refine (cmp_c h_b h_a (by decide) (by decide) (1) HW.out).mono ?_
  rintro e w4 ⟨rfl, bn⟩
  replace h_a := h_a.below bn
  replace h_b := h_b.below bn
  replace h_c := h_c.below bn
  replace bw := below_two bw bn
  clear bn
  go_wp2_with fail
  refine (trim_c h_a (by decide)).mono ?_
  rintro e w5 ⟨A_p, n_p, c_p, rfl, h_p, bn⟩
  replace h_a := h_a.below bn
  replace h_b := h_b.below bn
  replace h_c := h_c.below bn
  replace bw := below_two bw bn
  clear bn
  go_wp2_with fail
  refine (trim_c h_b (by decide)).mono ?_
  rintro e w6 ⟨A_q, n_q, c_q, rfl, h_q, bn⟩
  replace h_a := h_a.below bn
  replace h_b := h_b.below bn
  replace h_c := h_c.below bn
  replace h_p := h_p.below bn
  replace bw := below_two bw bn
  clear bn
  go_wp2_with fail
  refine (keep_c h_p h_q (by decide) (by decide) false HS.out).mono ?_
  rintro e w7 ⟨rfl, bn⟩
  replace h_a := h_a.below bn
  replace h_b := h_b.below bn
  replace h_c := h_c.below bn
  replace h_p := h_p.below bn
  replace h_q := h_q.below bn
  replace bw := below_two bw bn
  clear bn
  clear h_p h_q
  go_wp2_with fail
  refine (bits_c h_a (by decide) _ rfl).mono ?_
  rintro e w7x ⟨rfl, rfl⟩
  go_wp2_with fail
  refine (bit_c h_a (by decide) _ (by omega) (by omega) true (by rw [show (((blen (Limb.val xs_a) : Nat) : Int) - 1).toNat = blen (Limb.val xs_a) - 1 by omega]; exact Hlow.out)).mono ?_
  rintro e w7x ⟨rfl, rfl⟩
  go_wp2_with fail
  refine (bit_c h_a (by decide) _ (by omega) (by omega) false (by rw [Int.toNat_natCast]; exact Hhigh.out)).mono ?_
  rintro e w7x ⟨rfl, rfl⟩
  go_wp2_with fail
  refine (trim_c h_a (by decide)).mono ?_
  rintro e w8 ⟨A_r, n_r, c_r, rfl, h_r, bn⟩
  replace h_a := h_a.below bn
  replace h_b := h_b.below bn
  replace h_c := h_c.below bn
  replace bw := below_two bw bn
  clear bn
  have hrz : ((n_r : Int) == 0) = false := by have := h_r.isN.len; simp; intro h; rw [h] at this; exact HA.out (limbs_eq_nil.1 (List.eq_nil_of_length_eq_zero this))
  go_wp2_with fail
  refine (bits_c h_a (by decide) _ rfl).mono ?_
  rintro e w8x ⟨rfl, rfl⟩
  go_wp2_with fail
  refine (bits_c h_b (by decide) _ rfl).mono ?_
  rintro e w8x ⟨rfl, rfl⟩
  go_wp2_with fail
  refine (wakes_any w8).mono ?_
  rintro e w9 ⟨rfl, bn⟩
  replace h_a := h_a.below bn
  replace h_b := h_b.below bn
  replace h_c := h_c.below bn
  replace h_r := h_r.below bn
  replace bw := below_two bw bn
  clear bn
  go_wp2
  go_ret
  exact ⟨rfl, bw⟩

set_option maxHeartbeats 2000000 in
theorem case_LEL_zl (A_a : Option Addr) (n_a c_a : Nat) (xs_a : List Nat) (A_b : Option Addr) (n_b c_b : Nat) (xs_b : List Nat) (A_c : Option Addr) (n_c c_c : Nat) (xs_c : List Nat) (w : World) (i_a : IsN w A_a n_a xs_a) (hc_a : n_a ≤ c_a) (hm_a : c_a ≤ maxLen) (i_b : IsN w A_b n_b xs_b) (hc_b : n_b ≤ c_b) (hm_b : c_b ≤ maxLen) (i_c : IsN w A_c n_c xs_c) (hc_c : n_c ≤ c_c) (hm_c : c_c ≤ maxLen) (l_a : n_a ≤ 300) (l_b : n_b ≤ 300) (l_c : n_c ≤ 300)
    (HX : RowKit.Hid (cmpI (Limb.val xs_a) (Limb.val xs_b) = -1)) (HW : RowKit.Hid (cmpI (Limb.val xs_b) (Limb.val xs_a) = 1)) (HY : RowKit.Hid (cmpI (Limb.val xs_b) (Limb.val xs_c) = 0)) (HZ : RowKit.Hid (cmpI (Limb.val xs_a) (Limb.val xs_c) = -1))
    (HA : RowKit.Hid ((Limb.val xs_a) = 0)) (HB : RowKit.Hid (blen (Limb.val xs_b) > blen (Limb.val xs_a))) (HS : RowKit.Hid (same (limbs (Limb.val xs_a)) (limbs (Limb.val xs_b)) = false)) :
    Calls Try.prog 5 #[.slice A_a n_a c_a, .slice A_b n_b c_b, .slice A_c n_c c_c] w fun e w' => e = .returned (.bool true) ∧ Below w.heap.size w w' := by
  have bw := bel_refl w
  have h_a : NN w A_a n_a c_a xs_a (Limb.val xs_a) 300 := ⟨i_a, rfl, hc_a, by omega⟩
  have h_b : NN w A_b n_b c_b xs_b (Limb.val xs_b) 300 := ⟨i_b, rfl, hc_b, by omega⟩
  have h_c : NN w A_c n_c c_c xs_c (Limb.val xs_c) 300 := ⟨i_c, rfl, hc_c, by omega⟩
  have hbb : 0 < blen (Limb.val xs_b) := by have h := HB.out; rw [HA.out, blen_zero] at h; exact h
  go_enter Try.func5, Try.ntmps5
  go_wp2_with fail
  refine (long_c A_a n_a c_a w hc_a hm_a false (long_no (by omega))).mono ?_
  rintro e wx ⟨rfl, rfl⟩
  go_wp2_with fail
  refine (long_c A_b n_b c_b w hc_b hm_b false (long_no (by omega))).mono ?_
  rintro e wx ⟨rfl, rfl⟩
  go_wp2_with fail
  refine (long_c A_c n_c c_c w hc_c hm_c false (long_no (by omega))).mono ?_
  rintro e wx ⟨rfl, rfl⟩
  go_wp2_with fail
  refine (cmp_c h_a h_b (by decide) (by decide) (-1) HX.out).mono ?_
  rintro e w1 ⟨rfl, bn⟩
  replace h_a := h_a.below bn
  replace h_b := h_b.below bn
  replace h_c := h_c.below bn
  replace bw := below_two bw bn
  clear bn
  go_wp2_with fail
  refine (cmp_c h_b h_c (by decide) (by decide) (0) HY.out).mono ?_
  rintro e w2 ⟨rfl, bn⟩
  replace h_a := h_a.below bn
  replace h_b := h_b.below bn
  replace h_c := h_c.below bn
  replace bw := below_two bw bn
  clear bn
  go_wp2_with fail
  refine (cmp_c h_a h_c (by decide) (by decide) (-1) HZ.out).mono ?_
  rintro e w3 ⟨rfl, bn⟩
  replace h_a := h_a.below bn
  replace h_b := h_b.below bn
  replace h_c := h_c.below bn
  replace bw := below_two bw bn
  clear bn
  go_wp2_with fail
  refine (cmp_c h_b h_a (by decide) (by decide) (1) HW.out).mono ?_
  rintro e w4 ⟨rfl, bn⟩
  replace h_a := h_a.below bn
  replace h_b := h_b.below bn
  replace h_c := h_c.below bn
  replace bw := below_two bw bn
  clear bn
  go_wp2_with fail
  refine (trim_c h_a (by decide)).mono ?_
  rintro e w5 ⟨A_p, n_p, c_p, rfl, h_p, bn⟩
  replace h_a := h_a.below bn
  replace h_b := h_b.below bn
  replace h_c := h_c.below bn
  replace bw := below_two bw bn
  clear bn
  go_wp2_with fail
  refine (trim_c h_b (by decide)).mono ?_
  rintro e w6 ⟨A_q, n_q, c_q, rfl, h_q, bn⟩
  replace h_a := h_a.below bn
  replace h_b := h_b.below bn
  replace h_c := h_c.below bn
  replace h_p := h_p.below bn
  replace bw := below_two bw bn
  clear bn
  go_wp2_with fail
  refine (keep_c h_p h_q (by decide) (by decide) false HS.out).mono ?_
  rintro e w7 ⟨rfl, bn⟩
  replace h_a := h_a.below bn
  replace h_b := h_b.below bn
  replace h_c := h_c.below bn
  replace h_p := h_p.below bn
  replace h_q := h_q.below bn
  replace bw := below_two bw bn
  clear bn
  clear h_p h_q
  go_wp2_with fail
  refine (bits_c h_a (by decide) 0 (by rw [HA.out, blen_zero]; rfl)).mono ?_
  rintro e w7x ⟨rfl, rfl⟩
  go_wp2_with fail
  refine (bit_c h_a (by decide) 0 (by decide) (by decide) false (by rw [HA.out]; rfl)).mono ?_
  rintro e w7x ⟨rfl, rfl⟩
  go_wp2_with fail
  refine (trim_c h_a (by decide)).mono ?_
  rintro e w8 ⟨A_r, n_r, c_r, rfl, h_r, bn⟩
  replace h_a := h_a.below bn
  replace h_b := h_b.below bn
  replace h_c := h_c.below bn
  replace bw := below_two bw bn
  clear bn
  obtain rfl : n_r = 0 := by have := h_r.isN.len; rw [HA.out, limbs_zero] at this; exact this.symm
  go_wp2_with fail
  refine (bits_c h_a (by decide) 0 (by rw [HA.out, blen_zero]; rfl)).mono ?_
  rintro e w8x ⟨rfl, rfl⟩
  go_wp2_with fail
  refine (bits_c h_b (by decide) _ rfl).mono ?_
  rintro e w8x ⟨rfl, rfl⟩
  go_wp2_with fail
  refine (wakes_any w8).mono ?_
  rintro e w9 ⟨rfl, bn⟩
  replace h_a := h_a.below bn
  replace h_b := h_b.below bn
  replace h_c := h_c.below bn
  replace h_r := h_r.below bn
  replace bw := below_two bw bn
  clear bn
  go_wp2
  go_ret
  exact ⟨rfl, bw⟩

set_option maxHeartbeats 2000000 in
theorem case_LEL_ng (A_a : Option Addr) (n_a c_a : Nat) (xs_a : List Nat) (A_b : Option Addr) (n_b c_b : Nat) (xs_b : List Nat) (A_c : Option Addr) (n_c c_c : Nat) (xs_c : List Nat) (w : World) (i_a : IsN w A_a n_a xs_a) (hc_a : n_a ≤ c_a) (hm_a : c_a ≤ maxLen) (i_b : IsN w A_b n_b xs_b) (hc_b : n_b ≤ c_b) (hm_b : c_b ≤ maxLen) (i_c : IsN w A_c n_c xs_c) (hc_c : n_c ≤ c_c) (hm_c : c_c ≤ maxLen) (l_a : n_a ≤ 300) (l_b : n_b ≤ 300) (l_c : n_c ≤ 300)
    (HX : RowKit.Hid (cmpI (Limb.val xs_a) (Limb.val xs_b) = -1)) (HW : RowKit.Hid (cmpI (Limb.val xs_b) (Limb.val xs_a) = 1)) (HY : RowKit.Hid (cmpI (Limb.val xs_b) (Limb.val xs_c) = 0)) (HZ : RowKit.Hid (cmpI (Limb.val xs_a) (Limb.val xs_c) = -1))
    (HA : RowKit.Hid ((Limb.val xs_a) ≠ 0)) (HB : RowKit.Hid (blen (Limb.val xs_b) ≤ blen (Limb.val xs_a))) (HS : RowKit.Hid (same (limbs (Limb.val xs_a)) (limbs (Limb.val xs_b)) = false)) :
    Calls Try.prog 5 #[.slice A_a n_a c_a, .slice A_b n_b c_b, .slice A_c n_c c_c] w fun e w' => e = .returned (.bool true) ∧ Below w.heap.size w w' := by
  have bw := bel_refl w
  have h_a : NN w A_a n_a c_a xs_a (Limb.val xs_a) 300 := ⟨i_a, rfl, hc_a, by omega⟩
  have h_b : NN w A_b n_b c_b xs_b (Limb.val xs_b) 300 := ⟨i_b, rfl, hc_b, by omega⟩
  have h_c : NN w A_c n_c c_c xs_c (Limb.val xs_c) 300 := ⟨i_c, rfl, hc_c, by omega⟩
  have hm0 : blen (Limb.val xs_a) ≠ 0 := fun h => HA.out (blen_eq_zero.1 h)
  have hm1 : blen (Limb.val xs_a) ≤ 9600 := blen_NN h_a
  have Hlow := Lib.hid (blen_top HA.out)
  have Hhigh := Lib.hid (blen_above (Limb.val xs_a))
  have hmz : (((blen (Limb.val xs_a) : Nat) : Int) == 0) = false := by simp; exact hm0
  have hbb : blen (Limb.val xs_b) ≤ blen (Limb.val xs_a) := HB.out
  go_enter Try.func5, Try.ntmps5
  go_wp2_with fail
  refine (long_c A_a n_a c_a w hc_a hm_a false (long_no (by omega))).mono ?_
  rintro e wx ⟨rfl, rfl⟩
  go_wp2_with fail
  refine (long_c A_b n_b c_b w hc_b hm_b false (long_no (by omega))).mono ?_
  rintro e wx ⟨rfl, rfl⟩
  go_wp2_with fail
  refine (long_c A_c n_c c_c w hc_c hm_c false (long_no (by omega))).mono ?_
  rintro e wx ⟨rfl, rfl⟩
  go_wp2_with fail
  refine (cmp_c h_a h_b (by decide) (by decide) (-1) HX.out).mono ?_
  rintro e w1 ⟨rfl, bn⟩
  replace h_a := h_a.below bn
  replace h_b := h_b.below bn
  replace h_c := h_c.below bn
  replace bw := below_two bw bn
  clear bn
  go_wp2_with fail
  refine (cmp_c h_b h_c (by decide) (by decide) (0) HY.out).mono ?_
  rintro e w2 ⟨rfl, bn⟩
  replace h_a := h_a.below bn
  replace h_b := h_b.below bn
  replace h_c := h_c.below bn
  replace bw := below_two bw bn
  clear bn
  go_wp2_with fail
  refine (cmp_c h_a h_c (by decide) (by decide) (-1) HZ.out).mono ?_
  rintro e w3 ⟨rfl, bn⟩
  replace h_a := h_a.below bn
  replace h_b := h_b.below bn
  replace h_c := h_c.below bn
  replace bw := below_two bw bn
  clear bn
  go_wp2_with fail
  refine (cmp_c h_b h_a (by decide) (by decide) (1) HW.out).mono ?_
  rintro e w4 ⟨rfl, bn⟩
  replace h_a := h_a.below bn
  replace h_b := h_b.below bn
  replace h_c := h_c.below bn
  replace bw := below_two bw bn
  clear bn
  go_wp2_with fail
  refine (trim_c h_a (by decide)).mono ?_
  rintro e w5 ⟨A_p, n_p, c_p, rfl, h_p, bn⟩
  replace h_a := h_a.below bn
  replace h_b := h_b.below bn
  replace h_c := h_c.below bn
  replace bw := below_two bw bn
  clear bn
  go_wp2_with fail
  refine (trim_c h_b (by decide)).mono ?_
  rintro e w6 ⟨A_q, n_q, c_q, rfl, h_q, bn⟩
  replace h_a := h_a.below bn
  replace h_b := h_b.below bn
  replace h_c := h_c.below bn
  replace h_p := h_p.below bn
  replace bw := below_two bw bn
  clear bn
  go_wp2_with fail
  refine (keep_c h_p h_q (by decide) (by decide) false HS.out).mono ?_
  rintro e w7 ⟨rfl, bn⟩
  replace h_a := h_a.below bn
  replace h_b := h_b.below bn
  replace h_c := h_c.below bn
  replace h_p := h_p.below bn
  replace h_q := h_q.below bn
  replace bw := below_two bw bn
  clear bn
  clear h_p h_q
  go_wp2_with fail
  refine (bits_c h_a (by decide) _ rfl).mono ?_
  rintro e w7x ⟨rfl, rfl⟩
  go_wp2_with fail
  refine (bit_c h_a (by decide) _ (by omega) (by omega) true (by rw [show (((blen (Limb.val xs_a) : Nat) : Int) - 1).toNat = blen (Limb.val xs_a) - 1 by omega]; exact Hlow.out)).mono ?_
  rintro e w7x ⟨rfl, rfl⟩
  go_wp2_with fail
  refine (bit_c h_a (by decide) _ (by omega) (by omega) false (by rw [Int.toNat_natCast]; exact Hhigh.out)).mono ?_
  rintro e w7x ⟨rfl, rfl⟩
  go_wp2_with fail
  refine (trim_c h_a (by decide)).mono ?_
  rintro e w8 ⟨A_r, n_r, c_r, rfl, h_r, bn⟩
  replace h_a := h_a.below bn
  replace h_b := h_b.below bn
  replace h_c := h_c.below bn
  replace bw := below_two bw bn
  clear bn
  have hrz : ((n_r : Int) == 0) = false := by have := h_r.isN.len; simp; intro h; rw [h] at this; exact HA.out (limbs_eq_nil.1 (List.eq_nil_of_length_eq_zero this))
  go_wp2_with fail
  refine (bits_c h_a (by decide) _ rfl).mono ?_
  rintro e w8x ⟨rfl, rfl⟩
  go_wp2_with fail
  refine (bits_c h_b (by decide) _ rfl).mono ?_
  rintro e w8x ⟨rfl, rfl⟩
  go_wp2_with fail
  refine (wakes_any w8).mono ?_
  rintro e w9 ⟨rfl, bn⟩
  replace h_a := h_a.below bn
  replace h_b := h_b.below bn
  replace h_c := h_c.below bn
  replace h_r := h_r.below bn
  replace bw := below_two bw bn
  clear bn
  go_wp2
  go_ret
  exact ⟨rfl, bw⟩

set_option maxHeartbeats 2000000 in
theorem case_LEL_nl (A_a : Option Addr) (n_a c_a : Nat) (xs_a : List Nat) (A_b : Option Addr) (n_b c_b : Nat) (xs_b : List Nat) (A_c : Option Addr) (n_c c_c : Nat) (xs_c : List Nat) (w : World) (i_a : IsN w A_a n_a xs_a) (hc_a : n_a ≤ c_a) (hm_a : c_a ≤ maxLen) (i_b : IsN w A_b n_b xs_b) (hc_b : n_b ≤ c_b) (hm_b : c_b ≤ maxLen) (i_c : IsN w A_c n_c xs_c) (hc_c : n_c ≤ c_c) (hm_c : c_c ≤ maxLen) (l_a : n_a ≤ 300) (l_b : n_b ≤ 300) (l_c : n_c ≤ 300)
    (HX : RowKit.Hid (cmpI (Limb.val xs_a) (Limb.val xs_b) = -1)) (HW : RowKit.Hid (cmpI (Limb.val xs_b) (Limb.val xs_a) = 1)) (HY : RowKit.Hid (cmpI (Limb.val xs_b) (Limb.val xs_c) = 0)) (HZ : RowKit.Hid (cmpI (Limb.val xs_a) (Limb.val xs_c) = -1))
    (HA : RowKit.Hid ((Limb.val xs_a) ≠ 0)) (HB : RowKit.Hid (blen (Limb.val xs_b) > blen (Limb.val xs_a))) (HS : RowKit.Hid (same (limbs (Limb.val xs_a)) (limbs (Limb.val xs_b)) = false)) :
    Calls Try.prog 5 #[.slice A_a n_a c_a, .slice A_b n_b c_b, .slice A_c n_c c_c] w fun e w' => e = .returned (.bool true) ∧ Below w.heap.size w w' := by
  have bw := bel_refl w
  have h_a : NN w A_a n_a c_a xs_a (Limb.val xs_a) 300 := ⟨i_a, rfl, hc_a, by omega⟩
  have h_b : NN w A_b n_b c_b xs_b (Limb.val xs_b) 300 := ⟨i_b, rfl, hc_b, by omega⟩
  have h_c : NN w A_c n_c c_c xs_c (Limb.val xs_c) 300 := ⟨i_c, rfl, hc_c, by omega⟩
  have hm0 : blen (Limb.val xs_a) ≠ 0 := fun h => HA.out (blen_eq_zero.1 h)
  have hm1 : blen (Limb.val xs_a) ≤ 9600 := blen_NN h_a
  have Hlow := Lib.hid (blen_top HA.out)
  have Hhigh := Lib.hid (blen_above (Limb.val xs_a))
  have hmz : (((blen (Limb.val xs_a) : Nat) : Int) == 0) = false := by simp; exact hm0
  have hbb : blen (Limb.val xs_a) < blen (Limb.val xs_b) := HB.out
  go_enter Try.func5, Try.ntmps5
  go_wp2_with fail
  refine (long_c A_a n_a c_a w hc_a hm_a false (long_no (by omega))).mono ?_
  rintro e wx ⟨rfl, rfl⟩
  go_wp2_with fail
  refine (long_c A_b n_b c_b w hc_b hm_b false (long_no (by omega))).mono ?_
  rintro e wx ⟨rfl, rfl⟩
  go_wp2_with fail
  refine (long_c A_c n_c c_c w hc_c hm_c false (long_no (by omega))).mono ?_
  rintro e wx ⟨rfl, rfl⟩
  go_wp2_with fail
  refine (cmp_c h_a h_b (by decide) (by decide) (-1) HX.out).mono ?_
  rintro e w1 ⟨rfl, bn⟩
  replace h_a := h_a.below bn
  replace h_b := h_b.below bn
  replace h_c := h_c.below bn
  replace bw := below_two bw bn
  clear bn
  go_wp2_with fail
  refine (cmp_c h_b h_c (by decide) (by decide) (0) HY.out).mono ?_
  rintro e w2 ⟨rfl, bn⟩
  replace h_a := h_a.below bn
  replace h_b := h_b.below bn
  replace h_c := h_c.below bn
  replace bw := below_two bw bn
  clear bn
  go_wp2_with fail
  refine (cmp_c h_a h_c (by decide) (by decide) (-1) HZ.out).mono ?_
  rintro e w3 ⟨rfl, bn⟩
  replace h_a := h_a.below bn
  replace h_b := h_b.below bn
  replace h_c := h_c.below bn
  replace bw := below_two bw bn
  clear bn
  go_wp2_with fail
  refine (cmp_c h_b h_a (by decide) (by decide) (1) HW.out).mono ?_
  rintro e w4 ⟨rfl, bn⟩
  replace h_a := h_a.below bn
  replace h_b := h_b.below bn
  replace h_c := h_c.below bn
  replace bw := below_two bw bn
  clear bn
  go_wp2_with fail
  refine (trim_c h_a (by decide)).mono ?_
  rintro e w5 ⟨A_p, n_p, c_p, rfl, h_p, bn⟩
  replace h_a := h_a.below bn
  replace h_b := h_b.below bn
  replace h_c := h_c.below bn
  replace bw := below_two bw bn
  clear bn
  go_wp2_with fail
  refine (trim_c h_b (by decide)).mono ?_
  rintro e w6 ⟨A_q, n_q, c_q, rfl, h_q, bn⟩
  replace h_a := h_a.below bn
  replace h_b := h_b.below bn
  replace h_c := h_c.below bn
  replace h_p := h_p.below bn
  replace bw := below_two bw bn
  clear bn
  go_wp2_with fail
  refine (keep_c h_p h_q (by decide) (by decide) false HS.out).mono ?_
  rintro e w7 ⟨rfl, bn⟩
  replace h_a := h_a.below bn
  replace h_b := h_b.below bn
  replace h_c := h_c.below bn
  replace h_p := h_p.below bn
  replace h_q := h_q.below bn
  replace bw := below_two bw bn
  clear bn
  clear h_p h_q
  go_wp2_with fail
  refine (bits_c h_a (by decide) _ rfl).mono ?_
  rintro e w7x ⟨rfl, rfl⟩
  go_wp2_with fail
  refine (bit_c h_a (by decide) _ (by omega) (by omega) true (by rw [show (((blen (Limb.val xs_a) : Nat) : Int) - 1).toNat = blen (Limb.val xs_a) - 1 by omega]; exact Hlow.out)).mono ?_
  rintro e w7x ⟨rfl, rfl⟩
  go_wp2_with fail
  refine (bit_c h_a (by decide) _ (by omega) (by omega) false (by rw [Int.toNat_natCast]; exact Hhigh.out)).mono ?_
  rintro e w7x ⟨rfl, rfl⟩
  go_wp2_with fail
  refine (trim_c h_a (by decide)).mono ?_
  rintro e w8 ⟨A_r, n_r, c_r, rfl, h_r, bn⟩
  replace h_a := h_a.below bn
  replace h_b := h_b.below bn
  replace h_c := h_c.below bn
  replace bw := below_two bw bn
  clear bn
  have hrz : ((n_r : Int) == 0) = false := by have := h_r.isN.len; simp; intro h; rw [h] at this; exact HA.out (limbs_eq_nil.1 (List.eq_nil_of_length_eq_zero this))
  go_wp2_with fail
  refine (bits_c h_a (by decide) _ rfl).mono ?_
  rintro e w8x ⟨rfl, rfl⟩
  go_wp2_with fail
  refine (bits_c h_b (by decide) _ rfl).mono ?_
  rintro e w8x ⟨rfl, rfl⟩
  go_wp2_with fail
  refine (wakes_any w8).mono ?_
  rintro e w9 ⟨rfl, bn⟩
  replace h_a := h_a.below bn
  replace h_b := h_b.below bn
  replace h_c := h_c.below bn
  replace h_r := h_r.below bn
  replace bw := below_two bw bn
  clear bn
  go_wp2
  go_ret
  exact ⟨rfl, bw⟩

set_option maxHeartbeats 2000000 in
theorem case_LGL_zl (A_a : Option Addr) (n_a c_a : Nat) (xs_a : List Nat) (A_b : Option Addr) (n_b c_b : Nat) (xs_b : List Nat) (A_c : Option Addr) (n_c c_c : Nat) (xs_c : List Nat) (w : World) (i_a : IsN w A_a n_a xs_a) (hc_a : n_a ≤ c_a) (hm_a : c_a ≤ maxLen) (i_b : IsN w A_b n_b xs_b) (hc_b : n_b ≤ c_b) (hm_b : c_b ≤ maxLen) (i_c : IsN w A_c n_c xs_c) (hc_c : n_c ≤ c_c) (hm_c : c_c ≤ maxLen) (l_a : n_a ≤ 300) (l_b : n_b ≤ 300) (l_c : n_c ≤ 300)
    (HX : RowKit.Hid (cmpI (Limb.val xs_a) (Limb.val xs_b) = -1)) (HW : RowKit.Hid (cmpI (Limb.val xs_b) (Limb.val xs_a) = 1)) (HY : RowKit.Hid (cmpI (Limb.val xs_b) (Limb.val xs_c) = 1)) (HZ : RowKit.Hid (cmpI (Limb.val xs_a) (Limb.val xs_c) = -1))
    (HA : RowKit.Hid ((Limb.val xs_a) = 0)) (HB : RowKit.Hid (blen (Limb.val xs_b) > blen (Limb.val xs_a))) (HS : RowKit.Hid (same (limbs (Limb.val xs_a)) (limbs (Limb.val xs_b)) = false)) :
    Calls Try.prog 5 #[.slice A_a n_a c_a, .slice A_b n_b c_b, .slice A_c n_c c_c] w fun e w' => e = .returned (.bool true) ∧ Below w.heap.size w w' := by
  have bw := bel_refl w
  have h_a : NN w A_a n_a c_a xs_a (Limb.val xs_a) 300 := ⟨i_a, rfl, hc_a, by omega⟩
  have h_b : NN w A_b n_b c_b xs_b (Limb.val xs_b) 300 := ⟨i_b, rfl, hc_b, by omega⟩
  have h_c : NN w A_c n_c c_c xs_c (Limb.val xs_c) 300 := ⟨i_c, rfl, hc_c, by omega⟩
  have hbb : 0 < blen (Limb.val xs_b) := by have h := HB.out; rw [HA.out, blen_zero] at h; exact h
  go_enter Try.func5, Try.ntmps5
  go_wp2_with fail
  refine (long_c A_a n_a c_a w hc_a hm_a false (long_no (by omega))).mono ?_
  rintro e wx ⟨rfl, rfl⟩
  go_wp2_with fail
  refine (long_c A_b n_b c_b w hc_b hm_b false (long_no (by omega))).mono ?_
  rintro e wx ⟨rfl, rfl⟩
  go_wp2_with fail
  refine (long_c A_c n_c c_c w hc_c hm_c false (long_no (by omega))).mono ?_
  rintro e wx ⟨rfl, rfl⟩
  go_wp2_with fail
  refine (cmp_c h_a h_b (by decide) (by decide) (-1) HX.out).mono ?_
  rintro e w1 ⟨rfl, bn⟩
  replace h_a := h_a.below bn
  replace h_b := h_b.below bn
  replace h_c := h_c.below bn
  replace bw := below_two bw bn
  clear bn
  go_wp2_with fail
  refine (cmp_c h_b h_c (by decide) (by decide) (1) HY.out).mono ?_
  rintro e w2 ⟨rfl, bn⟩
  replace h_a := h_a.below bn
  replace h_b := h_b.below bn
  replace h_c := h_c.below bn
  replace bw := below_two bw bn
  clear bn
  go_wp2_with fail
  refine (cmp_c h_a h_c (by decide) (by decide) (-1) HZ.out).mono ?_
  rintro e w3 ⟨rfl, bn⟩
  replace h_a := h_a.below bn
  replace h_b := h_b.below bn
  replace h_c := h_c.below bn
  replace bw := below_two bw bn
  clear bn
  go_wp2_with fail
  refine (cmp_c h_b h_a (by decide) (by decide) (1) HW.out).mono ?_
  rintro e w4 ⟨rfl, bn⟩
  replace h_a := h_a.below bn
  replace h_b := h_b.below bn
  replace h_c := h_c.below bn
  replace bw := below_two bw bn
  clear bn
  go_wp2_with fail
  refine (trim_c h_a (by decide)).mono ?_
  rintro e w5 ⟨A_p, n_p, c_p, rfl, h_p, bn⟩
  replace h_a := h_a.below bn
  replace h_b := h_b.below bn
  replace h_c := h_c.below bn
  replace bw := below_two bw bn
  clear bn
  go_wp2_with fail
  refine (trim_c h_b (by decide)).mono ?_
  rintro e w6 ⟨A_q, n_q, c_q, rfl, h_q, bn⟩
  replace h_a := h_a.below bn
  replace h_b := h_b.below bn
  replace h_c := h_c.below bn
  replace h_p := h_p.below bn
  replace bw := below_two bw bn
  clear bn
  go_wp2_with fail
  refine (keep_c h_p h_q (by decide) (by decide) false HS.out).mono ?_
  rintro e w7 ⟨rfl, bn⟩
  replace h_a := h_a.below bn
  replace h_b := h_b.below bn
  replace h_c := h_c.below bn
  replace h_p := h_p.below bn
  replace h_q := h_q.below bn
  replace bw := below_two bw bn
  clear bn
  clear h_p h_q
  go_wp2_with fail
  refine (bits_c h_a (by decide) 0 (by rw [HA.out, blen_zero]; rfl)).mono ?_
  rintro e w7x ⟨rfl, rfl⟩
  go_wp2_with fail
  refine (bit_c h_a (by decide) 0 (by decide) (by decide) false (by rw [HA.out]; rfl)).mono ?_
  rintro e w7x ⟨rfl, rfl⟩
  go_wp2_with fail
  refine (trim_c h_a (by decide)).mono ?_
  rintro e w8 ⟨A_r, n_r, c_r, rfl, h_r, bn⟩
  replace h_a := h_a.below bn
  replace h_b := h_b.below bn
  replace h_c := h_c.below bn
  replace bw := below_two bw bn
  clear bn
  obtain rfl : n_r = 0 := by have := h_r.isN.len; rw [HA.out, limbs_zero] at this; exact this.symm
  go_wp2_with fail
  refine (bits_c h_a (by decide) 0 (by rw [HA.out, blen_zero]; rfl)).mono ?_
  rintro e w8x ⟨rfl, rfl⟩
  go_wp2_with fail
  refine (bits_c h_b (by decide) _ rfl).mono ?_
  rintro e w8x ⟨rfl, rfl⟩
  go_wp2_with fail
  refine (wakes_any w8).mono ?_
  rintro e w9 ⟨rfl, bn⟩
  replace h_a := h_a.below bn
  replace h_b := h_b.below bn
  replace h_c := h_c.below bn
  replace h_r := h_r.below bn
  replace bw := below_two bw bn
  clear bn
  go_wp2
  go_ret
  exact ⟨rfl, bw⟩

set_option maxHeartbeats 2000000 in
theorem case_LGL_ng (A_a : Option Addr) (n_a c_a : Nat) (xs_a : List Nat) (A_b : Option Addr) (n_b c_b : Nat) (xs_b : List Nat) (A_c : Option Addr) (n_c c_c : Nat) (xs_c : List Nat) (w : World) (i_a : IsN w A_a n_a xs_a) (hc_a : n_a ≤ c_a) (hm_a : c_a ≤ maxLen) (i_b : IsN w A_b n_b xs_b) (hc_b : n_b ≤ c_b) (hm_b : c_b ≤ maxLen) (i_c : IsN w A_c n_c xs_c) (hc_c : n_c ≤ c_c) (hm_c : c_c ≤ maxLen) (l_a : n_a ≤ 300) (l_b : n_b ≤ 300) (l_c : n_c ≤ 300)
    (HX : RowKit.Hid (cmpI (Limb.val xs_a) (Limb.val xs_b) = -1)) (HW : RowKit.Hid (cmpI (Limb.val xs_b) (Limb.val xs_a) = 1)) (HY : RowKit.Hid (cmpI (Limb.val xs_b) (Limb.val xs_c) = 1)) (HZ : RowKit.Hid (cmpI (Limb.val xs_a) (Limb.val xs_c) = -1))
    (HA : RowKit.Hid ((Limb.val xs_a) ≠ 0)) (HB : RowKit.Hid (blen (Limb.val xs_b) ≤ blen (Limb.val xs_a))) (HS : RowKit.Hid (same (limbs (Limb.val xs_a)) (limbs (Limb.val xs_b)) = false)) :
    Calls Try.prog 5 #[.slice A_a n_a c_a, .slice A_b n_b c_b, .slice A_c n_c c_c] w fun e w' => e = .returned (.bool true) ∧ Below w.heap.size w w' := by
  have bw := bel_refl w
  have h_a : NN w A_a n_a c_a xs_a (Limb.val xs_a) 300 := ⟨i_a, rfl, hc_a, by omega⟩
  have h_b : NN w A_b n_b c_b xs_b (Limb.val xs_b) 300 := ⟨i_b, rfl, hc_b, by omega⟩
  have h_c : NN w A_c n_c c_c xs_c (Limb.val xs_c) 300 := ⟨i_c, rfl, hc_c, by omega⟩
  have hm0 : blen (Limb.val xs_a) ≠ 0 := fun h => HA.out (blen_eq_zero.1 h)
  have hm1 : blen (Limb.val xs_a) ≤ 9600 := blen_NN h_a
  have Hlow := Lib.hid (blen_top HA.out)
  have Hhigh := Lib.hid (blen_above (Limb.val xs_a))
  have hmz : (((blen (Limb.val xs_a) : Nat) : Int) == 0) = false := by simp; exact hm0
  have hbb : blen (Limb.val xs_b) ≤ blen (Limb.val xs_a) := HB.out
  go_enter Try.func5, Try.ntmps5
  go_wp2_with fail
  refine (long_c A_a n_a c_a w hc_a hm_a false (long_no (by omega))).mono ?_
  rintro e wx ⟨rfl, rfl⟩
  go_wp2_with fail
  refine (long_c A_b n_b c_b w hc_b hm_b false (long_no (by omega))).mono ?_
  rintro e wx ⟨rfl, rfl⟩
  go_wp2_with fail
  refine (long_c A_c n_c c_c w hc_c hm_c false (long_no (by omega))).mono ?_
  rintro e wx ⟨rfl, rfl⟩
  go_wp2_with fail
  refine (cmp_c h_a h_b (by decide) (by decide) (-1) HX.out).mono ?_
  rintro e w1 ⟨rfl, bn⟩
  replace h_a := h_a.below bn
  replace h_b := h_b.below bn
  replace h_c := h_c.below bn
  replace bw := below_two bw bn
  clear bn
  go_wp2_with fail
  refine (cmp_c h_b h_c (by decide) (by decide) (1) HY.out).mono ?_
  rintro e w2 ⟨rfl, bn⟩
  replace h_a := h_a.below bn
  replace h_b := h_b.below bn
  replace h_c := h_c.below bn
  replace bw := below_two bw bn
  clear bn
  go_wp2_with fail
  refine (cmp_c h_a h_c (by decide) (by decide) (-1) HZ.out).mono ?_
  rintro e w3 ⟨rfl, bn⟩
  replace h_a := h_a.below bn
  replace h_b := h_b.below bn
  replace h_c := h_c.below bn
  replace bw := below_two bw bn
  clear bn
  go_wp2_with fail
  refine (cmp_c h_b h_a (by decide) (by decide) (1) HW.out).mono ?_
  rintro e w4 ⟨rfl, bn⟩
  replace h_a := h_a.below bn
  replace h_b := h_b.below bn
  replace h_c := h_c.below bn
  replace bw := below_two bw bn
  clear bn
  go_wp2_with fail
  refine (trim_c h_a (by decide)).mono ?_
  rintro e w5 ⟨A_p, n_p, c_p, rfl, h_p, bn⟩
  replace h_a := h_a.below bn
  replace h_b := h_b.below bn
  replace h_c := h_c.below bn
  replace bw := below_two bw bn
  clear bn
  go_wp2_with fail
  refine (trim_c h_b (by decide)).mono ?_
  rintro e w6 ⟨A_q, n_q, c_q, rfl, h_q, bn⟩
  replace h_a := h_a.below bn
  replace h_b := h_b.below bn
  replace h_c := h_c.below bn
  replace h_p := h_p.below bn
  replace bw := below_two bw bn
  clear bn
  go_wp2_with fail
  refine (keep_c h_p h_q (by decide) (by decide) false HS.out).mono ?_
  rintro e w7 ⟨rfl, bn⟩
  replace h_a := h_a.below bn
  replace h_b := h_b.below bn
  replace h_c := h_c.below bn
  replace h_p := h_p.below bn
  replace h_q := h_q.below bn
  replace bw := below_two bw bn
  clear bn
  clear h_p h_q
  go_wp2_with fail
  refine (bits_c h_a (by decide) _ rfl).mono ?_
  rintro e w7x ⟨rfl, rfl⟩
  go_wp2_with fail
  refine (bit_c h_a (by decide) _ (by omega) (by omega) true (by rw [show (((blen (Limb.val xs_a) : Nat) : Int) - 1).toNat = blen (Limb.val xs_a) - 1 by omega]; exact Hlow.out)).mono ?_
  rintro e w7x ⟨rfl, rfl⟩
  go_wp2_with fail
  refine (bit_c h_a (by decide) _ (by omega) (by omega) false (by rw [Int.toNat_natCast]; exact Hhigh.out)).mono ?_
  rintro e w7x ⟨rfl, rfl⟩
  go_wp2_with fail
  refine (trim_c h_a (by decide)).mono ?_
  rintro e w8 ⟨A_r, n_r, c_r, rfl, h_r, bn⟩
  replace h_a := h_a.below bn
  replace h_b := h_b.below bn
  replace h_c := h_c.below bn
  replace bw := below_two bw bn
  clear bn
  have hrz : ((n_r : Int) == 0) = false := by have := h_r.isN.len; simp; intro h; rw [h] at this; exact HA.out (limbs_eq_nil.1 (List.eq_nil_of_length_eq_zero this))
  go_wp2_with fail
  refine (bits_c h_a (by decide) _ rfl).mono ?_
  rintro e w8x ⟨rfl, rfl⟩
  go_wp2_with fail
  refine (bits_c h_b (by decide) _ rfl).mono ?_
  rintro e w8x ⟨rfl, rfl⟩
  go_wp2_with fail
  refine (wakes_any w8).mono ?_
  rintro e w9 ⟨rfl, bn⟩
  replace h_a := h_a.below bn
  replace h_b := h_b.below bn
  replace h_c := h_c.below bn
  replace h_r := h_r.below bn
  replace bw := below_two bw bn
  clear bn
  go_wp2
  go_ret
  exact ⟨rfl, bw⟩

set_option maxHeartbeats 2000000 in
theorem case_LGL_nl (A_a : Option Addr) (n_a c_a : Nat) (xs_a : List Nat) (A_b : Option Addr) (n_b c_b : Nat) (xs_b : List Nat) (A_c : Option Addr) (n_c c_c : Nat) (xs_c : List Nat) (w : World) (i_a : IsN w A_a n_a xs_a) (hc_a : n_a ≤ c_a) (hm_a : c_a ≤ maxLen) (i_b : IsN w A_b n_b xs_b) (hc_b : n_b ≤ c_b) (hm_b : c_b ≤ maxLen) (i_c : IsN w A_c n_c xs_c) (hc_c : n_c ≤ c_c) (hm_c : c_c ≤ maxLen) (l_a : n_a ≤ 300) (l_b : n_b ≤ 300) (l_c : n_c ≤ 300)
    (HX : RowKit.Hid (cmpI (Limb.val xs_a) (Limb.val xs_b) = -1)) (HW : RowKit.Hid (cmpI (Limb.val xs_b) (Limb.val xs_a) = 1)) (HY : RowKit.Hid (cmpI (Limb.val xs_b) (Limb.val xs_c) = 1)) (HZ : RowKit.Hid (cmpI (Limb.val xs_a) (Limb.val xs_c) = -1))
    (HA : RowKit.Hid ((Limb.val xs_a) ≠ 0)) (HB : RowKit.Hid (blen (Limb.val xs_b) > blen (Limb.val xs_a))) (HS : RowKit.Hid (same (limbs (Limb.val xs_a)) (limbs (Limb.val xs_b)) = false)) :
    Calls Try.prog 5 #[.slice A_a n_a c_a, .slice A_b n_b c_b, .slice A_c n_c c_c] w fun e w' => e = .returned (.bool true) ∧ Below w.heap.size w w' := by
  have bw := bel_refl w
  have h_a : NN w A_a n_a c_a xs_a (Limb.val xs_a) 300 := ⟨i_a, rfl, hc_a, by omega⟩
  have h_b : NN w A_b n_b c_b xs_b (Limb.val xs_b) 300 := ⟨i_b, rfl, hc_b, by omega⟩
  have h_c : NN w A_c n_c c_c xs_c (Limb.val xs_c) 300 := ⟨i_c, rfl, hc_c, by omega⟩
  have hm0 : blen (Limb.val xs_a) ≠ 0 := fun h => HA.out (blen_eq_zero.1 h)
  have hm1 : blen (Limb.val xs_a) ≤ 9600 := blen_NN h_a
  have Hlow := Lib.hid (blen_top HA.out)
  have Hhigh := Lib.hid (blen_above (Limb.val xs_a))
  have hmz : (((blen (Limb.val xs_a) : Nat) : Int) == 0) = false := by simp; exact hm0
  have hbb : blen (Limb.val xs_a) < blen (Limb.val xs_b) := HB.out
  go_enter Try.func5, Try.ntmps5
  go_wp2_with fail
  refine (long_c A_a n_a c_a w hc_a hm_a false (long_no (by omega))).mono ?_
  rintro e wx ⟨rfl, rfl⟩
  go_wp2_with fail
  refine (long_c A_b n_b c_b w hc_b hm_b false (long_no (by omega))).mono ?_
  rintro e wx ⟨rfl, rfl⟩
  go_wp2_with fail
  refine (long_c A_c n_c c_c w hc_c hm_c false (long_no (by omega))).mono ?_
  rintro e wx ⟨rfl, rfl⟩
  go_wp2_with fail
  refine (cmp_c h_a h_b (by decide) (by decide) (-1) HX.out).mono ?_
  rintro e w1 ⟨rfl, bn⟩
  replace h_a := h_a.below bn
  replace h_b := h_b.below bn
  replace h_c := h_c.below bn
  replace bw := below_two bw bn
  clear bn
  go_wp2_with fail
  refine (cmp_c h_b h_c (by decide) (by decide) (1) HY.out).mono ?_
  rintro e w2 ⟨rfl, bn⟩
  replace h_a := h_a.below bn
  replace h_b := h_b.below bn
  replace h_c := h_c.below bn
  replace bw := below_two bw bn
  clear bn
  go_wp2_with fail
  refine (cmp_c h_a h_c (by decide) (by decide) (-1) HZ.out).mono ?_
  rintro e w3 ⟨rfl, bn⟩
  replace h_a := h_a.below bn
  replace h_b := h_b.below bn
  replace h_c := h_c.below bn
  replace bw := below_two bw bn
  clear bn
  go_wp2_with fail
  refine (cmp_c h_b h_a (by decide) (by decide) (1) HW.out).mono ?_
  rintro e w4 ⟨rfl, bn⟩
  replace h_a := h_a.below bn
  replace h_b := h_b.below bn
  replace h_c := h_c.below bn
  replace bw := below_two bw bn
  clear bn
  go_wp2_with fail
  refine (trim_c h_a (by decide)).mono ?_
  rintro e w5 ⟨A_p, n_p, c_p, rfl, h_p, bn⟩
  replace h_a := h_a.below bn
  replace h_b := h_b.below bn
  replace h_c := h_c.below bn
  replace bw := below_two bw bn
  clear bn
  go_wp2_with fail
  refine (trim_c h_b (by decide)).mono ?_
  rintro e w6 ⟨A_q, n_q, c_q, rfl, h_q, bn⟩
  replace h_a := h_a.below bn
  replace h_b := h_b.below bn
  replace h_c := h_c.below bn
  replace h_p := h_p.below bn
  replace bw := below_two bw bn
  clear bn
  go_wp2_with fail
  refine (keep_c h_p h_q (by decide) (by decide) false HS.out).mono ?_
  rintro e w7 ⟨rfl, bn⟩
  replace h_a := h_a.below bn
  replace h_b := h_b.below bn
  replace h_c := h_c.below bn
  replace h_p := h_p.below bn
  replace h_q := h_q.below bn
  replace bw := below_two bw bn
  clear bn
  clear h_p h_q
  go_wp2_with fail
  refine (bits_c h_a (by decide) _ rfl).mono ?_
  rintro e w7x ⟨rfl, rfl⟩
  go_wp2_with fail
  refine (bit_c h_a (by decide) _ (by omega) (by omega) true (by rw [show (((blen (Limb.val xs_a) : Nat) : Int) - 1).toNat = blen (Limb.val xs_a) - 1 by omega]; exact Hlow.out)).mono ?_
  rintro e w7x ⟨rfl, rfl⟩
  go_wp2_with fail
  refine (bit_c h_a (by decide) _ (by omega) (by omega) false (by rw [Int.toNat_natCast]; exact Hhigh.out)).mono ?_
  rintro e w7x ⟨rfl, rfl⟩
  go_wp2_with fail
  refine (trim_c h_a (by decide)).mono ?_
  rintro e w8 ⟨A_r, n_r, c_r, rfl, h_r, bn⟩
  replace h_a := h_a.below bn
  replace h_b := h_b.below bn
  replace h_c := h_c.below bn
  replace bw := below_two bw bn
  clear bn
  have hrz : ((n_r : Int) == 0) = false := by have := h_r.isN.len; simp; intro h; rw [h] at this; exact HA.out (limbs_eq_nil.1 (List.eq_nil_of_length_eq_zero this))
  go_wp2_with fail
  refine (bits_c h_a (by decide) _ rfl).mono ?_
  rintro e w8x ⟨rfl, rfl⟩
  go_wp2_with fail
  refine (bits_c h_b (by decide) _ rfl).mono ?_
  rintro e w8x ⟨rfl, rfl⟩
  go_wp2_with fail
  refine (wakes_any w8).mono ?_
  rintro e w9 ⟨rfl, bn⟩
  replace h_a := h_a.below bn
  replace h_b := h_b.below bn
  replace h_c := h_c.below bn
  replace h_r := h_r.below bn
  replace bw := below_two bw bn
  clear bn
  go_wp2
  go_ret
  exact ⟨rfl, bw⟩

set_option maxHeartbeats 2000000 in
theorem case_LGE_zl (A_a : Option Addr) (n_a c_a : Nat) (xs_a : List Nat) (A_b : Option Addr) (n_b c_b : Nat) (xs_b : List Nat) (A_c : Option Addr) (n_c c_c : Nat) (xs_c : List Nat) (w : World) (i_a : IsN w A_a n_a xs_a) (hc_a : n_a ≤ c_a) (hm_a : c_a ≤ maxLen) (i_b : IsN w A_b n_b xs_b) (hc_b : n_b ≤ c_b) (hm_b : c_b ≤ maxLen) (i_c : IsN w A_c n_c xs_c) (hc_c : n_c ≤ c_c) (hm_c : c_c ≤ maxLen) (l_a : n_a ≤ 300) (l_b : n_b ≤ 300) (l_c : n_c ≤ 300)
    (HX : RowKit.Hid (cmpI (Limb.val xs_a) (Limb.val xs_b) = -1)) (HW : RowKit.Hid (cmpI (Limb.val xs_b) (Limb.val xs_a) = 1)) (HY : RowKit.Hid (cmpI (Limb.val xs_b) (Limb.val xs_c) = 1)) (HZ : RowKit.Hid (cmpI (Limb.val xs_a) (Limb.val xs_c) = 0))
    (HA : RowKit.Hid ((Limb.val xs_a) = 0)) (HB : RowKit.Hid (blen (Limb.val xs_b) > blen (Limb.val xs_a))) (HS : RowKit.Hid (same (limbs (Limb.val xs_a)) (limbs (Limb.val xs_b)) = false)) :
    Calls Try.prog 5 #[.slice A_a n_a c_a, .slice A_b n_b c_b, .slice A_c n_c c_c] w fun e w' => e = .returned (.bool true) ∧ Below w.heap.size w w' := by
  have bw := bel_refl w
  have h_a : NN w A_a n_a c_a xs_a (Limb.val xs_a) 300 := ⟨i_a, rfl, hc_a, by omega⟩
  have h_b : NN w A_b n_b c_b xs_b (Limb.val xs_b) 300 := ⟨i_b, rfl, hc_b, by omega⟩
  have h_c : NN w A_c n_c c_c xs_c (Limb.val xs_c) 300 := ⟨i_c, rfl, hc_c, by omega⟩
  have hbb : 0 < blen (Limb.val xs_b) := by have h := HB.out; rw [HA.out, blen_zero] at h; exact h
  go_enter Try.func5, Try.ntmps5
  go_wp2_with fail
  refine (long_c A_a n_a c_a w hc_a hm_a false (long_no (by omega))).mono ?_
  rintro e wx ⟨rfl, rfl⟩
  go_wp2_with fail
  refine (long_c A_b n_b c_b w hc_b hm_b false (long_no (by omega))).mono ?_
  rintro e wx ⟨rfl, rfl⟩
  go_wp2_with fail
  refine (long_c A_c n_c c_c w hc_c hm_c false (long_no (by omega))).mono ?_
  rintro e wx ⟨rfl, rfl⟩
  go_wp2_with fail
  refine (cmp_c h_a h_b (by decide) (by decide) (-1) HX.out).mono ?_
  rintro e w1 ⟨rfl, bn⟩
  replace h_a := h_a.below bn
  replace h_b := h_b.below bn
  replace h_c := h_c.below bn
  replace bw := below_two bw bn
  clear bn
  go_wp2_with fail
  refine (cmp_c h_b h_c (by decide) (by decide) (1) HY.out).mono ?_
  rintro e w2 ⟨rfl, bn⟩
  replace h_a := h_a.below bn
  replace h_b := h_b.below bn
  replace h_c := h_c.below bn
  replace bw := below_two bw bn
  clear bn
  go_wp2_with fail
  refine (cmp_c h_a h_c (by decide) (by decide) (0) HZ.out).mono ?_
  rintro e w3 ⟨rfl, bn⟩
  replace h_a := h_a.below bn
  replace h_b := h_b.below bn
  replace h_c := h_c.below bn
  replace bw := below_two bw bn
  clear bn
  go_wp2_with fail
  refine (cmp_c h_b h_a (by decide) (by decide) (1) HW.out).mono ?_
  rintro e w4 ⟨rfl, bn⟩
  replace h_a := h_a.below bn
  replace h_b := h_b.below bn
  replace h_c := h_c.below bn
  replace bw := below_two bw bn
  clear bn
  go_wp2_with fail
  refine (trim_c h_a (by decide)).mono ?_
  rintro e w5 ⟨A_p, n_p, c_p, rfl, h_p, bn⟩
  replace h_a := h_a.below bn
  replace h_b := h_b.below bn
  replace h_c := h_c.below bn
  replace bw := below_two bw bn
  clear bn
  go_wp2_with fail
  refine (trim_c h_b (by decide)).mono ?_
  rintro e w6 ⟨A_q, n_q, c_q, rfl, h_q, bn⟩
  replace h_a := h_a.below bn
  replace h_b := h_b.below bn
  replace h_c := h_c.below bn
  replace h_p := h_p.below bn
  replace bw := below_two bw bn
  clear bn
  go_wp2_with fail
  refine (keep_c h_p h_q (by decide) (by decide) false HS.out).mono ?_
  rintro e w7 ⟨rfl, bn⟩
  replace h_a := h_a.below bn
  replace h_b := h_b.below bn
  replace h_c := h_c.below bn
  replace h_p := h_p.below bn
  replace h_q := h_q.below bn
  replace bw := below_two bw bn
  clear bn
  clear h_p h_q
  go_wp2_with fail
  refine (bits_c h_a (by decide) 0 (by rw [HA.out, blen_zero]; rfl)).mono ?_
  rintro e w7x ⟨rfl, rfl⟩
  go_wp2_with fail
  refine (bit_c h_a (by decide) 0 (by decide) (by decide) false (by rw [HA.out]; rfl)).mono ?_
  rintro e w7x ⟨rfl, rfl⟩
  go_wp2_with fail
  refine (trim_c h_a (by decide)).mono ?_
  rintro e w8 ⟨A_r, n_r, c_r, rfl, h_r, bn⟩
  replace h_a := h_a.below bn
  replace h_b := h_b.below bn
  replace h_c := h_c.below bn
  replace bw := below_two bw bn
  clear bn
  obtain rfl : n_r = 0 := by have := h_r.isN.len; rw [HA.out, limbs_zero] at this; exact this.symm
  go_wp2_with fail
  refine (bits_c h_a (by decide) 0 (by rw [HA.out, blen_zero]; rfl)).mono ?_
  rintro e w8x ⟨rfl, rfl⟩
  go_wp2_with fail
  refine (bits_c h_b (by decide) _ rfl).mono ?_
  rintro e w8x ⟨rfl, rfl⟩
  go_wp2_with fail
  refine (wakes_any w8).mono ?_
  rintro e w9 ⟨rfl, bn⟩
  replace h_a := h_a.below bn
  replace h_b := h_b.below bn
  replace h_c := h_c.below bn
  replace h_r := h_r.below bn
  replace bw := below_two bw bn
  clear bn
  go_wp2
  go_ret
  exact ⟨rfl, bw⟩

set_option maxHeartbeats 2000000 in
theorem case_LGE_ng (A_a : Option Addr) (n_a c_a : Nat) (xs_a : List Nat) (A_b : Option Addr) (n_b c_b : Nat) (xs_b : List Nat) (A_c : Option Addr) (n_c c_c : Nat) (xs_c : List Nat) (w : World) (i_a : IsN w A_a n_a xs_a) (hc_a : n_a ≤ c_a) (hm_a : c_a ≤ maxLen) (i_b : IsN w A_b n_b xs_b) (hc_b : n_b ≤ c_b) (hm_b : c_b ≤ maxLen) (i_c : IsN w A_c n_c xs_c) (hc_c : n_c ≤ c_c) (hm_c : c_c ≤ maxLen) (l_a : n_a ≤ 300) (l_b : n_b ≤ 300) (l_c : n_c ≤ 300)
    (HX : RowKit.Hid (cmpI (Limb.val xs_a) (Limb.val xs_b) = -1)) (HW : RowKit.Hid (cmpI (Limb.val xs_b) (Limb.val xs_a) = 1)) (HY : RowKit.Hid (cmpI (Limb.val xs_b) (Limb.val xs_c) = 1)) (HZ : RowKit.Hid (cmpI (Limb.val xs_a) (Limb.val xs_c) = 0))
    (HA : RowKit.Hid ((Limb.val xs_a) ≠ 0)) (HB : RowKit.Hid (blen (Limb.val xs_b) ≤ blen (Limb.val xs_a))) (HS : RowKit.Hid (same (limbs (Limb.val xs_a)) (limbs (Limb.val xs_b)) = false)) :
    Calls Try.prog 5 #[.slice A_a n_a c_a, .slice A_b n_b c_b, .slice A_c n_c c_c] w fun e w' => e = .returned (.bool true) ∧ Below w.heap.size w w' := by
  have bw := bel_refl w
  have h_a : NN w A_a n_a c_a xs_a (Limb.val xs_a) 300 := ⟨i_a, rfl, hc_a, by omega⟩
  have h_b : NN w A_b n_b c_b xs_b (Limb.val xs_b) 300 := ⟨i_b, rfl, hc_b, by omega⟩
  have h_c : NN w A_c n_c c_c xs_c (Limb.val xs_c) 300 := ⟨i_c, rfl, hc_c, by omega⟩
  have hm0 : blen (Limb.val xs_a) ≠ 0 := fun h => HA.out (blen_eq_zero.1 h)
  have hm1 : blen (Limb.val xs_a) ≤ 9600 := blen_NN h_a
  have Hlow := Lib.hid (blen_top HA.out)
  have Hhigh := Lib.hid (blen_above (Limb.val xs_a))
  have hmz : (((blen (Limb.val xs_a) : Nat) : Int) == 0) = false := by simp; exact hm0
  have hbb : blen (Limb.val xs_b) ≤ blen (Limb.val xs_a) := HB.out
  go_enter Try.func5, Try.ntmps5
  go_wp2_with fail
  refine (long_c A_a n_a c_a w hc_a hm_a false (long_no (by omega))).mono ?_
  rintro e wx ⟨rfl, rfl⟩
  go_wp2_with fail
  refine (long_c A_b n_b c_b w hc_b hm_b false (long_no (by omega))).mono ?_
  rintro e wx ⟨rfl, rfl⟩
  go_wp2_with fail
  refine (long_c A_c n_c c_c w hc_c hm_c false (long_no (by omega))).mono ?_
  rintro e wx ⟨rfl, rfl⟩
  go_wp2_with fail
  refine (cmp_c h_a h_b (by decide) (by decide) (-1) HX.out).mono ?_
  rintro e w1 ⟨rfl, bn⟩
  replace h_a := h_a.below bn
  replace h_b := h_b.below bn
  replace h_c := h_c.below bn
  replace bw := below_two bw bn
  clear bn
  go_wp2_with fail
  refine (cmp_c h_b h_c (by decide) (by decide) (1) HY.out).mono ?_
  rintro e w2 ⟨rfl, bn⟩
  replace h_a := h_a.below bn
  replace h_b := h_b.below bn
  replace h_c := h_c.below bn
  replace bw := below_two bw bn
  clear bn
  go_wp2_with fail
  refine (cmp_c h_a h_c (by decide) (by decide) (0) HZ.out).mono ?_
  rintro e w3 ⟨rfl, bn⟩
  replace h_a := h_a.below bn
  replace h_b := h_b.below bn
  replace h_c := h_c.below bn
  replace bw := below_two bw bn
  clear bn
  go_wp2_with fail
  refine (cmp_c h_b h_a (by decide) (by decide) (1) HW.out).mono ?_
  rintro e w4 ⟨rfl, bn⟩
  replace h_a := h_a.below bn
  replace h_b := h_b.below bn
  replace h_c := h_c.below bn
  replace bw := below_two bw bn
  clear bn
  go_wp2_with fail
  refine (trim_c h_a (by decide)).mono ?_
  rintro e w5 ⟨A_p, n_p, c_p, rfl, h_p, bn⟩
  replace h_a := h_a.below bn
  replace h_b := h_b.below bn
  replace h_c := h_c.below bn
  replace bw := below_two bw bn
  clear bn
  go_wp2_with fail
  refine (trim_c h_b (by decide)).mono ?_
  rintro e w6 ⟨A_q, n_q, c_q, rfl, h_q, bn⟩
  replace h_a := h_a.below bn
  replace h_b := h_b.below bn
  replace h_c := h_c.below bn
  replace h_p := h_p.below bn
  replace bw := below_two bw bn
  clear bn
  go_wp2_with fail
  refine (keep_c h_p h_q (by decide) (by decide) false HS.out).mono ?_
  rintro e w7 ⟨rfl, bn⟩
  replace h_a := h_a.below bn
  replace h_b := h_b.below bn
  replace h_c := h_c.below bn
  replace h_p := h_p.below bn
  replace h_q := h_q.below bn
  replace bw := below_two bw bn
  clear bn
  clear h_p h_q
  go_wp2_with fail
  refine (bits_c h_a (by decide) _ rfl).mono ?_
  rintro e w7x ⟨rfl, rfl⟩
  go_wp2_with fail
  refine (bit_c h_a (by decide) _ (by omega) (by omega) true (by rw [show (((blen (Limb.val xs_a) : Nat) : Int) - 1).toNat = blen (Limb.val xs_a) - 1 by omega]; exact Hlow.out)).mono ?_
  rintro e w7x ⟨rfl, rfl⟩
  go_wp2_with fail
  refine (bit_c h_a (by decide) _ (by omega) (by omega) false (by rw [Int.toNat_natCast]; exact Hhigh.out)).mono ?_
  rintro e w7x ⟨rfl, rfl⟩
  go_wp2_with fail
  refine (trim_c h_a (by decide)).mono ?_
  rintro e w8 ⟨A_r, n_r, c_r, rfl, h_r, bn⟩
  replace h_a := h_a.below bn
  replace h_b := h_b.below bn
  replace h_c := h_c.below bn
  replace bw := below_two bw bn
  clear bn
  have hrz : ((n_r : Int) == 0) = false := by have := h_r.isN.len; simp; intro h; rw [h] at this; exact HA.out (limbs_eq_nil.1 (List.eq_nil_of_length_eq_zero this))
  go_wp2_with fail
  refine (bits_c h_a (by decide) _ rfl).mono ?_
  rintro e w8x ⟨rfl, rfl⟩
  go_wp2_with fail
  refine (bits_c h_b (by decide) _ rfl).mono ?_
  rintro e w8x ⟨rfl, rfl⟩
  go_wp2_with fail
  refine (wakes_any w8).mono ?_
  rintro e w9 ⟨rfl, bn⟩
  replace h_a := h_a.below bn
  replace h_b := h_b.below bn
  replace h_c := h_c.below bn
  replace h_r := h_r.below bn
  replace bw := below_two bw bn
  clear bn
  go_wp2
  go_ret
  exact ⟨rfl, bw⟩

set_option maxHeartbeats 2000000 in
theorem case_LGE_nl (A_a : Option Addr) (n_a c_a : Nat) (xs_a : List Nat) (A_b : Option Addr) (n_b c_b : Nat) (xs_b : List Nat) (A_c : Option Addr) (n_c c_c : Nat) (xs_c : List Nat) (w : World) (i_a : IsN w A_a n_a xs_a) (hc_a : n_a ≤ c_a) (hm_a : c_a ≤ maxLen) (i_b : IsN w A_b n_b xs_b) (hc_b : n_b ≤ c_b) (hm_b : c_b ≤ maxLen) (i_c : IsN w A_c n_c xs_c) (hc_c : n_c ≤ c_c) (hm_c : c_c ≤ maxLen) (l_a : n_a ≤ 300) (l_b : n_b ≤ 300) (l_c : n_c ≤ 300)
    (HX : RowKit.Hid (cmpI (Limb.val xs_a) (Limb.val xs_b) = -1)) (HW : RowKit.Hid (cmpI (Limb.val xs_b) (Limb.val xs_a) = 1)) (HY : RowKit.Hid (cmpI (Limb.val xs_b) (Limb.val xs_c) = 1)) (HZ : RowKit.Hid (cmpI (Limb.val xs_a) (Limb.val xs_c) = 0))
    (HA : RowKit.Hid ((Limb.val xs_a) ≠ 0)) (HB : RowKit.Hid (blen (Limb.val xs_b) > blen (Limb.val xs_a))) (HS : RowKit.Hid (same (limbs (Limb.val xs_a)) (limbs (Limb.val xs_b)) = false)) :
    Calls Try.prog 5 #[.slice A_a n_a c_a, .slice A_b n_b c_b, .slice A_c n_c c_c] w fun e w' => e = .returned (.bool true) ∧ Below w.heap.size w w' := by
  have bw := bel_refl w
  have h_a : NN w A_a n_a c_a xs_a (Limb.val xs_a) 300 := ⟨i_a, rfl, hc_a, by omega⟩
  have h_b : NN w A_b n_b c_b xs_b (Limb.val xs_b) 300 := ⟨i_b, rfl, hc_b, by omega⟩
  have h_c : NN w A_c n_c c_c xs_c (Limb.val xs_c) 300 := ⟨i_c, rfl, hc_c, by omega⟩
  have hm0 : blen (Limb.val xs_a) ≠ 0 := fun h => HA.out (blen_eq_zero.1 h)
  have hm1 : blen (Limb.val xs_a) ≤ 9600 := blen_NN h_a
  have Hlow := Lib.hid (blen_top HA.out)
  have Hhigh := Lib.hid (blen_above (Limb.val xs_a))
  have hmz : (((blen (Limb.val xs_a) : Nat) : Int) == 0) = false := by simp; exact hm0
  have hbb : blen (Limb.val xs_a) < blen (Limb.val xs_b) := HB.out
  go_enter Try.func5, Try.ntmps5
  go_wp2_with fail
  refine (long_c A_a n_a c_a w hc_a hm_a false (long_no (by omega))).mono ?_
  rintro e wx ⟨rfl, rfl⟩
  go_wp2_with fail
  refine (long_c A_b n_b c_b w hc_b hm_b false (long_no (by omega))).mono ?_
  rintro e wx ⟨rfl, rfl⟩
  go_wp2_with fail
  refine (long_c A_c n_c c_c w hc_c hm_c false (long_no (by omega))).mono ?_
  rintro e wx ⟨rfl, rfl⟩
  go_wp2_with fail
  refine (cmp_c h_a h_b (by decide) (by decide) (-1) HX.out).mono ?_
  rintro e w1 ⟨rfl, bn⟩
  replace h_a := h_a.below bn
  replace h_b := h_b.below bn
  replace h_c := h_c.below bn
  replace bw := below_two bw bn
  clear bn
  go_wp2_with fail
  refine (cmp_c h_b h_c (by decide) (by decide) (1) HY.out).mono ?_
  rintro e w2 ⟨rfl, bn⟩
  replace h_a := h_a.below bn
  replace h_b := h_b.below bn
  replace h_c := h_c.below bn
  replace bw := below_two bw bn
  clear bn
  go_wp2_with fail
  refine (cmp_c h_a h_c (by decide) (by decide) (0) HZ.out).mono ?_
  rintro e w3 ⟨rfl, bn⟩
  replace h_a := h_a.below bn
  replace h_b := h_b.below bn
  replace h_c := h_c.below bn
  replace bw := below_two bw bn
  clear bn
  go_wp2_with fail
  refine (cmp_c h_b h_a (by decide) (by decide) (1) HW.out).mono ?_
  rintro e w4 ⟨rfl, bn⟩
  replace h_a := h_a.below bn
  replace h_b := h_b.below bn
  replace h_c := h_c.below bn
  replace bw := below_two bw bn
  clear bn
  go_wp2_with fail
  refine (trim_c h_a (by decide)).mono ?_
  rintro e w5 ⟨A_p, n_p, c_p, rfl, h_p, bn⟩
  replace h_a := h_a.below bn
  replace h_b := h_b.below bn
  replace h_c := h_c.below bn
  replace bw := below_two bw bn
  clear bn
  go_wp2_with fail
  refine (trim_c h_b (by decide)).mono ?_
  rintro e w6 ⟨A_q, n_q, c_q, rfl, h_q, bn⟩
  replace h_a := h_a.below bn
  replace h_b := h_b.below bn
  replace h_c := h_c.below bn
  replace h_p := h_p.below bn
  replace bw := below_two bw bn
  clear bn
  go_wp2_with fail
  refine (keep_c h_p h_q (by decide) (by decide) false HS.out).mono ?_
  rintro e w7 ⟨rfl, bn⟩
  replace h_a := h_a.below bn
  replace h_b := h_b.below bn
  replace h_c := h_c.below bn
  replace h_p := h_p.below bn
  replace h_q := h_q.below bn
  replace bw := below_two bw bn
  clear bn
  clear h_p h_q
  go_wp2_with fail
  refine (bits_c h_a (by decide) _ rfl).mono ?_
  rintro e w7x ⟨rfl, rfl⟩
  go_wp2_with fail
  refine (bit_c h_a (by decide) _ (by omega) (by omega) true (by rw [show (((blen (Limb.val xs_a) : Nat) : Int) - 1).toNat = blen (Limb.val xs_a) - 1 by omega]; exact Hlow.out)).mono ?_
  rintro e w7x ⟨rfl, rfl⟩
  go_wp2_with fail
  refine (bit_c h_a (by decide) _ (by omega) (by omega) false (by rw [Int.toNat_natCast]; exact Hhigh.out)).mono ?_
  rintro e w7x ⟨rfl, rfl⟩
  go_wp2_with fail
  refine (trim_c h_a (by decide)).mono ?_
  rintro e w8 ⟨A_r, n_r, c_r, rfl, h_r, bn⟩
  replace h_a := h_a.below bn
  replace h_b := h_b.below bn
  replace h_c := h_c.below bn
  replace bw := below_two bw bn
  clear bn
  have hrz : ((n_r : Int) == 0) = false := by have := h_r.isN.len; simp; intro h; rw [h] at this; exact HA.out (limbs_eq_nil.1 (List.eq_nil_of_length_eq_zero this))
  go_wp2_with fail
  refine (bits_c h_a (by decide) _ rfl).mono ?_
  rintro e w8x ⟨rfl, rfl⟩
  go_wp2_with fail
  refine (bits_c h_b (by decide) _ rfl).mono ?_
  rintro e w8x ⟨rfl, rfl⟩
  go_wp2_with fail
  refine (wakes_any w8).mono ?_
  rintro e w9 ⟨rfl, bn⟩
  replace h_a := h_a.below bn
  replace h_b := h_b.below bn
  replace h_c := h_c.below bn
  replace h_r := h_r.below bn
  replace bw := below_two bw bn
  clear bn
  go_wp2
  go_ret
  exact ⟨rfl, bw⟩

set_option maxHeartbeats 2000000 in
theorem case_LGG_ng (A_a : Option Addr) (n_a c_a : Nat) (xs_a : List Nat) (A_b : Option Addr) (n_b c_b : Nat) (xs_b : List Nat) (A_c : Option Addr) (n_c c_c : Nat) (xs_c : List Nat) (w : World) (i_a : IsN w A_a n_a xs_a) (hc_a : n_a ≤ c_a) (hm_a : c_a ≤ maxLen) (i_b : IsN w A_b n_b xs_b) (hc_b : n_b ≤ c_b) (hm_b : c_b ≤ maxLen) (i_c : IsN w A_c n_c xs_c) (hc_c : n_c ≤ c_c) (hm_c : c_c ≤ maxLen) (l_a : n_a ≤ 300) (l_b : n_b ≤ 300) (l_c : n_c ≤ 300)
    (HX : RowKit.Hid (cmpI (Limb.val xs_a) (Limb.val xs_b) = -1)) (HW : RowKit.Hid (cmpI (Limb.val xs_b) (Limb.val xs_a) = 1)) (HY : RowKit.Hid (cmpI (Limb.val xs_b) (Limb.val xs_c) = 1)) (HZ : RowKit.Hid (cmpI (Limb.val xs_a) (Limb.val xs_c) = 1))
    (HA : RowKit.Hid ((Limb.val xs_a) ≠ 0)) (HB : RowKit.Hid (blen (Limb.val xs_b) ≤ blen (Limb.val xs_a))) (HS : RowKit.Hid (same (limbs (Limb.val xs_a)) (limbs (Limb.val xs_b)) = false)) :
    Calls Try.prog 5 #[.slice A_a n_a c_a, .slice A_b n_b c_b, .slice A_c n_c c_c] w fun e w' => e = .returned (.bool true) ∧ Below w.heap.size w w' := by
  have bw := bel_refl w
  have h_a : NN w A_a n_a c_a xs_a (Limb.val xs_a) 300 := ⟨i_a, rfl, hc_a, by omega⟩
  have h_b : NN w A_b n_b c_b xs_b (Limb.val xs_b) 300 := ⟨i_b, rfl, hc_b, by omega⟩
  have h_c : NN w A_c n_c c_c xs_c (Limb.val xs_c) 300 := ⟨i_c, rfl, hc_c, by omega⟩
  have hm0 : blen (Limb.val xs_a) ≠ 0 := fun h => HA.out (blen_eq_zero.1 h)
  have hm1 : blen (Limb.val xs_a) ≤ 9600 := blen_NN h_a
  have Hlow := Lib.hid (blen_top HA.out)
  have Hhigh := Lib.hid (blen_above (Limb.val xs_a))
  have hmz : (((blen (Limb.val xs_a) : Nat) : Int) == 0) = false := by simp; exact hm0
  have hbb : blen (Limb.val xs_b) ≤ blen (Limb.val xs_a) := HB.out
  go_enter Try.func5, Try.ntmps5
  go_wp2_with fail
  refine (long_c A_a n_a c_a w hc_a hm_a false (long_no (by omega))).mono ?_
  rintro e wx ⟨rfl, rfl⟩
  go_wp2_with fail
  refine (long_c A_b n_b c_b w hc_b hm_b false (long_no (by omega))).mono ?_
  rintro e wx ⟨rfl, rfl⟩
  go_wp2_with fail
  refine (long_c A_c n_c c_c w hc_c hm_c false (long_no (by omega))).mono ?_
  rintro e wx ⟨rfl, rfl⟩
  go_wp2_with fail
  refine (cmp_c h_a h_b (by decide) (by decide) (-1) HX.out).mono ?_
  rintro e w1 ⟨rfl, bn⟩
  replace h_a := h_a.below bn
  replace h_b := h_b.below bn
  replace h_c := h_c.below bn
  replace bw := below_two bw bn
  clear bn
  go_wp2_with fail
  refine (cmp_c h_b h_c (by decide) (by decide) (1) HY.out).mono ?_
  rintro e w2 ⟨rfl, bn⟩
  replace h_a := h_a.below bn
  replace h_b := h_b.below bn
  replace h_c := h_c.below bn
  replace bw := below_two bw bn
  clear bn
  go_wp2_with fail
  refine (cmp_c h_a h_c (by decide) (by decide) (1) HZ.out).mono ?_
  rintro e w3 ⟨rfl, bn⟩
  replace h_a := h_a.below bn
  replace h_b := h_b.below bn
  replace h_c := h_c.below bn
  replace bw := below_two bw bn
  clear bn
  go_wp2_with fail
  refine (cmp_c h_b h_a (by decide) (by decide) (1) HW.out).mono ?_
  rintro e w4 ⟨rfl, bn⟩
  replace h_a := h_a.below bn
  replace h_b := h_b.below bn
  replace h_c := h_c.below bn
  replace bw := below_two bw bn
  clear bn
  go_wp2_with fail
  refine (trim_c h_a (by decide)).mono ?_
  rintro e w5 ⟨A_p, n_p, c_p, rfl, h_p, bn⟩
  replace h_a := h_a.below bn
  replace h_b := h_b.below bn
  replace h_c := h_c.below bn
  replace bw := below_two bw bn
  clear bn
  go_wp2_with fail
  refine (trim_c h_b (by decide)).mono ?_
  rintro e w6 ⟨A_q, n_q, c_q, rfl, h_q, bn⟩
  replace h_a := h_a.below bn
  replace h_b := h_b.below bn
  replace h_c := h_c.below bn
  replace h_p := h_p.below bn
  replace bw := below_two bw bn
  clear bn
  go_wp2_with fail
  refine (keep_c h_p h_q (by decide) (by decide) false HS.out).mono ?_
  rintro e w7 ⟨rfl, bn⟩
  replace h_a := h_a.below bn
  replace h_b := h_b.below bn
  replace h_c := h_c.below bn
  replace h_p := h_p.below bn
  replace h_q := h_q.below bn
  replace bw := below_two bw bn
  clear bn
  clear h_p h_q
  go_wp2_with fail
  refine (bits_c h_a (by decide) _ rfl).mono ?_
  rintro e w7x ⟨rfl, rfl⟩
  go_wp2_with fail
  refine (bit_c h_a (by decide) _ (by omega) (by omega) true (by rw [show (((blen (Limb.val xs_a) : Nat) : Int) - 1).toNat = blen (Limb.val xs_a) - 1 by omega]; exact Hlow.out)).mono ?_
  rintro e w7x ⟨rfl, rfl⟩
  go_wp2_with fail
  refine (bit_c h_a (by decide) _ (by omega) (by omega) false (by rw [Int.toNat_natCast]; exact Hhigh.out)).mono ?_
  rintro e w7x ⟨rfl, rfl⟩
  go_wp2_with fail
  refine (trim_c h_a (by decide)).mono ?_
  rintro e w8 ⟨A_r, n_r, c_r, rfl, h_r, bn⟩
  replace h_a := h_a.below bn
  replace h_b := h_b.below bn
  replace h_c := h_c.below bn
  replace bw := below_two bw bn
  clear bn
  have hrz : ((n_r : Int) == 0) = false := by have := h_r.isN.len; simp; intro h; rw [h] at this; exact HA.out (limbs_eq_nil.1 (List.eq_nil_of_length_eq_zero this))
  go_wp2_with fail
  refine (bits_c h_a (by decide) _ rfl).mono ?_
  rintro e w8x ⟨rfl, rfl⟩
  go_wp2_with fail
  refine (bits_c h_b (by decide) _ rfl).mono ?_
  rintro e w8x ⟨rfl, rfl⟩
  go_wp2_with fail
  refine (wakes_any w8).mono ?_
  rintro e w9 ⟨rfl, bn⟩
  replace h_a := h_a.below bn
  replace h_b := h_b.below bn
  replace h_c := h_c.below bn
  replace h_r := h_r.below bn
  replace bw := below_two bw bn
  clear bn
  go_wp2
  go_ret
  exact ⟨rfl, bw⟩

set_option maxHeartbeats 2000000 in
theorem case_LGG_nl (A_a : Option Addr) (n_a c_a : Nat) (xs_a : List Nat) (A_b : Option Addr) (n_b c_b : Nat) (xs_b : List Nat) (A_c : Option Addr) (n_c c_c : Nat) (xs_c : List Nat) (w : World) (i_a : IsN w A_a n_a xs_a) (hc_a : n_a ≤ c_a) (hm_a : c_a ≤ maxLen) (i_b : IsN w A_b n_b xs_b) (hc_b : n_b ≤ c_b) (hm_b : c_b ≤ maxLen) (i_c : IsN w A_c n_c xs_c) (hc_c : n_c ≤ c_c) (hm_c : c_c ≤ maxLen) (l_a : n_a ≤ 300) (l_b : n_b ≤ 300) (l_c : n_c ≤ 300)
    (HX : RowKit.Hid (cmpI (Limb.val xs_a) (Limb.val xs_b) = -1)) (HW : RowKit.Hid (cmpI (Limb.val xs_b) (Limb.val xs_a) = 1)) (HY : RowKit.Hid (cmpI (Limb.val xs_b) (Limb.val xs_c) = 1)) (HZ : RowKit.Hid (cmpI (Limb.val xs_a) (Limb.val xs_c) = 1))
    (HA : RowKit.Hid ((Limb.val xs_a) ≠ 0)) (HB : RowKit.Hid (blen (Limb.val xs_b) > blen (Limb.val xs_a))) (HS : RowKit.Hid (same (limbs (Limb.val xs_a)) (limbs (Limb.val xs_b)) = false)) :
    Calls Try.prog 5 #[.slice A_a n_a c_a, .slice A_b n_b c_b, .slice A_c n_c c_c] w fun e w' => e = .returned (.bool true) ∧ Below w.heap.size w w' := by
  have bw := bel_refl w
  have h_a : NN w A_a n_a c_a xs_a (Limb.val xs_a) 300 := ⟨i_a, rfl, hc_a, by omega⟩
  have h_b : NN w A_b n_b c_b xs_b (Limb.val xs_b) 300 := ⟨i_b, rfl, hc_b, by omega⟩
  have h_c : NN w A_c n_c c_c xs_c (Limb.val xs_c) 300 := ⟨i_c, rfl, hc_c, by omega⟩
  have hm0 : blen (Limb.val xs_a) ≠ 0 := fun h => HA.out (blen_eq_zero.1 h)
  have hm1 : blen (Limb.val xs_a) ≤ 9600 := blen_NN h_a
  have Hlow := Lib.hid (blen_top HA.out)
  have Hhigh := Lib.hid (blen_above (Limb.val xs_a))
  have hmz : (((blen (Limb.val xs_a) : Nat) : Int) == 0) = false := by simp; exact hm0
  have hbb : blen (Limb.val xs_a) < blen (Limb.val xs_b) := HB.out
  go_enter Try.func5, Try.ntmps5
  go_wp2_with fail
  refine (long_c A_a n_a c_a w hc_a hm_a false (long_no (by omega))).mono ?_
  rintro e wx ⟨rfl, rfl⟩
  go_wp2_with fail
  refine (long_c A_b n_b c_b w hc_b hm_b false (long_no (by omega))).mono ?_
  rintro e wx ⟨rfl, rfl⟩
  go_wp2_with fail
  refine (long_c A_c n_c c_c w hc_c hm_c false (long_no (by omega))).mono ?_
  rintro e wx ⟨rfl, rfl⟩
  go_wp2_with fail
  refine (cmp_c h_a h_b (by decide) (by decide) (-1) HX.out).mono ?_
  rintro e w1 ⟨rfl, bn⟩
  replace h_a := h_a.below bn
  replace h_b := h_b.below bn
  replace h_c := h_c.below bn
  replace bw := below_two bw bn
  clear bn
  go_wp2_with fail
  refine (cmp_c h_b h_c (by decide) (by decide) (1) HY.out).mono ?_
  rintro e w2 ⟨rfl, bn⟩
  replace h_a := h_a.below bn
  replace h_b := h_b.below bn
  replace h_c := h_c.below bn
  replace bw := below_two bw bn
  clear bn
  go_wp2_with fail
  refine (cmp_c h_a h_c (by decide) (by decide) (1) HZ.out).mono ?_
  rintro e w3 ⟨rfl, bn⟩
  replace h_a := h_a.below bn
  replace h_b := h_b.below bn
  replace h_c := h_c.below bn
  replace bw := below_two bw bn
  clear bn
  go_wp2_with fail
  refine (cmp_c h_b h_a (by decide) (by decide) (1) HW.out).mono ?_
  rintro e w4 ⟨rfl, bn⟩
  replace h_a := h_a.below bn
  replace h_b := h_b.below bn
  replace h_c := h_c.below bn
  replace bw := below_two bw bn
  clear bn
  go_wp2_with fail
  refine (trim_c h_a (by decide)).mono ?_
  rintro e w5 ⟨A_p, n_p, c_p, rfl, h_p, bn⟩
  replace h_a := h_a.below bn
  replace h_b := h_b.below bn
  replace h_c := h_c.below bn
  replace bw := below_two bw bn
  clear bn
  go_wp2_with fail
  refine (trim_c h_b (by decide)).mono ?_
  rintro e w6 ⟨A_q, n_q, c_q, rfl, h_q, bn⟩
  replace h_a := h_a.below bn
  replace h_b := h_b.below bn
  replace h_c := h_c.below bn
  replace h_p := h_p.below bn
  replace bw := below_two bw bn
  clear bn
  go_wp2_with fail
  refine (keep_c h_p h_q (by decide) (by decide) false HS.out).mono ?_
  rintro e w7 ⟨rfl, bn⟩
  replace h_a := h_a.below bn
  replace h_b := h_b.below bn
  replace h_c := h_c.below bn
  replace h_p := h_p.below bn
  replace h_q := h_q.below bn
  replace bw := below_two bw bn
  clear bn
  clear h_p h_q
  go_wp2_with fail
  refine (bits_c h_a (by decide) _ rfl).mono ?_
  rintro e w7x ⟨rfl, rfl⟩
  go_wp2_with fail
  refine (bit_c h_a (by decide) _ (by omega) (by omega) true (by rw [show (((blen (Limb.val xs_a) : Nat) : Int) - 1).toNat = blen (Limb.val xs_a) - 1 by omega]; exact Hlow.out)).mono ?_
  rintro e w7x ⟨rfl, rfl⟩
  go_wp2_with fail
  refine (bit_c h_a (by decide) _ (by omega) (by omega) false (by rw [Int.toNat_natCast]; exact Hhigh.out)).mono ?_
  rintro e w7x ⟨rfl, rfl⟩
  go_wp2_with fail
  refine (trim_c h_a (by decide)).mono ?_
  rintro e w8 ⟨A_r, n_r, c_r, rfl, h_r, bn⟩
  replace h_a := h_a.below bn
  replace h_b := h_b.below bn
  replace h_c := h_c.below bn
  replace bw := below_two bw bn
  clear bn
  have hrz : ((n_r : Int) == 0) = false := by have := h_r.isN.len; simp; intro h; rw [h] at this; exact HA.out (limbs_eq_nil.1 (List.eq_nil_of_length_eq_zero this))
  go_wp2_with fail
  refine (bits_c h_a (by decide) _ rfl).mono ?_
  rintro e w8x ⟨rfl, rfl⟩
  go_wp2_with fail
  refine (bits_c h_b (by decide) _ rfl).mono ?_
  rintro e w8x ⟨rfl, rfl⟩
  go_wp2_with fail
  refine (wakes_any w8).mono ?_
  rintro e w9 ⟨rfl, bn⟩
  replace h_a := h_a.below bn
  replace h_b := h_b.below bn
  replace h_c := h_c.below bn
  replace h_r := h_r.below bn
  replace bw := below_two bw bn
  clear bn
  go_wp2
  go_ret
  exact ⟨rfl, bw⟩

set_option maxHeartbeats 2000000 in
theorem case_ELL_zg (A_a : Option Addr) (n_a c_a : Nat) (xs_a : List Nat) (A_b : Option Addr) (n_b c_b : Nat) (xs_b : List Nat) (A_c : Option Addr) (n_c c_c : Nat) (xs_c : List Nat) (w : World) (i_a : IsN w A_a n_a xs_a) (hc_a : n_a ≤ c_a) (hm_a : c_a ≤ maxLen) (i_b : IsN w A_b n_b xs_b) (hc_b : n_b ≤ c_b) (hm_b : c_b ≤ maxLen) (i_c : IsN w A_c n_c xs_c) (hc_c : n_c ≤ c_c) (hm_c : c_c ≤ maxLen) (l_a : n_a ≤ 300) (l_b : n_b ≤ 300) (l_c : n_c ≤ 300)
    (HX : RowKit.Hid (cmpI (Limb.val xs_a) (Limb.val xs_b) = 0)) (HW : RowKit.Hid (cmpI (Limb.val xs_b) (Limb.val xs_a) = 0)) (HY : RowKit.Hid (cmpI (Limb.val xs_b) (Limb.val xs_c) = -1)) (HZ : RowKit.Hid (cmpI (Limb.val xs_a) (Limb.val xs_c) = -1))
    (HA : RowKit.Hid ((Limb.val xs_a) = 0)) (HB : RowKit.Hid (blen (Limb.val xs_b) ≤ blen (Limb.val xs_a))) (HS : RowKit.Hid (same (limbs (Limb.val xs_a)) (limbs (Limb.val xs_b)) = true)) :
    Calls Try.prog 5 #[.slice A_a n_a c_a, .slice A_b n_b c_b, .slice A_c n_c c_c] w fun e w' => e = .returned (.bool true) ∧ Below w.heap.size w w' := by
  have bw := bel_refl w
  have h_a : NN w A_a n_a c_a xs_a (Limb.val xs_a) 300 := ⟨i_a, rfl, hc_a, by omega⟩
  have h_b : NN w A_b n_b c_b xs_b (Limb.val xs_b) 300 := ⟨i_b, rfl, hc_b, by omega⟩
  have h_c : NN w A_c n_c c_c xs_c (Limb.val xs_c) 300 := ⟨i_c, rfl, hc_c, by omega⟩
  have hbb : blen (Limb.val xs_b) ≤ 0 := by have h := HB.out; rw [HA.out, blen_zero] at h; exact h
  go_enter Try.func5, Try.ntmps5
  go_wp2_with fail
  refine (long_c A_a n_a c_a w hc_a hm_a false (long_no (by omega))).mono ?_
  rintro e wx ⟨rfl, rfl⟩
  go_wp2_with fail
  refine (long_c A_b n_b c_b w hc_b hm_b false (long_no (by omega))).mono ?_
  rintro e wx ⟨rfl, rfl⟩
  go_wp2_with fail
  refine (long_c A_c n_c c_c w hc_c hm_c false (long_no (by omega))).mono ?_
  rintro e wx ⟨rfl, rfl⟩
  go_wp2_with fail
  refine (cmp_c h_a h_b (by decide) (by decide) (0) HX.out).mono ?_
  rintro e w1 ⟨rfl, bn⟩
  replace h_a := h_a.below bn
  replace h_b := h_b.below bn
  replace h_c := h_c.below bn
  replace bw := below_two bw bn
  clear bn
  go_wp2_with fail
  refine (cmp_c h_b h_c (by decide) (by decide) (-1) HY.out).mono ?_
  rintro e w2 ⟨rfl, bn⟩
  replace h_a := h_a.below bn
  replace h_b := h_b.below bn
  replace h_c := h_c.below bn
  replace bw := below_two bw bn
  clear bn
  go_wp2_with fail
  refine (cmp_c h_a h_c (by decide) (by decide) (-1) HZ.out).mono ?_
  rintro e w3 ⟨rfl, bn⟩
  replace h_a := h_a.below bn
  replace h_b := h_b.below bn
  replace h_c := h_c.below bn
  replace bw := below_two bw bn
  clear bn
  go_wp2_with fail
  refine (cmp_c h_b h_a (by decide) (by decide) (0) HW.out).mono ?_
  rintro e w4 ⟨rfl, bn⟩
  replace h_a := h_a.below bn
  replace h_b := h_b.below bn
  replace h_c := h_c.below bn
  replace bw := below_two bw bn
  clear bn
  go_wp2_with fail
  refine (trim_c h_a (by decide)).mono ?_
  rintro e w5 ⟨A_p, n_p, c_p, rfl, h_p, bn⟩
  replace h_a := h_a.below bn
  replace h_b := h_b.below bn
  replace h_c := h_c.below bn
  replace bw := below_two bw bn
  clear bn
  go_wp2_with fail
  refine (trim_c h_b (by decide)).mono ?_
  rintro e w6 ⟨A_q, n_q, c_q, rfl, h_q, bn⟩
  replace h_a := h_a.below bn
  replace h_b := h_b.below bn
  replace h_c := h_c.below bn
  replace h_p := h_p.below bn
  replace bw := below_two bw bn
  clear bn
  go_wp2_with fail
  refine (keep_c h_p h_q (by decide) (by decide) true HS.out).mono ?_
  rintro e w7 ⟨rfl, bn⟩
  replace h_a := h_a.below bn
  replace h_b := h_b.below bn
  replace h_c := h_c.below bn
  replace h_p := h_p.below bn
  replace h_q := h_q.below bn
  replace bw := below_two bw bn
  clear bn
  clear h_p h_q
  go_wp2_with fail
  refine (bits_c h_a (by decide) 0 (by rw [HA.out, blen_zero]; rfl)).mono ?_
  rintro e w7x ⟨rfl, rfl⟩
  go_wp2_with fail
  refine (bit_c h_a (by decide) 0 (by decide) (by decide) false (by rw [HA.out]; rfl)).mono ?_
  rintro e w7x ⟨rfl, rfl⟩
  go_wp2_with fail
  refine (trim_c h_a (by decide)).mono ?_
  rintro e w8 ⟨A_r, n_r, c_r, rfl, h_r, bn⟩
  replace h_a := h_a.below bn
  replace h_b := h_b.below bn
  replace h_c := h_c.below bn
  replace bw := below_two bw bn
  clear bn
  obtain rfl : n_r = 0 := by have := h_r.isN.len; rw [HA.out, limbs_zero] at this; exact this.symm
  go_wp2_with fail
  refine (bits_c h_a (by decide) 0 (by rw [HA.out, blen_zero]; rfl)).mono ?_
  rintro e w8x ⟨rfl, rfl⟩
  go_wp2_with fail
  refine (bits_c h_b (by decide) _ rfl).mono ?_
  rintro e w8x ⟨rfl, rfl⟩
  go_wp2_with fail
  refine (wakes_any w8).mono ?_
  rintro e w9 ⟨rfl, bn⟩
  replace h_a := h_a.below bn
  replace h_b := h_b.below bn
  replace h_c := h_c.below bn
  replace h_r := h_r.below bn
  replace bw := below_two bw bn
  clear bn
  go_wp2
  go_ret
  exact ⟨rfl, bw⟩

set_option maxHeartbeats 2000000 in
theorem case_ELL_ng (A_a : Option Addr) (n_a c_a : Nat) (xs_a : List Nat) (A_b : Option Addr) (n_b c_b : Nat) (xs_b : List Nat) (A_c : Option Addr) (n_c c_c : Nat) (xs_c : List Nat) (w : World) (i_a : IsN w A_a n_a xs_a) (hc_a : n_a ≤ c_a) (hm_a : c_a ≤ maxLen) (i_b : IsN w A_b n_b xs_b) (hc_b : n_b ≤ c_b) (hm_b : c_b ≤ maxLen) (i_c : IsN w A_c n_c xs_c) (hc_c : n_c ≤ c_c) (hm_c : c_c ≤ maxLen) (l_a : n_a ≤ 300) (l_b : n_b ≤ 300) (l_c : n_c ≤ 300)
    (HX : RowKit.Hid (cmpI (Limb.val xs_a) (Limb.val xs_b) = 0)) (HW : RowKit.Hid (cmpI (Limb.val xs_b) (Limb.val xs_a) = 0)) (HY : RowKit.Hid (cmpI (Limb.val xs_b) (Limb.val xs_c) = -1)) (HZ : RowKit.Hid (cmpI (Limb.val xs_a) (Limb.val xs_c) = -1))
    (HA : RowKit.Hid ((Limb.val xs_a) ≠ 0)) (HB : RowKit.Hid (blen (Limb.val xs_b) ≤ blen (Limb.val xs_a))) (HS : RowKit.Hid (same (limbs (Limb.val xs_a)) (limbs (Limb.val xs_b)) = true)) :
    Calls Try.prog 5 #[.slice A_a n_a c_a, .slice A_b n_b c_b, .slice A_c n_c c_c] w fun e w' => e = .returned (.bool true) ∧ Below w.heap.size w w' := by
  have bw := bel_refl w
  have h_a : NN w A_a n_a c_a xs_a (Limb.val xs_a) 300 := ⟨i_a, rfl, hc_a, by omega⟩
  have h_b : NN w A_b n_b c_b xs_b (Limb.val xs_b) 300 := ⟨i_b, rfl, hc_b, by omega⟩
  have h_c : NN w A_c n_c c_c xs_c (Limb.val xs_c) 300 := ⟨i_c, rfl, hc_c, by omega⟩
  have hm0 : blen (Limb.val xs_a) ≠ 0 := fun h => HA.out (blen_eq_zero.1 h)
  have hm1 : blen (Limb.val xs_a) ≤ 9600 := blen_NN h_a
  have Hlow := Lib.hid (blen_top HA.out)
  have Hhigh := Lib.hid (blen_above (Limb.val xs_a))
  have hmz : (((blen (Limb.val xs_a) : Nat) : Int) == 0) = false := by simp; exact hm0
  have hbb : blen (Limb.val xs_b) ≤ blen (Limb.val xs_a) := HB.out
  go_enter Try.func5, Try.ntmps5
  go_wp2_with fail
  refine (long_c A_a n_a c_a w hc_a hm_a false (long_no (by omega))).mono ?_
  rintro e wx ⟨rfl, rfl⟩
  go_wp2_with fail
  refine (long_c A_b n_b c_b w hc_b hm_b false (long_no (by omega))).mono ?_
  rintro e wx ⟨rfl, rfl⟩
  go_wp2_with fail
  refine (long_c A_c n_c c_c w hc_c hm_c false (long_no (by omega))).mono ?_
  rintro e wx ⟨rfl, rfl⟩
  go_wp2_with fail
  refine (cmp_c h_a h_b (by decide) (by decide) (0) HX.out).mono ?_
  rintro e w1 ⟨rfl, bn⟩
  replace h_a := h_a.below bn
  replace h_b := h_b.below bn
  replace h_c := h_c.below bn
  replace bw := below_two bw bn
  clear bn
  go_wp2_with fail
  refine (cmp_c h_b h_c (by decide) (by decide) (-1) HY.out).mono ?_
  rintro e w2 ⟨rfl, bn⟩
  replace h_a := h_a.below bn
  replace h_b := h_b.below bn
  replace h_c := h_c.below bn
  replace bw := below_two bw bn
  clear bn
  go_wp2_with fail
  refine (cmp_c h_a h_c (by decide) (by decide) (-1) HZ.out).mono ?_
  rintro e w3 ⟨rfl, bn⟩
  replace h_a := h_a.below bn
  replace h_b := h_b.below bn
  replace h_c := h_c.below bn
  replace bw := below_two bw bn
  clear bn
  go_wp2_with fail
  refine (cmp_c h_b h_a (by decide) (by decide) (0) HW.out).mono ?_
  rintro e w4 ⟨rfl, bn⟩
  replace h_a := h_a.below bn
  replace h_b := h_b.below bn
  replace h_c := h_c.below bn
  replace bw := below_two bw bn
  clear bn
  go_wp2_with fail
  refine (trim_c h_a (by decide)).mono ?_
  rintro e w5 ⟨A_p, n_p, c_p, rfl, h_p, bn⟩
  replace h_a := h_a.below bn
  replace h_b := h_b.below bn
  replace h_c := h_c.below bn
  replace bw := below_two bw bn
  clear bn
  go_wp2_with fail
  refine (trim_c h_b (by decide)).mono ?_
  rintro e w6 ⟨A_q, n_q, c_q, rfl, h_q, bn⟩
  replace h_a := h_a.below bn
  replace h_b := h_b.below bn
  replace h_c := h_c.below bn
  replace h_p := h_p.below bn
  replace bw := below_two bw bn
  clear bn
  go_wp2_with fail
  refine (keep_c h_p h_q (by decide) (by decide) true HS.out).mono ?_
  rintro e w7 ⟨rfl, bn⟩
  replace h_a := h_a.below bn
  replace h_b := h_b.below bn
  replace h_c := h_c.below bn
  replace h_p := h_p.below bn
  replace h_q := h_q.below bn
  replace bw := below_two bw bn
  clear bn
  clear h_p h_q
  go_wp2_with fail
  refine (bits_c h_a (by decide) _ rfl).mono ?_
  rintro e w7x ⟨rfl, rfl⟩
  go_wp2_with fail
  refine (bit_c h_a (by decide) _ (by omega) (by omega) true (by rw [show (((blen (Limb.val xs_a) : Nat) : Int) - 1).toNat = blen (Limb.val xs_a) - 1 by omega]; exact Hlow.out)).mono ?_
  rintro e w7x ⟨rfl, rfl⟩
  go_wp2_with fail
  refine (bit_c h_a (by decide) _ (by omega) (by omega) false (by rw [Int.toNat_natCast]; exact Hhigh.out)).mono ?_
  rintro e w7x ⟨rfl, rfl⟩
  go_wp2_with fail
  refine (trim_c h_a (by decide)).mono ?_
  rintro e w8 ⟨A_r, n_r, c_r, rfl, h_r, bn⟩
  replace h_a := h_a.below bn
  replace h_b := h_b.below bn
  replace h_c := h_c.below bn
  replace bw := below_two bw bn
  clear bn
  have hrz : ((n_r : Int) == 0) = false := by have := h_r.isN.len; simp; intro h; rw [h] at this; exact HA.out (limbs_eq_nil.1 (List.eq_nil_of_length_eq_zero this))
  go_wp2_with fail
  refine (bits_c h_a (by decide) _ rfl).mono ?_
  rintro e w8x ⟨rfl, rfl⟩
  go_wp2_with fail
  refine (bits_c h_b (by decide) _ rfl).mono ?_
  rintro e w8x ⟨rfl, rfl⟩
  go_wp2_with fail
  refine (wakes_any w8).mono ?_
  rintro e w9 ⟨rfl, bn⟩
  replace h_a := h_a.below bn
  replace h_b := h_b.below bn
  replace h_c := h_c.below bn
  replace h_r := h_r.below bn
  replace bw := below_two bw bn
  clear bn
  go_wp2
  go_ret
  exact ⟨rfl, bw⟩

set_option maxHeartbeats 2000000 in
theorem case_EEE_zg (A_a : Option Addr) (n_a c_a : Nat) (xs_a : List Nat) (A_b : Option Addr) (n_b c_b : Nat) (xs_b : List Nat) (A_c : Option Addr) (n_c c_c : Nat) (xs_c : List Nat) (w : World) (i_a : IsN w A_a n_a xs_a) (hc_a : n_a ≤ c_a) (hm_a : c_a ≤ maxLen) (i_b : IsN w A_b n_b xs_b) (hc_b : n_b ≤ c_b) (hm_b : c_b ≤ maxLen) (i_c : IsN w A_c n_c xs_c) (hc_c : n_c ≤ c_c) (hm_c : c_c ≤ maxLen) (l_a : n_a ≤ 300) (l_b : n_b ≤ 300) (l_c : n_c ≤ 300)
    (HX : RowKit.Hid (cmpI (Limb.val xs_a) (Limb.val xs_b) = 0)) (HW : RowKit.Hid (cmpI (Limb.val xs_b) (Limb.val xs_a) = 0)) (HY : RowKit.Hid (cmpI (Limb.val xs_b) (Limb.val xs_c) = 0)) (HZ : RowKit.Hid (cmpI (Limb.val xs_a) (Limb.val xs_c) = 0))
    (HA : RowKit.Hid ((Limb.val xs_a) = 0)) (HB : RowKit.Hid (blen (Limb.val xs_b) ≤ blen (Limb.val xs_a))) (HS : RowKit.Hid (same (limbs (Limb.val xs_a)) (limbs (Limb.val xs_b)) = true)) :
    Calls Try.prog 5 #[.slice A_a n_a c_a, .slice A_b n_b c_b, .slice A_c n_c c_c] w fun e w' => e = .returned (.bool true) ∧ Below w.heap.size w w' := by
  have bw := bel_refl w
  have h_a : NN w A_a n_a c_a xs_a (Limb.val xs_a) 300 := ⟨i_a, rfl, hc_a, by omega⟩
  have h_b : NN w A_b n_b c_b xs_b (Limb.val xs_b) 300 := ⟨i_b, rfl, hc_b, by omega⟩
  have h_c : NN w A_c n_c c_c xs_c (Limb.val xs_c) 300 := ⟨i_c, rfl, hc_c, by omega⟩
  have hbb : blen (Limb.val xs_b) ≤ 0 := by have h := HB.out; rw [HA.out, blen_zero] at h; exact h
  go_enter Try.func5, Try.ntmps5
  go_wp2_with fail
  refine (long_c A_a n_a c_a w hc_a hm_a false (long_no (by omega))).mono ?_
  rintro e wx ⟨rfl, rfl⟩
  go_wp2_with fail
  refine (long_c A_b n_b c_b w hc_b hm_b false (long_no (by omega))).mono ?_
  rintro e wx ⟨rfl, rfl⟩
  go_wp2_with fail
  refine (long_c A_c n_c c_c w hc_c hm_c false (long_no (by omega))).mono ?_
  rintro e wx ⟨rfl, rfl⟩
  go_wp2_with fail
  refine (cmp_c h_a h_b (by decide) (by decide) (0) HX.out).mono ?_
  rintro e w1 ⟨rfl, bn⟩
  replace h_a := h_a.below bn
  replace h_b := h_b.below bn
  replace h_c := h_c.below bn
  replace bw := below_two bw bn
  clear bn
  go_wp2_with fail
  refine (cmp_c h_b h_c (by decide) (by decide) (0) HY.out).mono ?_
  rintro e w2 ⟨rfl, bn⟩
  replace h_a := h_a.below bn
  replace h_b := h_b.below bn
  replace h_c := h_c.below bn
  replace bw := below_two bw bn
  clear bn
  go_wp2_with fail
  refine (cmp_c h_a h_c (by decide) (by decide) (0) HZ.out).mono ?_
  rintro e w3 ⟨rfl, bn⟩
  replace h_a := h_a.below bn
  replace h_b := h_b.below bn
  replace h_c := h_c.below bn
  replace bw := below_two bw bn
  clear bn
  go_wp2_with fail
  refine (cmp_c h_b h_a (by decide) (by decide) (0) HW.out).mono ?_
  rintro e w4 ⟨rfl, bn⟩
  replace h_a := h_a.below bn
  replace h_b := h_b.below bn
  replace h_c := h_c.below bn
  replace bw := below_two bw bn
  clear bn
  go_wp2_with fail
  refine (trim_c h_a (by decide)).mono ?_
  rintro e w5 ⟨A_p, n_p, c_p, rfl, h_p, bn⟩
  replace h_a := h_a.below bn
  replace h_b := h_b.below bn
  replace h_c := h_c.below bn
  replace bw := below_two bw bn
  clear bn
  go_wp2_with fail
  refine (trim_c h_b (by decide)).mono ?_
  rintro e w6 ⟨A_q, n_q, c_q, rfl, h_q, bn⟩
  replace h_a := h_a.below bn
  replace h_b := h_b.below bn
  replace h_c := h_c.below bn
  replace h_p := h_p.below bn
  replace bw := below_two bw bn
  clear bn
  go_wp2_with fail
  refine (keep_c h_p h_q (by decide) (by decide) true HS.out).mono ?_
  rintro e w7 ⟨rfl, bn⟩
  replace h_a := h_a.below bn
  replace h_b := h_b.below bn
  replace h_c := h_c.below bn
  replace h_p := h_p.below bn
  replace h_q := h_q.below bn
  replace bw := below_two bw bn
  clear bn
  clear h_p h_q
  go_wp2_with fail
  refine (bits_c h_a (by decide) 0 (by rw [HA.out, blen_zero]; rfl)).mono ?_
  rintro e w7x ⟨rfl, rfl⟩
  go_wp2_with fail
  refine (bit_c h_a (by decide) 0 (by decide) (by decide) false (by rw [HA.out]; rfl)).mono ?_
  rintro e w7x ⟨rfl, rfl⟩
  go_wp2_with fail
  refine (trim_c h_a (by decide)).mono ?_
  rintro e w8 ⟨A_r, n_r, c_r, rfl, h_r, bn⟩
  replace h_a := h_a.below bn
  replace h_b := h_b.below bn
  replace h_c := h_c.below bn
  replace bw := below_two bw bn
  clear bn
  obtain rfl : n_r = 0 := by have := h_r.isN.len; rw [HA.out, limbs_zero] at this; exact this.symm
  go_wp2_with fail
  refine (bits_c h_a (by decide) 0 (by rw [HA.out, blen_zero]; rfl)).mono ?_
  rintro e w8x ⟨rfl, rfl⟩
  go_wp2_with fail
  refine (bits_c h_b (by decide) _ rfl).mono ?_
  rintro e w8x ⟨rfl, rfl⟩
  go_wp2_with fail
  refine (wakes_any w8).mono ?_
  rintro e w9 ⟨rfl, bn⟩
  replace h_a := h_a.below bn
  replace h_b := h_b.below bn
  replace h_c := h_c.below bn
  replace h_r := h_r.below bn
  replace bw := below_two bw bn
  clear bn
  go_wp2
  go_ret
  exact ⟨rfl, bw⟩

set_option maxHeartbeats 2000000 in
theorem case_EEE_ng (A_a : Option Addr) (n_a c_a : Nat) (xs_a : List Nat) (A_b : Option Addr) (n_b c_b : Nat) (xs_b : List Nat) (A_c : Option Addr) (n_c c_c : Nat) (xs_c : List Nat) (w : World) (i_a : IsN w A_a n_a xs_a) (hc_a : n_a ≤ c_a) (hm_a : c_a ≤ maxLen) (i_b : IsN w A_b n_b xs_b) (hc_b : n_b ≤ c_b) (hm_b : c_b ≤ maxLen) (i_c : IsN w A_c n_c xs_c) (hc_c : n_c ≤ c_c) (hm_c : c_c ≤ maxLen) (l_a : n_a ≤ 300) (l_b : n_b ≤ 300) (l_c : n_c ≤ 300)
    (HX : RowKit.Hid (cmpI (Limb.val xs_a) (Limb.val xs_b) = 0)) (HW : RowKit.Hid (cmpI (Limb.val xs_b) (Limb.val xs_a) = 0)) (HY : RowKit.Hid (cmpI (Limb.val xs_b) (Limb.val xs_c) = 0)) (HZ : RowKit.Hid (cmpI (Limb.val xs_a) (Limb.val xs_c) = 0))
    (HA : RowKit.Hid ((Limb.val xs_a) ≠ 0)) (HB : RowKit.Hid (blen (Limb.val xs_b) ≤ blen (Limb.val xs_a))) (HS : RowKit.Hid (same (limbs (Limb.val xs_a)) (limbs (Limb.val xs_b)) = true)) :
    Calls Try.prog 5 #[.slice A_a n_a c_a, .slice A_b n_b c_b, .slice A_c n_c c_c] w fun e w' => e = .returned (.bool true) ∧ Below w.heap.size w w' := by
  have bw := bel_refl w
  have h_a : NN w A_a n_a c_a xs_a (Limb.val xs_a) 300 := ⟨i_a, rfl, hc_a, by omega⟩
  have h_b : NN w A_b n_b c_b xs_b (Limb.val xs_b) 300 := ⟨i_b, rfl, hc_b, by omega⟩
  have h_c : NN w A_c n_c c_c xs_c (Limb.val xs_c) 300 := ⟨i_c, rfl, hc_c, by omega⟩
  have hm0 : blen (Limb.val xs_a) ≠ 0 := fun h => HA.out (blen_eq_zero.1 h)
  have hm1 : blen (Limb.val xs_a) ≤ 9600 := blen_NN h_a
  have Hlow := Lib.hid (blen_top HA.out)
  have Hhigh := Lib.hid (blen_above (Limb.val xs_a))
  have hmz : (((blen (Limb.val xs_a) : Nat) : Int) == 0) = false := by simp; exact hm0
  have hbb : blen (Limb.val xs_b) ≤ blen (Limb.val xs_a) := HB.out
  go_enter Try.func5, Try.ntmps5
  go_wp2_with fail
  refine (long_c A_a n_a c_a w hc_a hm_a false (long_no (by omega))).mono ?_
  rintro e wx ⟨rfl, rfl⟩
  go_wp2_with fail
  refine (long_c A_b n_b c_b w hc_b hm_b false (long_no (by omega))).mono ?_
  rintro e wx ⟨rfl, rfl⟩
  go_wp2_with fail
  refine (long_c A_c n_c c_c w hc_c hm_c false (long_no (by omega))).mono ?_
  rintro e wx ⟨rfl, rfl⟩
  go_wp2_with fail
  refine (cmp_c h_a h_b (by decide) (by decide) (0) HX.out).mono ?_
  rintro e w1 ⟨rfl, bn⟩
  replace h_a := h_a.below bn
  replace h_b := h_b.below bn
  replace h_c := h_c.below bn
  replace bw := below_two bw bn
  clear bn
  go_wp2_with fail
  refine (cmp_c h_b h_c (by decide) (by decide) (0) HY.out).mono ?_
  rintro e w2 ⟨rfl, bn⟩
  replace h_a := h_a.below bn
  replace h_b := h_b.below bn
  replace h_c := h_c.below bn
  replace bw := below_two bw bn
  clear bn
  go_wp2_with fail
  refine (cmp_c h_a h_c (by decide) (by decide) (0) HZ.out).mono ?_
  rintro e w3 ⟨rfl, bn⟩
  replace h_a := h_a.below bn
  replace h_b := h_b.below bn
  replace h_c := h_c.below bn
  replace bw := below_two bw bn
  clear bn
  go_wp2_with fail
  refine (cmp_c h_b h_a (by decide) (by decide) (0) HW.out).mono ?_
  rintro e w4 ⟨rfl, bn⟩
  replace h_a := h_a.below bn
  replace h_b := h_b.below bn
  replace h_c := h_c.below bn
  replace bw := below_two bw bn
  clear bn
  go_wp2_with fail
  refine (trim_c h_a (by decide)).mono ?_
  rintro e w5 ⟨A_p, n_p, c_p, rfl, h_p, bn⟩
  replace h_a := h_a.below bn
  replace h_b := h_b.below bn
  replace h_c := h_c.below bn
  replace bw := below_two bw bn
  clear bn
  go_wp2_with fail
  refine (trim_c h_b (by decide)).mono ?_
  rintro e w6 ⟨A_q, n_q, c_q, rfl, h_q, bn⟩
  replace h_a := h_a.below bn
  replace h_b := h_b.below bn
  replace h_c := h_c.below bn
  replace h_p := h_p.below bn
  replace bw := below_two bw bn
  clear bn
  go_wp2_with fail
  refine (keep_c h_p h_q (by decide) (by decide) true HS.out).mono ?_
  rintro e w7 ⟨rfl, bn⟩
  replace h_a := h_a.below bn
  replace h_b := h_b.below bn
  replace h_c := h_c.below bn
  replace h_p := h_p.below bn
  replace h_q := h_q.below bn
  replace bw := below_two bw bn
  clear bn
  clear h_p h_q
  go_wp2_with fail
  refine (bits_c h_a (by decide) _ rfl).mono ?_
  rintro e w7x ⟨rfl, rfl⟩
  go_wp2_with fail
  refine (bit_c h_a (by decide) _ (by omega) (by omega) true (by rw [show (((blen (Limb.val xs_a) : Nat) : Int) - 1).toNat = blen (Limb.val xs_a) - 1 by omega]; exact Hlow.out)).mono ?_
  rintro e w7x ⟨rfl, rfl⟩
  go_wp2_with fail
  refine (bit_c h_a (by decide) _ (by omega) (by omega) false (by rw [Int.toNat_natCast]; exact Hhigh.out)).mono ?_
  rintro e w7x ⟨rfl, rfl⟩
  go_wp2_with fail
  refine (trim_c h_a (by decide)).mono ?_
  rintro e w8 ⟨A_r, n_r, c_r, rfl, h_r, bn⟩
  replace h_a := h_a.below bn
  replace h_b := h_b.below bn
  replace h_c := h_c.below bn
  replace bw := below_two bw bn
  clear bn
  have hrz : ((n_r : Int) == 0) = false := by have := h_r.isN.len; simp; intro h; rw [h] at this; exact HA.out (limbs_eq_nil.1 (List.eq_nil_of_length_eq_zero this))
  go_wp2_with fail
  refine (bits_c h_a (by decide) _ rfl).mono ?_
  rintro e w8x ⟨rfl, rfl⟩
  go_wp2_with fail
  refine (bits_c h_b (by decide) _ rfl).mono ?_
  rintro e w8x ⟨rfl, rfl⟩
  go_wp2_with fail
  refine (wakes_any w8).mono ?_
  rintro e w9 ⟨rfl, bn⟩
  replace h_a := h_a.below bn
  replace h_b := h_b.below bn
  replace h_c := h_c.below bn
  replace h_r := h_r.below bn
  replace bw := below_two bw bn
  clear bn
  go_wp2
  go_ret
  exact ⟨rfl, bw⟩

set_option maxHeartbeats 2000000 in
theorem case_EGG_ng (A_a : Option Addr) (n_a c_a : Nat) (xs_a : List Nat) (A_b : Option Addr) (n_b c_b : Nat) (xs_b : List Nat) (A_c : Option Addr) (n_c c_c : Nat) (xs_c : List Nat) (w : World) (i_a : IsN w A_a n_a xs_a) (hc_a : n_a ≤ c_a) (hm_a : c_a ≤ maxLen) (i_b : IsN w A_b n_b xs_b) (hc_b : n_b ≤ c_b) (hm_b : c_b ≤ maxLen) (i_c : IsN w A_c n_c xs_c) (hc_c : n_c ≤ c_c) (hm_c : c_c ≤ maxLen) (l_a : n_a ≤ 300) (l_b : n_b ≤ 300) (l_c : n_c ≤ 300)
    (HX : RowKit.Hid (cmpI (Limb.val xs_a) (Limb.val xs_b) = 0)) (HW : RowKit.Hid (cmpI (Limb.val xs_b) (Limb.val xs_a) = 0)) (HY : RowKit.Hid (cmpI (Limb.val xs_b) (Limb.val xs_c) = 1)) (HZ : RowKit.Hid (cmpI (Limb.val xs_a) (Limb.val xs_c) = 1))
    (HA : RowKit.Hid ((Limb.val xs_a) ≠ 0)) (HB : RowKit.Hid (blen (Limb.val xs_b) ≤ blen (Limb.val xs_a))) (HS : RowKit.Hid (same (limbs (Limb.val xs_a)) (limbs (Limb.val xs_b)) = true)) :
    Calls Try.prog 5 #[.slice A_a n_a c_a, .slice A_b n_b c_b, .slice A_c n_c c_c] w fun e w' => e = .returned (.bool true) ∧ Below w.heap.size w w' := by
  have bw := bel_refl w
  have h_a : NN w A_a n_a c_a xs_a (Limb.val xs_a) 300 := ⟨i_a, rfl, hc_a, by omega⟩
  have h_b : NN w A_b n_b c_b xs_b (Limb.val xs_b) 300 := ⟨i_b, rfl, hc_b, by omega⟩
  have h_c : NN w A_c n_c c_c xs_c (Limb.val xs_c) 300 := ⟨i_c, rfl, hc_c, by omega⟩
  have hm0 : blen (Limb.val xs_a) ≠ 0 := fun h => HA.out (blen_eq_zero.1 h)
  have hm1 : blen (Limb.val xs_a) ≤ 9600 := blen_NN h_a
  have Hlow := Lib.hid (blen_top HA.out)
  have Hhigh := Lib.hid (blen_above (Limb.val xs_a))
  have hmz : (((blen (Limb.val xs_a) : Nat) : Int) == 0) = false := by simp; exact hm0
  have hbb : blen (Limb.val xs_b) ≤ blen (Limb.val xs_a) := HB.out
  go_enter Try.func5, Try.ntmps5
  go_wp2_with fail
  refine (long_c A_a n_a c_a w hc_a hm_a false (long_no (by omega))).mono ?_
  rintro e wx ⟨rfl, rfl⟩
  go_wp2_with fail
  refine (long_c A_b n_b c_b w hc_b hm_b false (long_no (by omega))).mono ?_
  rintro e wx ⟨rfl, rfl⟩
  go_wp2_with fail
  refine (long_c A_c n_c c_c w hc_c hm_c false (long_no (by omega))).mono ?_
  rintro e wx ⟨rfl, rfl⟩
  go_wp2_with fail
  refine (cmp_c h_a h_b (by decide) (by decide) (0) HX.out).mono ?_
  rintro e w1 ⟨rfl, bn⟩
  replace h_a := h_a.below bn
  replace h_b := h_b.below bn
  replace h_c := h_c.below bn
  replace bw := below_two bw bn
  clear bn
  go_wp2_with fail
  refine (cmp_c h_b h_c (by decide) (by decide) (1) HY.out).mono ?_
  rintro e w2 ⟨rfl, bn⟩
  replace h_a := h_a.below bn
  replace h_b := h_b.below bn
  replace h_c := h_c.below bn
  replace bw := below_two bw bn
  clear bn
  go_wp2_with fail
  refine (cmp_c h_a h_c (by decide) (by decide) (1) HZ.out).mono ?_
  rintro e w3 ⟨rfl, bn⟩
  replace h_a := h_a.below bn
  replace h_b := h_b.below bn
  replace h_c := h_c.below bn
  replace bw := below_two bw bn
  clear bn
  go_wp2_with fail
  refine (cmp_c h_b h_a (by decide) (by decide) (0) HW.out).mono ?_
  rintro e w4 ⟨rfl, bn⟩
  replace h_a := h_a.below bn
  replace h_b := h_b.below bn
  replace h_c := h_c.below bn
  replace bw := below_two bw bn
  clear bn
  go_wp2_with fail
  refine (trim_c h_a (by decide)).mono ?_
  rintro e w5 ⟨A_p, n_p, c_p, rfl, h_p, bn⟩
  replace h_a := h_a.below bn
  replace h_b := h_b.below bn
  replace h_c := h_c.below bn
  replace bw := below_two bw bn
  clear bn
  go_wp2_with fail
  refine (trim_c h_b (by decide)).mono ?_
  rintro e w6 ⟨A_q, n_q, c_q, rfl, h_q, bn⟩
  replace h_a := h_a.below bn
  replace h_b := h_b.below bn
  replace h_c := h_c.below bn
  replace h_p := h_p.below bn
  replace bw := below_two bw bn
  clear bn
  go_wp2_with fail
  refine (keep_c h_p h_q (by decide) (by decide) true HS.out).mono ?_
  rintro e w7 ⟨rfl, bn⟩
  replace h_a := h_a.below bn
  replace h_b := h_b.below bn
  replace h_c := h_c.below bn
  replace h_p := h_p.below bn
  replace h_q := h_q.below bn
  replace bw := below_two bw bn
  clear bn
  clear h_p h_q
  go_wp2_with fail
  refine (bits_c h_a (by decide) _ rfl).mono ?_
  rintro e w7x ⟨rfl, rfl⟩
  go_wp2_with fail
  refine (bit_c h_a (by decide) _ (by omega) (by omega) true (by rw [show (((blen (Limb.val xs_a) : Nat) : Int) - 1).toNat = blen (Limb.val xs_a) - 1 by omega]; exact Hlow.out)).mono ?_
  rintro e w7x ⟨rfl, rfl⟩
  go_wp2_with fail
  refine (bit_c h_a (by decide) _ (by omega) (by omega) false (by rw [Int.toNat_natCast]; exact Hhigh.out)).mono ?_
  rintro e w7x ⟨rfl, rfl⟩
  go_wp2_with fail
  refine (trim_c h_a (by decide)).mono ?_
  rintro e w8 ⟨A_r, n_r, c_r, rfl, h_r, bn⟩
  replace h_a := h_a.below bn
  replace h_b := h_b.below bn
  replace h_c := h_c.below bn
  replace bw := below_two bw bn
  clear bn
  have hrz : ((n_r : Int) == 0) = false := by have := h_r.isN.len; simp; intro h; rw [h] at this; exact HA.out (limbs_eq_nil.1 (List.eq_nil_of_length_eq_zero this))
  go_wp2_with fail
  refine (bits_c h_a (by decide) _ rfl).mono ?_
  rintro e w8x ⟨rfl, rfl⟩
  go_wp2_with fail
  refine (bits_c h_b (by decide) _ rfl).mono ?_
  rintro e w8x ⟨rfl, rfl⟩
  go_wp2_with fail
  refine (wakes_any w8).mono ?_
  rintro e w9 ⟨rfl, bn⟩
  replace h_a := h_a.below bn
  replace h_b := h_b.below bn
  replace h_c := h_c.below bn
  replace h_r := h_r.below bn
  replace bw := below_two bw bn
  clear bn
  go_wp2
  go_ret
  exact ⟨rfl, bw⟩

set_option maxHeartbeats 2000000 in
theorem case_GLL_ng (A_a : Option Addr) (n_a c_a : Nat) (xs_a : List Nat) (A_b : Option Addr) (n_b c_b : Nat) (xs_b : List Nat) (A_c : Option Addr) (n_c c_c : Nat) (xs_c : List Nat) (w : World) (i_a : IsN w A_a n_a xs_a) (hc_a : n_a ≤ c_a) (hm_a : c_a ≤ maxLen) (i_b : IsN w A_b n_b xs_b) (hc_b : n_b ≤ c_b) (hm_b : c_b ≤ maxLen) (i_c : IsN w A_c n_c xs_c) (hc_c : n_c ≤ c_c) (hm_c : c_c ≤ maxLen) (l_a : n_a ≤ 300) (l_b : n_b ≤ 300) (l_c : n_c ≤ 300)
    (HX : RowKit.Hid (cmpI (Limb.val xs_a) (Limb.val xs_b) = 1)) (HW : RowKit.Hid (cmpI (Limb.val xs_b) (Limb.val xs_a) = -1)) (HY : RowKit.Hid (cmpI (Limb.val xs_b) (Limb.val xs_c) = -1)) (HZ : RowKit.Hid (cmpI (Limb.val xs_a) (Limb.val xs_c) = -1))
    (HA : RowKit.Hid ((Limb.val xs_a) ≠ 0)) (HB : RowKit.Hid (blen (Limb.val xs_b) ≤ blen (Limb.val xs_a))) (HS : RowKit.Hid (same (limbs (Limb.val xs_a)) (limbs (Limb.val xs_b)) = false)) :
    Calls Try.prog 5 #[.slice A_a n_a c_a, .slice A_b n_b c_b, .slice A_c n_c c_c] w fun e w' => e = .returned (.bool true) ∧ Below w.heap.size w w' := by
  have bw := bel_refl w
  have h_a : NN w A_a n_a c_a xs_a (Limb.val xs_a) 300 := ⟨i_a, rfl, hc_a, by omega⟩
  have h_b : NN w A_b n_b c_b xs_b (Limb.val xs_b) 300 := ⟨i_b, rfl, hc_b, by omega⟩
  have h_c : NN w A_c n_c c_c xs_c (Limb.val xs_c) 300 := ⟨i_c, rfl, hc_c, by omega⟩
  have hm0 : blen (Limb.val xs_a) ≠ 0 := fun h => HA.out (blen_eq_zero.1 h)
  have hm1 : blen (Limb.val xs_a) ≤ 9600 := blen_NN h_a
  have Hlow := Lib.hid (blen_top HA.out)
  have Hhigh := Lib.hid (blen_above (Limb.val xs_a))
  have hmz : (((blen (Limb.val xs_a) : Nat) : Int) == 0) = false := by simp; exact hm0
  have hbb : blen (Limb.val xs_b) ≤ blen (Limb.val xs_a) := HB.out
  go_enter Try.func5, Try.ntmps5
  go_wp2_with fail
  refine (long_c A_a n_a c_a w hc_a hm_a false (long_no (by omega))).mono ?_
  rintro e wx ⟨rfl, rfl⟩
  go_wp2_with fail
  refine (long_c A_b n_b c_b w hc_b hm_b false (long_no (by omega))).mono ?_
  rintro e wx ⟨rfl, rfl⟩
  go_wp2_with fail
  refine (long_c A_c n_c c_c w hc_c hm_c false (long_no (by omega))).mono ?_
  rintro e wx ⟨rfl, rfl⟩
  go_wp2_with fail
  refine (cmp_c h_a h_b (by decide) (by decide) (1) HX.out).mono ?_
  rintro e w1 ⟨rfl, bn⟩
  replace h_a := h_a.below bn
  replace h_b := h_b.below bn
  replace h_c := h_c.below bn
  replace bw := below_two bw bn
  clear bn
  go_wp2_with fail
  refine (cmp_c h_b h_c (by decide) (by decide) (-1) HY.out).mono ?_
  rintro e w2 ⟨rfl, bn⟩
  replace h_a := h_a.below bn
  replace h_b := h_b.below bn
  replace h_c := h_c.below bn
  replace bw := below_two bw bn
  clear bn
  go_wp2_with fail
  refine (cmp_c h_a h_c (by decide) (by decide) (-1) HZ.out).mono ?_
  rintro e w3 ⟨rfl, bn⟩
  replace h_a := h_a.below bn
  replace h_b := h_b.below bn
  replace h_c := h_c.below bn
  replace bw := below_two bw bn
  clear bn
  go_wp2_with fail
  refine (cmp_c h_b h_a (by decide) (by decide) (-1) HW.out).mono ?_
  rintro e w4 ⟨rfl, bn⟩
  replace h_a := h_a.below bn
  replace h_b := h_b.below bn
  replace h_c := h_c.below bn
  replace bw := below_two bw bn
  clear bn
  go_wp2_with fail
  refine (trim_c h_a (by decide)).mono ?_
  rintro e w5 ⟨A_p, n_p, c_p, rfl, h_p, bn⟩
  replace h_a := h_a.below bn
  replace h_b := h_b.below bn
  replace h_c := h_c.below bn
  replace bw := below_two bw bn
  clear bn
  go_wp2_with fail
  refine (trim_c h_b (by decide)).mono ?_
  rintro e w6 ⟨A_q, n_q, c_q, rfl, h_q, bn⟩
  replace h_a := h_a.below bn
  replace h_b := h_b.below bn
  replace h_c := h_c.below bn
  replace h_p := h_p.below bn
  replace bw := below_two bw bn
  clear bn
  go_wp2_with fail
  refine (keep_c h_p h_q (by decide) (by decide) false HS.out).mono ?_
  rintro e w7 ⟨rfl, bn⟩
  replace h_a := h_a.below bn
  replace h_b := h_b.below bn
  replace h_c := h_c.below bn
  replace h_p := h_p.below bn
  replace h_q := h_q.below bn
  replace bw := below_two bw bn
  clear bn
  clear h_p h_q
  go_wp2_with fail
  refine (bits_c h_a (by decide) _ rfl).mono ?_
  rintro e w7x ⟨rfl, rfl⟩
  go_wp2_with fail
  refine (bit_c h_a (by decide) _ (by omega) (by omega) true (by rw [show (((blen (Limb.val xs_a) : Nat) : Int) - 1).toNat = blen (Limb.val xs_a) - 1 by omega]; exact Hlow.out)).mono ?_
  rintro e w7x ⟨rfl, rfl⟩
  go_wp2_with fail
  refine (bit_c h_a (by decide) _ (by omega) (by omega) false (by rw [Int.toNat_natCast]; exact Hhigh.out)).mono ?_
  rintro e w7x ⟨rfl, rfl⟩
  go_wp2_with fail
  refine (trim_c h_a (by decide)).mono ?_
  rintro e w8 ⟨A_r, n_r, c_r, rfl, h_r, bn⟩
  replace h_a := h_a.below bn
  replace h_b := h_b.below bn
  replace h_c := h_c.below bn
  replace bw := below_two bw bn
  clear bn
  have hrz : ((n_r : Int) == 0) = false := by have := h_r.isN.len; simp; intro h; rw [h] at this; exact HA.out (limbs_eq_nil.1 (List.eq_nil_of_length_eq_zero this))
  go_wp2_with fail
  refine (bits_c h_a (by decide) _ rfl).mono ?_
  rintro e w8x ⟨rfl, rfl⟩
  go_wp2_with fail
  refine (bits_c h_b (by decide) _ rfl).mono ?_
  rintro e w8x ⟨rfl, rfl⟩
  go_wp2_with fail
  refine (wakes_any w8).mono ?_
  rintro e w9 ⟨rfl, bn⟩
  replace h_a := h_a.below bn
  replace h_b := h_b.below bn
  replace h_c := h_c.below bn
  replace h_r := h_r.below bn
  replace bw := below_two bw bn
  clear bn
  go_wp2
  go_ret
  exact ⟨rfl, bw⟩

set_option maxHeartbeats 2000000 in
theorem case_GLE_ng (A_a : Option Addr) (n_a c_a : Nat) (xs_a : List Nat) (A_b : Option Addr) (n_b c_b : Nat) (xs_b : List Nat) (A_c : Option Addr) (n_c c_c : Nat) (xs_c : List Nat) (w : World) (i_a : IsN w A_a n_a xs_a) (hc_a : n_a ≤ c_a) (hm_a : c_a ≤ maxLen) (i_b : IsN w A_b n_b xs_b) (hc_b : n_b ≤ c_b) (hm_b : c_b ≤ maxLen) (i_c : IsN w A_c n_c xs_c) (hc_c : n_c ≤ c_c) (hm_c : c_c ≤ maxLen) (l_a : n_a ≤ 300) (l_b : n_b ≤ 300) (l_c : n_c ≤ 300)
    (HX : RowKit.Hid (cmpI (Limb.val xs_a) (Limb.val xs_b) = 1)) (HW : RowKit.Hid (cmpI (Limb.val xs_b) (Limb.val xs_a) = -1)) (HY : RowKit.Hid (cmpI (Limb.val xs_b) (Limb.val xs_c) = -1)) (HZ : RowKit.Hid (cmpI (Limb.val xs_a) (Limb.val xs_c) = 0))
    (HA : RowKit.Hid ((Limb.val xs_a) ≠ 0)) (HB : RowKit.Hid (blen (Limb.val xs_b) ≤ blen (Limb.val xs_a))) (HS : RowKit.Hid (same (limbs (Limb.val xs_a)) (limbs (Limb.val xs_b)) = false)) :
    Calls Try.prog 5 #[.slice A_a n_a c_a, .slice A_b n_b c_b, .slice A_c n_c c_c] w fun e w' => e = .returned (.bool true) ∧ Below w.heap.size w w' := by
  have bw := bel_refl w
  have h_a : NN w A_a n_a c_a xs_a (Limb.val xs_a) 300 := ⟨i_a, rfl, hc_a, by omega⟩
  have h_b : NN w A_b n_b c_b xs_b (Limb.val xs_b) 300 := ⟨i_b, rfl, hc_b, by omega⟩
  have h_c : NN w A_c n_c c_c xs_c (Limb.val xs_c) 300 := ⟨i_c, rfl, hc_c, by omega⟩
  have hm0 : blen (Limb.val xs_a) ≠ 0 := fun h => HA.out (blen_eq_zero.1 h)
  have hm1 : blen (Limb.val xs_a) ≤ 9600 := blen_NN h_a
  have Hlow := Lib.hid (blen_top HA.out)
  have Hhigh := Lib.hid (blen_above (Limb.val xs_a))
  have hmz : (((blen (Limb.val xs_a) : Nat) : Int) == 0) = false := by simp; exact hm0
  have hbb : blen (Limb.val xs_b) ≤ blen (Limb.val xs_a) := HB.out
  go_enter Try.func5, Try.ntmps5
  go_wp2_with fail
  refine (long_c A_a n_a c_a w hc_a hm_a false (long_no (by omega))).mono ?_
  rintro e wx ⟨rfl, rfl⟩
  go_wp2_with fail
  refine (long_c A_b n_b c_b w hc_b hm_b false (long_no (by omega))).mono ?_
  rintro e wx ⟨rfl, rfl⟩
  go_wp2_with fail
  refine (long_c A_c n_c c_c w hc_c hm_c false (long_no (by omega))).mono ?_
  rintro e wx ⟨rfl, rfl⟩
  go_wp2_with fail
  refine (cmp_c h_a h_b (by decide) (by decide) (1) HX.out).mono ?_
  rintro e w1 ⟨rfl, bn⟩
  replace h_a := h_a.below bn
  replace h_b := h_b.below bn
  replace h_c := h_c.below bn
  replace bw := below_two bw bn
  clear bn
  go_wp2_with fail
  refine (cmp_c h_b h_c (by decide) (by decide) (-1) HY.out).mono ?_
  rintro e w2 ⟨rfl, bn⟩
  replace h_a := h_a.below bn
  replace h_b := h_b.below bn
  replace h_c := h_c.below bn
  replace bw := below_two bw bn
  clear bn
  go_wp2_with fail
  refine (cmp_c h_a h_c (by decide) (by decide) (0) HZ.out).mono ?_
  rintro e w3 ⟨rfl, bn⟩
  replace h_a := h_a.below bn
  replace h_b := h_b.below bn
  replace h_c := h_c.below bn
  replace bw := below_two bw bn
  clear bn
  go_wp2_with fail
  refine (cmp_c h_b h_a (by decide) (by decide) (-1) HW.out).mono ?_
  rintro e w4 ⟨rfl, bn⟩
  replace h_a := h_a.below bn
  replace h_b := h_b.below bn
  replace h_c := h_c.below bn
  replace bw := below_two bw bn
  clear bn
  go_wp2_with fail
  refine (trim_c h_a (by decide)).mono ?_
  rintro e w5 ⟨A_p, n_p, c_p, rfl, h_p, bn⟩
  replace h_a := h_a.below bn
  replace h_b := h_b.below bn
  replace h_c := h_c.below bn
  replace bw := below_two bw bn
  clear bn
  go_wp2_with fail
  refine (trim_c h_b (by decide)).mono ?_
  rintro e w6 ⟨A_q, n_q, c_q, rfl, h_q, bn⟩
  replace h_a := h_a.below bn
  replace h_b := h_b.below bn
  replace h_c := h_c.below bn
  replace h_p := h_p.below bn
  replace bw := below_two bw bn
  clear bn
  go_wp2_with fail
  refine (keep_c h_p h_q (by decide) (by decide) false HS.out).mono ?_
  rintro e w7 ⟨rfl, bn⟩
  replace h_a := h_a.below bn
  replace h_b := h_b.below bn
  replace h_c := h_c.below bn
  replace h_p := h_p.below bn
  replace h_q := h_q.below bn
  replace bw := below_two bw bn
  clear bn
  clear h_p h_q
  go_wp2_with fail
  refine (bits_c h_a (by decide) _ rfl).mono ?_
  rintro e w7x ⟨rfl, rfl⟩
  go_wp2_with fail
  refine (bit_c h_a (by decide) _ (by omega) (by omega) true (by rw [show (((blen (Limb.val xs_a) : Nat) : Int) - 1).toNat = blen (Limb.val xs_a) - 1 by omega]; exact Hlow.out)).mono ?_
  rintro e w7x ⟨rfl, rfl⟩
  go_wp2_with fail
  refine (bit_c h_a (by decide) _ (by omega) (by omega) false (by rw [Int.toNat_natCast]; exact Hhigh.out)).mono ?_
  rintro e w7x ⟨rfl, rfl⟩
  go_wp2_with fail
  refine (trim_c h_a (by decide)).mono ?_
  rintro e w8 ⟨A_r, n_r, c_r, rfl, h_r, bn⟩
  replace h_a := h_a.below bn
  replace h_b := h_b.below bn
  replace h_c := h_c.below bn
  replace bw := below_two bw bn
  clear bn
  have hrz : ((n_r : Int) == 0) = false := by have := h_r.isN.len; simp; intro h; rw [h] at this; exact HA.out (limbs_eq_nil.1 (List.eq_nil_of_length_eq_zero this))
  go_wp2_with fail
  refine (bits_c h_a (by decide) _ rfl).mono ?_
  rintro e w8x ⟨rfl, rfl⟩
  go_wp2_with fail
  refine (bits_c h_b (by decide) _ rfl).mono ?_
  rintro e w8x ⟨rfl, rfl⟩
  go_wp2_with fail
  refine (wakes_any w8).mono ?_
  rintro e w9 ⟨rfl, bn⟩
  replace h_a := h_a.below bn
  replace h_b := h_b.below bn
  replace h_c := h_c.below bn
  replace h_r := h_r.below bn
  replace bw := below_two bw bn
  clear bn
  go_wp2
  go_ret
  exact ⟨rfl, bw⟩

set_option maxHeartbeats 2000000 in
theorem case_GLG_ng (A_a : Option Addr) (n_a c_a : Nat) (xs_a : List Nat) (A_b : Option Addr) (n_b c_b : Nat) (xs_b : List Nat) (A_c : Option Addr) (n_c c_c : Nat) (xs_c : List Nat) (w : World) (i_a : IsN w A_a n_a xs_a) (hc_a : n_a ≤ c_a) (hm_a : c_a ≤ maxLen) (i_b : IsN w A_b n_b xs_b) (hc_b : n_b ≤ c_b) (hm_b : c_b ≤ maxLen) (i_c : IsN w A_c n_c xs_c) (hc_c : n_c ≤ c_c) (hm_c : c_c ≤ maxLen) (l_a : n_a ≤ 300) (l_b : n_b ≤ 300) (l_c : n_c ≤ 300)
    (HX : RowKit.Hid (cmpI (Limb.val xs_a) (Limb.val xs_b) = 1)) (HW : RowKit.Hid (cmpI (Limb.val xs_b) (Limb.val xs_a) = -1)) (HY : RowKit.Hid (cmpI (Limb.val xs_b) (Limb.val xs_c) = -1)) (HZ : RowKit.Hid (cmpI (Limb.val xs_a) (Limb.val xs_c) = 1))
    (HA : RowKit.Hid ((Limb.val xs_a) ≠ 0)) (HB : RowKit.Hid (blen (Limb.val xs_b) ≤ blen (Limb.val xs_a))) (HS : RowKit.Hid (same (limbs (Limb.val xs_a)) (limbs (Limb.val xs_b)) = false)) :
    Calls Try.prog 5 #[.slice A_a n_a c_a, .slice A_b n_b c_b, .slice A_c n_c c_c] w fun e w' => e = .returned (.bool true) ∧ Below w.heap.size w w' := by
  have bw := bel_refl w
  have h_a : NN w A_a n_a c_a xs_a (Limb.val xs_a) 300 := ⟨i_a, rfl, hc_a, by omega⟩
  have h_b : NN w A_b n_b c_b xs_b (Limb.val xs_b) 300 := ⟨i_b, rfl, hc_b, by omega⟩
  have h_c : NN w A_c n_c c_c xs_c (Limb.val xs_c) 300 := ⟨i_c, rfl, hc_c, by omega⟩
  have hm0 : blen (Limb.val xs_a) ≠ 0 := fun h => HA.out (blen_eq_zero.1 h)
  have hm1 : blen (Limb.val xs_a) ≤ 9600 := blen_NN h_a
  have Hlow := Lib.hid (blen_top HA.out)
  have Hhigh := Lib.hid (blen_above (Limb.val xs_a))
  have hmz : (((blen (Limb.val xs_a) : Nat) : Int) == 0) = false := by simp; exact hm0
  have hbb : blen (Limb.val xs_b) ≤ blen (Limb.val xs_a) := HB.out
  go_enter Try.func5, Try.ntmps5
  go_wp2_with fail
  refine (long_c A_a n_a c_a w hc_a hm_a false (long_no (by omega))).mono ?_
  rintro e wx ⟨rfl, rfl⟩
  go_wp2_with fail
  refine (long_c A_b n_b c_b w hc_b hm_b false (long_no (by omega))).mono ?_
  rintro e wx ⟨rfl, rfl⟩
  go_wp2_with fail
  refine (long_c A_c n_c c_c w hc_c hm_c false (long_no (by omega))).mono ?_
  rintro e wx ⟨rfl, rfl⟩
  go_wp2_with fail
  refine (cmp_c h_a h_b (by decide) (by decide) (1) HX.out).mono ?_
  rintro e w1 ⟨rfl, bn⟩
  replace h_a := h_a.below bn
  replace h_b := h_b.below bn
  replace h_c := h_c.below bn
  replace bw := below_two bw bn
  clear bn
  go_wp2_with fail
  refine (cmp_c h_b h_c (by decide) (by decide) (-1) HY.out).mono ?_
  rintro e w2 ⟨rfl, bn⟩
  replace h_a := h_a.below bn
  replace h_b := h_b.below bn
  replace h_c := h_c.below bn
  replace bw := below_two bw bn
  clear bn
  go_wp2_with fail
  refine (cmp_c h_a h_c (by decide) (by decide) (1) HZ.out).mono ?_
  rintro e w3 ⟨rfl, bn⟩
  replace h_a := h_a.below bn
  replace h_b := h_b.below bn
  replace h_c := h_c.below bn
  replace bw := below_two bw bn
  clear bn
  go_wp2_with fail
  refine (cmp_c h_b h_a (by decide) (by decide) (-1) HW.out).mono ?_
  rintro e w4 ⟨rfl, bn⟩
  replace h_a := h_a.below bn
  replace h_b := h_b.below bn
  replace h_c := h_c.below bn
  replace bw := below_two bw bn
  clear bn
  go_wp2_with fail
  refine (trim_c h_a (by decide)).mono ?_
  rintro e w5 ⟨A_p, n_p, c_p, rfl, h_p, bn⟩
  replace h_a := h_a.below bn
  replace h_b := h_b.below bn
  replace h_c := h_c.below bn
  replace bw := below_two bw bn
  clear bn
  go_wp2_with fail
  refine (trim_c h_b (by decide)).mono ?_
  rintro e w6 ⟨A_q, n_q, c_q, rfl, h_q, bn⟩
  replace h_a := h_a.below bn
  replace h_b := h_b.below bn
  replace h_c := h_c.below bn
  replace h_p := h_p.below bn
  replace bw := below_two bw bn
  clear bn
  go_wp2_with fail
  refine (keep_c h_p h_q (by decide) (by decide) false HS.out).mono ?_
  rintro e w7 ⟨rfl, bn⟩
  replace h_a := h_a.below bn
  replace h_b := h_b.below bn
  replace h_c := h_c.below bn
  replace h_p := h_p.below bn
  replace h_q := h_q.below bn
  replace bw := below_two bw bn
  clear bn
  clear h_p h_q
  go_wp2_with fail
  refine (bits_c h_a (by decide) _ rfl).mono ?_
  rintro e w7x ⟨rfl, rfl⟩
  go_wp2_with fail
  refine (bit_c h_a (by decide) _ (by omega) (by omega) true (by rw [show (((blen (Limb.val xs_a) : Nat) : Int) - 1).toNat = blen (Limb.val xs_a) - 1 by omega]; exact Hlow.out)).mono ?_
  rintro e w7x ⟨rfl, rfl⟩
  go_wp2_with fail
  refine (bit_c h_a (by decide) _ (by omega) (by omega) false (by rw [Int.toNat_natCast]; exact Hhigh.out)).mono ?_
  rintro e w7x ⟨rfl, rfl⟩
  go_wp2_with fail
  refine (trim_c h_a (by decide)).mono ?_
  rintro e w8 ⟨A_r, n_r, c_r, rfl, h_r, bn⟩
  replace h_a := h_a.below bn
  replace h_b := h_b.below bn
  replace h_c := h_c.below bn
  replace bw := below_two bw bn
  clear bn
  have hrz : ((n_r : Int) == 0) = false := by have := h_r.isN.len; simp; intro h; rw [h] at this; exact HA.out (limbs_eq_nil.1 (List.eq_nil_of_length_eq_zero this))
  go_wp2_with fail
  refine (bits_c h_a (by decide) _ rfl).mono ?_
  rintro e w8x ⟨rfl, rfl⟩
  go_wp2_with fail
  refine (bits_c h_b (by decide) _ rfl).mono ?_
  rintro e w8x ⟨rfl, rfl⟩
  go_wp2_with fail
  refine (wakes_any w8).mono ?_
  rintro e w9 ⟨rfl, bn⟩
  replace h_a := h_a.below bn
  replace h_b := h_b.below bn
  replace h_c := h_c.below bn
  replace h_r := h_r.below bn
  replace bw := below_two bw bn
  clear bn
  go_wp2
  go_ret
  exact ⟨rfl, bw⟩

set_option maxHeartbeats 2000000 in
theorem case_GEG_ng (A_a : Option Addr) (n_a c_a : Nat) (xs_a : List Nat) (A_b : Option Addr) (n_b c_b : Nat) (xs_b : List Nat) (A_c : Option Addr) (n_c c_c : Nat) (xs_c : List Nat) (w : World) (i_a : IsN w A_a n_a xs_a) (hc_a : n_a ≤ c_a) (hm_a : c_a ≤ maxLen) (i_b : IsN w A_b n_b xs_b) (hc_b : n_b ≤ c_b) (hm_b : c_b ≤ maxLen) (i_c : IsN w A_c n_c xs_c) (hc_c : n_c ≤ c_c) (hm_c : c_c ≤ maxLen) (l_a : n_a ≤ 300) (l_b : n_b ≤ 300) (l_c : n_c ≤ 300)
    (HX : RowKit.Hid (cmpI (Limb.val xs_a) (Limb.val xs_b) = 1)) (HW : RowKit.Hid (cmpI (Limb.val xs_b) (Limb.val xs_a) = -1)) (HY : RowKit.Hid (cmpI (Limb.val xs_b) (Limb.val xs_c) = 0)) (HZ : RowKit.Hid (cmpI (Limb.val xs_a) (Limb.val xs_c) = 1))
    (HA : RowKit.Hid ((Limb.val xs_a) ≠ 0)) (HB : RowKit.Hid (blen (Limb.val xs_b) ≤ blen (Limb.val xs_a))) (HS : RowKit.Hid (same (limbs (Limb.val xs_a)) (limbs (Limb.val xs_b)) = false)) :
    Calls Try.prog 5 #[.slice A_a n_a c_a, .slice A_b n_b c_b, .slice A_c n_c c_c] w fun e w' => e = .returned (.bool true) ∧ Below w.heap.size w w' := by
  have bw := bel_refl w
  have h_a : NN w A_a n_a c_a xs_a (Limb.val xs_a) 300 := ⟨i_a, rfl, hc_a, by omega⟩
  have h_b : NN w A_b n_b c_b xs_b (Limb.val xs_b) 300 := ⟨i_b, rfl, hc_b, by omega⟩
  have h_c : NN w A_c n_c c_c xs_c (Limb.val xs_c) 300 := ⟨i_c, rfl, hc_c, by omega⟩
  have hm0 : blen (Limb.val xs_a) ≠ 0 := fun h => HA.out (blen_eq_zero.1 h)
  have hm1 : blen (Limb.val xs_a) ≤ 9600 := blen_NN h_a
  have Hlow := Lib.hid (blen_top HA.out)
  have Hhigh := Lib.hid (blen_above (Limb.val xs_a))
  have hmz : (((blen (Limb.val xs_a) : Nat) : Int) == 0) = false := by simp; exact hm0
  have hbb : blen (Limb.val xs_b) ≤ blen (Limb.val xs_a) := HB.out
  go_enter Try.func5, Try.ntmps5
  go_wp2_with fail
  refine (long_c A_a n_a c_a w hc_a hm_a false (long_no (by omega))).mono ?_
  rintro e wx ⟨rfl, rfl⟩
  go_wp2_with fail
  refine (long_c A_b n_b c_b w hc_b hm_b false (long_no (by omega))).mono ?_
  rintro e wx ⟨rfl, rfl⟩
  go_wp2_with fail
  refine (long_c A_c n_c c_c w hc_c hm_c false (long_no (by omega))).mono ?_
  rintro e wx ⟨rfl, rfl⟩
  go_wp2_with fail
  refine (cmp_c h_a h_b (by decide) (by decide) (1) HX.out).mono ?_
  rintro e w1 ⟨rfl, bn⟩
  replace h_a := h_a.below bn
  replace h_b := h_b.below bn
  replace h_c := h_c.below bn
  replace bw := below_two bw bn
  clear bn
  go_wp2_with fail
  refine (cmp_c h_b h_c (by decide) (by decide) (0) HY.out).mono ?_
  rintro e w2 ⟨rfl, bn⟩
  replace h_a := h_a.below bn
  replace h_b := h_b.below bn
  replace h_c := h_c.below bn
  replace bw := below_two bw bn
  clear bn
  go_wp2_with fail
  refine (cmp_c h_a h_c (by decide) (by decide) (1) HZ.out).mono ?_
  rintro e w3 ⟨rfl, bn⟩
  replace h_a := h_a.below bn
  replace h_b := h_b.below bn
  replace h_c := h_c.below bn
  replace bw := below_two bw bn
  clear bn
  go_wp2_with fail
  refine (cmp_c h_b h_a (by decide) (by decide) (-1) HW.out).mono ?_
  rintro e w4 ⟨rfl, bn⟩
  replace h_a := h_a.below bn
  replace h_b := h_b.below bn
  replace h_c := h_c.below bn
  replace bw := below_two bw bn
  clear bn
  go_wp2_with fail
  refine (trim_c h_a (by decide)).mono ?_
  rintro e w5 ⟨A_p, n_p, c_p, rfl, h_p, bn⟩
  replace h_a := h_a.below bn
  replace h_b := h_b.below bn
  replace h_c := h_c.below bn
  replace bw := below_two bw bn
  clear bn
  go_wp2_with fail
  refine (trim_c h_b (by decide)).mono ?_
  rintro e w6 ⟨A_q, n_q, c_q, rfl, h_q, bn⟩
  replace h_a := h_a.below bn
  replace h_b := h_b.below bn
  replace h_c := h_c.below bn
  replace h_p := h_p.below bn
  replace bw := below_two bw bn
  clear bn
  go_wp2_with fail
  refine (keep_c h_p h_q (by decide) (by decide) false HS.out).mono ?_
  rintro e w7 ⟨rfl, bn⟩
  replace h_a := h_a.below bn
  replace h_b := h_b.below bn
  replace h_c := h_c.below bn
  replace h_p := h_p.below bn
  replace h_q := h_q.below bn
  replace bw := below_two bw bn
  clear bn
  clear h_p h_q
  go_wp2_with fail
  refine (bits_c h_a (by decide) _ rfl).mono ?_
  rintro e w7x ⟨rfl, rfl⟩
  go_wp2_with fail
  refine (bit_c h_a (by decide) _ (by omega) (by omega) true (by rw [show (((blen (Limb.val xs_a) : Nat) : Int) - 1).toNat = blen (Limb.val xs_a) - 1 by omega]; exact Hlow.out)).mono ?_
  rintro e w7x ⟨rfl, rfl⟩
  go_wp2_with fail
  refine (bit_c h_a (by decide) _ (by omega) (by omega) false (by rw [Int.toNat_natCast]; exact Hhigh.out)).mono ?_
  rintro e w7x ⟨rfl, rfl⟩
  go_wp2_with fail
  refine (trim_c h_a (by decide)).mono ?_
  rintro e w8 ⟨A_r, n_r, c_r, rfl, h_r, bn⟩
  replace h_a := h_a.below bn
  replace h_b := h_b.below bn
  replace h_c := h_c.below bn
  replace bw := below_two bw bn
  clear bn
  have hrz : ((n_r : Int) == 0) = false := by have := h_r.isN.len; simp; intro h; rw [h] at this; exact HA.out (limbs_eq_nil.1 (List.eq_nil_of_length_eq_zero this))
  go_wp2_with fail
  refine (bits_c h_a (by decide) _ rfl).mono ?_
  rintro e w8x ⟨rfl, rfl⟩
  go_wp2_with fail
  refine (bits_c h_b (by decide) _ rfl).mono ?_
  rintro e w8x ⟨rfl, rfl⟩
  go_wp2_with fail
  refine (wakes_any w8).mono ?_
  rintro e w9 ⟨rfl, bn⟩
  replace h_a := h_a.below bn
  replace h_b := h_b.below bn
  replace h_c := h_c.below bn
  replace h_r := h_r.below bn
  replace bw := below_two bw bn
  clear bn
  go_wp2
  go_ret
  exact ⟨rfl, bw⟩

set_option maxHeartbeats 2000000 in
theorem case_GGG_ng (A_a : Option Addr) (n_a c_a : Nat) (xs_a : List Nat) (A_b : Option Addr) (n_b c_b : Nat) (xs_b : List Nat) (A_c : Option Addr) (n_c c_c : Nat) (xs_c : List Nat) (w : World) (i_a : IsN w A_a n_a xs_a) (hc_a : n_a ≤ c_a) (hm_a : c_a ≤ maxLen) (i_b : IsN w A_b n_b xs_b) (hc_b : n_b ≤ c_b) (hm_b : c_b ≤ maxLen) (i_c : IsN w A_c n_c xs_c) (hc_c : n_c ≤ c_c) (hm_c : c_c ≤ maxLen) (l_a : n_a ≤ 300) (l_b : n_b ≤ 300) (l_c : n_c ≤ 300)
    (HX : RowKit.Hid (cmpI (Limb.val xs_a) (Limb.val xs_b) = 1)) (HW : RowKit.Hid (cmpI (Limb.val xs_b) (Limb.val xs_a) = -1)) (HY : RowKit.Hid (cmpI (Limb.val xs_b) (Limb.val xs_c) = 1)) (HZ : RowKit.Hid (cmpI (Limb.val xs_a) (Limb.val xs_c) = 1))
    (HA : RowKit.Hid ((Limb.val xs_a) ≠ 0)) (HB : RowKit.Hid (blen (Limb.val xs_b) ≤ blen (Limb.val xs_a))) (HS : RowKit.Hid (same (limbs (Limb.val xs_a)) (limbs (Limb.val xs_b)) = false)) :
    Calls Try.prog 5 #[.slice A_a n_a c_a, .slice A_b n_b c_b, .slice A_c n_c c_c] w fun e w' => e = .returned (.bool true) ∧ Below w.heap.size w w' := by
  have bw := bel_refl w
  have h_a : NN w A_a n_a c_a xs_a (Limb.val xs_a) 300 := ⟨i_a, rfl, hc_a, by omega⟩
  have h_b : NN w A_b n_b c_b xs_b (Limb.val xs_b) 300 := ⟨i_b, rfl, hc_b, by omega⟩
  have h_c : NN w A_c n_c c_c xs_c (Limb.val xs_c) 300 := ⟨i_c, rfl, hc_c, by omega⟩
  have hm0 : blen (Limb.val xs_a) ≠ 0 := fun h => HA.out (blen_eq_zero.1 h)
  have hm1 : blen (Limb.val xs_a) ≤ 9600 := blen_NN h_a
  have Hlow := Lib.hid (blen_top HA.out)
  have Hhigh := Lib.hid (blen_above (Limb.val xs_a))
  have hmz : (((blen (Limb.val xs_a) : Nat) : Int) == 0) = false := by simp; exact hm0
  have hbb : blen (Limb.val xs_b) ≤ blen (Limb.val xs_a) := HB.out
  go_enter Try.func5, Try.ntmps5
  go_wp2_with fail
  refine (long_c A_a n_a c_a w hc_a hm_a false (long_no (by omega))).mono ?_
  rintro e wx ⟨rfl, rfl⟩
  go_wp2_with fail
  refine (long_c A_b n_b c_b w hc_b hm_b false (long_no (by omega))).mono ?_
  rintro e wx ⟨rfl, rfl⟩
  go_wp2_with fail
  refine (long_c A_c n_c c_c w hc_c hm_c false (long_no (by omega))).mono ?_
  rintro e wx ⟨rfl, rfl⟩
  go_wp2_with fail
  refine (cmp_c h_a h_b (by decide) (by decide) (1) HX.out).mono ?_
  rintro e w1 ⟨rfl, bn⟩
  replace h_a := h_a.below bn
  replace h_b := h_b.below bn
  replace h_c := h_c.below bn
  replace bw := below_two bw bn
  clear bn
  go_wp2_with fail
  refine (cmp_c h_b h_c (by decide) (by decide) (1) HY.out).mono ?_
  rintro e w2 ⟨rfl, bn⟩
  replace h_a := h_a.below bn
  replace h_b := h_b.below bn
  replace h_c := h_c.below bn
  replace bw := below_two bw bn
  clear bn
  go_wp2_with fail
  refine (cmp_c h_a h_c (by decide) (by decide) (1) HZ.out).mono ?_
  rintro e w3 ⟨rfl, bn⟩
  replace h_a := h_a.below bn
  replace h_b := h_b.below bn
  replace h_c := h_c.below bn
  replace bw := below_two bw bn
  clear bn
  go_wp2_with fail
  refine (cmp_c h_b h_a (by decide) (by decide) (-1) HW.out).mono ?_
  rintro e w4 ⟨rfl, bn⟩
  replace h_a := h_a.below bn
  replace h_b := h_b.below bn
  replace h_c := h_c.below bn
  replace bw := below_two bw bn
  clear bn
  go_wp2_with fail
  refine (trim_c h_a (by decide)).mono ?_
  rintro e w5 ⟨A_p, n_p, c_p, rfl, h_p, bn⟩
  replace h_a := h_a.below bn
  replace h_b := h_b.below bn
  replace h_c := h_c.below bn
  replace bw := below_two bw bn
  clear bn
  go_wp2_with fail
  refine (trim_c h_b (by decide)).mono ?_
  rintro e w6 ⟨A_q, n_q, c_q, rfl, h_q, bn⟩
  replace h_a := h_a.below bn
  replace h_b := h_b.below bn
  replace h_c := h_c.below bn
  replace h_p := h_p.below bn
  replace bw := below_two bw bn
  clear bn
  go_wp2_with fail
  refine (keep_c h_p h_q (by decide) (by decide) false HS.out).mono ?_
  rintro e w7 ⟨rfl, bn⟩
  replace h_a := h_a.below bn
  replace h_b := h_b.below bn
  replace h_c := h_c.below bn
  replace h_p := h_p.below bn
  replace h_q := h_q.below bn
  replace bw := below_two bw bn
  clear bn
  clear h_p h_q
  go_wp2_with fail
  refine (bits_c h_a (by decide) _ rfl).mono ?_
  rintro e w7x ⟨rfl, rfl⟩
  go_wp2_with fail
  refine (bit_c h_a (by decide) _ (by omega) (by omega) true (by rw [show (((blen (Limb.val xs_a) : Nat) : Int) - 1).toNat = blen (Limb.val xs_a) - 1 by omega]; exact Hlow.out)).mono ?_
  rintro e w7x ⟨rfl, rfl⟩
  go_wp2_with fail
  refine (bit_c h_a (by decide) _ (by omega) (by omega) false (by rw [Int.toNat_natCast]; exact Hhigh.out)).mono ?_
  rintro e w7x ⟨rfl, rfl⟩
  go_wp2_with fail
  refine (trim_c h_a (by decide)).mono ?_
  rintro e w8 ⟨A_r, n_r, c_r, rfl, h_r, bn⟩
  replace h_a := h_a.below bn
  replace h_b := h_b.below bn
  replace h_c := h_c.below bn
  replace bw := below_two bw bn
  clear bn
  have hrz : ((n_r : Int) == 0) = false := by have := h_r.isN.len; simp; intro h; rw [h] at this; exact HA.out (limbs_eq_nil.1 (List.eq_nil_of_length_eq_zero this))
  go_wp2_with fail
  refine (bits_c h_a (by decide) _ rfl).mono ?_
  rintro e w8x ⟨rfl, rfl⟩
  go_wp2_with fail
  refine (bits_c h_b (by decide) _ rfl).mono ?_
  rintro e w8x ⟨rfl, rfl⟩
  go_wp2_with fail
  refine (wakes_any w8).mono ?_
  rintro e w9 ⟨rfl, bn⟩
  replace h_a := h_a.below bn
  replace h_b := h_b.below bn
  replace h_c := h_c.below bn
  replace h_r := h_r.below bn
  replace bw := below_two bw bn
  clear bn
  go_wp2
  go_ret
  exact ⟨rfl, bw⟩

set_option maxHeartbeats 2000000 in
theorem walk (A_a : Option Addr) (n_a c_a : Nat) (xs_a : List Nat) (A_b : Option Addr) (n_b c_b : Nat) (xs_b : List Nat) (A_c : Option Addr) (n_c c_c : Nat) (xs_c : List Nat) (w : World) (i_a : IsN w A_a n_a xs_a) (hc_a : n_a ≤ c_a) (hm_a : c_a ≤ maxLen) (i_b : IsN w A_b n_b xs_b) (hc_b : n_b ≤ c_b) (hm_b : c_b ≤ maxLen) (i_c : IsN w A_c n_c xs_c) (hc_c : n_c ≤ c_c) (hm_c : c_c ≤ maxLen) :
    Calls Try.prog 5 #[.slice A_a n_a c_a, .slice A_b n_b c_b, .slice A_c n_c c_c] w fun e w' => e = .returned (.bool true) ∧ Below w.heap.size w w' := by
  have bw := bel_refl w
  by_cases l_a : 300 < n_a
  · go_enter Try.func5, Try.ntmps5
    go_wp2_with fail
    refine (long_c A_a n_a c_a w hc_a hm_a true (long_yes l_a)).mono ?_
    rintro e wx ⟨rfl, rfl⟩
    go_wp2_with fail
    refine (wakes_any w).mono ?_
    rintro e w1 ⟨rfl, bn⟩
    replace bw := below_two bw bn
    clear bn
    go_wp2
    go_ret
    exact ⟨rfl, bw⟩
  by_cases l_b : 300 < n_b
  · go_enter Try.func5, Try.ntmps5
    go_wp2_with fail
    refine (long_c A_a n_a c_a w hc_a hm_a false (long_no (by omega))).mono ?_
    rintro e wx ⟨rfl, rfl⟩
    go_wp2_with fail
    refine (long_c A_b n_b c_b w hc_b hm_b true (long_yes l_b)).mono ?_
    rintro e wx ⟨rfl, rfl⟩
    go_wp2_with fail
    refine (wakes_any w).mono ?_
    rintro e w1 ⟨rfl, bn⟩
    replace bw := below_two bw bn
    clear bn
    go_wp2
    go_ret
    exact ⟨rfl, bw⟩
  by_cases l_c : 300 < n_c
  · go_enter Try.func5, Try.ntmps5
    go_wp2_with fail
    refine (long_c A_a n_a c_a w hc_a hm_a false (long_no (by omega))).mono ?_
    rintro e wx ⟨rfl, rfl⟩
    go_wp2_with fail
    refine (long_c A_b n_b c_b w hc_b hm_b false (long_no (by omega))).mono ?_
    rintro e wx ⟨rfl, rfl⟩
    go_wp2_with fail
    refine (long_c A_c n_c c_c w hc_c hm_c true (long_yes l_c)).mono ?_
    rintro e wx ⟨rfl, rfl⟩
    go_wp2_with fail
    refine (wakes_any w).mono ?_
    rintro e w1 ⟨rfl, bn⟩
    replace bw := below_two bw bn
    clear bn
    go_wp2
    go_ret
    exact ⟨rfl, bw⟩
  have h_a : NN w A_a n_a c_a xs_a (Limb.val xs_a) 300 := ⟨i_a, rfl, hc_a, by omega⟩
  have h_b : NN w A_b n_b c_b xs_b (Limb.val xs_b) 300 := ⟨i_b, rfl, hc_b, by omega⟩
  have h_c : NN w A_c n_c c_c xs_c (Limb.val xs_c) 300 := ⟨i_c, rfl, hc_c, by omega⟩
  rcases Nat.lt_trichotomy (Limb.val xs_a) (Limb.val xs_b) with hab | hab | hab <;> rcases Nat.lt_trichotomy (Limb.val xs_b) (Limb.val xs_c) with hbc | hbc | hbc <;> rcases Nat.lt_trichotomy (Limb.val xs_a) (Limb.val xs_c) with hac | hac | hac <;> first | (exfalso; omega) | skip
  · by_cases hz : Limb.val xs_a = 0
    · by_cases hg : blen (Limb.val xs_b) ≤ blen (Limb.val xs_a)
      · first | (exfalso; omega) | exact absurd (blen_mono (by omega)) hg | exact absurd (blen_eq_zero.1 (Nat.le_zero.1 (by rw [hz, blen_zero] at hg; exact hg))) (by omega)
      · exact case_LLL_zl A_a n_a c_a xs_a A_b n_b c_b xs_b A_c n_c c_c xs_c w i_a hc_a hm_a i_b hc_b hm_b i_c hc_c hm_c (by omega) (by omega) (by omega) (Lib.hid (cmpI_lt hab)) (Lib.hid (cmpI_gt hab)) (Lib.hid (cmpI_lt hbc)) (Lib.hid (cmpI_lt hac)) (Lib.hid hz) (Lib.hid (Nat.lt_of_not_le hg)) (Lib.hid (same_limbs_ne (by omega)))
    · by_cases hg : blen (Limb.val xs_b) ≤ blen (Limb.val xs_a)
      · exact case_LLL_ng A_a n_a c_a xs_a A_b n_b c_b xs_b A_c n_c c_c xs_c w i_a hc_a hm_a i_b hc_b hm_b i_c hc_c hm_c (by omega) (by omega) (by omega) (Lib.hid (cmpI_lt hab)) (Lib.hid (cmpI_gt hab)) (Lib.hid (cmpI_lt hbc)) (Lib.hid (cmpI_lt hac)) (Lib.hid hz) (Lib.hid hg) (Lib.hid (same_limbs_ne (by omega)))
      · exact case_LLL_nl A_a n_a c_a xs_a A_b n_b c_b xs_b A_c n_c c_c xs_c w i_a hc_a hm_a i_b hc_b hm_b i_c hc_c hm_c (by omega) (by omega) (by omega) (Lib.hid (cmpI_lt hab)) (Lib.hid (cmpI_gt hab)) (Lib.hid (cmpI_lt hbc)) (Lib.hid (cmpI_lt hac)) (Lib.hid hz) (Lib.hid (Nat.lt_of_not_le hg)) (Lib.hid (same_limbs_ne (by omega)))
  · by_cases hz : Limb.val xs_a = 0
    · by_cases hg : blen (Limb.val xs_b) ≤ blen (Limb.val xs_a)
      · first | (exfalso; omega) | exact absurd (blen_mono (by omega)) hg | exact absurd (blen_eq_zero.1 (Nat.le_zero.1 (by rw [hz, blen_zero] at hg; exact hg))) (by omega)
      · exact case_LEL_zl A_a n_a c_a xs_a A_b n_b c_b xs_b A_c n_c c_c xs_c w i_a hc_a hm_a i_b hc_b hm_b i_c hc_c hm_c (by omega) (by omega) (by omega) (Lib.hid (cmpI_lt hab)) (Lib.hid (cmpI_gt hab)) (Lib.hid (cmpI_same hbc)) (Lib.hid (cmpI_lt hac)) (Lib.hid hz) (Lib.hid (Nat.lt_of_not_le hg)) (Lib.hid (same_limbs_ne (by omega)))
    · by_cases hg : blen (Limb.val xs_b) ≤ blen (Limb.val xs_a)
      · exact case_LEL_ng A_a n_a c_a xs_a A_b n_b c_b xs_b A_c n_c c_c xs_c w i_a hc_a hm_a i_b hc_b hm_b i_c hc_c hm_c (by omega) (by omega) (by omega) (Lib.hid (cmpI_lt hab)) (Lib.hid (cmpI_gt hab)) (Lib.hid (cmpI_same hbc)) (Lib.hid (cmpI_lt hac)) (Lib.hid hz) (Lib.hid hg) (Lib.hid (same_limbs_ne (by omega)))
      · exact case_LEL_nl A_a n_a c_a xs_a A_b n_b c_b xs_b A_c n_c c_c xs_c w i_a hc_a hm_a i_b hc_b hm_b i_c hc_c hm_c (by omega) (by omega) (by omega) (Lib.hid (cmpI_lt hab)) (Lib.hid (cmpI_gt hab)) (Lib.hid (cmpI_same hbc)) (Lib.hid (cmpI_lt hac)) (Lib.hid hz) (Lib.hid (Nat.lt_of_not_le hg)) (Lib.hid (same_limbs_ne (by omega)))
  · by_cases hz : Limb.val xs_a = 0
    · by_cases hg : blen (Limb.val xs_b) ≤ blen (Limb.val xs_a)
      · first | (exfalso; omega) | exact absurd (blen_mono (by omega)) hg | exact absurd (blen_eq_zero.1 (Nat.le_zero.1 (by rw [hz, blen_zero] at hg; exact hg))) (by omega)
      · exact case_LGL_zl A_a n_a c_a xs_a A_b n_b c_b xs_b A_c n_c c_c xs_c w i_a hc_a hm_a i_b hc_b hm_b i_c hc_c hm_c (by omega) (by omega) (by omega) (Lib.hid (cmpI_lt hab)) (Lib.hid (cmpI_gt hab)) (Lib.hid (cmpI_gt hbc)) (Lib.hid (cmpI_lt hac)) (Lib.hid hz) (Lib.hid (Nat.lt_of_not_le hg)) (Lib.hid (same_limbs_ne (by omega)))
    · by_cases hg : blen (Limb.val xs_b) ≤ blen (Limb.val xs_a)
      · exact case_LGL_ng A_a n_a c_a xs_a A_b n_b c_b xs_b A_c n_c c_c xs_c w i_a hc_a hm_a i_b hc_b hm_b i_c hc_c hm_c (by omega) (by omega) (by omega) (Lib.hid (cmpI_lt hab)) (Lib.hid (cmpI_gt hab)) (Lib.hid (cmpI_gt hbc)) (Lib.hid (cmpI_lt hac)) (Lib.hid hz) (Lib.hid hg) (Lib.hid (same_limbs_ne (by omega)))
      · exact case_LGL_nl A_a n_a c_a xs_a A_b n_b c_b xs_b A_c n_c c_c xs_c w i_a hc_a hm_a i_b hc_b hm_b i_c hc_c hm_c (by omega) (by omega) (by omega) (Lib.hid (cmpI_lt hab)) (Lib.hid (cmpI_gt hab)) (Lib.hid (cmpI_gt hbc)) (Lib.hid (cmpI_lt hac)) (Lib.hid hz) (Lib.hid (Nat.lt_of_not_le hg)) (Lib.hid (same_limbs_ne (by omega)))
  · by_cases hz : Limb.val xs_a = 0
    · by_cases hg : blen (Limb.val xs_b) ≤ blen (Limb.val xs_a)
      · first | (exfalso; omega) | exact absurd (blen_mono (by omega)) hg | exact absurd (blen_eq_zero.1 (Nat.le_zero.1 (by rw [hz, blen_zero] at hg; exact hg))) (by omega)
      · exact case_LGE_zl A_a n_a c_a xs_a A_b n_b c_b xs_b A_c n_c c_c xs_c w i_a hc_a hm_a i_b hc_b hm_b i_c hc_c hm_c (by omega) (by omega) (by omega) (Lib.hid (cmpI_lt hab)) (Lib.hid (cmpI_gt hab)) (Lib.hid (cmpI_gt hbc)) (Lib.hid (cmpI_same hac)) (Lib.hid hz) (Lib.hid (Nat.lt_of_not_le hg)) (Lib.hid (same_limbs_ne (by omega)))
    · by_cases hg : blen (Limb.val xs_b) ≤ blen (Limb.val xs_a)
      · exact case_LGE_ng A_a n_a c_a xs_a A_b n_b c_b xs_b A_c n_c c_c xs_c w i_a hc_a hm_a i_b hc_b hm_b i_c hc_c hm_c (by omega) (by omega) (by omega) (Lib.hid (cmpI_lt hab)) (Lib.hid (cmpI_gt hab)) (Lib.hid (cmpI_gt hbc)) (Lib.hid (cmpI_same hac)) (Lib.hid hz) (Lib.hid hg) (Lib.hid (same_limbs_ne (by omega)))
      · exact case_LGE_nl A_a n_a c_a xs_a A_b n_b c_b xs_b A_c n_c c_c xs_c w i_a hc_a hm_a i_b hc_b hm_b i_c hc_c hm_c (by omega) (by omega) (by omega) (Lib.hid (cmpI_lt hab)) (Lib.hid (cmpI_gt hab)) (Lib.hid (cmpI_gt hbc)) (Lib.hid (cmpI_same hac)) (Lib.hid hz) (Lib.hid (Nat.lt_of_not_le hg)) (Lib.hid (same_limbs_ne (by omega)))
  · by_cases hz : Limb.val xs_a = 0
    · by_cases hg : blen (Limb.val xs_b) ≤ blen (Limb.val xs_a)
      · first | (exfalso; omega) | exact absurd (blen_mono (by omega)) hg | exact absurd (blen_eq_zero.1 (Nat.le_zero.1 (by rw [hz, blen_zero] at hg; exact hg))) (by omega)
      · first | (exfalso; omega) | exact absurd (blen_mono (by omega)) hg | exact absurd (blen_eq_zero.1 (Nat.le_zero.1 (by rw [hz, blen_zero] at hg; exact hg))) (by omega)
    · by_cases hg : blen (Limb.val xs_b) ≤ blen (Limb.val xs_a)
      · exact case_LGG_ng A_a n_a c_a xs_a A_b n_b c_b xs_b A_c n_c c_c xs_c w i_a hc_a hm_a i_b hc_b hm_b i_c hc_c hm_c (by omega) (by omega) (by omega) (Lib.hid (cmpI_lt hab)) (Lib.hid (cmpI_gt hab)) (Lib.hid (cmpI_gt hbc)) (Lib.hid (cmpI_gt hac)) (Lib.hid hz) (Lib.hid hg) (Lib.hid (same_limbs_ne (by omega)))
      · exact case_LGG_nl A_a n_a c_a xs_a A_b n_b c_b xs_b A_c n_c c_c xs_c w i_a hc_a hm_a i_b hc_b hm_b i_c hc_c hm_c (by omega) (by omega) (by omega) (Lib.hid (cmpI_lt hab)) (Lib.hid (cmpI_gt hab)) (Lib.hid (cmpI_gt hbc)) (Lib.hid (cmpI_gt hac)) (Lib.hid hz) (Lib.hid (Nat.lt_of_not_le hg)) (Lib.hid (same_limbs_ne (by omega)))
  · by_cases hz : Limb.val xs_a = 0
    · by_cases hg : blen (Limb.val xs_b) ≤ blen (Limb.val xs_a)
      · exact case_ELL_zg A_a n_a c_a xs_a A_b n_b c_b xs_b A_c n_c c_c xs_c w i_a hc_a hm_a i_b hc_b hm_b i_c hc_c hm_c (by omega) (by omega) (by omega) (Lib.hid (cmpI_same hab)) (Lib.hid (cmpI_same hab.symm)) (Lib.hid (cmpI_lt hbc)) (Lib.hid (cmpI_lt hac)) (Lib.hid hz) (Lib.hid hg) (Lib.hid (same_limbs hab))
      · first | (exfalso; omega) | exact absurd (blen_mono (by omega)) hg | exact absurd (blen_eq_zero.1 (Nat.le_zero.1 (by rw [hz, blen_zero] at hg; exact hg))) (by omega)
    · by_cases hg : blen (Limb.val xs_b) ≤ blen (Limb.val xs_a)
      · exact case_ELL_ng A_a n_a c_a xs_a A_b n_b c_b xs_b A_c n_c c_c xs_c w i_a hc_a hm_a i_b hc_b hm_b i_c hc_c hm_c (by omega) (by omega) (by omega) (Lib.hid (cmpI_same hab)) (Lib.hid (cmpI_same hab.symm)) (Lib.hid (cmpI_lt hbc)) (Lib.hid (cmpI_lt hac)) (Lib.hid hz) (Lib.hid hg) (Lib.hid (same_limbs hab))
      · first | (exfalso; omega) | exact absurd (blen_mono (by omega)) hg | exact absurd (blen_eq_zero.1 (Nat.le_zero.1 (by rw [hz, blen_zero] at hg; exact hg))) (by omega)
  · by_cases hz : Limb.val xs_a = 0
    · by_cases hg : blen (Limb.val xs_b) ≤ blen (Limb.val xs_a)
      · exact case_EEE_zg A_a n_a c_a xs_a A_b n_b c_b xs_b A_c n_c c_c xs_c w i_a hc_a hm_a i_b hc_b hm_b i_c hc_c hm_c (by omega) (by omega) (by omega) (Lib.hid (cmpI_same hab)) (Lib.hid (cmpI_same hab.symm)) (Lib.hid (cmpI_same hbc)) (Lib.hid (cmpI_same hac)) (Lib.hid hz) (Lib.hid hg) (Lib.hid (same_limbs hab))
      · first | (exfalso; omega) | exact absurd (blen_mono (by omega)) hg | exact absurd (blen_eq_zero.1 (Nat.le_zero.1 (by rw [hz, blen_zero] at hg; exact hg))) (by omega)
    · by_cases hg : blen (Limb.val xs_b) ≤ blen (Limb.val xs_a)
      · exact case_EEE_ng A_a n_a c_a xs_a A_b n_b c_b xs_b A_c n_c c_c xs_c w i_a hc_a hm_a i_b hc_b hm_b i_c hc_c hm_c (by omega) (by omega) (by omega) (Lib.hid (cmpI_same hab)) (Lib.hid (cmpI_same hab.symm)) (Lib.hid (cmpI_same hbc)) (Lib.hid (cmpI_same hac)) (Lib.hid hz) (Lib.hid hg) (Lib.hid (same_limbs hab))
      · first | (exfalso; omega) | exact absurd (blen_mono (by omega)) hg | exact absurd (blen_eq_zero.1 (Nat.le_zero.1 (by rw [hz, blen_zero] at hg; exact hg))) (by omega)
  · by_cases hz : Limb.val xs_a = 0
    · by_cases hg : blen (Limb.val xs_b) ≤ blen (Limb.val xs_a)
      · first | (exfalso; omega) | exact absurd (blen_mono (by omega)) hg | exact absurd (blen_eq_zero.1 (Nat.le_zero.1 (by rw [hz, blen_zero] at hg; exact hg))) (by omega)
      · first | (exfalso; omega) | exact absurd (blen_mono (by omega)) hg | exact absurd (blen_eq_zero.1 (Nat.le_zero.1 (by rw [hz, blen_zero] at hg; exact hg))) (by omega)
    · by_cases hg : blen (Limb.val xs_b) ≤ blen (Limb.val xs_a)
      · exact case_EGG_ng A_a n_a c_a xs_a A_b n_b c_b xs_b A_c n_c c_c xs_c w i_a hc_a hm_a i_b hc_b hm_b i_c hc_c hm_c (by omega) (by omega) (by omega) (Lib.hid (cmpI_same hab)) (Lib.hid (cmpI_same hab.symm)) (Lib.hid (cmpI_gt hbc)) (Lib.hid (cmpI_gt hac)) (Lib.hid hz) (Lib.hid hg) (Lib.hid (same_limbs hab))
      · first | (exfalso; omega) | exact absurd (blen_mono (by omega)) hg | exact absurd (blen_eq_zero.1 (Nat.le_zero.1 (by rw [hz, blen_zero] at hg; exact hg))) (by omega)
  · by_cases hz : Limb.val xs_a = 0
    · by_cases hg : blen (Limb.val xs_b) ≤ blen (Limb.val xs_a)
      · first | (exfalso; omega) | exact absurd (blen_mono (by omega)) hg | exact absurd (blen_eq_zero.1 (Nat.le_zero.1 (by rw [hz, blen_zero] at hg; exact hg))) (by omega)
      · first | (exfalso; omega) | exact absurd (blen_mono (by omega)) hg | exact absurd (blen_eq_zero.1 (Nat.le_zero.1 (by rw [hz, blen_zero] at hg; exact hg))) (by omega)
    · by_cases hg : blen (Limb.val xs_b) ≤ blen (Limb.val xs_a)
      · exact case_GLL_ng A_a n_a c_a xs_a A_b n_b c_b xs_b A_c n_c c_c xs_c w i_a hc_a hm_a i_b hc_b hm_b i_c hc_c hm_c (by omega) (by omega) (by omega) (Lib.hid (cmpI_gt hab)) (Lib.hid (cmpI_lt hab)) (Lib.hid (cmpI_lt hbc)) (Lib.hid (cmpI_lt hac)) (Lib.hid hz) (Lib.hid hg) (Lib.hid (same_limbs_ne (by omega)))
      · first | (exfalso; omega) | exact absurd (blen_mono (by omega)) hg | exact absurd (blen_eq_zero.1 (Nat.le_zero.1 (by rw [hz, blen_zero] at hg; exact hg))) (by omega)
  · by_cases hz : Limb.val xs_a = 0
    · by_cases hg : blen (Limb.val xs_b) ≤ blen (Limb.val xs_a)
      · first | (exfalso; omega) | exact absurd (blen_mono (by omega)) hg | exact absurd (blen_eq_zero.1 (Nat.le_zero.1 (by rw [hz, blen_zero] at hg; exact hg))) (by omega)
      · first | (exfalso; omega) | exact absurd (blen_mono (by omega)) hg | exact absurd (blen_eq_zero.1 (Nat.le_zero.1 (by rw [hz, blen_zero] at hg; exact hg))) (by omega)
    · by_cases hg : blen (Limb.val xs_b) ≤ blen (Limb.val xs_a)
      · exact case_GLE_ng A_a n_a c_a xs_a A_b n_b c_b xs_b A_c n_c c_c xs_c w i_a hc_a hm_a i_b hc_b hm_b i_c hc_c hm_c (by omega) (by omega) (by omega) (Lib.hid (cmpI_gt hab)) (Lib.hid (cmpI_lt hab)) (Lib.hid (cmpI_lt hbc)) (Lib.hid (cmpI_same hac)) (Lib.hid hz) (Lib.hid hg) (Lib.hid (same_limbs_ne (by omega)))
      · first | (exfalso; omega) | exact absurd (blen_mono (by omega)) hg | exact absurd (blen_eq_zero.1 (Nat.le_zero.1 (by rw [hz, blen_zero] at hg; exact hg))) (by omega)
  · by_cases hz : Limb.val xs_a = 0
    · by_cases hg : blen (Limb.val xs_b) ≤ blen (Limb.val xs_a)
      · first | (exfalso; omega) | exact absurd (blen_mono (by omega)) hg | exact absurd (blen_eq_zero.1 (Nat.le_zero.1 (by rw [hz, blen_zero] at hg; exact hg))) (by omega)
      · first | (exfalso; omega) | exact absurd (blen_mono (by omega)) hg | exact absurd (blen_eq_zero.1 (Nat.le_zero.1 (by rw [hz, blen_zero] at hg; exact hg))) (by omega)
    · by_cases hg : blen (Limb.val xs_b) ≤ blen (Limb.val xs_a)
      · exact case_GLG_ng A_a n_a c_a xs_a A_b n_b c_b xs_b A_c n_c c_c xs_c w i_a hc_a hm_a i_b hc_b hm_b i_c hc_c hm_c (by omega) (by omega) (by omega) (Lib.hid (cmpI_gt hab)) (Lib.hid (cmpI_lt hab)) (Lib.hid (cmpI_lt hbc)) (Lib.hid (cmpI_gt hac)) (Lib.hid hz) (Lib.hid hg) (Lib.hid (same_limbs_ne (by omega)))
      · first | (exfalso; omega) | exact absurd (blen_mono (by omega)) hg | exact absurd (blen_eq_zero.1 (Nat.le_zero.1 (by rw [hz, blen_zero] at hg; exact hg))) (by omega)
  · by_cases hz : Limb.val xs_a = 0
    · by_cases hg : blen (Limb.val xs_b) ≤ blen (Limb.val xs_a)
      · first | (exfalso; omega) | exact absurd (blen_mono (by omega)) hg | exact absurd (blen_eq_zero.1 (Nat.le_zero.1 (by rw [hz, blen_zero] at hg; exact hg))) (by omega)
      · first | (exfalso; omega) | exact absurd (blen_mono (by omega)) hg | exact absurd (blen_eq_zero.1 (Nat.le_zero.1 (by rw [hz, blen_zero] at hg; exact hg))) (by omega)
    · by_cases hg : blen (Limb.val xs_b) ≤ blen (Limb.val xs_a)
      · exact case_GEG_ng A_a n_a c_a xs_a A_b n_b c_b xs_b A_c n_c c_c xs_c w i_a hc_a hm_a i_b hc_b hm_b i_c hc_c hm_c (by omega) (by omega) (by omega) (Lib.hid (cmpI_gt hab)) (Lib.hid (cmpI_lt hab)) (Lib.hid (cmpI_same hbc)) (Lib.hid (cmpI_gt hac)) (Lib.hid hz) (Lib.hid hg) (Lib.hid (same_limbs_ne (by omega)))
      · first | (exfalso; omega) | exact absurd (blen_mono (by omega)) hg | exact absurd (blen_eq_zero.1 (Nat.le_zero.1 (by rw [hz, blen_zero] at hg; exact hg))) (by omega)
  · by_cases hz : Limb.val xs_a = 0
    · by_cases hg : blen (Limb.val xs_b) ≤ blen (Limb.val xs_a)
      · first | (exfalso; omega) | exact absurd (blen_mono (by omega)) hg | exact absurd (blen_eq_zero.1 (Nat.le_zero.1 (by rw [hz, blen_zero] at hg; exact hg))) (by omega)
      · first | (exfalso; omega) | exact absurd (blen_mono (by omega)) hg | exact absurd (blen_eq_zero.1 (Nat.le_zero.1 (by rw [hz, blen_zero] at hg; exact hg))) (by omega)
    · by_cases hg : blen (Limb.val xs_b) ≤ blen (Limb.val xs_a)
      · exact case_GGG_ng A_a n_a c_a xs_a A_b n_b c_b xs_b A_c n_c c_c xs_c w i_a hc_a hm_a i_b hc_b hm_b i_c hc_c hm_c (by omega) (by omega) (by omega) (Lib.hid (cmpI_gt hab)) (Lib.hid (cmpI_lt hab)) (Lib.hid (cmpI_gt hbc)) (Lib.hid (cmpI_gt hac)) (Lib.hid hz) (Lib.hid hg) (Lib.hid (same_limbs_ne (by omega)))
      · first | (exfalso; omega) | exact absurd (blen_mono (by omega)) hg | exact absurd (blen_eq_zero.1 (Nat.le_zero.1 (by rw [hz, blen_zero] at hg; exact hg))) (by omega)

set_option maxRecDepth 100000 in
theorem lifted (os : Os) (started : os.Started) (H : Type) (enc : TypeId × Value → H) :
    ReturnsInHanded {} Try.checked os 5 .any (Rows.natOrderSpec.pre6 enc Try.prog Try.f5 Rows.natOrderRow.domain false) (Rows.natOrderSpec.post enc Try.prog Try.f5 false true false false) := by
  refine returnsInHanded_of_change (C := Try.checked) own started (by kernel_rfl) Try.func5
    (ChangeSpec.witness6 (enc := enc) (C := Try.checked) false ⟨#[], #[.slice none 0 0, .slice none 0 0, .slice none 0 0], []⟩ 8 (by kernel_rfl) (by kernel_rfl) (by kernel_rfl) (by kernel_rfl)) ?_
  intro W base args ds gs before hval0 hW hcnd _
  have hval : ∀ (j : Nat) t v, Try.f5.params[j]? = some t → args[j]? = some v → Value.okWide Try.prog W .any base t v := hval0
  have hW' := hW
  obtain ⟨p, q, hA0, hV, rfl, hfz, hnd⟩ := hW
  have hA : DataW.TrodAll enc Try.prog W 0 (fun _ => true) true Try.f5.params.toList args.toList ds p := hA0
  rw [Try.params5] at hA hval
  obtain ⟨v0, vs0, d0, ds0, p0, q0, hargs, rfl, rfl, h0, r0⟩ := trodAll_cons hA
  obtain ⟨v1, vs1, d1, ds1, p1, q1, rfl, rfl, rfl, h1, r1⟩ := trodAll_cons r0
  obtain ⟨v2, vs2, d2, ds2, p2, q2, rfl, rfl, rfl, h2, r2⟩ := trodAll_cons r1
  obtain ⟨rfl, rfl, rfl⟩ := trodAll_nil r2
  obtain rfl : args = #[v0, v1, v2] := by cases args; simp_all
  obtain ⟨rfl, rfl⟩ := trodVars_none hV
  obtain ⟨a0, len0, cap0, rfl⟩ := okWide_slice Try.underlying23 (hval 0 23 v0 rfl rfl)
  obtain ⟨z0, i0, hc0, hm0, _⟩ := open_nat h0
  obtain ⟨a1, len1, cap1, rfl⟩ := okWide_slice Try.underlying23 (hval 1 23 v1 rfl rfl)
  obtain ⟨z1, i1, hc1, hm1, _⟩ := open_nat h1
  obtain ⟨a2, len2, cap2, rfl⟩ := okWide_slice Try.underlying23 (hval 2 23 v2 rfl rfl)
  obtain ⟨z2, i2, hc2, hm2, _⟩ := open_nat h2
  clear hA0 hval0
  refine (walk a0 len0 cap0 z0 a1 len1 cap1 z1 a2 len2 cap2 z2 W i0 hc0 hm0 i1 hc1 hm1 i2 hc2 hm2).mono fun e W' ⟨he, bel⟩ => ?_
  subst he
  exact ⟨_, rfl, _, _, _, [], _, [], hW', trodAll_mk1 (shut_bool Try.underlying4 _), (trodAll_cons_mk (Below.trod laidOut (by kernel_rfl) (of_decide_eq_true (by kernel_rfl)) h0 bel (places_lt h0)) (trodAll_cons_mk (Below.trod laidOut (by kernel_rfl) (of_decide_eq_true (by kernel_rfl)) h1 bel (places_lt h1)) (trodAll_cons_mk (Below.trod laidOut (by kernel_rfl) (of_decide_eq_true (by kernel_rfl)) h2 bel (places_lt h2)) trodAll_mk0))), rfl, bel.frame _, fun h => by cases h⟩

theorem over : Rows.natOrderRow.holds Try.pinned (OpenSpec.ofChange Rows.natOrderSpec) :=
  OpenClaim.holds_of_wide 5 Try.f5 rfl rfl rfl rfl rfl rfl rfl ⟨rfl, rfl, rfl, rfl, rfl⟩ rfl rfl rfl rfl rfl (by kernel_rfl) Try.func5 (by kernel_rfl)
    (of_decide_eq_true (by kernel_rfl)) (by unfold Func.isWrapper; first | (rw [if_pos (by decide +kernel)]; kernel_rfl) | (rw [if_neg (by decide +kernel)]; exact ⟨rfl, rfl⟩))
    (fun os started H enc _ => lifted os started H enc)

theorem proved : Rows.NatOrderSaid := over

end Go.Proofs.Ythcacnlajfidoaa.lawNatOrder
