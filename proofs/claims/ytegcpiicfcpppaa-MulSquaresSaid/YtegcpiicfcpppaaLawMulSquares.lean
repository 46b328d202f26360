/- Of any two lists of limbs: the square of a sum is both squares and twice the product, a difference of squares is a product. No condition. -/
import Derived.Test.YtegcpiicfcpppaaOpen
import Derived.Test.YtegcpiicfcpppaaMulW
namespace Go.Proofs.Ytegcpiicfcpppaa.lawMulSquares
open Go.ChangeShapes Go.WideShapes Go.ChangeAt Go.RowKit Limb
set_option linter.unusedVariables false

theorem square_sum (a b : Nat) : (a + b) * (a + b) = a * a + b * b + a * b * 2 := by
  rw [Nat.mul_add, Nat.add_mul, Nat.add_mul, Nat.mul_comm b a]; omega

set_option maxHeartbeats 2000000 in
theorem walk (A_a : Option Addr) (n_a c_a : Nat) (xs_a : List Nat) (A_b : Option Addr) (n_b c_b : Nat) (xs_b : List Nat) (w : World) (i_a : IsN w A_a n_a xs_a) (hc_a : n_a ≤ c_a) (hm_a : c_a ≤ maxLen) (i_b : IsN w A_b n_b xs_b) (hc_b : n_b ≤ c_b) (hm_b : c_b ≤ maxLen) :
    Calls Try.prog 6 #[.slice A_a n_a c_a, .slice A_b n_b c_b] w fun e w' => e = .returned (.bool true) ∧ Below w.heap.size w w' := by
  have bw := bel_refl w
  have hx_a : (n_a : Int) ≤ 9223372036854775807 := by have := Nat.le_trans hc_a hm_a; unfold maxLen at this; omega
  have hx_b : (n_b : Int) ≤ 9223372036854775807 := by have := Nat.le_trans hc_b hm_b; unfold maxLen at this; omega
  by_cases l_a : 40 < n_a
  · go_enter Try.func6, Try.ntmps6
    go_wp2_with fail
    refine (wakes_any w).mono ?_
    rintro e w1 ⟨rfl, bn⟩
    replace bw := below_two bw bn
    clear bn
    go_wp2
    go_ret
    exact ⟨rfl, bw⟩
  by_cases l_b : 40 < n_b
  · go_enter Try.func6, Try.ntmps6
    go_wp2_with fail
    refine (wakes_any w).mono ?_
    rintro e w1 ⟨rfl, bn⟩
    replace bw := below_two bw bn
    clear bn
    go_wp2
    go_ret
    exact ⟨rfl, bw⟩
  have h_a : NN w A_a n_a c_a xs_a (Limb.val xs_a) 40 := ⟨i_a, rfl, hc_a, by omega⟩
  have h_b : NN w A_b n_b c_b xs_b (Limb.val xs_b) 40 := ⟨i_b, rfl, hc_b, by omega⟩
  rcases Nat.lt_trichotomy (Limb.val xs_a) (Limb.val xs_b) with ho | ho | ho
  · have Ho := Lib.hid ho
    clear ho
    go_enter Try.func6, Try.ntmps6
    go_wp2_with fail
    refine (add_c h_a h_b 41 (by decide) (by decide) (by decide)).mono ?_
    rintro e w1 ⟨A_s, n_s, c_s, rfl, h_s, bn⟩
    replace h_a := h_a.below bn
    replace h_b := h_b.below bn
    replace bw := below_two bw bn
    clear bn
    go_wp2_with fail
    refine (mulOf_c h_a h_b 80 (by decide) (by decide) (by decide)).mono ?_
    rintro e w2 ⟨A_p, n_p, c_p, rfl, h_p, bn⟩
    replace h_a := h_a.below bn
    replace h_b := h_b.below bn
    replace h_s := h_s.below bn
    replace bw := below_two bw bn
    clear bn
    go_wp2_with fail
    refine (mulOf_c h_s h_s 82 (by decide) (by decide) (by decide)).mono ?_
    rintro e w3 ⟨A_q, n_q, c_q, rfl, h_q, bn⟩
    replace h_a := h_a.below bn
    replace h_b := h_b.below bn
    replace h_s := h_s.below bn
    replace h_p := h_p.below bn
    replace bw := below_two bw bn
    clear bn
    go_wp2_with fail
    refine (mulOf_c h_a h_a 80 (by decide) (by decide) (by decide)).mono ?_
    rintro e w4 ⟨A_x, n_x, c_x, rfl, h_x, bn⟩
    replace h_a := h_a.below bn
    replace h_b := h_b.below bn
    replace h_s := h_s.below bn
    replace h_p := h_p.below bn
    replace h_q := h_q.below bn
    replace bw := below_two bw bn
    clear bn
    go_wp2_with fail
    refine (mulOf_c h_b h_b 80 (by decide) (by decide) (by decide)).mono ?_
    rintro e w5 ⟨A_y, n_y, c_y, rfl, h_y, bn⟩
    replace h_a := h_a.below bn
    replace h_b := h_b.below bn
    replace h_s := h_s.below bn
    replace h_p := h_p.below bn
    replace h_q := h_q.below bn
    replace h_x := h_x.below bn
    replace bw := below_two bw bn
    clear bn
    go_wp2_with fail
    refine (add_c h_x h_y 81 (by decide) (by decide) (by decide)).mono ?_
    rintro e w6 ⟨A_z, n_z, c_z, rfl, h_z, bn⟩
    replace h_a := h_a.below bn
    replace h_b := h_b.below bn
    replace h_s := h_s.below bn
    replace h_p := h_p.below bn
    replace h_q := h_q.below bn
    replace h_x := h_x.below bn
    replace h_y := h_y.below bn
    replace bw := below_two bw bn
    clear bn
    clear h_x h_y
    go_wp2_with fail
    refine (mulSmall_c h_p 2 2 rfl (by decide) (by decide)).mono ?_
    rintro e w7 ⟨A_u, n_u, c_u, rfl, h_u, bn⟩
    replace h_a := h_a.below bn
    replace h_b := h_b.below bn
    replace h_s := h_s.below bn
    replace h_p := h_p.below bn
    replace h_q := h_q.below bn
    replace h_z := h_z.below bn
    replace bw := below_two bw bn
    clear bn
    clear h_p
    go_wp2_with fail
    refine (add_c h_z h_u 82 (by decide) (by decide) (by decide)).mono ?_
    rintro e w8 ⟨A_v, n_v, c_v, rfl, h_v, bn⟩
    replace h_a := h_a.below bn
    replace h_b := h_b.below bn
    replace h_s := h_s.below bn
    replace h_q := h_q.below bn
    replace h_z := h_z.below bn
    replace h_u := h_u.below bn
    replace bw := below_two bw bn
    clear bn
    clear h_z h_u
    go_wp2_with fail
    refine (keep_c h_q h_v (by decide) (by decide) true (same_limbs (square_sum _ _))).mono ?_
    rintro e w9 ⟨rfl, bn⟩
    replace h_a := h_a.below bn
    replace h_b := h_b.below bn
    replace h_s := h_s.below bn
    replace h_q := h_q.below bn
    replace h_v := h_v.below bn
    replace bw := below_two bw bn
    clear bn
    clear h_q h_v
    go_wp2_with fail
    refine (cmp_c h_a h_b (by decide) (by decide) (-1) (cmpI_lt Ho.out)).mono ?_
    rintro e w10 ⟨rfl, bn⟩
    replace h_a := h_a.below bn
    replace h_b := h_b.below bn
    replace h_s := h_s.below bn
    replace bw := below_two bw bn
    clear bn
    go_wp2_with fail
    refine (wakes_any w10).mono ?_
    rintro e w11 ⟨rfl, bn⟩
    replace h_a := h_a.below bn
    replace h_b := h_b.below bn
    replace h_s := h_s.below bn
    replace bw := below_two bw bn
    clear bn
    go_wp2
    go_ret
    exact ⟨rfl, bw⟩
  · have Ho := Lib.hid ho
    clear ho
    go_enter Try.func6, Try.ntmps6
    go_wp2_with fail
    refine (add_c h_a h_b 41 (by decide) (by decide) (by decide)).mono ?_
    rintro e w1 ⟨A_s, n_s, c_s, rfl, h_s, bn⟩
    replace h_a := h_a.below bn
    replace h_b := h_b.below bn
    replace bw := below_two bw bn
    clear bn
    go_wp2_with fail
    refine (mulOf_c h_a h_b 80 (by decide) (by decide) (by decide)).mono ?_
    rintro e w2 ⟨A_p, n_p, c_p, rfl, h_p, bn⟩
    replace h_a := h_a.below bn
    replace h_b := h_b.below bn
    replace h_s := h_s.below bn
    replace bw := below_two bw bn
    clear bn
    go_wp2_with fail
    refine (mulOf_c h_s h_s 82 (by decide) (by decide) (by decide)).mono ?_
    rintro e w3 ⟨A_q, n_q, c_q, rfl, h_q, bn⟩
    replace h_a := h_a.below bn
    replace h_b := h_b.below bn
    replace h_s := h_s.below bn
    replace h_p := h_p.below bn
    replace bw := below_two bw bn
    clear bn
    go_wp2_with fail
    refine (mulOf_c h_a h_a 80 (by decide) (by decide) (by decide)).mono ?_
    rintro e w4 ⟨A_x, n_x, c_x, rfl, h_x, bn⟩
    replace h_a := h_a.below bn
    replace h_b := h_b.below bn
    replace h_s := h_s.below bn
    replace h_p := h_p.below bn
    replace h_q := h_q.below bn
    replace bw := below_two bw bn
    clear bn
    go_wp2_with fail
    refine (mulOf_c h_b h_b 80 (by decide) (by decide) (by decide)).mono ?_
    rintro e w5 ⟨A_y, n_y, c_y, rfl, h_y, bn⟩
    replace h_a := h_a.below bn
    replace h_b := h_b.below bn
    replace h_s := h_s.below bn
    replace h_p := h_p.below bn
    replace h_q := h_q.below bn
    replace h_x := h_x.below bn
    replace bw := below_two bw bn
    clear bn
    go_wp2_with fail
    refine (add_c h_x h_y 81 (by decide) (by decide) (by decide)).mono ?_
    rintro e w6 ⟨A_z, n_z, c_z, rfl, h_z, bn⟩
    replace h_a := h_a.below bn
    replace h_b := h_b.below bn
    replace h_s := h_s.below bn
    replace h_p := h_p.below bn
    replace h_q := h_q.below bn
    replace h_x := h_x.below bn
    replace h_y := h_y.below bn
    replace bw := below_two bw bn
    clear bn
    clear h_x h_y
    go_wp2_with fail
    refine (mulSmall_c h_p 2 2 rfl (by decide) (by decide)).mono ?_
    rintro e w7 ⟨A_u, n_u, c_u, rfl, h_u, bn⟩
    replace h_a := h_a.below bn
    replace h_b := h_b.below bn
    replace h_s := h_s.below bn
    replace h_p := h_p.below bn
    replace h_q := h_q.below bn
    replace h_z := h_z.below bn
    replace bw := below_two bw bn
    clear bn
    clear h_p
    go_wp2_with fail
    refine (add_c h_z h_u 82 (by decide) (by decide) (by decide)).mono ?_
    rintro e w8 ⟨A_v, n_v, c_v, rfl, h_v, bn⟩
    replace h_a := h_a.below bn
    replace h_b := h_b.below bn
    replace h_s := h_s.below bn
    replace h_q := h_q.below bn
    replace h_z := h_z.below bn
    replace h_u := h_u.below bn
    replace bw := below_two bw bn
    clear bn
    clear h_z h_u
    go_wp2_with fail
    refine (keep_c h_q h_v (by decide) (by decide) true (same_limbs (square_sum _ _))).mono ?_
    rintro e w9 ⟨rfl, bn⟩
    replace h_a := h_a.below bn
    replace h_b := h_b.below bn
    replace h_s := h_s.below bn
    replace h_q := h_q.below bn
    replace h_v := h_v.below bn
    replace bw := below_two bw bn
    clear bn
    clear h_q h_v
    go_wp2_with fail
    refine (cmp_c h_a h_b (by decide) (by decide) 0 (cmpI_same Ho.out)).mono ?_
    rintro e w10 ⟨rfl, bn⟩
    replace h_a := h_a.below bn
    replace h_b := h_b.below bn
    replace h_s := h_s.below bn
    replace bw := below_two bw bn
    clear bn
    go_wp2_with fail
    refine (sub_yes h_a h_b (by decide) (by decide) (Nat.le_of_eq Ho.out.symm)).mono ?_
    rintro e w11 ⟨A_d, n_d, c_d, rfl, h_d, bn⟩
    replace h_a := h_a.below bn
    replace h_b := h_b.below bn
    replace h_s := h_s.below bn
    replace bw := below_two bw bn
    clear bn
    go_wp2_with fail
    refine (mulOf_c h_a h_a 80 (by decide) (by decide) (by decide)).mono ?_
    rintro e w12 ⟨A_x, n_x, c_x, rfl, h_x, bn⟩
    replace h_a := h_a.below bn
    replace h_b := h_b.below bn
    replace h_s := h_s.below bn
    replace h_d := h_d.below bn
    replace bw := below_two bw bn
    clear bn
    go_wp2_with fail
    refine (mulOf_c h_b h_b 80 (by decide) (by decide) (by decide)).mono ?_
    rintro e w13 ⟨A_y, n_y, c_y, rfl, h_y, bn⟩
    replace h_a := h_a.below bn
    replace h_b := h_b.below bn
    replace h_s := h_s.below bn
    replace h_d := h_d.below bn
    replace h_x := h_x.below bn
    replace bw := below_two bw bn
    clear bn
    go_wp2_with fail
    refine (sub_yes h_x h_y (by decide) (by decide) (Nat.mul_le_mul (Nat.le_of_eq Ho.out.symm) (Nat.le_of_eq Ho.out.symm))).mono ?_
    rintro e w14 ⟨A_q, n_q, c_q, rfl, h_q, bn⟩
    replace h_a := h_a.below bn
    replace h_b := h_b.below bn
    replace h_s := h_s.below bn
    replace h_d := h_d.below bn
    replace h_x := h_x.below bn
    replace h_y := h_y.below bn
    replace bw := below_two bw bn
    clear bn
    clear h_x h_y
    go_wp2_with fail
    refine (mulOf_c h_s h_d 81 (by decide) (by decide) (by decide)).mono ?_
    rintro e w15 ⟨A_z, n_z, c_z, rfl, h_z, bn⟩
    replace h_a := h_a.below bn
    replace h_b := h_b.below bn
    replace h_s := h_s.below bn
    replace h_d := h_d.below bn
    replace h_q := h_q.below bn
    replace bw := below_two bw bn
    clear bn
    go_wp2_with fail
    refine (keep_c h_z h_q (by decide) (by decide) true (same_limbs (Nat.mul_self_sub_mul_self_eq _ _).symm)).mono ?_
    rintro e w16 ⟨rfl, bn⟩
    replace h_a := h_a.below bn
    replace h_b := h_b.below bn
    replace h_s := h_s.below bn
    replace h_d := h_d.below bn
    replace h_q := h_q.below bn
    replace h_z := h_z.below bn
    replace bw := below_two bw bn
    clear bn
    clear h_z h_q h_d
    go_wp2_with fail
    refine (wakes_any w16).mono ?_
    rintro e w17 ⟨rfl, bn⟩
    replace h_a := h_a.below bn
    replace h_b := h_b.below bn
    replace h_s := h_s.below bn
    replace bw := below_two bw bn
    clear bn
    go_wp2
    go_ret
    exact ⟨rfl, bw⟩
  · have Ho := Lib.hid ho
    clear ho
    go_enter Try.func6, Try.ntmps6
    go_wp2_with fail
    refine (add_c h_a h_b 41 (by decide) (by decide) (by decide)).mono ?_
    rintro e w1 ⟨A_s, n_s, c_s, rfl, h_s, bn⟩
    replace h_a := h_a.below bn
    replace h_b := h_b.below bn
    replace bw := below_two bw bn
    clear bn
    go_wp2_with fail
    refine (mulOf_c h_a h_b 80 (by decide) (by decide) (by decide)).mono ?_
    rintro e w2 ⟨A_p, n_p, c_p, rfl, h_p, bn⟩
    replace h_a := h_a.below bn
    replace h_b := h_b.below bn
    replace h_s := h_s.below bn
    replace bw := below_two bw bn
    clear bn
    go_wp2_with fail
    refine (mulOf_c h_s h_s 82 (by decide) (by decide) (by decide)).mono ?_
    rintro e w3 ⟨A_q, n_q, c_q, rfl, h_q, bn⟩
    replace h_a := h_a.below bn
    replace h_b := h_b.below bn
    replace h_s := h_s.below bn
    replace h_p := h_p.below bn
    replace bw := below_two bw bn
    clear bn
    go_wp2_with fail
    refine (mulOf_c h_a h_a 80 (by decide) (by decide) (by decide)).mono ?_
    rintro e w4 ⟨A_x, n_x, c_x, rfl, h_x, bn⟩
    replace h_a := h_a.below bn
    replace h_b := h_b.below bn
    replace h_s := h_s.below bn
    replace h_p := h_p.below bn
    replace h_q := h_q.below bn
    replace bw := below_two bw bn
    clear bn
    go_wp2_with fail
    refine (mulOf_c h_b h_b 80 (by decide) (by decide) (by decide)).mono ?_
    rintro e w5 ⟨A_y, n_y, c_y, rfl, h_y, bn⟩
    replace h_a := h_a.below bn
    replace h_b := h_b.below bn
    replace h_s := h_s.below bn
    replace h_p := h_p.below bn
    replace h_q := h_q.below bn
    replace h_x := h_x.below bn
    replace bw := below_two bw bn
    clear bn
    go_wp2_with fail
    refine (add_c h_x h_y 81 (by decide) (by decide) (by decide)).mono ?_
    rintro e w6 ⟨A_z, n_z, c_z, rfl, h_z, bn⟩
    replace h_a := h_a.below bn
    replace h_b := h_b.below bn
    replace h_s := h_s.below bn
    replace h_p := h_p.below bn
    replace h_q := h_q.below bn
    replace h_x := h_x.below bn
    replace h_y := h_y.below bn
    replace bw := below_two bw bn
    clear bn
    clear h_x h_y
    go_wp2_with fail
    refine (mulSmall_c h_p 2 2 rfl (by decide) (by decide)).mono ?_
    rintro e w7 ⟨A_u, n_u, c_u, rfl, h_u, bn⟩
    replace h_a := h_a.below bn
    replace h_b := h_b.below bn
    replace h_s := h_s.below bn
    replace h_p := h_p.below bn
    replace h_q := h_q.below bn
    replace h_z := h_z.below bn
    replace bw := below_two bw bn
    clear bn
    clear h_p
    go_wp2_with fail
    refine (add_c h_z h_u 82 (by decide) (by decide) (by decide)).mono ?_
    rintro e w8 ⟨A_v, n_v, c_v, rfl, h_v, bn⟩
    replace h_a := h_a.below bn
    replace h_b := h_b.below bn
    replace h_s := h_s.below bn
    replace h_q := h_q.below bn
    replace h_z := h_z.below bn
    replace h_u := h_u.below bn
    replace bw := below_two bw bn
    clear bn
    clear h_z h_u
    go_wp2_with fail
    refine (keep_c h_q h_v (by decide) (by decide) true (same_limbs (square_sum _ _))).mono ?_
    rintro e w9 ⟨rfl, bn⟩
    replace h_a := h_a.below bn
    replace h_b := h_b.below bn
    replace h_s := h_s.below bn
    replace h_q := h_q.below bn
    replace h_v := h_v.below bn
    replace bw := below_two bw bn
    clear bn
    clear h_q h_v
    go_wp2_with fail
    refine (cmp_c h_a h_b (by decide) (by decide) 1 (cmpI_gt Ho.out)).mono ?_
    rintro e w10 ⟨rfl, bn⟩
    replace h_a := h_a.below bn
    replace h_b := h_b.below bn
    replace h_s := h_s.below bn
    replace bw := below_two bw bn
    clear bn
    go_wp2_with fail
    refine (sub_yes h_a h_b (by decide) (by decide) (Nat.le_of_lt Ho.out)).mono ?_
    rintro e w11 ⟨A_d, n_d, c_d, rfl, h_d, bn⟩
    replace h_a := h_a.below bn
    replace h_b := h_b.below bn
    replace h_s := h_s.below bn
    replace bw := below_two bw bn
    clear bn
    go_wp2_with fail
    refine (mulOf_c h_a h_a 80 (by decide) (by decide) (by decide)).mono ?_
    rintro e w12 ⟨A_x, n_x, c_x, rfl, h_x, bn⟩
    replace h_a := h_a.below bn
    replace h_b := h_b.below bn
    replace h_s := h_s.below bn
    replace h_d := h_d.below bn
    replace bw := below_two bw bn
    clear bn
    go_wp2_with fail
    refine (mulOf_c h_b h_b 80 (by decide) (by decide) (by decide)).mono ?_
    rintro e w13 ⟨A_y, n_y, c_y, rfl, h_y, bn⟩
    replace h_a := h_a.below bn
    replace h_b := h_b.below bn
    replace h_s := h_s.below bn
    replace h_d := h_d.below bn
    replace h_x := h_x.below bn
    replace bw := below_two bw bn
    clear bn
    go_wp2_with fail
    refine (sub_yes h_x h_y (by decide) (by decide) (Nat.mul_le_mul (Nat.le_of_lt Ho.out) (Nat.le_of_lt Ho.out))).mono ?_
    rintro e w14 ⟨A_q, n_q, c_q, rfl, h_q, bn⟩
    replace h_a := h_a.below bn
    replace h_b := h_b.below bn
    replace h_s := h_s.below bn
    replace h_d := h_d.below bn
    replace h_x := h_x.below bn
    replace h_y := h_y.below bn
    replace bw := below_two bw bn
    clear bn
    clear h_x h_y
    go_wp2_with fail
    refine (mulOf_c h_s h_d 81 (by decide) (by decide) (by decide)).mono ?_
    rintro e w15 ⟨A_z, n_z, c_z, rfl, h_z, bn⟩
    replace h_a := h_a.below bn
    replace h_b := h_b.below bn
    replace h_s := h_s.below bn
    replace h_d := h_d.below bn
    replace h_q := h_q.below bn
    replace bw := below_two bw bn
    clear bn
    go_wp2_with fail
    refine (keep_c h_z h_q (by decide) (by decide) true (same_limbs (Nat.mul_self_sub_mul_self_eq _ _).symm)).mono ?_
    rintro e w16 ⟨rfl, bn⟩
    replace h_a := h_a.below bn
    replace h_b := h_b.below bn
    replace h_s := h_s.below bn
    replace h_d := h_d.below bn
    replace h_q := h_q.below bn
    replace h_z := h_z.below bn
    replace bw := below_two bw bn
    clear bn
    clear h_z h_q h_d
    go_wp2_with fail
    refine (wakes_any w16).mono ?_
    rintro e w17 ⟨rfl, bn⟩
    replace h_a := h_a.below bn
    replace h_b := h_b.below bn
    replace h_s := h_s.below bn
    replace bw := below_two bw bn
    clear bn
    go_wp2
    go_ret
    exact ⟨rfl, bw⟩

set_option maxRecDepth 100000 in
theorem lifted (os : Os) (started : os.Started) (H : Type) (enc : TypeId × Value → H) :
    ReturnsInHanded {} Try.checked os 6 .any (Rows.mulSquaresSpec.pre6 enc Try.prog Try.f6 Rows.mulSquaresRow.domain false) (Rows.mulSquaresSpec.post enc Try.prog Try.f6 false true false false) := by
  refine returnsInHanded_of_change (C := Try.checked) own started (by kernel_rfl) Try.func6
    (ChangeSpec.witness6 (enc := enc) (C := Try.checked) false ⟨#[], #[.slice none 0 0, .slice none 0 0], []⟩ 8 (by kernel_rfl) (by kernel_rfl) (by kernel_rfl) (by kernel_rfl)) ?_
  intro W base args ds gs before hval0 hW hcnd _
  have hval : ∀ (j : Nat) t v, Try.f6.params[j]? = some t → args[j]? = some v → Value.okWide Try.prog W .any base t v := hval0
  have hW' := hW
  obtain ⟨p, q, hA0, hV, rfl, hfz, hnd⟩ := hW
  have hA : DataW.TrodAll enc Try.prog W 0 (fun _ => true) true Try.f6.params.toList args.toList ds p := hA0
  rw [Try.params6] at hA hval
  obtain ⟨v0, vs0, d0, ds0, p0, q0, hargs, rfl, rfl, h0, r0⟩ := trodAll_cons hA
  obtain ⟨v1, vs1, d1, ds1, p1, q1, rfl, rfl, rfl, h1, r1⟩ := trodAll_cons r0
  obtain ⟨rfl, rfl, rfl⟩ := trodAll_nil r1
  obtain rfl : args = #[v0, v1] := by cases args; simp_all
  obtain ⟨rfl, rfl⟩ := trodVars_none hV
  obtain ⟨a0, len0, cap0, rfl⟩ := okWide_slice Try.underlying23 (hval 0 23 v0 rfl rfl)
  obtain ⟨z0, i0, hc0, hm0, _⟩ := open_nat h0
  obtain ⟨a1, len1, cap1, rfl⟩ := okWide_slice Try.underlying23 (hval 1 23 v1 rfl rfl)
  obtain ⟨z1, i1, hc1, hm1, _⟩ := open_nat h1
  clear hA0 hval0
  refine (walk a0 len0 cap0 z0 a1 len1 cap1 z1 W i0 hc0 hm0 i1 hc1 hm1).mono fun e W' ⟨he, bel⟩ => ?_
  subst he
  exact ⟨_, rfl, _, _, _, [], _, [], hW', trodAll_mk1 (shut_bool Try.underlying4 _), (trodAll_cons_mk (Below.trod laidOut (by kernel_rfl) (of_decide_eq_true (by kernel_rfl)) h0 bel (places_lt h0)) (trodAll_cons_mk (Below.trod laidOut (by kernel_rfl) (of_decide_eq_true (by kernel_rfl)) h1 bel (places_lt h1)) trodAll_mk0)), rfl, bel.frame _, fun h => by cases h⟩

theorem over : Rows.mulSquaresRow.holds Try.pinned (OpenSpec.ofChange Rows.mulSquaresSpec) :=
  OpenClaim.holds_of_wide 6 Try.f6 rfl rfl rfl rfl rfl rfl rfl ⟨rfl, rfl, rfl, rfl, rfl⟩ rfl rfl rfl rfl rfl (by kernel_rfl) Try.func6 (by kernel_rfl)
    (of_decide_eq_true (by kernel_rfl)) (by unfold Func.isWrapper; first | (rw [if_pos (by decide +kernel)]; kernel_rfl) | (rw [if_neg (by decide +kernel)]; exact ⟨rfl, rfl⟩))
    (fun os started H enc _ => lifted os started H enc)

theorem proved : Rows.MulSquaresSaid := over

end Go.Proofs.Ytegcpiicfcpppaa.lawMulSquares
