/- Of any two lists of limbs: of a greater number the root is not less, of four times a number it is twice the root or one more, moved by two bits by one. No condition. -/
import Derived.Test.YtahogponokafcaaOpen
import Derived.Test.YtahogponokafcaaRootW
namespace Go.Proofs.Ytahogponokafcaa.lawRootOrder
open Go.ChangeShapes Go.WideShapes Go.ChangeAt Go.RowKit Limb
set_option linter.unusedVariables false

theorem wf_u8 {n : Int} (h : (Lit.int .u8 n).wf = true) : 0 ≤ n ∧ n < 256 := by
  have h1 : IntKind.u8.min = 0 := rfl
  have h2 : IntKind.u8.max = 255 := rfl
  simp only [Lit.wf, Bool.and_eq_true, decide_eq_true_eq] at h
  omega

theorem up_room2 {X k : Nat} (h : X < 4294967296 ^ 40) (hk : k ≤ 39) : X * 2 ^ k < 4294967296 ^ 42 := by
  have h2 : 2 ^ k < 4294967296 ^ 2 := by rw [pow32]; exact Nat.pow_lt_pow_right (by decide) (by omega)
  have e : 4294967296 ^ 42 = 4294967296 ^ 40 * 4294967296 ^ 2 := by rw [← Nat.pow_add]
  rw [e]
  exact Nat.mul_lt_mul'' h h2

set_option maxHeartbeats 4000000 in
theorem walk (A_a : Option Addr) (n_a c_a : Nat) (xs_a : List Nat) (A_b : Option Addr) (n_b c_b : Nat) (xs_b : List Nat) (v_n : Int) (w : World) (i_a : IsN w A_a n_a xs_a) (hc_a : n_a ≤ c_a) (hm_a : c_a ≤ maxLen) (i_b : IsN w A_b n_b xs_b) (hc_b : n_b ≤ c_b) (hm_b : c_b ≤ maxLen) (f_n : (Lit.int .u8 v_n).wf = true) :
    Calls Try.prog 5 #[.slice A_a n_a c_a, .slice A_b n_b c_b, .int .u8 v_n] w fun e w' => e = .returned (.bool true) ∧ Below w.heap.size w w' := by
  have bw := bel_refl w
  have hx_a : (n_a : Int) ≤ 9223372036854775807 := by have := Nat.le_trans hc_a hm_a; unfold maxLen at this; omega
  have hx_b : (n_b : Int) ≤ 9223372036854775807 := by have := Nat.le_trans hc_b hm_b; unfold maxLen at this; omega
  by_cases l_a : 40 < n_a
  · go_enter Try.func5, Try.ntmps5
    go_wp2_with fail
    refine (wakes_any w).mono ?_
    rintro e w1 ⟨rfl, bn⟩
    replace bw := below_two bw bn
    clear bn
    go_wp2
    go_ret
    exact ⟨rfl, bw⟩
  by_cases l_b : 40 < n_b
  · go_enter Try.func5, Try.ntmps5
    go_wp2_with fail
    refine (wakes_any w).mono ?_
    rintro e w1 ⟨rfl, bn⟩
    replace bw := below_two bw bn
    clear bn
    go_wp2
    go_ret
    exact ⟨rfl, bw⟩
  have h_a : NN w A_a n_a c_a xs_a (Limb.val xs_a) 40 := ⟨i_a, rfl, hc_a, by omega⟩
  have h_b : NN w A_b n_b c_b xs_b (Limb.val xs_b) 40 := ⟨i_b, rfl, hc_b, by omega⟩
  have hn := wf_u8 f_n
  obtain ⟨N, rfl⟩ := Int.eq_ofNat_of_zero_le hn.1
  obtain ⟨k, hk⟩ : ∃ k, k = N % 40 := ⟨_, rfl⟩
  have ek : (N : Int) % 40 = (k : Int) := by omega
  have hk2 : k ≤ 39 := by omega
  have hN : N < 256 := by omega
  obtain ⟨X, hX⟩ : ∃ X, X = rootN (Limb.val xs_a) := ⟨_, rfl⟩
  have HXl : RowKit.Hid (X < 4294967296 ^ 40) := by show _ < _; rw [hX]; exact Nat.lt_of_le_of_lt (rootN_le_self _) (lt_pow h_a)
  obtain ⟨v1, hv1, g1⟩ : ∃ v : Int, cmpI (rootN (Limb.val xs_a)) (rootN ((Limb.val xs_a) + (Limb.val xs_b))) = v ∧ v ≤ 0 := ⟨_, rfl, cmpI_le (rootN_mono (Nat.le_add_right _ _))⟩
  obtain ⟨v2, hv2, g2⟩ : ∃ v : Int, cmpI (ceilN (Limb.val xs_a)) (ceilN ((Limb.val xs_a) + (Limb.val xs_b))) = v ∧ v ≤ 0 := ⟨_, rfl, cmpI_le (ceilN_mono (Nat.le_add_right _ _))⟩
  rw [← hX] at hv1
  have Hv1 := Lib.hid hv1
  have Hv2 := Lib.hid hv2
  have HX := Lib.hid hX
  have S1 : RowKit.Hid (shiftV (X * X) (2 * (k : Int)) = X * 2 ^ k * (X * 2 ^ k)) := by
    show _ = _
    rw [shiftV_up (k := 2 * k) (by omega) (by omega), Nat.mul_mul_mul_comm, ← Nat.pow_add, show 2 * k = k + k by omega]
  have S2 : RowKit.Hid (shiftV X (k : Int) = X * 2 ^ k) := shiftV_up (by omega) (by omega)
  have S4 : RowKit.Hid (X * 2 ^ k < 4294967296 ^ 42) := up_room2 HXl.out (by omega)
  have S3 : RowKit.Hid (X * 2 ^ k * (X * 2 ^ k) < 4294967296 ^ 84) := by
    show _ < _
    have h := Nat.mul_lt_mul'' S4.out S4.out
    rwa [← Nat.pow_add] at h
  have S5 := Lib.hid (squareN_sq (X * 2 ^ k))
  have S6 := Lib.hid (rootN_sq (X * 2 ^ k))
  have four := rootN_four (Limb.val xs_a)
  rw [← hX] at four
  clear hn hk f_n hv1 hv2 hX
  rcases four with hf | hf
  · have Hf := Lib.hid hf
    clear hf
    go_enter Try.func5, Try.ntmps5
    go_wp2_with fail
    refine (rootFloor_c h_a (by decide) _ rfl).mono ?_
    rintro e w1 ⟨A_x, n_x, c_x, rfl, h_x, bn⟩
    replace h_a := h_a.below bn
    replace h_b := h_b.below bn
    replace bw := below_two bw bn
    clear bn
    rw [← HX.out] at h_x
    go_wp2_with fail
    refine (add_c h_a h_b 41 (by decide) (by decide) (by decide)).mono ?_
    rintro e w2 ⟨A_s, n_s, c_s, rfl, h_s, bn⟩
    replace h_a := h_a.below bn
    replace h_b := h_b.below bn
    replace h_x := h_x.below bn
    replace bw := below_two bw bn
    clear bn
    go_wp2_with fail
    refine (rootFloor_c h_s (by decide) _ rfl).mono ?_
    rintro e w3 ⟨A_y, n_y, c_y, rfl, h_y, bn⟩
    replace h_a := h_a.below bn
    replace h_b := h_b.below bn
    replace h_x := h_x.below bn
    replace h_s := h_s.below bn
    replace bw := below_two bw bn
    clear bn
    clear h_s
    go_wp2_with fail
    refine (mulSmall_c h_a 4 4 rfl (by decide) (by decide)).mono ?_
    rintro e w4 ⟨A_s, n_s, c_s, rfl, h_s, bn⟩
    replace h_a := h_a.below bn
    replace h_b := h_b.below bn
    replace h_x := h_x.below bn
    replace h_y := h_y.below bn
    replace bw := below_two bw bn
    clear bn
    go_wp2_with fail
    refine (rootFloor_c h_s (by decide) _ rfl).mono ?_
    rintro e w5 ⟨A_z, n_z, c_z, rfl, h_z, bn⟩
    replace h_a := h_a.below bn
    replace h_b := h_b.below bn
    replace h_x := h_x.below bn
    replace h_y := h_y.below bn
    replace h_s := h_s.below bn
    replace bw := below_two bw bn
    clear bn
    clear h_s
    go_wp2_with fail
    refine (cmp_c h_x h_y (by decide) (by decide) v1 Hv1.out).mono ?_
    rintro e w6 ⟨rfl, bn⟩
    replace h_a := h_a.below bn
    replace h_b := h_b.below bn
    replace h_x := h_x.below bn
    replace h_y := h_y.below bn
    replace h_z := h_z.below bn
    replace bw := below_two bw bn
    clear bn
    clear h_y
    go_wp2_with fail
    refine (rootCeil_c h_a (by decide)).mono ?_
    rintro e w7 ⟨A_u, n_u, c_u, rfl, h_u, bn⟩
    replace h_a := h_a.below bn
    replace h_b := h_b.below bn
    replace h_x := h_x.below bn
    replace h_z := h_z.below bn
    replace bw := below_two bw bn
    clear bn
    go_wp2_with fail
    refine (add_c h_a h_b 41 (by decide) (by decide) (by decide)).mono ?_
    rintro e w8 ⟨A_s, n_s, c_s, rfl, h_s, bn⟩
    replace h_a := h_a.below bn
    replace h_b := h_b.below bn
    replace h_x := h_x.below bn
    replace h_z := h_z.below bn
    replace h_u := h_u.below bn
    replace bw := below_two bw bn
    clear bn
    go_wp2_with fail
    refine (rootCeil_c h_s (by decide)).mono ?_
    rintro e w9 ⟨A_y, n_y, c_y, rfl, h_y, bn⟩
    replace h_a := h_a.below bn
    replace h_b := h_b.below bn
    replace h_x := h_x.below bn
    replace h_z := h_z.below bn
    replace h_u := h_u.below bn
    replace h_s := h_s.below bn
    replace bw := below_two bw bn
    clear bn
    clear h_s
    go_wp2_with fail
    refine (cmp_c h_u h_y (by decide) (by decide) v2 Hv2.out).mono ?_
    rintro e w10 ⟨rfl, bn⟩
    replace h_a := h_a.below bn
    replace h_b := h_b.below bn
    replace h_x := h_x.below bn
    replace h_z := h_z.below bn
    replace h_u := h_u.below bn
    replace h_y := h_y.below bn
    replace bw := below_two bw bn
    clear bn
    clear h_u h_y
    go_wp2_with fail
    refine (mulSmall_c h_x 2 2 rfl (by decide) (by decide)).mono ?_
    rintro e w11 ⟨A_t, n_t, c_t, rfl, h_t, bn⟩
    replace h_a := h_a.below bn
    replace h_b := h_b.below bn
    replace h_x := h_x.below bn
    replace h_z := h_z.below bn
    replace bw := below_two bw bn
    clear bn
    go_wp2_with fail
    refine (keep_c h_z h_t (by decide) (by decide) true (same_limbs Hf.out)).mono ?_
    rintro e w12 ⟨rfl, bn⟩
    replace h_a := h_a.below bn
    replace h_b := h_b.below bn
    replace h_x := h_x.below bn
    replace h_z := h_z.below bn
    replace h_t := h_t.below bn
    replace bw := below_two bw bn
    clear bn
    clear h_z h_t
    go_wp2_with fail
    refine (mulOf_c h_x h_x 80 (by decide) (by decide) (by decide)).mono ?_
    rintro e w13 ⟨A_p, n_p, c_p, rfl, h_p, bn⟩
    replace h_a := h_a.below bn
    replace h_b := h_b.below bn
    replace h_x := h_x.below bn
    replace bw := below_two bw bn
    clear bn
    go_wp2_with fail
    refine (mulShift_c h_p _ (by omega) (by omega) (X * 2 ^ k * (X * 2 ^ k)) 84 (by (try simp only [ek]); with_reducible exact S1.out) S3.out (by decide)).mono ?_
    rintro e w14 ⟨A_s, n_s, c_s, rfl, h_s, bn⟩
    replace h_a := h_a.below bn
    replace h_b := h_b.below bn
    replace h_x := h_x.below bn
    replace h_p := h_p.below bn
    replace bw := below_two bw bn
    clear bn
    clear h_p
    go_wp2_with fail
    refine (rootFloor_c h_s (by decide) true S5.out).mono ?_
    rintro e w15 ⟨A_y, n_y, c_y, rfl, h_y, bn⟩
    replace h_a := h_a.below bn
    replace h_b := h_b.below bn
    replace h_x := h_x.below bn
    replace h_s := h_s.below bn
    replace bw := below_two bw bn
    clear bn
    clear h_s
    go_wp2_with fail
    refine (mulShift_c h_x _ (by omega) (by omega) (X * 2 ^ k) 42 (by (try simp only [ek]); with_reducible exact S2.out) S4.out (by decide)).mono ?_
    rintro e w16 ⟨A_u, n_u, c_u, rfl, h_u, bn⟩
    replace h_a := h_a.below bn
    replace h_b := h_b.below bn
    replace h_x := h_x.below bn
    replace h_y := h_y.below bn
    replace bw := below_two bw bn
    clear bn
    go_wp2_with fail
    refine (keep_c h_y h_u (by decide) (by decide) true (same_limbs S6.out)).mono ?_
    rintro e w17 ⟨rfl, bn⟩
    replace h_a := h_a.below bn
    replace h_b := h_b.below bn
    replace h_x := h_x.below bn
    replace h_y := h_y.below bn
    replace h_u := h_u.below bn
    replace bw := below_two bw bn
    clear bn
    clear h_y h_u
    go_wp2_with fail
    refine (wakes_any w17).mono ?_
    rintro e w18 ⟨rfl, bn⟩
    replace h_a := h_a.below bn
    replace h_b := h_b.below bn
    replace h_x := h_x.below bn
    replace bw := below_two bw bn
    clear bn
    go_wp2
    go_ret
    exact ⟨rfl, bw⟩
  · have Hf := Lib.hid hf
    clear hf
    go_enter Try.func5, Try.ntmps5
    go_wp2_with fail
    refine (rootFloor_c h_a (by decide) _ rfl).mono ?_
    rintro e w1 ⟨A_x, n_x, c_x, rfl, h_x, bn⟩
    replace h_a := h_a.below bn
    replace h_b := h_b.below bn
    replace bw := below_two bw bn
    clear bn
    rw [← HX.out] at h_x
    go_wp2_with fail
    refine (add_c h_a h_b 41 (by decide) (by decide) (by decide)).mono ?_
    rintro e w2 ⟨A_s, n_s, c_s, rfl, h_s, bn⟩
    replace h_a := h_a.below bn
    replace h_b := h_b.below bn
    replace h_x := h_x.below bn
    replace bw := below_two bw bn
    clear bn
    go_wp2_with fail
    refine (rootFloor_c h_s (by decide) _ rfl).mono ?_
    rintro e w3 ⟨A_y, n_y, c_y, rfl, h_y, bn⟩
    replace h_a := h_a.below bn
    replace h_b := h_b.below bn
    replace h_x := h_x.below bn
    replace h_s := h_s.below bn
    replace bw := below_two bw bn
    clear bn
    clear h_s
    go_wp2_with fail
    refine (mulSmall_c h_a 4 4 rfl (by decide) (by decide)).mono ?_
    rintro e w4 ⟨A_s, n_s, c_s, rfl, h_s, bn⟩
    replace h_a := h_a.below bn
    replace h_b := h_b.below bn
    replace h_x := h_x.below bn
    replace h_y := h_y.below bn
    replace bw := below_two bw bn
    clear bn
    go_wp2_with fail
    refine (rootFloor_c h_s (by decide) _ rfl).mono ?_
    rintro e w5 ⟨A_z, n_z, c_z, rfl, h_z, bn⟩
    replace h_a := h_a.below bn
    replace h_b := h_b.below bn
    replace h_x := h_x.below bn
    replace h_y := h_y.below bn
    replace h_s := h_s.below bn
    replace bw := below_two bw bn
    clear bn
    clear h_s
    go_wp2_with fail
    refine (cmp_c h_x h_y (by decide) (by decide) v1 Hv1.out).mono ?_
    rintro e w6 ⟨rfl, bn⟩
    replace h_a := h_a.below bn
    replace h_b := h_b.below bn
    replace h_x := h_x.below bn
    replace h_y := h_y.below bn
    replace h_z := h_z.below bn
    replace bw := below_two bw bn
    clear bn
    clear h_y
    go_wp2_with fail
    refine (rootCeil_c h_a (by decide)).mono ?_
    rintro e w7 ⟨A_u, n_u, c_u, rfl, h_u, bn⟩
    replace h_a := h_a.below bn
    replace h_b := h_b.below bn
    replace h_x := h_x.below bn
    replace h_z := h_z.below bn
    replace bw := below_two bw bn
    clear bn
    go_wp2_with fail
    refine (add_c h_a h_b 41 (by decide) (by decide) (by decide)).mono ?_
    rintro e w8 ⟨A_s, n_s, c_s, rfl, h_s, bn⟩
    replace h_a := h_a.below bn
    replace h_b := h_b.below bn
    replace h_x := h_x.below bn
    replace h_z := h_z.below bn
    replace h_u := h_u.below bn
    replace bw := below_two bw bn
    clear bn
    go_wp2_with fail
    refine (rootCeil_c h_s (by decide)).mono ?_
    rintro e w9 ⟨A_y, n_y, c_y, rfl, h_y, bn⟩
    replace h_a := h_a.below bn
    replace h_b := h_b.below bn
    replace h_x := h_x.below bn
    replace h_z := h_z.below bn
    replace h_u := h_u.below bn
    replace h_s := h_s.below bn
    replace bw := below_two bw bn
    clear bn
    clear h_s
    go_wp2_with fail
    refine (cmp_c h_u h_y (by decide) (by decide) v2 Hv2.out).mono ?_
    rintro e w10 ⟨rfl, bn⟩
    replace h_a := h_a.below bn
    replace h_b := h_b.below bn
    replace h_x := h_x.below bn
    replace h_z := h_z.below bn
    replace h_u := h_u.below bn
    replace h_y := h_y.below bn
    replace bw := below_two bw bn
    clear bn
    clear h_u h_y
    go_wp2_with fail
    refine (mulSmall_c h_x 2 2 rfl (by decide) (by decide)).mono ?_
    rintro e w11 ⟨A_t, n_t, c_t, rfl, h_t, bn⟩
    replace h_a := h_a.below bn
    replace h_b := h_b.below bn
    replace h_x := h_x.below bn
    replace h_z := h_z.below bn
    replace bw := below_two bw bn
    clear bn
    go_wp2_with fail
    refine (keep_c h_z h_t (by decide) (by decide) false (same_limbs_ne (by have := Hf.out; omega))).mono ?_
    rintro e w12 ⟨rfl, bn⟩
    replace h_a := h_a.below bn
    replace h_b := h_b.below bn
    replace h_x := h_x.below bn
    replace h_z := h_z.below bn
    replace h_t := h_t.below bn
    replace bw := below_two bw bn
    clear bn
    go_wp2_with fail
    refine (of_c 1 1 rfl (by decide) w12).mono ?_
    rintro e w13 ⟨A_o, n_o, c_o, rfl, h_o, bn⟩
    replace h_a := h_a.below bn
    replace h_b := h_b.below bn
    replace h_x := h_x.below bn
    replace h_z := h_z.below bn
    replace h_t := h_t.below bn
    replace bw := below_two bw bn
    clear bn
    go_wp2_with fail
    refine (add_c h_t h_o 42 (by decide) (by decide) (by decide)).mono ?_
    rintro e w14 ⟨A_y, n_y, c_y, rfl, h_y, bn⟩
    replace h_a := h_a.below bn
    replace h_b := h_b.below bn
    replace h_x := h_x.below bn
    replace h_z := h_z.below bn
    replace h_t := h_t.below bn
    replace h_o := h_o.below bn
    replace bw := below_two bw bn
    clear bn
    clear h_o
    go_wp2_with fail
    refine (keep_c h_z h_y (by decide) (by decide) true (same_limbs Hf.out)).mono ?_
    rintro e w15 ⟨rfl, bn⟩
    replace h_a := h_a.below bn
    replace h_b := h_b.below bn
    replace h_x := h_x.below bn
    replace h_z := h_z.below bn
    replace h_t := h_t.below bn
    replace h_y := h_y.below bn
    replace bw := below_two bw bn
    clear bn
    clear h_y
    clear h_z h_t
    go_wp2_with fail
    refine (mulOf_c h_x h_x 80 (by decide) (by decide) (by decide)).mono ?_
    rintro e w16 ⟨A_p, n_p, c_p, rfl, h_p, bn⟩
    replace h_a := h_a.below bn
    replace h_b := h_b.below bn
    replace h_x := h_x.below bn
    replace bw := below_two bw bn
    clear bn
    go_wp2_with fail
    refine (mulShift_c h_p _ (by omega) (by omega) (X * 2 ^ k * (X * 2 ^ k)) 84 (by (try simp only [ek]); with_reducible exact S1.out) S3.out (by decide)).mono ?_
    rintro e w17 ⟨A_s, n_s, c_s, rfl, h_s, bn⟩
    replace h_a := h_a.below bn
    replace h_b := h_b.below bn
    replace h_x := h_x.below bn
    replace h_p := h_p.below bn
    replace bw := below_two bw bn
    clear bn
    clear h_p
    go_wp2_with fail
    refine (rootFloor_c h_s (by decide) true S5.out).mono ?_
    rintro e w18 ⟨A_y, n_y, c_y, rfl, h_y, bn⟩
    replace h_a := h_a.below bn
    replace h_b := h_b.below bn
    replace h_x := h_x.below bn
    replace h_s := h_s.below bn
    replace bw := below_two bw bn
    clear bn
    clear h_s
    go_wp2_with fail
    refine (mulShift_c h_x _ (by omega) (by omega) (X * 2 ^ k) 42 (by (try simp only [ek]); with_reducible exact S2.out) S4.out (by decide)).mono ?_
    rintro e w19 ⟨A_u, n_u, c_u, rfl, h_u, bn⟩
    replace h_a := h_a.below bn
    replace h_b := h_b.below bn
    replace h_x := h_x.below bn
    replace h_y := h_y.below bn
    replace bw := below_two bw bn
    clear bn
    go_wp2_with fail
    refine (keep_c h_y h_u (by decide) (by decide) true (same_limbs S6.out)).mono ?_
    rintro e w20 ⟨rfl, bn⟩
    replace h_a := h_a.below bn
    replace h_b := h_b.below bn
    replace h_x := h_x.below bn
    replace h_y := h_y.below bn
    replace h_u := h_u.below bn
    replace bw := below_two bw bn
    clear bn
    clear h_y h_u
    go_wp2_with fail
    refine (wakes_any w20).mono ?_
    rintro e w21 ⟨rfl, bn⟩
    replace h_a := h_a.below bn
    replace h_b := h_b.below bn
    replace h_x := h_x.below bn
    replace bw := below_two bw bn
    clear bn
    go_wp2
    go_ret
    exact ⟨rfl, bw⟩

set_option maxRecDepth 100000 in
theorem lifted (os : Os) (started : os.Started) (H : Type) (enc : TypeId × Value → H) :
    ReturnsInHanded {} Try.checked os 5 .any (Rows.rootOrderSpec.pre6 enc Try.prog Try.f5 Rows.rootOrderRow.domain false) (Rows.rootOrderSpec.post enc Try.prog Try.f5 false true false false) := by
  refine returnsInHanded_of_change (C := Try.checked) own started (by kernel_rfl) Try.func5
    (ChangeSpec.witness6 (enc := enc) (C := Try.checked) false ⟨#[], #[.slice none 0 0, .slice none 0 0, .int .u8 0], []⟩ 8 (by kernel_rfl) (by kernel_rfl) (by kernel_rfl) (by kernel_rfl)) ?_
  intro W base args ds gs before hval0 hW hcnd _
  have hval : ∀ (j : Nat) t v, Try.f5.params[j]? = some t → args[j]? = some v → Value.okWide Try.prog W .any base t v := hval0
  have hW' := hW
  obtain ⟨p, q, hA0, hV, rfl, hfz, hnd⟩ := hW
  have hA : DataW.TrodAll enc Try.prog W 0 (fun _ => true) true Try.f5.params.toList args.toList ds p := hA0
  rw [Try.params5] at hA hval
  obtain ⟨v0, vs0, d0, ds0, p0, q0, hargs, rfl, rfl, h0, r0⟩ := trodAll_cons hA
  obtain ⟨v1, vs1, d1, ds1, p1, q1, rfl, rfl, rfl, h1, r1⟩ := trodAll_cons r0
  obtain ⟨v2, vs2, d2, ds2, p2, q2, rfl, rfl, rfl, h2, r2⟩ := trodAll_cons r1
  obtain ⟨rfl, rfl, rfl⟩ := trodAll_nil r2
  obtain rfl : args = #[v0, v1, v2] := by cases args; simp_all
  obtain ⟨rfl, rfl⟩ := trodVars_none hV
  obtain ⟨a0, len0, cap0, rfl⟩ := okWide_slice Try.underlying23 (hval 0 23 v0 rfl rfl)
  obtain ⟨z0, i0, hc0, hm0, _⟩ := open_nat h0
  obtain ⟨a1, len1, cap1, rfl⟩ := okWide_slice Try.underlying23 (hval 1 23 v1 rfl rfl)
  obtain ⟨z1, i1, hc1, hm1, _⟩ := open_nat h1
  obtain ⟨a2, rfl, rfl, rfl, w2⟩ := open_int Try.underlying5 (hval 2 5 v2 rfl rfl) h2
  clear hA0 hval0
  refine (walk a0 len0 cap0 z0 a1 len1 cap1 z1 a2 W i0 hc0 hm0 i1 hc1 hm1 w2).mono fun e W' ⟨he, bel⟩ => ?_
  subst he
  exact ⟨_, rfl, _, _, _, [], _, [], hW', trodAll_mk1 (shut_bool Try.underlying4 _), (trodAll_cons_mk (Below.trod laidOut (by kernel_rfl) (of_decide_eq_true (by kernel_rfl)) h0 bel (places_lt h0)) (trodAll_cons_mk (Below.trod laidOut (by kernel_rfl) (of_decide_eq_true (by kernel_rfl)) h1 bel (places_lt h1)) (trodAll_cons_mk (shut_int Try.underlying5 w2) trodAll_mk0))), rfl, bel.frame _, fun h => by cases h⟩

theorem over : Rows.rootOrderRow.holds Try.pinned (OpenSpec.ofChange Rows.rootOrderSpec) :=
  OpenClaim.holds_of_wide 5 Try.f5 rfl rfl rfl rfl rfl rfl rfl ⟨rfl, rfl, rfl, rfl, rfl⟩ rfl rfl rfl rfl rfl (by kernel_rfl) Try.func5 (by kernel_rfl)
    (of_decide_eq_true (by kernel_rfl)) (by unfold Func.isWrapper; first | (rw [if_pos (by decide +kernel)]; kernel_rfl) | (rw [if_neg (by decide +kernel)]; exact ⟨rfl, rfl⟩))
    (fun os started H enc _ => lifted os started H enc)

theorem proved : Rows.RootOrderSaid := over

end Go.Proofs.Ytahogponokafcaa.lawRootOrder
