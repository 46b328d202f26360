/- Of any list of limbs: moved up by n bits it is multiplied by 2 to the n and comes back when moved down, powers go by sums of exponents, one limb is a number. No condition. -/
import Derived.Test.YtegcpiicfcpppaaOpen
import Derived.Test.YtegcpiicfcpppaaMulW
namespace Go.Proofs.Ytegcpiicfcpppaa.lawMulShifts
open Go.ChangeShapes Go.WideShapes Go.ChangeAt Go.RowKit Limb
set_option linter.unusedVariables false

theorem wf_u8 {n : Int} (h : (Lit.int .u8 n).wf = true) : 0 ≤ n ∧ n < 256 := by
  have h1 : IntKind.u8.min = 0 := rfl
  have h2 : IntKind.u8.max = 255 := rfl
  simp only [Lit.wf, Bool.and_eq_true, decide_eq_true_eq] at h
  omega

theorem shiftV_plus (a k : Nat) (h : k ≤ 8192) : shiftV a (k : Int) = a * 2 ^ k := shiftV_up (by omega) (by omega)
theorem shiftV_minus (a k : Nat) (h : k ≤ 8192) : shiftV a (-(k : Int)) = a / 2 ^ k := by
  by_cases h0 : k = 0
  · subst h0
    rw [shiftV_up (k := 0) (by omega) (by omega), Nat.pow_zero, Nat.mul_one, Nat.div_one]
  · exact shiftV_down (by omega) (by omega) (by omega)
theorem shiftV_back (a k : Nat) (h : k ≤ 8192) : shiftV (a * 2 ^ k) (-(k : Int)) = a := by
  rw [shiftV_minus _ _ h, Nat.mul_div_cancel _ (Nat.two_pow_pos _)]

theorem blen_int {k : Nat} (h : k ≤ 8192) : blen k ≤ 63 := blen_le (Nat.lt_of_le_of_lt h (by decide))

theorem lt_room {t K : Nat} (h : t < 32 * K) : 2 ^ t < 4294967296 ^ K := by
  rw [pow32]; exact Nat.pow_lt_pow_right (by decide) h
theorem pow_two_there (k : Nat) (h : k ≤ 69) : powV 2 (k : Int) = some (2 ^ k) := powV_small (blen_int (by omega)) fun m hm => lt_room (by omega)

theorem up_room {w : World} {A : Option Addr} {n c : Nat} {xs : List Nat} {a k : Nat} (h : NN w A n c xs a 30) (hk : k ≤ 69) : a * 2 ^ k < 4294967296 ^ 33 := by
  have h1 := lt_pow h
  have h2 : 2 ^ k < 4294967296 ^ 3 := lt_room (by omega)
  have e : 4294967296 ^ 33 = 4294967296 ^ 30 * 4294967296 ^ 3 := by rw [← Nat.pow_add]
  rw [e]
  exact Nat.mul_lt_mul'' h1 h2

theorem pow_fits {a m : Nat} (h : a < 4294967296 ^ 4) (hm : m ≤ 15) : a ^ m < 4294967296 ^ 256 := by
  have h1 : a ^ m ≤ (4294967296 ^ 4) ^ m := Nat.pow_le_pow_left (Nat.le_of_lt h) m
  rw [← Nat.pow_mul] at h1
  exact Nat.lt_of_le_of_lt h1 (Nat.pow_lt_pow_right (by decide) (by omega))
theorem pow_there {w : World} {A : Option Addr} {n c : Nat} {xs : List Nat} {a : Nat} (h : NN w A n c xs a 4) (m : Nat) (hm : m ≤ 15) : powV a (m : Int) = some (a ^ m) :=
  powV_small (blen_int (by omega)) fun i hi => pow_fits (lt_pow h) (by omega)

set_option maxHeartbeats 2000000 in
theorem walk (A_a : Option Addr) (n_a c_a : Nat) (xs_a : List Nat) (v_n : Int) (v_m : Int) (w : World) (i_a : IsN w A_a n_a xs_a) (hc_a : n_a ≤ c_a) (hm_a : c_a ≤ maxLen) (f_n : (Lit.int .u8 v_n).wf = true) (f_m : (Lit.int .u8 v_m).wf = true) :
    Calls Try.prog 5 #[.slice A_a n_a c_a, .int .u8 v_n, .int .u8 v_m] w fun e w' => e = .returned (.bool true) ∧ Below w.heap.size w w' := by
  have bw := bel_refl w
  have hx_a : (n_a : Int) ≤ 9223372036854775807 := by have := Nat.le_trans hc_a hm_a; unfold maxLen at this; omega
  by_cases l_a : 30 < n_a
  · go_enter Try.func5, Try.ntmps5
    go_wp2_with fail
    refine (wakes_any w).mono ?_
    rintro e w1 ⟨rfl, bn⟩
    replace bw := below_two bw bn
    clear bn
    go_wp2
    go_ret
    exact ⟨rfl, bw⟩
  have h_a : NN w A_a n_a c_a xs_a (Limb.val xs_a) 30 := ⟨i_a, rfl, hc_a, by omega⟩
  have hn := wf_u8 f_n
  have hm := wf_u8 f_m
  obtain ⟨N, rfl⟩ := Int.eq_ofNat_of_zero_le hn.1
  obtain ⟨M, rfl⟩ := Int.eq_ofNat_of_zero_le hm.1
  obtain ⟨k, hk⟩ : ∃ k, k = N % 70 := ⟨_, rfl⟩
  obtain ⟨j, hj⟩ : ∃ j, j = M % 9 := ⟨_, rfl⟩
  obtain ⟨q, hq⟩ : ∃ q, q = k % 8 := ⟨_, rfl⟩
  have ek : (N : Int) % 70 = (k : Int) := by omega
  have ej : (M : Int) % 9 = (j : Int) := by omega
  have eq : (k : Int) % 8 = (q : Int) := by omega
  have hk2 : k ≤ 69 := by omega
  have hj2 : j ≤ 8 := by omega
  have hq2 : q ≤ 7 := by omega
  have hM : M < 256 := by omega
  have hN : N < 256 := by omega
  have S1 := Lib.hid (shiftV_plus (Limb.val xs_a) k (by omega))
  have S2 := Lib.hid (shiftV_back (Limb.val xs_a) k (by omega))
  have S3 := Lib.hid (pow_two_there k (by omega))
  have S4 := Lib.hid (up_room h_a hk2)
  clear hn hm hk hj hq f_n f_m
  by_cases l4 : 4 < n_a
  · go_enter Try.func5, Try.ntmps5
    go_wp2_with fail
    refine (mulShift_c h_a _ (by omega) (by omega) ((Limb.val xs_a) * 2 ^ k) 33 (by (try simp only [ek, ej, eq]); with_reducible exact S1.out) S4.out (by decide)).mono ?_
    rintro e w1 ⟨A_up, n_up, c_up, rfl, h_up, bn⟩
    replace h_a := h_a.below bn
    replace bw := below_two bw bn
    clear bn
    go_wp2_with fail
    refine (of_c 2 2 rfl (by decide) w1).mono ?_
    rintro e w2 ⟨A_b, n_b, c_b, rfl, h_b, bn⟩
    replace h_a := h_a.below bn
    replace h_up := h_up.below bn
    replace bw := below_two bw bn
    clear bn
    go_wp2_with fail
    refine (mulPow_yes h_b (by decide) _ (by omega) (by omega) (2 ^ k) (by (try simp only [ek, ej, eq]); with_reducible exact S3.out)).mono ?_
    rintro e w3 ⟨A_two, n_two, c_two, rfl, h_two, bn⟩
    replace h_a := h_a.below bn
    replace h_up := h_up.below bn
    replace h_b := h_b.below bn
    replace bw := below_two bw bn
    clear bn
    clear h_b
    go_wp2_with fail
    refine (mulOf_c h_a h_two 300 (by decide) (by decide) (by decide)).mono ?_
    rintro e w4 ⟨A_x, n_x, c_x, rfl, h_x, bn⟩
    replace h_a := h_a.below bn
    replace h_up := h_up.below bn
    replace h_two := h_two.below bn
    replace bw := below_two bw bn
    clear bn
    clear h_two
    go_wp2_with fail
    refine (keep_c h_up h_x (by decide) (by decide) true (same_limbs rfl)).mono ?_
    rintro e w5 ⟨rfl, bn⟩
    replace h_a := h_a.below bn
    replace h_up := h_up.below bn
    replace h_x := h_x.below bn
    replace bw := below_two bw bn
    clear bn
    clear h_x
    go_wp2_with fail
    refine (mulShift_c h_up _ (by omega) (by omega) (Limb.val xs_a) 30 (by (try simp only [ek, ej, eq]); with_reducible exact S2.out) (lt_pow h_a) (by decide)).mono ?_
    rintro e w6 ⟨A_x, n_x, c_x, rfl, h_x, bn⟩
    replace h_a := h_a.below bn
    replace h_up := h_up.below bn
    replace bw := below_two bw bn
    clear bn
    clear h_up
    go_wp2_with fail
    refine (trim_c h_a (by decide)).mono ?_
    rintro e w7 ⟨A_y, n_y, c_y, rfl, h_y, bn⟩
    replace h_a := h_a.below bn
    replace h_x := h_x.below bn
    replace bw := below_two bw bn
    clear bn
    go_wp2_with fail
    refine (keep_c h_x h_y (by decide) (by decide) true (same_limbs rfl)).mono ?_
    rintro e w8 ⟨rfl, bn⟩
    replace h_a := h_a.below bn
    replace h_x := h_x.below bn
    replace h_y := h_y.below bn
    replace bw := below_two bw bn
    clear bn
    clear h_x h_y
    go_wp2_with fail
    refine (wakes_any w8).mono ?_
    rintro e w9 ⟨rfl, bn⟩
    replace h_a := h_a.below bn
    replace bw := below_two bw bn
    clear bn
    go_wp2
    go_ret
    exact ⟨rfl, bw⟩
  · have h4 : NN w A_a n_a c_a xs_a (Limb.val xs_a) 4 := ⟨i_a, rfl, hc_a, by omega⟩
    have T1 := Lib.hid (pow_there h4 q (by omega))
    have T2 := Lib.hid (pow_there h4 j (by omega))
    have T3 : RowKit.Hid (powV (Limb.val xs_a) ((q : Int) + (j : Int)) = some ((Limb.val xs_a) ^ (q + j))) := by
      have := pow_there h4 (q + j) (by omega)
      rwa [Int.natCast_add] at this
    clear h4
    go_enter Try.func5, Try.ntmps5
    go_wp2_with fail
    refine (mulShift_c h_a _ (by omega) (by omega) ((Limb.val xs_a) * 2 ^ k) 33 (by (try simp only [ek, ej, eq]); with_reducible exact S1.out) S4.out (by decide)).mono ?_
    rintro e w1 ⟨A_up, n_up, c_up, rfl, h_up, bn⟩
    replace h_a := h_a.below bn
    replace bw := below_two bw bn
    clear bn
    go_wp2_with fail
    refine (of_c 2 2 rfl (by decide) w1).mono ?_
    rintro e w2 ⟨A_b, n_b, c_b, rfl, h_b, bn⟩
    replace h_a := h_a.below bn
    replace h_up := h_up.below bn
    replace bw := below_two bw bn
    clear bn
    go_wp2_with fail
    refine (mulPow_yes h_b (by decide) _ (by omega) (by omega) (2 ^ k) (by (try simp only [ek, ej, eq]); with_reducible exact S3.out)).mono ?_
    rintro e w3 ⟨A_two, n_two, c_two, rfl, h_two, bn⟩
    replace h_a := h_a.below bn
    replace h_up := h_up.below bn
    replace h_b := h_b.below bn
    replace bw := below_two bw bn
    clear bn
    clear h_b
    go_wp2_with fail
    refine (mulOf_c h_a h_two 300 (by decide) (by decide) (by decide)).mono ?_
    rintro e w4 ⟨A_x, n_x, c_x, rfl, h_x, bn⟩
    replace h_a := h_a.below bn
    replace h_up := h_up.below bn
    replace h_two := h_two.below bn
    replace bw := below_two bw bn
    clear bn
    clear h_two
    go_wp2_with fail
    refine (keep_c h_up h_x (by decide) (by decide) true (same_limbs rfl)).mono ?_
    rintro e w5 ⟨rfl, bn⟩
    replace h_a := h_a.below bn
    replace h_up := h_up.below bn
    replace h_x := h_x.below bn
    replace bw := below_two bw bn
    clear bn
    clear h_x
    go_wp2_with fail
    refine (mulShift_c h_up _ (by omega) (by omega) (Limb.val xs_a) 30 (by (try simp only [ek, ej, eq]); with_reducible exact S2.out) (lt_pow h_a) (by decide)).mono ?_
    rintro e w6 ⟨A_x, n_x, c_x, rfl, h_x, bn⟩
    replace h_a := h_a.below bn
    replace h_up := h_up.below bn
    replace bw := below_two bw bn
    clear bn
    clear h_up
    go_wp2_with fail
    refine (trim_c h_a (by decide)).mono ?_
    rintro e w7 ⟨A_y, n_y, c_y, rfl, h_y, bn⟩
    replace h_a := h_a.below bn
    replace h_x := h_x.below bn
    replace bw := below_two bw bn
    clear bn
    go_wp2_with fail
    refine (keep_c h_x h_y (by decide) (by decide) true (same_limbs rfl)).mono ?_
    rintro e w8 ⟨rfl, bn⟩
    replace h_a := h_a.below bn
    replace h_x := h_x.below bn
    replace h_y := h_y.below bn
    replace bw := below_two bw bn
    clear bn
    clear h_x h_y
    go_wp2_with fail
    refine (mulPow_yes h_a (by decide) _ (by omega) (by omega) ((Limb.val xs_a) ^ q) (by (try simp only [ek, ej, eq]); with_reducible exact T1.out)).mono ?_
    rintro e w9 ⟨A_x, n_x, c_x, rfl, h_x, bn⟩
    replace h_a := h_a.below bn
    replace bw := below_two bw bn
    clear bn
    go_wp2_with fail
    refine (mulPow_yes h_a (by decide) _ (by omega) (by omega) ((Limb.val xs_a) ^ j) (by (try simp only [ek, ej, eq]); with_reducible exact T2.out)).mono ?_
    rintro e w10 ⟨A_y, n_y, c_y, rfl, h_y, bn⟩
    replace h_a := h_a.below bn
    replace h_x := h_x.below bn
    replace bw := below_two bw bn
    clear bn
    go_wp2_with fail
    refine (mulPow_yes h_a (by decide) _ (by omega) (by omega) ((Limb.val xs_a) ^ (q + j)) (by (try simp only [ek, ej, eq]); with_reducible exact T3.out)).mono ?_
    rintro e w11 ⟨A_z, n_z, c_z, rfl, h_z, bn⟩
    replace h_a := h_a.below bn
    replace h_x := h_x.below bn
    replace h_y := h_y.below bn
    replace bw := below_two bw bn
    clear bn
    go_wp2_with fail
    refine (mulOf_c h_x h_y 512 (by decide) (by decide) (by decide)).mono ?_
    rintro e w12 ⟨A_u, n_u, c_u, rfl, h_u, bn⟩
    replace h_a := h_a.below bn
    replace h_x := h_x.below bn
    replace h_y := h_y.below bn
    replace h_z := h_z.below bn
    replace bw := below_two bw bn
    clear bn
    clear h_x h_y
    go_wp2_with fail
    refine (keep_c h_u h_z (by decide) (by decide) true (same_limbs (Nat.pow_add ..).symm)).mono ?_
    rintro e w13 ⟨rfl, bn⟩
    replace h_a := h_a.below bn
    replace h_z := h_z.below bn
    replace h_u := h_u.below bn
    replace bw := below_two bw bn
    clear bn
    clear h_u h_z
    go_wp2_with fail
    refine (mulSmall_c h_a M _ (by omega) (by omega) (by decide)).mono ?_
    rintro e w14 ⟨A_x, n_x, c_x, rfl, h_x, bn⟩
    replace h_a := h_a.below bn
    replace bw := below_two bw bn
    clear bn
    go_wp2_with fail
    refine (of_c M _ (by omega) (by omega) w14).mono ?_
    rintro e w15 ⟨A_m, n_m, c_m, rfl, h_m, bn⟩
    replace h_a := h_a.below bn
    replace h_x := h_x.below bn
    replace bw := below_two bw bn
    clear bn
    go_wp2_with fail
    refine (mulOf_c h_a h_m 32 (by decide) (by decide) (by decide)).mono ?_
    rintro e w16 ⟨A_y, n_y, c_y, rfl, h_y, bn⟩
    replace h_a := h_a.below bn
    replace h_x := h_x.below bn
    replace h_m := h_m.below bn
    replace bw := below_two bw bn
    clear bn
    clear h_m
    go_wp2_with fail
    refine (keep_c h_x h_y (by decide) (by decide) true (same_limbs rfl)).mono ?_
    rintro e w17 ⟨rfl, bn⟩
    replace h_a := h_a.below bn
    replace h_x := h_x.below bn
    replace h_y := h_y.below bn
    replace bw := below_two bw bn
    clear bn
    clear h_x h_y
    go_wp2_with fail
    refine (wakes_any w17).mono ?_
    rintro e w18 ⟨rfl, bn⟩
    replace h_a := h_a.below bn
    replace bw := below_two bw bn
    clear bn
    go_wp2
    go_ret
    exact ⟨rfl, bw⟩

set_option maxRecDepth 100000 in
theorem lifted (os : Os) (started : os.Started) (H : Type) (enc : TypeId × Value → H) :
    ReturnsInHanded {} Try.checked os 5 .any (Rows.mulShiftsSpec.pre6 enc Try.prog Try.f5 Rows.mulShiftsRow.domain false) (Rows.mulShiftsSpec.post enc Try.prog Try.f5 false true false false) := by
  refine returnsInHanded_of_change (C := Try.checked) own started (by kernel_rfl) Try.func5
    (ChangeSpec.witness6 (enc := enc) (C := Try.checked) false ⟨#[], #[.slice none 0 0, .int .u8 0, .int .u8 0], []⟩ 8 (by kernel_rfl) (by kernel_rfl) (by kernel_rfl) (by kernel_rfl)) ?_
  intro W base args ds gs before hval0 hW hcnd _
  have hval : ∀ (j : Nat) t v, Try.f5.params[j]? = some t → args[j]? = some v → Value.okWide Try.prog W .any base t v := hval0
  have hW' := hW
  obtain ⟨p, q, hA0, hV, rfl, hfz, hnd⟩ := hW
  have hA : DataW.TrodAll enc Try.prog W 0 (fun _ => true) true Try.f5.params.toList args.toList ds p := hA0
  rw [Try.params5] at hA hval
  obtain ⟨v0, vs0, d0, ds0, p0, q0, hargs, rfl, rfl, h0, r0⟩ := trodAll_cons hA
  obtain ⟨v1, vs1, d1, ds1, p1, q1, rfl, rfl, rfl, h1, r1⟩ := trodAll_cons r0
  obtain ⟨v2, vs2, d2, ds2, p2, q2, rfl, rfl, rfl, h2, r2⟩ := trodAll_cons r1
  obtain ⟨rfl, rfl, rfl⟩ := trodAll_nil r2
  obtain rfl : args = #[v0, v1, v2] := by cases args; simp_all
  obtain ⟨rfl, rfl⟩ := trodVars_none hV
  obtain ⟨a0, len0, cap0, rfl⟩ := okWide_slice Try.underlying23 (hval 0 23 v0 rfl rfl)
  obtain ⟨z0, i0, hc0, hm0, _⟩ := open_nat h0
  obtain ⟨a1, rfl, rfl, rfl, w1⟩ := open_int Try.underlying5 (hval 1 5 v1 rfl rfl) h1
  obtain ⟨a2, rfl, rfl, rfl, w2⟩ := open_int Try.underlying5 (hval 2 5 v2 rfl rfl) h2
  clear hA0 hval0
  refine (walk a0 len0 cap0 z0 a1 a2 W i0 hc0 hm0 w1 w2).mono fun e W' ⟨he, bel⟩ => ?_
  subst he
  exact ⟨_, rfl, _, _, _, [], _, [], hW', trodAll_mk1 (shut_bool Try.underlying4 _), (trodAll_cons_mk (Below.trod laidOut (by kernel_rfl) (of_decide_eq_true (by kernel_rfl)) h0 bel (places_lt h0)) (trodAll_cons_mk (shut_int Try.underlying5 w1) (trodAll_cons_mk (shut_int Try.underlying5 w2) trodAll_mk0))), rfl, bel.frame _, fun h => by cases h⟩

theorem over : Rows.mulShiftsRow.holds Try.pinned (OpenSpec.ofChange Rows.mulShiftsSpec) :=
  OpenClaim.holds_of_wide 5 Try.f5 rfl rfl rfl rfl rfl rfl rfl ⟨rfl, rfl, rfl, rfl, rfl⟩ rfl rfl rfl rfl rfl (by kernel_rfl) Try.func5 (by kernel_rfl)
    (of_decide_eq_true (by kernel_rfl)) (by unfold Func.isWrapper; first | (rw [if_pos (by decide +kernel)]; kernel_rfl) | (rw [if_neg (by decide +kernel)]; exact ⟨rfl, rfl⟩))
    (fun os started H enc _ => lifted os started H enc)

theorem proved : Rows.MulShiftsSaid := over

end Go.Proofs.Ytegcpiicfcpppaa.lawMulShifts
