/- Of any list of limbs: by one limb it is as by a number of one limb, by 2 to the n as moved down. No condition. -/
import Derived.Test.YtbenkbgdahcaaaaOpen
import Derived.Test.YtbenkbgdahcaaaaQuoW
namespace Go.Proofs.Ytbenkbgdahcaaaa.lawQuoSmall
open Go.ChangeShapes Go.WideShapes Go.ChangeAt Go.RowKit Limb
set_option linter.unusedVariables false

theorem wf_u8 {n : Int} (h : (Lit.int .u8 n).wf = true) : 0 ≤ n ∧ n < 256 := by
  have h1 : IntKind.u8.min = 0 := rfl
  have h2 : IntKind.u8.max = 255 := rfl
  simp only [Lit.wf, Bool.and_eq_true, decide_eq_true_eq] at h
  omega

theorem shiftV_plus (a k : Nat) (h : k ≤ 8192) : shiftV a (k : Int) = a * 2 ^ k := shiftV_up (by omega) (by omega)
theorem shiftV_minus (a k : Nat) (h : k ≤ 8192) : shiftV a (-(k : Int)) = a / 2 ^ k := by
  by_cases h0 : k = 0
  · subst h0
    rw [shiftV_up (k := 0) (by omega) (by omega), Nat.pow_zero, Nat.mul_one, Nat.div_one]
  · exact shiftV_down (by omega) (by omega) (by omega)
theorem lt_room {t K : Nat} (h : t < 32 * K) : 2 ^ t < 4294967296 ^ K := by
  rw [pow32]; exact Nat.pow_lt_pow_right (by decide) h

set_option maxHeartbeats 4000000 in
theorem walk (A_a : Option Addr) (n_a c_a : Nat) (xs_a : List Nat) (v_v : Int) (v_n : Int) (w : World) (i_a : IsN w A_a n_a xs_a) (hc_a : n_a ≤ c_a) (hm_a : c_a ≤ maxLen) (f_v : (Lit.int .u32 v_v).wf = true) (f_n : (Lit.int .u8 v_n).wf = true) :
    Calls Try.prog 6 #[.slice A_a n_a c_a, .int .u32 v_v, .int .u8 v_n] w fun e w' => e = .returned (.bool true) ∧ Below w.heap.size w w' := by
  have bw := bel_refl w
  have hx_a : (n_a : Int) ≤ 9223372036854775807 := by have := Nat.le_trans hc_a hm_a; unfold maxLen at this; omega
  by_cases l_a : 60 < n_a
  · go_enter Try.func6, Try.ntmps6
    go_wp2_with fail
    refine (wakes_any w).mono ?_
    rintro e w1 ⟨rfl, bn⟩
    replace bw := below_two bw bn
    clear bn
    go_wp2
    go_ret
    exact ⟨rfl, bw⟩
  have h_a : NN w A_a n_a c_a xs_a (Limb.val xs_a) 60 := ⟨i_a, rfl, hc_a, by omega⟩
  have hn := wf_u8 f_n
  have hv := wf_u32 f_v
  obtain ⟨N, rfl⟩ := Int.eq_ofNat_of_zero_le hn.1
  obtain ⟨v, rfl⟩ := Int.eq_ofNat_of_zero_le hv.1
  obtain ⟨k, hk⟩ : ∃ k, k = N % 90 := ⟨_, rfl⟩
  have ek : (N : Int) % 90 = (k : Int) := by omega
  have hk2 : k ≤ 89 := by omega
  have hN : N < 256 := by omega
  have hv2 : v < 4294967296 := by omega
  have S1 : RowKit.Hid (shiftV 1 (k : Int) = 2 ^ k) := by show _ = _; rw [shiftV_plus 1 k (by omega), Nat.one_mul]
  have S2 := Lib.hid (shiftV_minus (Limb.val xs_a) k (by omega))
  have S3 : RowKit.Hid (2 ^ k < 4294967296 ^ 3) := lt_room (by omega)
  have S4 := Lib.hid (Nat.lt_of_le_of_lt (Nat.div_le_self (Limb.val xs_a) (2 ^ k)) (lt_pow h_a))
  have S5 : RowKit.Hid (2 ^ k ≠ 0) := Nat.ne_of_gt (Nat.two_pow_pos k)
  clear hn hv hk f_n f_v
  by_cases hv0 : v = 0
  · subst hv0
    go_enter Try.func6, Try.ntmps6
    go_wp2_with fail
    refine (quoSmall_no h_a (by decide) _ rfl).mono ?_
    rintro e w1 ⟨A_q, c_q, rfl, bn⟩
    replace h_a := h_a.below bn
    replace bw := below_two bw bn
    clear bn
    go_wp2_with fail
    refine (of_c 0 _ (by omega) (by decide) w1).mono ?_
    rintro e w2 ⟨A_d, n_d, c_d, rfl, h_d, bn⟩
    replace h_a := h_a.below bn
    replace bw := below_two bw bn
    clear bn
    go_wp2_with fail
    refine (quoRem_no h_a h_d (by decide) (by decide) rfl).mono ?_
    rintro e w3 ⟨A_x, c_x, A_y, c_y, rfl, bn⟩
    replace h_a := h_a.below bn
    replace h_d := h_d.below bn
    replace bw := below_two bw bn
    clear bn
    clear h_d
    go_wp2_with fail
    refine (keep_c (nn_zero w3 A_q c_q 0) (nn_zero w3 A_x c_x 0) (by decide) (by decide) true (same_self _)).mono ?_
    rintro e w4 ⟨rfl, bn⟩
    replace h_a := h_a.below bn
    replace bw := below_two bw bn
    clear bn
    go_wp2_with fail
    refine (of_c 0 _ (by omega) (by decide) w4).mono ?_
    rintro e w5 ⟨A_d, n_d, c_d, rfl, h_d, bn⟩
    replace h_a := h_a.below bn
    replace bw := below_two bw bn
    clear bn
    go_wp2_with fail
    refine (keep_c h_d (nn_zero w5 A_y c_y 0) (by decide) (by decide) true (same_of limbs_zero)).mono ?_
    rintro e w6 ⟨rfl, bn⟩
    replace h_a := h_a.below bn
    replace h_d := h_d.below bn
    replace bw := below_two bw bn
    clear bn
    clear h_d
    go_wp2_with fail
    refine (of_c 1 1 rfl (by decide) w6).mono ?_
    rintro e w7 ⟨A_o, n_o, c_o, rfl, h_o, bn⟩
    replace h_a := h_a.below bn
    replace bw := below_two bw bn
    clear bn
    go_wp2_with fail
    refine (mulShift_c h_o _ (by omega) (by omega) (2 ^ k) 3 (by (try simp only [ek]); with_reducible exact S1.out) S3.out (by decide)).mono ?_
    rintro e w8 ⟨A_p, n_p, c_p, rfl, h_p, bn⟩
    replace h_a := h_a.below bn
    replace h_o := h_o.below bn
    replace bw := below_two bw bn
    clear bn
    clear h_o
    go_wp2_with fail
    refine (quoRem_yes h_a h_p (by decide) (by decide) S5.out).mono ?_
    rintro e w9 ⟨A_z, n_z, c_z, A_i, n_i, c_i, rfl, h_z, h_i, bn⟩
    replace h_a := h_a.below bn
    replace h_p := h_p.below bn
    replace bw := below_two bw bn
    clear bn
    clear h_i h_p
    go_wp2_with fail
    refine (mulShift_c h_a _ (by omega) (by omega) ((Limb.val xs_a) / 2 ^ k) 60 (by (try simp only [ek]); with_reducible exact S2.out) S4.out (by decide)).mono ?_
    rintro e w10 ⟨A_u, n_u, c_u, rfl, h_u, bn⟩
    replace h_a := h_a.below bn
    replace h_z := h_z.below bn
    replace bw := below_two bw bn
    clear bn
    go_wp2_with fail
    refine (keep_c h_z h_u (by decide) (by decide) true (same_limbs rfl)).mono ?_
    rintro e w11 ⟨rfl, bn⟩
    replace h_a := h_a.below bn
    replace h_z := h_z.below bn
    replace h_u := h_u.below bn
    replace bw := below_two bw bn
    clear bn
    clear h_z h_u
    go_wp2_with fail
    refine (wakes_any w11).mono ?_
    rintro e w12 ⟨rfl, bn⟩
    replace h_a := h_a.below bn
    replace bw := below_two bw bn
    clear bn
    go_wp2
    go_ret
    exact ⟨rfl, bw⟩
  · have Hv := Lib.hid hv0
    have hvz : ((v : Int) == 0) = false := by simp; exact hv0
    have hvn : ((v : Int) != 0) = true := by simp; exact hv0
    obtain ⟨m, hm⟩ : ∃ m, m = (Limb.val xs_a) % v := ⟨_, rfl⟩
    have hmv : m < v := by rw [hm]; exact Nat.mod_lt _ (Nat.pos_of_ne_zero hv0)
    have Hm := Lib.hid hm
    have hc1 := quoSmall_yes h_a (by decide) v _ rfl hv2 hv0
    rw [← hm] at hc1
    have HC := Lib.hid hc1
    clear hv0 hm hc1
    go_enter Try.func6, Try.ntmps6
    go_wp2_with fail
    refine (HC.out).mono ?_
    rintro e w1 ⟨A_q, n_q, c_q, rfl, h_q, bn⟩
    replace h_a := h_a.below bn
    replace bw := below_two bw bn
    clear bn
    clear HC
    go_wp2_with fail
    refine (of_c v _ (by omega) (by omega) w1).mono ?_
    rintro e w2 ⟨A_d, n_d, c_d, rfl, h_d, bn⟩
    replace h_a := h_a.below bn
    replace h_q := h_q.below bn
    replace bw := below_two bw bn
    clear bn
    go_wp2_with fail
    refine (quoRem_yes h_a h_d (by decide) (by decide) Hv.out).mono ?_
    rintro e w3 ⟨A_x, n_x, c_x, A_y, n_y, c_y, rfl, h_x, h_y, bn⟩
    replace h_a := h_a.below bn
    replace h_q := h_q.below bn
    replace h_d := h_d.below bn
    replace bw := below_two bw bn
    clear bn
    clear h_d
    go_wp2_with fail
    refine (keep_c h_q h_x (by decide) (by decide) true (same_limbs rfl)).mono ?_
    rintro e w4 ⟨rfl, bn⟩
    replace h_a := h_a.below bn
    replace h_q := h_q.below bn
    replace h_x := h_x.below bn
    replace h_y := h_y.below bn
    replace bw := below_two bw bn
    clear bn
    clear h_q h_x
    go_wp2_with fail
    refine (of_c m _ (by omega) (by omega) w4).mono ?_
    rintro e w5 ⟨A_d, n_d, c_d, rfl, h_d, bn⟩
    replace h_a := h_a.below bn
    replace h_y := h_y.below bn
    replace bw := below_two bw bn
    clear bn
    go_wp2_with fail
    refine (keep_c h_d h_y (by decide) (by decide) true (same_limbs Hm.out)).mono ?_
    rintro e w6 ⟨rfl, bn⟩
    replace h_a := h_a.below bn
    replace h_y := h_y.below bn
    replace h_d := h_d.below bn
    replace bw := below_two bw bn
    clear bn
    clear h_d h_y
    go_wp2_with fail
    refine (of_c 1 1 rfl (by decide) w6).mono ?_
    rintro e w7 ⟨A_o, n_o, c_o, rfl, h_o, bn⟩
    replace h_a := h_a.below bn
    replace bw := below_two bw bn
    clear bn
    go_wp2_with fail
    refine (mulShift_c h_o _ (by omega) (by omega) (2 ^ k) 3 (by (try simp only [ek]); with_reducible exact S1.out) S3.out (by decide)).mono ?_
    rintro e w8 ⟨A_p, n_p, c_p, rfl, h_p, bn⟩
    replace h_a := h_a.below bn
    replace h_o := h_o.below bn
    replace bw := below_two bw bn
    clear bn
    clear h_o
    go_wp2_with fail
    refine (quoRem_yes h_a h_p (by decide) (by decide) S5.out).mono ?_
    rintro e w9 ⟨A_z, n_z, c_z, A_i, n_i, c_i, rfl, h_z, h_i, bn⟩
    replace h_a := h_a.below bn
    replace h_p := h_p.below bn
    replace bw := below_two bw bn
    clear bn
    clear h_i h_p
    go_wp2_with fail
    refine (mulShift_c h_a _ (by omega) (by omega) ((Limb.val xs_a) / 2 ^ k) 60 (by (try simp only [ek]); with_reducible exact S2.out) S4.out (by decide)).mono ?_
    rintro e w10 ⟨A_u, n_u, c_u, rfl, h_u, bn⟩
    replace h_a := h_a.below bn
    replace h_z := h_z.below bn
    replace bw := below_two bw bn
    clear bn
    go_wp2_with fail
    refine (keep_c h_z h_u (by decide) (by decide) true (same_limbs rfl)).mono ?_
    rintro e w11 ⟨rfl, bn⟩
    replace h_a := h_a.below bn
    replace h_z := h_z.below bn
    replace h_u := h_u.below bn
    replace bw := below_two bw bn
    clear bn
    clear h_z h_u
    go_wp2_with fail
    refine (wakes_any w11).mono ?_
    rintro e w12 ⟨rfl, bn⟩
    replace h_a := h_a.below bn
    replace bw := below_two bw bn
    clear bn
    go_wp2
    go_ret
    exact ⟨rfl, bw⟩

set_option maxRecDepth 100000 in
theorem lifted (os : Os) (started : os.Started) (H : Type) (enc : TypeId × Value → H) :
    ReturnsInHanded {} Try.checked os 6 .any (Rows.quoSmallSpec.pre6 enc Try.prog Try.f6 Rows.quoSmallRow.domain false) (Rows.quoSmallSpec.post enc Try.prog Try.f6 false true false false) := by
  refine returnsInHanded_of_change (C := Try.checked) own started (by kernel_rfl) Try.func6
    (ChangeSpec.witness6 (enc := enc) (C := Try.checked) false ⟨#[], #[.slice none 0 0, .int .u32 0, .int .u8 0], []⟩ 8 (by kernel_rfl) (by kernel_rfl) (by kernel_rfl) (by kernel_rfl)) ?_
  intro W base args ds gs before hval0 hW hcnd _
  have hval : ∀ (j : Nat) t v, Try.f6.params[j]? = some t → args[j]? = some v → Value.okWide Try.prog W .any base t v := hval0
  have hW' := hW
  obtain ⟨p, q, hA0, hV, rfl, hfz, hnd⟩ := hW
  have hA : DataW.TrodAll enc Try.prog W 0 (fun _ => true) true Try.f6.params.toList args.toList ds p := hA0
  rw [Try.params6] at hA hval
  obtain ⟨v0, vs0, d0, ds0, p0, q0, hargs, rfl, rfl, h0, r0⟩ := trodAll_cons hA
  obtain ⟨v1, vs1, d1, ds1, p1, q1, rfl, rfl, rfl, h1, r1⟩ := trodAll_cons r0
  obtain ⟨v2, vs2, d2, ds2, p2, q2, rfl, rfl, rfl, h2, r2⟩ := trodAll_cons r1
  obtain ⟨rfl, rfl, rfl⟩ := trodAll_nil r2
  obtain rfl : args = #[v0, v1, v2] := by cases args; simp_all
  obtain ⟨rfl, rfl⟩ := trodVars_none hV
  obtain ⟨a0, len0, cap0, rfl⟩ := okWide_slice Try.underlying23 (hval 0 23 v0 rfl rfl)
  obtain ⟨z0, i0, hc0, hm0, _⟩ := open_nat h0
  obtain ⟨a1, rfl, rfl, rfl, w1⟩ := open_int Try.underlying24 (hval 1 24 v1 rfl rfl) h1
  obtain ⟨a2, rfl, rfl, rfl, w2⟩ := open_int Try.underlying5 (hval 2 5 v2 rfl rfl) h2
  clear hA0 hval0
  refine (walk a0 len0 cap0 z0 a1 a2 W i0 hc0 hm0 w1 w2).mono fun e W' ⟨he, bel⟩ => ?_
  subst he
  exact ⟨_, rfl, _, _, _, [], _, [], hW', trodAll_mk1 (shut_bool Try.underlying4 _), (trodAll_cons_mk (Below.trod laidOut (by kernel_rfl) (of_decide_eq_true (by kernel_rfl)) h0 bel (places_lt h0)) (trodAll_cons_mk (shut_int Try.underlying24 w1) (trodAll_cons_mk (shut_int Try.underlying5 w2) trodAll_mk0))), rfl, bel.frame _, fun h => by cases h⟩

theorem over : Rows.quoSmallRow.holds Try.pinned (OpenSpec.ofChange Rows.quoSmallSpec) :=
  OpenClaim.holds_of_wide 6 Try.f6 rfl rfl rfl rfl rfl rfl rfl ⟨rfl, rfl, rfl, rfl, rfl⟩ rfl rfl rfl rfl rfl (by kernel_rfl) Try.func6 (by kernel_rfl)
    (of_decide_eq_true (by kernel_rfl)) (by unfold Func.isWrapper; first | (rw [if_pos (by decide +kernel)]; kernel_rfl) | (rw [if_neg (by decide +kernel)]; exact ⟨rfl, rfl⟩))
    (fun os started H enc _ => lifted os started H enc)

theorem proved : Rows.QuoSmallSaid := over

end Go.Proofs.Ytbenkbgdahcaaaa.lawQuoSmall
