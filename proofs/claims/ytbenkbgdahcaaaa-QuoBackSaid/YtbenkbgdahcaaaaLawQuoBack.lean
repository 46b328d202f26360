/- Of any three lists of limbs: the quotient times the divisor, and what is left, is the number, what is left is below the divisor, and a product and what is below the divisor come apart again. No condition. -/
import Derived.Test.YtbenkbgdahcaaaaOpen
import Derived.Test.YtbenkbgdahcaaaaQuoW
namespace Go.Proofs.Ytbenkbgdahcaaaa.lawQuoBack
open Go.ChangeShapes Go.WideShapes Go.ChangeAt Go.RowKit Limb
set_option linter.unusedVariables false

theorem back_div {a b c : Nat} (hb : b ≠ 0) : (a * b + c % b) / b = a := by
  rw [Nat.add_comm, Nat.add_mul_div_right _ _ (Nat.pos_of_ne_zero hb), Nat.div_eq_of_lt (Nat.mod_lt _ (Nat.pos_of_ne_zero hb)), Nat.zero_add]
theorem back_mod {a b c : Nat} (hb : b ≠ 0) : (a * b + c % b) % b = c % b := by
  rw [Nat.add_comm, Nat.add_mul_mod_self_right, Nat.mod_mod]

set_option maxHeartbeats 4000000 in
theorem walk (A_a : Option Addr) (n_a c_a : Nat) (xs_a : List Nat) (A_b : Option Addr) (n_b c_b : Nat) (xs_b : List Nat) (A_c : Option Addr) (n_c c_c : Nat) (xs_c : List Nat) (w : World) (i_a : IsN w A_a n_a xs_a) (hc_a : n_a ≤ c_a) (hm_a : c_a ≤ maxLen) (i_b : IsN w A_b n_b xs_b) (hc_b : n_b ≤ c_b) (hm_b : c_b ≤ maxLen) (i_c : IsN w A_c n_c xs_c) (hc_c : n_c ≤ c_c) (hm_c : c_c ≤ maxLen) :
    Calls Try.prog 4 #[.slice A_a n_a c_a, .slice A_b n_b c_b, .slice A_c n_c c_c] w fun e w' => e = .returned (.bool true) ∧ Below w.heap.size w w' := by
  have bw := bel_refl w
  have hx_a : (n_a : Int) ≤ 9223372036854775807 := by have := Nat.le_trans hc_a hm_a; unfold maxLen at this; omega
  have hx_b : (n_b : Int) ≤ 9223372036854775807 := by have := Nat.le_trans hc_b hm_b; unfold maxLen at this; omega
  have hx_c : (n_c : Int) ≤ 9223372036854775807 := by have := Nat.le_trans hc_c hm_c; unfold maxLen at this; omega
  by_cases l_a : 60 < n_a
  · go_enter Try.func4, Try.ntmps4
    go_wp2_with fail
    refine (wakes_any w).mono ?_
    rintro e w1 ⟨rfl, bn⟩
    replace bw := below_two bw bn
    clear bn
    go_wp2
    go_ret
    exact ⟨rfl, bw⟩
  by_cases l_b : 60 < n_b
  · go_enter Try.func4, Try.ntmps4
    go_wp2_with fail
    refine (wakes_any w).mono ?_
    rintro e w1 ⟨rfl, bn⟩
    replace bw := below_two bw bn
    clear bn
    go_wp2
    go_ret
    exact ⟨rfl, bw⟩
  by_cases l_c : 60 < n_c
  · go_enter Try.func4, Try.ntmps4
    go_wp2_with fail
    refine (wakes_any w).mono ?_
    rintro e w1 ⟨rfl, bn⟩
    replace bw := below_two bw bn
    clear bn
    go_wp2
    go_ret
    exact ⟨rfl, bw⟩
  have h_a : NN w A_a n_a c_a xs_a (Limb.val xs_a) 60 := ⟨i_a, rfl, hc_a, by omega⟩
  have h_b : NN w A_b n_b c_b xs_b (Limb.val xs_b) 60 := ⟨i_b, rfl, hc_b, by omega⟩
  have h_c : NN w A_c n_c c_c xs_c (Limb.val xs_c) 60 := ⟨i_c, rfl, hc_c, by omega⟩
  by_cases hb : (Limb.val xs_b) = 0
  · have Hb := Lib.hid hb
    clear hb
    go_enter Try.func4, Try.ntmps4
    go_wp2_with fail
    refine (quoRem_no h_a h_b (by decide) (by decide) Hb.out).mono ?_
    rintro e w1 ⟨A_q, c_q, A_r, c_r, rfl, bn⟩
    replace h_a := h_a.below bn
    replace h_b := h_b.below bn
    replace h_c := h_c.below bn
    replace bw := below_two bw bn
    clear bn
    go_wp2_with fail
    refine (bits_c h_b (by decide) 0 (by rw [Hb.out, blen_zero]; rfl)).mono ?_
    rintro e w1x ⟨rfl, rfl⟩
    go_wp2_with fail
    refine (wakes_any w1).mono ?_
    rintro e w2 ⟨rfl, bn⟩
    replace h_a := h_a.below bn
    replace h_b := h_b.below bn
    replace h_c := h_c.below bn
    replace bw := below_two bw bn
    clear bn
    go_wp2
    go_ret
    exact ⟨rfl, bw⟩
  · have Hb := Lib.hid hb
    have hbz : (((blen (Limb.val xs_b) : Nat) : Int) == 0) = false := by simp [blen_eq_zero]; exact hb
    clear hb
    go_enter Try.func4, Try.ntmps4
    go_wp2_with fail
    refine (quoRem_yes h_a h_b (by decide) (by decide) Hb.out).mono ?_
    rintro e w1 ⟨A_q, n_q, c_q, A_r, n_r, c_r, rfl, h_q, h_r, bn⟩
    replace h_a := h_a.below bn
    replace h_b := h_b.below bn
    replace h_c := h_c.below bn
    replace bw := below_two bw bn
    clear bn
    go_wp2_with fail
    refine (bits_c h_b (by decide) _ rfl).mono ?_
    rintro e w1x ⟨rfl, rfl⟩
    go_wp2_with fail
    refine (cmp_c h_r h_b (by decide) (by decide) (-1) (cmpI_lt (Nat.mod_lt _ (Nat.pos_of_ne_zero Hb.out)))).mono ?_
    rintro e w2 ⟨rfl, bn⟩
    replace h_a := h_a.below bn
    replace h_b := h_b.below bn
    replace h_c := h_c.below bn
    replace h_q := h_q.below bn
    replace h_r := h_r.below bn
    replace bw := below_two bw bn
    clear bn
    go_wp2_with fail
    refine (mulOf_c h_q h_b 120 (by decide) (by decide) (by decide)).mono ?_
    rintro e w3 ⟨A_x, n_x, c_x, rfl, h_x, bn⟩
    replace h_a := h_a.below bn
    replace h_b := h_b.below bn
    replace h_c := h_c.below bn
    replace h_q := h_q.below bn
    replace h_r := h_r.below bn
    replace bw := below_two bw bn
    clear bn
    go_wp2_with fail
    refine (add_c h_x h_r 121 (by decide) (by decide) (by decide)).mono ?_
    rintro e w4 ⟨A_y, n_y, c_y, rfl, h_y, bn⟩
    replace h_a := h_a.below bn
    replace h_b := h_b.below bn
    replace h_c := h_c.below bn
    replace h_q := h_q.below bn
    replace h_r := h_r.below bn
    replace h_x := h_x.below bn
    replace bw := below_two bw bn
    clear bn
    clear h_x
    go_wp2_with fail
    refine (trim_c h_a (by decide)).mono ?_
    rintro e w5 ⟨A_z, n_z, c_z, rfl, h_z, bn⟩
    replace h_a := h_a.below bn
    replace h_b := h_b.below bn
    replace h_c := h_c.below bn
    replace h_q := h_q.below bn
    replace h_r := h_r.below bn
    replace h_y := h_y.below bn
    replace bw := below_two bw bn
    clear bn
    go_wp2_with fail
    refine (keep_c h_y h_z (by decide) (by decide) true (same_limbs (Nat.div_add_mod' _ _))).mono ?_
    rintro e w6 ⟨rfl, bn⟩
    replace h_a := h_a.below bn
    replace h_b := h_b.below bn
    replace h_c := h_c.below bn
    replace h_q := h_q.below bn
    replace h_r := h_r.below bn
    replace h_y := h_y.below bn
    replace h_z := h_z.below bn
    replace bw := below_two bw bn
    clear bn
    clear h_y h_z h_q h_r
    go_wp2_with fail
    refine (quoRem_yes h_c h_b (by decide) (by decide) Hb.out).mono ?_
    rintro e w7 ⟨A_o, n_o, c_o, A_d, n_d, c_d, rfl, h_o, h_d, bn⟩
    replace h_a := h_a.below bn
    replace h_b := h_b.below bn
    replace h_c := h_c.below bn
    replace bw := below_two bw bn
    clear bn
    clear h_o
    go_wp2_with fail
    refine (mulOf_c h_a h_b 120 (by decide) (by decide) (by decide)).mono ?_
    rintro e w8 ⟨A_x, n_x, c_x, rfl, h_x, bn⟩
    replace h_a := h_a.below bn
    replace h_b := h_b.below bn
    replace h_c := h_c.below bn
    replace h_d := h_d.below bn
    replace bw := below_two bw bn
    clear bn
    go_wp2_with fail
    refine (add_c h_x h_d 121 (by decide) (by decide) (by decide)).mono ?_
    rintro e w9 ⟨A_y, n_y, c_y, rfl, h_y, bn⟩
    replace h_a := h_a.below bn
    replace h_b := h_b.below bn
    replace h_c := h_c.below bn
    replace h_d := h_d.below bn
    replace h_x := h_x.below bn
    replace bw := below_two bw bn
    clear bn
    clear h_x
    go_wp2_with fail
    refine (quoRem_yes h_y h_b (by decide) (by decide) Hb.out).mono ?_
    rintro e w10 ⟨A_e, n_e, c_e, A_f, n_f, c_f, rfl, h_e, h_f, bn⟩
    replace h_a := h_a.below bn
    replace h_b := h_b.below bn
    replace h_c := h_c.below bn
    replace h_d := h_d.below bn
    replace h_y := h_y.below bn
    replace bw := below_two bw bn
    clear bn
    clear h_y
    go_wp2_with fail
    refine (trim_c h_a (by decide)).mono ?_
    rintro e w11 ⟨A_z, n_z, c_z, rfl, h_z, bn⟩
    replace h_a := h_a.below bn
    replace h_b := h_b.below bn
    replace h_c := h_c.below bn
    replace h_d := h_d.below bn
    replace h_e := h_e.below bn
    replace h_f := h_f.below bn
    replace bw := below_two bw bn
    clear bn
    go_wp2_with fail
    refine (keep_c h_e h_z (by decide) (by decide) true (same_limbs (back_div Hb.out))).mono ?_
    rintro e w12 ⟨rfl, bn⟩
    replace h_a := h_a.below bn
    replace h_b := h_b.below bn
    replace h_c := h_c.below bn
    replace h_d := h_d.below bn
    replace h_e := h_e.below bn
    replace h_f := h_f.below bn
    replace h_z := h_z.below bn
    replace bw := below_two bw bn
    clear bn
    clear h_e h_z
    go_wp2_with fail
    refine (keep_c h_f h_d (by decide) (by decide) true (same_limbs (back_mod Hb.out))).mono ?_
    rintro e w13 ⟨rfl, bn⟩
    replace h_a := h_a.below bn
    replace h_b := h_b.below bn
    replace h_c := h_c.below bn
    replace h_d := h_d.below bn
    replace h_f := h_f.below bn
    replace bw := below_two bw bn
    clear bn
    clear h_f h_d
    go_wp2_with fail
    refine (wakes_any w13).mono ?_
    rintro e w14 ⟨rfl, bn⟩
    replace h_a := h_a.below bn
    replace h_b := h_b.below bn
    replace h_c := h_c.below bn
    replace bw := below_two bw bn
    clear bn
    go_wp2
    go_ret
    exact ⟨rfl, bw⟩

set_option maxRecDepth 100000 in
theorem lifted (os : Os) (started : os.Started) (H : Type) (enc : TypeId × Value → H) :
    ReturnsInHanded {} Try.checked os 4 .any (Rows.quoBackSpec.pre6 enc Try.prog Try.f4 Rows.quoBackRow.domain false) (Rows.quoBackSpec.post enc Try.prog Try.f4 false true false false) := by
  refine returnsInHanded_of_change (C := Try.checked) own started (by kernel_rfl) Try.func4
    (ChangeSpec.witness6 (enc := enc) (C := Try.checked) false ⟨#[], #[.slice none 0 0, .slice none 0 0, .slice none 0 0], []⟩ 8 (by kernel_rfl) (by kernel_rfl) (by kernel_rfl) (by kernel_rfl)) ?_
  intro W base args ds gs before hval0 hW hcnd _
  have hval : ∀ (j : Nat) t v, Try.f4.params[j]? = some t → args[j]? = some v → Value.okWide Try.prog W .any base t v := hval0
  have hW' := hW
  obtain ⟨p, q, hA0, hV, rfl, hfz, hnd⟩ := hW
  have hA : DataW.TrodAll enc Try.prog W 0 (fun _ => true) true Try.f4.params.toList args.toList ds p := hA0
  rw [Try.params4] at hA hval
  obtain ⟨v0, vs0, d0, ds0, p0, q0, hargs, rfl, rfl, h0, r0⟩ := trodAll_cons hA
  obtain ⟨v1, vs1, d1, ds1, p1, q1, rfl, rfl, rfl, h1, r1⟩ := trodAll_cons r0
  obtain ⟨v2, vs2, d2, ds2, p2, q2, rfl, rfl, rfl, h2, r2⟩ := trodAll_cons r1
  obtain ⟨rfl, rfl, rfl⟩ := trodAll_nil r2
  obtain rfl : args = #[v0, v1, v2] := by cases args; simp_all
  obtain ⟨rfl, rfl⟩ := trodVars_none hV
  obtain ⟨a0, len0, cap0, rfl⟩ := okWide_slice Try.underlying23 (hval 0 23 v0 rfl rfl)
  obtain ⟨z0, i0, hc0, hm0, _⟩ := open_nat h0
  obtain ⟨a1, len1, cap1, rfl⟩ := okWide_slice Try.underlying23 (hval 1 23 v1 rfl rfl)
  obtain ⟨z1, i1, hc1, hm1, _⟩ := open_nat h1
  obtain ⟨a2, len2, cap2, rfl⟩ := okWide_slice Try.underlying23 (hval 2 23 v2 rfl rfl)
  obtain ⟨z2, i2, hc2, hm2, _⟩ := open_nat h2
  clear hA0 hval0
  refine (walk a0 len0 cap0 z0 a1 len1 cap1 z1 a2 len2 cap2 z2 W i0 hc0 hm0 i1 hc1 hm1 i2 hc2 hm2).mono fun e W' ⟨he, bel⟩ => ?_
  subst he
  exact ⟨_, rfl, _, _, _, [], _, [], hW', trodAll_mk1 (shut_bool Try.underlying4 _), (trodAll_cons_mk (Below.trod laidOut (by kernel_rfl) (of_decide_eq_true (by kernel_rfl)) h0 bel (places_lt h0)) (trodAll_cons_mk (Below.trod laidOut (by kernel_rfl) (of_decide_eq_true (by kernel_rfl)) h1 bel (places_lt h1)) (trodAll_cons_mk (Below.trod laidOut (by kernel_rfl) (of_decide_eq_true (by kernel_rfl)) h2 bel (places_lt h2)) trodAll_mk0))), rfl, bel.frame _, fun h => by cases h⟩

theorem over : Rows.quoBackRow.holds Try.pinned (OpenSpec.ofChange Rows.quoBackSpec) :=
  OpenClaim.holds_of_wide 4 Try.f4 rfl rfl rfl rfl rfl rfl rfl ⟨rfl, rfl, rfl, rfl, rfl⟩ rfl rfl rfl rfl rfl (by kernel_rfl) Try.func4 (by kernel_rfl)
    (of_decide_eq_true (by kernel_rfl)) (by unfold Func.isWrapper; first | (rw [if_pos (by decide +kernel)]; kernel_rfl) | (rw [if_neg (by decide +kernel)]; exact ⟨rfl, rfl⟩))
    (fun os started H enc _ => lifted os started H enc)

theorem proved : Rows.QuoBackSaid := over

end Go.Proofs.Ytbenkbgdahcaaaa.lawQuoBack
