/- Of any three lists of limbs: divided by two numbers one behind the other it is as by their product. No condition. -/
import Derived.Test.YtbenkbgdahcaaaaOpen
import Derived.Test.YtbenkbgdahcaaaaQuoW
namespace Go.Proofs.Ytbenkbgdahcaaaa.lawQuoTwice
open Go.ChangeShapes Go.WideShapes Go.ChangeAt Go.RowKit Limb
set_option linter.unusedVariables false

set_option maxHeartbeats 4000000 in
theorem walk (A_a : Option Addr) (n_a c_a : Nat) (xs_a : List Nat) (A_b : Option Addr) (n_b c_b : Nat) (xs_b : List Nat) (A_c : Option Addr) (n_c c_c : Nat) (xs_c : List Nat) (w : World) (i_a : IsN w A_a n_a xs_a) (hc_a : n_a ≤ c_a) (hm_a : c_a ≤ maxLen) (i_b : IsN w A_b n_b xs_b) (hc_b : n_b ≤ c_b) (hm_b : c_b ≤ maxLen) (i_c : IsN w A_c n_c xs_c) (hc_c : n_c ≤ c_c) (hm_c : c_c ≤ maxLen) :
    Calls Try.prog 7 #[.slice A_a n_a c_a, .slice A_b n_b c_b, .slice A_c n_c c_c] w fun e w' => e = .returned (.bool true) ∧ Below w.heap.size w w' := by
  have bw := bel_refl w
  have hx_a : (n_a : Int) ≤ 9223372036854775807 := by have := Nat.le_trans hc_a hm_a; unfold maxLen at this; omega
  have hx_b : (n_b : Int) ≤ 9223372036854775807 := by have := Nat.le_trans hc_b hm_b; unfold maxLen at this; omega
  have hx_c : (n_c : Int) ≤ 9223372036854775807 := by have := Nat.le_trans hc_c hm_c; unfold maxLen at this; omega
  by_cases l_a : 40 < n_a
  · go_enter Try.func7, Try.ntmps7
    go_wp2_with fail
    refine (wakes_any w).mono ?_
    rintro e w1 ⟨rfl, bn⟩
    replace bw := below_two bw bn
    clear bn
    go_wp2
    go_ret
    exact ⟨rfl, bw⟩
  by_cases l_b : 15 < n_b
  · go_enter Try.func7, Try.ntmps7
    go_wp2_with fail
    refine (wakes_any w).mono ?_
    rintro e w1 ⟨rfl, bn⟩
    replace bw := below_two bw bn
    clear bn
    go_wp2
    go_ret
    exact ⟨rfl, bw⟩
  by_cases l_c : 15 < n_c
  · go_enter Try.func7, Try.ntmps7
    go_wp2_with fail
    refine (wakes_any w).mono ?_
    rintro e w1 ⟨rfl, bn⟩
    replace bw := below_two bw bn
    clear bn
    go_wp2
    go_ret
    exact ⟨rfl, bw⟩
  have h_a : NN w A_a n_a c_a xs_a (Limb.val xs_a) 40 := ⟨i_a, rfl, hc_a, by omega⟩
  have h_b : NN w A_b n_b c_b xs_b (Limb.val xs_b) 15 := ⟨i_b, rfl, hc_b, by omega⟩
  have h_c : NN w A_c n_c c_c xs_c (Limb.val xs_c) 15 := ⟨i_c, rfl, hc_c, by omega⟩
  by_cases hb : (Limb.val xs_b) = 0
  · have H := Lib.hid hb
    clear hb
    go_enter Try.func7, Try.ntmps7
    go_wp2_with fail
    refine (bits_c h_b (by decide) 0 (by rw [H.out, blen_zero]; rfl)).mono ?_
    rintro e wx ⟨rfl, rfl⟩
    go_wp2_with fail
    refine (wakes_any w).mono ?_
    rintro e w1 ⟨rfl, bn⟩
    replace h_a := h_a.below bn
    replace h_b := h_b.below bn
    replace h_c := h_c.below bn
    replace bw := below_two bw bn
    clear bn
    go_wp2
    go_ret
    exact ⟨rfl, bw⟩
  have Hb := Lib.hid hb
  have hbz : (((blen (Limb.val xs_b) : Nat) : Int) == 0) = false := by simp [blen_eq_zero]; exact hb
  clear hb
  by_cases hc : (Limb.val xs_c) = 0
  · have H := Lib.hid hc
    clear hc
    go_enter Try.func7, Try.ntmps7
    go_wp2_with fail
    refine (bits_c h_b (by decide) _ rfl).mono ?_
    rintro e wx ⟨rfl, rfl⟩
    go_wp2_with fail
    refine (bits_c h_c (by decide) 0 (by rw [H.out, blen_zero]; rfl)).mono ?_
    rintro e wx ⟨rfl, rfl⟩
    go_wp2_with fail
    refine (wakes_any w).mono ?_
    rintro e w1 ⟨rfl, bn⟩
    replace h_a := h_a.below bn
    replace h_b := h_b.below bn
    replace h_c := h_c.below bn
    replace bw := below_two bw bn
    clear bn
    go_wp2
    go_ret
    exact ⟨rfl, bw⟩
  have Hc := Lib.hid hc
  have hcz : (((blen (Limb.val xs_c) : Nat) : Int) == 0) = false := by simp [blen_eq_zero]; exact hc
  clear hc
  go_enter Try.func7, Try.ntmps7
  go_wp2_with fail
  refine (bits_c h_b (by decide) _ rfl).mono ?_
  rintro e wx ⟨rfl, rfl⟩
  go_wp2_with fail
  refine (bits_c h_c (by decide) _ rfl).mono ?_
  rintro e wx ⟨rfl, rfl⟩
  go_wp2_with fail
  refine (quoRem_yes h_a h_b (by decide) (by decide) Hb.out).mono ?_
  rintro e w1 ⟨A_q, n_q, c_q, A_r, n_r, c_r, rfl, h_q, h_r, bn⟩
  replace h_a := h_a.below bn
  replace h_b := h_b.below bn
  replace h_c := h_c.below bn
  replace bw := below_two bw bn
  clear bn
  clear h_r
  go_wp2_with fail
  refine (quoRem_yes h_q h_c (by decide) (by decide) Hc.out).mono ?_
  rintro e w2 ⟨A_p, n_p, c_p, A_r, n_r, c_r, rfl, h_p, h_r, bn⟩
  replace h_a := h_a.below bn
  replace h_b := h_b.below bn
  replace h_c := h_c.below bn
  replace h_q := h_q.below bn
  replace bw := below_two bw bn
  clear bn
  clear h_r h_q
  go_wp2_with fail
  refine (mulOf_c h_b h_c 30 (by decide) (by decide) (by decide)).mono ?_
  rintro e w3 ⟨A_x, n_x, c_x, rfl, h_x, bn⟩
  replace h_a := h_a.below bn
  replace h_b := h_b.below bn
  replace h_c := h_c.below bn
  replace h_p := h_p.below bn
  replace bw := below_two bw bn
  clear bn
  go_wp2_with fail
  refine (quoRem_yes h_a h_x (by decide) (by decide) (Nat.mul_ne_zero Hb.out Hc.out)).mono ?_
  rintro e w4 ⟨A_u, n_u, c_u, A_r, n_r, c_r, rfl, h_u, h_r, bn⟩
  replace h_a := h_a.below bn
  replace h_b := h_b.below bn
  replace h_c := h_c.below bn
  replace h_p := h_p.below bn
  replace h_x := h_x.below bn
  replace bw := below_two bw bn
  clear bn
  clear h_r h_x
  go_wp2_with fail
  refine (keep_c h_p h_u (by decide) (by decide) true (same_limbs (Nat.div_div_eq_div_mul _ _ _))).mono ?_
  rintro e w5 ⟨rfl, bn⟩
  replace h_a := h_a.below bn
  replace h_b := h_b.below bn
  replace h_c := h_c.below bn
  replace h_p := h_p.below bn
  replace h_u := h_u.below bn
  replace bw := below_two bw bn
  clear bn
  clear h_p h_u
  go_wp2_with fail
  refine (wakes_any w5).mono ?_
  rintro e w6 ⟨rfl, bn⟩
  replace h_a := h_a.below bn
  replace h_b := h_b.below bn
  replace h_c := h_c.below bn
  replace bw := below_two bw bn
  clear bn
  go_wp2
  go_ret
  exact ⟨rfl, bw⟩

set_option maxRecDepth 100000 in
theorem lifted (os : Os) (started : os.Started) (H : Type) (enc : TypeId × Value → H) :
    ReturnsInHanded {} Try.checked os 7 .any (Rows.quoTwiceSpec.pre6 enc Try.prog Try.f7 Rows.quoTwiceRow.domain false) (Rows.quoTwiceSpec.post enc Try.prog Try.f7 false true false false) := by
  refine returnsInHanded_of_change (C := Try.checked) own started (by kernel_rfl) Try.func7
    (ChangeSpec.witness6 (enc := enc) (C := Try.checked) false ⟨#[], #[.slice none 0 0, .slice none 0 0, .slice none 0 0], []⟩ 8 (by kernel_rfl) (by kernel_rfl) (by kernel_rfl) (by kernel_rfl)) ?_
  intro W base args ds gs before hval0 hW hcnd _
  have hval : ∀ (j : Nat) t v, Try.f7.params[j]? = some t → args[j]? = some v → Value.okWide Try.prog W .any base t v := hval0
  have hW' := hW
  obtain ⟨p, q, hA0, hV, rfl, hfz, hnd⟩ := hW
  have hA : DataW.TrodAll enc Try.prog W 0 (fun _ => true) true Try.f7.params.toList args.toList ds p := hA0
  rw [Try.params7] at hA hval
  obtain ⟨v0, vs0, d0, ds0, p0, q0, hargs, rfl, rfl, h0, r0⟩ := trodAll_cons hA
  obtain ⟨v1, vs1, d1, ds1, p1, q1, rfl, rfl, rfl, h1, r1⟩ := trodAll_cons r0
  obtain ⟨v2, vs2, d2, ds2, p2, q2, rfl, rfl, rfl, h2, r2⟩ := trodAll_cons r1
  obtain ⟨rfl, rfl, rfl⟩ := trodAll_nil r2
  obtain rfl : args = #[v0, v1, v2] := by cases args; simp_all
  obtain ⟨rfl, rfl⟩ := trodVars_none hV
  obtain ⟨a0, len0, cap0, rfl⟩ := okWide_slice Try.underlying23 (hval 0 23 v0 rfl rfl)
  obtain ⟨z0, i0, hc0, hm0, _⟩ := open_nat h0
  obtain ⟨a1, len1, cap1, rfl⟩ := okWide_slice Try.underlying23 (hval 1 23 v1 rfl rfl)
  obtain ⟨z1, i1, hc1, hm1, _⟩ := open_nat h1
  obtain ⟨a2, len2, cap2, rfl⟩ := okWide_slice Try.underlying23 (hval 2 23 v2 rfl rfl)
  obtain ⟨z2, i2, hc2, hm2, _⟩ := open_nat h2
  clear hA0 hval0
  refine (walk a0 len0 cap0 z0 a1 len1 cap1 z1 a2 len2 cap2 z2 W i0 hc0 hm0 i1 hc1 hm1 i2 hc2 hm2).mono fun e W' ⟨he, bel⟩ => ?_
  subst he
  exact ⟨_, rfl, _, _, _, [], _, [], hW', trodAll_mk1 (shut_bool Try.underlying4 _), (trodAll_cons_mk (Below.trod laidOut (by kernel_rfl) (of_decide_eq_true (by kernel_rfl)) h0 bel (places_lt h0)) (trodAll_cons_mk (Below.trod laidOut (by kernel_rfl) (of_decide_eq_true (by kernel_rfl)) h1 bel (places_lt h1)) (trodAll_cons_mk (Below.trod laidOut (by kernel_rfl) (of_decide_eq_true (by kernel_rfl)) h2 bel (places_lt h2)) trodAll_mk0))), rfl, bel.frame _, fun h => by cases h⟩

theorem over : Rows.quoTwiceRow.holds Try.pinned (OpenSpec.ofChange Rows.quoTwiceSpec) :=
  OpenClaim.holds_of_wide 7 Try.f7 rfl rfl rfl rfl rfl rfl rfl ⟨rfl, rfl, rfl, rfl, rfl⟩ rfl rfl rfl rfl rfl (by kernel_rfl) Try.func7 (by kernel_rfl)
    (of_decide_eq_true (by kernel_rfl)) (by unfold Func.isWrapper; first | (rw [if_pos (by decide +kernel)]; kernel_rfl) | (rw [if_neg (by decide +kernel)]; exact ⟨rfl, rfl⟩))
    (fun os started H enc _ => lifted os started H enc)

theorem proved : Rows.QuoTwiceSaid := over

end Go.Proofs.Ytbenkbgdahcaaaa.lawQuoTwice
