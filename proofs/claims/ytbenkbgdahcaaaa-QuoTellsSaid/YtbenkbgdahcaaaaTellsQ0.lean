/- The statement QuoTells where nothing is left of the division by one limb, both numbers at most 60 limbs long. -/
import Derived.Test.YtbenkbgdahcaaaaOpen
import Derived.Test.YtbenkbgdahcaaaaQuoU
import Derived.Deep.RegionHeld3
namespace Go.Proofs.Ytbenkbgdahcaaaa.lawQuoTells
open Go.ChangeShapes Go.WideShapes Go.ChangeAt Go.RowKit Limb
set_option linter.unusedVariables false

theorem gcdN_room {w w' : World} {A A' : Option Addr} {n c n' c' : Nat} {xs ys : List Nat} {a b L L' : Nat} (hx : NN w A n c xs a L) (hy : NN w' A' n' c' ys b L') : gcdN a b < 4294967296 ^ (L + L') := by
  have r1 := Nat.lt_of_lt_of_le (lt_pow hx) (Nat.pow_le_pow_right (show 0 < 4294967296 by decide) (Nat.le_add_right L L'))
  have r2 := Nat.lt_of_lt_of_le (lt_pow hy) (Nat.pow_le_pow_right (show 0 < 4294967296 by decide) (Nat.le_add_left L' L))
  unfold gcdN
  by_cases h : a = 0
  · rw [h, Nat.gcd_zero_left]; exact r2
  · exact Nat.lt_of_le_of_lt (Nat.gcd_le_left b (Nat.pos_of_ne_zero h)) r1

set_option maxRecDepth 1000000 in
set_option maxHeartbeats 4000000 in
theorem case_zero (A_a : Option Addr) (n_a c_a : Nat) (xs_a : List Nat) (A_b : Option Addr) (n_b c_b : Nat) (xs_b : List Nat) (v_v : Int) (w : World) (i_a : IsN w A_a n_a xs_a) (hc_a : n_a ≤ c_a) (hm_a : c_a ≤ maxLen) (i_b : IsN w A_b n_b xs_b) (hc_b : n_b ≤ c_b) (hm_b : c_b ≤ maxLen) (f_v : (Lit.int .u32 v_v).wf = true) (l_a : n_a ≤ 60) (l_b : n_b ≤ 60) (v : Nat) (hv : v < 4294967296) (hvx : v_v = (v : Int)) (m : Nat) (Hm : RowKit.Hid (remR (Limb.val xs_a) v = m)) (hm0 : m = 0) :
    Calls Try.prog 3 #[.slice A_a n_a c_a, .slice A_b n_b c_b, .int .u32 v_v] w fun e w' => e = .returned (.bool true) ∧ Below w.heap.size w w' := by
  subst hvx
  have bw := bel_refl w
  have hmv : m < 4294967296 := by rw [← Hm.out]; exact remR_small hv
  obtain ⟨tb, htb⟩ : ∃ tb, decide ((Limb.val xs_b) ≠ 0) = tb := ⟨_, rfl⟩
  obtain ⟨td, htd⟩ : ∃ td, decide (v ≠ 0) = td := ⟨_, rfl⟩
  have Htb := Lib.hid htb
  have Htd := Lib.hid htd
  clear htb htd f_v
  subst hm0
  have h_a : NN w A_a n_a c_a xs_a (Limb.val xs_a) 60 := ⟨i_a, rfl, hc_a, by omega⟩
  have h_b : NN w A_b n_b c_b xs_b (Limb.val xs_b) 60 := ⟨i_b, rfl, hc_b, by omega⟩
  go_enter Try.func3, Try.ntmps3
  go_wp2_with fail
  refine (own_any A_a n_a c_a xs_a _ 60 w h_a (by decide)).mono ?_
  rintro e w1 ⟨A_p, n_p, c_p, rfl, h_p, bn⟩
  replace h_a := h_a.below bn
  replace h_b := h_b.below bn
  replace bw := below_two bw bn
  clear bn
  go_wp2_with fail
  refine (own_any A_b n_b c_b xs_b _ 60 w1 h_b (by decide)).mono ?_
  rintro e w2 ⟨A_q, n_q, c_q, rfl, h_q, bn⟩
  replace h_a := h_a.below bn
  replace h_b := h_b.below bn
  replace h_p := h_p.below bn
  replace bw := below_two bw bn
  clear bn
  go_wp2_with fail
  refine (quoRem_u h_p h_q (by decide) (by decide) tb Htb.out).mono ?_
  rintro e w3 ⟨A_x, n_x, c_x, A_y, n_y, c_y, rfl, h_x, h_y, bn⟩
  replace h_a := h_a.below bn
  replace h_b := h_b.below bn
  replace h_p := h_p.below bn
  replace h_q := h_q.below bn
  replace bw := below_two bw bn
  clear bn
  go_wp2_with fail
  refine (refRem_u h_a h_b (by decide) (by decide) tb Htb.out).mono ?_
  rintro e w4 ⟨A_gq, n_gq, c_gq, A_gr, n_gr, c_gr, rfl, h_gq, h_gr, bn⟩
  replace h_a := h_a.below bn
  replace h_b := h_b.below bn
  replace h_p := h_p.below bn
  replace h_q := h_q.below bn
  replace h_x := h_x.below bn
  replace h_y := h_y.below bn
  replace bw := below_two bw bn
  clear bn
  go_wp2_with fail
  have bn := below_new w4 (.cells #[Value.slice A_gq n_gq c_gq, Value.slice A_gr n_gr c_gr, Value.bool tb] 30)
  have h_g1 := cells3_new w4 (.slice A_gq n_gq c_gq) (.slice A_gr n_gr c_gr) (.bool tb)
  replace h_a := h_a.below bn
  replace h_b := h_b.below bn
  replace h_p := h_p.below bn
  replace h_q := h_q.below bn
  replace h_x := h_x.below bn
  replace h_y := h_y.below bn
  replace h_gq := h_gq.below bn
  replace h_gr := h_gr.below bn
  replace bw := below_two bw bn
  clear bn
  generalize w4.alloc (.cells #[Value.slice A_gq n_gq c_gq, Value.slice A_gr n_gr c_gr, Value.bool tb] 30) = wg at *
  obtain ⟨g1, eg1⟩ : ∃ g1, g1 = w4.heap.size := ⟨_, rfl⟩
  rw [← eg1] at h_g1 ⊢
  clear eg1
  refine (quoSmall_u h_p (by decide) v _ rfl hv td Htd.out).mono ?_
  rw [Hm.out]
  rintro e w5 ⟨A_s, n_s, c_s, rfl, h_s, bn⟩
  replace h_a := h_a.below bn
  replace h_b := h_b.below bn
  replace h_p := h_p.below bn
  replace h_q := h_q.below bn
  replace h_x := h_x.below bn
  replace h_y := h_y.below bn
  replace h_gq := h_gq.below bn
  replace h_gr := h_gr.below bn
  replace h_g1 := h_g1.below bn
  replace bw := below_two bw bn
  clear bn
  go_wp2_with fail
  have h_d : NN (w5.alloc (.cells #[Value.int IntKind.u32 (v : Int)] 24)) (some ⟨w5.heap.size, 0, none⟩) 1 1 [v] v 1 := by
    have h := lit_c w5 [v] (by intro x hx; simp at hx; omega) 1 rfl
    have e : Limb.val [v] = v := by simp [Limb.val]
    rw [e] at h
    exact h
  have bn := below_new w5 (.cells #[Value.int IntKind.u32 (v : Int)] 24)
  replace h_a := h_a.below bn
  replace h_b := h_b.below bn
  replace h_p := h_p.below bn
  replace h_q := h_q.below bn
  replace h_x := h_x.below bn
  replace h_y := h_y.below bn
  replace h_gq := h_gq.below bn
  replace h_gr := h_gr.below bn
  replace h_g1 := h_g1.below bn
  replace h_s := h_s.below bn
  replace bw := below_two bw bn
  clear bn
  refine (refRem_u h_a h_d (by decide) (by decide) td Htd.out).mono ?_
  rintro e w6 ⟨A_hq, n_hq, c_hq, A_hr, n_hr, c_hr, rfl, h_hq, h_hr, bn⟩
  replace h_a := h_a.below bn
  replace h_b := h_b.below bn
  replace h_p := h_p.below bn
  replace h_q := h_q.below bn
  replace h_x := h_x.below bn
  replace h_y := h_y.below bn
  replace h_gq := h_gq.below bn
  replace h_gr := h_gr.below bn
  replace h_g1 := h_g1.below bn
  replace h_s := h_s.below bn
  replace h_d := h_d.below bn
  replace bw := below_two bw bn
  clear bn
  clear h_d
  rw [Hm.out] at h_hr
  obtain rfl : n_hr = 0 := by have := h_hr.isN.len; rw [limbs_zero] at this; exact this.symm
  have bn := below_new w6 (.cells #[Value.slice A_hq n_hq c_hq, Value.slice A_hr 0 c_hr, Value.bool td] 30)
  have h_g2 := cells3_new w6 (.slice A_hq n_hq c_hq) (.slice A_hr 0 c_hr) (.bool td)
  obtain ⟨k0, k1, k2⟩ := h_g2.2
  replace h_a := h_a.below bn
  replace h_b := h_b.below bn
  replace h_p := h_p.below bn
  replace h_q := h_q.below bn
  replace h_x := h_x.below bn
  replace h_y := h_y.below bn
  replace h_gq := h_gq.below bn
  replace h_gr := h_gr.below bn
  replace h_g1 := h_g1.below bn
  replace h_s := h_s.below bn
  replace h_hq := h_hq.below bn
  replace h_hr := h_hr.below bn
  replace bw := below_two bw bn
  clear bn
  obtain ⟨j0, j1, j2⟩ := h_g1.2
  go_wp2_with fail
  clear j0 j1 j2 k0 k1 k2
  generalize w6.alloc (.cells #[Value.slice A_hq n_hq c_hq, Value.slice A_hr 0 c_hr, Value.bool td] 30) = wS at *
  obtain ⟨g2, eg2⟩ : ∃ g2, g2 = w6.heap.size := ⟨_, rfl⟩
  rw [← eg2] at h_g2 ⊢
  clear eg2
  refine (keep_c h_x h_gq (by decide) (by decide) true (same_self _)).mono ?_
  rintro e w7 ⟨rfl, bn⟩
  replace h_a := h_a.below bn
  replace h_b := h_b.below bn
  replace h_p := h_p.below bn
  replace h_q := h_q.below bn
  replace h_x := h_x.below bn
  replace h_y := h_y.below bn
  replace h_gq := h_gq.below bn
  replace h_gr := h_gr.below bn
  replace h_g1 := h_g1.below bn
  replace h_s := h_s.below bn
  replace h_hq := h_hq.below bn
  replace h_hr := h_hr.below bn
  replace h_g2 := h_g2.below bn
  replace bw := below_two bw bn
  clear bn
  obtain ⟨j0, j1, j2⟩ := h_g1.2
  obtain ⟨k0, k1, k2⟩ := h_g2.2
  go_wp2_with fail
  clear j0 j1 j2 k0 k1 k2
  refine (keep_c h_y h_gr (by decide) (by decide) true (same_self _)).mono ?_
  rintro e w8 ⟨rfl, bn⟩
  replace h_a := h_a.below bn
  replace h_b := h_b.below bn
  replace h_p := h_p.below bn
  replace h_q := h_q.below bn
  replace h_x := h_x.below bn
  replace h_y := h_y.below bn
  replace h_gq := h_gq.below bn
  replace h_gr := h_gr.below bn
  replace h_g1 := h_g1.below bn
  replace h_s := h_s.below bn
  replace h_hq := h_hq.below bn
  replace h_hr := h_hr.below bn
  replace h_g2 := h_g2.below bn
  replace bw := below_two bw bn
  clear bn
  obtain ⟨j0, j1, j2⟩ := h_g1.2
  obtain ⟨k0, k1, k2⟩ := h_g2.2
  go_wp2_with fail
  clear j0 j1 j2 k0 k1 k2
  refine (keep_c h_s h_hq (by decide) (by decide) true (same_self _)).mono ?_
  rintro e w9 ⟨rfl, bn⟩
  replace h_a := h_a.below bn
  replace h_b := h_b.below bn
  replace h_p := h_p.below bn
  replace h_q := h_q.below bn
  replace h_x := h_x.below bn
  replace h_y := h_y.below bn
  replace h_gq := h_gq.below bn
  replace h_gr := h_gr.below bn
  replace h_g1 := h_g1.below bn
  replace h_s := h_s.below bn
  replace h_hq := h_hq.below bn
  replace h_hr := h_hr.below bn
  replace h_g2 := h_g2.below bn
  replace bw := below_two bw bn
  clear bn
  obtain ⟨j0, j1, j2⟩ := h_g1.2
  obtain ⟨k0, k1, k2⟩ := h_g2.2
  go_wp2_with fail
  clear j0 j1 j2 k0 k1 k2
  refine (quoGcd_c h_p h_q (by decide) (by decide) (60 + 60) (gcdN_room h_p h_q)).mono ?_
  rintro e w10 ⟨A_o, n_o, c_o, rfl, h_o, bn⟩
  replace h_a := h_a.below bn
  replace h_b := h_b.below bn
  replace h_p := h_p.below bn
  replace h_q := h_q.below bn
  replace h_x := h_x.below bn
  replace h_y := h_y.below bn
  replace h_gq := h_gq.below bn
  replace h_gr := h_gr.below bn
  replace h_g1 := h_g1.below bn
  replace h_s := h_s.below bn
  replace h_hq := h_hq.below bn
  replace h_hr := h_hr.below bn
  replace h_g2 := h_g2.below bn
  replace bw := below_two bw bn
  clear bn
  go_wp2_with fail
  refine (refGcd_c h_a h_b (by decide) (by decide)).mono ?_
  rintro e w11 ⟨A_ro, n_ro, c_ro, rfl, h_ro, bn⟩
  replace h_a := h_a.below bn
  replace h_b := h_b.below bn
  replace h_p := h_p.below bn
  replace h_q := h_q.below bn
  replace h_x := h_x.below bn
  replace h_y := h_y.below bn
  replace h_gq := h_gq.below bn
  replace h_gr := h_gr.below bn
  replace h_g1 := h_g1.below bn
  replace h_s := h_s.below bn
  replace h_hq := h_hq.below bn
  replace h_hr := h_hr.below bn
  replace h_g2 := h_g2.below bn
  replace h_o := h_o.below bn
  replace bw := below_two bw bn
  clear bn
  go_wp2_with fail
  refine (keep_c h_o h_ro (by decide) (by decide) true (same_self _)).mono ?_
  rintro e w12 ⟨rfl, bn⟩
  replace h_a := h_a.below bn
  replace h_b := h_b.below bn
  replace h_p := h_p.below bn
  replace h_q := h_q.below bn
  replace h_x := h_x.below bn
  replace h_y := h_y.below bn
  replace h_gq := h_gq.below bn
  replace h_gr := h_gr.below bn
  replace h_g1 := h_g1.below bn
  replace h_s := h_s.below bn
  replace h_hq := h_hq.below bn
  replace h_hr := h_hr.below bn
  replace h_g2 := h_g2.below bn
  replace h_o := h_o.below bn
  replace h_ro := h_ro.below bn
  replace bw := below_two bw bn
  clear bn
  go_wp2_with fail
  refine (keep_c h_p h_a (by decide) (by decide) true (same_self _)).mono ?_
  rintro e w13 ⟨rfl, bn⟩
  replace h_a := h_a.below bn
  replace h_b := h_b.below bn
  replace h_p := h_p.below bn
  replace h_q := h_q.below bn
  replace h_x := h_x.below bn
  replace h_y := h_y.below bn
  replace h_gq := h_gq.below bn
  replace h_gr := h_gr.below bn
  replace h_g1 := h_g1.below bn
  replace h_s := h_s.below bn
  replace h_hq := h_hq.below bn
  replace h_hr := h_hr.below bn
  replace h_g2 := h_g2.below bn
  replace h_o := h_o.below bn
  replace h_ro := h_ro.below bn
  replace bw := below_two bw bn
  clear bn
  go_wp2_with fail
  refine (keep_c h_q h_b (by decide) (by decide) true (same_self _)).mono ?_
  rintro e w14 ⟨rfl, bn⟩
  replace h_a := h_a.below bn
  replace h_b := h_b.below bn
  replace h_p := h_p.below bn
  replace h_q := h_q.below bn
  replace h_x := h_x.below bn
  replace h_y := h_y.below bn
  replace h_gq := h_gq.below bn
  replace h_gr := h_gr.below bn
  replace h_g1 := h_g1.below bn
  replace h_s := h_s.below bn
  replace h_hq := h_hq.below bn
  replace h_hr := h_hr.below bn
  replace h_g2 := h_g2.below bn
  replace h_o := h_o.below bn
  replace h_ro := h_ro.below bn
  replace bw := below_two bw bn
  clear bn
  go_wp2_with fail
  refine (wakes_any w14).mono ?_
  rintro e w15 ⟨rfl, bn⟩
  replace h_a := h_a.below bn
  replace h_b := h_b.below bn
  replace h_p := h_p.below bn
  replace h_q := h_q.below bn
  replace h_x := h_x.below bn
  replace h_y := h_y.below bn
  replace h_gq := h_gq.below bn
  replace h_gr := h_gr.below bn
  replace h_g1 := h_g1.below bn
  replace h_s := h_s.below bn
  replace h_hq := h_hq.below bn
  replace h_hr := h_hr.below bn
  replace h_g2 := h_g2.below bn
  replace h_o := h_o.below bn
  replace h_ro := h_ro.below bn
  replace bw := below_two bw bn
  clear bn
  go_wp2
  go_ret
  exact ⟨rfl, bw⟩


end Go.Proofs.Ytbenkbgdahcaaaa.lawQuoTells
