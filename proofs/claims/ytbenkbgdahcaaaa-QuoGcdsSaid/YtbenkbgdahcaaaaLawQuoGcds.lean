/- Of any three lists of limbs: the greatest divisor divides both, both divided by it have none but 1, and a common factor is a factor of it. No condition. -/
import Derived.Test.YtbenkbgdahcaaaaOpen
import Derived.Test.YtbenkbgdahcaaaaQuoW
namespace Go.Proofs.Ytbenkbgdahcaaaa.lawQuoGcds
open Go.ChangeShapes Go.WideShapes Go.ChangeAt Go.RowKit Limb
set_option linter.unusedVariables false

theorem gcdN_comm (a b : Nat) : gcdN a b = gcdN b a := Nat.gcd_comm a b
theorem gcdN_lt {a b M : Nat} (ha : a < M) (hb : b < M) : gcdN a b < M := by
  unfold gcdN
  by_cases h : a = 0
  · rw [h, Nat.gcd_zero_left]; exact hb
  · exact Nat.lt_of_le_of_lt (Nat.gcd_le_left b (Nat.pos_of_ne_zero h)) ha
theorem gcdN_pos {a b : Nat} (h : a ≠ 0 ∨ b ≠ 0) : gcdN a b ≠ 0 := by
  unfold gcdN
  intro h0
  rw [Nat.gcd_eq_zero_iff] at h0
  rcases h with h | h
  · exact h h0.1
  · exact h h0.2
theorem gcdN_left {a b : Nat} : a % gcdN a b = 0 := Nat.mod_eq_zero_of_dvd (Nat.gcd_dvd_left a b)
theorem gcdN_right {a b : Nat} : b % gcdN a b = 0 := Nat.mod_eq_zero_of_dvd (Nat.gcd_dvd_right a b)
theorem gcdN_one {a b : Nat} (h : gcdN a b ≠ 0) : gcdN (a / gcdN a b) (b / gcdN a b) = 1 := by
  unfold gcdN at *
  rw [Nat.gcd_div (Nat.gcd_dvd_left a b) (Nat.gcd_dvd_right a b), Nat.div_self (Nat.pos_of_ne_zero h)]
theorem gcdN_mul (a b c : Nat) : gcdN (a * c) (b * c) = gcdN a b * c := Nat.gcd_mul_right a c b

set_option maxHeartbeats 4000000 in
theorem walk (A_a : Option Addr) (n_a c_a : Nat) (xs_a : List Nat) (A_b : Option Addr) (n_b c_b : Nat) (xs_b : List Nat) (A_c : Option Addr) (n_c c_c : Nat) (xs_c : List Nat) (w : World) (i_a : IsN w A_a n_a xs_a) (hc_a : n_a ≤ c_a) (hm_a : c_a ≤ maxLen) (i_b : IsN w A_b n_b xs_b) (hc_b : n_b ≤ c_b) (hm_b : c_b ≤ maxLen) (i_c : IsN w A_c n_c xs_c) (hc_c : n_c ≤ c_c) (hm_c : c_c ≤ maxLen) :
    Calls Try.prog 5 #[.slice A_a n_a c_a, .slice A_b n_b c_b, .slice A_c n_c c_c] w fun e w' => e = .returned (.bool true) ∧ Below w.heap.size w w' := by
  have bw := bel_refl w
  have hx_a : (n_a : Int) ≤ 9223372036854775807 := by have := Nat.le_trans hc_a hm_a; unfold maxLen at this; omega
  have hx_b : (n_b : Int) ≤ 9223372036854775807 := by have := Nat.le_trans hc_b hm_b; unfold maxLen at this; omega
  have hx_c : (n_c : Int) ≤ 9223372036854775807 := by have := Nat.le_trans hc_c hm_c; unfold maxLen at this; omega
  by_cases l_a : 25 < n_a
  · go_enter Try.func5, Try.ntmps5
    go_wp2_with fail
    refine (wakes_any w).mono ?_
    rintro e w1 ⟨rfl, bn⟩
    replace bw := below_two bw bn
    clear bn
    go_wp2
    go_ret
    exact ⟨rfl, bw⟩
  by_cases l_b : 25 < n_b
  · go_enter Try.func5, Try.ntmps5
    go_wp2_with fail
    refine (wakes_any w).mono ?_
    rintro e w1 ⟨rfl, bn⟩
    replace bw := below_two bw bn
    clear bn
    go_wp2
    go_ret
    exact ⟨rfl, bw⟩
  by_cases l_c : 10 < n_c
  · go_enter Try.func5, Try.ntmps5
    go_wp2_with fail
    refine (wakes_any w).mono ?_
    rintro e w1 ⟨rfl, bn⟩
    replace bw := below_two bw bn
    clear bn
    go_wp2
    go_ret
    exact ⟨rfl, bw⟩
  have h_a : NN w A_a n_a c_a xs_a (Limb.val xs_a) 25 := ⟨i_a, rfl, hc_a, by omega⟩
  have h_b : NN w A_b n_b c_b xs_b (Limb.val xs_b) 25 := ⟨i_b, rfl, hc_b, by omega⟩
  have h_c : NN w A_c n_c c_c xs_c (Limb.val xs_c) 10 := ⟨i_c, rfl, hc_c, by omega⟩
  obtain ⟨g, hg⟩ : ∃ g, g = gcdN (Limb.val xs_a) (Limb.val xs_b) := ⟨_, rfl⟩
  have Hg := Lib.hid hg
  have G1 : RowKit.Hid (gcdN (Limb.val xs_a) (Limb.val xs_b) < 4294967296 ^ 25) := gcdN_lt (lt_pow h_a) (lt_pow h_b)
  have G2 : RowKit.Hid (gcdN (Limb.val xs_b) (Limb.val xs_a) < 4294967296 ^ 25) := gcdN_lt (lt_pow h_b) (lt_pow h_a)
  clear hg
  by_cases ha : (Limb.val xs_a) = 0
  · by_cases hb : (Limb.val xs_b) = 0
    · have Ha := Lib.hid ha
      have Hb := Lib.hid hb
      clear ha hb
      go_enter Try.func5, Try.ntmps5
      go_wp2_with fail
      refine (quoGcd_c h_a h_b (by decide) (by decide) 25 G1.out).mono ?_
      rintro e w1 ⟨A_g, n_g, c_g, rfl, h_g, bn⟩
      replace h_a := h_a.below bn
      replace h_b := h_b.below bn
      replace h_c := h_c.below bn
      replace bw := below_two bw bn
      clear bn
      go_wp2_with fail
      refine (quoGcd_c h_b h_a (by decide) (by decide) 25 G2.out).mono ?_
      rintro e w2 ⟨A_x, n_x, c_x, rfl, h_x, bn⟩
      replace h_a := h_a.below bn
      replace h_b := h_b.below bn
      replace h_c := h_c.below bn
      replace h_g := h_g.below bn
      replace bw := below_two bw bn
      clear bn
      go_wp2_with fail
      refine (keep_c h_g h_x (by decide) (by decide) true (same_limbs (gcdN_comm _ _))).mono ?_
      rintro e w3 ⟨rfl, bn⟩
      replace h_a := h_a.below bn
      replace h_b := h_b.below bn
      replace h_c := h_c.below bn
      replace h_g := h_g.below bn
      replace h_x := h_x.below bn
      replace bw := below_two bw bn
      clear bn
      clear h_x
      go_wp2_with fail
      refine (bits_c h_a (by decide) 0 (by rw [Ha.out, blen_zero]; rfl)).mono ?_
      rintro e w3x ⟨rfl, rfl⟩
      go_wp2_with fail
      refine (bits_c h_b (by decide) 0 (by rw [Hb.out, blen_zero]; rfl)).mono ?_
      rintro e w3x ⟨rfl, rfl⟩
      obtain rfl : n_g = 0 := by have := h_g.isN.len; rw [Ha.out, Hb.out, show gcdN 0 0 = 0 from rfl, limbs_zero] at this; exact this.symm
      go_wp2_with fail
      refine (wakes_any w3).mono ?_
      rintro e w4 ⟨rfl, bn⟩
      replace h_a := h_a.below bn
      replace h_b := h_b.below bn
      replace h_c := h_c.below bn
      replace h_g := h_g.below bn
      replace bw := below_two bw bn
      clear bn
      go_wp2
      go_ret
      exact ⟨rfl, bw⟩
    · have Ha := Lib.hid ha
      have hbz : (((blen (Limb.val xs_b) : Nat) : Int) == 0) = false := by simp [blen_eq_zero]; exact hb
      have Hn : RowKit.Hid (gcdN (Limb.val xs_a) (Limb.val xs_b) ≠ 0) := gcdN_pos (.inr hb)
      clear ha hb
      go_enter Try.func5, Try.ntmps5
      go_wp2_with fail
      refine (quoGcd_c h_a h_b (by decide) (by decide) 25 G1.out).mono ?_
      rintro e w1 ⟨A_g, n_g, c_g, rfl, h_g, bn⟩
      replace h_a := h_a.below bn
      replace h_b := h_b.below bn
      replace h_c := h_c.below bn
      replace bw := below_two bw bn
      clear bn
      go_wp2_with fail
      refine (quoGcd_c h_b h_a (by decide) (by decide) 25 G2.out).mono ?_
      rintro e w2 ⟨A_x, n_x, c_x, rfl, h_x, bn⟩
      replace h_a := h_a.below bn
      replace h_b := h_b.below bn
      replace h_c := h_c.below bn
      replace h_g := h_g.below bn
      replace bw := below_two bw bn
      clear bn
      go_wp2_with fail
      refine (keep_c h_g h_x (by decide) (by decide) true (same_limbs (gcdN_comm _ _))).mono ?_
      rintro e w3 ⟨rfl, bn⟩
      replace h_a := h_a.below bn
      replace h_b := h_b.below bn
      replace h_c := h_c.below bn
      replace h_g := h_g.below bn
      replace h_x := h_x.below bn
      replace bw := below_two bw bn
      clear bn
      clear h_x
      go_wp2_with fail
      refine (bits_c h_a (by decide) 0 (by rw [Ha.out, blen_zero]; rfl)).mono ?_
      rintro e w3x ⟨rfl, rfl⟩
      go_wp2_with fail
      refine (bits_c h_b (by decide) _ rfl).mono ?_
      rintro e w3x ⟨rfl, rfl⟩
      have h_g2 := h_g
      go_wp2_with fail
      refine (quoRem_yes h_a h_g (by decide) (by decide) Hn.out).mono ?_
      rintro e w4 ⟨A_x, n_x, c_x, A_r, n_r, c_r, rfl, h_x, h_r, bn⟩
      replace h_a := h_a.below bn
      replace h_b := h_b.below bn
      replace h_c := h_c.below bn
      replace h_g := h_g.below bn
      replace bw := below_two bw bn
      clear bn
      clear h_g2
      go_wp2_with fail
      refine (quoRem_yes h_b h_g (by decide) (by decide) Hn.out).mono ?_
      rintro e w5 ⟨A_y, n_y, c_y, A_s, n_s, c_s, rfl, h_y, h_s, bn⟩
      replace h_a := h_a.below bn
      replace h_b := h_b.below bn
      replace h_c := h_c.below bn
      replace h_g := h_g.below bn
      replace h_x := h_x.below bn
      replace h_r := h_r.below bn
      replace bw := below_two bw bn
      clear bn
      obtain rfl : n_r = 0 := by have := h_r.isN.len; rw [gcdN_left, limbs_zero] at this; exact this.symm
      obtain rfl : n_s = 0 := by have := h_s.isN.len; rw [gcdN_right, limbs_zero] at this; exact this.symm
      clear h_r h_s
      go_wp2_with fail
      refine (quoGcd_c h_x h_y (by decide) (by decide) 25 (gcdN_lt (lt_pow h_x) (lt_pow h_y))).mono ?_
      rintro e w6 ⟨A_u, n_u, c_u, rfl, h_u, bn⟩
      replace h_a := h_a.below bn
      replace h_b := h_b.below bn
      replace h_c := h_c.below bn
      replace h_g := h_g.below bn
      replace h_x := h_x.below bn
      replace h_y := h_y.below bn
      replace bw := below_two bw bn
      clear bn
      clear h_x h_y
      go_wp2_with fail
      refine (of_c 1 1 rfl (by decide) w6).mono ?_
      rintro e w7 ⟨A_o, n_o, c_o, rfl, h_o, bn⟩
      replace h_a := h_a.below bn
      replace h_b := h_b.below bn
      replace h_c := h_c.below bn
      replace h_g := h_g.below bn
      replace h_u := h_u.below bn
      replace bw := below_two bw bn
      clear bn
      go_wp2_with fail
      refine (keep_c h_u h_o (by decide) (by decide) true (same_limbs (gcdN_one Hn.out))).mono ?_
      rintro e w8 ⟨rfl, bn⟩
      replace h_a := h_a.below bn
      replace h_b := h_b.below bn
      replace h_c := h_c.below bn
      replace h_g := h_g.below bn
      replace h_u := h_u.below bn
      replace h_o := h_o.below bn
      replace bw := below_two bw bn
      clear bn
      clear h_u h_o
      go_wp2_with fail
      refine (mulOf_c h_a h_c 35 (by decide) (by decide) (by decide)).mono ?_
      rintro e w9 ⟨A_x, n_x, c_x, rfl, h_x, bn⟩
      replace h_a := h_a.below bn
      replace h_b := h_b.below bn
      replace h_c := h_c.below bn
      replace h_g := h_g.below bn
      replace bw := below_two bw bn
      clear bn
      go_wp2_with fail
      refine (mulOf_c h_b h_c 35 (by decide) (by decide) (by decide)).mono ?_
      rintro e w10 ⟨A_y, n_y, c_y, rfl, h_y, bn⟩
      replace h_a := h_a.below bn
      replace h_b := h_b.below bn
      replace h_c := h_c.below bn
      replace h_g := h_g.below bn
      replace h_x := h_x.below bn
      replace bw := below_two bw bn
      clear bn
      go_wp2_with fail
      refine (quoGcd_c h_x h_y (by decide) (by decide) 35 (gcdN_lt (lt_pow h_x) (lt_pow h_y))).mono ?_
      rintro e w11 ⟨A_u, n_u, c_u, rfl, h_u, bn⟩
      replace h_a := h_a.below bn
      replace h_b := h_b.below bn
      replace h_c := h_c.below bn
      replace h_g := h_g.below bn
      replace h_x := h_x.below bn
      replace h_y := h_y.below bn
      replace bw := below_two bw bn
      clear bn
      clear h_x h_y
      go_wp2_with fail
      refine (mulOf_c h_g h_c 35 (by decide) (by decide) (by decide)).mono ?_
      rintro e w12 ⟨A_o, n_o, c_o, rfl, h_o, bn⟩
      replace h_a := h_a.below bn
      replace h_b := h_b.below bn
      replace h_c := h_c.below bn
      replace h_g := h_g.below bn
      replace h_u := h_u.below bn
      replace bw := below_two bw bn
      clear bn
      go_wp2_with fail
      refine (keep_c h_u h_o (by decide) (by decide) true (same_limbs (gcdN_mul _ _ _))).mono ?_
      rintro e w13 ⟨rfl, bn⟩
      replace h_a := h_a.below bn
      replace h_b := h_b.below bn
      replace h_c := h_c.below bn
      replace h_g := h_g.below bn
      replace h_u := h_u.below bn
      replace h_o := h_o.below bn
      replace bw := below_two bw bn
      clear bn
      clear h_u h_o
      go_wp2_with fail
      refine (wakes_any w13).mono ?_
      rintro e w14 ⟨rfl, bn⟩
      replace h_a := h_a.below bn
      replace h_b := h_b.below bn
      replace h_c := h_c.below bn
      replace h_g := h_g.below bn
      replace bw := below_two bw bn
      clear bn
      go_wp2
      go_ret
      exact ⟨rfl, bw⟩
  · have haz : (((blen (Limb.val xs_a) : Nat) : Int) == 0) = false := by simp [blen_eq_zero]; exact ha
    have Hn : RowKit.Hid (gcdN (Limb.val xs_a) (Limb.val xs_b) ≠ 0) := gcdN_pos (.inl ha)
    clear ha
    go_enter Try.func5, Try.ntmps5
    go_wp2_with fail
    refine (quoGcd_c h_a h_b (by decide) (by decide) 25 G1.out).mono ?_
    rintro e w1 ⟨A_g, n_g, c_g, rfl, h_g, bn⟩
    replace h_a := h_a.below bn
    replace h_b := h_b.below bn
    replace h_c := h_c.below bn
    replace bw := below_two bw bn
    clear bn
    go_wp2_with fail
    refine (quoGcd_c h_b h_a (by decide) (by decide) 25 G2.out).mono ?_
    rintro e w2 ⟨A_x, n_x, c_x, rfl, h_x, bn⟩
    replace h_a := h_a.below bn
    replace h_b := h_b.below bn
    replace h_c := h_c.below bn
    replace h_g := h_g.below bn
    replace bw := below_two bw bn
    clear bn
    go_wp2_with fail
    refine (keep_c h_g h_x (by decide) (by decide) true (same_limbs (gcdN_comm _ _))).mono ?_
    rintro e w3 ⟨rfl, bn⟩
    replace h_a := h_a.below bn
    replace h_b := h_b.below bn
    replace h_c := h_c.below bn
    replace h_g := h_g.below bn
    replace h_x := h_x.below bn
    replace bw := below_two bw bn
    clear bn
    clear h_x
    go_wp2_with fail
    refine (bits_c h_a (by decide) _ rfl).mono ?_
    rintro e w3x ⟨rfl, rfl⟩
    have h_g2 := h_g
    go_wp2_with fail
    refine (quoRem_yes h_a h_g (by decide) (by decide) Hn.out).mono ?_
    rintro e w4 ⟨A_x, n_x, c_x, A_r, n_r, c_r, rfl, h_x, h_r, bn⟩
    replace h_a := h_a.below bn
    replace h_b := h_b.below bn
    replace h_c := h_c.below bn
    replace h_g := h_g.below bn
    replace bw := below_two bw bn
    clear bn
    clear h_g2
    go_wp2_with fail
    refine (quoRem_yes h_b h_g (by decide) (by decide) Hn.out).mono ?_
    rintro e w5 ⟨A_y, n_y, c_y, A_s, n_s, c_s, rfl, h_y, h_s, bn⟩
    replace h_a := h_a.below bn
    replace h_b := h_b.below bn
    replace h_c := h_c.below bn
    replace h_g := h_g.below bn
    replace h_x := h_x.below bn
    replace h_r := h_r.below bn
    replace bw := below_two bw bn
    clear bn
    obtain rfl : n_r = 0 := by have := h_r.isN.len; rw [gcdN_left, limbs_zero] at this; exact this.symm
    obtain rfl : n_s = 0 := by have := h_s.isN.len; rw [gcdN_right, limbs_zero] at this; exact this.symm
    clear h_r h_s
    go_wp2_with fail
    refine (quoGcd_c h_x h_y (by decide) (by decide) 25 (gcdN_lt (lt_pow h_x) (lt_pow h_y))).mono ?_
    rintro e w6 ⟨A_u, n_u, c_u, rfl, h_u, bn⟩
    replace h_a := h_a.below bn
    replace h_b := h_b.below bn
    replace h_c := h_c.below bn
    replace h_g := h_g.below bn
    replace h_x := h_x.below bn
    replace h_y := h_y.below bn
    replace bw := below_two bw bn
    clear bn
    clear h_x h_y
    go_wp2_with fail
    refine (of_c 1 1 rfl (by decide) w6).mono ?_
    rintro e w7 ⟨A_o, n_o, c_o, rfl, h_o, bn⟩
    replace h_a := h_a.below bn
    replace h_b := h_b.below bn
    replace h_c := h_c.below bn
    replace h_g := h_g.below bn
    replace h_u := h_u.below bn
    replace bw := below_two bw bn
    clear bn
    go_wp2_with fail
    refine (keep_c h_u h_o (by decide) (by decide) true (same_limbs (gcdN_one Hn.out))).mono ?_
    rintro e w8 ⟨rfl, bn⟩
    replace h_a := h_a.below bn
    replace h_b := h_b.below bn
    replace h_c := h_c.below bn
    replace h_g := h_g.below bn
    replace h_u := h_u.below bn
    replace h_o := h_o.below bn
    replace bw := below_two bw bn
    clear bn
    clear h_u h_o
    go_wp2_with fail
    refine (mulOf_c h_a h_c 35 (by decide) (by decide) (by decide)).mono ?_
    rintro e w9 ⟨A_x, n_x, c_x, rfl, h_x, bn⟩
    replace h_a := h_a.below bn
    replace h_b := h_b.below bn
    replace h_c := h_c.below bn
    replace h_g := h_g.below bn
    replace bw := below_two bw bn
    clear bn
    go_wp2_with fail
    refine (mulOf_c h_b h_c 35 (by decide) (by decide) (by decide)).mono ?_
    rintro e w10 ⟨A_y, n_y, c_y, rfl, h_y, bn⟩
    replace h_a := h_a.below bn
    replace h_b := h_b.below bn
    replace h_c := h_c.below bn
    replace h_g := h_g.below bn
    replace h_x := h_x.below bn
    replace bw := below_two bw bn
    clear bn
    go_wp2_with fail
    refine (quoGcd_c h_x h_y (by decide) (by decide) 35 (gcdN_lt (lt_pow h_x) (lt_pow h_y))).mono ?_
    rintro e w11 ⟨A_u, n_u, c_u, rfl, h_u, bn⟩
    replace h_a := h_a.below bn
    replace h_b := h_b.below bn
    replace h_c := h_c.below bn
    replace h_g := h_g.below bn
    replace h_x := h_x.below bn
    replace h_y := h_y.below bn
    replace bw := below_two bw bn
    clear bn
    clear h_x h_y
    go_wp2_with fail
    refine (mulOf_c h_g h_c 35 (by decide) (by decide) (by decide)).mono ?_
    rintro e w12 ⟨A_o, n_o, c_o, rfl, h_o, bn⟩
    replace h_a := h_a.below bn
    replace h_b := h_b.below bn
    replace h_c := h_c.below bn
    replace h_g := h_g.below bn
    replace h_u := h_u.below bn
    replace bw := below_two bw bn
    clear bn
    go_wp2_with fail
    refine (keep_c h_u h_o (by decide) (by decide) true (same_limbs (gcdN_mul _ _ _))).mono ?_
    rintro e w13 ⟨rfl, bn⟩
    replace h_a := h_a.below bn
    replace h_b := h_b.below bn
    replace h_c := h_c.below bn
    replace h_g := h_g.below bn
    replace h_u := h_u.below bn
    replace h_o := h_o.below bn
    replace bw := below_two bw bn
    clear bn
    clear h_u h_o
    go_wp2_with fail
    refine (wakes_any w13).mono ?_
    rintro e w14 ⟨rfl, bn⟩
    replace h_a := h_a.below bn
    replace h_b := h_b.below bn
    replace h_c := h_c.below bn
    replace h_g := h_g.below bn
    replace bw := below_two bw bn
    clear bn
    go_wp2
    go_ret
    exact ⟨rfl, bw⟩

set_option maxRecDepth 100000 in
theorem lifted (os : Os) (started : os.Started) (H : Type) (enc : TypeId × Value → H) :
    ReturnsInHanded {} Try.checked os 5 .any (Rows.quoGcdsSpec.pre6 enc Try.prog Try.f5 Rows.quoGcdsRow.domain false) (Rows.quoGcdsSpec.post enc Try.prog Try.f5 false true false false) := by
  refine returnsInHanded_of_change (C := Try.checked) own started (by kernel_rfl) Try.func5
    (ChangeSpec.witness6 (enc := enc) (C := Try.checked) false ⟨#[], #[.slice none 0 0, .slice none 0 0, .slice none 0 0], []⟩ 8 (by kernel_rfl) (by kernel_rfl) (by kernel_rfl) (by kernel_rfl)) ?_
  intro W base args ds gs before hval0 hW hcnd _
  have hval : ∀ (j : Nat) t v, Try.f5.params[j]? = some t → args[j]? = some v → Value.okWide Try.prog W .any base t v := hval0
  have hW' := hW
  obtain ⟨p, q, hA0, hV, rfl, hfz, hnd⟩ := hW
  have hA : DataW.TrodAll enc Try.prog W 0 (fun _ => true) true Try.f5.params.toList args.toList ds p := hA0
  rw [Try.params5] at hA hval
  obtain ⟨v0, vs0, d0, ds0, p0, q0, hargs, rfl, rfl, h0, r0⟩ := trodAll_cons hA
  obtain ⟨v1, vs1, d1, ds1, p1, q1, rfl, rfl, rfl, h1, r1⟩ := trodAll_cons r0
  obtain ⟨v2, vs2, d2, ds2, p2, q2, rfl, rfl, rfl, h2, r2⟩ := trodAll_cons r1
  obtain ⟨rfl, rfl, rfl⟩ := trodAll_nil r2
  obtain rfl : args = #[v0, v1, v2] := by cases args; simp_all
  obtain ⟨rfl, rfl⟩ := trodVars_none hV
  obtain ⟨a0, len0, cap0, rfl⟩ := okWide_slice Try.underlying23 (hval 0 23 v0 rfl rfl)
  obtain ⟨z0, i0, hc0, hm0, _⟩ := open_nat h0
  obtain ⟨a1, len1, cap1, rfl⟩ := okWide_slice Try.underlying23 (hval 1 23 v1 rfl rfl)
  obtain ⟨z1, i1, hc1, hm1, _⟩ := open_nat h1
  obtain ⟨a2, len2, cap2, rfl⟩ := okWide_slice Try.underlying23 (hval 2 23 v2 rfl rfl)
  obtain ⟨z2, i2, hc2, hm2, _⟩ := open_nat h2
  clear hA0 hval0
  refine (walk a0 len0 cap0 z0 a1 len1 cap1 z1 a2 len2 cap2 z2 W i0 hc0 hm0 i1 hc1 hm1 i2 hc2 hm2).mono fun e W' ⟨he, bel⟩ => ?_
  subst he
  exact ⟨_, rfl, _, _, _, [], _, [], hW', trodAll_mk1 (shut_bool Try.underlying4 _), (trodAll_cons_mk (Below.trod laidOut (by kernel_rfl) (of_decide_eq_true (by kernel_rfl)) h0 bel (places_lt h0)) (trodAll_cons_mk (Below.trod laidOut (by kernel_rfl) (of_decide_eq_true (by kernel_rfl)) h1 bel (places_lt h1)) (trodAll_cons_mk (Below.trod laidOut (by kernel_rfl) (of_decide_eq_true (by kernel_rfl)) h2 bel (places_lt h2)) trodAll_mk0))), rfl, bel.frame _, fun h => by cases h⟩

theorem over : Rows.quoGcdsRow.holds Try.pinned (OpenSpec.ofChange Rows.quoGcdsSpec) :=
  OpenClaim.holds_of_wide 5 Try.f5 rfl rfl rfl rfl rfl rfl rfl ⟨rfl, rfl, rfl, rfl, rfl⟩ rfl rfl rfl rfl rfl (by kernel_rfl) Try.func5 (by kernel_rfl)
    (of_decide_eq_true (by kernel_rfl)) (by unfold Func.isWrapper; first | (rw [if_pos (by decide +kernel)]; kernel_rfl) | (rw [if_neg (by decide +kernel)]; exact ⟨rfl, rfl⟩))
    (fun os started H enc _ => lifted os started H enc)

theorem proved : Rows.QuoGcdsSaid := over

end Go.Proofs.Ytbenkbgdahcaaaa.lawQuoGcds
