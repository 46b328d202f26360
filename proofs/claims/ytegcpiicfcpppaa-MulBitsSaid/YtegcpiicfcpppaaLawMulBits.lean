/- Of any two lists of limbs: a product has as many bits as both together or one fewer, and moved down it loses just the lowest. No condition. -/
import Derived.Test.YtegcpiicfcpppaaOpen
import Derived.Test.YtegcpiicfcpppaaMulW
namespace Go.Proofs.Ytegcpiicfcpppaa.lawMulBits
open Go.ChangeShapes Go.WideShapes Go.ChangeAt Go.RowKit Limb
set_option linter.unusedVariables false

theorem wf_u8 {n : Int} (h : (Lit.int .u8 n).wf = true) : 0 ≤ n ∧ n < 256 := by
  have h1 : IntKind.u8.min = 0 := rfl
  have h2 : IntKind.u8.max = 255 := rfl
  simp only [Lit.wf, Bool.and_eq_true, decide_eq_true_eq] at h
  omega

theorem shiftV_minus (a k : Nat) (h : k ≤ 8192) : shiftV a (-(k : Int)) = a / 2 ^ k := by
  by_cases h0 : k = 0
  · subst h0
    rw [shiftV_up (k := 0) (by omega) (by omega), Nat.pow_zero, Nat.mul_one, Nat.div_one]
  · exact shiftV_down (by omega) (by omega) (by omega)

theorem bit_at {a : Nat} {i : Int} {v : Bool} (n : Nat) (h : i = n) (hb : v = a.testBit n) : a.testBit i.toNat = v := by
  rw [h, Int.toNat_natCast, hb]

theorem blen_div (a k : Nat) : blen (a / 2 ^ k) = blen a - k := by
  by_cases h : blen a ≤ k
  · have h1 : a < 2 ^ k := Nat.lt_of_lt_of_le (blen_lt a) (Nat.pow_le_pow_right (by decide) h)
    rw [Nat.div_eq_of_lt h1, blen_zero]; omega
  · have h0 : a ≠ 0 := fun e => h (by rw [e, blen_zero]; exact Nat.zero_le _)
    obtain ⟨h1, h2, h3⟩ := blen_spec h0
    rw [show blen a - k = (blen a - 1 - k) + 1 by omega]
    refine blen_eq ?_ ?_
    · rw [Nat.le_div_iff_mul_le (Nat.two_pow_pos _), ← Nat.pow_add, show blen a - 1 - k + k = blen a - 1 by omega]
      exact h1
    · rw [Nat.div_lt_iff_lt_mul (Nat.two_pow_pos _), ← Nat.pow_add, show blen a - 1 - k + 1 + k = blen a by omega]
      exact h2

theorem blen_mul (a b : Nat) (ha : a ≠ 0) (hb : b ≠ 0) : blen (a * b) = blen a + blen b ∨ blen (a * b) = blen a + blen b - 1 := by
  obtain ⟨h1, h2, h3⟩ := blen_spec ha
  obtain ⟨k1, k2, k3⟩ := blen_spec hb
  have hlo : 2 ^ (blen a - 1 + (blen b - 1)) ≤ a * b := by rw [Nat.pow_add]; exact Nat.mul_le_mul h1 k1
  have hhi : a * b < 2 ^ (blen a + blen b) := by rw [Nat.pow_add]; exact Nat.mul_lt_mul'' h2 k2
  by_cases hm : 2 ^ (blen a + blen b - 1) ≤ a * b
  · left
    have := blen_eq hm (by rw [show blen a + blen b - 1 + 1 = blen a + blen b by omega]; exact hhi)
    omega
  · right
    have := blen_eq (k := blen a - 1 + (blen b - 1)) hlo (by rw [show blen a - 1 + (blen b - 1) + 1 = blen a + blen b - 1 by omega]; exact Nat.lt_of_not_le hm)
    omega

set_option maxHeartbeats 2000000 in
theorem walk (A_a : Option Addr) (n_a c_a : Nat) (xs_a : List Nat) (A_b : Option Addr) (n_b c_b : Nat) (xs_b : List Nat) (v_n : Int) (w : World) (i_a : IsN w A_a n_a xs_a) (hc_a : n_a ≤ c_a) (hm_a : c_a ≤ maxLen) (i_b : IsN w A_b n_b xs_b) (hc_b : n_b ≤ c_b) (hm_b : c_b ≤ maxLen) (f_n : (Lit.int .u8 v_n).wf = true) :
    Calls Try.prog 7 #[.slice A_a n_a c_a, .slice A_b n_b c_b, .int .u8 v_n] w fun e w' => e = .returned (.bool true) ∧ Below w.heap.size w w' := by
  have bw := bel_refl w
  have hx_a : (n_a : Int) ≤ 9223372036854775807 := by have := Nat.le_trans hc_a hm_a; unfold maxLen at this; omega
  have hx_b : (n_b : Int) ≤ 9223372036854775807 := by have := Nat.le_trans hc_b hm_b; unfold maxLen at this; omega
  by_cases l_a : 60 < n_a
  · go_enter Try.func7, Try.ntmps7
    go_wp2_with fail
    refine (wakes_any w).mono ?_
    rintro e w1 ⟨rfl, bn⟩
    replace bw := below_two bw bn
    clear bn
    go_wp2
    go_ret
    exact ⟨rfl, bw⟩
  by_cases l_b : 60 < n_b
  · go_enter Try.func7, Try.ntmps7
    go_wp2_with fail
    refine (wakes_any w).mono ?_
    rintro e w1 ⟨rfl, bn⟩
    replace bw := below_two bw bn
    clear bn
    go_wp2
    go_ret
    exact ⟨rfl, bw⟩
  have h_a : NN w A_a n_a c_a xs_a (Limb.val xs_a) 60 := ⟨i_a, rfl, hc_a, by omega⟩
  have h_b : NN w A_b n_b c_b xs_b (Limb.val xs_b) 60 := ⟨i_b, rfl, hc_b, by omega⟩
  have hn := wf_u8 f_n
  obtain ⟨N, rfl⟩ := Int.eq_ofNat_of_zero_le hn.1
  obtain ⟨k, hk⟩ : ∃ k, k = N % 100 := ⟨_, rfl⟩
  have ek : (N : Int) % 100 = (k : Int) := by omega
  have hk2 : k ≤ 99 := by omega
  have hN : N < 256 := by omega
  have S1 := Lib.hid (shiftV_minus (Limb.val xs_a) k (by omega))
  have S2 := Lib.hid (Nat.lt_of_le_of_lt (Nat.div_le_self (Limb.val xs_a) (2 ^ k)) (lt_pow h_a))
  have S3 := Lib.hid (fun i => Nat.testBit_div_two_pow (i := i) (n := k) (Limb.val xs_a))
  have S4 := Lib.hid (blen_div (Limb.val xs_a) k)
  have S5 := Lib.hid (blen_mul (Limb.val xs_a) (Limb.val xs_b))
  have hX : blen (Limb.val xs_a) ≤ 1920 := blen_NN h_a
  have hY : blen (Limb.val xs_b) ≤ 1920 := blen_NN h_b
  clear hn hk f_n
  by_cases za : (Limb.val xs_a) = 0
  · have Za := Lib.hid za
    have Zp : RowKit.Hid ((Limb.val xs_a) * (Limb.val xs_b) = 0) := by show _ = _; rw [za, Nat.zero_mul]
    clear za
    go_enter Try.func7, Try.ntmps7
    go_wp2_with fail
    refine (bits_c h_a (by decide) 0 (by rw [Za.out, blen_zero]; rfl)).mono ?_
    rintro e wx ⟨rfl, rfl⟩
    go_wp2_with fail
    refine (bits_c h_b (by decide) _ rfl).mono ?_
    rintro e wx ⟨rfl, rfl⟩
    go_wp2_with fail
    refine (mulOf_c h_a h_b 120 (by decide) (by decide) (by decide)).mono ?_
    rintro e w1 ⟨A_p, n_p, c_p, rfl, h_p, bn⟩
    replace h_a := h_a.below bn
    replace h_b := h_b.below bn
    replace bw := below_two bw bn
    clear bn
    go_wp2_with fail
    refine (bits_c h_p (by decide) 0 (by rw [Zp.out, blen_zero]; rfl)).mono ?_
    rintro e w1x ⟨rfl, rfl⟩
    clear h_p
    go_wp2_with fail
    refine (wakes_any w1).mono ?_
    rintro e w2 ⟨rfl, bn⟩
    replace h_a := h_a.below bn
    replace h_b := h_b.below bn
    replace bw := below_two bw bn
    clear bn
    go_wp2
    go_ret
    exact ⟨rfl, bw⟩
  · have hxz : (((blen (Limb.val xs_a) : Nat) : Int) == 0) = false := by simp [blen_eq_zero]; exact za
    have hx0 : 0 < blen (Limb.val xs_a) := Nat.pos_of_ne_zero fun h => za (blen_eq_zero.1 h)
    by_cases zb : (Limb.val xs_b) = 0
    · have Zb := Lib.hid zb
      have Zp : RowKit.Hid ((Limb.val xs_a) * (Limb.val xs_b) = 0) := by show _ = _; rw [zb, Nat.mul_zero]
      clear zb za
      go_enter Try.func7, Try.ntmps7
      go_wp2_with fail
      refine (bits_c h_a (by decide) _ rfl).mono ?_
      rintro e wx ⟨rfl, rfl⟩
      go_wp2_with fail
      refine (bits_c h_b (by decide) 0 (by rw [Zb.out, blen_zero]; rfl)).mono ?_
      rintro e wx ⟨rfl, rfl⟩
      go_wp2_with fail
      refine (mulOf_c h_a h_b 120 (by decide) (by decide) (by decide)).mono ?_
      rintro e w1 ⟨A_p, n_p, c_p, rfl, h_p, bn⟩
      replace h_a := h_a.below bn
      replace h_b := h_b.below bn
      replace bw := below_two bw bn
      clear bn
      go_wp2_with fail
      refine (bits_c h_p (by decide) 0 (by rw [Zp.out, blen_zero]; rfl)).mono ?_
      rintro e w1x ⟨rfl, rfl⟩
      clear h_p
      go_wp2_with fail
      refine (wakes_any w1).mono ?_
      rintro e w2 ⟨rfl, bn⟩
      replace h_a := h_a.below bn
      replace h_b := h_b.below bn
      replace bw := below_two bw bn
      clear bn
      go_wp2
      go_ret
      exact ⟨rfl, bw⟩
    · have hyz : (((blen (Limb.val xs_b) : Nat) : Int) == 0) = false := by simp [blen_eq_zero]; exact zb
      have hy0 : 0 < blen (Limb.val xs_b) := Nat.pos_of_ne_zero fun h => zb (blen_eq_zero.1 h)
      have S6 := Lib.hid (S5.out za zb)
      clear za zb
      obtain ⟨X, hXe⟩ : ∃ X, X = blen (Limb.val xs_a) := ⟨_, rfl⟩
      obtain ⟨Y, hYe⟩ : ∃ Y, Y = blen (Limb.val xs_b) := ⟨_, rfl⟩
      rw [← hXe] at hxz hx0 hX S4 S6
      rw [← hYe] at hyz hy0 hY S6
      have HX : RowKit.Hid (((blen (Limb.val xs_a) : Nat) : Int) = (X : Int)) := by show _ = _; rw [hXe]
      have HY : RowKit.Hid (((blen (Limb.val xs_b) : Nat) : Int) = (Y : Int)) := by show _ = _; rw [hYe]
      clear hXe hYe S5
      rcases S6.out with hz | hz
      · have HZ : RowKit.Hid (((blen ((Limb.val xs_a) * (Limb.val xs_b)) : Nat) : Int) = (X : Int) + (Y : Int)) := by show _ = _; rw [hz]; omega
        clear hz S6
        go_enter Try.func7, Try.ntmps7
        go_wp2_with fail
        refine (bits_c h_a (by decide) (X : Int) HX.out).mono ?_
        rintro e wx ⟨rfl, rfl⟩
        go_wp2_with fail
        refine (bits_c h_b (by decide) (Y : Int) HY.out).mono ?_
        rintro e wx ⟨rfl, rfl⟩
        go_wp2_with fail
        refine (mulOf_c h_a h_b 120 (by decide) (by decide) (by decide)).mono ?_
        rintro e w1 ⟨A_p, n_p, c_p, rfl, h_p, bn⟩
        replace h_a := h_a.below bn
        replace h_b := h_b.below bn
        replace bw := below_two bw bn
        clear bn
        go_wp2_with fail
        refine (bits_c h_p (by decide) _ HZ.out).mono ?_
        rintro e w1x ⟨rfl, rfl⟩
        clear h_p
        go_wp2_with fail
        refine (mulShift_c h_a _ (by omega) (by omega) ((Limb.val xs_a) / 2 ^ k) 60 (by (try simp only [ek]); with_reducible exact S1.out) S2.out (by decide)).mono ?_
        rintro e w2 ⟨A_d, n_d, c_d, rfl, h_d, bn⟩
        replace h_a := h_a.below bn
        replace h_b := h_b.below bn
        replace bw := below_two bw bn
        clear bn
        clear HX HY HZ S1 S2
        go_wp2
        go_loop [12] (fun i => ∃ m : Nat, m ≤ 40 ∧ i = .int .i64 (m : Int)) (fun i => (40 - intOf i).toNat)
        case atStart => exact ⟨0, by omega, rfl⟩
        case round =>
          obtain ⟨m, hm, rfl⟩ := hrel
          by_cases hm4 : m < 40
          · have hbit : ((Limb.val xs_a) / 2 ^ k).testBit m = ((Limb.val xs_a)).testBit (m + k) := by rw [S3.out m]
            obtain ⟨bb, hbb⟩ : ∃ bb, bb = ((Limb.val xs_a)).testBit (m + k) := ⟨_, rfl⟩
            rw [← hbb] at hbit
            have Hb1 := Lib.hid hbit
            have Hb2 := Lib.hid hbb
            clear hbit hbb
            go_wp2_with fail
            refine (bit_c h_d (by decide) _ (by omega) (by omega) bb (by rw [Int.toNat_natCast]; exact Hb1.out)).mono ?_
            rintro e w2x ⟨rfl, rfl⟩
            go_wp2_with fail
            refine (bit_c h_a (by decide) _ (by omega) (by omega) bb (bit_at (m + k) (by omega) Hb2.out)).mono ?_
            rintro e w2x ⟨rfl, rfl⟩
            clear Hb1 Hb2
            cases bb
            all_goals
              go_wp2
              go_round
              case rel => exact ⟨m + 1, by omega, by go_num⟩
              case measure => simp [intOf]; omega
          · obtain rfl : m = 40 := by omega
            by_cases hkx : X ≤ k
            · have H5 : RowKit.Hid (((blen ((Limb.val xs_a) / 2 ^ k) : Nat) : Int) = 0) := by have := S4.out; show _ = _; omega
              go_wp2_with fail
              refine (bits_c h_d (by decide) _ H5.out).mono ?_
              rintro e w2x ⟨rfl, rfl⟩
              go_wp2_with fail
              refine (wakes_any w2).mono ?_
              rintro e w3 ⟨rfl, bn⟩
              replace h_a := h_a.below bn
              replace h_b := h_b.below bn
              replace h_d := h_d.below bn
              replace bw := below_two bw bn
              clear bn
              go_wp2
              go_ret
              exact ⟨rfl, bw⟩
            · have H5 : RowKit.Hid (((blen ((Limb.val xs_a) / 2 ^ k) : Nat) : Int) = (X : Int) - (k : Int)) := by have := S4.out; show _ = _; omega
              go_wp2_with fail
              refine (bits_c h_d (by decide) _ H5.out).mono ?_
              rintro e w2x ⟨rfl, rfl⟩
              go_wp2_with fail
              refine (wakes_any w2).mono ?_
              rintro e w3 ⟨rfl, bn⟩
              replace h_a := h_a.below bn
              replace h_b := h_b.below bn
              replace h_d := h_d.below bn
              replace bw := below_two bw bn
              clear bn
              go_wp2
              go_ret
              exact ⟨rfl, bw⟩
      · have HZ : RowKit.Hid (((blen ((Limb.val xs_a) * (Limb.val xs_b)) : Nat) : Int) = (X : Int) + (Y : Int) - 1) := by show _ = _; rw [hz]; omega
        clear hz S6
        have hne : (((X : Int) + (Y : Int) - 1) != ((X : Int) + (Y : Int))) = true := by simp; omega
        go_enter Try.func7, Try.ntmps7
        go_wp2_with fail
        refine (bits_c h_a (by decide) (X : Int) HX.out).mono ?_
        rintro e wx ⟨rfl, rfl⟩
        go_wp2_with fail
        refine (bits_c h_b (by decide) (Y : Int) HY.out).mono ?_
        rintro e wx ⟨rfl, rfl⟩
        go_wp2_with fail
        refine (mulOf_c h_a h_b 120 (by decide) (by decide) (by decide)).mono ?_
        rintro e w1 ⟨A_p, n_p, c_p, rfl, h_p, bn⟩
        replace h_a := h_a.below bn
        replace h_b := h_b.below bn
        replace bw := below_two bw bn
        clear bn
        go_wp2_with fail
        refine (bits_c h_p (by decide) _ HZ.out).mono ?_
        rintro e w1x ⟨rfl, rfl⟩
        clear h_p
        go_wp2_with fail
        refine (mulShift_c h_a _ (by omega) (by omega) ((Limb.val xs_a) / 2 ^ k) 60 (by (try simp only [ek]); with_reducible exact S1.out) S2.out (by decide)).mono ?_
        rintro e w2 ⟨A_d, n_d, c_d, rfl, h_d, bn⟩
        replace h_a := h_a.below bn
        replace h_b := h_b.below bn
        replace bw := below_two bw bn
        clear bn
        clear HX HY HZ S1 S2 hne
        go_wp2
        go_loop [12] (fun i => ∃ m : Nat, m ≤ 40 ∧ i = .int .i64 (m : Int)) (fun i => (40 - intOf i).toNat)
        case atStart => exact ⟨0, by omega, rfl⟩
        case round =>
          obtain ⟨m, hm, rfl⟩ := hrel
          by_cases hm4 : m < 40
          · have hbit : ((Limb.val xs_a) / 2 ^ k).testBit m = ((Limb.val xs_a)).testBit (m + k) := by rw [S3.out m]
            obtain ⟨bb, hbb⟩ : ∃ bb, bb = ((Limb.val xs_a)).testBit (m + k) := ⟨_, rfl⟩
            rw [← hbb] at hbit
            have Hb1 := Lib.hid hbit
            have Hb2 := Lib.hid hbb
            clear hbit hbb
            go_wp2_with fail
            refine (bit_c h_d (by decide) _ (by omega) (by omega) bb (by rw [Int.toNat_natCast]; exact Hb1.out)).mono ?_
            rintro e w2x ⟨rfl, rfl⟩
            go_wp2_with fail
            refine (bit_c h_a (by decide) _ (by omega) (by omega) bb (bit_at (m + k) (by omega) Hb2.out)).mono ?_
            rintro e w2x ⟨rfl, rfl⟩
            clear Hb1 Hb2
            cases bb
            all_goals
              go_wp2
              go_round
              case rel => exact ⟨m + 1, by omega, by go_num⟩
              case measure => simp [intOf]; omega
          · obtain rfl : m = 40 := by omega
            by_cases hkx : X ≤ k
            · have H5 : RowKit.Hid (((blen ((Limb.val xs_a) / 2 ^ k) : Nat) : Int) = 0) := by have := S4.out; show _ = _; omega
              go_wp2_with fail
              refine (bits_c h_d (by decide) _ H5.out).mono ?_
              rintro e w2x ⟨rfl, rfl⟩
              go_wp2_with fail
              refine (wakes_any w2).mono ?_
              rintro e w3 ⟨rfl, bn⟩
              replace h_a := h_a.below bn
              replace h_b := h_b.below bn
              replace h_d := h_d.below bn
              replace bw := below_two bw bn
              clear bn
              go_wp2
              go_ret
              exact ⟨rfl, bw⟩
            · have H5 : RowKit.Hid (((blen ((Limb.val xs_a) / 2 ^ k) : Nat) : Int) = (X : Int) - (k : Int)) := by have := S4.out; show _ = _; omega
              go_wp2_with fail
              refine (bits_c h_d (by decide) _ H5.out).mono ?_
              rintro e w2x ⟨rfl, rfl⟩
              go_wp2_with fail
              refine (wakes_any w2).mono ?_
              rintro e w3 ⟨rfl, bn⟩
              replace h_a := h_a.below bn
              replace h_b := h_b.below bn
              replace h_d := h_d.below bn
              replace bw := below_two bw bn
              clear bn
              go_wp2
              go_ret
              exact ⟨rfl, bw⟩

set_option maxRecDepth 100000 in
theorem lifted (os : Os) (started : os.Started) (H : Type) (enc : TypeId × Value → H) :
    ReturnsInHanded {} Try.checked os 7 .any (Rows.mulBitsSpec.pre6 enc Try.prog Try.f7 Rows.mulBitsRow.domain false) (Rows.mulBitsSpec.post enc Try.prog Try.f7 false true false false) := by
  refine returnsInHanded_of_change (C := Try.checked) own started (by kernel_rfl) Try.func7
    (ChangeSpec.witness6 (enc := enc) (C := Try.checked) false ⟨#[], #[.slice none 0 0, .slice none 0 0, .int .u8 0], []⟩ 8 (by kernel_rfl) (by kernel_rfl) (by kernel_rfl) (by kernel_rfl)) ?_
  intro W base args ds gs before hval0 hW hcnd _
  have hval : ∀ (j : Nat) t v, Try.f7.params[j]? = some t → args[j]? = some v → Value.okWide Try.prog W .any base t v := hval0
  have hW' := hW
  obtain ⟨p, q, hA0, hV, rfl, hfz, hnd⟩ := hW
  have hA : DataW.TrodAll enc Try.prog W 0 (fun _ => true) true Try.f7.params.toList args.toList ds p := hA0
  rw [Try.params7] at hA hval
  obtain ⟨v0, vs0, d0, ds0, p0, q0, hargs, rfl, rfl, h0, r0⟩ := trodAll_cons hA
  obtain ⟨v1, vs1, d1, ds1, p1, q1, rfl, rfl, rfl, h1, r1⟩ := trodAll_cons r0
  obtain ⟨v2, vs2, d2, ds2, p2, q2, rfl, rfl, rfl, h2, r2⟩ := trodAll_cons r1
  obtain ⟨rfl, rfl, rfl⟩ := trodAll_nil r2
  obtain rfl : args = #[v0, v1, v2] := by cases args; simp_all
  obtain ⟨rfl, rfl⟩ := trodVars_none hV
  obtain ⟨a0, len0, cap0, rfl⟩ := okWide_slice Try.underlying23 (hval 0 23 v0 rfl rfl)
  obtain ⟨z0, i0, hc0, hm0, _⟩ := open_nat h0
  obtain ⟨a1, len1, cap1, rfl⟩ := okWide_slice Try.underlying23 (hval 1 23 v1 rfl rfl)
  obtain ⟨z1, i1, hc1, hm1, _⟩ := open_nat h1
  obtain ⟨a2, rfl, rfl, rfl, w2⟩ := open_int Try.underlying5 (hval 2 5 v2 rfl rfl) h2
  clear hA0 hval0
  refine (walk a0 len0 cap0 z0 a1 len1 cap1 z1 a2 W i0 hc0 hm0 i1 hc1 hm1 w2).mono fun e W' ⟨he, bel⟩ => ?_
  subst he
  exact ⟨_, rfl, _, _, _, [], _, [], hW', trodAll_mk1 (shut_bool Try.underlying4 _), (trodAll_cons_mk (Below.trod laidOut (by kernel_rfl) (of_decide_eq_true (by kernel_rfl)) h0 bel (places_lt h0)) (trodAll_cons_mk (Below.trod laidOut (by kernel_rfl) (of_decide_eq_true (by kernel_rfl)) h1 bel (places_lt h1)) (trodAll_cons_mk (shut_int Try.underlying5 w2) trodAll_mk0))), rfl, bel.frame _, fun h => by cases h⟩

theorem over : Rows.mulBitsRow.holds Try.pinned (OpenSpec.ofChange Rows.mulBitsSpec) :=
  OpenClaim.holds_of_wide 7 Try.f7 rfl rfl rfl rfl rfl rfl rfl ⟨rfl, rfl, rfl, rfl, rfl⟩ rfl rfl rfl rfl rfl (by kernel_rfl) Try.func7 (by kernel_rfl)
    (of_decide_eq_true (by kernel_rfl)) (by unfold Func.isWrapper; first | (rw [if_pos (by decide +kernel)]; kernel_rfl) | (rw [if_neg (by decide +kernel)]; exact ⟨rfl, rfl⟩))
    (fun os started H enc _ => lifted os started H enc)

theorem proved : Rows.MulBitsSaid := over

end Go.Proofs.Ytegcpiicfcpppaa.lawMulBits
