/- Of any two rational numbers above 0 of few limbs the greater one has the greater power by an exponent above 0, the lesser one by one below. No condition. -/
import Derived.Test.YtmifgblbicnimaaM9
import Derived.ChangeMaps5
/- Of any two rational numbers above 0 of few limbs the greater one has the greater power by an exponent above 0, the lesser one by one below. No condition. -/
namespace Go.Proofs.Ytmifgblbicnimaa.lawPowerOrder
open Go.ChangeShapes Go.WideShapes Go.ChangeAt Go.RowKit Limb
set_option linter.unusedVariables false

set_option maxHeartbeats 4000000 in
set_option maxRecDepth 100000 in
theorem walk (g_a : Bool) (A_a : Option Addr) (n_a c_a : Nat) (xs_a : List Nat) (B_a : Option Addr) (m_a d_a : Nat) (ys_a : List Nat) (g_b : Bool) (A_b : Option Addr) (n_b c_b : Nat) (xs_b : List Nat) (B_b : Option Addr) (m_b d_b : Nat) (ys_b : List Nat) (v_n : Int) (w : World) (i_a : IsN w A_a n_a xs_a) (hc_a : n_a ≤ c_a) (hm_a : c_a ≤ maxLen) (j_a : IsN w B_a m_a ys_a) (kc_a : m_a ≤ d_a) (km_a : d_a ≤ maxLen) (i_b : IsN w A_b n_b xs_b) (hc_b : n_b ≤ c_b) (hm_b : c_b ≤ maxLen) (j_b : IsN w B_b m_b ys_b) (kc_b : m_b ≤ d_b) (km_b : d_b ≤ maxLen) (f_n : (Lit.int .u8 v_n).wf = true) :
    Calls Try.prog 7 #[.agg #[.bool g_a, .slice A_a n_a c_a, .slice B_a m_a d_a], .agg #[.bool g_b, .slice A_b n_b c_b, .slice B_b m_b d_b], .int .u8 v_n] w fun e w' => e = .returned (.bool true) ∧ Below w.heap.size w w' := by
  have hw_n : 0 ≤ v_n ∧ v_n ≤ 255 := by
    have e1 : IntKind.u8.min = 0 := rfl
    have e2 : IntKind.u8.max = 255 := rfl
    simp only [Lit.wf, Bool.and_eq_true, decide_eq_true_eq] at f_n
    omega
  obtain ⟨w0_n, w1_n⟩ := hw_n
  clear f_n
  obtain ⟨K, hK⟩ : ∃ K : Nat, 1 + v_n % 9 = (K : Int) := ⟨(1 + v_n % 9).toNat, by omega⟩
  have HK : RowKit.Hid (1 ≤ K ∧ K ≤ 9) := ⟨by omega, by omega⟩
  have K0 : (1 : Int) ≤ (K : Int) := by omega
  have K1 : (K : Int) ≤ 9 := by omega
  have KL_a : max n_a m_a ≤ 9223372036854775807 := by
    have e : maxLen = 9223372036854775807 := by decide
    omega
  have h_a := QQ.of (s := g_a) i_a hc_a j_a kc_a (Nat.le_max_left n_a m_a) (Nat.le_max_right n_a m_a)
  generalize readQ g_a xs_a ys_a = o_a at h_a
  have KL_b : max n_b m_b ≤ 9223372036854775807 := by
    have e : maxLen = 9223372036854775807 := by decide
    omega
  have h_b := QQ.of (s := g_b) i_b hc_b j_b kc_b (Nat.le_max_left n_b m_b) (Nat.le_max_right n_b m_b)
  generalize readQ g_b xs_b ys_b = o_b at h_b
  have bw := bel_refl w
  have h_ra := row3_new w 27 (.bool g_a) (.slice A_a n_a c_a) (.slice B_a m_a d_a)
  have bn := below_new w (.cells #[Value.bool g_a, Value.slice A_a n_a c_a, Value.slice B_a m_a d_a] 27)
  replace h_a := h_a.below bn
  replace h_b := h_b.below bn
  replace bw := below_two bw bn
  clear bn
  have h_rb := row3_new (w.alloc (.cells #[Value.bool g_a, Value.slice A_a n_a c_a, Value.slice B_a m_a d_a] 27)) 27 (.bool g_b) (.slice A_b n_b c_b) (.slice B_b m_b d_b)
  have bn := below_new (w.alloc (.cells #[Value.bool g_a, Value.slice A_a n_a c_a, Value.slice B_a m_a d_a] 27)) (.cells #[Value.bool g_b, Value.slice A_b n_b c_b, Value.slice B_b m_b d_b] 27)
  replace h_a := h_a.below bn
  replace h_b := h_b.below bn
  replace h_ra := h_ra.below bn
  replace bw := below_two bw bn
  clear bn
  simp only [World.size_alloc] at h_rb
  go_enter Try.func7, Try.ntmps7
  go_wp2_with fail
  generalize (w.alloc (.cells #[Value.bool g_a, Value.slice A_a n_a c_a, Value.slice B_a m_a d_a] 27)).alloc (.cells #[Value.bool g_b, Value.slice A_b n_b c_b, Value.slice B_b m_b d_b] 27) = wP at *
  obtain ⟨q_b, eg⟩ : ∃ g, g = w.heap.size + 1 := ⟨_, rfl⟩
  rw [← eg] at h_rb ⊢
  clear eg
  obtain ⟨q_a, eg⟩ : ∃ g, g = w.heap.size := ⟨_, rfl⟩
  rw [← eg] at h_ra ⊢
  clear eg
  cases o_a with
  | none =>
    refine (refGood_c h_a KL_a false rfl).mono ?_
    rintro e w1 ⟨rfl, bn⟩
    replace h_a := h_a.below bn
    replace h_b := h_b.below bn
    replace h_ra := h_ra.below bn
    replace h_rb := h_rb.below bn
    replace bw := below_two bw bn
    clear bn
    go_wp2_with fail
    refine (wakes_any _).mono ?_
    rintro e w2 ⟨rfl, bn⟩
    replace h_a := h_a.below bn
    replace h_b := h_b.below bn
    replace h_ra := h_ra.below bn
    replace h_rb := h_rb.below bn
    replace bw := below_two bw bn
    clear bn
    go_wp2
    go_ret
    exact ⟨rfl, bw⟩
  | some z_a =>
    refine (refGood_c h_a KL_a true rfl).mono ?_
    rintro e w3 ⟨rfl, bn⟩
    replace h_a := h_a.below bn
    replace h_b := h_b.below bn
    replace h_ra := h_ra.below bn
    replace h_rb := h_rb.below bn
    replace bw := below_two bw bn
    clear bn
    have c_b0 := h_rb.c0
    have c_b1 := h_rb.c1
    have c_b2 := h_rb.c2
    go_wp2_with fail
    clear c_b0 c_b1 c_b2
    cases o_b with
    | none =>
      refine (refGood_c h_b KL_b false rfl).mono ?_
      rintro e w4 ⟨rfl, bn⟩
      replace h_a := h_a.below bn
      replace h_b := h_b.below bn
      replace h_ra := h_ra.below bn
      replace h_rb := h_rb.below bn
      replace bw := below_two bw bn
      clear bn
      go_wp2_with fail
      refine (wakes_any _).mono ?_
      rintro e w5 ⟨rfl, bn⟩
      replace h_a := h_a.below bn
      replace h_b := h_b.below bn
      replace h_ra := h_ra.below bn
      replace h_rb := h_rb.below bn
      replace bw := below_two bw bn
      clear bn
      go_wp2
      go_ret
      exact ⟨rfl, bw⟩
    | some z_b =>
      refine (refGood_c h_b KL_b true rfl).mono ?_
      rintro e w6 ⟨rfl, bn⟩
      replace h_a := h_a.below bn
      replace h_b := h_b.below bn
      replace h_ra := h_ra.below bn
      replace h_rb := h_rb.below bn
      replace bw := below_two bw bn
      clear bn
      obtain ⟨t1, t2, t3, t4, L1_a, L2_a, D_a⟩ := qq_told h_a
      clear i_a j_a
      subst t1
      subst t2
      subst t3
      replace h_a := t4
      clear t4
      obtain ⟨t1, t2, t3, t4, L1_b, L2_b, D_b⟩ := qq_told h_b
      clear i_b j_b
      subst t1
      subst t2
      subst t3
      replace h_b := t4
      clear t4
      by_cases l_0 : 2 < n_a
      case pos =>
        have LL : (2 : Int) < n_a := by omega
        clear l_0
        have c_a0 := h_ra.c0
        have c_a1 := h_ra.c1
        have c_a2 := h_ra.c2
        have c_b0 := h_rb.c0
        have c_b1 := h_rb.c1
        have c_b2 := h_rb.c2
        go_wp2_with fail
        clear c_a0 c_a1 c_a2 c_b0 c_b1 c_b2
        refine (wakes_any _).mono ?_
        rintro e w7 ⟨rfl, bn⟩
        replace h_a := h_a.below bn
        replace h_b := h_b.below bn
        replace h_ra := h_ra.below bn
        replace h_rb := h_rb.below bn
        replace bw := below_two bw bn
        clear bn
        go_wp2
        go_ret
        exact ⟨rfl, bw⟩
      have LL_0 : (n_a : Int) ≤ 2 := by omega
      clear l_0
      by_cases l_1 : 2 < m_a
      case pos =>
        have LL : (2 : Int) < m_a := by omega
        clear l_1
        have c_a0 := h_ra.c0
        have c_a1 := h_ra.c1
        have c_a2 := h_ra.c2
        have c_b0 := h_rb.c0
        have c_b1 := h_rb.c1
        have c_b2 := h_rb.c2
        go_wp2_with fail
        clear c_a0 c_a1 c_a2 c_b0 c_b1 c_b2
        refine (wakes_any _).mono ?_
        rintro e w8 ⟨rfl, bn⟩
        replace h_a := h_a.below bn
        replace h_b := h_b.below bn
        replace h_ra := h_ra.below bn
        replace h_rb := h_rb.below bn
        replace bw := below_two bw bn
        clear bn
        go_wp2
        go_ret
        exact ⟨rfl, bw⟩
      have LL_1 : (m_a : Int) ≤ 2 := by omega
      clear l_1
      by_cases l_2 : 2 < n_b
      case pos =>
        have LL : (2 : Int) < n_b := by omega
        clear l_2
        have c_a0 := h_ra.c0
        have c_a1 := h_ra.c1
        have c_a2 := h_ra.c2
        have c_b0 := h_rb.c0
        have c_b1 := h_rb.c1
        have c_b2 := h_rb.c2
        go_wp2_with fail
        clear c_a0 c_a1 c_a2 c_b0 c_b1 c_b2
        refine (wakes_any _).mono ?_
        rintro e w9 ⟨rfl, bn⟩
        replace h_a := h_a.below bn
        replace h_b := h_b.below bn
        replace h_ra := h_ra.below bn
        replace h_rb := h_rb.below bn
        replace bw := below_two bw bn
        clear bn
        go_wp2
        go_ret
        exact ⟨rfl, bw⟩
      have LL_2 : (n_b : Int) ≤ 2 := by omega
      clear l_2
      by_cases l_3 : 2 < m_b
      case pos =>
        have LL : (2 : Int) < m_b := by omega
        clear l_3
        have c_a0 := h_ra.c0
        have c_a1 := h_ra.c1
        have c_a2 := h_ra.c2
        have c_b0 := h_rb.c0
        have c_b1 := h_rb.c1
        have c_b2 := h_rb.c2
        go_wp2_with fail
        clear c_a0 c_a1 c_a2 c_b0 c_b1 c_b2
        refine (wakes_any _).mono ?_
        rintro e w10 ⟨rfl, bn⟩
        replace h_a := h_a.below bn
        replace h_b := h_b.below bn
        replace h_ra := h_ra.below bn
        replace h_rb := h_rb.below bn
        replace bw := below_two bw bn
        clear bn
        go_wp2
        go_ret
        exact ⟨rfl, bw⟩
      have LL_3 : (m_b : Int) ≤ 2 := by omega
      clear l_3
      obtain ⟨s_a, hs_a⟩ : ∃ v, cmpR (some z_a) (some 0) = v := ⟨_, rfl⟩
      have S_a := Lib.hid hs_a
      clear hs_a
      have c_a0 := h_ra.c0
      have c_a1 := h_ra.c1
      have c_a2 := h_ra.c2
      have c_b0 := h_rb.c0
      have c_b1 := h_rb.c1
      have c_b2 := h_rb.c2
      go_wp2_with fail
      clear c_a0 c_a1 c_a2 c_b0 c_b1 c_b2
      refine (rSign_c h_a (by decide) s_a S_a.out).mono ?_
      rintro e w11 ⟨rfl, bn⟩
      replace h_a := h_a.below bn
      replace h_b := h_b.below bn
      replace h_ra := h_ra.below bn
      replace h_rb := h_rb.below bn
      replace bw := below_two bw bn
      clear bn
      by_cases g_a : s_a ≤ 0
      case pos =>
        have c_a0 := h_ra.c0
        have c_a1 := h_ra.c1
        have c_a2 := h_ra.c2
        have c_b0 := h_rb.c0
        have c_b1 := h_rb.c1
        have c_b2 := h_rb.c2
        go_wp2_with fail
        clear c_a0 c_a1 c_a2 c_b0 c_b1 c_b2
        refine (wakes_any _).mono ?_
        rintro e w12 ⟨rfl, bn⟩
        replace h_a := h_a.below bn
        replace h_b := h_b.below bn
        replace h_ra := h_ra.below bn
        replace h_rb := h_rb.below bn
        replace bw := below_two bw bn
        clear bn
        go_wp2
        go_ret
        exact ⟨rfl, bw⟩
      have gg_a : 0 < s_a := by omega
      clear g_a
      have p_a : RowKit.Hid (0 < cmpQ z_a 0) := by show _ < _; rw [show cmpQ z_a 0 = s_a from S_a.out]; exact gg_a
      obtain ⟨s_b, hs_b⟩ : ∃ v, cmpR (some z_b) (some 0) = v := ⟨_, rfl⟩
      have S_b := Lib.hid hs_b
      clear hs_b
      have c_a0 := h_ra.c0
      have c_a1 := h_ra.c1
      have c_a2 := h_ra.c2
      have c_b0 := h_rb.c0
      have c_b1 := h_rb.c1
      have c_b2 := h_rb.c2
      go_wp2_with fail
      clear c_a0 c_a1 c_a2 c_b0 c_b1 c_b2
      refine (rSign_c h_b (by decide) s_b S_b.out).mono ?_
      rintro e w13 ⟨rfl, bn⟩
      replace h_a := h_a.below bn
      replace h_b := h_b.below bn
      replace h_ra := h_ra.below bn
      replace h_rb := h_rb.below bn
      replace bw := below_two bw bn
      clear bn
      by_cases g_b : s_b ≤ 0
      case pos =>
        have c_a0 := h_ra.c0
        have c_a1 := h_ra.c1
        have c_a2 := h_ra.c2
        have c_b0 := h_rb.c0
        have c_b1 := h_rb.c1
        have c_b2 := h_rb.c2
        go_wp2_with fail
        clear c_a0 c_a1 c_a2 c_b0 c_b1 c_b2
        refine (wakes_any _).mono ?_
        rintro e w14 ⟨rfl, bn⟩
        replace h_a := h_a.below bn
        replace h_b := h_b.below bn
        replace h_ra := h_ra.below bn
        replace h_rb := h_rb.below bn
        replace bw := below_two bw bn
        clear bn
        go_wp2
        go_ret
        exact ⟨rfl, bw⟩
      have gg_b : 0 < s_b := by omega
      clear g_b
      have p_b : RowKit.Hid (0 < cmpQ z_b 0) := by show _ < _; rw [show cmpQ z_b 0 = s_b from S_b.out]; exact gg_b
      obtain ⟨z_x, z_y, z_z, z_t, x, y, F0, F1, F2, F3, F4, F5, F6, F7⟩ := porder_facts (D_a.mono (by omega) (by omega)) (D_b.mono (by omega) (by omega)) p_a.out p_b.out HK.out
      have F0 := Lib.hid F0
      have F1 := Lib.hid F1
      have F2 := Lib.hid F2
      have F3 := Lib.hid F3
      have F4 := Lib.hid F4
      have F5 := Lib.hid F5
      have F6 := Lib.hid F6
      have F7 := Lib.hid F7
      have c_a0 := h_ra.c0
      have c_a1 := h_ra.c1
      have c_a2 := h_ra.c2
      have c_b0 := h_rb.c0
      have c_b1 := h_rb.c1
      have c_b2 := h_rb.c2
      go_wp2_with fail
      clear c_a0 c_a1 c_a2 c_b0 c_b1 c_b2
      refine (pOf_c h_a (by decide) (K : Int) _ _ F0.out).mono ?_
      rintro e w15 ⟨A_x, n_x, c_x, B_x, m_x, d_x, rfl, h_x, bn⟩
      replace h_a := h_a.below bn
      replace h_b := h_b.below bn
      replace h_ra := h_ra.below bn
      replace h_rb := h_rb.below bn
      replace bw := below_two bw bn
      clear bn
      have h_rx := row3_new w15 27 (.bool (sg (oTop (some z_x)))) (.slice A_x n_x c_x) (.slice B_x m_x d_x)
      have bn := below_new w15 (.cells #[Value.bool (sg (oTop (some z_x))), Value.slice A_x n_x c_x, Value.slice B_x m_x d_x] 27)
      replace h_a := h_a.below bn
      replace h_b := h_b.below bn
      replace h_ra := h_ra.below bn
      replace h_rb := h_rb.below bn
      replace h_x := h_x.below bn
      replace bw := below_two bw bn
      clear bn
      have c_b0 := h_rb.c0
      have c_b1 := h_rb.c1
      have c_b2 := h_rb.c2
      go_wp2_with fail
      clear c_b0 c_b1 c_b2
      generalize w15.alloc (.cells #[Value.bool (sg (oTop (some z_x))), Value.slice A_x n_x c_x, Value.slice B_x m_x d_x] 27) = w16 at *
      obtain ⟨q_x, eg⟩ : ∃ g, g = w15.heap.size := ⟨_, rfl⟩
      rw [← eg] at h_rx ⊢
      clear eg
      refine (pOf_c h_b (by decide) (K : Int) _ _ F1.out).mono ?_
      rintro e w17 ⟨A_y, n_y, c_y, B_y, m_y, d_y, rfl, h_y, bn⟩
      replace h_a := h_a.below bn
      replace h_b := h_b.below bn
      replace h_ra := h_ra.below bn
      replace h_rb := h_rb.below bn
      replace h_x := h_x.below bn
      replace h_rx := h_rx.below bn
      replace bw := below_two bw bn
      clear bn
      have h_ry := row3_new w17 27 (.bool (sg (oTop (some z_y)))) (.slice A_y n_y c_y) (.slice B_y m_y d_y)
      have bn := below_new w17 (.cells #[Value.bool (sg (oTop (some z_y))), Value.slice A_y n_y c_y, Value.slice B_y m_y d_y] 27)
      replace h_a := h_a.below bn
      replace h_b := h_b.below bn
      replace h_ra := h_ra.below bn
      replace h_rb := h_rb.below bn
      replace h_x := h_x.below bn
      replace h_rx := h_rx.below bn
      replace h_y := h_y.below bn
      replace bw := below_two bw bn
      clear bn
      have c_a0 := h_ra.c0
      have c_a1 := h_ra.c1
      have c_a2 := h_ra.c2
      go_wp2_with fail
      clear c_a0 c_a1 c_a2
      generalize w17.alloc (.cells #[Value.bool (sg (oTop (some z_y))), Value.slice A_y n_y c_y, Value.slice B_y m_y d_y] 27) = w18 at *
      obtain ⟨q_y, eg⟩ : ∃ g, g = w17.heap.size := ⟨_, rfl⟩
      rw [← eg] at h_ry ⊢
      clear eg
      refine (pOf_c h_a (by decide) (-(K : Int)) _ _ F2.out).mono ?_
      rintro e w19 ⟨A_z, n_z, c_z, B_z, m_z, d_z, rfl, h_z, bn⟩
      replace h_a := h_a.below bn
      replace h_b := h_b.below bn
      replace h_ra := h_ra.below bn
      replace h_rb := h_rb.below bn
      replace h_x := h_x.below bn
      replace h_rx := h_rx.below bn
      replace h_y := h_y.below bn
      replace h_ry := h_ry.below bn
      replace bw := below_two bw bn
      clear bn
      have h_rz := row3_new w19 27 (.bool (sg (oTop (some z_z)))) (.slice A_z n_z c_z) (.slice B_z m_z d_z)
      have bn := below_new w19 (.cells #[Value.bool (sg (oTop (some z_z))), Value.slice A_z n_z c_z, Value.slice B_z m_z d_z] 27)
      replace h_a := h_a.below bn
      replace h_b := h_b.below bn
      replace h_ra := h_ra.below bn
      replace h_rb := h_rb.below bn
      replace h_x := h_x.below bn
      replace h_rx := h_rx.below bn
      replace h_y := h_y.below bn
      replace h_ry := h_ry.below bn
      replace h_z := h_z.below bn
      replace bw := below_two bw bn
      clear bn
      have c_b0 := h_rb.c0
      have c_b1 := h_rb.c1
      have c_b2 := h_rb.c2
      go_wp2_with fail
      clear c_b0 c_b1 c_b2
      generalize w19.alloc (.cells #[Value.bool (sg (oTop (some z_z))), Value.slice A_z n_z c_z, Value.slice B_z m_z d_z] 27) = w20 at *
      obtain ⟨q_z, eg⟩ : ∃ g, g = w19.heap.size := ⟨_, rfl⟩
      rw [← eg] at h_rz ⊢
      clear eg
      refine (pOf_c h_b (by decide) (-(K : Int)) _ _ F3.out).mono ?_
      rintro e w21 ⟨A_t, n_t, c_t, B_t, m_t, d_t, rfl, h_t, bn⟩
      replace h_a := h_a.below bn
      replace h_b := h_b.below bn
      replace h_ra := h_ra.below bn
      replace h_rb := h_rb.below bn
      replace h_x := h_x.below bn
      replace h_rx := h_rx.below bn
      replace h_y := h_y.below bn
      replace h_ry := h_ry.below bn
      replace h_z := h_z.below bn
      replace h_rz := h_rz.below bn
      replace bw := below_two bw bn
      clear bn
      have h_rt := row3_new w21 27 (.bool (sg (oTop (some z_t)))) (.slice A_t n_t c_t) (.slice B_t m_t d_t)
      have bn := below_new w21 (.cells #[Value.bool (sg (oTop (some z_t))), Value.slice A_t n_t c_t, Value.slice B_t m_t d_t] 27)
      replace h_a := h_a.below bn
      replace h_b := h_b.below bn
      replace h_ra := h_ra.below bn
      replace h_rb := h_rb.below bn
      replace h_x := h_x.below bn
      replace h_rx := h_rx.below bn
      replace h_y := h_y.below bn
      replace h_ry := h_ry.below bn
      replace h_z := h_z.below bn
      replace h_rz := h_rz.below bn
      replace h_t := h_t.below bn
      replace bw := below_two bw bn
      clear bn
      have c_a0 := h_ra.c0
      have c_a1 := h_ra.c1
      have c_a2 := h_ra.c2
      have c_b0 := h_rb.c0
      have c_b1 := h_rb.c1
      have c_b2 := h_rb.c2
      go_wp2_with fail
      clear c_a0 c_a1 c_a2 c_b0 c_b1 c_b2
      generalize w21.alloc (.cells #[Value.bool (sg (oTop (some z_t))), Value.slice A_t n_t c_t, Value.slice B_t m_t d_t] 27) = w22 at *
      obtain ⟨q_t, eg⟩ : ∃ g, g = w21.heap.size := ⟨_, rfl⟩
      rw [← eg] at h_rt ⊢
      clear eg
      refine (rCmp_c h_a h_b (by decide) (by decide) x F4.out).mono ?_
      rintro e w23 ⟨rfl, bn⟩
      replace h_a := h_a.below bn
      replace h_b := h_b.below bn
      replace h_ra := h_ra.below bn
      replace h_rb := h_rb.below bn
      replace h_x := h_x.below bn
      replace h_rx := h_rx.below bn
      replace h_y := h_y.below bn
      replace h_ry := h_ry.below bn
      replace h_z := h_z.below bn
      replace h_rz := h_rz.below bn
      replace h_t := h_t.below bn
      replace h_rt := h_rt.below bn
      replace bw := below_two bw bn
      clear bn
      have E7 := F7.out
      have c_x0 := h_rx.c0
      have c_x1 := h_rx.c1
      have c_x2 := h_rx.c2
      have c_y0 := h_ry.c0
      have c_y1 := h_ry.c1
      have c_y2 := h_ry.c2
      go_wp2_with fail
      clear c_x0 c_x1 c_x2 c_y0 c_y1 c_y2
      refine (rCmp_c h_x h_y (by decide) (by decide) x F5.out).mono ?_
      rintro e w24 ⟨rfl, bn⟩
      replace h_a := h_a.below bn
      replace h_b := h_b.below bn
      replace h_ra := h_ra.below bn
      replace h_rb := h_rb.below bn
      replace h_x := h_x.below bn
      replace h_rx := h_rx.below bn
      replace h_y := h_y.below bn
      replace h_ry := h_ry.below bn
      replace h_z := h_z.below bn
      replace h_rz := h_rz.below bn
      replace h_t := h_t.below bn
      replace h_rt := h_rt.below bn
      replace bw := below_two bw bn
      clear bn
      have c_z0 := h_rz.c0
      have c_z1 := h_rz.c1
      have c_z2 := h_rz.c2
      have c_t0 := h_rt.c0
      have c_t1 := h_rt.c1
      have c_t2 := h_rt.c2
      go_wp2_with fail
      clear c_z0 c_z1 c_z2 c_t0 c_t1 c_t2
      refine (rCmp_c h_z h_t (by decide) (by decide) y F6.out).mono ?_
      rintro e w25 ⟨rfl, bn⟩
      replace h_a := h_a.below bn
      replace h_b := h_b.below bn
      replace h_ra := h_ra.below bn
      replace h_rb := h_rb.below bn
      replace h_x := h_x.below bn
      replace h_rx := h_rx.below bn
      replace h_y := h_y.below bn
      replace h_ry := h_ry.below bn
      replace h_z := h_z.below bn
      replace h_rz := h_rz.below bn
      replace h_t := h_t.below bn
      replace h_rt := h_rt.below bn
      replace bw := below_two bw bn
      clear bn
      go_wp2_with fail
      refine (wakes_any _).mono ?_
      rintro e w26 ⟨rfl, bn⟩
      replace h_a := h_a.below bn
      replace h_b := h_b.below bn
      replace h_ra := h_ra.below bn
      replace h_rb := h_rb.below bn
      replace h_x := h_x.below bn
      replace h_rx := h_rx.below bn
      replace h_y := h_y.below bn
      replace h_ry := h_ry.below bn
      replace h_z := h_z.below bn
      replace h_rz := h_rz.below bn
      replace h_t := h_t.below bn
      replace h_rt := h_rt.below bn
      replace bw := below_two bw bn
      clear bn
      go_wp2
      go_ret
      exact ⟨rfl, bw⟩

set_option maxRecDepth 100000 in
theorem lifted (os : Os) (started : os.Started) (H : Type) (enc : TypeId × Value → H) :
    ReturnsInHanded {} Try.checked os 7 .any (Rows.powerOrderSpec.pre6 enc Try.prog Try.f7 Rows.powerOrderRow.domain false) (Rows.powerOrderSpec.post enc Try.prog Try.f7 false true false false) := by
  refine returnsInHanded_of_change (C := Try.checked) own started (by kernel_rfl) Try.func7
    (ChangeSpec.witness6 (enc := enc) (C := Try.checked) false ⟨#[], #[.agg #[.bool false, .slice none 0 0, .slice none 0 0], .agg #[.bool false, .slice none 0 0, .slice none 0 0], .int .u8 0], []⟩ 8 (by kernel_rfl) (by kernel_rfl) (by kernel_rfl) (by kernel_rfl)) ?_
  intro W base args ds gs before hval0 hW hcnd _
  have hval : ∀ (j : Nat) t v, Try.f7.params[j]? = some t → args[j]? = some v → Value.okWide Try.prog W .any base t v := hval0
  have hW' := hW
  obtain ⟨p, q, hA0, hV, rfl, hfz, hnd⟩ := hW
  have hA : DataW.TrodAll enc Try.prog W 0 (fun _ => true) true Try.f7.params.toList args.toList ds p := hA0
  rw [Try.params7] at hA hval
  obtain ⟨v0, vs0, d0, ds0, p0, q0, hargs, rfl, rfl, h0, r0⟩ := trodAll_cons hA
  obtain ⟨v1, vs1, d1, ds1, p1, q1, rfl, rfl, rfl, h1, r1⟩ := trodAll_cons r0
  obtain ⟨v2, vs2, d2, ds2, p2, q2, rfl, rfl, rfl, h2, r2⟩ := trodAll_cons r1
  obtain ⟨rfl, rfl, rfl⟩ := trodAll_nil r2
  obtain rfl : args = #[v0, v1, v2] := by cases args; simp_all
  obtain ⟨rfl, rfl⟩ := trodVars_none hV
  obtain ⟨b0, a0, len0, cap0, z0, e0, lem0, dap0, y0, rfl, i0, hc0, hm0, k0, kc0, km0⟩ := open_rat (hval 0 27 v0 rfl rfl) h0
  obtain ⟨b1, a1, len1, cap1, z1, e1, lem1, dap1, y1, rfl, i1, hc1, hm1, k1, kc1, km1⟩ := open_rat (hval 1 27 v1 rfl rfl) h1
  obtain ⟨a2, rfl, rfl, rfl, w2⟩ := open_int Try.underlying5 (hval 2 5 v2 rfl rfl) h2
  clear hA0 hval0
  refine (walk b0 a0 len0 cap0 z0 e0 lem0 dap0 y0 b1 a1 len1 cap1 z1 e1 lem1 dap1 y1 a2 W i0 hc0 hm0 k0 kc0 km0 i1 hc1 hm1 k1 kc1 km1 w2).mono fun e W' ⟨he, bel⟩ => ?_
  subst he
  exact ⟨_, rfl, _, _, _, [], _, [], hW', trodAll_mk1 (shut_bool Try.underlying4 _), (trodAll_cons_mk (Below.trod laidOut (by kernel_rfl) (of_decide_eq_true (by kernel_rfl)) h0 bel (places_lt h0)) (trodAll_cons_mk (Below.trod laidOut (by kernel_rfl) (of_decide_eq_true (by kernel_rfl)) h1 bel (places_lt h1)) (trodAll_cons_mk (shut_int Try.underlying5 w2) trodAll_mk0))), rfl, bel.frame _, fun h => by cases h⟩

theorem over : Rows.powerOrderRow.holds Try.pinned (OpenSpec.ofChange Rows.powerOrderSpec) :=
  OpenClaim.holds_of_wide 7 Try.f7 rfl rfl rfl rfl rfl rfl rfl ⟨rfl, rfl, rfl, rfl, rfl⟩ rfl rfl rfl rfl rfl (by kernel_rfl) Try.func7 (by kernel_rfl)
    (of_decide_eq_true (by kernel_rfl)) (by unfold Func.isWrapper; first | (rw [if_pos (by decide +kernel)]; kernel_rfl) | (rw [if_neg (by decide +kernel)]; exact ⟨rfl, rfl⟩))
    (fun os started H enc _ => lifted os started H enc)

theorem proved : Rows.PowerOrderSaid := over

end Go.Proofs.Ytmifgblbicnimaa.lawPowerOrder
