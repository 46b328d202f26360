/- Of any rational number of few limbs and any two small exponents: scaled by both it is scaled by their sum; back again it is the same. No condition. -/
import Derived.Test.YtmifgblbicnimaaM9
import Derived.ChangeMaps5
/- Of any rational number of few limbs and any two small exponents: scaled by both it is scaled by their sum; back again it is the same. No condition. -/
namespace Go.Proofs.Ytmifgblbicnimaa.lawPowerTens
open Go.ChangeShapes Go.WideShapes Go.ChangeAt Go.RowKit Limb
set_option linter.unusedVariables false

set_option maxHeartbeats 4000000 in
set_option maxRecDepth 100000 in
theorem walk (g_a : Bool) (A_a : Option Addr) (n_a c_a : Nat) (xs_a : List Nat) (B_a : Option Addr) (m_a d_a : Nat) (ys_a : List Nat) (v_n : Int) (v_m : Int) (w : World) (i_a : IsN w A_a n_a xs_a) (hc_a : n_a ≤ c_a) (hm_a : c_a ≤ maxLen) (j_a : IsN w B_a m_a ys_a) (kc_a : m_a ≤ d_a) (km_a : d_a ≤ maxLen) (f_n : (Lit.int .i8 v_n).wf = true) (f_m : (Lit.int .i8 v_m).wf = true) :
    Calls Try.prog 6 #[.agg #[.bool g_a, .slice A_a n_a c_a, .slice B_a m_a d_a], .int .i8 v_n, .int .i8 v_m] w fun e w' => e = .returned (.bool true) ∧ Below w.heap.size w w' := by
  have hw_n : -128 ≤ v_n ∧ v_n ≤ 127 := by
    have e1 : IntKind.i8.min = -128 := rfl
    have e2 : IntKind.i8.max = 127 := rfl
    simp only [Lit.wf, Bool.and_eq_true, decide_eq_true_eq] at f_n
    omega
  obtain ⟨w0_n, w1_n⟩ := hw_n
  clear f_n
  have hw_m : -128 ≤ v_m ∧ v_m ≤ 127 := by
    have e1 : IntKind.i8.min = -128 := rfl
    have e2 : IntKind.i8.max = 127 := rfl
    simp only [Lit.wf, Bool.and_eq_true, decide_eq_true_eq] at f_m
    omega
  obtain ⟨w0_m, w1_m⟩ := hw_m
  clear f_m
  have KL_a : max n_a m_a ≤ 9223372036854775807 := by
    have e : maxLen = 9223372036854775807 := by decide
    omega
  have h_a := QQ.of (s := g_a) i_a hc_a j_a kc_a (Nat.le_max_left n_a m_a) (Nat.le_max_right n_a m_a)
  generalize readQ g_a xs_a ys_a = o_a at h_a
  have bw := bel_refl w
  have h_ra := row3_new w 27 (.bool g_a) (.slice A_a n_a c_a) (.slice B_a m_a d_a)
  have bn := below_new w (.cells #[Value.bool g_a, Value.slice A_a n_a c_a, Value.slice B_a m_a d_a] 27)
  replace h_a := h_a.below bn
  replace bw := below_two bw bn
  clear bn
  go_enter Try.func6, Try.ntmps6
  go_wp2_with fail
  generalize w.alloc (.cells #[Value.bool g_a, Value.slice A_a n_a c_a, Value.slice B_a m_a d_a] 27) = wP at *
  obtain ⟨q_a, eg⟩ : ∃ g, g = w.heap.size := ⟨_, rfl⟩
  rw [← eg] at h_ra ⊢
  clear eg
  cases o_a with
  | none =>
    refine (refGood_c h_a KL_a false rfl).mono ?_
    rintro e w1 ⟨rfl, bn⟩
    replace h_a := h_a.below bn
    replace h_ra := h_ra.below bn
    replace bw := below_two bw bn
    clear bn
    go_wp2_with fail
    refine (wakes_any _).mono ?_
    rintro e w2 ⟨rfl, bn⟩
    replace h_a := h_a.below bn
    replace h_ra := h_ra.below bn
    replace bw := below_two bw bn
    clear bn
    go_wp2
    go_ret
    exact ⟨rfl, bw⟩
  | some z_a =>
    refine (refGood_c h_a KL_a true rfl).mono ?_
    rintro e w3 ⟨rfl, bn⟩
    replace h_a := h_a.below bn
    replace h_ra := h_ra.below bn
    replace bw := below_two bw bn
    clear bn
    obtain ⟨t1, t2, t3, t4, L1_a, L2_a, D_a⟩ := qq_told h_a
    clear i_a j_a
    subst t1
    subst t2
    subst t3
    replace h_a := t4
    clear t4
    by_cases l_0 : 4 < n_a
    case pos =>
      have LL : (4 : Int) < n_a := by omega
      clear l_0
      have c_a0 := h_ra.c0
      have c_a1 := h_ra.c1
      have c_a2 := h_ra.c2
      go_wp2_with fail
      clear c_a0 c_a1 c_a2
      refine (wakes_any _).mono ?_
      rintro e w4 ⟨rfl, bn⟩
      replace h_a := h_a.below bn
      replace h_ra := h_ra.below bn
      replace bw := below_two bw bn
      clear bn
      go_wp2
      go_ret
      exact ⟨rfl, bw⟩
    have LL_0 : (n_a : Int) ≤ 4 := by omega
    clear l_0
    by_cases l_1 : 4 < m_a
    case pos =>
      have LL : (4 : Int) < m_a := by omega
      clear l_1
      have c_a0 := h_ra.c0
      have c_a1 := h_ra.c1
      have c_a2 := h_ra.c2
      go_wp2_with fail
      clear c_a0 c_a1 c_a2
      refine (wakes_any _).mono ?_
      rintro e w5 ⟨rfl, bn⟩
      replace h_a := h_a.below bn
      replace h_ra := h_ra.below bn
      replace bw := below_two bw bn
      clear bn
      go_wp2
      go_ret
      exact ⟨rfl, bw⟩
    have LL_1 : (m_a : Int) ≤ 4 := by omega
    clear l_1
    obtain ⟨z_x, z_y, F0, F1, F2, F3⟩ := tens_facts (D_a.mono (by omega) (by omega)) ⟨w0_n, w1_n⟩ ⟨w0_m, w1_m⟩
    have F0 := Lib.hid F0
    have F1 := Lib.hid F1
    have F2 := Lib.hid F2
    have F3 := Lib.hid F3
    have c_a0 := h_ra.c0
    have c_a1 := h_ra.c1
    have c_a2 := h_ra.c2
    go_wp2_with fail
    clear c_a0 c_a1 c_a2
    refine (pScale_c h_a (by decide) v_n _ _ F0.out).mono ?_
    rintro e w6 ⟨A_x, n_x, c_x, B_x, m_x, d_x, rfl, h_x, bn⟩
    replace h_a := h_a.below bn
    replace h_ra := h_ra.below bn
    replace bw := below_two bw bn
    clear bn
    have h_rx := row3_new w6 27 (.bool (sg (oTop (some z_x)))) (.slice A_x n_x c_x) (.slice B_x m_x d_x)
    have bn := below_new w6 (.cells #[Value.bool (sg (oTop (some z_x))), Value.slice A_x n_x c_x, Value.slice B_x m_x d_x] 27)
    replace h_a := h_a.below bn
    replace h_ra := h_ra.below bn
    replace h_x := h_x.below bn
    replace bw := below_two bw bn
    clear bn
    have c_x0 := h_rx.c0
    have c_x1 := h_rx.c1
    have c_x2 := h_rx.c2
    go_wp2_with fail
    clear c_x0 c_x1 c_x2
    generalize w6.alloc (.cells #[Value.bool (sg (oTop (some z_x))), Value.slice A_x n_x c_x, Value.slice B_x m_x d_x] 27) = w7 at *
    obtain ⟨q_x, eg⟩ : ∃ g, g = w6.heap.size := ⟨_, rfl⟩
    rw [← eg] at h_rx ⊢
    clear eg
    refine (pScale_c h_x (by decide) v_m _ _ F1.out).mono ?_
    rintro e w8 ⟨A_y, n_y, c_y, B_y, m_y, d_y, rfl, h_y, bn⟩
    replace h_a := h_a.below bn
    replace h_ra := h_ra.below bn
    replace h_x := h_x.below bn
    replace h_rx := h_rx.below bn
    replace bw := below_two bw bn
    clear bn
    have h_ry := row3_new w8 27 (.bool (sg (oTop (some z_y)))) (.slice A_y n_y c_y) (.slice B_y m_y d_y)
    have bn := below_new w8 (.cells #[Value.bool (sg (oTop (some z_y))), Value.slice A_y n_y c_y, Value.slice B_y m_y d_y] 27)
    replace h_a := h_a.below bn
    replace h_ra := h_ra.below bn
    replace h_x := h_x.below bn
    replace h_rx := h_rx.below bn
    replace h_y := h_y.below bn
    replace bw := below_two bw bn
    clear bn
    have c_a0 := h_ra.c0
    have c_a1 := h_ra.c1
    have c_a2 := h_ra.c2
    go_wp2_with fail
    clear c_a0 c_a1 c_a2
    generalize w8.alloc (.cells #[Value.bool (sg (oTop (some z_y))), Value.slice A_y n_y c_y, Value.slice B_y m_y d_y] 27) = w9 at *
    obtain ⟨q_y, eg⟩ : ∃ g, g = w8.heap.size := ⟨_, rfl⟩
    rw [← eg] at h_ry ⊢
    clear eg
    refine (pScale_c h_a (by decide) (v_n + v_m) _ _ F2.out).mono ?_
    rintro e w10 ⟨A_z, n_z, c_z, B_z, m_z, d_z, rfl, h_z, bn⟩
    replace h_a := h_a.below bn
    replace h_ra := h_ra.below bn
    replace h_x := h_x.below bn
    replace h_rx := h_rx.below bn
    replace h_y := h_y.below bn
    replace h_ry := h_ry.below bn
    replace bw := below_two bw bn
    clear bn
    have h_rz := row3_new w10 27 (.bool (sg (oTop (some z_y)))) (.slice A_z n_z c_z) (.slice B_z m_z d_z)
    have bn := below_new w10 (.cells #[Value.bool (sg (oTop (some z_y))), Value.slice A_z n_z c_z, Value.slice B_z m_z d_z] 27)
    replace h_a := h_a.below bn
    replace h_ra := h_ra.below bn
    replace h_x := h_x.below bn
    replace h_rx := h_rx.below bn
    replace h_y := h_y.below bn
    replace h_ry := h_ry.below bn
    replace h_z := h_z.below bn
    replace bw := below_two bw bn
    clear bn
    have c_x0 := h_rx.c0
    have c_x1 := h_rx.c1
    have c_x2 := h_rx.c2
    go_wp2_with fail
    clear c_x0 c_x1 c_x2
    generalize w10.alloc (.cells #[Value.bool (sg (oTop (some z_y))), Value.slice A_z n_z c_z, Value.slice B_z m_z d_z] 27) = w11 at *
    obtain ⟨q_z, eg⟩ : ∃ g, g = w10.heap.size := ⟨_, rfl⟩
    rw [← eg] at h_rz ⊢
    clear eg
    refine (pScale_c h_x (by decide) (-v_n) _ _ F3.out).mono ?_
    rintro e w12 ⟨A_b, n_b, c_b, B_b, m_b, d_b, rfl, h_b, bn⟩
    replace h_a := h_a.below bn
    replace h_ra := h_ra.below bn
    replace h_x := h_x.below bn
    replace h_rx := h_rx.below bn
    replace h_y := h_y.below bn
    replace h_ry := h_ry.below bn
    replace h_z := h_z.below bn
    replace h_rz := h_rz.below bn
    replace bw := below_two bw bn
    clear bn
    have h_rb := row3_new w12 27 (.bool (sg (oTop (some z_a)))) (.slice A_b n_b c_b) (.slice B_b m_b d_b)
    have bn := below_new w12 (.cells #[Value.bool (sg (oTop (some z_a))), Value.slice A_b n_b c_b, Value.slice B_b m_b d_b] 27)
    replace h_a := h_a.below bn
    replace h_ra := h_ra.below bn
    replace h_x := h_x.below bn
    replace h_rx := h_rx.below bn
    replace h_y := h_y.below bn
    replace h_ry := h_ry.below bn
    replace h_z := h_z.below bn
    replace h_rz := h_rz.below bn
    replace h_b := h_b.below bn
    replace bw := below_two bw bn
    clear bn
    have c_y0 := h_ry.c0
    have c_y1 := h_ry.c1
    have c_y2 := h_ry.c2
    have c_z0 := h_rz.c0
    have c_z1 := h_rz.c1
    have c_z2 := h_rz.c2
    go_wp2_with fail
    clear c_y0 c_y1 c_y2 c_z0 c_z1 c_z2
    generalize w12.alloc (.cells #[Value.bool (sg (oTop (some z_a))), Value.slice A_b n_b c_b, Value.slice B_b m_b d_b] 27) = w13 at *
    obtain ⟨q_b, eg⟩ : ∃ g, g = w12.heap.size := ⟨_, rfl⟩
    rw [← eg] at h_rb ⊢
    clear eg
    refine (keepRat_c h_y h_z (by decide) (by decide) true (keepQ rfl)).mono ?_
    rintro e w14 ⟨rfl, bn⟩
    replace h_a := h_a.below bn
    replace h_ra := h_ra.below bn
    replace h_x := h_x.below bn
    replace h_rx := h_rx.below bn
    replace h_y := h_y.below bn
    replace h_ry := h_ry.below bn
    replace h_z := h_z.below bn
    replace h_rz := h_rz.below bn
    replace h_b := h_b.below bn
    replace h_rb := h_rb.below bn
    replace bw := below_two bw bn
    clear bn
    have c_b0 := h_rb.c0
    have c_b1 := h_rb.c1
    have c_b2 := h_rb.c2
    have c_a0 := h_ra.c0
    have c_a1 := h_ra.c1
    have c_a2 := h_ra.c2
    go_wp2_with fail
    clear c_b0 c_b1 c_b2 c_a0 c_a1 c_a2
    refine (keepRat_c h_b h_a (by decide) (by decide) true (keepQ rfl)).mono ?_
    rintro e w15 ⟨rfl, bn⟩
    replace h_a := h_a.below bn
    replace h_ra := h_ra.below bn
    replace h_x := h_x.below bn
    replace h_rx := h_rx.below bn
    replace h_y := h_y.below bn
    replace h_ry := h_ry.below bn
    replace h_z := h_z.below bn
    replace h_rz := h_rz.below bn
    replace h_b := h_b.below bn
    replace h_rb := h_rb.below bn
    replace bw := below_two bw bn
    clear bn
    go_wp2_with fail
    refine (wakes_any _).mono ?_
    rintro e w16 ⟨rfl, bn⟩
    replace h_a := h_a.below bn
    replace h_ra := h_ra.below bn
    replace h_x := h_x.below bn
    replace h_rx := h_rx.below bn
    replace h_y := h_y.below bn
    replace h_ry := h_ry.below bn
    replace h_z := h_z.below bn
    replace h_rz := h_rz.below bn
    replace h_b := h_b.below bn
    replace h_rb := h_rb.below bn
    replace bw := below_two bw bn
    clear bn
    go_wp2
    go_ret
    exact ⟨rfl, bw⟩

set_option maxRecDepth 100000 in
theorem lifted (os : Os) (started : os.Started) (H : Type) (enc : TypeId × Value → H) :
    ReturnsInHanded {} Try.checked os 6 .any (Rows.powerTensSpec.pre6 enc Try.prog Try.f6 Rows.powerTensRow.domain false) (Rows.powerTensSpec.post enc Try.prog Try.f6 false true false false) := by
  refine returnsInHanded_of_change (C := Try.checked) own started (by kernel_rfl) Try.func6
    (ChangeSpec.witness6 (enc := enc) (C := Try.checked) false ⟨#[], #[.agg #[.bool false, .slice none 0 0, .slice none 0 0], .int .i8 0, .int .i8 0], []⟩ 8 (by kernel_rfl) (by kernel_rfl) (by kernel_rfl) (by kernel_rfl)) ?_
  intro W base args ds gs before hval0 hW hcnd _
  have hval : ∀ (j : Nat) t v, Try.f6.params[j]? = some t → args[j]? = some v → Value.okWide Try.prog W .any base t v := hval0
  have hW' := hW
  obtain ⟨p, q, hA0, hV, rfl, hfz, hnd⟩ := hW
  have hA : DataW.TrodAll enc Try.prog W 0 (fun _ => true) true Try.f6.params.toList args.toList ds p := hA0
  rw [Try.params6] at hA hval
  obtain ⟨v0, vs0, d0, ds0, p0, q0, hargs, rfl, rfl, h0, r0⟩ := trodAll_cons hA
  obtain ⟨v1, vs1, d1, ds1, p1, q1, rfl, rfl, rfl, h1, r1⟩ := trodAll_cons r0
  obtain ⟨v2, vs2, d2, ds2, p2, q2, rfl, rfl, rfl, h2, r2⟩ := trodAll_cons r1
  obtain ⟨rfl, rfl, rfl⟩ := trodAll_nil r2
  obtain rfl : args = #[v0, v1, v2] := by cases args; simp_all
  obtain ⟨rfl, rfl⟩ := trodVars_none hV
  obtain ⟨b0, a0, len0, cap0, z0, e0, lem0, dap0, y0, rfl, i0, hc0, hm0, k0, kc0, km0⟩ := open_rat (hval 0 27 v0 rfl rfl) h0
  obtain ⟨a1, rfl, rfl, rfl, w1⟩ := open_int Try.underlying39 (hval 1 39 v1 rfl rfl) h1
  obtain ⟨a2, rfl, rfl, rfl, w2⟩ := open_int Try.underlying39 (hval 2 39 v2 rfl rfl) h2
  clear hA0 hval0
  refine (walk b0 a0 len0 cap0 z0 e0 lem0 dap0 y0 a1 a2 W i0 hc0 hm0 k0 kc0 km0 w1 w2).mono fun e W' ⟨he, bel⟩ => ?_
  subst he
  exact ⟨_, rfl, _, _, _, [], _, [], hW', trodAll_mk1 (shut_bool Try.underlying4 _), (trodAll_cons_mk (Below.trod laidOut (by kernel_rfl) (of_decide_eq_true (by kernel_rfl)) h0 bel (places_lt h0)) (trodAll_cons_mk (shut_int Try.underlying39 w1) (trodAll_cons_mk (shut_int Try.underlying39 w2) trodAll_mk0))), rfl, bel.frame _, fun h => by cases h⟩

theorem over : Rows.powerTensRow.holds Try.pinned (OpenSpec.ofChange Rows.powerTensSpec) :=
  OpenClaim.holds_of_wide 6 Try.f6 rfl rfl rfl rfl rfl rfl rfl ⟨rfl, rfl, rfl, rfl, rfl⟩ rfl rfl rfl rfl rfl (by kernel_rfl) Try.func6 (by kernel_rfl)
    (of_decide_eq_true (by kernel_rfl)) (by unfold Func.isWrapper; first | (rw [if_pos (by decide +kernel)]; kernel_rfl) | (rw [if_neg (by decide +kernel)]; exact ⟨rfl, rfl⟩))
    (fun os started H enc _ => lifted os started H enc)

theorem proved : Rows.PowerTensSaid := over

end Go.Proofs.Ytmifgblbicnimaa.lawPowerTens
