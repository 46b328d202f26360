/- Of any two lists of limbs and any three machine integers: product, product with one limb, moves by bits, powers are the document's own answers, and nothing handed in is changed. No condition. -/
import Derived.Test.YtegcpiicfcpppaaTellsM
namespace Go.Proofs.Ytegcpiicfcpppaa.lawMulTells
open Go.ChangeShapes Go.WideShapes Go.ChangeAt Go.RowKit Limb
set_option linter.unusedVariables false

set_option maxHeartbeats 2000000 in
theorem walk (A_a : Option Addr) (n_a c_a : Nat) (xs_a : List Nat) (A_b : Option Addr) (n_b c_b : Nat) (xs_b : List Nat) (v_x u_x t_x : Int) (w : World) (i_a : IsN w A_a n_a xs_a) (hc_a : n_a ≤ c_a) (hm_a : c_a ≤ maxLen) (i_b : IsN w A_b n_b xs_b) (hc_b : n_b ≤ c_b) (hm_b : c_b ≤ maxLen) (f_x : (Lit.int .i64 v_x).wf = true) (g_x : (Lit.int .i64 u_x).wf = true) (h_x : (Lit.int .i64 t_x).wf = true) :
    Calls Try.prog 3 #[.slice A_a n_a c_a, .slice A_b n_b c_b, .agg #[.int .i64 v_x, .int .i64 u_x, .int .i64 t_x]] w fun e w' => e = .returned (.bool true) ∧ Below w.heap.size w w' := by
  by_cases l_a : 300 < n_a
  · have B01 := Lib.hid (below_new w (.cells #[Value.int .i64 v_x, Value.int .i64 u_x, Value.int .i64 t_x] 24))
    go_enter Try.func3, Try.ntmps3
    go_wp2_with fail
    generalize w.alloc (.cells #[Value.int .i64 v_x, Value.int .i64 u_x, Value.int .i64 t_x] 24) = w1 at *
    have bw := bel_refl w1
    go_wp2_with fail
    refine (long_c A_a n_a c_a w1 hc_a hm_a true (long_yes l_a)).mono ?_
    rintro e w1x ⟨rfl, rfl⟩
    go_wp2_with fail
    refine (wakes_any w1).mono ?_
    rintro e w2 ⟨rfl, bn⟩
    replace bw := below_two bw bn
    clear bn
    go_wp2
    go_ret
    exact ⟨rfl, below_two B01.out bw⟩
  by_cases l_b : 300 < n_b
  · have B01 := Lib.hid (below_new w (.cells #[Value.int .i64 v_x, Value.int .i64 u_x, Value.int .i64 t_x] 24))
    go_enter Try.func3, Try.ntmps3
    go_wp2_with fail
    generalize w.alloc (.cells #[Value.int .i64 v_x, Value.int .i64 u_x, Value.int .i64 t_x] 24) = w1 at *
    have bw := bel_refl w1
    go_wp2_with fail
    refine (long_c A_a n_a c_a w1 hc_a hm_a false (long_no (by omega))).mono ?_
    rintro e w1x ⟨rfl, rfl⟩
    go_wp2_with fail
    refine (long_c A_b n_b c_b w1 hc_b hm_b true (long_yes l_b)).mono ?_
    rintro e w1x ⟨rfl, rfl⟩
    go_wp2_with fail
    refine (wakes_any w1).mono ?_
    rintro e w2 ⟨rfl, bn⟩
    replace bw := below_two bw bn
    clear bn
    go_wp2
    go_ret
    exact ⟨rfl, below_two B01.out bw⟩
  have hq : n_a * n_b ≤ 90000 := Nat.mul_le_mul (show n_a ≤ 300 by omega) (show n_b ≤ 300 by omega)
  by_cases hpr : 3000 < n_a * n_b
  · have hp0 : (n_a : Int) * (n_b : Int) ≤ 90000 := by rw [← Int.natCast_mul]; omega
    have hp1 : 3000 < (n_a : Int) * (n_b : Int) := by rw [← Int.natCast_mul]; omega
    clear hq hpr
    have B01 := Lib.hid (below_new w (.cells #[Value.int .i64 v_x, Value.int .i64 u_x, Value.int .i64 t_x] 24))
    go_enter Try.func3, Try.ntmps3
    go_wp2_with fail
    generalize w.alloc (.cells #[Value.int .i64 v_x, Value.int .i64 u_x, Value.int .i64 t_x] 24) = w1 at *
    have bw := bel_refl w1
    go_wp2_with fail
    refine (long_c A_a n_a c_a w1 hc_a hm_a false (long_no (by omega))).mono ?_
    rintro e w1x ⟨rfl, rfl⟩
    go_wp2_with fail
    refine (long_c A_b n_b c_b w1 hc_b hm_b false (long_no (by omega))).mono ?_
    rintro e w1x ⟨rfl, rfl⟩
    go_wp2_with fail
    refine (wakes_any w1).mono ?_
    rintro e w2 ⟨rfl, bn⟩
    replace bw := below_two bw bn
    clear bn
    go_wp2
    go_ret
    exact ⟨rfl, below_two B01.out bw⟩
  exact case_main A_a n_a c_a xs_a A_b n_b c_b xs_b v_x u_x t_x w i_a hc_a hm_a i_b hc_b hm_b f_x g_x h_x (by omega) (by omega) (by omega)

set_option maxRecDepth 100000 in
theorem lifted (os : Os) (started : os.Started) (H : Type) (enc : TypeId × Value → H) :
    ReturnsInHanded {} Try.checked os 3 .any (Rows.mulTellsSpec.pre6 enc Try.prog Try.f3 Rows.mulTellsRow.domain false) (Rows.mulTellsSpec.post enc Try.prog Try.f3 false true false false) := by
  refine returnsInHanded_of_change (C := Try.checked) own started (by kernel_rfl) Try.func3
    (ChangeSpec.witness6 (enc := enc) (C := Try.checked) false ⟨#[], #[.slice none 0 0, .slice none 0 0, .agg #[.int .i64 0, .int .i64 0, .int .i64 0]], []⟩ 8 (by kernel_rfl) (by kernel_rfl) (by kernel_rfl) (by kernel_rfl)) ?_
  intro W base args ds gs before hval0 hW hcnd _
  have hval : ∀ (j : Nat) t v, Try.f3.params[j]? = some t → args[j]? = some v → Value.okWide Try.prog W .any base t v := hval0
  have hW' := hW
  obtain ⟨p, q, hA0, hV, rfl, hfz, hnd⟩ := hW
  have hA : DataW.TrodAll enc Try.prog W 0 (fun _ => true) true Try.f3.params.toList args.toList ds p := hA0
  rw [Try.params3] at hA hval
  obtain ⟨v0, vs0, d0, ds0, p0, q0, hargs, rfl, rfl, h0, r0⟩ := trodAll_cons hA
  obtain ⟨v1, vs1, d1, ds1, p1, q1, rfl, rfl, rfl, h1, r1⟩ := trodAll_cons r0
  obtain ⟨v2, vs2, d2, ds2, p2, q2, rfl, rfl, rfl, h2, r2⟩ := trodAll_cons r1
  obtain ⟨rfl, rfl, rfl⟩ := trodAll_nil r2
  obtain rfl : args = #[v0, v1, v2] := by cases args; simp_all
  obtain ⟨rfl, rfl⟩ := trodVars_none hV
  obtain ⟨a0, len0, cap0, rfl⟩ := okWide_slice Try.underlying23 (hval 0 23 v0 rfl rfl)
  obtain ⟨z0, i0, hc0, hm0, _⟩ := open_nat h0
  obtain ⟨a1, len1, cap1, rfl⟩ := okWide_slice Try.underlying23 (hval 1 23 v1 rfl rfl)
  obtain ⟨z1, i1, hc1, hm1, _⟩ := open_nat h1
  obtain ⟨a2, b2, c2, rfl, w2, u2, t2⟩ := open_tri (hval 2 24 v2 rfl rfl) h2
  clear hA0 hval0
  refine (walk a0 len0 cap0 z0 a1 len1 cap1 z1 a2 b2 c2 W i0 hc0 hm0 i1 hc1 hm1 w2 u2 t2).mono fun e W' ⟨he, bel⟩ => ?_
  subst he
  exact ⟨_, rfl, _, _, _, [], _, [], hW', trodAll_mk1 (shut_bool Try.underlying4 _), (trodAll_cons_mk (Below.trod laidOut (by kernel_rfl) (of_decide_eq_true (by kernel_rfl)) h0 bel (places_lt h0)) (trodAll_cons_mk (Below.trod laidOut (by kernel_rfl) (of_decide_eq_true (by kernel_rfl)) h1 bel (places_lt h1)) (trodAll_cons_mk (Below.trod laidOut (by kernel_rfl) (of_decide_eq_true (by kernel_rfl)) h2 bel (places_lt h2)) trodAll_mk0))), rfl, bel.frame _, fun h => by cases h⟩

theorem over : Rows.mulTellsRow.holds Try.pinned (OpenSpec.ofChange Rows.mulTellsSpec) :=
  OpenClaim.holds_of_wide 3 Try.f3 rfl rfl rfl rfl rfl rfl rfl ⟨rfl, rfl, rfl, rfl, rfl⟩ rfl rfl rfl rfl rfl (by kernel_rfl) Try.func3 (by kernel_rfl)
    (of_decide_eq_true (by kernel_rfl)) (by unfold Func.isWrapper; first | (rw [if_pos (by decide +kernel)]; kernel_rfl) | (rw [if_neg (by decide +kernel)]; exact ⟨rfl, rfl⟩))
    (fun os started H enc _ => lifted os started H enc)

theorem proved : Rows.MulTellsSaid := over

end Go.Proofs.Ytegcpiicfcpppaa.lawMulTells
