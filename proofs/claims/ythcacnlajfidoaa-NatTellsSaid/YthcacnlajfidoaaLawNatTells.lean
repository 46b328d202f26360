/- Of any two lists of limbs and any two words: order, sum, difference, bits, each bit, what is trimmed, what a word makes, are the document's own answers, and nothing handed in is changed. No condition. -/
import Derived.Test.YthcacnlajfidoaaTellsNlt
import Derived.Test.YthcacnlajfidoaaTellsNeq
import Derived.Test.YthcacnlajfidoaaTellsNgt
namespace Go.Proofs.Ythcacnlajfidoaa.lawNatTells
open Go.ChangeShapes Go.WideShapes Go.ChangeAt Go.RowKit Limb
set_option linter.unusedVariables false

set_option maxHeartbeats 2000000 in
theorem walk (A_a : Option Addr) (n_a c_a : Nat) (xs_a : List Nat) (A_b : Option Addr) (n_b c_b : Nat) (xs_b : List Nat) (v_x u_x : Int) (w : World) (i_a : IsN w A_a n_a xs_a) (hc_a : n_a ≤ c_a) (hm_a : c_a ≤ maxLen) (i_b : IsN w A_b n_b xs_b) (hc_b : n_b ≤ c_b) (hm_b : c_b ≤ maxLen) (f_x : (Lit.int .u64 v_x).wf = true) (g_x : (Lit.int .u64 u_x).wf = true) :
    Calls Try.prog 3 #[.slice A_a n_a c_a, .slice A_b n_b c_b, .agg #[.int .u64 v_x, .int .u64 u_x]] w fun e w' => e = .returned (.bool true) ∧ Below w.heap.size w w' := by
  by_cases l_a : 300 < n_a
  · have B01 := Lib.hid (below_new w (.cells #[Value.int .u64 v_x, Value.int .u64 u_x] 25))
    go_enter Try.func3, Try.ntmps3
    go_wp2_with fail
    generalize w.alloc (.cells #[Value.int .u64 v_x, Value.int .u64 u_x] 25) = w1 at *
    have bw := bel_refl w1
    go_wp2_with fail
    refine (long_c A_a n_a c_a w1 hc_a hm_a true (long_yes l_a)).mono ?_
    rintro e w1x ⟨rfl, rfl⟩
    go_wp2_with fail
    refine (wakes_any w1).mono ?_
    rintro e w2 ⟨rfl, bn⟩
    replace bw := below_two bw bn
    clear bn
    go_wp2
    go_ret
    exact ⟨rfl, below_two B01.out bw⟩
  by_cases l_b : 300 < n_b
  · have B01 := Lib.hid (below_new w (.cells #[Value.int .u64 v_x, Value.int .u64 u_x] 25))
    go_enter Try.func3, Try.ntmps3
    go_wp2_with fail
    generalize w.alloc (.cells #[Value.int .u64 v_x, Value.int .u64 u_x] 25) = w1 at *
    have bw := bel_refl w1
    go_wp2_with fail
    refine (long_c A_a n_a c_a w1 hc_a hm_a false (long_no (by omega))).mono ?_
    rintro e w1x ⟨rfl, rfl⟩
    go_wp2_with fail
    refine (long_c A_b n_b c_b w1 hc_b hm_b true (long_yes l_b)).mono ?_
    rintro e w1x ⟨rfl, rfl⟩
    go_wp2_with fail
    refine (wakes_any w1).mono ?_
    rintro e w2 ⟨rfl, bn⟩
    replace bw := below_two bw bn
    clear bn
    go_wp2
    go_ret
    exact ⟨rfl, below_two B01.out bw⟩
  rcases Nat.lt_trichotomy (Limb.val xs_a) (Limb.val xs_b) with h | h | h
  · exact case_lt A_a n_a c_a xs_a A_b n_b c_b xs_b v_x u_x w i_a hc_a hm_a i_b hc_b hm_b f_x g_x (by omega) (by omega) (Lib.hid (cmpI_lt h)) (Lib.hid h)
  · exact case_eq A_a n_a c_a xs_a A_b n_b c_b xs_b v_x u_x w i_a hc_a hm_a i_b hc_b hm_b f_x g_x (by omega) (by omega) (Lib.hid (cmpI_same h)) (Lib.hid h)
  · exact case_gt A_a n_a c_a xs_a A_b n_b c_b xs_b v_x u_x w i_a hc_a hm_a i_b hc_b hm_b f_x g_x (by omega) (by omega) (Lib.hid (cmpI_gt h)) (Lib.hid h)

set_option maxRecDepth 100000 in
theorem lifted (os : Os) (started : os.Started) (H : Type) (enc : TypeId × Value → H) :
    ReturnsInHanded {} Try.checked os 3 .any (Rows.natTellsSpec.pre6 enc Try.prog Try.f3 Rows.natTellsRow.domain false) (Rows.natTellsSpec.post enc Try.prog Try.f3 false true false false) := by
  refine returnsInHanded_of_change (C := Try.checked) own started (by kernel_rfl) Try.func3
    (ChangeSpec.witness6 (enc := enc) (C := Try.checked) false ⟨#[], #[.slice none 0 0, .slice none 0 0, .agg #[.int .u64 0, .int .u64 0]], []⟩ 8 (by kernel_rfl) (by kernel_rfl) (by kernel_rfl) (by kernel_rfl)) ?_
  intro W base args ds gs before hval0 hW hcnd _
  have hval : ∀ (j : Nat) t v, Try.f3.params[j]? = some t → args[j]? = some v → Value.okWide Try.prog W .any base t v := hval0
  have hW' := hW
  obtain ⟨p, q, hA0, hV, rfl, hfz, hnd⟩ := hW
  have hA : DataW.TrodAll enc Try.prog W 0 (fun _ => true) true Try.f3.params.toList args.toList ds p := hA0
  rw [Try.params3] at hA hval
  obtain ⟨v0, vs0, d0, ds0, p0, q0, hargs, rfl, rfl, h0, r0⟩ := trodAll_cons hA
  obtain ⟨v1, vs1, d1, ds1, p1, q1, rfl, rfl, rfl, h1, r1⟩ := trodAll_cons r0
  obtain ⟨v2, vs2, d2, ds2, p2, q2, rfl, rfl, rfl, h2, r2⟩ := trodAll_cons r1
  obtain ⟨rfl, rfl, rfl⟩ := trodAll_nil r2
  obtain rfl : args = #[v0, v1, v2] := by cases args; simp_all
  obtain ⟨rfl, rfl⟩ := trodVars_none hV
  obtain ⟨a0, len0, cap0, rfl⟩ := okWide_slice Try.underlying23 (hval 0 23 v0 rfl rfl)
  obtain ⟨z0, i0, hc0, hm0, _⟩ := open_nat h0
  obtain ⟨a1, len1, cap1, rfl⟩ := okWide_slice Try.underlying23 (hval 1 23 v1 rfl rfl)
  obtain ⟨z1, i1, hc1, hm1, _⟩ := open_nat h1
  obtain ⟨a2, b2, rfl, w2, u2⟩ := open_pair (hval 2 25 v2 rfl rfl) h2
  clear hA0 hval0
  refine (walk a0 len0 cap0 z0 a1 len1 cap1 z1 a2 b2 W i0 hc0 hm0 i1 hc1 hm1 w2 u2).mono fun e W' ⟨he, bel⟩ => ?_
  subst he
  exact ⟨_, rfl, _, _, _, [], _, [], hW', trodAll_mk1 (shut_bool Try.underlying4 _), (trodAll_cons_mk (Below.trod laidOut (by kernel_rfl) (of_decide_eq_true (by kernel_rfl)) h0 bel (places_lt h0)) (trodAll_cons_mk (Below.trod laidOut (by kernel_rfl) (of_decide_eq_true (by kernel_rfl)) h1 bel (places_lt h1)) (trodAll_cons_mk (Below.trod laidOut (by kernel_rfl) (of_decide_eq_true (by kernel_rfl)) h2 bel (places_lt h2)) trodAll_mk0))), rfl, bel.frame _, fun h => by cases h⟩

theorem over : Rows.natTellsRow.holds Try.pinned (OpenSpec.ofChange Rows.natTellsSpec) :=
  OpenClaim.holds_of_wide 3 Try.f3 rfl rfl rfl rfl rfl rfl rfl ⟨rfl, rfl, rfl, rfl, rfl⟩ rfl rfl rfl rfl rfl (by kernel_rfl) Try.func3 (by kernel_rfl)
    (of_decide_eq_true (by kernel_rfl)) (by unfold Func.isWrapper; first | (rw [if_pos (by decide +kernel)]; kernel_rfl) | (rw [if_neg (by decide +kernel)]; exact ⟨rfl, rfl⟩))
    (fun os started H enc _ => lifted os started H enc)

theorem proved : Rows.NatTellsSaid := over

end Go.Proofs.Ythcacnlajfidoaa.lawNatTells
