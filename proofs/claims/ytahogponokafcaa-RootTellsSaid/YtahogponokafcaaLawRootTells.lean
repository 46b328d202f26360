/- Of any list of limbs: the roots from below and from above, and whether it is a square, are the document's own answers, and nothing handed in is changed. No condition. -/
import Derived.Test.YtahogponokafcaaOpen
import Derived.Test.YtahogponokafcaaRootW
namespace Go.Proofs.Ytahogponokafcaa.lawRootTells
open Go.ChangeShapes Go.WideShapes Go.ChangeAt Go.RowKit Limb
set_option linter.unusedVariables false

set_option maxHeartbeats 4000000 in
theorem walk (A_a : Option Addr) (n_a c_a : Nat) (xs_a : List Nat) (w : World) (i_a : IsN w A_a n_a xs_a) (hc_a : n_a ≤ c_a) (hm_a : c_a ≤ maxLen) :
    Calls Try.prog 3 #[.slice A_a n_a c_a] w fun e w' => e = .returned (.bool true) ∧ Below w.heap.size w w' := by
  have bw := bel_refl w
  have hx_a : (n_a : Int) ≤ 9223372036854775807 := by have := Nat.le_trans hc_a hm_a; unfold maxLen at this; omega
  by_cases l_a : 20 < n_a
  · go_enter Try.func3, Try.ntmps3
    go_wp2_with fail
    refine (wakes_any w).mono ?_
    rintro e w1 ⟨rfl, bn⟩
    replace bw := below_two bw bn
    clear bn
    go_wp2
    go_ret
    exact ⟨rfl, bw⟩
  have h_a : NN w A_a n_a c_a xs_a (Limb.val xs_a) 20 := ⟨i_a, rfl, hc_a, by omega⟩
  by_cases he : rootN (Limb.val xs_a) * rootN (Limb.val xs_a) = (Limb.val xs_a)
  · have Hs := Lib.hid (squareN_yes he)
    have Hc := Lib.hid (ceilN_yes he)
    clear he
    go_enter Try.func3, Try.ntmps3
    go_wp2_with fail
    refine (own_any A_a n_a c_a xs_a _ 20 w h_a (by decide)).mono ?_
    rintro e w1 ⟨A_p, n_p, c_p, rfl, h_p, bn⟩
    replace h_a := h_a.below bn
    replace bw := below_two bw bn
    clear bn
    go_wp2_with fail
    refine (rootFloor_c h_p (by decide) true Hs.out).mono ?_
    rintro e w2 ⟨A_r, n_r, c_r, rfl, h_r, bn⟩
    replace h_a := h_a.below bn
    replace h_p := h_p.below bn
    replace bw := below_two bw bn
    clear bn
    go_wp2_with fail
    refine (refFloor_c h_a (by decide)).mono ?_
    rintro e w3 ⟨A_f, n_f, c_f, rfl, h_f, bn⟩
    replace h_a := h_a.below bn
    replace h_p := h_p.below bn
    replace h_r := h_r.below bn
    replace bw := below_two bw bn
    clear bn
    go_wp2_with fail
    refine (refExact_c h_a (by decide)).mono ?_
    rw [Hs.out]
    rintro e w4 ⟨rfl, bn⟩
    replace h_a := h_a.below bn
    replace h_p := h_p.below bn
    replace h_r := h_r.below bn
    replace h_f := h_f.below bn
    replace bw := below_two bw bn
    clear bn
    go_wp2_with fail
    refine (keep_c h_r h_f (by decide) (by decide) true (same_limbs rfl)).mono ?_
    rintro e w5 ⟨rfl, bn⟩
    replace h_a := h_a.below bn
    replace h_p := h_p.below bn
    replace h_r := h_r.below bn
    replace h_f := h_f.below bn
    replace bw := below_two bw bn
    clear bn
    go_wp2_with fail
    refine (refExact_c h_a (by decide)).mono ?_
    rw [Hs.out]
    rintro e w6 ⟨rfl, bn⟩
    replace h_a := h_a.below bn
    replace h_p := h_p.below bn
    replace h_r := h_r.below bn
    replace h_f := h_f.below bn
    replace bw := below_two bw bn
    clear bn
    go_wp2_with fail
    refine (rootCeil_c h_p (by decide)).mono ?_
    rintro e w7 ⟨A_u, n_u, c_u, rfl, h_u, bn⟩
    replace h_a := h_a.below bn
    replace h_p := h_p.below bn
    replace h_r := h_r.below bn
    replace h_f := h_f.below bn
    replace bw := below_two bw bn
    clear bn
    go_wp2_with fail
    refine (keep_c h_u h_f (by decide) (by decide) true (same_limbs Hc.out)).mono ?_
    rintro e w8 ⟨rfl, bn⟩
    replace h_a := h_a.below bn
    replace h_p := h_p.below bn
    replace h_r := h_r.below bn
    replace h_f := h_f.below bn
    replace h_u := h_u.below bn
    replace bw := below_two bw bn
    clear bn
    go_wp2_with fail
    refine (keep_c h_p h_a (by decide) (by decide) true (same_self _)).mono ?_
    rintro e w9 ⟨rfl, bn⟩
    replace h_a := h_a.below bn
    replace h_p := h_p.below bn
    replace h_r := h_r.below bn
    replace h_f := h_f.below bn
    replace h_u := h_u.below bn
    replace bw := below_two bw bn
    clear bn
    go_wp2_with fail
    refine (wakes_any w9).mono ?_
    rintro e w10 ⟨rfl, bn⟩
    replace h_a := h_a.below bn
    replace h_p := h_p.below bn
    replace h_r := h_r.below bn
    replace h_f := h_f.below bn
    replace h_u := h_u.below bn
    replace bw := below_two bw bn
    clear bn
    go_wp2
    go_ret
    exact ⟨rfl, bw⟩
  · have Hs := Lib.hid (squareN_no he)
    have Hc := Lib.hid (ceilN_no he)
    clear he
    go_enter Try.func3, Try.ntmps3
    go_wp2_with fail
    refine (own_any A_a n_a c_a xs_a _ 20 w h_a (by decide)).mono ?_
    rintro e w1 ⟨A_p, n_p, c_p, rfl, h_p, bn⟩
    replace h_a := h_a.below bn
    replace bw := below_two bw bn
    clear bn
    go_wp2_with fail
    refine (rootFloor_c h_p (by decide) false Hs.out).mono ?_
    rintro e w2 ⟨A_r, n_r, c_r, rfl, h_r, bn⟩
    replace h_a := h_a.below bn
    replace h_p := h_p.below bn
    replace bw := below_two bw bn
    clear bn
    go_wp2_with fail
    refine (refFloor_c h_a (by decide)).mono ?_
    rintro e w3 ⟨A_f, n_f, c_f, rfl, h_f, bn⟩
    replace h_a := h_a.below bn
    replace h_p := h_p.below bn
    replace h_r := h_r.below bn
    replace bw := below_two bw bn
    clear bn
    go_wp2_with fail
    refine (refExact_c h_a (by decide)).mono ?_
    rw [Hs.out]
    rintro e w4 ⟨rfl, bn⟩
    replace h_a := h_a.below bn
    replace h_p := h_p.below bn
    replace h_r := h_r.below bn
    replace h_f := h_f.below bn
    replace bw := below_two bw bn
    clear bn
    go_wp2_with fail
    have l := lit_c w4 [1] (by intro x hx; simp at hx; omega) 1 rfl
    have bn := below_new w4 (.cells #[Value.int IntKind.u32 1] 30)
    replace h_a := h_a.below bn
    replace h_p := h_p.below bn
    replace h_r := h_r.below bn
    replace h_f := h_f.below bn
    replace bw := below_two bw bn
    clear bn
    refine (refAdd_c h_f l (by decide) (by decide)).mono ?_
    rintro e w5 ⟨A_c, n_c, c_c, rfl, h_c, bn⟩
    clear l
    replace h_a := h_a.below bn
    replace h_p := h_p.below bn
    replace h_r := h_r.below bn
    replace h_f := h_f.below bn
    replace bw := below_two bw bn
    clear bn
    go_wp2_with fail
    refine (keep_c h_r h_f (by decide) (by decide) true (same_limbs rfl)).mono ?_
    rintro e w6 ⟨rfl, bn⟩
    replace h_a := h_a.below bn
    replace h_p := h_p.below bn
    replace h_r := h_r.below bn
    replace h_f := h_f.below bn
    replace h_c := h_c.below bn
    replace bw := below_two bw bn
    clear bn
    go_wp2_with fail
    refine (refExact_c h_a (by decide)).mono ?_
    rw [Hs.out]
    rintro e w7 ⟨rfl, bn⟩
    replace h_a := h_a.below bn
    replace h_p := h_p.below bn
    replace h_r := h_r.below bn
    replace h_f := h_f.below bn
    replace h_c := h_c.below bn
    replace bw := below_two bw bn
    clear bn
    go_wp2_with fail
    refine (rootCeil_c h_p (by decide)).mono ?_
    rintro e w8 ⟨A_u, n_u, c_u, rfl, h_u, bn⟩
    replace h_a := h_a.below bn
    replace h_p := h_p.below bn
    replace h_r := h_r.below bn
    replace h_f := h_f.below bn
    replace h_c := h_c.below bn
    replace bw := below_two bw bn
    clear bn
    go_wp2_with fail
    refine (keep_c h_u h_c (by decide) (by decide) true (same_limbs Hc.out)).mono ?_
    rintro e w9 ⟨rfl, bn⟩
    replace h_a := h_a.below bn
    replace h_p := h_p.below bn
    replace h_r := h_r.below bn
    replace h_f := h_f.below bn
    replace h_c := h_c.below bn
    replace h_u := h_u.below bn
    replace bw := below_two bw bn
    clear bn
    go_wp2_with fail
    refine (keep_c h_p h_a (by decide) (by decide) true (same_self _)).mono ?_
    rintro e w10 ⟨rfl, bn⟩
    replace h_a := h_a.below bn
    replace h_p := h_p.below bn
    replace h_r := h_r.below bn
    replace h_f := h_f.below bn
    replace h_c := h_c.below bn
    replace h_u := h_u.below bn
    replace bw := below_two bw bn
    clear bn
    go_wp2_with fail
    refine (wakes_any w10).mono ?_
    rintro e w11 ⟨rfl, bn⟩
    replace h_a := h_a.below bn
    replace h_p := h_p.below bn
    replace h_r := h_r.below bn
    replace h_f := h_f.below bn
    replace h_c := h_c.below bn
    replace h_u := h_u.below bn
    replace bw := below_two bw bn
    clear bn
    go_wp2
    go_ret
    exact ⟨rfl, bw⟩

set_option maxRecDepth 100000 in
theorem lifted (os : Os) (started : os.Started) (H : Type) (enc : TypeId × Value → H) :
    ReturnsInHanded {} Try.checked os 3 .any (Rows.rootTellsSpec.pre6 enc Try.prog Try.f3 Rows.rootTellsRow.domain false) (Rows.rootTellsSpec.post enc Try.prog Try.f3 false true false false) := by
  refine returnsInHanded_of_change (C := Try.checked) own started (by kernel_rfl) Try.func3
    (ChangeSpec.witness6 (enc := enc) (C := Try.checked) false ⟨#[], #[.slice none 0 0], []⟩ 8 (by kernel_rfl) (by kernel_rfl) (by kernel_rfl) (by kernel_rfl)) ?_
  intro W base args ds gs before hval0 hW hcnd _
  have hval : ∀ (j : Nat) t v, Try.f3.params[j]? = some t → args[j]? = some v → Value.okWide Try.prog W .any base t v := hval0
  have hW' := hW
  obtain ⟨p, q, hA0, hV, rfl, hfz, hnd⟩ := hW
  have hA : DataW.TrodAll enc Try.prog W 0 (fun _ => true) true Try.f3.params.toList args.toList ds p := hA0
  rw [Try.params3] at hA hval
  obtain ⟨v0, vs0, d0, ds0, p0, q0, hargs, rfl, rfl, h0, r0⟩ := trodAll_cons hA
  obtain ⟨rfl, rfl, rfl⟩ := trodAll_nil r0
  obtain rfl : args = #[v0] := by cases args; simp_all
  obtain ⟨rfl, rfl⟩ := trodVars_none hV
  obtain ⟨a0, len0, cap0, rfl⟩ := okWide_slice Try.underlying23 (hval 0 23 v0 rfl rfl)
  obtain ⟨z0, i0, hc0, hm0, _⟩ := open_nat h0
  clear hA0 hval0
  refine (walk a0 len0 cap0 z0 W i0 hc0 hm0).mono fun e W' ⟨he, bel⟩ => ?_
  subst he
  exact ⟨_, rfl, _, _, _, [], _, [], hW', trodAll_mk1 (shut_bool Try.underlying4 _), (trodAll_cons_mk (Below.trod laidOut (by kernel_rfl) (of_decide_eq_true (by kernel_rfl)) h0 bel (places_lt h0)) trodAll_mk0), rfl, bel.frame _, fun h => by cases h⟩

theorem over : Rows.rootTellsRow.holds Try.pinned (OpenSpec.ofChange Rows.rootTellsSpec) :=
  OpenClaim.holds_of_wide 3 Try.f3 rfl rfl rfl rfl rfl rfl rfl ⟨rfl, rfl, rfl, rfl, rfl⟩ rfl rfl rfl rfl rfl (by kernel_rfl) Try.func3 (by kernel_rfl)
    (of_decide_eq_true (by kernel_rfl)) (by unfold Func.isWrapper; first | (rw [if_pos (by decide +kernel)]; kernel_rfl) | (rw [if_neg (by decide +kernel)]; exact ⟨rfl, rfl⟩))
    (fun os started H enc _ => lifted os started H enc)

theorem proved : Rows.RootTellsSaid := over

end Go.Proofs.Ytahogponokafcaa.lawRootTells
