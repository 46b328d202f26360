/- The statements' check that package mul is there (wakes) answers true, whatever the memory is. No condition. -/
import Derived.Test.YtegcpiicfcpppaaMulF
namespace Go.Proofs.Ytegcpiicfcpppaa
open Go.RowKit Limb
set_option linter.unusedVariables false

section
variable {w : World} {A : Option Addr} {n c : Nat} {xs : List Nat} {a L : Nat}
theorem mulPow_yes (hx : NN w A n c xs a L) (h1 : L ≤ 10000000) (V : Int) (h0 : -9223372036854775808 ≤ V) (h2 : V ≤ 9223372036854775807) (v : Nat) (hv : powV a V = some v) :
    Calls Try.prog 11 #[.slice A n c, .int .i64 V] w fun e w' => ∃ A2 n2 c2, e = .returned (.tuple #[.slice A2 n2 c2, .bool true]) ∧ NN w' A2 n2 c2 (limbs v) v 256 ∧ Below w.heap.size w w' := mulPow_c hx h1 V h0 h2 (some v) hv
theorem mulPow_no (hx : NN w A n c xs a L) (h1 : L ≤ 10000000) (V : Int) (h0 : -9223372036854775808 ≤ V) (h2 : V ≤ 9223372036854775807) (hv : powV a V = none) :
    Calls Try.prog 11 #[.slice A n c, .int .i64 V] w fun e w' => ∃ A2 n2 c2, e = .returned (.tuple #[.slice A2 n2 c2, .bool false]) ∧ NN w' A2 n2 c2 [] 0 256 ∧ Below w.heap.size w w' := mulPow_c hx h1 V h0 h2 none hv
end
theorem nn_nil (w : World) (L : Nat) : NN w none 0 0 [] 0 L := ⟨IsN.nil _ _, rfl, Nat.le_refl _, Nat.zero_le _⟩

theorem wl0 : [1, 4294967294] = limbs 18446744065119617025 := by
  have h := eq_limbs (xs := [1, 4294967294]) (by intro x hx; simp at hx; omega) (.inr (by decide))
  simpa [val] using h
theorem wl1 : [1661992960, 1808227885, 5] = limbs 100000000000000000000 := by
  have h := eq_limbs (xs := [1661992960, 1808227885, 5]) (by intro x hx; simp at hx; omega) (.inr (by decide))
  simpa [val] using h
theorem wl2 : [1] = limbs 1 := by
  have h := eq_limbs (xs := [1]) (by intro x hx; simp at hx; omega) (.inr (by decide))
  simpa [val] using h
theorem wl3 : [0, 10] = limbs 42949672960 := by
  have h := eq_limbs (xs := [0, 10]) (by intro x hx; simp at hx; omega) (.inr (by decide))
  simpa [val] using h
theorem wl4 : [2] = limbs 2 := by
  have h := eq_limbs (xs := [2]) (by intro x hx; simp at hx; omega) (.inr (by decide))
  simpa [val] using h
theorem wl5 : [21] = limbs 21 := by
  have h := eq_limbs (xs := [21]) (by intro x hx; simp at hx; omega) (.inr (by decide))
  simpa [val] using h
theorem wp0 : powV 10 20 = some 100000000000000000000 := by decide +kernel
theorem wp1 : powV 10 (-1) = none := by decide +kernel
theorem wp2 : powV 2 1048576 = none := by decide +kernel
theorem wp3 : powV 0 0 = some 1 := by decide +kernel
theorem ws0 : shiftV 5 33 = 42949672960 := by decide +kernel
theorem ws1 : shiftV 5 (-1) = 2 := by decide +kernel

set_option maxHeartbeats 2000000 in
theorem wakes_any (w : World) : Calls Try.prog 9 #[] w fun e w' => e = .returned (.bool true) ∧ Below w.heap.size w w' := by
  have bw := bel_refl w
  go_enter Try.func9, Try.ntmps9
  go_wp2_with fail
  refine (of_c 10 10 rfl (by decide) w).mono ?_
  rintro e w1 ⟨A_a, n_a, c_a, rfl, h_a, bn⟩
  replace bw := below_two bw bn
  clear bn
  go_wp2_with fail
  refine (mulPow_yes h_a (by decide) 20 (by decide) (by decide) 100000000000000000000 wp0).mono ?_
  rintro e w2 ⟨A_p, n_p, c_p, rfl, h_p, bn⟩
  replace h_a := h_a.below bn
  replace bw := below_two bw bn
  clear bn
  clear h_a
  go_wp2_with fail
  refine (of_c 10 10 rfl (by decide) w2).mono ?_
  rintro e w3 ⟨A_b, n_b, c_b, rfl, h_b, bn⟩
  replace h_p := h_p.below bn
  replace bw := below_two bw bn
  clear bn
  go_wp2_with fail
  refine (mulPow_no h_b (by decide) (-1) (by decide) (by decide) wp1).mono ?_
  rintro e w4 ⟨A_no, n_no, c_no, rfl, h_no, bn⟩
  replace h_p := h_p.below bn
  replace h_b := h_b.below bn
  replace bw := below_two bw bn
  clear bn
  clear h_b h_no
  go_wp2_with fail
  refine (of_c 2 2 rfl (by decide) w4).mono ?_
  rintro e w5 ⟨A_d, n_d, c_d, rfl, h_d, bn⟩
  replace h_p := h_p.below bn
  replace bw := below_two bw bn
  clear bn
  go_wp2_with fail
  refine (mulPow_no h_d (by decide) 1048576 (by decide) (by decide) wp2).mono ?_
  rintro e w6 ⟨A_nor, n_nor, c_nor, rfl, h_nor, bn⟩
  replace h_p := h_p.below bn
  replace h_d := h_d.below bn
  replace bw := below_two bw bn
  clear bn
  clear h_d h_nor
  go_wp2_with fail
  refine (mulPow_yes (nn_nil w6 1) (by decide) 0 (by decide) (by decide) 1 wp3).mono ?_
  rintro e w7 ⟨A_z, n_z, c_z, rfl, h_z, bn⟩
  replace h_p := h_p.below bn
  replace bw := below_two bw bn
  clear bn
  go_wp2_with fail
  refine (of_c 4294967295 4294967295 rfl (by decide) w7).mono ?_
  rintro e w8 ⟨A_x, n_x, c_x, rfl, h_x, bn⟩
  replace h_p := h_p.below bn
  replace h_z := h_z.below bn
  replace bw := below_two bw bn
  clear bn
  go_wp2_with fail
  refine (of_c 4294967295 4294967295 rfl (by decide) w8).mono ?_
  rintro e w9 ⟨A_y, n_y, c_y, rfl, h_y, bn⟩
  replace h_p := h_p.below bn
  replace h_z := h_z.below bn
  replace h_x := h_x.below bn
  replace bw := below_two bw bn
  clear bn
  go_wp2_with fail
  refine (mulOf_c h_x h_y 4 (by decide) (by decide) (by decide)).mono ?_
  rintro e w10 ⟨A_q, n_q, c_q, rfl, h_q, bn⟩
  replace h_p := h_p.below bn
  replace h_z := h_z.below bn
  replace h_x := h_x.below bn
  replace h_y := h_y.below bn
  replace bw := below_two bw bn
  clear bn
  clear h_x h_y
  go_wp2_with fail
  have l := lit_c w10 [1, 4294967294] (by intro x hx; simp at hx; omega) 2 rfl
  have bn := below_new w10 (.cells #[Value.int IntKind.u32 1, Value.int IntKind.u32 4294967294] 36)
  replace h_p := h_p.below bn
  replace h_z := h_z.below bn
  replace h_q := h_q.below bn
  replace bw := below_two bw bn
  clear bn
  refine (keep_c h_q l (by decide) (by decide) true (same_of wl0.symm)).mono ?_
  rintro e w11 ⟨rfl, bn⟩
  clear l
  replace h_p := h_p.below bn
  replace h_z := h_z.below bn
  replace h_q := h_q.below bn
  replace bw := below_two bw bn
  clear bn
  clear h_q
  go_wp2_with fail
  have l := lit_c w11 [1661992960, 1808227885, 5] (by intro x hx; simp at hx; omega) 3 rfl
  have bn := below_new w11 (.cells #[Value.int IntKind.u32 1661992960, Value.int IntKind.u32 1808227885, Value.int IntKind.u32 5] 36)
  replace h_p := h_p.below bn
  replace h_z := h_z.below bn
  replace bw := below_two bw bn
  clear bn
  refine (keep_c h_p l (by decide) (by decide) true (same_of wl1.symm)).mono ?_
  rintro e w12 ⟨rfl, bn⟩
  clear l
  replace h_p := h_p.below bn
  replace h_z := h_z.below bn
  replace bw := below_two bw bn
  clear bn
  clear h_p
  go_wp2_with fail
  have l := lit_c w12 [1] (by intro x hx; simp at hx; omega) 1 rfl
  have bn := below_new w12 (.cells #[Value.int IntKind.u32 1] 36)
  replace h_z := h_z.below bn
  replace bw := below_two bw bn
  clear bn
  refine (keep_c h_z l (by decide) (by decide) true (same_of wl2.symm)).mono ?_
  rintro e w13 ⟨rfl, bn⟩
  clear l
  replace h_z := h_z.below bn
  replace bw := below_two bw bn
  clear bn
  clear h_z
  go_wp2_with fail
  refine (of_c 5 5 rfl (by decide) w13).mono ?_
  rintro e w14 ⟨A_s, n_s, c_s, rfl, h_s, bn⟩
  replace bw := below_two bw bn
  clear bn
  go_wp2_with fail
  refine (mulShift_c h_s 33 (by decide) (by decide) 42949672960 2 ws0 (by decide) (by decide)).mono ?_
  rintro e w15 ⟨A_t, n_t, c_t, rfl, h_t, bn⟩
  replace h_s := h_s.below bn
  replace bw := below_two bw bn
  clear bn
  clear h_s
  go_wp2_with fail
  have l := lit_c w15 [0, 10] (by intro x hx; simp at hx; omega) 2 rfl
  have bn := below_new w15 (.cells #[Value.int IntKind.u32 0, Value.int IntKind.u32 10] 36)
  replace h_t := h_t.below bn
  replace bw := below_two bw bn
  clear bn
  refine (keep_c h_t l (by decide) (by decide) true (same_of wl3.symm)).mono ?_
  rintro e w16 ⟨rfl, bn⟩
  clear l
  replace h_t := h_t.below bn
  replace bw := below_two bw bn
  clear bn
  clear h_t
  go_wp2_with fail
  refine (of_c 5 5 rfl (by decide) w16).mono ?_
  rintro e w17 ⟨A_s, n_s, c_s, rfl, h_s, bn⟩
  replace bw := below_two bw bn
  clear bn
  go_wp2_with fail
  refine (mulShift_c h_s (-1) (by decide) (by decide) 2 1 ws1 (by decide) (by decide)).mono ?_
  rintro e w18 ⟨A_t, n_t, c_t, rfl, h_t, bn⟩
  replace h_s := h_s.below bn
  replace bw := below_two bw bn
  clear bn
  clear h_s
  go_wp2_with fail
  have l := lit_c w18 [2] (by intro x hx; simp at hx; omega) 1 rfl
  have bn := below_new w18 (.cells #[Value.int IntKind.u32 2] 36)
  replace h_t := h_t.below bn
  replace bw := below_two bw bn
  clear bn
  refine (keep_c h_t l (by decide) (by decide) true (same_of wl4.symm)).mono ?_
  rintro e w19 ⟨rfl, bn⟩
  clear l
  replace h_t := h_t.below bn
  replace bw := below_two bw bn
  clear bn
  clear h_t
  go_wp2_with fail
  refine (of_c 3 3 rfl (by decide) w19).mono ?_
  rintro e w20 ⟨A_s, n_s, c_s, rfl, h_s, bn⟩
  replace bw := below_two bw bn
  clear bn
  go_wp2_with fail
  refine (mulSmall_c h_s 7 7 rfl (by decide) (by decide)).mono ?_
  rintro e w21 ⟨A_t, n_t, c_t, rfl, h_t, bn⟩
  replace h_s := h_s.below bn
  replace bw := below_two bw bn
  clear bn
  clear h_s
  go_wp2_with fail
  have l := lit_c w21 [21] (by intro x hx; simp at hx; omega) 1 rfl
  have bn := below_new w21 (.cells #[Value.int IntKind.u32 21] 36)
  replace h_t := h_t.below bn
  replace bw := below_two bw bn
  clear bn
  refine (keep_c h_t l (by decide) (by decide) true (same_of wl5.symm)).mono ?_
  rintro e w22 ⟨rfl, bn⟩
  clear l
  replace h_t := h_t.below bn
  replace bw := below_two bw bn
  clear bn
  clear h_t
  go_wp2
  go_ret
  exact ⟨rfl, bw⟩

end Go.Proofs.Ytegcpiicfcpppaa
