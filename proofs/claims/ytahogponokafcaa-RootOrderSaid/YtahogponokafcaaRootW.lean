/- The statements' check that package root is there (wakes) answers true, whatever the memory is. No condition. -/
import Derived.Test.YtahogponokafcaaRootK
namespace Go.Proofs.Ytahogponokafcaa
open Go.RowKit Limb
set_option linter.unusedVariables false

theorem nn_none (w : World) (L : Nat) : NN w none 0 0 [] 0 L := ⟨IsN.nil _ _, rfl, Nat.le_refl _, Nat.zero_le _⟩
theorem rw0 : [3] = limbs (rootN 10) := by
  have h := eq_limbs (xs := [3]) (by intro x hx; simp at hx; omega) (.inr (by decide))
  have e : rootN 10 = 3 := by decide +kernel
  rw [e]
  simpa [val] using h
theorem rw1 : [4] = limbs (rootN 16) := by
  have h := eq_limbs (xs := [4]) (by intro x hx; simp at hx; omega) (.inr (by decide))
  have e : rootN 16 = 4 := by decide +kernel
  rw [e]
  simpa [val] using h
theorem rw2 : [4] = limbs (ceilN 10) := by
  have h := eq_limbs (xs := [4]) (by intro x hx; simp at hx; omega) (.inr (by decide))
  have e : ceilN 10 = 4 := by decide +kernel
  rw [e]
  simpa [val] using h
theorem rw3 : [4] = limbs (ceilN 16) := by
  have h := eq_limbs (xs := [4]) (by intro x hx; simp at hx; omega) (.inr (by decide))
  have e : ceilN 16 = 4 := by decide +kernel
  rw [e]
  simpa [val] using h
theorem rs0 : squareN 10 = false := by decide +kernel
theorem rs1 : squareN 16 = true := by decide +kernel
theorem rc0 : ceilN 0 = 0 := by decide +kernel

set_option maxHeartbeats 2000000 in
theorem wakes_any (w : World) : Calls Try.prog 6 #[] w fun e w' => e = .returned (.bool true) ∧ Below w.heap.size w w' := by
  have bw := bel_refl w
  go_enter Try.func6, Try.ntmps6
  go_wp2_with fail
  refine (of_c 10 10 rfl (by decide) w).mono ?_
  rintro e w1 ⟨A_x, n_x, c_x, rfl, h_x, bn⟩
  replace bw := below_two bw bn
  clear bn
  go_wp2_with fail
  refine (rootFloor_c h_x (by decide) false rs0).mono ?_
  rintro e w2 ⟨A_r, n_r, c_r, rfl, h_r, bn⟩
  replace h_x := h_x.below bn
  replace bw := below_two bw bn
  clear bn
  clear h_x
  go_wp2_with fail
  refine (of_c 16 16 rfl (by decide) w2).mono ?_
  rintro e w3 ⟨A_x, n_x, c_x, rfl, h_x, bn⟩
  replace h_r := h_r.below bn
  replace bw := below_two bw bn
  clear bn
  go_wp2_with fail
  refine (rootFloor_c h_x (by decide) true rs1).mono ?_
  rintro e w4 ⟨A_s, n_s, c_s, rfl, h_s, bn⟩
  replace h_r := h_r.below bn
  replace h_x := h_x.below bn
  replace bw := below_two bw bn
  clear bn
  clear h_x
  go_wp2_with fail
  have l := lit_c w4 [3] (by intro x hx; simp at hx; omega) 1 rfl
  have bn := below_new w4 (.cells #[Value.int IntKind.u32 3] 30)
  replace h_r := h_r.below bn
  replace h_s := h_s.below bn
  replace bw := below_two bw bn
  clear bn
  refine (keep_c h_r l (by decide) (by decide) true (same_of rw0.symm)).mono ?_
  rintro e w5 ⟨rfl, bn⟩
  clear l
  replace h_r := h_r.below bn
  replace h_s := h_s.below bn
  replace bw := below_two bw bn
  clear bn
  go_wp2_with fail
  have l := lit_c w5 [4] (by intro x hx; simp at hx; omega) 1 rfl
  have bn := below_new w5 (.cells #[Value.int IntKind.u32 4] 30)
  replace h_r := h_r.below bn
  replace h_s := h_s.below bn
  replace bw := below_two bw bn
  clear bn
  refine (keep_c h_s l (by decide) (by decide) true (same_of rw1.symm)).mono ?_
  rintro e w6 ⟨rfl, bn⟩
  clear l
  replace h_r := h_r.below bn
  replace h_s := h_s.below bn
  replace bw := below_two bw bn
  clear bn
  clear h_r h_s
  go_wp2_with fail
  refine (of_c 10 10 rfl (by decide) w6).mono ?_
  rintro e w7 ⟨A_x, n_x, c_x, rfl, h_x, bn⟩
  replace bw := below_two bw bn
  clear bn
  go_wp2_with fail
  refine (rootCeil_c h_x (by decide)).mono ?_
  rintro e w8 ⟨A_r, n_r, c_r, rfl, h_r, bn⟩
  replace h_x := h_x.below bn
  replace bw := below_two bw bn
  clear bn
  clear h_x
  go_wp2_with fail
  have l := lit_c w8 [4] (by intro x hx; simp at hx; omega) 1 rfl
  have bn := below_new w8 (.cells #[Value.int IntKind.u32 4] 30)
  replace h_r := h_r.below bn
  replace bw := below_two bw bn
  clear bn
  refine (keep_c h_r l (by decide) (by decide) true (same_of rw2.symm)).mono ?_
  rintro e w9 ⟨rfl, bn⟩
  clear l
  replace h_r := h_r.below bn
  replace bw := below_two bw bn
  clear bn
  clear h_r
  go_wp2_with fail
  refine (of_c 16 16 rfl (by decide) w9).mono ?_
  rintro e w10 ⟨A_x, n_x, c_x, rfl, h_x, bn⟩
  replace bw := below_two bw bn
  clear bn
  go_wp2_with fail
  refine (rootCeil_c h_x (by decide)).mono ?_
  rintro e w11 ⟨A_r, n_r, c_r, rfl, h_r, bn⟩
  replace h_x := h_x.below bn
  replace bw := below_two bw bn
  clear bn
  clear h_x
  go_wp2_with fail
  have l := lit_c w11 [4] (by intro x hx; simp at hx; omega) 1 rfl
  have bn := below_new w11 (.cells #[Value.int IntKind.u32 4] 30)
  replace h_r := h_r.below bn
  replace bw := below_two bw bn
  clear bn
  refine (keep_c h_r l (by decide) (by decide) true (same_of rw3.symm)).mono ?_
  rintro e w12 ⟨rfl, bn⟩
  clear l
  replace h_r := h_r.below bn
  replace bw := below_two bw bn
  clear bn
  clear h_r
  go_wp2_with fail
  refine (rootCeil_c (nn_none w12 0) (by decide)).mono ?_
  rintro e w13 ⟨A_z, n_z, c_z, rfl, h_z, bn⟩
  replace bw := below_two bw bn
  clear bn
  obtain rfl : n_z = 0 := by have := h_z.isN.len; rw [rc0, limbs_zero] at this; exact this.symm
  go_wp2
  go_ret
  exact ⟨rfl, bw⟩

end Go.Proofs.Ytahogponokafcaa
