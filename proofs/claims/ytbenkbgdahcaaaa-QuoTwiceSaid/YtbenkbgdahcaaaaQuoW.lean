/- The statements' check that package quo is there (wakes) answers true, whatever the memory is. No condition. -/
import Derived.Test.YtbenkbgdahcaaaaQuoK
namespace Go.Proofs.Ytbenkbgdahcaaaa
open Go.RowKit Limb
set_option linter.unusedVariables false

theorem nn_none (w : World) (L : Nat) : NN w none 0 0 [] 0 L := ⟨IsN.nil _ _, rfl, Nat.le_refl _, Nat.zero_le _⟩
theorem nn_zero (w : World) (A : Option Addr) (c L : Nat) : NN w A 0 c [] 0 L := ⟨IsN.nil _ _, rfl, Nat.zero_le _, Nat.zero_le _⟩

theorem qw0 : [1431655765, 1431655765] = limbs (18446744073709551616 / 3) := by
  have h := eq_limbs (xs := [1431655765, 1431655765]) (by intro x hx; simp at hx; omega) (.inr (by decide))
  have e : 18446744073709551616 / 3 = 6148914691236517205 := by decide +kernel
  rw [e]
  simpa [val] using h
theorem qw1 : [1] = limbs (18446744073709551616 % 3) := by
  have h := eq_limbs (xs := [1]) (by intro x hx; simp at hx; omega) (.inr (by decide))
  have e : 18446744073709551616 % 3 = 1 := by decide +kernel
  rw [e]
  simpa [val] using h
theorem qw2 : [14] = limbs (100 / 7) := by
  have h := eq_limbs (xs := [14]) (by intro x hx; simp at hx; omega) (.inr (by decide))
  have e : 100 / 7 = 14 := by decide +kernel
  rw [e]
  simpa [val] using h
theorem qw3 : [6] = limbs (gcdN 12 18) := by
  have h := eq_limbs (xs := [6]) (by intro x hx; simp at hx; omega) (.inr (by decide))
  have e : gcdN 12 18 = 6 := by decide +kernel
  rw [e]
  simpa [val] using h
theorem qw4 : [18] = limbs (gcdN 0 18) := by
  have h := eq_limbs (xs := [18]) (by intro x hx; simp at hx; omega) (.inr (by decide))
  have e : gcdN 0 18 = 18 := by decide +kernel
  rw [e]
  simpa [val] using h
theorem qv0 : Limb.val [0, 0, 1] = 18446744073709551616 := by decide
theorem qv1 : Limb.val [3] = 3 := by decide
theorem qg0 : gcdN 12 18 < 4294967296 ^ 1 := by decide +kernel
theorem qg1 : gcdN 0 18 < 4294967296 ^ 1 := by decide +kernel

set_option maxHeartbeats 2000000 in
theorem wakes_any (w : World) : Calls Try.prog 8 #[] w fun e w' => e = .returned (.bool true) ∧ Below w.heap.size w w' := by
  have bw := bel_refl w
  go_enter Try.func8, Try.ntmps8
  go_wp2_with fail
  have h_x : NN (w.alloc (.cells #[Value.int IntKind.u32 0, Value.int IntKind.u32 0, Value.int IntKind.u32 1] 24)) (some ⟨w.heap.size, 0, none⟩) 3 3 [0, 0, 1] (Limb.val [0, 0, 1]) 3 := lit_c w [0, 0, 1] (by intro x hx; simp at hx; omega) 3 rfl
  have bn := below_new w (.cells #[Value.int IntKind.u32 0, Value.int IntKind.u32 0, Value.int IntKind.u32 1] 24)
  replace bw := below_two bw bn
  clear bn
  have hsz : (w.alloc (.cells #[Value.int IntKind.u32 0, Value.int IntKind.u32 0, Value.int IntKind.u32 1] 24)).heap.size = w.heap.size + 1 := by simp
  have h_y : NN ((w.alloc (.cells #[Value.int IntKind.u32 0, Value.int IntKind.u32 0, Value.int IntKind.u32 1] 24)).alloc (.cells #[Value.int IntKind.u32 3] 24)) (some ⟨(w.alloc (.cells #[Value.int IntKind.u32 0, Value.int IntKind.u32 0, Value.int IntKind.u32 1] 24)).heap.size, 0, none⟩) 1 1 [3] (Limb.val [3]) 1 := lit_c (w.alloc (.cells #[Value.int IntKind.u32 0, Value.int IntKind.u32 0, Value.int IntKind.u32 1] 24)) [3] (by intro x hx; simp at hx; omega) 1 rfl
  have bn := below_new (w.alloc (.cells #[Value.int IntKind.u32 0, Value.int IntKind.u32 0, Value.int IntKind.u32 1] 24)) (.cells #[Value.int IntKind.u32 3] 24)
  replace h_x := h_x.below bn
  replace bw := below_two bw bn
  clear bn
  rw [hsz] at h_y
  clear hsz
  rw [qv0] at h_x
  rw [qv1] at h_y
  generalize ((w.alloc (.cells #[Value.int IntKind.u32 0, Value.int IntKind.u32 0, Value.int IntKind.u32 1] 24)).alloc (.cells #[Value.int IntKind.u32 3] 24)) = wl at *
  refine (quoRem_yes h_x h_y (by decide) (by decide) (by decide)).mono ?_
  rintro e w1 ⟨A_q, n_q, c_q, A_r, n_r, c_r, rfl, h_q, h_r, bn⟩
  replace h_x := h_x.below bn
  replace h_y := h_y.below bn
  replace bw := below_two bw bn
  clear bn
  clear h_x h_y
  go_wp2_with fail
  refine (of_c 5 5 rfl (by decide) w1).mono ?_
  rintro e w2 ⟨A_x, n_x, c_x, rfl, h_x, bn⟩
  replace h_q := h_q.below bn
  replace h_r := h_r.below bn
  replace bw := below_two bw bn
  clear bn
  go_wp2_with fail
  refine (quoRem_no h_x (nn_none w2 0) (by decide) (by decide) rfl).mono ?_
  rintro e w3 ⟨A_u, c_u, A_v, c_v, rfl, bn⟩
  replace h_q := h_q.below bn
  replace h_r := h_r.below bn
  replace h_x := h_x.below bn
  replace bw := below_two bw bn
  clear bn
  clear h_x
  go_wp2_with fail
  refine (of_c 100 100 rfl (by decide) w3).mono ?_
  rintro e w4 ⟨A_x, n_x, c_x, rfl, h_x, bn⟩
  replace h_q := h_q.below bn
  replace h_r := h_r.below bn
  replace bw := below_two bw bn
  clear bn
  go_wp2_with fail
  refine (quoSmall_yes h_x (by decide) 7 7 rfl (by decide) (by decide)).mono ?_
  rintro e w5 ⟨A_s, n_s, c_s, rfl, h_s, bn⟩
  replace h_q := h_q.below bn
  replace h_r := h_r.below bn
  replace h_x := h_x.below bn
  replace bw := below_two bw bn
  clear bn
  clear h_x
  go_wp2_with fail
  refine (of_c 5 5 rfl (by decide) w5).mono ?_
  rintro e w6 ⟨A_x, n_x, c_x, rfl, h_x, bn⟩
  replace h_q := h_q.below bn
  replace h_r := h_r.below bn
  replace h_s := h_s.below bn
  replace bw := below_two bw bn
  clear bn
  go_wp2_with fail
  refine (quoSmall_no h_x (by decide) 0 rfl).mono ?_
  rintro e w7 ⟨A_m, c_m, rfl, bn⟩
  replace h_q := h_q.below bn
  replace h_r := h_r.below bn
  replace h_s := h_s.below bn
  replace h_x := h_x.below bn
  replace bw := below_two bw bn
  clear bn
  clear h_x
  go_wp2_with fail
  have l := lit_c w7 [1431655765, 1431655765] (by intro x hx; simp at hx; omega) 2 rfl
  have bn := below_new w7 (.cells #[Value.int IntKind.u32 1431655765, Value.int IntKind.u32 1431655765] 24)
  replace h_q := h_q.below bn
  replace h_r := h_r.below bn
  replace h_s := h_s.below bn
  replace bw := below_two bw bn
  clear bn
  refine (keep_c h_q l (by decide) (by decide) true (same_of qw0.symm)).mono ?_
  rintro e w8 ⟨rfl, bn⟩
  clear l
  replace h_q := h_q.below bn
  replace h_r := h_r.below bn
  replace h_s := h_s.below bn
  replace bw := below_two bw bn
  clear bn
  go_wp2_with fail
  have l := lit_c w8 [1] (by intro x hx; simp at hx; omega) 1 rfl
  have bn := below_new w8 (.cells #[Value.int IntKind.u32 1] 24)
  replace h_q := h_q.below bn
  replace h_r := h_r.below bn
  replace h_s := h_s.below bn
  replace bw := below_two bw bn
  clear bn
  refine (keep_c h_r l (by decide) (by decide) true (same_of qw1.symm)).mono ?_
  rintro e w9 ⟨rfl, bn⟩
  clear l
  replace h_q := h_q.below bn
  replace h_r := h_r.below bn
  replace h_s := h_s.below bn
  replace bw := below_two bw bn
  clear bn
  go_wp2_with fail
  have l := lit_c w9 [14] (by intro x hx; simp at hx; omega) 1 rfl
  have bn := below_new w9 (.cells #[Value.int IntKind.u32 14] 24)
  replace h_q := h_q.below bn
  replace h_r := h_r.below bn
  replace h_s := h_s.below bn
  replace bw := below_two bw bn
  clear bn
  refine (keep_c h_s l (by decide) (by decide) true (same_of qw2.symm)).mono ?_
  rintro e w10 ⟨rfl, bn⟩
  clear l
  replace h_q := h_q.below bn
  replace h_r := h_r.below bn
  replace h_s := h_s.below bn
  replace bw := below_two bw bn
  clear bn
  clear h_q h_r h_s
  go_wp2_with fail
  refine (of_c 12 12 rfl (by decide) w10).mono ?_
  rintro e w11 ⟨A_x, n_x, c_x, rfl, h_x, bn⟩
  replace bw := below_two bw bn
  clear bn
  go_wp2_with fail
  refine (of_c 18 18 rfl (by decide) w11).mono ?_
  rintro e w12 ⟨A_y, n_y, c_y, rfl, h_y, bn⟩
  replace h_x := h_x.below bn
  replace bw := below_two bw bn
  clear bn
  go_wp2_with fail
  refine (quoGcd_c h_x h_y (by decide) (by decide) 1 qg0).mono ?_
  rintro e w13 ⟨A_g, n_g, c_g, rfl, h_g, bn⟩
  replace h_x := h_x.below bn
  replace h_y := h_y.below bn
  replace bw := below_two bw bn
  clear bn
  clear h_x h_y
  go_wp2_with fail
  have l := lit_c w13 [6] (by intro x hx; simp at hx; omega) 1 rfl
  have bn := below_new w13 (.cells #[Value.int IntKind.u32 6] 24)
  replace h_g := h_g.below bn
  replace bw := below_two bw bn
  clear bn
  refine (keep_c h_g l (by decide) (by decide) true (same_of qw3.symm)).mono ?_
  rintro e w14 ⟨rfl, bn⟩
  clear l
  replace h_g := h_g.below bn
  replace bw := below_two bw bn
  clear bn
  clear h_g
  go_wp2_with fail
  refine (of_c 18 18 rfl (by decide) w14).mono ?_
  rintro e w15 ⟨A_y, n_y, c_y, rfl, h_y, bn⟩
  replace bw := below_two bw bn
  clear bn
  go_wp2_with fail
  refine (quoGcd_c (nn_none w15 0) h_y (by decide) (by decide) 1 qg1).mono ?_
  rintro e w16 ⟨A_g, n_g, c_g, rfl, h_g, bn⟩
  replace h_y := h_y.below bn
  replace bw := below_two bw bn
  clear bn
  clear h_y
  go_wp2_with fail
  have l := lit_c w16 [18] (by intro x hx; simp at hx; omega) 1 rfl
  have bn := below_new w16 (.cells #[Value.int IntKind.u32 18] 24)
  replace h_g := h_g.below bn
  replace bw := below_two bw bn
  clear bn
  refine (keep_c h_g l (by decide) (by decide) true (same_of qw4.symm)).mono ?_
  rintro e w17 ⟨rfl, bn⟩
  clear l
  replace h_g := h_g.below bn
  replace bw := below_two bw bn
  clear bn
  clear h_g
  go_wp2
  go_ret
  exact ⟨rfl, bw⟩

end Go.Proofs.Ytbenkbgdahcaaaa
