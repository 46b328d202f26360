/- The statements' check that package nat is there (wakes) answers true, whatever the memory is. No condition. -/
import Derived.Test.YthcacnlajfidoaaNatK
namespace Go.Proofs.Ythcacnlajfidoaa
open Go.RowKit Limb
set_option linter.unusedVariables false

theorem lim0 : [0, 1] = limbs 4294967296 := by
  have h := eq_limbs (xs := [0, 1]) (by intro x hx; simp at hx; omega) (.inr (by decide))
  simpa [val] using h
theorem lim1 : [4294967295] = limbs 4294967295 := by
  have h := eq_limbs (xs := [4294967295]) (by intro x hx; simp at hx; omega) (.inr (by decide))
  simpa [val] using h

theorem blen33 : ((blen 4294967296 : Nat) : Int) = 33 := by rw [blen_eq (k := 32) (by decide) (by decide)]; rfl

set_option maxHeartbeats 1000000 in
theorem wakes_any (w : World) : Calls Try.prog 9 #[] w fun e w' => e = .returned (.bool true) ∧ Below w.heap.size w w' := by
  go_enter Try.func9, Try.ntmps9
  go_wp2_with fail
  refine (of_c 4294967296 4294967296 rfl (by decide) w).mono ?_
  rintro e w1 ⟨A1, n1, c1, rfl, h1, b1⟩
  go_wp2_with fail
  refine (of_c 1 1 rfl (by decide) w1).mono ?_
  rintro e w2 ⟨A2, n2, c2, rfl, h2, b2⟩
  replace h1 := h1.below b2
  replace b1 := below_two b1 b2
  clear b2
  go_wp2_with fail
  refine (sub_yes h1 h2 (by decide) (by decide) (by decide)).mono ?_
  rintro e w3 ⟨A3, n3, c3, rfl, h3, b3⟩
  replace h1 := h1.below b3
  replace b1 := below_two b1 b3
  clear b3 h2
  go_wp2_with fail
  refine (of_c 1 1 rfl (by decide) w3).mono ?_
  rintro e w4 ⟨A4, n4, c4, rfl, h4, b4⟩
  replace h1 := h1.below b4
  replace h3 := h3.below b4
  replace b1 := below_two b1 b4
  clear b4
  go_wp2_with fail
  refine (sub_no h4 h1 (by decide) (by decide) (by decide)).mono ?_
  rintro e w5 ⟨A5, n5, c5, rfl, h5, b5⟩
  replace h1 := h1.below b5
  replace h3 := h3.below b5
  replace b1 := below_two b1 b5
  clear b5 h4
  go_wp2_with fail
  have l := lit_c w5 [0, 1] (by intro x hx; simp at hx; omega) 2 rfl
  have b6 := below_new w5 (.cells #[Value.int IntKind.u32 0, Value.int IntKind.u32 1] 39)
  replace h1 := h1.below b6
  replace h3 := h3.below b6
  replace b1 := below_two b1 b6
  clear b6
  refine (keep_c h1 l (by decide) (by decide) true (same_of lim0.symm)).mono ?_
  rintro e w7 ⟨rfl, b7⟩
  replace h1 := h1.below b7
  replace h3 := h3.below b7
  replace b1 := below_two b1 b7
  clear b7 l
  go_wp2_with fail
  have l := lit_c w7 [4294967295] (by intro x hx; simp at hx; omega) 1 rfl
  have b6 := below_new w7 (.cells #[Value.int IntKind.u32 4294967295] 39)
  replace h1 := h1.below b6
  replace h3 := h3.below b6
  replace b1 := below_two b1 b6
  clear b6
  refine (keep_c h3 l (by decide) (by decide) true (same_of lim1.symm)).mono ?_
  rintro e w8 ⟨rfl, b7⟩
  replace h1 := h1.below b7
  replace h3 := h3.below b7
  replace b1 := below_two b1 b7
  clear b7 l
  go_wp2_with fail
  refine (cmp_c h1 h3 (by decide) (by decide) 1 (cmpI_gt (by decide))).mono ?_
  rintro e w9 ⟨rfl, b7⟩
  replace h1 := h1.below b7
  replace h3 := h3.below b7
  replace b1 := below_two b1 b7
  clear b7
  go_wp2_with fail
  refine (bits_c h1 (by decide) 33 blen33).mono ?_
  rintro e w10 ⟨rfl, rfl⟩
  go_wp2_with fail
  refine (bit_c h1 (by decide) 32 (by decide) (by decide) true (by decide)).mono ?_
  rintro e w10 ⟨rfl, rfl⟩
  go_wp2_with fail
  refine (bit_c h1 (by decide) 31 (by decide) (by decide) false (by decide)).mono ?_
  rintro e w10 ⟨rfl, rfl⟩
  go_wp2_with fail
  refine (of_c 1 1 rfl (by decide) w9).mono ?_
  rintro e w10 ⟨A10, n10, c10, rfl, h10, b7⟩
  replace h1 := h1.below b7
  replace h3 := h3.below b7
  replace b1 := below_two b1 b7
  clear b7
  go_wp2_with fail
  refine (add_c h3 h10 3 (by decide) (by decide) (by decide)).mono ?_
  rintro e w11 ⟨A11, n11, c11, rfl, h11, b7⟩
  replace h1 := h1.below b7
  replace b1 := below_two b1 b7
  clear b7
  go_wp2_with fail
  refine (keep_c h11 h1 (by decide) (by decide) true (same_limbs rfl)).mono ?_
  rintro e w12 ⟨rfl, b7⟩
  replace b1 := below_two b1 b7
  clear b7
  go_wp2_with fail
  have l := lit_c w12 [0, 0] (by intro x hx; simp at hx; omega) 2 rfl
  have b6 := below_new w12 (.cells #[Value.int IntKind.u32 0, Value.int IntKind.u32 0] 39)
  replace b1 := below_two b1 b6
  clear b6
  refine (trim_c l (by decide)).mono ?_
  rintro e w13 ⟨A13, n13, c13, rfl, h13, b7⟩
  replace b1 := below_two b1 b7
  have e13 : n13 = 0 := by
    have := h13.isN.len
    rw [show Limb.val [0, 0] = 0 from rfl, limbs_zero] at this
    exact this.symm
  subst e13
  clear b7 l
  go_wp2
  go_ret
  exact ⟨rfl, b1⟩

end Go.Proofs.Ythcacnlajfidoaa
