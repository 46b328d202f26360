/- The statements' check that package digits is there (wakes) answers true, whatever the memory is; texts that the statements make. No condition. -/
import Derived.Test.YtpkjooiddejgpaaDoorDigK
namespace Go.Proofs.YtpkjooiddejgpaaDoor
open Go.RowKit Limb
set_option linter.unusedVariables false

theorem nn_nil (w : World) (L : Nat) : NN w none 0 0 (limbs 0) 0 L := ⟨IsN.nil _ _, rfl, Nat.le_refl _, Nat.zero_le _⟩
/-- So many noughts. -/
def nzS (k : Nat) : ByteArray := strOf (List.replicate k 48)
theorem size_nzS (k : Nat) : (nzS k).size = k := by unfold nzS; rw [size_strOf, List.length_replicate]
theorem nzS_succ (k : Nat) : nzS k ++ ⟨#[48]⟩ = nzS (k + 1) := by
  have e : (⟨#[48]⟩ : ByteArray) = strOf [48] := rfl
  unfold nzS
  rw [e, strOf_append, List.replicate_succ']
theorem nzS_zero : nzS 0 = ⟨#[]⟩ := rfl
theorem bytesOf_nzS (k : Nat) : bytesOf (nzS k) = List.replicate k 48 := bytesOf_strOf (allDig_bytes (allDig_zeros k))
theorem one_nzS (k : Nat) : (⟨#[49]⟩ : ByteArray) ++ nzS k = strOf (decT (10 ^ k)) := by
  have e : (⟨#[49]⟩ : ByteArray) = strOf [49] := rfl
  unfold nzS
  rw [e, strOf_append, decT_ten]; rfl
theorem bytesOf_dec (n : Nat) : bytesOf (strOf (decT n)) = decT n := bytesOf_strOf (decT_bytes n)
theorem beq_self_str (s : ByteArray) : (s.toList == s.toList) = true := by simp
theorem dw0a : numOk (bytesOf ⟨#[49, 56, 52, 52, 54, 55, 52, 52, 48, 55, 51, 55, 48, 57, 53, 53, 49, 54, 49, 54]⟩) = true := by decide +kernel
theorem dw0b : numV (bytesOf ⟨#[49, 56, 52, 52, 54, 55, 52, 52, 48, 55, 51, 55, 48, 57, 53, 53, 49, 54, 49, 54]⟩) = 18446744073709551616 := by decide +kernel
theorem dw1a : numOk (bytesOf ⟨#[49, 97]⟩) = false := by decide +kernel
theorem dw1b : numV (bytesOf ⟨#[49, 97]⟩) = 0 := by decide +kernel
theorem dw2a : numOk (bytesOf ⟨#[]⟩) = false := by decide +kernel
theorem dw2b : numV (bytesOf ⟨#[]⟩) = 0 := by decide +kernel
theorem dl0 : [0, 0, 1] = limbs (18446744073709551616) := by
  have h := eq_limbs (xs := [0, 0, 1]) (by intro x hx; simp at hx; omega) (.inr (by decide))
  have e : Limb.val [0, 0, 1] = 18446744073709551616 := by decide +kernel
  rw [e] at h
  exact h
theorem dl1 : [1000] = limbs (10 ^ 3) := by
  have h := eq_limbs (xs := [1000]) (by intro x hx; simp at hx; omega) (.inr (by decide))
  have e : Limb.val [1000] = 10 ^ 3 := by decide +kernel
  rw [e] at h
  exact h
theorem dt0 : strOf (decT 18446744073709551616) = ⟨#[49, 56, 52, 52, 54, 55, 52, 52, 48, 55, 51, 55, 48, 57, 53, 53, 49, 54, 49, 54]⟩ := by kernel_rfl
theorem dt1 : strOf (decT 0) = ⟨#[48]⟩ := rfl

set_option maxHeartbeats 2000000 in
theorem wakes_any (w : World) (T : Tab w) : Calls Tryd.prog 7 #[] w fun e w' => e = .returned (.bool true) ∧ Below w.heap.size w w' := by
  have bw := bel_refl w
  have HTab := Lib.hid T
  clear T
  go_enter Tryd.func7, Tryd.ntmps7
  go_wp2_with fail
  refine (digParse_c ⟨#[49, 56, 52, 52, 54, 55, 52, 52, 48, 55, 51, 55, 48, 57, 53, 53, 49, 54, 49, 54]⟩ w HTab.out true dw0a _ dw0b).mono ?_
  rintro e w1 ⟨A_x, n_x, c_x, rfl, h_x, bn⟩
  replace HTab := Lib.hid (HTab.out.below bn)
  replace bw := below_two bw bn
  clear bn
  go_wp2_with fail
  refine (digParse_c ⟨#[49, 97]⟩ w1 HTab.out false dw1a _ dw1b).mono ?_
  rintro e w2 ⟨A_y, n_y, c_y, rfl, h_y, bn⟩
  replace h_x := h_x.below bn
  replace HTab := Lib.hid (HTab.out.below bn)
  replace bw := below_two bw bn
  clear bn
  clear h_y
  go_wp2_with fail
  refine (digParse_c ⟨#[]⟩ w2 HTab.out false dw2a _ dw2b).mono ?_
  rintro e w3 ⟨A_y, n_y, c_y, rfl, h_y, bn⟩
  replace h_x := h_x.below bn
  replace HTab := Lib.hid (HTab.out.below bn)
  replace bw := below_two bw bn
  clear bn
  clear h_y
  go_wp2_with fail
  refine (digTen_yes 3 3 rfl (by decide) w3 HTab.out).mono ?_
  rintro e w4 ⟨A_t, n_t, c_t, rfl, h_t, bn⟩
  replace h_x := h_x.below bn
  replace HTab := Lib.hid (HTab.out.below bn)
  replace bw := below_two bw bn
  clear bn
  go_wp2_with fail
  have l := lit_c w4 [0, 0, 1] (by intro x hx; simp at hx; omega) 3 rfl
  have bn := below_new w4 (.cells #[Value.int IntKind.u32 0, Value.int IntKind.u32 0, Value.int IntKind.u32 1] 39)
  replace h_x := h_x.below bn
  replace h_t := h_t.below bn
  replace HTab := Lib.hid (HTab.out.below bn)
  replace bw := below_two bw bn
  clear bn
  refine (keep_c h_x l (by decide) (by decide) true (same_of dl0.symm)).mono ?_
  rintro e w5 ⟨rfl, bn⟩
  clear l
  replace h_x := h_x.below bn
  replace h_t := h_t.below bn
  replace HTab := Lib.hid (HTab.out.below bn)
  replace bw := below_two bw bn
  clear bn
  go_wp2_with fail
  refine (digText_c HTab.out h_x (by decide) ⟨#[49, 56, 52, 52, 54, 55, 52, 52, 48, 55, 51, 55, 48, 57, 53, 53, 49, 54, 49, 54]⟩ dt0).mono ?_
  rintro e w6 ⟨rfl, bn⟩
  replace h_x := h_x.below bn
  replace h_t := h_t.below bn
  replace HTab := Lib.hid (HTab.out.below bn)
  replace bw := below_two bw bn
  clear bn
  clear h_x
  go_wp2_with fail
  refine (digText_c HTab.out (nn_nil w6 0) (by decide) ⟨#[48]⟩ dt1).mono ?_
  rintro e w7 ⟨rfl, bn⟩
  replace h_t := h_t.below bn
  replace HTab := Lib.hid (HTab.out.below bn)
  replace bw := below_two bw bn
  clear bn
  go_wp2_with fail
  have l := lit_c w7 [1000] (by intro x hx; simp at hx; omega) 1 rfl
  have bn := below_new w7 (.cells #[Value.int IntKind.u32 1000] 39)
  replace h_t := h_t.below bn
  replace HTab := Lib.hid (HTab.out.below bn)
  replace bw := below_two bw bn
  clear bn
  refine (keep_c h_t l (by decide) (by decide) true (same_of dl1.symm)).mono ?_
  rintro e w8 ⟨rfl, bn⟩
  clear l
  replace h_t := h_t.below bn
  replace HTab := Lib.hid (HTab.out.below bn)
  replace bw := below_two bw bn
  clear bn
  clear h_t
  go_wp2
  go_ret
  exact ⟨rfl, bw⟩

end Go.Proofs.YtpkjooiddejgpaaDoor
