/- What the reference's Of of layer 2 comes to, as a contract over memory: the product, in shortest limbs. Conditions: both lists read as limbs, of at most 10^6 of them. -/
import Derived.Test.YtahogponokafcaaRefMulB
namespace Go.Proofs.Ytahogponokafcaa
open Go.RowKit Limb
set_option linter.unusedVariables false

theorem mul_step (a : Nat) (ys : List Nat) (k : Nat) : a * val (ys.take k) + a * lim ys k * 2 ^ (32 * k) = a * val (ys.take (k + 1)) := by
  rw [val_take_lim, Nat.mul_add, pow32, Nat.mul_assoc, Nat.mul_comm (lim ys k)]

theorem mul_room {w : World} {A A' : Option Addr} {n c n' c' : Nat} {xs ys : List Nat} {a b L L' : Nat} (hx : NN w A n c xs a L) (hy : NN w A' n' c' ys b L') (k : Nat) : a * val (ys.take k) < 4294967296 ^ (L + L') := by
  have h1 := lt_pow hx
  have h2 := val_lt (small_take hy.isN.small k)
  have h3 : 4294967296 ^ (ys.take k).length ≤ 4294967296 ^ L' := Nat.pow_le_pow_right (by decide) (by rw [List.length_take, hy.isN.len]; have := hy.le; omega)
  rw [Nat.pow_add]
  exact Nat.mul_lt_mul'' h1 (Nat.lt_of_lt_of_le h2 h3)

theorem up_fits {t L k : Nat} (h : t < 4294967296 ^ L) : t * 2 ^ (32 * k) < 4294967296 ^ (L + k) := by
  rw [Nat.pow_add, ← pow32]
  exact Nat.mul_lt_mul_of_pos_right h (Nat.pow_pos (by decide))

set_option maxHeartbeats 1600000 in
theorem refMul_c {A A' : Option Addr} {n c n' c' : Nat} {xs ys : List Nat} {a b L L' : Nat} {w : World} (hx : NN w A n c xs a L) (hy : NN w A' n' c' ys b L') (h1 : L ≤ 1000000) (h2 : L' ≤ 1000000) :
    Calls Try.prog 25 #[.slice A n c, .slice A' n' c'] w fun e w' => ∃ A2 n2 c2, e = .returned (.slice A2 n2 c2) ∧ NN w' A2 n2 c2 (limbs (a * b)) (a * b) (L + L') ∧ Below w.heap.size w w' := by
  have hle := hx.le
  have hle' := hy.le
  have Hly := Lib.hid hy.isN.len
  have hsy := hy.isN.small
  have Hyv : RowKit.Hid (val ys = b) := hy.val
  have Hroom := Lib.hid (fun k => mul_room hx hy k)
  have H0 : RowKit.Hid (∀ wr : World, NN wr none 0 0 (limbs (a * val (ys.take 0))) (a * val (ys.take 0)) (L + L')) := by
    intro wr
    have e : a * val (ys.take 0) = 0 := by simp [val]
    rw [e]
    exact ⟨IsN.nil _ _, rfl, Nat.le_refl _, Nat.zero_le _⟩
  go_enter Try.func25, Try.ntmps25
  go_wp2
  go_loopw [6, 5] (fun i ov wr => ∃ (k t : Nat) (A2 : Option Addr) (n2 c2 : Nat), k ≤ n' ∧ i = .int .i64 (k : Int) ∧ ov = .slice A2 n2 c2 ∧ RowKit.Hid (t = a * val (ys.take k)) ∧ NN wr A2 n2 c2 (limbs t) t (L + L') ∧ Below w.heap.size w wr) (fun i _ _ => n' - (intOf i).toNat)
  case atStart => exact ⟨0, _, none, 0, 0, by omega, rfl, rfl, rfl, H0.out _, Below.refl _ _⟩
  case round =>
    obtain ⟨k, t, A2, n2, c2, hk, rfl, rfl, Ht, ho, bw⟩ := hrel
    have h_x := hx.below bw
    have h_y := hy.below bw
    by_cases hgo : k < n'
    · obtain ⟨b1, o1, hA, hb1, hc1⟩ := h_y.isN.2.2 (by omega)
      subst hA
      have hcell : wr.cell? ⟨b1, o1 + k, none⟩ = some (.int .u32 ((lim ys k : Nat) : Int)) := hc1 k hgo
      have l1 := lim_lt hsy k
      clear hx hy
      go_wp2_with fail
      refine (refSmall_c h_x (lim ys k) _ rfl l1 (by omega)).mono ?_
      rintro e w1 ⟨A3, n3, c3, rfl, h3, bn⟩
      replace ho := ho.below bn
      replace h_x := h_x.below bn
      replace h_y := h_y.below bn
      replace bw := below_two bw bn
      clear bn
      go_wp2_with fail
      refine (refUp_c h3 (32 * k) _ (by omega) (by omega) (by omega) (L + 1 + k) (up_fits (lt_pow h3))).mono ?_
      rintro e w2 ⟨A4, n4, c4, rfl, h4, bn⟩
      replace ho := ho.below bn
      replace h_x := h_x.below bn
      replace h_y := h_y.below bn
      replace bw := below_two bw bn
      clear bn h3
      go_wp2_with fail
      refine (refAdd_c ho h4 (by omega) (by omega)).mono ?_
      rintro e w3 ⟨A5, n5, c5, rfl, h5, bn⟩
      replace bw := below_two bw bn
      clear bn h4 ho h_x h_y
      have e1 : t + a * lim ys k * 2 ^ (32 * k) = a * val (ys.take (k + 1)) := by rw [Ht.out, mul_step]
      rw [e1] at h5
      have h6 := h5.relax (Hroom.out (k + 1))
      clear h5 e1
      obtain ⟨u, hu⟩ : ∃ u, u = a * val (ys.take (k + 1)) := ⟨_, rfl⟩
      rw [← hu] at h6
      have Hu := Lib.hid hu
      clear hu
      go_wp2
      go_roundw
      case rel => exact ⟨k + 1, u, A5, n5, c5, by omega, by go_num, rfl, Hu, h6, bw⟩
      case measure => simp [intOf]; omega
    · obtain rfl : k = n' := by omega
      have Ht2 : RowKit.Hid (t = a * b) := by
        have h := Ht.out
        rw [List.take_of_length_le (by rw [Hly.out]; exact Nat.le_refl _), Hyv.out] at h
        exact h
      clear hx hy
      go_wp2_with fail
      refine (refTrim_c ho (by omega)).mono ?_
      rintro e w4 ⟨A4, n4, c4, rfl, h4, bn⟩
      rw [Ht2.out] at h4
      go_wp2
      go_ret
      exact ⟨_, _, _, rfl, h4, below_two bw bn⟩

end Go.Proofs.Ytahogponokafcaa
