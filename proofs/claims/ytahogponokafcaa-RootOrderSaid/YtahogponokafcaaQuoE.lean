/- What package quo's Rem answers, as contracts over memory: the quotient and what is left, in their shortest limbs, or nothing if the divisor is 0. Conditions: both lists read as limbs, of at most 10^5 of them. -/
import Derived.Test.YtahogponokafcaaQuoD
import Derived.Test.YtahogponokafcaaMulF
namespace Go.Proofs.Ytahogponokafcaa.Limb

theorem top_limb {b k : Nat} (hk : (limbs b).length = k + 1) : lim (limbs b) k = b / 4294967296 ^ k ∧ 1 ≤ b / 4294967296 ^ k ∧ b / 4294967296 ^ k < 4294967296 := by
  have hb : b ≠ 0 := by intro h; rw [h, limbs_zero] at hk; simp at hk
  have h1 := length_limbs_pred hb
  rw [hk, Nat.add_sub_cancel] at h1
  have h2 := val_lt (small_limbs b)
  rw [val_limbs, hk, Nat.pow_succ] at h2
  have h3 := lim_eq_div (limbs b) (small_limbs b) k
  rw [val_limbs] at h3
  have hP : 0 < 4294967296 ^ k := Nat.pow_pos (by decide)
  have h4 : b / 4294967296 ^ k < 4294967296 := by rw [Nat.div_lt_iff_lt_mul hP, Nat.mul_comm]; exact h2
  rw [Nat.mod_eq_of_lt h4] at h3
  exact ⟨h3.symm, (Nat.le_div_iff_mul_le hP).2 (by omega), h4⟩

/-- Moved up till the highest bit is set a number has as many limbs. -/
theorem norm_ok {b k f : Nat} (hk : (limbs b).length = k + 1) (hf : f + blen (lim (limbs b) k) = 32) : (limbs (b * 2 ^ f)).length = k + 1 ∧ 2147483648 ≤ lim (limbs (b * 2 ^ f)) k := by
  obtain ⟨e, h1, h2⟩ := top_limb hk
  rw [e] at hf
  have hP : 0 < 4294967296 ^ k := Nat.pow_pos (by decide)
  have h3 := Nat.div_mul_le_self b (4294967296 ^ k)
  have h4 := Nat.lt_mul_div_succ b hP
  generalize b / 4294967296 ^ k = t at *
  obtain ⟨s1, s2, s3⟩ := blen_spec (n := t) (by omega)
  obtain ⟨u, hu⟩ : ∃ u, blen t = u + 1 := ⟨blen t - 1, by omega⟩
  rw [hu] at s1 s2 hf
  rw [Nat.add_sub_cancel] at s1
  have e1 : 2 ^ u * 2 ^ f = 2147483648 := by rw [← Nat.pow_add, show u + f = 31 by omega]
  have e2 : 2 ^ (u + 1) * 2 ^ f = 4294967296 := by rw [← Nat.pow_add, show u + 1 + f = 32 by omega]
  have l1 : 2147483648 * 4294967296 ^ k ≤ b * 2 ^ f := by
    rw [← e1, Nat.mul_right_comm]
    exact Nat.mul_le_mul_right _ (Nat.le_trans (Nat.mul_le_mul_right _ s1) h3)
  have l2 : b * 2 ^ f < 4294967296 ^ (k + 1) := by
    rw [Nat.pow_succ]
    have h5 : b < 4294967296 ^ k * 2 ^ (u + 1) := Nat.lt_of_lt_of_le h4 (Nat.mul_le_mul_left _ s2)
    have h6 := Nat.mul_lt_mul_of_pos_right h5 (Nat.two_pow_pos f)
    rwa [Nat.mul_assoc, e2] at h6
  have hlen : (limbs (b * 2 ^ f)).length = k + 1 := by
    have a1 := length_limbs_le l2
    have a2 := lt_length_limbs (n := b * 2 ^ f) (k := k) (by have : 1 * 4294967296 ^ k ≤ 2147483648 * 4294967296 ^ k := Nat.mul_le_mul_right _ (by decide); omega)
    omega
  obtain ⟨e3, _, _⟩ := top_limb hlen
  refine ⟨hlen, ?_⟩
  rw [e3]
  exact (Nat.le_div_iff_mul_le hP).2 l1

theorem rem_back {a b f : Nat} : a * 2 ^ f % (b * 2 ^ f) / 2 ^ f = a % b := by
  rw [Nat.mul_mod_mul_right, Nat.mul_div_cancel _ (Nat.two_pow_pos f)]
theorem quo_same {a b f : Nat} : a * 2 ^ f / (b * 2 ^ f) = a / b := Nat.mul_div_mul_right _ _ (Nat.two_pow_pos f)

end Go.Proofs.Ytahogponokafcaa.Limb
namespace Go.Proofs.Ytahogponokafcaa
open Go.RowKit Limb
set_option linter.unusedVariables false

theorem lead_any (x : Nat) (w : World) (h1 : x < 4294967296) (f : Nat) (hf : f + blen x = 32) :
    Calls Try.prog 44 #[.int .u32 (x : Int)] w fun e w' => e = .returned (.int .i64 (f : Int)) ∧ w = w' := by
  have h2 : 32 - ((blen x : Nat) : Int) = (f : Int) := by omega
  have hb : blen x ≤ 32 := by omega
  have hL := len32_any (x : Int) w (by omega) (by omega)
  rw [Int.toNat_natCast] at hL
  obtain ⟨y, hy⟩ : ∃ y, y = blen x := ⟨_, rfl⟩
  rw [← hy] at h2 hb hL
  clear hf hy
  go_enter Try.func44, Try.ntmps44
  go_wp2_with fail
  refine hL.mono ?_
  rintro e w1 ⟨rfl, rfl⟩
  go_wp2
  go_ret
  exact ⟨rfl, rfl⟩

set_option maxHeartbeats 1000000 in
theorem quoRem_no {A A' : Option Addr} {n c n' c' : Nat} {xs ys : List Nat} {a b L L' : Nat} {w : World} (hx : NN w A n c xs a L) (hy : NN w A' n' c' ys b L') (h1 : L ≤ 100000) (h2 : L' ≤ 100000) (hb : b = 0) :
    Calls Try.prog 37 #[.slice A n c, .slice A' n' c'] w fun e w' => ∃ A1 c1 A2 c2, e = .returned (.tuple #[.slice A1 0 c1, .slice A2 0 c2, .bool false]) ∧ Below w.heap.size w w' := by
  subst hb
  go_enter Try.func37, Try.ntmps37
  go_wp2_with fail
  refine (trim_c hx (by omega)).mono ?_
  rintro e w1 ⟨A1, n1, c1, rfl, hx1, bn⟩
  have hy1 := hy.below bn
  have bw := bn
  clear hx hy bn
  go_wp2_with fail
  refine (trim_c hy1 (by omega)).mono ?_
  rintro e w2 ⟨A2, n2, c2, rfl, hy2, bn⟩
  have hn2 : n2 = 0 := by have := hy2.isN.len; rw [limbs_zero] at this; exact this.symm
  subst hn2
  have HW := Lib.hid (below_two bw bn)
  clear bn bw hy1 hy2 hx1
  go_wp2
  go_ret3
  exact ⟨none, 0, none, 0, rfl, HW.out⟩

set_option maxHeartbeats 2000000 in
theorem quoRem_yes {A A' : Option Addr} {n c n' c' : Nat} {xs ys : List Nat} {a b L L' : Nat} {w : World} (hx : NN w A n c xs a L) (hy : NN w A' n' c' ys b L') (h1 : L ≤ 100000) (h2 : L' ≤ 100000) (hb : b ≠ 0) :
    Calls Try.prog 37 #[.slice A n c, .slice A' n' c'] w fun e w' => ∃ A1 n1 c1 A2 n2 c2, e = .returned (.tuple #[.slice A1 n1 c1, .slice A2 n2 c2, .bool true]) ∧ NN w' A1 n1 c1 (limbs (a / b)) (a / b) L ∧ NN w' A2 n2 c2 (limbs (a % b)) (a % b) L' ∧ Below w.heap.size w w' := by
  have Hl := Lib.hid (Nat.lt_trans (Nat.mod_lt a (Nat.pos_of_ne_zero hb)) (lt_pow hy))
  have Hla := Lib.hid (Nat.lt_of_le_of_lt (Nat.div_le_self a b) (lt_pow hx))
  go_enter Try.func37, Try.ntmps37
  go_wp2_with fail
  refine (trim_c hx (by omega)).mono ?_
  rintro e w1 ⟨A1, n1, c1, rfl, hx1, bn⟩
  have hy1 := hy.below bn
  have bw := bn
  clear hx hy bn
  go_wp2_with fail
  refine (trim_c hy1 (by omega)).mono ?_
  rintro e w2 ⟨A2, n2, c2, rfl, hy2, bn⟩
  replace hx1 := hx1.below bn
  replace bw := below_two bw bn
  clear bn hy1
  have hyl := hy2.isN.len
  have hxl := hx1.isN.len
  have hn2 : 0 < n2 := by rw [limbs_pos hb] at hyl; simp at hyl; omega
  have hn2e : ((n2 : Int) == 0) = false := by simp; omega
  have hle2 := hy2.le
  have hle1 := hx1.le
  have Hyl := Lib.hid hyl
  have Hxl := Lib.hid hxl
  have Hb0 := Lib.hid hb
  clear hyl hxl hb
  by_cases hlt : a < b
  · have e1 : RowKit.Hid (a / b = 0) := Nat.div_eq_of_lt hlt
    have e2 : RowKit.Hid (a % b = a) := Nat.mod_eq_of_lt hlt
    have hc := cmpI_lt hlt
    have Hc := Lib.hid hc
    have HA := Lib.hid hx1
    have Hlt := Lib.hid hlt
    clear hlt hc
    go_wp2_with fail
    refine (cmp_c HA.out hy2 (by omega) (by omega) (-1) Hc.out).mono ?_
    rintro e w3 ⟨rfl, bn⟩
    have HR := Lib.hid (HA.out.below bn)
    have HW := Lib.hid (below_two bw bn)
    clear bn bw hy2 hx1 HA
    go_wp2
    go_ret3
    refine ⟨none, 0, 0, _, _, _, rfl, ?_, ?_, HW.out⟩
    · rw [e1.out, limbs_zero]; exact ⟨IsN.nil _ _, rfl, Nat.zero_le _, Nat.zero_le _⟩
    · rw [e2.out]; exact HR.out.relax (by have := Hl.out; rwa [e2.out] at this)
  · obtain ⟨v, hv, hv0⟩ : ∃ v, cmpI a b = v ∧ 0 ≤ v := by
      rcases Nat.lt_trichotomy a b with h | h | h
      · exact absurd h hlt
      · exact ⟨0, by rw [h]; exact cmpI_eq _, by omega⟩
      · exact ⟨1, cmpI_gt h, by omega⟩
    have Hv := Lib.hid hv
    have Hge := Lib.hid (Nat.le_of_not_lt hlt)
    clear hv hlt
    go_wp2_with fail
    refine (cmp_c hx1 hy2 (by omega) (by omega) v Hv.out).mono ?_
    rintro e w3 ⟨rfl, bn⟩
    replace hx1 := hx1.below bn
    replace hy2 := hy2.below bn
    replace bw := below_two bw bn
    clear bn Hv
    obtain ⟨b2, o2, rfl, hb2, hc2⟩ := hy2.isN.2.2 hn2
    by_cases hn1 : n2 = 1
    · subst hn1
      have el : limbs b = [b] ∧ b < 4294967296 := by
        have h := Hyl.out
        rw [limbs_pos Hb0.out] at h ⊢
        simp only [List.length_cons] at h
        have h0 : limbs (b / 4294967296) = [] := List.eq_nil_of_length_eq_zero (by omega)
        have h3 := limbs_eq_nil.1 h0
        have h4 : b < 4294967296 := by omega
        rw [h0, Nat.mod_eq_of_lt h4]
        exact ⟨rfl, h4⟩
      have k3 := hc2 0 (by omega)
      rw [el.1] at k3
      have e1 : lim [b] 0 = b := rfl
      rw [e1, Nat.add_zero] at k3
      have hb4 := el.2
      clear el e1 hc2 hn2e
      go_wp2_with fail
      refine (quoSmall_yes hx1 h1 b _ rfl hb4 Hb0.out).mono ?_
      rintro e w4 ⟨A4, n4, c4, rfl, hq, bn⟩
      have Hml := Lib.hid (Nat.mod_lt a (Nat.pos_of_ne_zero Hb0.out))
      obtain ⟨r, hr⟩ : ∃ r, r = a % b := ⟨_, rfl⟩
      have Hr := Lib.hid hr
      rw [← hr] at Hml ⊢
      have hr4 : r < 4294967296 := Nat.lt_trans Hml.out hb4
      replace bw := below_two bw bn
      clear bn hx1 hy2 hr k3
      go_wp2_with fail
      refine (of_c r _ rfl (by omega) w4).mono ?_
      rintro e w5 ⟨A5, n5, c5, rfl, ho, bn⟩
      have HQ := Lib.hid (hq.below bn)
      rw [Hr.out] at ho
      have HO := Lib.hid (ho.relax Hl.out)
      have HW := Lib.hid (below_two bw bn)
      clear ho hq bn bw
      go_wp2
      go_ret3
      exact ⟨_, _, _, _, _, _, rfl, HQ.out, HO.out, HW.out⟩
    · obtain ⟨k, rfl⟩ : ∃ k, n2 = k + 1 := ⟨n2 - 1, by omega⟩
      have hne1 : (((k + 1 : Nat) : Int) == 1) = false := by simp; omega
      have hk1 : 1 ≤ k := by omega
      have k3 := hc2 k (by omega)
      have ek : ((k + 1 : Nat) : Int) - 1 = (k : Int) := by omega
      obtain ⟨t, ht⟩ : ∃ t, t = lim (limbs b) k := ⟨_, rfl⟩
      have ht4 : t < 4294967296 := by rw [ht]; exact lim_lt (small_limbs b) k
      have hbl : blen t ≤ 32 := blen_le (k := 32) ht4
      obtain ⟨f, hf⟩ : ∃ f, f + blen t = 32 := ⟨32 - blen t, by omega⟩
      have hnorm := norm_ok (f := f) Hyl.out (by rw [← ht]; exact hf)
      have HF := Lib.hid hf
      have Hnorm := Lib.hid hnorm
      rw [← ht] at k3
      have hf32 : f ≤ 32 := by omega
      have hsa : shiftV a (f : Int) = a * 2 ^ f := shiftV_up (by omega) (by omega)
      have hsb : shiftV b (f : Int) = b * 2 ^ f := shiftV_up (by omega) (by omega)
      have h2f : 2 ^ f ≤ 4294967296 := (Nat.pow_le_pow_right (n := 2) (by decide) hf32 : 2 ^ f ≤ 2 ^ 32)
      have Hsa := Lib.hid hsa
      have Hsb := Lib.hid hsb
      have Hba : RowKit.Hid (a * 2 ^ f < 4294967296 ^ (L + 1)) := by
        show _ < _
        rw [Nat.pow_succ]
        exact Nat.lt_of_lt_of_le (Nat.mul_lt_mul_of_pos_right (lt_pow hx1) (Nat.two_pow_pos f)) (Nat.mul_le_mul_left _ h2f)
      have Hbb : RowKit.Hid (b * 2 ^ f < 4294967296 ^ (L' + 1)) := by
        show _ < _
        rw [Nat.pow_succ]
        exact Nat.lt_of_lt_of_le (Nat.mul_lt_mul_of_pos_right (lt_pow hy2) (Nat.two_pow_pos f)) (Nat.mul_le_mul_left _ h2f)
      have Hab : RowKit.Hid (b * 2 ^ f ≤ a * 2 ^ f) := Nat.mul_le_mul_right _ Hge.out
      clear ht hbl hf hnorm hsa hsb h2f hc2 hn1 hn2e
      go_wp2_with fail
      refine (lead_any t w3 ht4 f HF.out).mono ?_
      rintro e w4 ⟨rfl, rfl⟩
      go_wp2_with fail
      refine (mulShift_c hx1 (f : Int) (by omega) (by omega) (a * 2 ^ f) (L + 1) Hsa.out Hba.out (by omega)).mono ?_
      rintro e w4 ⟨A4, n4, c4, rfl, ha, bn⟩
      replace hy2 := hy2.below bn
      replace bw := below_two bw bn
      clear bn hx1
      go_wp2_with fail
      refine (mulShift_c hy2 (f : Int) (by omega) (by omega) (b * 2 ^ f) (L' + 1) Hsb.out Hbb.out (by omega)).mono ?_
      rintro e w5 ⟨A5, n5, c5, rfl, hbn, bn⟩
      replace ha := ha.below bn
      replace bw := below_two bw bn
      clear bn hy2
      have hn5 : n5 = k + 1 := by have := hbn.isN.len; rw [Hnorm.out.1] at this; exact this.symm
      subst hn5
      have hle4 := ha.le
      have hcap4 := ha.cap
      have h54 : k + 1 ≤ n4 := by
        have := length_limbs_mono Hab.out
        rwa [Hnorm.out.1, ha.isN.len] at this
      have hi4 := ha.isN
      have hi5 := hbn.isN
      have HD := Lib.hid (divide_any A4 n4 c4 (limbs (a * 2 ^ f)) A5 (k + 1) c5 (limbs (b * 2 ^ f)) w5 hi4 hi5 (by omega) hcap4 (by omega) h54 (by rw [Nat.add_sub_cancel]; exact Hnorm.out.2))
      clear ha hbn hi4 hi5
      go_wp2_with fail
      refine HD.out.mono ?_
      rintro e w6 ⟨A6, n6, c6, A7, c7, zs, rfl, hq, ⟨hr, hvr⟩, bn⟩
      rw [val_limbs, val_limbs] at hvr
      rw [val_limbs, val_limbs, quo_same] at hq
      have hq2 := NN.own hq Hla.out
      have hr2 : NN w6 A7 (k + 1) c7 zs (a * 2 ^ f % (b * 2 ^ f)) (L' + 1) := ⟨hr.isN, hvr, hr.caps.1, by omega⟩
      replace bw := below_two bw bn
      have Hsr : RowKit.Hid (shiftV (a * 2 ^ f % (b * 2 ^ f)) (-(f : Int)) = a % b) := by
        show _ = _
        rw [← rem_back (a := a) (b := b) (f := f)]
        by_cases h0 : f = 0
        · rw [h0]; exact (shiftV_up (n := -((0 : Nat) : Int)) (k := 0) (by omega) (by omega)).trans (by simp)
        · exact shiftV_down (n := -(f : Int)) (k := f) (by omega) (by omega) (by omega)
      clear bn hq hr hvr HD
      go_wp2_with fail
      refine (mulShift_c hr2 (-(f : Int)) (by omega) (by omega) (a % b) L' Hsr.out Hl.out (by omega)).mono ?_
      rintro e w7 ⟨A8, n8, c8, rfl, hr3, bn⟩
      have HQ := Lib.hid (hq2.below bn)
      have HR := Lib.hid hr3
      have HW := Lib.hid (below_two bw bn)
      clear hq2 hr3 hr2 bn bw
      go_wp2
      go_ret3
      exact ⟨_, _, _, _, _, _, rfl, HQ.out, HR.out, HW.out⟩

end Go.Proofs.Ytahogponokafcaa
