/- Part 4 of the texts that the statements of this seat lean on: mathematics, and what functions answer, as contracts over memory; each part says its own conditions. -/
import Derived.Test.YtgdchljbjnhchaaDoorM3
import Derived.Deep.RegionHeld3
import Derived.Lib.LaidTab
import Derived.Stop.LaidErr
/- The statements' check that package whole is there (wakes) answers true, whatever the memory is, where the table of powers of ten reads as it is laid. Condition: the table. -/
namespace Go.Proofs.YtgdchljbjnhchaaDoor
open Go.RowKit Limb
set_option linter.unusedVariables false

theorem ww0a : zOk (bytesOf ⟨#[45, 49, 50]⟩) = true := by decide +kernel
theorem ww0b : zV (bytesOf ⟨#[45, 49, 50]⟩) = -12 := by decide +kernel
theorem ww1a : zOk (bytesOf ⟨#[45, 48]⟩) = false := by decide +kernel
theorem ww1b : zV (bytesOf ⟨#[45, 48]⟩) = 0 := by decide +kernel
theorem wt0 : strOf (zT (-9223372036854775808)) = ⟨#[45, 57, 50, 50, 51, 51, 55, 50, 48, 51, 54, 56, 53, 52, 55, 55, 53, 56, 48, 56]⟩ := by kernel_rfl
theorem wt1 : strOf (zT 12) = ⟨#[49, 50]⟩ := by kernel_rfl
theorem wl12 : [12] = limbs 12 := by
  have h := eq_limbs (xs := [12]) (by intro x hx; simp at hx; omega) (.inr (by decide))
  have e : Limb.val [12] = 12 := by decide +kernel
  rw [e] at h
  exact h
theorem sg_m12 : sg (-12) = true := rfl
theorem sg_0 : sg 0 = false := rfl
theorem zz_nil (w : World) (L : Nat) : ZZ w false none 0 0 [] 0 L := ⟨⟨IsN.nil _ _, rfl, Nat.le_refl _, Nat.zero_le _⟩, rfl⟩

set_option maxHeartbeats 4000000 in
set_option maxRecDepth 100000 in
theorem wakes_any (w : World) (T : Tab w) : Calls Tryd.prog 7 #[] w fun e w' => e = .returned (.bool true) ∧ Below w.heap.size w w' := by
  have bw := bel_refl w
  have HTab := Lib.hid T
  clear T
  go_enter Tryd.func7, Tryd.ntmps7
  go_wp2_with fail
  refine (wOf_c (-9223372036854775808) (by decide) (by decide) w).mono ?_
  rintro e w1 ⟨A_a, n_a, c_a, rfl, h_a, bn⟩
  replace HTab := Lib.hid (HTab.out.below bn)
  replace bw := below_two bw bn
  clear bn
  go_wp2_with fail
  have h_ra := row2_new w1 25 (.bool (sg (-9223372036854775808))) (.slice A_a n_a c_a)
  have bn := below_new w1 (.cells #[Value.bool (sg (-9223372036854775808)), Value.slice A_a n_a c_a] 25)
  replace h_a := h_a.below bn
  replace HTab := Lib.hid (HTab.out.below bn)
  replace bw := below_two bw bn
  clear bn
  generalize w1.alloc (.cells #[Value.bool (sg (-9223372036854775808)), Value.slice A_a n_a c_a] 25) = w2 at *
  obtain ⟨q_a, eg⟩ : ∃ g, g = w1.heap.size := ⟨_, rfl⟩
  rw [← eg] at h_ra ⊢
  clear eg
  refine (wParse_c ⟨#[45, 49, 50]⟩ w2 HTab.out true ww0a _ ww0b).mono ?_
  rintro e w3 ⟨A_p, n_p, c_p, rfl, h_p, bn⟩
  replace h_a := h_a.below bn
  replace h_ra := h_ra.below bn
  replace HTab := Lib.hid (HTab.out.below bn)
  replace bw := below_two bw bn
  clear bn
  go_wp2_with fail
  have h_rp := row2_new w3 25 (.bool (sg (-12))) (.slice A_p n_p c_p)
  have bn := below_new w3 (.cells #[Value.bool (sg (-12)), Value.slice A_p n_p c_p] 25)
  replace h_a := h_a.below bn
  replace h_ra := h_ra.below bn
  replace h_p := h_p.below bn
  replace HTab := Lib.hid (HTab.out.below bn)
  replace bw := below_two bw bn
  clear bn
  generalize w3.alloc (.cells #[Value.bool (sg (-12)), Value.slice A_p n_p c_p] 25) = w4 at *
  obtain ⟨q_p, eg⟩ : ∃ g, g = w3.heap.size := ⟨_, rfl⟩
  rw [← eg] at h_rp ⊢
  clear eg
  refine (wParse_c ⟨#[45, 48]⟩ w4 HTab.out false ww1a _ ww1b).mono ?_
  rintro e w5 ⟨A_n, n_n, c_n, rfl, h_n, bn⟩
  replace h_a := h_a.below bn
  replace h_ra := h_ra.below bn
  replace h_p := h_p.below bn
  replace h_rp := h_rp.below bn
  replace HTab := Lib.hid (HTab.out.below bn)
  replace bw := below_two bw bn
  clear bn
  go_wp2_with fail
  clear h_n
  have l0 := lit_c (w5.alloc (.cells #[Value.bool (sg 0), Value.slice A_n n_n c_n] 25)) [0] (by intro x hx; simp at hx; omega) 1 rfl
  have bn := below_two (below_new w5 (.cells #[Value.bool (sg 0), Value.slice A_n n_n c_n] 25)) (below_new _ (.cells #[Value.int IntKind.u32 0] 37))
  replace h_a := h_a.below bn
  replace h_ra := h_ra.below bn
  replace h_p := h_p.below bn
  replace h_rp := h_rp.below bn
  replace HTab := Lib.hid (HTab.out.below bn)
  replace bw := below_two bw bn
  clear bn
  rw [World.size_alloc] at l0
  have h_l : ZZ ((w5.alloc (.cells #[Value.bool (sg 0), Value.slice A_n n_n c_n] 25)).alloc (.cells #[Value.int IntKind.u32 0] 37)) true (some ⟨w5.heap.size + 1, 0, none⟩) 1 1 [0] 0 1 := ⟨l0, rfl⟩
  clear l0
  generalize (w5.alloc (.cells #[Value.bool (sg 0), Value.slice A_n n_n c_n] 25)).alloc (.cells #[Value.int IntKind.u32 0] 37) = w6 at *
  refine (wTrim_c h_l (by decide)).mono ?_
  rintro e w7 ⟨A_z, n_z, c_z, rfl, h_z, bn⟩
  replace h_a := h_a.below bn
  replace h_ra := h_ra.below bn
  replace h_p := h_p.below bn
  replace h_rp := h_rp.below bn
  replace HTab := Lib.hid (HTab.out.below bn)
  replace bw := below_two bw bn
  clear bn
  clear h_l
  rw [sg_0] at h_z ⊢
  obtain rfl : n_z = 0 := by have h := h_z.nn.isN.len; rw [← h]; rfl
  go_wp2
  have h_rz := row2_new w7 25 (.bool false) (.slice A_z 0 c_z)
  have bn := below_new w7 (.cells #[Value.bool false, Value.slice A_z 0 c_z] 25)
  replace h_a := h_a.below bn
  replace h_ra := h_ra.below bn
  replace h_p := h_p.below bn
  replace h_rp := h_rp.below bn
  replace h_z := h_z.below bn
  replace HTab := Lib.hid (HTab.out.below bn)
  replace bw := below_two bw bn
  clear bn
  generalize w7.alloc (.cells #[Value.bool false, Value.slice A_z 0 c_z] 25) = w8 at *
  obtain ⟨q_z, eg⟩ : ∃ g, g = w7.heap.size := ⟨_, rfl⟩
  rw [← eg] at h_rz ⊢
  clear eg
  have KL : RowKit.Hid (∀ wx : World, ZZ (wx.alloc (.cells #[Value.int IntKind.u32 12] 37)) true (some ⟨wx.heap.size, 0, none⟩) 1 1 [12] (-12) 1) := fun wx => ⟨lit_c wx [12] (by intro x hx; simp at hx; omega) 1 rfl, rfl⟩
  generalize w8 = wS at *
  have KA : RowKit.Hid (∀ wx, Below wS.heap.size wS wx → (wx.cell? ⟨q_a, 0, none⟩ = some (.bool (sg (-9223372036854775808))) ∧ wx.cell? ⟨q_a, 1, none⟩ = some (.slice A_a n_a c_a) ∧ wx.cell? ⟨q_p, 0, none⟩ = some (.bool (sg (-12))) ∧ wx.cell? ⟨q_p, 1, none⟩ = some (.slice A_p n_p c_p) ∧ wx.cell? ⟨q_z, 0, none⟩ = some (.bool false) ∧ wx.cell? ⟨q_z, 1, none⟩ = some (.slice A_z 0 c_z) ∧ Below wS.heap.size wS wx)) := fun wx hb => ⟨(h_ra.below hb).c0, (h_ra.below hb).c1, (h_rp.below hb).c0, (h_rp.below hb).c1, (h_rz.below hb).c0, (h_rz.below hb).c1, hb⟩
  have KS : RowKit.Hid (∀ wx w2, (wx.cell? ⟨q_a, 0, none⟩ = some (.bool (sg (-9223372036854775808))) ∧ wx.cell? ⟨q_a, 1, none⟩ = some (.slice A_a n_a c_a) ∧ wx.cell? ⟨q_p, 0, none⟩ = some (.bool (sg (-12))) ∧ wx.cell? ⟨q_p, 1, none⟩ = some (.slice A_p n_p c_p) ∧ wx.cell? ⟨q_z, 0, none⟩ = some (.bool false) ∧ wx.cell? ⟨q_z, 1, none⟩ = some (.slice A_z 0 c_z) ∧ Below wS.heap.size wS wx) → Below wx.heap.size wx w2 → (w2.cell? ⟨q_a, 0, none⟩ = some (.bool (sg (-9223372036854775808))) ∧ w2.cell? ⟨q_a, 1, none⟩ = some (.slice A_a n_a c_a) ∧ w2.cell? ⟨q_p, 0, none⟩ = some (.bool (sg (-12))) ∧ w2.cell? ⟨q_p, 1, none⟩ = some (.slice A_p n_p c_p) ∧ w2.cell? ⟨q_z, 0, none⟩ = some (.bool false) ∧ w2.cell? ⟨q_z, 1, none⟩ = some (.slice A_z 0 c_z) ∧ Below wS.heap.size wS w2)) := fun wx w2 hS bn => KA.out _ (below_two hS.2.2.2.2.2.2 bn)
  have KU : RowKit.Hid (∀ (wx : World) (q : Nat) (u v : Value), (wx.cell? ⟨q_a, 0, none⟩ = some (.bool (sg (-9223372036854775808))) ∧ wx.cell? ⟨q_a, 1, none⟩ = some (.slice A_a n_a c_a) ∧ wx.cell? ⟨q_p, 0, none⟩ = some (.bool (sg (-12))) ∧ wx.cell? ⟨q_p, 1, none⟩ = some (.slice A_p n_p c_p) ∧ wx.cell? ⟨q_z, 0, none⟩ = some (.bool false) ∧ wx.cell? ⟨q_z, 1, none⟩ = some (.slice A_z 0 c_z) ∧ Below wS.heap.size wS wx) → wS.heap.size ≤ q → (((wx.setCell ⟨q, 0, none⟩ u).setCell ⟨q, 1, none⟩ v).cell? ⟨q_a, 0, none⟩ = some (.bool (sg (-9223372036854775808))) ∧ ((wx.setCell ⟨q, 0, none⟩ u).setCell ⟨q, 1, none⟩ v).cell? ⟨q_a, 1, none⟩ = some (.slice A_a n_a c_a) ∧ ((wx.setCell ⟨q, 0, none⟩ u).setCell ⟨q, 1, none⟩ v).cell? ⟨q_p, 0, none⟩ = some (.bool (sg (-12))) ∧ ((wx.setCell ⟨q, 0, none⟩ u).setCell ⟨q, 1, none⟩ v).cell? ⟨q_p, 1, none⟩ = some (.slice A_p n_p c_p) ∧ ((wx.setCell ⟨q, 0, none⟩ u).setCell ⟨q, 1, none⟩ v).cell? ⟨q_z, 0, none⟩ = some (.bool false) ∧ ((wx.setCell ⟨q, 0, none⟩ u).setCell ⟨q, 1, none⟩ v).cell? ⟨q_z, 1, none⟩ = some (.slice A_z 0 c_z) ∧ Below wS.heap.size wS ((wx.setCell ⟨q, 0, none⟩ u).setCell ⟨q, 1, none⟩ v))) := fun wx q u v hS hq => KA.out _ ((hS.2.2.2.2.2.2.setCell (p := ⟨q, 0, none⟩) hq u).setCell (p := ⟨q, 1, none⟩) hq v)
  have K_a : RowKit.Hid (∀ wx, (wx.cell? ⟨q_a, 0, none⟩ = some (.bool (sg (-9223372036854775808))) ∧ wx.cell? ⟨q_a, 1, none⟩ = some (.slice A_a n_a c_a) ∧ wx.cell? ⟨q_p, 0, none⟩ = some (.bool (sg (-12))) ∧ wx.cell? ⟨q_p, 1, none⟩ = some (.slice A_p n_p c_p) ∧ wx.cell? ⟨q_z, 0, none⟩ = some (.bool false) ∧ wx.cell? ⟨q_z, 1, none⟩ = some (.slice A_z 0 c_z) ∧ Below wS.heap.size wS wx) → ZZ wx (sg (-9223372036854775808)) A_a n_a c_a (limbs ((-9223372036854775808) : Int).natAbs) (-9223372036854775808) 2) := fun wx hS => h_a.below hS.2.2.2.2.2.2
  have K_p : RowKit.Hid (∀ wx, (wx.cell? ⟨q_a, 0, none⟩ = some (.bool (sg (-9223372036854775808))) ∧ wx.cell? ⟨q_a, 1, none⟩ = some (.slice A_a n_a c_a) ∧ wx.cell? ⟨q_p, 0, none⟩ = some (.bool (sg (-12))) ∧ wx.cell? ⟨q_p, 1, none⟩ = some (.slice A_p n_p c_p) ∧ wx.cell? ⟨q_z, 0, none⟩ = some (.bool false) ∧ wx.cell? ⟨q_z, 1, none⟩ = some (.slice A_z 0 c_z) ∧ Below wS.heap.size wS wx) → ZZ wx (sg (-12)) A_p n_p c_p (limbs (-12 : Int).natAbs) (-12) 223) := fun wx hS => h_p.below hS.2.2.2.2.2.2
  have K_z : RowKit.Hid (∀ wx, (wx.cell? ⟨q_a, 0, none⟩ = some (.bool (sg (-9223372036854775808))) ∧ wx.cell? ⟨q_a, 1, none⟩ = some (.slice A_a n_a c_a) ∧ wx.cell? ⟨q_p, 0, none⟩ = some (.bool (sg (-12))) ∧ wx.cell? ⟨q_p, 1, none⟩ = some (.slice A_p n_p c_p) ∧ wx.cell? ⟨q_z, 0, none⟩ = some (.bool false) ∧ wx.cell? ⟨q_z, 1, none⟩ = some (.slice A_z 0 c_z) ∧ Below wS.heap.size wS wx) → ZZ wx false A_z 0 c_z (limbs (0 : Int).natAbs) 0 1) := fun wx hS => h_z.below hS.2.2.2.2.2.2
  have KR_a : RowKit.Hid (∀ wx, (wx.cell? ⟨q_a, 0, none⟩ = some (.bool (sg (-9223372036854775808))) ∧ wx.cell? ⟨q_a, 1, none⟩ = some (.slice A_a n_a c_a) ∧ wx.cell? ⟨q_p, 0, none⟩ = some (.bool (sg (-12))) ∧ wx.cell? ⟨q_p, 1, none⟩ = some (.slice A_p n_p c_p) ∧ wx.cell? ⟨q_z, 0, none⟩ = some (.bool false) ∧ wx.cell? ⟨q_z, 1, none⟩ = some (.slice A_z 0 c_z) ∧ Below wS.heap.size wS wx) → Row2 wx q_a 25 (.bool (sg (-9223372036854775808))) (.slice A_a n_a c_a)) := fun wx hS => h_ra.below hS.2.2.2.2.2.2
  have KR_p : RowKit.Hid (∀ wx, (wx.cell? ⟨q_a, 0, none⟩ = some (.bool (sg (-9223372036854775808))) ∧ wx.cell? ⟨q_a, 1, none⟩ = some (.slice A_a n_a c_a) ∧ wx.cell? ⟨q_p, 0, none⟩ = some (.bool (sg (-12))) ∧ wx.cell? ⟨q_p, 1, none⟩ = some (.slice A_p n_p c_p) ∧ wx.cell? ⟨q_z, 0, none⟩ = some (.bool false) ∧ wx.cell? ⟨q_z, 1, none⟩ = some (.slice A_z 0 c_z) ∧ Below wS.heap.size wS wx) → Row2 wx q_p 25 (.bool (sg (-12))) (.slice A_p n_p c_p)) := fun wx hS => h_rp.below hS.2.2.2.2.2.2
  have KR_z : RowKit.Hid (∀ wx, (wx.cell? ⟨q_a, 0, none⟩ = some (.bool (sg (-9223372036854775808))) ∧ wx.cell? ⟨q_a, 1, none⟩ = some (.slice A_a n_a c_a) ∧ wx.cell? ⟨q_p, 0, none⟩ = some (.bool (sg (-12))) ∧ wx.cell? ⟨q_p, 1, none⟩ = some (.slice A_p n_p c_p) ∧ wx.cell? ⟨q_z, 0, none⟩ = some (.bool false) ∧ wx.cell? ⟨q_z, 1, none⟩ = some (.slice A_z 0 c_z) ∧ Below wS.heap.size wS wx) → Row2 wx q_z 25 (.bool false) (.slice A_z 0 c_z)) := fun wx hS => h_rz.below hS.2.2.2.2.2.2
  have KT : RowKit.Hid (∀ wx, (wx.cell? ⟨q_a, 0, none⟩ = some (.bool (sg (-9223372036854775808))) ∧ wx.cell? ⟨q_a, 1, none⟩ = some (.slice A_a n_a c_a) ∧ wx.cell? ⟨q_p, 0, none⟩ = some (.bool (sg (-12))) ∧ wx.cell? ⟨q_p, 1, none⟩ = some (.slice A_p n_p c_p) ∧ wx.cell? ⟨q_z, 0, none⟩ = some (.bool false) ∧ wx.cell? ⟨q_z, 1, none⟩ = some (.slice A_z 0 c_z) ∧ Below wS.heap.size wS wx) → Tab wx) := fun wx hS => HTab.out.below hS.2.2.2.2.2.2
  have HF := Lib.hid bw
  have KF : RowKit.Hid (∀ wx, (wx.cell? ⟨q_a, 0, none⟩ = some (.bool (sg (-9223372036854775808))) ∧ wx.cell? ⟨q_a, 1, none⟩ = some (.slice A_a n_a c_a) ∧ wx.cell? ⟨q_p, 0, none⟩ = some (.bool (sg (-12))) ∧ wx.cell? ⟨q_p, 1, none⟩ = some (.slice A_p n_p c_p) ∧ wx.cell? ⟨q_z, 0, none⟩ = some (.bool false) ∧ wx.cell? ⟨q_z, 1, none⟩ = some (.slice A_z 0 c_z) ∧ Below wS.heap.size wS wx) → Below w.heap.size w wx) := fun wx hS => below_two HF.out hS.2.2.2.2.2.2
  obtain ⟨d_a0, d_a1, d_p0, d_p1, d_z0, d_z1, _⟩ := KA.out _ (Below.refl _ _)
  clear h_a h_ra h_p h_rp h_z h_rz HTab bw
  clear HF
  try dsimp only [List.append]
  go_region_held3 (fun wx => wx.cell? ⟨q_a, 0, none⟩ = some (.bool (sg (-9223372036854775808))) ∧ wx.cell? ⟨q_a, 1, none⟩ = some (.slice A_a n_a c_a) ∧ wx.cell? ⟨q_p, 0, none⟩ = some (.bool (sg (-12))) ∧ wx.cell? ⟨q_p, 1, none⟩ = some (.slice A_p n_p c_p) ∧ wx.cell? ⟨q_z, 0, none⟩ = some (.bool false) ∧ wx.cell? ⟨q_z, 1, none⟩ = some (.slice A_z 0 c_z) ∧ Below wS.heap.size wS wx) (first | assumption | exact KA.out _ ((Below.refl _ _).drew) | (with_reducible refine KS.out _ _ ?_ (below_new _ _); assumption)) (first
    | (go_at_call 16; (have mk := bn_e; clear mk); (with_reducible refine (wText_c (KT.out _ (by assumption)) h_e (by decide) _ wt1).mono ?_); rintro e w2 ⟨rfl, bn_te⟩; have hS2 := KS.out _ _ (by assumption) bn_te)
    | (go_at_call 12; (have mk := bn_ky; clear mk); (with_reducible refine (wNeg_c (K_p.out _ (by assumption)) (by decide) 12 (by decide)).mono ?_); rintro e w2 ⟨A_e, n_e, c_e, rfl, h_e, bn_e⟩; have hS2 := KS.out _ _ (by assumption) bn_e)
    | (go_at_call 10; (have mk := bn_v; clear mk); (with_reducible refine (keepInt_c (h_y.below bn_v) h_v (by decide) (by decide) true (zsame rfl)).mono ?_); rintro e w2 ⟨rfl, bn_ky⟩; have hS2 := KS.out _ _ (by assumption) bn_ky)
    | (go_at_call 11; (have mk := bn_y; clear mk); (with_reducible refine (wOf_c (144) (by decide) (by decide) _).mono ?_); rintro e w2 ⟨A_v, n_v, c_v, rfl, h_v, bn_v⟩; have hS2 := KS.out _ _ (by assumption) bn_v)
    | (go_at_call 9; (have mk := bn_kx; clear mk); (with_reducible refine (wMul_c (K_p.out _ (by assumption)) (K_p.out _ (by assumption)) 446 (by decide) (by decide) (by decide) 144 (by decide)).mono ?_); rintro e w2 ⟨A_y, n_y, c_y, rfl, h_y, bn_y⟩; have hS2 := KS.out _ _ (by assumption) bn_y)
    | (go_at_call 10; (have mk := bn_x; clear mk); (with_reducible refine (keepInt_c h_x (K_z.out _ (by assumption)) (by decide) (by decide) true (by decide +kernel)).mono ?_); rintro e w2 ⟨rfl, bn_kx⟩; have hS2 := KS.out _ _ (by assumption) bn_kx)
    | (go_at_call 8; (have mk := bn_m; clear mk); (with_reducible refine (wAdd_c (K_p.out _ (by assumption)) h_m 224 (by decide) (by decide) (by decide) 0 (by decide)).mono ?_); rintro e w2 ⟨A_x, n_x, c_x, rfl, h_x, bn_x⟩; have hS2 := KS.out _ _ (by assumption) bn_x)
    | (go_at_call 11; (have mk := bn_c; clear mk); (with_reducible refine (wOf_c (12) (by decide) (by decide) _).mono ?_); rintro e w2 ⟨A_m, n_m, c_m, rfl, h_m, bn_m⟩; have hS2 := KS.out _ _ (by assumption) bn_m)
    | (go_at_call 14; (have mk := bn_o; clear mk); (with_reducible refine (wCmp_c (K_p.out _ (by assumption)) h_o (by decide) (by decide) 1 (by decide)).mono ?_); rintro e w2 ⟨rfl, bn_c⟩; have hS2 := KS.out _ _ (by assumption) bn_c)
    | (go_at_call 11; (have mk := bn_kp; clear mk); (with_reducible refine (wOf_c (-13) (by decide) (by decide) _).mono ?_); rintro e w2 ⟨A_o, n_o, c_o, rfl, h_o, bn_o⟩; have hS2 := KS.out _ _ (by assumption) bn_o)
    | (go_at_call 10; (have mk := bn_t; clear mk); (with_reducible refine (keepInt_c (K_p.out _ (by assumption)) (KL.out _) (by decide) (by decide) true (by decide +kernel)).mono ?_); rintro e w2 ⟨rfl, bn_kp⟩; have hS2 := KS.out _ _ (by assumption) bn_kp)
    | (go_at_call 16; (with_reducible refine (wText_c (KT.out _ (by assumption)) (K_a.out _ (by assumption)) (by decide) _ wt0).mono ?_); rintro e w2 ⟨rfl, bn_t⟩; have hS2 := KS.out _ _ (by assumption) bn_t))
  all_goals (go_wp2; go_ret; exact ⟨rfl, KF.out _ (by assumption)⟩)

end Go.Proofs.YtgdchljbjnhchaaDoor

/- What a row's listed variables give: the table of powers of ten and strconv's sentinel as the contracts ask them. Condition: the variables read as listed. -/
namespace Go.Proofs.YtgdchljbjnhchaaDoor
open Go.RowKit Go.ChangeShapes
set_option linter.unusedVariables false

theorem laidMet_drop {P : Program} {w : World} : ∀ (k : Nat) {l : List (String × DataW Unit)}, laidMet P l w → laidMet P (l.drop k) w
  | 0, _, h => h
  | _ + 1, [], h => h
  | k + 1, _ :: _, h => laidMet_drop k h.tail

/-- The powers of ten that a limb holds. -/
def tens : List Int := [1, 10, 100, 1000, 10000, 100000, 1000000, 10000000, 100000000, 1000000000]
theorem tens_at : ∀ i, i < 10 → tens.getD i 0 = ((10 ^ i : Nat) : Int) := by decide

theorem powers_tab {W : World} {name : String} {r : List (String × DataW Unit)} (h : laidMet Tryd.prog ((name, Lib.tabData .u32 tens) :: r) W) (hg : Tryd.prog.globalNamed name = some 0) :
    ∀ i, i < 10 → W.cell? ⟨0, i, none⟩ = some (.int .u32 ((10 ^ i : Nat) : Int)) := fun i hi => by
  have hT := Lib.tabIs_of_head hg (t := 64) (by kernel_rfl) Tryd.underlying64 Tryd.underlying37 (by kernel_rfl) (by kernel_rfl) h
  rw [hT.cell hg i hi, tens_at i hi]

theorem err_tab {W : World} {name nm : String} {d : DataW Unit} {r : List (String × DataW Unit)} (h : laidMet Tryd.prog ((name, .iface nm d) :: r) W) (hg : Tryd.prog.globalNamed name = some 1) :
    ∃ te pe, W.cell? ⟨1, 0, none⟩ = some (.iface te pe) := by
  obtain ⟨ps, ⟨g0, t0, cs0, f0, p0, q0, hg0, ht0, hv0, hd0, _, _⟩, _, _⟩ := h
  obtain rfl := Option.some.inj (hg.symm.trans hg0)
  have ht : (Tryd.prog.globals[1]?).map (·.type) = some 60 := by kernel_rfl
  obtain rfl := Option.some.inj (ht.symm.trans ht0)
  obtain ⟨_, u, v, hcs, _⟩ := iface_of_trod Tryd.underlying60 hd0
  have h2 := World.var?_cell hg0 hv0 0
  rw [← Array.getElem?_toList, hcs] at h2
  exact ⟨u, v, by simpa using h2⟩

end Go.Proofs.YtgdchljbjnhchaaDoor
