/- The statement NatTells where the first number is as great as the second, both at most 300 limbs long. -/
import Derived.Test.YthcacnlajfidoaaTellsN0
import Derived.Deep.RegionHeld3
namespace Go.Proofs.Ythcacnlajfidoaa.lawNatTells
open Go.ChangeShapes Go.WideShapes Go.ChangeAt Go.RowKit Limb
set_option linter.unusedVariables false

set_option maxRecDepth 1000000 in
set_option maxHeartbeats 4000000 in
theorem case_eq (A_a : Option Addr) (n_a c_a : Nat) (xs_a : List Nat) (A_b : Option Addr) (n_b c_b : Nat) (xs_b : List Nat) (v_x u_x : Int) (w : World) (i_a : IsN w A_a n_a xs_a) (hc_a : n_a ≤ c_a) (hm_a : c_a ≤ maxLen) (i_b : IsN w A_b n_b xs_b) (hc_b : n_b ≤ c_b) (hm_b : c_b ≤ maxLen) (f_x : (Lit.int .u64 v_x).wf = true) (g_x : (Lit.int .u64 u_x).wf = true) (l_a : n_a ≤ 300) (l_b : n_b ≤ 300) (HV : RowKit.Hid (cmpI (Limb.val xs_a) (Limb.val xs_b) = 0)) (HO : RowKit.Hid ((Limb.val xs_a) = (Limb.val xs_b))) :
    Calls Try.prog 3 #[.slice A_a n_a c_a, .slice A_b n_b c_b, .agg #[.int .u64 v_x, .int .u64 u_x]] w fun e w' => e = .returned (.bool true) ∧ Below w.heap.size w w' := by
  have hw0 := wf_u64 f_x
  have hw1 := wf_u64 g_x
  obtain ⟨p, rfl⟩ := Int.eq_ofNat_of_zero_le hw0.1
  obtain ⟨q, rfl⟩ := Int.eq_ofNat_of_zero_le hw1.1
  have Hp : RowKit.Hid (p < 18446744073709551616) := by show _ < _; omega
  clear hw0 hw1 f_x g_x
  have Hc := Lib.hid (cell_box w (p : Int) (q : Int))
  have B01 := Lib.hid (below_new w (.cells #[Value.int .u64 (p : Int), Value.int .u64 (q : Int)] 25))
  have hsz : RowKit.Hid (w.heap.size < (w.alloc (.cells #[Value.int .u64 (p : Int), Value.int .u64 (q : Int)] 25)).heap.size) := by show _ < _; simp
  have q0 : 0 ≤ (q : Int) % 20000 := by omega
  have q1 : (q : Int) % 20000 < 20000 := by omega
  go_enter Try.func3, Try.ntmps3
  go_wp2_with fail
  generalize w.alloc (.cells #[Value.int .u64 (p : Int), Value.int .u64 (q : Int)] 25) = w1 at *
  have b01 := B01.out
  have bw := bel_refl w1
  have h_a : NN w1 A_a n_a c_a xs_a (Limb.val xs_a) 300 := (NN.mk i_a rfl hc_a (by omega)).below b01
  have h_b : NN w1 A_b n_b c_b xs_b (Limb.val xs_b) 300 := (NN.mk i_b rfl hc_b (by omega)).below b01
  go_wp2_with fail
  refine (long_c A_a n_a c_a w1 hc_a hm_a false (long_no (by omega))).mono ?_
  rintro e w1x ⟨rfl, rfl⟩
  go_wp2_with fail
  refine (long_c A_b n_b c_b w1 hc_b hm_b false (long_no (by omega))).mono ?_
  rintro e w1x ⟨rfl, rfl⟩
  go_wp2_with fail
  refine (own_any A_a n_a c_a xs_a _ 300 w1 h_a (by decide)).mono ?_
  rintro e w2 ⟨A_p, n_p, c_p, rfl, h_p, bn⟩
  replace h_a := h_a.below bn
  replace h_b := h_b.below bn
  replace bw := below_two bw bn
  clear bn
  go_wp2_with fail
  refine (own_any A_b n_b c_b xs_b _ 300 w2 h_b (by decide)).mono ?_
  rintro e w3 ⟨A_q, n_q, c_q, rfl, h_q, bn⟩
  replace h_a := h_a.below bn
  replace h_b := h_b.below bn
  replace h_p := h_p.below bn
  replace bw := below_two bw bn
  clear bn
  go_wp2_with fail
  refine (sub_yes h_p h_q (by decide) (by decide) (Nat.le_of_eq HO.out.symm)).mono ?_
  rintro e w4 ⟨A_s, n_s, c_s, rfl, h_s, bn⟩
  replace h_a := h_a.below bn
  replace h_b := h_b.below bn
  replace h_p := h_p.below bn
  replace h_q := h_q.below bn
  replace bw := below_two bw bn
  clear bn
  go_wp2_with fail
  refine (refCmp_c h_a h_b (by decide) (by decide) (0) HV.out).mono ?_
  rintro e w4x ⟨rfl, rfl⟩
  have bn := below_new w4 (.cells #[] 39)
  replace h_a := h_a.below bn
  replace h_b := h_b.below bn
  replace h_p := h_p.below bn
  replace h_q := h_q.below bn
  replace h_s := h_s.below bn
  replace bw := below_two bw bn
  clear bn
  go_wp2_with fail
  refine (refSub_c h_a h_b (by decide) (by decide) (Nat.le_of_eq HO.out.symm)).mono ?_
  rintro e w5 ⟨A_want, n_want, c_want, rfl, h_want, bn⟩
  replace h_a := h_a.below bn
  replace h_b := h_b.below bn
  replace h_p := h_p.below bn
  replace h_q := h_q.below bn
  replace h_s := h_s.below bn
  replace bw := below_two bw bn
  clear bn
  have c1 := (bw.cell (p := ⟨w.heap.size, 1, none⟩) hsz.out).trans Hc.out.2
  go_wp2_with fail
  clear c1
  have K_cmp : RowKit.Hid (∀ wx, (wx.cell? ⟨w.heap.size, 0, none⟩ = some (.int .u64 (p : Int)) ∧ Below w5.heap.size w5 wx) → Calls Try.prog 14 #[.slice A_p n_p c_p, .slice A_q n_q c_q] wx fun e w2 => e = .returned (.int .i64 (0)) ∧ Below wx.heap.size wx w2) := fun wx hS => cmp_c (h_p.below hS.2) (h_q.below hS.2) (by decide) (by decide) (0) HV.out
  have K_add : RowKit.Hid (∀ wx, (wx.cell? ⟨w.heap.size, 0, none⟩ = some (.int .u64 (p : Int)) ∧ Below w5.heap.size w5 wx) → Calls Try.prog 16 #[.slice A_p n_p c_p, .slice A_q n_q c_q] wx fun e w2 => ∃ A2 n2 c2, e = .returned (.slice A2 n2 c2) ∧ NN w2 A2 n2 c2 (limbs ((Limb.val xs_a) + (Limb.val xs_b))) ((Limb.val xs_a) + (Limb.val xs_b)) 301 ∧ Below wx.heap.size wx w2) := fun wx hS => add_c (h_p.below hS.2) (h_q.below hS.2) 301 (by decide) (by decide) (by decide)
  have K_radd : RowKit.Hid (∀ wx, (wx.cell? ⟨w.heap.size, 0, none⟩ = some (.int .u64 (p : Int)) ∧ Below w5.heap.size w5 wx) → Calls Try.prog 17 #[.slice A_a n_a c_a, .slice A_b n_b c_b] wx fun e w2 => ∃ A2 n2 c2, e = .returned (.slice A2 n2 c2) ∧ NN w2 A2 n2 c2 (limbs ((Limb.val xs_a) + (Limb.val xs_b))) ((Limb.val xs_a) + (Limb.val xs_b)) (300 + 300 + 1) ∧ Below wx.heap.size wx w2) := fun wx hS => refAdd_c (h_a.below hS.2) (h_b.below hS.2) (by decide) (by decide)
  have K_sw : RowKit.Hid (∀ wx, (wx.cell? ⟨w.heap.size, 0, none⟩ = some (.int .u64 (p : Int)) ∧ Below w5.heap.size w5 wx) → Calls Try.prog 15 #[.slice A_s n_s c_s, .slice A_want n_want c_want] wx fun e w2 => e = .returned (.bool true) ∧ Below wx.heap.size wx w2) := fun wx hS => keep_c (h_s.below hS.2) (h_want.below hS.2) (by decide) (by decide) true (same_self _)
  have K_bits : RowKit.Hid (∀ wx, (wx.cell? ⟨w.heap.size, 0, none⟩ = some (.int .u64 (p : Int)) ∧ Below w5.heap.size w5 wx) → Calls Try.prog 18 #[.slice A_p n_p c_p] wx fun e w2 => e = .returned (.int .i64 ((blen (Limb.val xs_a) : Nat) : Int)) ∧ wx = w2) := fun wx hS => bits_c (h_p.below hS.2) (by decide) _ rfl
  have K_rbits : RowKit.Hid (∀ wx, (wx.cell? ⟨w.heap.size, 0, none⟩ = some (.int .u64 (p : Int)) ∧ Below w5.heap.size w5 wx) → Calls Try.prog 19 #[.slice A_a n_a c_a] wx fun e w2 => e = .returned (.int .i64 ((blen (Limb.val xs_a) : Nat) : Int)) ∧ wx = w2) := fun wx hS => refBits_c (h_a.below hS.2) (by decide) _ rfl
  have K_bit : RowKit.Hid (∀ wx, (wx.cell? ⟨w.heap.size, 0, none⟩ = some (.int .u64 (p : Int)) ∧ Below w5.heap.size w5 wx) → Calls Try.prog 20 #[.slice A_p n_p c_p, .int .i64 ((q : Int) % 20000)] wx fun e w2 => e = .returned (.bool (bitAt (Limb.val xs_a) q)) ∧ wx = w2) := fun wx hS => bit_c (h_p.below hS.2) (by decide) _ (by omega) (by omega) _ rfl
  have K_rbit : RowKit.Hid (∀ wx, (wx.cell? ⟨w.heap.size, 0, none⟩ = some (.int .u64 (p : Int)) ∧ Below w5.heap.size w5 wx) → Calls Try.prog 21 #[.slice A_a n_a c_a, .int .i64 ((q : Int) % 20000)] wx fun e w2 => e = .returned (.bool (bitAt (Limb.val xs_a) q)) ∧ wx = w2) := fun wx hS => refBit_c (h_a.below hS.2) (by decide) _ (by omega) (by omega) _ rfl
  have K_no : RowKit.Hid (∀ wx, (wx.cell? ⟨w.heap.size, 0, none⟩ = some (.int .u64 (p : Int)) ∧ Below w5.heap.size w5 wx) → Calls Try.prog 20 #[.slice A_p n_p c_p, .int .i64 (IntKind.i64.wrap (-1 - (q : Int) % 20000))] wx fun e w2 => e = .returned (.bool false) ∧ wx = w2) := fun wx hS => bit_below A_p n_p c_p _ wx (by rw [IntWalk.i64_in _ (by omega)]; omega)
  have K_trim : RowKit.Hid (∀ wx, (wx.cell? ⟨w.heap.size, 0, none⟩ = some (.int .u64 (p : Int)) ∧ Below w5.heap.size w5 wx) → Calls Try.prog 22 #[.slice A_p n_p c_p] wx fun e w2 => ∃ A2 n2 c2, e = .returned (.slice A2 n2 c2) ∧ NN w2 A2 n2 c2 (limbs ((Limb.val xs_a))) ((Limb.val xs_a)) 300 ∧ Below wx.heap.size wx w2) := fun wx hS => trim_c (h_p.below hS.2) (by decide)
  have K_rtrim : RowKit.Hid (∀ wx, (wx.cell? ⟨w.heap.size, 0, none⟩ = some (.int .u64 (p : Int)) ∧ Below w5.heap.size w5 wx) → Calls Try.prog 23 #[.slice A_a n_a c_a] wx fun e w2 => ∃ A2 n2 c2, e = .returned (.slice A2 n2 c2) ∧ NN w2 A2 n2 c2 (limbs ((Limb.val xs_a))) ((Limb.val xs_a)) 300 ∧ Below wx.heap.size wx w2) := fun wx hS => refTrim_c (h_a.below hS.2) (by decide)
  have K_of : RowKit.Hid (∀ wx, (wx.cell? ⟨w.heap.size, 0, none⟩ = some (.int .u64 (p : Int)) ∧ Below w5.heap.size w5 wx) → Calls Try.prog 24 #[.int .u64 (p : Int)] wx fun e w2 => ∃ A2 n2 c2, e = .returned (.slice A2 n2 c2) ∧ NN w2 A2 n2 c2 (limbs (p)) (p) 2 ∧ Below wx.heap.size wx w2) := fun wx hS => of_c p _ rfl Hp.out wx
  have K_rof : RowKit.Hid (∀ wx, (wx.cell? ⟨w.heap.size, 0, none⟩ = some (.int .u64 (p : Int)) ∧ Below w5.heap.size w5 wx) → Calls Try.prog 25 #[.int .u64 (p : Int)] wx fun e w2 => ∃ A2 n2 c2, e = .returned (.slice A2 n2 c2) ∧ NN w2 A2 n2 c2 (limbs (p)) (p) 2 ∧ Below wx.heap.size wx w2) := fun wx hS => refOf_c p _ rfl Hp.out wx
  have K_pa : RowKit.Hid (∀ wx, (wx.cell? ⟨w.heap.size, 0, none⟩ = some (.int .u64 (p : Int)) ∧ Below w5.heap.size w5 wx) → Calls Try.prog 15 #[.slice A_p n_p c_p, .slice A_a n_a c_a] wx fun e w2 => e = .returned (.bool true) ∧ Below wx.heap.size wx w2) := fun wx hS => keep_c (h_p.below hS.2) (h_a.below hS.2) (by decide) (by decide) true (same_self _)
  have K_qb : RowKit.Hid (∀ wx, (wx.cell? ⟨w.heap.size, 0, none⟩ = some (.int .u64 (p : Int)) ∧ Below w5.heap.size w5 wx) → Calls Try.prog 15 #[.slice A_q n_q c_q, .slice A_b n_b c_b] wx fun e w2 => e = .returned (.bool true) ∧ Below wx.heap.size wx w2) := fun wx hS => keep_c (h_q.below hS.2) (h_b.below hS.2) (by decide) (by decide) true (same_self _)
  have K_wakes : RowKit.Hid (∀ wx, (wx.cell? ⟨w.heap.size, 0, none⟩ = some (.int .u64 (p : Int)) ∧ Below w5.heap.size w5 wx) → Calls Try.prog 9 #[] wx fun e w2 => e = .returned (.bool true) ∧ Below wx.heap.size wx w2) := fun wx hS => wakes_any wx
  have hb0 : Below w5.heap.size w5 w5 := Below.refl _ _
  have Kc : RowKit.Hid (∀ wx, Below w5.heap.size w5 wx → wx.cell? ⟨w.heap.size, 0, none⟩ = some (.int .u64 (p : Int))) := fun wx hb => ((below_two bw hb).cell (p := ⟨w.heap.size, 0, none⟩) hsz.out).trans Hc.out.1
  have KS : RowKit.Hid (∀ wx w2, (wx.cell? ⟨w.heap.size, 0, none⟩ = some (.int .u64 (p : Int)) ∧ Below w5.heap.size w5 wx) → Below wx.heap.size wx w2 → (w2.cell? ⟨w.heap.size, 0, none⟩ = some (.int .u64 (p : Int)) ∧ Below w5.heap.size w5 w2)) := fun wx w2 hS bn => ⟨Kc.out _ (below_two hS.2 bn), below_two hS.2 bn⟩
  have c0 := Kc.out _ hb0
  have HF := Lib.hid (below_two b01 bw)
  have KF : RowKit.Hid (∀ wx, (wx.cell? ⟨w.heap.size, 0, none⟩ = some (.int .u64 (p : Int)) ∧ Below w5.heap.size w5 wx) → Below w.heap.size w wx) := fun wx hS => below_two HF.out hS.2
  clear h_a
  clear h_b
  clear h_p
  clear h_q
  clear h_s
  clear h_want
  clear bw b01 hb0
  dsimp only [List.append]
  go_region_held3 (fun wx => wx.cell? ⟨w.heap.size, 0, none⟩ = some (.int .u64 (p : Int)) ∧ Below w5.heap.size w5 wx) (first | assumption | exact ⟨Kc.out _ ((Below.refl _ _).drew), (Below.refl _ _).drew⟩) (first
    | (go_at_call 14; (with_reducible refine (K_cmp.out _ (by assumption)).mono ?_); rintro e w2 ⟨rfl, bn⟩; have hS2 := KS.out _ _ (by assumption) bn)
    | (go_at_call 16; (with_reducible refine (K_add.out _ (by assumption)).mono ?_); rintro e w2 ⟨A_sum, n_sum, c_sum, rfl, h_sum, bn_sum⟩; have hS2 := KS.out _ _ (by assumption) bn_sum)
    | (go_at_call 17; (with_reducible refine (K_radd.out _ (by assumption)).mono ?_); rintro e w2 ⟨A_rsum, n_rsum, c_rsum, rfl, h_rsum, bn_rsum⟩; have hS2 := KS.out _ _ (by assumption) bn_rsum)
    | (go_at_call 15; (with_reducible refine (keep_c (h_sum.below bn_rsum) h_rsum (by decide) (by decide) true (same_self _)).mono ?_); rintro e w2 ⟨rfl, bn⟩; have hS2 := KS.out _ _ (by assumption) bn)
    | (go_at_call 15; (with_reducible refine (K_sw.out _ (by assumption)).mono ?_); rintro e w2 ⟨rfl, bn⟩; have hS2 := KS.out _ _ (by assumption) bn)
    | (go_at_call 18; (with_reducible refine (K_bits.out _ (by assumption)).mono ?_); rintro e w2 ⟨rfl, rfl⟩)
    | (go_at_call 19; (with_reducible refine (K_rbits.out _ (by assumption)).mono ?_); rintro e w2 ⟨rfl, rfl⟩)
    | (go_at_call 20; (with_reducible refine (K_bit.out _ (by assumption)).mono ?_); rintro e w2 ⟨rfl, rfl⟩)
    | (go_at_call 20; (with_reducible refine (K_no.out _ (by assumption)).mono ?_); rintro e w2 ⟨rfl, rfl⟩)
    | (go_at_call 21; (with_reducible refine (K_rbit.out _ (by assumption)).mono ?_); rintro e w2 ⟨rfl, rfl⟩)
    | (go_at_call 22; (with_reducible refine (K_trim.out _ (by assumption)).mono ?_); rintro e w2 ⟨A_t, n_t, c_t, rfl, h_t, bn_t⟩; have hS2 := KS.out _ _ (by assumption) bn_t)
    | (go_at_call 23; (with_reducible refine (K_rtrim.out _ (by assumption)).mono ?_); rintro e w2 ⟨A_rt, n_rt, c_rt, rfl, h_rt, bn_rt⟩; have hS2 := KS.out _ _ (by assumption) bn_rt)
    | (go_at_call 15; (with_reducible refine (keep_c (h_t.below bn_rt) h_rt (by decide) (by decide) true (same_self _)).mono ?_); rintro e w2 ⟨rfl, bn⟩; have hS2 := KS.out _ _ (by assumption) bn)
    | (go_at_call 24; (with_reducible refine (K_of.out _ (by assumption)).mono ?_); rintro e w2 ⟨A_o, n_o, c_o, rfl, h_o, bn_o⟩; have hS2 := KS.out _ _ (by assumption) bn_o)
    | (go_at_call 25; (with_reducible refine (K_rof.out _ (by assumption)).mono ?_); rintro e w2 ⟨A_ro, n_ro, c_ro, rfl, h_ro, bn_ro⟩; have hS2 := KS.out _ _ (by assumption) bn_ro)
    | (go_at_call 15; (with_reducible refine (keep_c (h_o.below bn_ro) h_ro (by decide) (by decide) true (same_self _)).mono ?_); rintro e w2 ⟨rfl, bn⟩; have hS2 := KS.out _ _ (by assumption) bn)
    | (go_at_call 15; (with_reducible refine (K_pa.out _ (by assumption)).mono ?_); rintro e w2 ⟨rfl, bn⟩; have hS2 := KS.out _ _ (by assumption) bn)
    | (go_at_call 15; (with_reducible refine (K_qb.out _ (by assumption)).mono ?_); rintro e w2 ⟨rfl, bn⟩; have hS2 := KS.out _ _ (by assumption) bn)
    | (go_at_call 9; (with_reducible refine (K_wakes.out _ (by assumption)).mono ?_); rintro e w2 ⟨rfl, bn⟩; have hS2 := KS.out _ _ (by assumption) bn))
  go_wp2
  go_ret
  exact ⟨rfl, KF.out _ (by assumption)⟩

end Go.Proofs.Ythcacnlajfidoaa.lawNatTells
