/- The statement MulTells where both numbers have at most 300 limbs, together at most 3000 pairs of them. -/
import Derived.Test.YtegcpiicfcpppaaOpenTri
import Derived.Test.YtegcpiicfcpppaaMulW
import Derived.Test.YtegcpiicfcpppaaRefMulD
import Derived.Deep.RegionHeld3
namespace Go.Proofs.Ytegcpiicfcpppaa.lawMulTells
open Go.ChangeShapes Go.WideShapes Go.ChangeAt Go.RowKit Limb
set_option linter.unusedVariables false

/-- What a word leaves in 32 bits. -/
def lowV (v : Int) : Nat := (v % 4294967296).toNat
theorem lowV_eq (v : Int) : IntKind.u32.wrap v = ((lowV v : Nat) : Int) := by rw [IntKind.wrap_u32']; unfold lowV; omega
theorem lowV_lt (v : Int) : lowV v < 4294967296 := by unfold lowV; omega

theorem cell_got (w : World) (A : Option Addr) (n c : Nat) (b : Bool) : (w.alloc (.cells #[Value.slice A n c, Value.bool b] 31)).cell? ⟨w.heap.size, 0, none⟩ = some (.slice A n c) ∧ (w.alloc (.cells #[Value.slice A n c, Value.bool b] 31)).cell? ⟨w.heap.size, 1, none⟩ = some (.bool b) := by
  constructor <;> (rw [World.cell?_alloc_at _ _ _ _ rfl]; rfl)

set_option maxRecDepth 1000000 in
set_option maxHeartbeats 4000000 in
theorem case_main (A_a : Option Addr) (n_a c_a : Nat) (xs_a : List Nat) (A_b : Option Addr) (n_b c_b : Nat) (xs_b : List Nat) (v_x u_x t_x : Int) (w : World) (i_a : IsN w A_a n_a xs_a) (hc_a : n_a ≤ c_a) (hm_a : c_a ≤ maxLen) (i_b : IsN w A_b n_b xs_b) (hc_b : n_b ≤ c_b) (hm_b : c_b ≤ maxLen) (f_x : (Lit.int .i64 v_x).wf = true) (g_x : (Lit.int .i64 u_x).wf = true) (h_x : (Lit.int .i64 t_x).wf = true) (l_a : n_a ≤ 300) (l_b : n_b ≤ 300) (hpr : n_a * n_b ≤ 3000) :
    Calls Try.prog 3 #[.slice A_a n_a c_a, .slice A_b n_b c_b, .agg #[.int .i64 v_x, .int .i64 u_x, .int .i64 t_x]] w fun e w' => e = .returned (.bool true) ∧ Below w.heap.size w w' := by
  have W0 := Lib.hid (wf_i64 f_x)
  have W1 := Lib.hid (wf_i64 g_x)
  have W2 := Lib.hid (wf_i64 h_x)
  have Hc := Lib.hid (cell_tri w v_x u_x t_x)
  have B01 := Lib.hid (below_new w (.cells #[Value.int .i64 v_x, Value.int .i64 u_x, Value.int .i64 t_x] 24))
  have hsz : RowKit.Hid (w.heap.size < (w.alloc (.cells #[Value.int .i64 v_x, Value.int .i64 u_x, Value.int .i64 t_x] 24)).heap.size) := by show _ < _; simp
  have hp0 : (n_a : Int) * (n_b : Int) ≤ 3000 := by rw [← Int.natCast_mul]; omega
  have hp1 : 0 ≤ (n_a : Int) * (n_b : Int) := by rw [← Int.natCast_mul]; omega
  obtain ⟨T, hT⟩ : ∃ T, T = powV (Limb.val xs_a) u_x := ⟨_, rfl⟩
  have HT : RowKit.Hid (powV (Limb.val xs_a) u_x = T) := hT.symm
  obtain ⟨tb, htb⟩ : ∃ tb, tb = T.isSome := ⟨_, rfl⟩
  have Htb := Lib.hid htb
  clear f_x g_x h_x hT htb hpr
  go_enter Try.func3, Try.ntmps3
  go_wp2_with fail
  generalize w.alloc (.cells #[Value.int .i64 v_x, Value.int .i64 u_x, Value.int .i64 t_x] 24) = w1 at *
  have b01 := B01.out
  have bw := bel_refl w1
  have h_a : NN w1 A_a n_a c_a xs_a (Limb.val xs_a) 300 := (NN.mk i_a rfl hc_a (by omega)).below b01
  have h_b : NN w1 A_b n_b c_b xs_b (Limb.val xs_b) 300 := (NN.mk i_b rfl hc_b (by omega)).below b01
  go_wp2_with fail
  refine (long_c A_a n_a c_a w1 hc_a hm_a false (long_no (by omega))).mono ?_
  rintro e w1x ⟨rfl, rfl⟩
  go_wp2_with fail
  refine (long_c A_b n_b c_b w1 hc_b hm_b false (long_no (by omega))).mono ?_
  rintro e w1x ⟨rfl, rfl⟩
  go_wp2_with fail
  refine (own_any A_a n_a c_a xs_a _ 300 w1 h_a (by decide)).mono ?_
  rintro e w2 ⟨A_p, n_p, c_p, rfl, h_p, bn⟩
  replace h_a := h_a.below bn
  replace h_b := h_b.below bn
  replace bw := below_two bw bn
  clear bn
  go_wp2_with fail
  refine (own_any A_b n_b c_b xs_b _ 300 w2 h_b (by decide)).mono ?_
  rintro e w3 ⟨A_q, n_q, c_q, rfl, h_q, bn⟩
  replace h_a := h_a.below bn
  replace h_b := h_b.below bn
  replace h_p := h_p.below bn
  replace bw := below_two bw bn
  clear bn
  have c1 := (bw.cell (p := ⟨w.heap.size, 1, none⟩) hsz.out).trans Hc.out.2.1
  go_wp2_with fail
  refine (mulPow_c h_p (by decide) u_x W1.out.1 W1.out.2 T HT.out).mono ?_
  rintro e w4 ⟨A_c, n_c, c_c, rfl, h_c, bn⟩
  replace h_a := h_a.below bn
  replace h_b := h_b.below bn
  replace h_p := h_p.below bn
  replace h_q := h_q.below bn
  replace bw := below_two bw bn
  clear bn
  rw [← Htb.out]
  clear c1
  have c1 := (bw.cell (p := ⟨w.heap.size, 1, none⟩) hsz.out).trans Hc.out.2.1
  go_wp2_with fail
  refine (refPow_c h_a (by decide) u_x W1.out.1 W1.out.2 T HT.out).mono ?_
  rintro e w5 ⟨A_g, n_g, c_g, rfl, h_g, bn⟩
  replace h_a := h_a.below bn
  replace h_b := h_b.below bn
  replace h_p := h_p.below bn
  replace h_q := h_q.below bn
  replace h_c := h_c.below bn
  replace bw := below_two bw bn
  clear bn
  rw [← Htb.out]
  clear c1
  go_wp2_with fail
  have bn := below_new w5 (.cells #[Value.slice A_g n_g c_g, Value.bool tb] 31)
  have HG := Lib.hid (cell_got w5 A_g n_g c_g tb)
  have hsg : RowKit.Hid (w5.heap.size < (w5.alloc (.cells #[Value.slice A_g n_g c_g, Value.bool tb] 31)).heap.size) := by show _ < _; simp
  have hge : RowKit.Hid (w1.heap.size ≤ w5.heap.size) := bw.size
  replace h_a := h_a.below bn
  replace h_b := h_b.below bn
  replace h_p := h_p.below bn
  replace h_q := h_q.below bn
  replace h_c := h_c.below bn
  replace h_g := h_g.below bn
  replace bw := below_two bw bn
  clear bn
  generalize w5.alloc (.cells #[Value.slice A_g n_g c_g, Value.bool tb] 31) = wS at *
  obtain ⟨gg, hgg⟩ : ∃ gg, gg = w5.heap.size := ⟨_, rfl⟩
  rw [← hgg] at HG hsg hge ⊢
  clear hgg
  have K_of : RowKit.Hid (∀ wx, (wx.cell? ⟨w.heap.size, 0, none⟩ = some (.int .i64 v_x) ∧ wx.cell? ⟨w.heap.size, 2, none⟩ = some (.int .i64 t_x) ∧ wx.cell? ⟨gg, 0, none⟩ = some (.slice A_g n_g c_g) ∧ wx.cell? ⟨gg, 1, none⟩ = some (.bool tb) ∧ Below wS.heap.size wS wx) → Calls Try.prog 14 #[.slice A_p n_p c_p, .slice A_q n_q c_q] wx fun e w2 => ∃ A2 n2 c2, e = .returned (.slice A2 n2 c2) ∧ NN w2 A2 n2 c2 (limbs ((Limb.val xs_a) * (Limb.val xs_b))) ((Limb.val xs_a) * (Limb.val xs_b)) 600 ∧ Below wx.heap.size wx w2) := fun wx hS => mulOf_c (h_p.below hS.2.2.2.2) (h_q.below hS.2.2.2.2) 600 (by decide) (by decide) (by decide)
  have K_rof : RowKit.Hid (∀ wx, (wx.cell? ⟨w.heap.size, 0, none⟩ = some (.int .i64 v_x) ∧ wx.cell? ⟨w.heap.size, 2, none⟩ = some (.int .i64 t_x) ∧ wx.cell? ⟨gg, 0, none⟩ = some (.slice A_g n_g c_g) ∧ wx.cell? ⟨gg, 1, none⟩ = some (.bool tb) ∧ Below wS.heap.size wS wx) → Calls Try.prog 15 #[.slice A_a n_a c_a, .slice A_b n_b c_b] wx fun e w2 => ∃ A2 n2 c2, e = .returned (.slice A2 n2 c2) ∧ NN w2 A2 n2 c2 (limbs ((Limb.val xs_a) * (Limb.val xs_b))) ((Limb.val xs_a) * (Limb.val xs_b)) (300 + 300) ∧ Below wx.heap.size wx w2) := fun wx hS => refMul_c (h_a.below hS.2.2.2.2) (h_b.below hS.2.2.2.2) (by decide) (by decide)
  have K_small : RowKit.Hid (∀ wx, (wx.cell? ⟨w.heap.size, 0, none⟩ = some (.int .i64 v_x) ∧ wx.cell? ⟨w.heap.size, 2, none⟩ = some (.int .i64 t_x) ∧ wx.cell? ⟨gg, 0, none⟩ = some (.slice A_g n_g c_g) ∧ wx.cell? ⟨gg, 1, none⟩ = some (.bool tb) ∧ Below wS.heap.size wS wx) → Calls Try.prog 16 #[.slice A_p n_p c_p, .int .u32 (IntKind.u32.wrap v_x)] wx fun e w2 => ∃ A2 n2 c2, e = .returned (.slice A2 n2 c2) ∧ NN w2 A2 n2 c2 (limbs ((Limb.val xs_a) * lowV v_x)) ((Limb.val xs_a) * lowV v_x) (300 + 1) ∧ Below wx.heap.size wx w2) := fun wx hS => mulSmall_c (h_p.below hS.2.2.2.2) (lowV v_x) _ (lowV_eq _) (lowV_lt _) (by decide)
  have K_rsmall : RowKit.Hid (∀ wx, (wx.cell? ⟨w.heap.size, 0, none⟩ = some (.int .i64 v_x) ∧ wx.cell? ⟨w.heap.size, 2, none⟩ = some (.int .i64 t_x) ∧ wx.cell? ⟨gg, 0, none⟩ = some (.slice A_g n_g c_g) ∧ wx.cell? ⟨gg, 1, none⟩ = some (.bool tb) ∧ Below wS.heap.size wS wx) → Calls Try.prog 17 #[.slice A_a n_a c_a, .int .u32 (IntKind.u32.wrap v_x)] wx fun e w2 => ∃ A2 n2 c2, e = .returned (.slice A2 n2 c2) ∧ NN w2 A2 n2 c2 (limbs ((Limb.val xs_a) * lowV v_x)) ((Limb.val xs_a) * lowV v_x) (300 + 1) ∧ Below wx.heap.size wx w2) := fun wx hS => refSmall_c (h_a.below hS.2.2.2.2) (lowV v_x) _ (lowV_eq _) (lowV_lt _) (by decide)
  have K_shift : RowKit.Hid (∀ wx, (wx.cell? ⟨w.heap.size, 0, none⟩ = some (.int .i64 v_x) ∧ wx.cell? ⟨w.heap.size, 2, none⟩ = some (.int .i64 t_x) ∧ wx.cell? ⟨gg, 0, none⟩ = some (.slice A_g n_g c_g) ∧ wx.cell? ⟨gg, 1, none⟩ = some (.bool tb) ∧ Below wS.heap.size wS wx) → Calls Try.prog 18 #[.slice A_p n_p c_p, .int .i64 t_x] wx fun e w2 => ∃ A2 n2 c2, e = .returned (.slice A2 n2 c2) ∧ NN w2 A2 n2 c2 (limbs (shiftV (Limb.val xs_a) t_x)) (shiftV (Limb.val xs_a) t_x) (300 + 256) ∧ Below wx.heap.size wx w2) := fun wx hS => mulShift_o (h_p.below hS.2.2.2.2) t_x W2.out.1 W2.out.2 (by decide)
  have K_rshift : RowKit.Hid (∀ wx, (wx.cell? ⟨w.heap.size, 0, none⟩ = some (.int .i64 v_x) ∧ wx.cell? ⟨w.heap.size, 2, none⟩ = some (.int .i64 t_x) ∧ wx.cell? ⟨gg, 0, none⟩ = some (.slice A_g n_g c_g) ∧ wx.cell? ⟨gg, 1, none⟩ = some (.bool tb) ∧ Below wS.heap.size wS wx) → Calls Try.prog 19 #[.slice A_a n_a c_a, .int .i64 t_x] wx fun e w2 => ∃ A2 n2 c2, e = .returned (.slice A2 n2 c2) ∧ NN w2 A2 n2 c2 (limbs (shiftV (Limb.val xs_a) t_x)) (shiftV (Limb.val xs_a) t_x) (300 + 256) ∧ Below wx.heap.size wx w2) := fun wx hS => refShift_c (h_a.below hS.2.2.2.2) t_x W2.out.1 W2.out.2 (by decide)
  have K_cg : RowKit.Hid (∀ wx, (wx.cell? ⟨w.heap.size, 0, none⟩ = some (.int .i64 v_x) ∧ wx.cell? ⟨w.heap.size, 2, none⟩ = some (.int .i64 t_x) ∧ wx.cell? ⟨gg, 0, none⟩ = some (.slice A_g n_g c_g) ∧ wx.cell? ⟨gg, 1, none⟩ = some (.bool tb) ∧ Below wS.heap.size wS wx) → Calls Try.prog 13 #[.slice A_c n_c c_c, .slice A_g n_g c_g] wx fun e w2 => e = .returned (.bool true) ∧ Below wx.heap.size wx w2) := fun wx hS => keep_c (h_c.below hS.2.2.2.2) (h_g.below hS.2.2.2.2) (by decide) (by decide) true (same_self _)
  have K_pa : RowKit.Hid (∀ wx, (wx.cell? ⟨w.heap.size, 0, none⟩ = some (.int .i64 v_x) ∧ wx.cell? ⟨w.heap.size, 2, none⟩ = some (.int .i64 t_x) ∧ wx.cell? ⟨gg, 0, none⟩ = some (.slice A_g n_g c_g) ∧ wx.cell? ⟨gg, 1, none⟩ = some (.bool tb) ∧ Below wS.heap.size wS wx) → Calls Try.prog 13 #[.slice A_p n_p c_p, .slice A_a n_a c_a] wx fun e w2 => e = .returned (.bool true) ∧ Below wx.heap.size wx w2) := fun wx hS => keep_c (h_p.below hS.2.2.2.2) (h_a.below hS.2.2.2.2) (by decide) (by decide) true (same_self _)
  have K_qb : RowKit.Hid (∀ wx, (wx.cell? ⟨w.heap.size, 0, none⟩ = some (.int .i64 v_x) ∧ wx.cell? ⟨w.heap.size, 2, none⟩ = some (.int .i64 t_x) ∧ wx.cell? ⟨gg, 0, none⟩ = some (.slice A_g n_g c_g) ∧ wx.cell? ⟨gg, 1, none⟩ = some (.bool tb) ∧ Below wS.heap.size wS wx) → Calls Try.prog 13 #[.slice A_q n_q c_q, .slice A_b n_b c_b] wx fun e w2 => e = .returned (.bool true) ∧ Below wx.heap.size wx w2) := fun wx hS => keep_c (h_q.below hS.2.2.2.2) (h_b.below hS.2.2.2.2) (by decide) (by decide) true (same_self _)
  have K_wakes : RowKit.Hid (∀ wx, (wx.cell? ⟨w.heap.size, 0, none⟩ = some (.int .i64 v_x) ∧ wx.cell? ⟨w.heap.size, 2, none⟩ = some (.int .i64 t_x) ∧ wx.cell? ⟨gg, 0, none⟩ = some (.slice A_g n_g c_g) ∧ wx.cell? ⟨gg, 1, none⟩ = some (.bool tb) ∧ Below wS.heap.size wS wx) → Calls Try.prog 9 #[] wx fun e w2 => e = .returned (.bool true) ∧ Below wx.heap.size wx w2) := fun wx hS => wakes_any wx
  have hb0 : Below wS.heap.size wS wS := Below.refl _ _
  have Kc : RowKit.Hid (∀ wx, Below wS.heap.size wS wx → wx.cell? ⟨w.heap.size, 0, none⟩ = some (.int .i64 v_x) ∧ wx.cell? ⟨w.heap.size, 2, none⟩ = some (.int .i64 t_x) ∧ wx.cell? ⟨gg, 0, none⟩ = some (.slice A_g n_g c_g) ∧ wx.cell? ⟨gg, 1, none⟩ = some (.bool tb)) := fun wx hb => ⟨((below_two bw hb).cell (p := ⟨w.heap.size, 0, none⟩) hsz.out).trans Hc.out.1, ((below_two bw hb).cell (p := ⟨w.heap.size, 2, none⟩) hsz.out).trans Hc.out.2.2, (hb.cell (p := ⟨gg, 0, none⟩) hsg.out).trans HG.out.1, (hb.cell (p := ⟨gg, 1, none⟩) hsg.out).trans HG.out.2⟩
  have KA : RowKit.Hid (∀ wx, Below wS.heap.size wS wx → (wx.cell? ⟨w.heap.size, 0, none⟩ = some (.int .i64 v_x) ∧ wx.cell? ⟨w.heap.size, 2, none⟩ = some (.int .i64 t_x) ∧ wx.cell? ⟨gg, 0, none⟩ = some (.slice A_g n_g c_g) ∧ wx.cell? ⟨gg, 1, none⟩ = some (.bool tb) ∧ Below wS.heap.size wS wx)) := fun wx hb => ⟨(Kc.out wx hb).1, (Kc.out wx hb).2.1, (Kc.out wx hb).2.2.1, (Kc.out wx hb).2.2.2, hb⟩
  have KS : RowKit.Hid (∀ wx w2, (wx.cell? ⟨w.heap.size, 0, none⟩ = some (.int .i64 v_x) ∧ wx.cell? ⟨w.heap.size, 2, none⟩ = some (.int .i64 t_x) ∧ wx.cell? ⟨gg, 0, none⟩ = some (.slice A_g n_g c_g) ∧ wx.cell? ⟨gg, 1, none⟩ = some (.bool tb) ∧ Below wS.heap.size wS wx) → Below wx.heap.size wx w2 → (w2.cell? ⟨w.heap.size, 0, none⟩ = some (.int .i64 v_x) ∧ w2.cell? ⟨w.heap.size, 2, none⟩ = some (.int .i64 t_x) ∧ w2.cell? ⟨gg, 0, none⟩ = some (.slice A_g n_g c_g) ∧ w2.cell? ⟨gg, 1, none⟩ = some (.bool tb) ∧ Below wS.heap.size wS w2)) := fun wx w2 hS bn => KA.out _ (below_two hS.2.2.2.2 bn)
  obtain ⟨c0, c2, c3, c4⟩ := Kc.out _ hb0
  have HF := Lib.hid (below_two b01 bw)
  have KF : RowKit.Hid (∀ wx, (wx.cell? ⟨w.heap.size, 0, none⟩ = some (.int .i64 v_x) ∧ wx.cell? ⟨w.heap.size, 2, none⟩ = some (.int .i64 t_x) ∧ wx.cell? ⟨gg, 0, none⟩ = some (.slice A_g n_g c_g) ∧ wx.cell? ⟨gg, 1, none⟩ = some (.bool tb) ∧ Below wS.heap.size wS wx) → Below w.heap.size w wx) := fun wx hS => below_two HF.out hS.2.2.2.2
  clear h_a
  clear h_b
  clear h_p
  clear h_q
  clear h_c
  clear h_g
  clear bw b01 hb0
  try dsimp only [List.append]
  go_region_held3 (fun wx => wx.cell? ⟨w.heap.size, 0, none⟩ = some (.int .i64 v_x) ∧ wx.cell? ⟨w.heap.size, 2, none⟩ = some (.int .i64 t_x) ∧ wx.cell? ⟨gg, 0, none⟩ = some (.slice A_g n_g c_g) ∧ wx.cell? ⟨gg, 1, none⟩ = some (.bool tb) ∧ Below wS.heap.size wS wx) (first | assumption | exact KA.out _ ((Below.refl _ _).drew)) (first
    | (go_at_call 14; (with_reducible refine (K_of.out _ (by assumption)).mono ?_); rintro e w2 ⟨A_o, n_o, c_o, rfl, h_o, bn_o⟩; have hS2 := KS.out _ _ (by assumption) bn_o)
    | (go_at_call 15; (with_reducible refine (K_rof.out _ (by assumption)).mono ?_); rintro e w2 ⟨A_ro, n_ro, c_ro, rfl, h_ro, bn_ro⟩; have hS2 := KS.out _ _ (by assumption) bn_ro)
    | (go_at_call 13; (with_reducible refine (keep_c (h_o.below bn_ro) h_ro (by decide) (by decide) true (same_self _)).mono ?_); rintro e w2 ⟨rfl, bn⟩; have hS2 := KS.out _ _ (by assumption) bn)
    | (go_at_call 16; (with_reducible refine (K_small.out _ (by assumption)).mono ?_); rintro e w2 ⟨A_t, n_t, c_t, rfl, h_t, bn_t⟩; have hS2 := KS.out _ _ (by assumption) bn_t)
    | (go_at_call 17; (with_reducible refine (K_rsmall.out _ (by assumption)).mono ?_); rintro e w2 ⟨A_rt, n_rt, c_rt, rfl, h_rt, bn_rt⟩; have hS2 := KS.out _ _ (by assumption) bn_rt)
    | (go_at_call 13; (with_reducible refine (keep_c (h_t.below bn_rt) h_rt (by decide) (by decide) true (same_self _)).mono ?_); rintro e w2 ⟨rfl, bn⟩; have hS2 := KS.out _ _ (by assumption) bn)
    | (go_at_call 18; (with_reducible refine (K_shift.out _ (by assumption)).mono ?_); rintro e w2 ⟨A_u, n_u, c_u, rfl, h_u, bn_u⟩; have hS2 := KS.out _ _ (by assumption) bn_u)
    | (go_at_call 19; (with_reducible refine (K_rshift.out _ (by assumption)).mono ?_); rintro e w2 ⟨A_ru, n_ru, c_ru, rfl, h_ru, bn_ru⟩; have hS2 := KS.out _ _ (by assumption) bn_ru)
    | (go_at_call 13; (with_reducible refine (keep_c (h_u.below bn_ru) h_ru (by decide) (by decide) true (same_self _)).mono ?_); rintro e w2 ⟨rfl, bn⟩; have hS2 := KS.out _ _ (by assumption) bn)
    | (go_at_call 13; (with_reducible refine (K_cg.out _ (by assumption)).mono ?_); rintro e w2 ⟨rfl, bn⟩; have hS2 := KS.out _ _ (by assumption) bn)
    | (go_at_call 13; (with_reducible refine (K_pa.out _ (by assumption)).mono ?_); rintro e w2 ⟨rfl, bn⟩; have hS2 := KS.out _ _ (by assumption) bn)
    | (go_at_call 13; (with_reducible refine (K_qb.out _ (by assumption)).mono ?_); rintro e w2 ⟨rfl, bn⟩; have hS2 := KS.out _ _ (by assumption) bn)
    | (go_at_call 9; (with_reducible refine (K_wakes.out _ (by assumption)).mono ?_); rintro e w2 ⟨rfl, bn⟩; have hS2 := KS.out _ _ (by assumption) bn))
  go_wp2
  go_ret
  exact ⟨rfl, KF.out _ (by assumption)⟩

end Go.Proofs.Ytegcpiicfcpppaa.lawMulTells
