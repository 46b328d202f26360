/- Of any two rational numbers of few limbs: what the greater one is rounded to is not less than what the other one is. Condition: the listed tables. -/
import Derived.Test.YtjikaojffgjndaaGreatDoorM11
import Derived.Test.YtjikaojffgjndaaGreatDoorCards
import Derived.Test.YtjikaojffgjndaaGreatDoorTie
import Derived.ChangeMaps5
import Derived.Lay
import Derived.SevenTiedAt
/- Of any two rational numbers of few limbs: what the greater one is rounded to is not less than what the other one is. Condition: the listed tables. -/
namespace Go.Proofs.YtjikaojffgjndaaGreatDoor.lawDecimalOrder
open Go.ChangeShapes Go.WideShapes Go.ChangeAt Go.RowKit Limb
set_option linter.unusedVariables false
set_option maxHeartbeats 40000000 in
set_option maxRecDepth 100000 in
theorem walk (g_a : Bool) (A_a : Option Addr) (n_a c_a : Nat) (xs_a : List Nat) (B_a : Option Addr) (m_a d_a : Nat) (ys_a : List Nat) (g_b : Bool) (A_b : Option Addr) (n_b c_b : Nat) (xs_b : List Nat) (B_b : Option Addr) (m_b d_b : Nat) (ys_b : List Nat) (v_n : Int) (w : World) (i_a : IsN w A_a n_a xs_a) (hc_a : n_a ≤ c_a) (hm_a : c_a ≤ maxLen) (j_a : IsN w B_a m_a ys_a) (kc_a : m_a ≤ d_a) (km_a : d_a ≤ maxLen) (i_b : IsN w A_b n_b xs_b) (hc_b : n_b ≤ c_b) (hm_b : c_b ≤ maxLen) (j_b : IsN w B_b m_b ys_b) (kc_b : m_b ≤ d_b) (km_b : d_b ≤ maxLen) (f_n : (Lit.int .u8 v_n).wf = true) (T : Tab w) :
 Calls Tryz.prog 8 #[.agg #[.bool g_a, .slice A_a n_a c_a, .slice B_a m_a d_a], .agg #[.bool g_b, .slice A_b n_b c_b, .slice B_b m_b d_b], .int .u8 v_n] w fun e w' => e = .returned (.bool true) ∧ Below w.heap.size w w' := by
 have HT0 := Lib.hid T
 have HTab := Lib.hid T
 clear T
 have hw_n : 0 ≤ v_n ∧ v_n ≤ 255 := by
  have e1 : IntKind.u8.min = 0 := rfl
  have e2 : IntKind.u8.max = 255 := rfl
  simp only [Lit.wf, Bool.and_eq_true, decide_eq_true_eq] at f_n
  omega
 obtain ⟨w0_n, w1_n⟩ := hw_n
 clear f_n
 obtain ⟨N, eN⟩ : ∃ N : Nat, v_n % 20 = (N : Int) := ⟨(v_n % 20).toNat, by omega⟩
 have bN : N < 20 := by omega
 have KL_a : max n_a m_a ≤ 9223372036854775807 := by
  have e : maxLen = 9223372036854775807 := by decide
  omega
 have h_a := QQ.of (s := g_a) i_a hc_a j_a kc_a (Nat.le_max_left n_a m_a) (Nat.le_max_right n_a m_a)
 generalize readQ g_a xs_a ys_a = o_a at h_a
 have KL_b : max n_b m_b ≤ 9223372036854775807 := by
  have e : maxLen = 9223372036854775807 := by decide
  omega
 have h_b := QQ.of (s := g_b) i_b hc_b j_b kc_b (Nat.le_max_left n_b m_b) (Nat.le_max_right n_b m_b)
 generalize readQ g_b xs_b ys_b = o_b at h_b
 have bw := bel_refl w
 have h_ra := row3_new w 27 (.bool g_a) (.slice A_a n_a c_a) (.slice B_a m_a d_a)
 have bn := below_new w (.cells #[Value.bool g_a, Value.slice A_a n_a c_a, Value.slice B_a m_a d_a] 27)
 replace h_a := h_a.below bn
 replace h_b := h_b.below bn
 replace HTab := Lib.hid (HTab.out.below bn)
 replace bw := below_two bw bn
 clear bn
 have h_rb := row3_new (w.alloc (.cells #[Value.bool g_a, Value.slice A_a n_a c_a, Value.slice B_a m_a d_a] 27)) 27 (.bool g_b) (.slice A_b n_b c_b) (.slice B_b m_b d_b)
 have bn := below_new (w.alloc (.cells #[Value.bool g_a, Value.slice A_a n_a c_a, Value.slice B_a m_a d_a] 27)) (.cells #[Value.bool g_b, Value.slice A_b n_b c_b, Value.slice B_b m_b d_b] 27)
 replace h_a := h_a.below bn
 replace h_b := h_b.below bn
 replace h_ra := h_ra.below bn
 replace HTab := Lib.hid (HTab.out.below bn)
 replace bw := below_two bw bn
 clear bn
 simp only [World.size_alloc] at h_rb
 go_enter Tryz.func8, Tryz.ntmps8
 go_wp2_with fail
 generalize (w.alloc (.cells #[Value.bool g_a, Value.slice A_a n_a c_a, Value.slice B_a m_a d_a] 27)).alloc (.cells #[Value.bool g_b, Value.slice A_b n_b c_b, Value.slice B_b m_b d_b] 27) = wP at *
 obtain ⟨q_b, eg⟩ : ∃ g, g = w.heap.size + 1 := ⟨_, rfl⟩
 rw [← eg] at h_rb ⊢
 have HQ_b := Lib.hid eg
 clear eg
 obtain ⟨q_a, eg⟩ : ∃ g, g = w.heap.size := ⟨_, rfl⟩
 rw [← eg] at h_ra ⊢
 have HQ_a := Lib.hid eg
 clear eg
 cases o_a with
 | none =>
  refine (refGood_c h_a KL_a false rfl).mono ?_
  rintro e w1 ⟨rfl, bn⟩
  replace h_a := h_a.below bn
  replace h_b := h_b.below bn
  replace h_ra := h_ra.below bn
  replace h_rb := h_rb.below bn
  replace HTab := Lib.hid (HTab.out.below bn)
  replace bw := below_two bw bn
  clear bn
  go_wp2_with fail
  refine (wakes_any _ HTab.out).mono ?_
  rintro e w2 ⟨rfl, bn⟩
  replace h_a := h_a.below bn
  replace h_b := h_b.below bn
  replace h_ra := h_ra.below bn
  replace h_rb := h_rb.below bn
  replace HTab := Lib.hid (HTab.out.below bn)
  replace bw := below_two bw bn
  clear bn
  go_wp2
  go_ret
  exact ⟨rfl, bw⟩
 | some z_a =>
  refine (refGood_c h_a KL_a true rfl).mono ?_
  rintro e w3 ⟨rfl, bn⟩
  replace h_a := h_a.below bn
  replace h_b := h_b.below bn
  replace h_ra := h_ra.below bn
  replace h_rb := h_rb.below bn
  replace HTab := Lib.hid (HTab.out.below bn)
  replace bw := below_two bw bn
  clear bn
  have c_b0 := h_rb.c0
  have c_b1 := h_rb.c1
  have c_b2 := h_rb.c2
  go_wp2_with fail
  clear c_b0 c_b1 c_b2
  cases o_b with
  | none =>
   refine (refGood_c h_b KL_b false rfl).mono ?_
   rintro e w4 ⟨rfl, bn⟩
   replace h_a := h_a.below bn
   replace h_b := h_b.below bn
   replace h_ra := h_ra.below bn
   replace h_rb := h_rb.below bn
   replace HTab := Lib.hid (HTab.out.below bn)
   replace bw := below_two bw bn
   clear bn
   go_wp2_with fail
   refine (wakes_any _ HTab.out).mono ?_
   rintro e w5 ⟨rfl, bn⟩
   replace h_a := h_a.below bn
   replace h_b := h_b.below bn
   replace h_ra := h_ra.below bn
   replace h_rb := h_rb.below bn
   replace HTab := Lib.hid (HTab.out.below bn)
   replace bw := below_two bw bn
   clear bn
   go_wp2
   go_ret
   exact ⟨rfl, bw⟩
  | some z_b =>
   refine (refGood_c h_b KL_b true rfl).mono ?_
   rintro e w6 ⟨rfl, bn⟩
   replace h_a := h_a.below bn
   replace h_b := h_b.below bn
   replace h_ra := h_ra.below bn
   replace h_rb := h_rb.below bn
   replace HTab := Lib.hid (HTab.out.below bn)
   replace bw := below_two bw bn
   clear bn
   obtain ⟨t1, t2, t3, t4, L1_a, L2_a, D_a⟩ := qq_told h_a
   clear i_a j_a
   subst t1
   subst t2
   subst t3
   replace h_a := t4
   clear t4
   obtain ⟨t1, t2, t3, t4, L1_b, L2_b, D_b⟩ := qq_told h_b
   clear i_b j_b
   subst t1
   subst t2
   subst t3
   replace h_b := t4
   clear t4
   by_cases hT : n_a + n_b + m_a + m_b ≤ 40
   case neg =>
    have hsum : (40 : Int) < (n_a : Int) + (n_b : Int) + (m_a : Int) + (m_b : Int) := by omega
    clear hT
    have c_a1 := h_ra.c1
    have c_a2 := h_ra.c2
    have c_b1 := h_rb.c1
    have c_b2 := h_rb.c2
    go_wp2_with fail
    clear c_a1 c_a2 c_b1 c_b2
    refine (wakes_any _ HTab.out).mono ?_
    rintro e w7 ⟨rfl, bn⟩
    replace h_a := h_a.below bn
    replace h_b := h_b.below bn
    replace h_ra := h_ra.below bn
    replace h_rb := h_rb.below bn
    replace HTab := Lib.hid (HTab.out.below bn)
    replace bw := below_two bw bn
    clear bn
    go_wp2
    go_ret
    exact ⟨rfl, bw⟩
   have hsum : (n_a : Int) + (n_b : Int) + (m_a : Int) + (m_b : Int) ≤ (40 : Int) := by omega
   have HB_a : RowKit.Hid (Bd z_a 40 40) := D_a.mono (by omega) (by omega)
   have HM_a : RowKit.Hid (Bd (movedQ z_a N) 43 43) := moved_bd HB_a.out (by omega)
   have HB_b : RowKit.Hid (Bd z_b 40 40) := D_b.mono (by omega) (by omega)
   have HM_b : RowKit.Hid (Bd (movedQ z_b N) 43 43) := moved_bd HB_b.out (by omega)
   obtain ⟨c, hc⟩ : ∃ c, cmpR (some z_a) (some z_b) = c := ⟨_, rfl⟩
   have HC := Lib.hid hc
   clear hc
   clear hT
   have c_a0 := h_ra.c0
   have c_a1 := h_ra.c1
   have c_a2 := h_ra.c2
   have c_b0 := h_rb.c0
   have c_b1 := h_rb.c1
   have c_b2 := h_rb.c2
   go_wp2_with fail
   clear c_a0 c_a1 c_a2 c_b0 c_b1 c_b2
   refine (rCmp_c h_a h_b (by decide) (by decide) c HC.out).mono ?_
   rintro e w8 ⟨rfl, bn⟩
   replace h_a := h_a.below bn
   replace h_b := h_b.below bn
   replace h_ra := h_ra.below bn
   replace h_rb := h_rb.below bn
   replace HTab := Lib.hid (HTab.out.below bn)
   replace bw := below_two bw bn
   clear bn
   by_cases hgt : 0 < c
   · have hle : z_b ≤ z_a := by
      rcases rat_tri z_a z_b with h | h | h
      · rw [show c = -1 from HC.out.symm.trans (cmpQ_lt h)] at hgt; omega
      · rw [h]; exact Rat.le_refl
      · exact Rat.le_of_lt h
     have HNE : RowKit.Hid (q_a ≠ q_b) := by show _ ≠ _; rw [HQ_a.out, HQ_b.out]; omega
     have HGA : w.heap.size ≤ q_a := by rw [HQ_a.out]; exact Nat.le_refl _
     have HGB : w.heap.size ≤ q_b := by rw [HQ_b.out]; omega
     have hNo_a := h_ra.noLimb (by intro v e; cases e) (by intro v e; cases e) (by intro v e; cases e)
     have hNo_b := h_rb.noLimb (by intro v e; cases e) (by intro v e; cases e) (by intro v e; cases e)
     have c_a0 := h_ra.c0
     have c_a1 := h_ra.c1
     have c_a2 := h_ra.c2
     have c_b0 := h_rb.c0
     have c_b1 := h_rb.c1
     have c_b2 := h_rb.c2
     have f_a0 := h_ra.free 0
     have f_a1 := h_ra.free 1
     have f_a2 := h_ra.free 2
     have f_b0 := h_rb.free 0
     have f_b1 := h_rb.free 1
     have f_b2 := h_rb.free 2
     have k_a1 := h_ra.fill (.bool (sg (oTop (some z_b)))) (.slice A_b n_b c_b) (.slice B_b m_b d_b)
     have k_b1 := (((h_rb.set HNE.out 0 (.bool (sg (oTop (some z_b))))).set HNE.out 1 (.slice A_b n_b c_b)).set HNE.out 2 (.slice B_b m_b d_b))
     have hNo_b1 := k_b1.noLimb (by intro v e; cases e) (by intro v e; cases e) (by intro v e; cases e)
     have mm_a := QQ.fillR3 (QQ.fillR3 h_a hNo_a (.bool (sg (oTop (some z_b)))) (.slice A_b n_b c_b) (.slice B_b m_b d_b)) hNo_b1 (.bool (sg (oTop (some z_a)))) (.slice A_a n_a c_a) (.slice B_a m_a d_a)
     have mm_b := QQ.fillR3 (QQ.fillR3 h_b hNo_a (.bool (sg (oTop (some z_b)))) (.slice A_b n_b c_b) (.slice B_b m_b d_b)) hNo_b1 (.bool (sg (oTop (some z_a)))) (.slice A_a n_a c_a) (.slice B_a m_a d_a)
     have k_b2 := k_b1.fill (.bool (sg (oTop (some z_a)))) (.slice A_a n_a c_a) (.slice B_a m_a d_a)
     have k_a2 := (((k_a1.set (Ne.symm HNE.out) 0 (.bool (sg (oTop (some z_a))))).set (Ne.symm HNE.out) 1 (.slice A_a n_a c_a)).set (Ne.symm HNE.out) 2 (.slice B_a m_a d_a))
     have bw3 := below_fill3' (below_fill3' bw HGA (.bool (sg (oTop (some z_b)))) (.slice A_b n_b c_b) (.slice B_b m_b d_b)) HGB (.bool (sg (oTop (some z_a)))) (.slice A_a n_a c_a) (.slice B_a m_a d_a)
     have e_b0 := k_b1.c0
     have g_b0 := k_b1.free 0
     have e_b1 := k_b1.c1
     have g_b1 := k_b1.free 1
     have e_b2 := k_b1.c2
     have g_b2 := k_b1.free 2
     have e_a0 := k_a2.c0
     have e_c0 := k_b2.c0
     have e_a1 := k_a2.c1
     have e_c1 := k_b2.c1
     have e_a2 := k_a2.c2
     have e_c2 := k_b2.c2
     have M_a := Lib.hid mm_a
     have M_b := Lib.hid mm_b
     have K_a := Lib.hid k_a2
     have K_b := Lib.hid k_b2
     have BW := Lib.hid bw3
     clear mm_a mm_b k_a2 k_b2 bw3 k_a1 k_b1 hNo_a hNo_b hNo_b1
     go_wp2_with fail
     clear c_a0 c_a1 c_a2 c_b0 c_b1 c_b2
     clear f_a0 f_a1 f_a2 f_b0 f_b1 f_b2 e_b0 g_b0 e_a0 e_c0 e_b1 g_b1 e_a1 e_c1 e_b2 g_b2 e_a2 e_c2
     clear h_a h_b h_ra h_rb bw HTab
     generalize (((((w8.setCell ⟨q_a, 0, none⟩ (.bool (sg (oTop (some z_b))))).setCell ⟨q_a, 1, none⟩ (.slice A_b n_b c_b)).setCell ⟨q_a, 2, none⟩ (.slice B_b m_b d_b)).setCell ⟨q_b, 0, none⟩ (.bool (sg (oTop (some z_a))))).setCell ⟨q_b, 1, none⟩ (.slice A_a n_a c_a)).setCell ⟨q_b, 2, none⟩ (.slice B_a m_a d_a) = w9 at *
     have h_a := M_a.out
     have h_b := M_b.out
     have h_rb := K_a.out
     have h_ra := K_b.out
     have bw := BW.out
     have HTab := Lib.hid (HT0.out.below bw)
     clear M_a M_b K_a K_b BW
     obtain ⟨x0, y0, E0, G0, J0⟩ := dorder_facts HB_b.out HB_a.out hle bN Rat.floor (.inl rfl)
     have RSX0 : RowKit.Hid (room (Rat.floor (movedQ z_b N))) := room_of (HM_b.out.mono (by omega) (by omega)) (Int.le_refl _) (by omega)
     obtain ⟨SX0, hSX0⟩ : ∃ S, strOf (pointT (Rat.floor (movedQ z_b (N))) (N)) = S := ⟨_, rfl⟩
     have HS_SX0 : RowKit.Hid (decR Rat.floor (some z_b) ((N : Int)) = (SX0, 0)) := decR_yes Rat.floor (by omega) hSX0
     have HT_SX0 := Lib.hid hSX0
     clear hSX0
     have RSY0 : RowKit.Hid (room (Rat.floor (movedQ z_a N))) := room_of (HM_a.out.mono (by omega) (by omega)) (Int.le_refl _) (by omega)
     obtain ⟨SY0, hSY0⟩ : ∃ S, strOf (pointT (Rat.floor (movedQ z_a (N))) (N)) = S := ⟨_, rfl⟩
     have HS_SY0 : RowKit.Hid (decR Rat.floor (some z_a) ((N : Int)) = (SY0, 0)) := decR_yes Rat.floor (by omega) hSY0
     have HT_SY0 := Lib.hid hSY0
     clear hSY0
     have E0 := Lib.hid E0
     have G0 := Lib.hid G0
     have J0 := Lib.hid J0
     obtain ⟨x1, y1, E1, G1, J1⟩ := dorder_facts HB_b.out HB_a.out hle bN Rat.ceil (.inr (.inl rfl))
     have RSX1 : RowKit.Hid (room (Rat.ceil (movedQ z_b N))) := room_of (HM_b.out.mono (by omega) (by omega)) (ceil_between _).1 (ceil_between _).2
     obtain ⟨SX1, hSX1⟩ : ∃ S, strOf (pointT (Rat.ceil (movedQ z_b (N))) (N)) = S := ⟨_, rfl⟩
     have HS_SX1 : RowKit.Hid (decR Rat.ceil (some z_b) ((N : Int)) = (SX1, 0)) := decR_yes Rat.ceil (by omega) hSX1
     have HT_SX1 := Lib.hid hSX1
     clear hSX1
     have RSY1 : RowKit.Hid (room (Rat.ceil (movedQ z_a N))) := room_of (HM_a.out.mono (by omega) (by omega)) (ceil_between _).1 (ceil_between _).2
     obtain ⟨SY1, hSY1⟩ : ∃ S, strOf (pointT (Rat.ceil (movedQ z_a (N))) (N)) = S := ⟨_, rfl⟩
     have HS_SY1 : RowKit.Hid (decR Rat.ceil (some z_a) ((N : Int)) = (SY1, 0)) := decR_yes Rat.ceil (by omega) hSY1
     have HT_SY1 := Lib.hid hSY1
     clear hSY1
     have E1 := Lib.hid E1
     have G1 := Lib.hid G1
     have J1 := Lib.hid J1
     obtain ⟨x2, y2, E2, G2, J2⟩ := dorder_facts HB_b.out HB_a.out hle bN nearQ (.inr (.inr rfl))
     have RSX2 : RowKit.Hid (room (nearQ (movedQ z_b N))) := room_of (HM_b.out.mono (by omega) (by omega)) (near_between _).1 (near_between _).2
     obtain ⟨SX2, hSX2⟩ : ∃ S, strOf (pointT (nearQ (movedQ z_b (N))) (N)) = S := ⟨_, rfl⟩
     have HS_SX2 : RowKit.Hid (decR nearQ (some z_b) ((N : Int)) = (SX2, 0)) := decR_yes nearQ (by omega) hSX2
     have HT_SX2 := Lib.hid hSX2
     clear hSX2
     have RSY2 : RowKit.Hid (room (nearQ (movedQ z_a N))) := room_of (HM_a.out.mono (by omega) (by omega)) (near_between _).1 (near_between _).2
     obtain ⟨SY2, hSY2⟩ : ∃ S, strOf (pointT (nearQ (movedQ z_a (N))) (N)) = S := ⟨_, rfl⟩
     have HS_SY2 : RowKit.Hid (decR nearQ (some z_a) ((N : Int)) = (SY2, 0)) := decR_yes nearQ (by omega) hSY2
     have HT_SY2 := Lib.hid hSY2
     clear hSY2
     have E2 := Lib.hid E2
     have G2 := Lib.hid G2
     have J2 := Lib.hid J2
     clear hle
     refine (dDown_c h_b (by decide) HTab.out (N : Int) (by omega) (by omega) SX0 0 HS_SX0.out).mono ?_
     rintro e w10 ⟨rfl, bn⟩
     replace h_a := h_a.below bn
     replace h_b := h_b.below bn
     replace h_ra := h_ra.below bn
     replace h_rb := h_rb.below bn
     replace HTab := Lib.hid (HTab.out.below bn)
     replace bw := below_two bw bn
     clear bn
     have c_a0 := h_ra.c0
     have c_a1 := h_ra.c1
     have c_a2 := h_ra.c2
     go_wp2_with fail
     clear c_a0 c_a1 c_a2
     refine (dDown_c h_a (by decide) HTab.out (N : Int) (by omega) (by omega) SY0 0 HS_SY0.out).mono ?_
     rintro e w11 ⟨rfl, bn⟩
     replace h_a := h_a.below bn
     replace h_b := h_b.below bn
     replace h_ra := h_ra.below bn
     replace h_rb := h_rb.below bn
     replace HTab := Lib.hid (HTab.out.below bn)
     replace bw := below_two bw bn
     clear bn
     have c_b0 := h_rb.c0
     have c_b1 := h_rb.c1
     have c_b2 := h_rb.c2
     go_wp2_with fail
     clear c_b0 c_b1 c_b2
     refine (dUp_c h_b (by decide) HTab.out (N : Int) (by omega) (by omega) SX1 0 HS_SX1.out).mono ?_
     rintro e w12 ⟨rfl, bn⟩
     replace h_a := h_a.below bn
     replace h_b := h_b.below bn
     replace h_ra := h_ra.below bn
     replace h_rb := h_rb.below bn
     replace HTab := Lib.hid (HTab.out.below bn)
     replace bw := below_two bw bn
     clear bn
     have c_a0 := h_ra.c0
     have c_a1 := h_ra.c1
     have c_a2 := h_ra.c2
     go_wp2_with fail
     clear c_a0 c_a1 c_a2
     refine (dUp_c h_a (by decide) HTab.out (N : Int) (by omega) (by omega) SY1 0 HS_SY1.out).mono ?_
     rintro e w13 ⟨rfl, bn⟩
     replace h_a := h_a.below bn
     replace h_b := h_b.below bn
     replace h_ra := h_ra.below bn
     replace h_rb := h_rb.below bn
     replace HTab := Lib.hid (HTab.out.below bn)
     replace bw := below_two bw bn
     clear bn
     have c_b0 := h_rb.c0
     have c_b1 := h_rb.c1
     have c_b2 := h_rb.c2
     go_wp2_with fail
     clear c_b0 c_b1 c_b2
     refine (dNear_c h_b (by decide) HTab.out (N : Int) (by omega) (by omega) SX2 0 HS_SX2.out).mono ?_
     rintro e w14 ⟨rfl, bn⟩
     replace h_a := h_a.below bn
     replace h_b := h_b.below bn
     replace h_ra := h_ra.below bn
     replace h_rb := h_rb.below bn
     replace HTab := Lib.hid (HTab.out.below bn)
     replace bw := below_two bw bn
     clear bn
     have c_a0 := h_ra.c0
     have c_a1 := h_ra.c1
     have c_a2 := h_ra.c2
     go_wp2_with fail
     clear c_a0 c_a1 c_a2
     refine (dNear_c h_a (by decide) HTab.out (N : Int) (by omega) (by omega) SY2 0 HS_SY2.out).mono ?_
     rintro e w15 ⟨rfl, bn⟩
     replace h_a := h_a.below bn
     replace h_b := h_b.below bn
     replace h_ra := h_ra.below bn
     replace h_rb := h_rb.below bn
     replace HTab := Lib.hid (HTab.out.below bn)
     replace bw := below_two bw bn
     clear bn
     go_wp2_with fail
     refine (below_c _ _ N (by omega) RSX0.out RSY0.out SX0 HT_SX0.out SY0 HT_SY0.out _ rfl _ HTab.out x0 y0 E0.out G0.out J0.out).mono ?_
     rintro e w16 ⟨rfl, bn⟩
     replace h_a := h_a.below bn
     replace h_b := h_b.below bn
     replace h_ra := h_ra.below bn
     replace h_rb := h_rb.below bn
     replace HTab := Lib.hid (HTab.out.below bn)
     replace bw := below_two bw bn
     clear bn
     go_wp2_with fail
     refine (below_c _ _ N (by omega) RSX1.out RSY1.out SX1 HT_SX1.out SY1 HT_SY1.out _ rfl _ HTab.out x1 y1 E1.out G1.out J1.out).mono ?_
     rintro e w17 ⟨rfl, bn⟩
     replace h_a := h_a.below bn
     replace h_b := h_b.below bn
     replace h_ra := h_ra.below bn
     replace h_rb := h_rb.below bn
     replace HTab := Lib.hid (HTab.out.below bn)
     replace bw := below_two bw bn
     clear bn
     go_wp2_with fail
     refine (below_c _ _ N (by omega) RSX2.out RSY2.out SX2 HT_SX2.out SY2 HT_SY2.out _ rfl _ HTab.out x2 y2 E2.out G2.out J2.out).mono ?_
     rintro e w18 ⟨rfl, bn⟩
     replace h_a := h_a.below bn
     replace h_b := h_b.below bn
     replace h_ra := h_ra.below bn
     replace h_rb := h_rb.below bn
     replace HTab := Lib.hid (HTab.out.below bn)
     replace bw := below_two bw bn
     clear bn
     go_wp2_with fail
     refine (wakes_any _ HTab.out).mono ?_
     rintro e w19 ⟨rfl, bn⟩
     replace h_a := h_a.below bn
     replace h_b := h_b.below bn
     replace h_ra := h_ra.below bn
     replace h_rb := h_rb.below bn
     replace HTab := Lib.hid (HTab.out.below bn)
     replace bw := below_two bw bn
     clear bn
     go_wp2
     go_ret
     exact ⟨rfl, bw⟩
   · have hle : z_a ≤ z_b := by
      rcases rat_tri z_a z_b with h | h | h
      · exact Rat.le_of_lt h
      · rw [h]; exact Rat.le_refl
      · rw [show c = 1 from HC.out.symm.trans (cmpQ_gt h)] at hgt; omega
     obtain ⟨x0, y0, E0, G0, J0⟩ := dorder_facts HB_a.out HB_b.out hle bN Rat.floor (.inl rfl)
     have RSX0 : RowKit.Hid (room (Rat.floor (movedQ z_a N))) := room_of (HM_a.out.mono (by omega) (by omega)) (Int.le_refl _) (by omega)
     obtain ⟨SX0, hSX0⟩ : ∃ S, strOf (pointT (Rat.floor (movedQ z_a (N))) (N)) = S := ⟨_, rfl⟩
     have HS_SX0 : RowKit.Hid (decR Rat.floor (some z_a) ((N : Int)) = (SX0, 0)) := decR_yes Rat.floor (by omega) hSX0
     have HT_SX0 := Lib.hid hSX0
     clear hSX0
     have RSY0 : RowKit.Hid (room (Rat.floor (movedQ z_b N))) := room_of (HM_b.out.mono (by omega) (by omega)) (Int.le_refl _) (by omega)
     obtain ⟨SY0, hSY0⟩ : ∃ S, strOf (pointT (Rat.floor (movedQ z_b (N))) (N)) = S := ⟨_, rfl⟩
     have HS_SY0 : RowKit.Hid (decR Rat.floor (some z_b) ((N : Int)) = (SY0, 0)) := decR_yes Rat.floor (by omega) hSY0
     have HT_SY0 := Lib.hid hSY0
     clear hSY0
     have E0 := Lib.hid E0
     have G0 := Lib.hid G0
     have J0 := Lib.hid J0
     obtain ⟨x1, y1, E1, G1, J1⟩ := dorder_facts HB_a.out HB_b.out hle bN Rat.ceil (.inr (.inl rfl))
     have RSX1 : RowKit.Hid (room (Rat.ceil (movedQ z_a N))) := room_of (HM_a.out.mono (by omega) (by omega)) (ceil_between _).1 (ceil_between _).2
     obtain ⟨SX1, hSX1⟩ : ∃ S, strOf (pointT (Rat.ceil (movedQ z_a (N))) (N)) = S := ⟨_, rfl⟩
     have HS_SX1 : RowKit.Hid (decR Rat.ceil (some z_a) ((N : Int)) = (SX1, 0)) := decR_yes Rat.ceil (by omega) hSX1
     have HT_SX1 := Lib.hid hSX1
     clear hSX1
     have RSY1 : RowKit.Hid (room (Rat.ceil (movedQ z_b N))) := room_of (HM_b.out.mono (by omega) (by omega)) (ceil_between _).1 (ceil_between _).2
     obtain ⟨SY1, hSY1⟩ : ∃ S, strOf (pointT (Rat.ceil (movedQ z_b (N))) (N)) = S := ⟨_, rfl⟩
     have HS_SY1 : RowKit.Hid (decR Rat.ceil (some z_b) ((N : Int)) = (SY1, 0)) := decR_yes Rat.ceil (by omega) hSY1
     have HT_SY1 := Lib.hid hSY1
     clear hSY1
     have E1 := Lib.hid E1
     have G1 := Lib.hid G1
     have J1 := Lib.hid J1
     obtain ⟨x2, y2, E2, G2, J2⟩ := dorder_facts HB_a.out HB_b.out hle bN nearQ (.inr (.inr rfl))
     have RSX2 : RowKit.Hid (room (nearQ (movedQ z_a N))) := room_of (HM_a.out.mono (by omega) (by omega)) (near_between _).1 (near_between _).2
     obtain ⟨SX2, hSX2⟩ : ∃ S, strOf (pointT (nearQ (movedQ z_a (N))) (N)) = S := ⟨_, rfl⟩
     have HS_SX2 : RowKit.Hid (decR nearQ (some z_a) ((N : Int)) = (SX2, 0)) := decR_yes nearQ (by omega) hSX2
     have HT_SX2 := Lib.hid hSX2
     clear hSX2
     have RSY2 : RowKit.Hid (room (nearQ (movedQ z_b N))) := room_of (HM_b.out.mono (by omega) (by omega)) (near_between _).1 (near_between _).2
     obtain ⟨SY2, hSY2⟩ : ∃ S, strOf (pointT (nearQ (movedQ z_b (N))) (N)) = S := ⟨_, rfl⟩
     have HS_SY2 : RowKit.Hid (decR nearQ (some z_b) ((N : Int)) = (SY2, 0)) := decR_yes nearQ (by omega) hSY2
     have HT_SY2 := Lib.hid hSY2
     clear hSY2
     have E2 := Lib.hid E2
     have G2 := Lib.hid G2
     have J2 := Lib.hid J2
     clear hle
     have c_a0 := h_ra.c0
     have c_a1 := h_ra.c1
     have c_a2 := h_ra.c2
     go_wp2_with fail
     clear c_a0 c_a1 c_a2
     refine (dDown_c h_a (by decide) HTab.out (N : Int) (by omega) (by omega) SX0 0 HS_SX0.out).mono ?_
     rintro e w20 ⟨rfl, bn⟩
     replace h_a := h_a.below bn
     replace h_b := h_b.below bn
     replace h_ra := h_ra.below bn
     replace h_rb := h_rb.below bn
     replace HTab := Lib.hid (HTab.out.below bn)
     replace bw := below_two bw bn
     clear bn
     have c_b0 := h_rb.c0
     have c_b1 := h_rb.c1
     have c_b2 := h_rb.c2
     go_wp2_with fail
     clear c_b0 c_b1 c_b2
     refine (dDown_c h_b (by decide) HTab.out (N : Int) (by omega) (by omega) SY0 0 HS_SY0.out).mono ?_
     rintro e w21 ⟨rfl, bn⟩
     replace h_a := h_a.below bn
     replace h_b := h_b.below bn
     replace h_ra := h_ra.below bn
     replace h_rb := h_rb.below bn
     replace HTab := Lib.hid (HTab.out.below bn)
     replace bw := below_two bw bn
     clear bn
     have c_a0 := h_ra.c0
     have c_a1 := h_ra.c1
     have c_a2 := h_ra.c2
     go_wp2_with fail
     clear c_a0 c_a1 c_a2
     refine (dUp_c h_a (by decide) HTab.out (N : Int) (by omega) (by omega) SX1 0 HS_SX1.out).mono ?_
     rintro e w22 ⟨rfl, bn⟩
     replace h_a := h_a.below bn
     replace h_b := h_b.below bn
     replace h_ra := h_ra.below bn
     replace h_rb := h_rb.below bn
     replace HTab := Lib.hid (HTab.out.below bn)
     replace bw := below_two bw bn
     clear bn
     have c_b0 := h_rb.c0
     have c_b1 := h_rb.c1
     have c_b2 := h_rb.c2
     go_wp2_with fail
     clear c_b0 c_b1 c_b2
     refine (dUp_c h_b (by decide) HTab.out (N : Int) (by omega) (by omega) SY1 0 HS_SY1.out).mono ?_
     rintro e w23 ⟨rfl, bn⟩
     replace h_a := h_a.below bn
     replace h_b := h_b.below bn
     replace h_ra := h_ra.below bn
     replace h_rb := h_rb.below bn
     replace HTab := Lib.hid (HTab.out.below bn)
     replace bw := below_two bw bn
     clear bn
     have c_a0 := h_ra.c0
     have c_a1 := h_ra.c1
     have c_a2 := h_ra.c2
     go_wp2_with fail
     clear c_a0 c_a1 c_a2
     refine (dNear_c h_a (by decide) HTab.out (N : Int) (by omega) (by omega) SX2 0 HS_SX2.out).mono ?_
     rintro e w24 ⟨rfl, bn⟩
     replace h_a := h_a.below bn
     replace h_b := h_b.below bn
     replace h_ra := h_ra.below bn
     replace h_rb := h_rb.below bn
     replace HTab := Lib.hid (HTab.out.below bn)
     replace bw := below_two bw bn
     clear bn
     have c_b0 := h_rb.c0
     have c_b1 := h_rb.c1
     have c_b2 := h_rb.c2
     go_wp2_with fail
     clear c_b0 c_b1 c_b2
     refine (dNear_c h_b (by decide) HTab.out (N : Int) (by omega) (by omega) SY2 0 HS_SY2.out).mono ?_
     rintro e w25 ⟨rfl, bn⟩
     replace h_a := h_a.below bn
     replace h_b := h_b.below bn
     replace h_ra := h_ra.below bn
     replace h_rb := h_rb.below bn
     replace HTab := Lib.hid (HTab.out.below bn)
     replace bw := below_two bw bn
     clear bn
     go_wp2_with fail
     refine (below_c _ _ N (by omega) RSX0.out RSY0.out SX0 HT_SX0.out SY0 HT_SY0.out _ rfl _ HTab.out x0 y0 E0.out G0.out J0.out).mono ?_
     rintro e w26 ⟨rfl, bn⟩
     replace h_a := h_a.below bn
     replace h_b := h_b.below bn
     replace h_ra := h_ra.below bn
     replace h_rb := h_rb.below bn
     replace HTab := Lib.hid (HTab.out.below bn)
     replace bw := below_two bw bn
     clear bn
     go_wp2_with fail
     refine (below_c _ _ N (by omega) RSX1.out RSY1.out SX1 HT_SX1.out SY1 HT_SY1.out _ rfl _ HTab.out x1 y1 E1.out G1.out J1.out).mono ?_
     rintro e w27 ⟨rfl, bn⟩
     replace h_a := h_a.below bn
     replace h_b := h_b.below bn
     replace h_ra := h_ra.below bn
     replace h_rb := h_rb.below bn
     replace HTab := Lib.hid (HTab.out.below bn)
     replace bw := below_two bw bn
     clear bn
     go_wp2_with fail
     refine (below_c _ _ N (by omega) RSX2.out RSY2.out SX2 HT_SX2.out SY2 HT_SY2.out _ rfl _ HTab.out x2 y2 E2.out G2.out J2.out).mono ?_
     rintro e w28 ⟨rfl, bn⟩
     replace h_a := h_a.below bn
     replace h_b := h_b.below bn
     replace h_ra := h_ra.below bn
     replace h_rb := h_rb.below bn
     replace HTab := Lib.hid (HTab.out.below bn)
     replace bw := below_two bw bn
     clear bn
     go_wp2_with fail
     refine (wakes_any _ HTab.out).mono ?_
     rintro e w29 ⟨rfl, bn⟩
     replace h_a := h_a.below bn
     replace h_b := h_b.below bn
     replace h_ra := h_ra.below bn
     replace h_rb := h_rb.below bn
     replace HTab := Lib.hid (HTab.out.below bn)
     replace bw := below_two bw bn
     clear bn
     go_wp2
     go_ret
     exact ⟨rfl, bw⟩
theorem tab_of {W : World} (h : laidMet Tryz.prog Rows.decimalOrderRow.laid W) : Tab W := by
 refine ⟨?_, ?_⟩
 · first | exact powers_tab (laidMet_drop 0 h) (by decide +kernel) | exact powers_tab (laidMet_drop 1 h) (by decide +kernel) | exact powers_tab (laidMet_drop 2 h) (by decide +kernel) | exact powers_tab (laidMet_drop 3 h) (by decide +kernel) | exact powers_tab (laidMet_drop 4 h) (by decide +kernel) | exact powers_tab (laidMet_drop 5 h) (by decide +kernel) | exact powers_tab (laidMet_drop 6 h) (by decide +kernel) | exact powers_tab (laidMet_drop 7 h) (by decide +kernel) | exact powers_tab (laidMet_drop 8 h) (by decide +kernel) | exact powers_tab (laidMet_drop 9 h) (by decide +kernel) | exact powers_tab (laidMet_drop 10 h) (by decide +kernel) | exact powers_tab (laidMet_drop 11 h) (by decide +kernel) | exact powers_tab (laidMet_drop 12 h) (by decide +kernel) | exact powers_tab (laidMet_drop 13 h) (by decide +kernel)
 · first | exact err_tab (laidMet_drop 0 h) (by decide +kernel) | exact err_tab (laidMet_drop 1 h) (by decide +kernel) | exact err_tab (laidMet_drop 2 h) (by decide +kernel) | exact err_tab (laidMet_drop 3 h) (by decide +kernel) | exact err_tab (laidMet_drop 4 h) (by decide +kernel) | exact err_tab (laidMet_drop 5 h) (by decide +kernel) | exact err_tab (laidMet_drop 6 h) (by decide +kernel) | exact err_tab (laidMet_drop 7 h) (by decide +kernel) | exact err_tab (laidMet_drop 8 h) (by decide +kernel) | exact err_tab (laidMet_drop 9 h) (by decide +kernel) | exact err_tab (laidMet_drop 10 h) (by decide +kernel) | exact err_tab (laidMet_drop 11 h) (by decide +kernel) | exact err_tab (laidMet_drop 12 h) (by decide +kernel) | exact err_tab (laidMet_drop 13 h) (by decide +kernel)
set_option maxRecDepth 100000 in
theorem lifted (os : Os) (started : os.Started) (H : Type) (enc : TypeId × Value → H) :
 ReturnsInHanded {} Tryz.checked os 8 .any (fun w args => (Rows.decimalOrderSpec.pre enc Tryz.prog Tryz.f8 [] false w args ∧ laidMetH Tryz.prog Rows.decimalOrderRow.laid w) ∧ sizedMet enc Tryz.prog Tryz.f8 (OpenSpec.ofChange Rows.decimalOrderSpec) false w args)
  (Rows.decimalOrderSpec.post enc Tryz.prog Tryz.f8 false true false false) := by
 refine returnsInHanded_of_change_and (C := Tryz.checked) (X := fun w _ => laidMetH Tryz.prog Rows.decimalOrderRow.laid w) (fun _ _ _ hh h => h.of_heap hh) own started (by kernel_rfl) Tryz.func8
  (ChangeSpec.witness_shaped (enc := enc) (C := Tryz.checked) (os := os) (X := fun w _ => laidMetH Tryz.prog Rows.decimalOrderRow.laid w) false (World.laidAll Tryz.prog os Rows.decimalOrderRow.laid) #[.agg #[.bool false, .slice none 0 0, .slice none 0 0], .agg #[.bool false, .slice none 0 0, .slice none 0 0], .int .u8 0] 8 (World.laidAll_os _ _ _)
    (World.shaped_of_ZipB (by kernel_rfl) (by kernel_rfl)) (by kernel_rfl) (by kernel_rfl) (by kernel_rfl)
    (by rw [MakeChecks.laidMetH_plain _ _ _ (by kernel_rfl)]; exact laidMet_laidAll _ (by kernel_rfl) (by kernel_rfl))) ?_
 intro W base args ds gs before hval0 hW _ _ hL _
 have hval : ∀ (j : Nat) t v, Tryz.f8.params[j]? = some t → args[j]? = some v → Value.okWide Tryz.prog W .any base t v := hval0
 have hW' := hW
 obtain ⟨p, q, hA0, hV, rfl, hfz, hnd⟩ := hW
 have hA : DataW.TrodAll enc Tryz.prog W 0 (fun _ => true) true Tryz.f8.params.toList args.toList ds p := hA0
 rw [Tryz.params8] at hA hval
 obtain ⟨v0, vs0, d0, ds0, p0, q0, hargs, rfl, rfl, h0, r0⟩ := trodAll_cons hA
 obtain ⟨v1, vs1, d1, ds1, p1, q1, rfl, rfl, rfl, h1, r1⟩ := trodAll_cons r0
 obtain ⟨v2, vs2, d2, ds2, p2, q2, rfl, rfl, rfl, h2, r2⟩ := trodAll_cons r1
 obtain ⟨rfl, rfl, rfl⟩ := trodAll_nil r2
 obtain rfl : args = #[v0, v1, v2] := by cases args; simp_all
 obtain ⟨rfl, rfl⟩ := trodVars_none hV
 obtain ⟨b0, a0, len0, cap0, z0, e0, lem0, dap0, y0, rfl, i0, hc0, hm0, k0, kc0, km0⟩ := open_rat (hval 0 27 v0 rfl rfl) h0
 obtain ⟨b1, a1, len1, cap1, z1, e1, lem1, dap1, y1, rfl, i1, hc1, hm1, k1, kc1, km1⟩ := open_rat (hval 1 27 v1 rfl rfl) h1
 obtain ⟨a2, rfl, rfl, rfl, w2⟩ := open_int Tryz.underlying5 (hval 2 5 v2 rfl rfl) h2
 clear hA0 hval0
 simp only [List.append_nil] at hW'
 rw [MakeChecks.laidMetH_plain _ _ _ (by kernel_rfl)] at hL
 refine (walk b0 a0 len0 cap0 z0 e0 lem0 dap0 y0 b1 a1 len1 cap1 z1 e1 lem1 dap1 y1 a2 W i0 hc0 hm0 k0 kc0 km0 i1 hc1 hm1 k1 kc1 km1 w2 (tab_of hL)).mono fun e W' ⟨he, bel⟩ => ?_
 subst he
 exact ⟨_, rfl, _, _, _, [], _, [], hW', trodAll_mk1 (shut_bool Tryz.underlying4 _), (trodAll_cons_mk (Below.trod laidOut (by kernel_rfl) (of_decide_eq_true (by kernel_rfl)) h0 bel (places_lt h0)) (trodAll_cons_mk (Below.trod laidOut (by kernel_rfl) (of_decide_eq_true (by kernel_rfl)) h1 bel (places_lt h1)) (trodAll_cons_mk (shut_int Tryz.underlying5 w2) trodAll_mk0))), rfl, bel.frame _, fun h => by cases h⟩
theorem over : Rows.decimalOrderRow.holds Tryz.pinned (OpenSpec.ofChange Rows.decimalOrderSpec) :=
 OpenClaim.holds_of_wide 8 Tryz.f8 rfl rfl rfl rfl rfl rfl rfl ⟨rfl, rfl, rfl, rfl, rfl⟩ rfl rfl rfl rfl rfl (by kernel_rfl) Tryz.func8 (by kernel_rfl)
  (of_decide_eq_true (by kernel_rfl)) (by unfold Func.isWrapper; first | (rw [if_pos (by decide +kernel)]; kernel_rfl) | (rw [if_neg (by decide +kernel)]; exact ⟨rfl, rfl⟩))
  (fun os started H enc _ => lifted os started H enc)
theorem proved : Rows.DecimalOrderCardSaid :=
 Claim7.holds_tied_plain_at .later [] Rows.decimalOrderCard.laidKinds true Rows.decimalOrderCard.stood.harness Rows.decimalOrderCard.stood.looks
  over (fun _ h => by cases h) (by kernel_rfl) (fun _ h => by cases h) decimalOrder_row_tie rfl ⟨rfl, rfl⟩ (by kernel_rfl) rfl
  (fun f fn hf hfn => by
    obtain rfl : f = 8 := Option.some.inj ((show Tryz.prog.funcNamed Rows.decimalOrderRow.func = some 8 by kernel_rfl).symm.trans hf) |>.symm
    obtain rfl : fn = Tryz.f8 := (Option.some.inj (Tryz.func8.symm.trans hfn)).symm
    exact ⟨by kernel_rfl, fun j t ht => by
     have hm : t ∈ Tryz.f8.params.toList := by simpa using Array.mem_of_getElem? ht
     have hall : (Tryz.f8.params.toList.all fun u => !Tryz.prog.wantsStandIn u) = true := by kernel_rfl
     exact (show Tryz.prog.wantsStandIn t = false by simpa using List.all_eq_true.1 hall t hm)⟩)
  (by kernel_rfl)
end Go.Proofs.YtjikaojffgjndaaGreatDoor.lawDecimalOrder
