/- Of any rational number of few limbs: rounded down it is not above, up not below, at most one in the last place apart; the nearest is one of them. Condition: the listed tables. -/
import Derived.Test.YtjikaojffgjndaaGreatDoorM11
import Derived.Test.YtjikaojffgjndaaGreatDoorCards
import Derived.Test.YtjikaojffgjndaaGreatDoorTie
import Derived.ChangeMaps5
import Derived.Lay
import Derived.SevenTiedAt
/- Of any rational number of few limbs: rounded down it is not above, up not below, at most one in the last place apart; the nearest is one of them. Condition: the listed tables. -/
namespace Go.Proofs.YtjikaojffgjndaaGreatDoor.lawDecimalBounds
open Go.ChangeShapes Go.WideShapes Go.ChangeAt Go.RowKit Limb
set_option linter.unusedVariables false
theorem rNegT_c {w : World} {s : Bool} {A B : Option Addr} {n c m d : Nat} {xs ys : List Nat} {q : Rat} {L : Nat} (hx : QQ w s A n c xs B m d ys (some q) L) (h1 : L ≤ 1000) (r : Rat) (hr : -q = r) :
 Calls Tryz.prog 36 #[.agg #[.bool s, .slice A n c, .slice B m d]] w fun e w' => ∃ A2 n2 c2 B2 m2 d2, e = .returned (.agg #[.bool (sg (oTop (some r))), .slice A2 n2 c2, .slice B2 m2 d2]) ∧ QT w' A2 n2 c2 B2 m2 d2 (some r) ∧ Below w.heap.size w w' := by
 subst hr; exact rNeg_c hx h1
theorem rNegS_c {w : World} {s : Bool} {A B : Option Addr} {n c m d : Nat} {xs ys : List Nat} {q : Rat} {L : Nat} (hx : QQ w s A n c xs B m d ys (some q) L) (h1 : L ≤ 1000) :
 Calls Tryz.prog 36 #[.agg #[.bool s, .slice A n c, .slice B m d]] w fun e w' => ∃ A2 n2 c2 B2 m2 d2, e = .returned (.agg #[.bool (sg (oTop (some (-q)))), .slice A2 n2 c2, .slice B2 m2 d2]) ∧ QT w' A2 n2 c2 B2 m2 d2 (some (-q)) ∧ Below w.heap.size w w' := rNeg_c hx h1
set_option maxHeartbeats 4000000 in
set_option maxRecDepth 100000 in
theorem walk (g_a : Bool) (A_a : Option Addr) (n_a c_a : Nat) (xs_a : List Nat) (B_a : Option Addr) (m_a d_a : Nat) (ys_a : List Nat) (v_n : Int) (w : World) (i_a : IsN w A_a n_a xs_a) (hc_a : n_a ≤ c_a) (hm_a : c_a ≤ maxLen) (j_a : IsN w B_a m_a ys_a) (kc_a : m_a ≤ d_a) (km_a : d_a ≤ maxLen) (f_n : (Lit.int .u8 v_n).wf = true) (T : Tab w) :
 Calls Tryz.prog 5 #[.agg #[.bool g_a, .slice A_a n_a c_a, .slice B_a m_a d_a], .int .u8 v_n] w fun e w' => e = .returned (.bool true) ∧ Below w.heap.size w w' := by
 have HTab := Lib.hid T
 clear T
 have hw_n : 0 ≤ v_n ∧ v_n ≤ 255 := by
  have e1 : IntKind.u8.min = 0 := rfl
  have e2 : IntKind.u8.max = 255 := rfl
  simp only [Lit.wf, Bool.and_eq_true, decide_eq_true_eq] at f_n
  omega
 obtain ⟨w0_n, w1_n⟩ := hw_n
 clear f_n
 obtain ⟨N, eN⟩ : ∃ N : Nat, v_n % 20 = (N : Int) := ⟨(v_n % 20).toNat, by omega⟩
 have bN : N < 20 := by omega
 have KL_a : max n_a m_a ≤ 9223372036854775807 := by
  have e : maxLen = 9223372036854775807 := by decide
  omega
 have h_a := QQ.of (s := g_a) i_a hc_a j_a kc_a (Nat.le_max_left n_a m_a) (Nat.le_max_right n_a m_a)
 generalize readQ g_a xs_a ys_a = o_a at h_a
 have bw := bel_refl w
 have h_ra := row3_new w 27 (.bool g_a) (.slice A_a n_a c_a) (.slice B_a m_a d_a)
 have bn := below_new w (.cells #[Value.bool g_a, Value.slice A_a n_a c_a, Value.slice B_a m_a d_a] 27)
 replace h_a := h_a.below bn
 replace HTab := Lib.hid (HTab.out.below bn)
 replace bw := below_two bw bn
 clear bn
 go_enter Tryz.func5, Tryz.ntmps5
 go_wp2_with fail
 generalize w.alloc (.cells #[Value.bool g_a, Value.slice A_a n_a c_a, Value.slice B_a m_a d_a] 27) = wP at *
 obtain ⟨q_a, eg⟩ : ∃ g, g = w.heap.size := ⟨_, rfl⟩
 rw [← eg] at h_ra ⊢
 clear eg
 cases o_a with
 | none =>
  refine (refGood_c h_a KL_a false rfl).mono ?_
  rintro e w1 ⟨rfl, bn⟩
  replace h_a := h_a.below bn
  replace h_ra := h_ra.below bn
  replace HTab := Lib.hid (HTab.out.below bn)
  replace bw := below_two bw bn
  clear bn
  go_wp2_with fail
  refine (wakes_any _ HTab.out).mono ?_
  rintro e w2 ⟨rfl, bn⟩
  replace h_a := h_a.below bn
  replace h_ra := h_ra.below bn
  replace HTab := Lib.hid (HTab.out.below bn)
  replace bw := below_two bw bn
  clear bn
  go_wp2
  go_ret
  exact ⟨rfl, bw⟩
 | some z_a =>
  refine (refGood_c h_a KL_a true rfl).mono ?_
  rintro e w3 ⟨rfl, bn⟩
  replace h_a := h_a.below bn
  replace h_ra := h_ra.below bn
  replace HTab := Lib.hid (HTab.out.below bn)
  replace bw := below_two bw bn
  clear bn
  obtain ⟨t1, t2, t3, t4, L1_a, L2_a, D_a⟩ := qq_told h_a
  clear i_a j_a
  subst t1
  subst t2
  subst t3
  replace h_a := t4
  clear t4
  by_cases l_0 : 20 < n_a
  case pos =>
   have LL : (20 : Int) < n_a := by omega
   clear l_0
   have c_a0 := h_ra.c0
   have c_a1 := h_ra.c1
   have c_a2 := h_ra.c2
   go_wp2_with fail
   clear c_a0 c_a1 c_a2
   refine (wakes_any _ HTab.out).mono ?_
   rintro e w4 ⟨rfl, bn⟩
   replace h_a := h_a.below bn
   replace h_ra := h_ra.below bn
   replace HTab := Lib.hid (HTab.out.below bn)
   replace bw := below_two bw bn
   clear bn
   go_wp2
   go_ret
   exact ⟨rfl, bw⟩
  have LL_0 : (n_a : Int) ≤ 20 := by omega
  clear l_0
  by_cases l_1 : 20 < m_a
  case pos =>
   have LL : (20 : Int) < m_a := by omega
   clear l_1
   have c_a0 := h_ra.c0
   have c_a1 := h_ra.c1
   have c_a2 := h_ra.c2
   go_wp2_with fail
   clear c_a0 c_a1 c_a2
   refine (wakes_any _ HTab.out).mono ?_
   rintro e w5 ⟨rfl, bn⟩
   replace h_a := h_a.below bn
   replace h_ra := h_ra.below bn
   replace HTab := Lib.hid (HTab.out.below bn)
   replace bw := below_two bw bn
   clear bn
   go_wp2
   go_ret
   exact ⟨rfl, bw⟩
  have LL_1 : (m_a : Int) ≤ 20 := by omega
  clear l_1
  have HBD : RowKit.Hid (Bd z_a 20 20) := D_a.mono (by omega) (by omega)
  have HBM : RowKit.Hid (Bd (movedQ z_a N) 23 23) := moved_bd HBD.out (by omega)
  obtain ⟨z_lo, z_hi, z_mid, z_g, z_st, z_w, z_v, F0, F1, F2, F3, F4, F5, F6, F7, F8, F9, F10, F11, F12⟩ := bounds_facts HBD.out bN
  have HR0 : RowKit.Hid (room (Rat.floor (movedQ z_a N))) := room_of (HBM.out.mono (by omega) (by omega)) (Int.le_refl _) (by omega)
  have HR1 : RowKit.Hid (room (Rat.ceil (movedQ z_a N))) := room_of (HBM.out.mono (by omega) (by omega)) (ceil_between _).1 (ceil_between _).2
  have HR2 : RowKit.Hid (room (nearQ (movedQ z_a N))) := room_of (HBM.out.mono (by omega) (by omega)) (near_between _).1 (near_between _).2
  obtain ⟨SD, hSD⟩ : ∃ S, strOf (pointT (Rat.floor (movedQ z_a (N))) (N)) = S := ⟨_, rfl⟩
  have HS_SD : RowKit.Hid (decR Rat.floor (some z_a) ((N : Int)) = (SD, 0)) := decR_yes Rat.floor (by omega) hSD
  have HT_SD := Lib.hid hSD
  clear hSD
  obtain ⟨SU, hSU⟩ : ∃ S, strOf (pointT (Rat.ceil (movedQ z_a (N))) (N)) = S := ⟨_, rfl⟩
  have HS_SU : RowKit.Hid (decR Rat.ceil (some z_a) ((N : Int)) = (SU, 0)) := decR_yes Rat.ceil (by omega) hSU
  have HT_SU := Lib.hid hSU
  clear hSU
  obtain ⟨SM, hSM⟩ : ∃ S, strOf (pointT (nearQ (movedQ z_a (N))) (N)) = S := ⟨_, rfl⟩
  have HS_SM : RowKit.Hid (decR nearQ (some z_a) ((N : Int)) = (SM, 0)) := decR_yes nearQ (by omega) hSM
  have HT_SM := Lib.hid hSM
  clear hSM
  obtain ⟨c1, hc1⟩ : ∃ c, cmpR (some z_lo) (some z_a) = c := ⟨_, rfl⟩
  try rw [hc1] at F5
  try rw [hc1] at F6
  try rw [hc1] at F7
  try rw [hc1] at F11
  try rw [hc1] at F12
  have Hc1 := Lib.hid hc1
  clear hc1
  obtain ⟨c2, hc2⟩ : ∃ c, cmpR (some z_hi) (some z_a) = c := ⟨_, rfl⟩
  try rw [hc2] at F5
  try rw [hc2] at F6
  try rw [hc2] at F7
  try rw [hc2] at F11
  try rw [hc2] at F12
  have Hc2 := Lib.hid hc2
  clear hc2
  obtain ⟨cg, hcg⟩ : ∃ c, cmpR (some z_g) (some 0) = c := ⟨_, rfl⟩
  try rw [hcg] at F5
  try rw [hcg] at F6
  try rw [hcg] at F7
  try rw [hcg] at F11
  try rw [hcg] at F12
  have Hcg := Lib.hid hcg
  clear hcg
  obtain ⟨c3, hc3⟩ : ∃ c, cmpR (some z_v) (some z_st) = c := ⟨_, rfl⟩
  try rw [hc3] at F5
  try rw [hc3] at F6
  try rw [hc3] at F7
  try rw [hc3] at F11
  try rw [hc3] at F12
  have Hc3 := Lib.hid hc3
  clear hc3
  obtain ⟨c4, hc4⟩ : ∃ c, cmpR (some (-z_v)) (some z_st) = c := ⟨_, rfl⟩
  try rw [hc4] at F5
  try rw [hc4] at F6
  try rw [hc4] at F7
  try rw [hc4] at F11
  try rw [hc4] at F12
  have Hc4 := Lib.hid hc4
  clear hc4
  have hb1 := cmpQ_bounds z_lo z_a
  rw [show cmpQ z_lo z_a = c1 from Hc1.out] at hb1
  have F0 := Lib.hid F0
  have F1 := Lib.hid F1
  have F2 := Lib.hid F2
  have F3 := Lib.hid F3
  have F4 := Lib.hid F4
  have F9 := Lib.hid F9
  have F10 := Lib.hid F10
  have g2 : decide (c2 < 0) = false := decide_eq_false (by omega)
  have g3 : decide (c3 ≤ 0) = true := decide_eq_true F11
  have g4 : decide (c4 ≤ 0) = true := decide_eq_true F12
  have hcase : (c1 = 0 ∧ cg = 0 ∧ SU = SD ∧ SM = SD) ∨ (c1 = -1 ∧ (cg == 0) = false ∧ z_g = z_st ∧ SM = SD) ∨ (c1 = -1 ∧ (cg == 0) = false ∧ z_g = z_st ∧ SM = SU ∧ (SU.toList == SD.toList) = false) := by
   rcases F7 with ⟨u1, u2, u3⟩ | ⟨u1, u2, u3, u4⟩
   · left
     refine ⟨u3, u2, ?_, ?_⟩
     · rw [← HT_SU.out, ← HT_SD.out, u1]
     · rw [← HT_SM.out, ← HT_SD.out]
       rcases F8 with u4 | u4
       · rw [u4]
       · rw [u4, u1]
   · have v1 : c1 = -1 := by omega
     have v2 : (cg == 0) = false := by rw [beq_eq_false_iff_ne]; exact u2
     rcases F8 with u5 | u5
     · right; left
       exact ⟨v1, v2, u3, by rw [← HT_SM.out, ← HT_SD.out, u5]⟩
     · right; right
       refine ⟨v1, v2, u3, by rw [← HT_SM.out, ← HT_SU.out, u5], ?_⟩
       rw [← HT_SU.out, ← HT_SD.out, str_beq (point_bytes _ _) (point_bytes _ _), decide_eq_false_iff_not]
       intro h
       have := point_inj h
       omega
  have HCase := Lib.hid hcase
  clear hcase F5 F6 F7 F8 F11 F12 hb1
  have c_a0 := h_ra.c0
  have c_a1 := h_ra.c1
  have c_a2 := h_ra.c2
  go_wp2_with fail
  clear c_a0 c_a1 c_a2
  refine (dDown_c h_a (by decide) HTab.out (N : Int) (by omega) (by omega) SD 0 HS_SD.out).mono ?_
  rintro e w6 ⟨rfl, bn⟩
  replace h_a := h_a.below bn
  replace h_ra := h_ra.below bn
  replace HTab := Lib.hid (HTab.out.below bn)
  replace bw := below_two bw bn
  clear bn
  have c_a0 := h_ra.c0
  have c_a1 := h_ra.c1
  have c_a2 := h_ra.c2
  go_wp2_with fail
  clear c_a0 c_a1 c_a2
  refine (dUp_c h_a (by decide) HTab.out (N : Int) (by omega) (by omega) SU 0 HS_SU.out).mono ?_
  rintro e w7 ⟨rfl, bn⟩
  replace h_a := h_a.below bn
  replace h_ra := h_ra.below bn
  replace HTab := Lib.hid (HTab.out.below bn)
  replace bw := below_two bw bn
  clear bn
  have c_a0 := h_ra.c0
  have c_a1 := h_ra.c1
  have c_a2 := h_ra.c2
  go_wp2_with fail
  clear c_a0 c_a1 c_a2
  refine (dNear_c h_a (by decide) HTab.out (N : Int) (by omega) (by omega) SM 0 HS_SM.out).mono ?_
  rintro e w8 ⟨rfl, bn⟩
  replace h_a := h_a.below bn
  replace h_ra := h_ra.below bn
  replace HTab := Lib.hid (HTab.out.below bn)
  replace bw := below_two bw bn
  clear bn
  go_wp2_with fail
  refine (number_c _ N (by omega) HR0.out SD HT_SD.out _ rfl _ HTab.out _ F0.out).mono ?_
  rintro e w9 ⟨A_lo, n_lo, c_lo, B_lo, m_lo, d_lo, rfl, h_lo, bn⟩
  replace h_a := h_a.below bn
  replace h_ra := h_ra.below bn
  replace HTab := Lib.hid (HTab.out.below bn)
  replace bw := below_two bw bn
  clear bn
  have h_rlo := row3_new w9 27 (.bool (sg (oTop (some z_lo)))) (.slice A_lo n_lo c_lo) (.slice B_lo m_lo d_lo)
  have bn := below_new w9 (.cells #[Value.bool (sg (oTop (some z_lo))), Value.slice A_lo n_lo c_lo, Value.slice B_lo m_lo d_lo] 27)
  replace h_a := h_a.below bn
  replace h_ra := h_ra.below bn
  replace h_lo := h_lo.below bn
  replace HTab := Lib.hid (HTab.out.below bn)
  replace bw := below_two bw bn
  clear bn
  go_wp2_with fail
  generalize w9.alloc (.cells #[Value.bool (sg (oTop (some z_lo))), Value.slice A_lo n_lo c_lo, Value.slice B_lo m_lo d_lo] 27) = w10 at *
  obtain ⟨q_lo, eg⟩ : ∃ g, g = w9.heap.size := ⟨_, rfl⟩
  rw [← eg] at h_rlo ⊢
  clear eg
  refine (number_c _ N (by omega) HR1.out SU HT_SU.out _ rfl _ HTab.out _ F1.out).mono ?_
  rintro e w11 ⟨A_hi, n_hi, c_hi, B_hi, m_hi, d_hi, rfl, h_hi, bn⟩
  replace h_a := h_a.below bn
  replace h_ra := h_ra.below bn
  replace h_lo := h_lo.below bn
  replace h_rlo := h_rlo.below bn
  replace HTab := Lib.hid (HTab.out.below bn)
  replace bw := below_two bw bn
  clear bn
  have h_rhi := row3_new w11 27 (.bool (sg (oTop (some z_hi)))) (.slice A_hi n_hi c_hi) (.slice B_hi m_hi d_hi)
  have bn := below_new w11 (.cells #[Value.bool (sg (oTop (some z_hi))), Value.slice A_hi n_hi c_hi, Value.slice B_hi m_hi d_hi] 27)
  replace h_a := h_a.below bn
  replace h_ra := h_ra.below bn
  replace h_lo := h_lo.below bn
  replace h_rlo := h_rlo.below bn
  replace h_hi := h_hi.below bn
  replace HTab := Lib.hid (HTab.out.below bn)
  replace bw := below_two bw bn
  clear bn
  go_wp2_with fail
  generalize w11.alloc (.cells #[Value.bool (sg (oTop (some z_hi))), Value.slice A_hi n_hi c_hi, Value.slice B_hi m_hi d_hi] 27) = w12 at *
  obtain ⟨q_hi, eg⟩ : ∃ g, g = w11.heap.size := ⟨_, rfl⟩
  rw [← eg] at h_rhi ⊢
  clear eg
  refine (number_c _ N (by omega) HR2.out SM HT_SM.out _ rfl _ HTab.out _ F2.out).mono ?_
  rintro e w13 ⟨A_mid, n_mid, c_mid, B_mid, m_mid, d_mid, rfl, h_mid, bn⟩
  replace h_a := h_a.below bn
  replace h_ra := h_ra.below bn
  replace h_lo := h_lo.below bn
  replace h_rlo := h_rlo.below bn
  replace h_hi := h_hi.below bn
  replace h_rhi := h_rhi.below bn
  replace HTab := Lib.hid (HTab.out.below bn)
  replace bw := below_two bw bn
  clear bn
  have h_rmid := row3_new w13 27 (.bool (sg (oTop (some z_mid)))) (.slice A_mid n_mid c_mid) (.slice B_mid m_mid d_mid)
  have bn := below_new w13 (.cells #[Value.bool (sg (oTop (some z_mid))), Value.slice A_mid n_mid c_mid, Value.slice B_mid m_mid d_mid] 27)
  replace h_a := h_a.below bn
  replace h_ra := h_ra.below bn
  replace h_lo := h_lo.below bn
  replace h_rlo := h_rlo.below bn
  replace h_hi := h_hi.below bn
  replace h_rhi := h_rhi.below bn
  replace h_mid := h_mid.below bn
  replace HTab := Lib.hid (HTab.out.below bn)
  replace bw := below_two bw bn
  clear bn
  have c_hi0 := h_rhi.c0
  have c_hi1 := h_rhi.c1
  have c_hi2 := h_rhi.c2
  have c_lo0 := h_rlo.c0
  have c_lo1 := h_rlo.c1
  have c_lo2 := h_rlo.c2
  go_wp2_with fail
  clear c_hi0 c_hi1 c_hi2 c_lo0 c_lo1 c_lo2
  generalize w13.alloc (.cells #[Value.bool (sg (oTop (some z_mid))), Value.slice A_mid n_mid c_mid, Value.slice B_mid m_mid d_mid] 27) = w14 at *
  obtain ⟨q_mid, eg⟩ : ∃ g, g = w13.heap.size := ⟨_, rfl⟩
  rw [← eg] at h_rmid ⊢
  clear eg
  refine (rSub_c h_hi h_lo (by decide) (by decide) _ _ F3.out).mono ?_
  rintro e w15 ⟨A_gap, n_gap, c_gap, B_gap, m_gap, d_gap, rfl, h_gap, bn⟩
  replace h_a := h_a.below bn
  replace h_ra := h_ra.below bn
  replace h_lo := h_lo.below bn
  replace h_rlo := h_rlo.below bn
  replace h_hi := h_hi.below bn
  replace h_rhi := h_rhi.below bn
  replace h_mid := h_mid.below bn
  replace h_rmid := h_rmid.below bn
  replace HTab := Lib.hid (HTab.out.below bn)
  replace bw := below_two bw bn
  clear bn
  have h_rgap := row3_new w15 27 (.bool (sg (oTop (some z_g)))) (.slice A_gap n_gap c_gap) (.slice B_gap m_gap d_gap)
  have bn := below_new w15 (.cells #[Value.bool (sg (oTop (some z_g))), Value.slice A_gap n_gap c_gap, Value.slice B_gap m_gap d_gap] 27)
  replace h_a := h_a.below bn
  replace h_ra := h_ra.below bn
  replace h_lo := h_lo.below bn
  replace h_rlo := h_rlo.below bn
  replace h_hi := h_hi.below bn
  replace h_rhi := h_rhi.below bn
  replace h_mid := h_mid.below bn
  replace h_rmid := h_rmid.below bn
  replace h_gap := h_gap.below bn
  replace HTab := Lib.hid (HTab.out.below bn)
  replace bw := below_two bw bn
  clear bn
  go_wp2_with fail
  generalize w15.alloc (.cells #[Value.bool (sg (oTop (some z_g))), Value.slice A_gap n_gap c_gap, Value.slice B_gap m_gap d_gap] 27) = w16 at *
  obtain ⟨q_gap, eg⟩ : ∃ g, g = w15.heap.size := ⟨_, rfl⟩
  rw [← eg] at h_rgap ⊢
  clear eg
  refine (digTen_yes N _ rfl (by omega) _ HTab.out).mono ?_
  rintro e w17 ⟨A_t, n_t, c_t, rfl, h_t, bn⟩
  replace h_a := h_a.below bn
  replace h_ra := h_ra.below bn
  replace h_lo := h_lo.below bn
  replace h_rlo := h_rlo.below bn
  replace h_hi := h_hi.below bn
  replace h_rhi := h_rhi.below bn
  replace h_mid := h_mid.below bn
  replace h_rmid := h_rmid.below bn
  replace h_gap := h_gap.below bn
  replace h_rgap := h_rgap.below bn
  replace HTab := Lib.hid (HTab.out.below bn)
  replace bw := below_two bw bn
  clear bn
  go_wp2_with fail
  refine (wOf_c 1 (by decide) (by decide) _).mono ?_
  rintro e w18 ⟨A_o, n_o, c_o, rfl, h_o, bn⟩
  replace h_a := h_a.below bn
  replace h_ra := h_ra.below bn
  replace h_lo := h_lo.below bn
  replace h_rlo := h_rlo.below bn
  replace h_hi := h_hi.below bn
  replace h_rhi := h_rhi.below bn
  replace h_mid := h_mid.below bn
  replace h_rmid := h_rmid.below bn
  replace h_gap := h_gap.below bn
  replace h_rgap := h_rgap.below bn
  replace h_t := h_t.below bn
  replace HTab := Lib.hid (HTab.out.below bn)
  replace bw := below_two bw bn
  clear bn
  go_wp2_with fail
  refine (rOf_c h_o h_t (by decide) (by decide) _ _ F4.out).mono ?_
  rintro e w19 ⟨A_st, n_st, c_st, B_st, m_st, d_st, rfl, h_st, bn⟩
  replace h_a := h_a.below bn
  replace h_ra := h_ra.below bn
  replace h_lo := h_lo.below bn
  replace h_rlo := h_rlo.below bn
  replace h_hi := h_hi.below bn
  replace h_rhi := h_rhi.below bn
  replace h_mid := h_mid.below bn
  replace h_rmid := h_rmid.below bn
  replace h_gap := h_gap.below bn
  replace h_rgap := h_rgap.below bn
  replace h_t := h_t.below bn
  replace h_o := h_o.below bn
  replace HTab := Lib.hid (HTab.out.below bn)
  replace bw := below_two bw bn
  clear bn
  have h_rst := row3_new w19 27 (.bool (sg (oTop (some z_st)))) (.slice A_st n_st c_st) (.slice B_st m_st d_st)
  have bn := below_new w19 (.cells #[Value.bool (sg (oTop (some z_st))), Value.slice A_st n_st c_st, Value.slice B_st m_st d_st] 27)
  replace h_a := h_a.below bn
  replace h_ra := h_ra.below bn
  replace h_lo := h_lo.below bn
  replace h_rlo := h_rlo.below bn
  replace h_hi := h_hi.below bn
  replace h_rhi := h_rhi.below bn
  replace h_mid := h_mid.below bn
  replace h_rmid := h_rmid.below bn
  replace h_gap := h_gap.below bn
  replace h_rgap := h_rgap.below bn
  replace h_t := h_t.below bn
  replace h_o := h_o.below bn
  replace h_st := h_st.below bn
  replace HTab := Lib.hid (HTab.out.below bn)
  replace bw := below_two bw bn
  clear bn
  go_wp2
  generalize w19.alloc (.cells #[Value.bool (sg (oTop (some z_st))), Value.slice A_st n_st c_st, Value.slice B_st m_st d_st] 27) = w20 at *
  obtain ⟨q_st, eg⟩ : ∃ g, g = w19.heap.size := ⟨_, rfl⟩
  rw [← eg] at h_rst ⊢
  clear eg
  generalize w20 = wS at *
  rcases HCase.out with ⟨u1, u2, u3, u4⟩ | ⟨u1, u2, u3, u4⟩ | ⟨u1, u2, u3, u4, u5⟩
  · skip
    subst u1
    subst u2
    subst u3
    subst u4
    refine region_freeg 53 0 [121, 122, 123, 124, 125, 126, 127, 128, 129, 130, 131, 132, 133, 134, 135, 136, 137, 138, 139, 140, 141, 142, 143, 144, 145, 146, 147, 148, 149, 150, 151, 152, 153, 154, 155, 156, 157, 158, 159, 160, 161, 162, 163, 164, 165, 166, 167, 168, 169, 170, 171, 172, 173] ?aF17 (fun wx => Below wS.heap.size wS wx) (fun k vv wx => match k with
     | 0 => vv = .int .i64 0
     | 1 => vv = .bool false
     | 2 => vv = .bool false
     | 3 => vv = .bool true
     | 4 => vv = .bool false
     | 5 => vv = .bool false
     | 6 => vv = .bool false
     | 7 => vv = .int .i64 0
     | 8 => vv = .bool false
     | 9 => vv = .bool false
     | 10 => vv = .bool false
     | 11 => vv = .agg #[.bool (sg (oTop (some z_lo))), .slice A_lo n_lo c_lo, .slice B_lo m_lo d_lo]
     | 12 => vv = .agg #[.bool (sg (oTop (some z_a))), .slice A_a n_a c_a, .slice B_a m_a d_a]
     | 13 => vv = .int .i64 0
     | 14 => vv = .bool false
     | 15 => vv = .bool false
     | 16 => vv = .bool false
     | 17 => vv = .agg #[.bool (sg (oTop (some z_hi))), .slice A_hi n_hi c_hi, .slice B_hi m_hi d_hi]
     | 18 => vv = .agg #[.bool (sg (oTop (some z_a))), .slice A_a n_a c_a, .slice B_a m_a d_a]
     | 19 => vv = .int .i64 c2
     | 20 => vv = .bool false
     | 21 => vv = .bool false
     | 22 => vv = .bool false
     | 23 => vv = .agg #[.bool (sg (oTop (some z_g))), .slice A_gap n_gap c_gap, .slice B_gap m_gap d_gap]
     | 24 => vv = .int .i64 0
     | 25 => vv = .bool false
     | 26 => vv = .bool false
     | 27 => vv = undef
     | 28 => vv = undef
     | 29 => vv = undef
     | 30 => vv = undef
     | 31 => vv = .bool false
     | 32 => vv = .bool false
     | 33 => vv = .bool false
     | 34 => vv = .agg #[.bool (sg (oTop (some z_g))), .slice A_gap n_gap c_gap, .slice B_gap m_gap d_gap]
     | 35 => vv = .int .i64 0
     | 36 => vv = .bool true
     | 37 => vv = .agg #[.bool (sg (oTop (some z_lo))), .slice A_lo n_lo c_lo, .slice B_lo m_lo d_lo]
     | 38 => vv = .agg #[.bool (sg (oTop (some z_a))), .slice A_a n_a c_a, .slice B_a m_a d_a]
     | 39 => vv = .int .i64 0
     | 40 => vv = .bool true
     | 41 => vv = .bool false
     | 42 => vv = .bool false
     | 43 => vv = .bool false
     | 44 => vv = .string SM
     | 45 => vv = .string SM
     | 46 => vv = .bool false
     | 47 => vv = .bool false
     | 48 => vv = undef
     | 49 => vv = undef
     | 50 => vv = undef
     | 51 => vv = .bool false
     | _ => vv = .bool false)
     (fun k => false) (by kernel_rfl) ?haF17 rfl (by kernel_rfl) (by kernel_rfl) (fun _ _ _ _ _ h => h) ?hSb17 ?hPb17 ?hS17 ?hop17 ?hfin17
    case haF17 =>
     intro vals
     simp only [fillAll, List.getElem?_cons_zero, List.getElem?_cons_succ, Act.put, List.setIfInBounds_toArray, List.set_cons_zero, List.set_cons_succ]
     exact rfl
    case hSb17 => exact fun wx w2 hb hS => below_two hS hb
    case hPb17 =>
     intro k v wa wb hb h
     match k, h with
     | 0, h => exact h
     | 1, h => exact h
     | 2, h => exact h
     | 3, h => exact h
     | 4, h => exact h
     | 5, h => exact h
     | 6, h => exact h
     | 7, h => exact h
     | 8, h => exact h
     | 9, h => exact h
     | 10, h => exact h
     | 11, h => exact h
     | 12, h => exact h
     | 13, h => exact h
     | 14, h => exact h
     | 15, h => exact h
     | 16, h => exact h
     | 17, h => exact h
     | 18, h => exact h
     | 19, h => exact h
     | 20, h => exact h
     | 21, h => exact h
     | 22, h => exact h
     | 23, h => exact h
     | 24, h => exact h
     | 25, h => exact h
     | 26, h => exact h
     | 27, h => exact h
     | 28, h => exact h
     | 29, h => exact h
     | 30, h => exact h
     | 31, h => exact h
     | 32, h => exact h
     | 33, h => exact h
     | 34, h => exact h
     | 35, h => exact h
     | 36, h => exact h
     | 37, h => exact h
     | 38, h => exact h
     | 39, h => exact h
     | 40, h => exact h
     | 41, h => exact h
     | 42, h => exact h
     | 43, h => exact h
     | 44, h => exact h
     | 45, h => exact h
     | 46, h => exact h
     | 47, h => exact h
     | 48, h => exact h
     | 49, h => exact h
     | 50, h => exact h
     | 51, h => exact h
     | _ + 52, h => exact h
    case hS17 => exact (Below.refl _ _).drew
    case hop17 =>
     refine .cons (k := 0) (.plain rfl ?_) (.cons (k := 1) (.plain rfl ?_) (.cons (k := 2) (.plain rfl ?_) (.cons (k := 3) (.yes (fun vals wr hS hd g b e => by cases e; exact hd 2 (by decide +kernel)) ?_) (.cons (k := 4) (.yes (fun vals wr hS hd g b e => by cases e; exact hd 2 (by decide +kernel)) ?_) (.cons (k := 5) (.plain rfl ?_) (.cons (k := 6) (.plain rfl ?_) (.cons (k := 7) (.yes (fun vals wr hS hd g b e => by cases e; exact hd 6 (by decide +kernel)) ?_) (.cons (k := 8) (.yes (fun vals wr hS hd g b e => by cases e; exact hd 6 (by decide +kernel)) ?_) (.cons (k := 9) (.plain rfl ?_) (.cons (k := 10) (.plain rfl ?_) (.cons (k := 11) (.yes (fun vals wr hS hd g b e => by cases e; exact hd 10 (by decide +kernel)) ?_) (.cons (k := 12) (.yes (fun vals wr hS hd g b e => by cases e; exact hd 10 (by decide +kernel)) ?_) (.cons (k := 13) (.yes (fun vals wr hS hd g b e => by cases e; exact hd 10 (by decide +kernel)) ?_) (.cons (k := 14) (.yes (fun vals wr hS hd g b e => by cases e; exact hd 10 (by decide +kernel)) ?_) (.cons (k := 15) (.plain rfl ?_) (.cons (k := 16) (.plain rfl ?_) (.cons (k := 17) (.yes (fun vals wr hS hd g b e => by cases e; exact hd 16 (by decide +kernel)) ?_) (.cons (k := 18) (.yes (fun vals wr hS hd g b e => by cases e; exact hd 16 (by decide +kernel)) ?_) (.cons (k := 19) (.yes (fun vals wr hS hd g b e => by cases e; exact hd 16 (by decide +kernel)) ?_) (.cons (k := 20) (.yes (fun vals wr hS hd g b e => by cases e; exact hd 16 (by decide +kernel)) ?_) (.cons (k := 21) (.plain rfl ?_) (.cons (k := 22) (.plain rfl ?_) (.cons (k := 23) (.yes (fun vals wr hS hd g b e => by cases e; exact hd 22 (by decide +kernel)) ?_) (.cons (k := 24) (.yes (fun vals wr hS hd g b e => by cases e; exact hd 22 (by decide +kernel)) ?_) (.cons (k := 25) (.yes (fun vals wr hS hd g b e => by cases e; exact hd 22 (by decide +kernel)) ?_) (.cons (k := 26) (.yes (fun vals wr hS hd g b e => by cases e; exact hd 22 (by decide +kernel)) ?_) (.cons (k := 27) (.inr ⟨26, true, rfl, fun vals wr hS hd => hd 26 (by decide +kernel), fun _ _ => rfl, rfl⟩) (.cons (k := 28) (.inr ⟨26, true, rfl, fun vals wr hS hd => hd 26 (by decide +kernel), fun _ _ => rfl, rfl⟩) (.cons (k := 29) (.inr ⟨26, true, rfl, fun vals wr hS hd => hd 26 (by decide +kernel), fun _ _ => rfl, rfl⟩) (.cons (k := 30) (.inr ⟨26, true, rfl, fun vals wr hS hd => hd 26 (by decide +kernel), fun _ _ => rfl, rfl⟩) (.cons (k := 31) (.yes (fun vals wr hS hd g b e => by cases e; exact hd 22 (by decide +kernel)) ?_) (.cons (k := 32) (.plain rfl ?_) (.cons (k := 33) (.plain rfl ?_) (.cons (k := 34) (.yes (fun vals wr hS hd g b e => by cases e; exact hd 33 (by decide +kernel)) ?_) (.cons (k := 35) (.yes (fun vals wr hS hd g b e => by cases e; exact hd 33 (by decide +kernel)) ?_) (.cons (k := 36) (.yes (fun vals wr hS hd g b e => by cases e; exact hd 33 (by decide +kernel)) ?_) (.cons (k := 37) (.yes (fun vals wr hS hd g b e => by cases e; exact hd 33 (by decide +kernel)) ?_) (.cons (k := 38) (.yes (fun vals wr hS hd g b e => by cases e; exact hd 33 (by decide +kernel)) ?_) (.cons (k := 39) (.yes (fun vals wr hS hd g b e => by cases e; exact hd 33 (by decide +kernel)) ?_) (.cons (k := 40) (.yes (fun vals wr hS hd g b e => by cases e; exact hd 33 (by decide +kernel)) ?_) (.cons (k := 41) (.yes (fun vals wr hS hd g b e => by cases e; exact hd 33 (by decide +kernel)) ?_) (.cons (k := 42) (.plain rfl ?_) (.cons (k := 43) (.plain rfl ?_) (.cons (k := 44) (.yes (fun vals wr hS hd g b e => by cases e; exact hd 43 (by decide +kernel)) ?_) (.cons (k := 45) (.yes (fun vals wr hS hd g b e => by cases e; exact hd 43 (by decide +kernel)) ?_) (.cons (k := 46) (.yes (fun vals wr hS hd g b e => by cases e; exact hd 43 (by decide +kernel)) ?_) (.cons (k := 47) (.yes (fun vals wr hS hd g b e => by cases e; exact hd 43 (by decide +kernel)) ?_) (.cons (k := 48) (.inr ⟨47, true, rfl, fun vals wr hS hd => hd 47 (by decide +kernel), fun _ _ => rfl, rfl⟩) (.cons (k := 49) (.inr ⟨47, true, rfl, fun vals wr hS hd => hd 47 (by decide +kernel), fun _ _ => rfl, rfl⟩) (.cons (k := 50) (.inr ⟨47, true, rfl, fun vals wr hS hd => hd 47 (by decide +kernel), fun _ _ => rfl, rfl⟩) (.cons (k := 51) (.yes (fun vals wr hS hd g b e => by cases e; exact hd 43 (by decide +kernel)) ?_) (.cons (k := 52) (.plain rfl ?_) (.nil)))))))))))))))))))))))))))))))))))))))))))))))))))))
     all_goals intro vals wr hS hd KC hK
     all_goals (show Oper.wp _ _ _ _ _ _; dsimp only)
     · go_simp
       refine hK _ _ rfl (Below.refl _ _) (by first | rfl | simp) (fun h => by cases h)
     · have d0 : vals 0 = _ := hd 0 (by decide +kernel)
       rw [d0]
       go_simp
       refine hK _ _ rfl (Below.refl _ _) (by first | rfl | simp) (fun h => by cases h)
     · have d1 : vals 1 = _ := hd 1 (by decide +kernel)
       rw [d1]
       go_simp
       refine hK _ _ rfl (Below.refl _ _) (by first | rfl | simp) (fun h => by cases h)
     · go_simp
       refine hK _ _ rfl (Below.refl _ _) (by first | rfl | simp) (fun h => by cases h)
     · have d3 : vals 3 = _ := hd 3 (by decide +kernel)
       rw [d3]
       go_simp
       refine hK _ _ rfl (Below.refl _ _) (by first | rfl | simp) (fun h => by cases h)
     · have d2 : vals 2 = _ := hd 2 (by decide +kernel)
       have d4 : vals 4 = _ := hd 4 (by decide +kernel)
       rw [d2, d4]
       go_simp
       refine hK _ _ rfl (Below.refl _ _) (by first | rfl | simp) (fun h => by cases h)
     · have d5 : vals 5 = _ := hd 5 (by decide +kernel)
       rw [d5]
       go_simp
       refine hK _ _ rfl (Below.refl _ _) (by first | rfl | simp) (fun h => by cases h)
     · go_simp
       refine hK _ _ rfl (Below.refl _ _) (by first | rfl | simp) (fun h => by cases h)
     · have d7 : vals 7 = _ := hd 7 (by decide +kernel)
       rw [d7]
       go_simp
       refine hK _ _ rfl (Below.refl _ _) (by first | rfl | simp) (fun h => by cases h)
     · have d6 : vals 6 = _ := hd 6 (by decide +kernel)
       have d8 : vals 8 = _ := hd 8 (by decide +kernel)
       rw [d6, d8]
       go_simp
       refine hK _ _ rfl (Below.refl _ _) (by first | rfl | simp) (fun h => by cases h)
     · have d9 : vals 9 = _ := hd 9 (by decide +kernel)
       rw [d9]
       go_simp
       refine hK _ _ rfl (Below.refl _ _) (by first | rfl | simp) (fun h => by cases h)
     · have z0 := (h_rlo.below hS).c0
       have z1 := (h_rlo.below hS).c1
       have z2 := (h_rlo.below hS).c2
       go_simp
       refine hK _ _ rfl (Below.refl _ _) (by first | rfl | simp) (fun h => by cases h)
     · have z0 := (h_ra.below hS).c0
       have z1 := (h_ra.below hS).c1
       have z2 := (h_ra.below hS).c2
       go_simp
       refine hK _ _ rfl (Below.refl _ _) (by first | rfl | simp) (fun h => by cases h)
     · have d11 : vals 11 = _ := hd 11 (by decide +kernel)
       have d12 : vals 12 = _ := hd 12 (by decide +kernel)
       rw [d11, d12]
       go_simp
       go_at_call 33
       with_reducible refine (rCmp_c (h_lo.below hS) (h_a.below hS) (by decide) (by decide) 0 Hc1.out).mono ?_
       rintro e w2 ⟨rfl, bn_r⟩
       refine hK _ _ rfl bn_r rfl (fun h => by cases h)
     · have d13 : vals 13 = _ := hd 13 (by decide +kernel)
       rw [d13]
       go_simp
       refine hK _ _ rfl (Below.refl _ _) (by first | rfl | simp) (fun h => by cases h)
     · have d10 : vals 10 = _ := hd 10 (by decide +kernel)
       have d14 : vals 14 = _ := hd 14 (by decide +kernel)
       rw [d10, d14]
       go_simp
       refine hK _ _ rfl (Below.refl _ _) (by first | rfl | simp) (fun h => by cases h)
     · have d15 : vals 15 = _ := hd 15 (by decide +kernel)
       rw [d15]
       go_simp
       refine hK _ _ rfl (Below.refl _ _) (by first | rfl | simp) (fun h => by cases h)
     · have z0 := (h_rhi.below hS).c0
       have z1 := (h_rhi.below hS).c1
       have z2 := (h_rhi.below hS).c2
       go_simp
       refine hK _ _ rfl (Below.refl _ _) (by first | rfl | simp) (fun h => by cases h)
     · have z0 := (h_ra.below hS).c0
       have z1 := (h_ra.below hS).c1
       have z2 := (h_ra.below hS).c2
       go_simp
       refine hK _ _ rfl (Below.refl _ _) (by first | rfl | simp) (fun h => by cases h)
     · have d17 : vals 17 = _ := hd 17 (by decide +kernel)
       have d18 : vals 18 = _ := hd 18 (by decide +kernel)
       rw [d17, d18]
       go_simp
       go_at_call 33
       with_reducible refine (rCmp_c (h_hi.below hS) (h_a.below hS) (by decide) (by decide) c2 Hc2.out).mono ?_
       rintro e w2 ⟨rfl, bn_r⟩
       refine hK _ _ rfl bn_r rfl (fun h => by cases h)
     · have d19 : vals 19 = _ := hd 19 (by decide +kernel)
       rw [d19]
       go_simp
       refine hK _ _ rfl (Below.refl _ _) (by first | rfl | simp) (fun h => by cases h)
     · have d16 : vals 16 = _ := hd 16 (by decide +kernel)
       have d20 : vals 20 = _ := hd 20 (by decide +kernel)
       rw [d16, d20]
       go_simp
       refine hK _ _ rfl (Below.refl _ _) (by first | rfl | simp) (fun h => by cases h)
     · have d21 : vals 21 = _ := hd 21 (by decide +kernel)
       rw [d21]
       go_simp
       refine hK _ _ rfl (Below.refl _ _) (by first | rfl | simp) (fun h => by cases h)
     · have z0 := (h_rgap.below hS).c0
       have z1 := (h_rgap.below hS).c1
       have z2 := (h_rgap.below hS).c2
       go_simp
       refine hK _ _ rfl (Below.refl _ _) (by first | rfl | simp) (fun h => by cases h)
     · have d23 : vals 23 = _ := hd 23 (by decide +kernel)
       rw [d23]
       go_simp
       go_at_call 34
       with_reducible refine (rSign_c (h_gap.below hS) (by decide) 0 Hcg.out).mono ?_
       rintro e w2 ⟨rfl, bn_r⟩
       refine hK _ _ rfl bn_r rfl (fun h => by cases h)
     · have d24 : vals 24 = _ := hd 24 (by decide +kernel)
       rw [d24]
       go_simp
       refine hK _ _ rfl (Below.refl _ _) (by first | rfl | simp) (fun h => by cases h)
     · have d25 : vals 25 = _ := hd 25 (by decide +kernel)
       rw [d25]
       go_simp
       refine hK _ _ rfl (Below.refl _ _) (by first | rfl | simp) (fun h => by cases h)
     · have d26 : vals 26 = _ := hd 26 (by decide +kernel)
       have d30 : vals 30 = _ := hd 30 (by decide +kernel)
       rw [d26, d30]
       go_simp
       refine hK _ _ rfl (Below.refl _ _) (by first | rfl | simp) (fun h => by cases h)
     · have d22 : vals 22 = _ := hd 22 (by decide +kernel)
       have d31 : vals 31 = _ := hd 31 (by decide +kernel)
       rw [d22, d31]
       go_simp
       refine hK _ _ rfl (Below.refl _ _) (by first | rfl | simp) (fun h => by cases h)
     · have d32 : vals 32 = _ := hd 32 (by decide +kernel)
       rw [d32]
       go_simp
       refine hK _ _ rfl (Below.refl _ _) (by first | rfl | simp) (fun h => by cases h)
     · have z0 := (h_rgap.below hS).c0
       have z1 := (h_rgap.below hS).c1
       have z2 := (h_rgap.below hS).c2
       go_simp
       refine hK _ _ rfl (Below.refl _ _) (by first | rfl | simp) (fun h => by cases h)
     · have d34 : vals 34 = _ := hd 34 (by decide +kernel)
       rw [d34]
       go_simp
       go_at_call 34
       with_reducible refine (rSign_c (h_gap.below hS) (by decide) 0 Hcg.out).mono ?_
       rintro e w2 ⟨rfl, bn_r⟩
       refine hK _ _ rfl bn_r rfl (fun h => by cases h)
     · have d35 : vals 35 = _ := hd 35 (by decide +kernel)
       rw [d35]
       go_simp
       refine hK _ _ rfl (Below.refl _ _) (by first | rfl | simp) (fun h => by cases h)
     · have z0 := (h_rlo.below hS).c0
       have z1 := (h_rlo.below hS).c1
       have z2 := (h_rlo.below hS).c2
       go_simp
       refine hK _ _ rfl (Below.refl _ _) (by first | rfl | simp) (fun h => by cases h)
     · have z0 := (h_ra.below hS).c0
       have z1 := (h_ra.below hS).c1
       have z2 := (h_ra.below hS).c2
       go_simp
       refine hK _ _ rfl (Below.refl _ _) (by first | rfl | simp) (fun h => by cases h)
     · have d37 : vals 37 = _ := hd 37 (by decide +kernel)
       have d38 : vals 38 = _ := hd 38 (by decide +kernel)
       rw [d37, d38]
       go_simp
       go_at_call 33
       with_reducible refine (rCmp_c (h_lo.below hS) (h_a.below hS) (by decide) (by decide) 0 Hc1.out).mono ?_
       rintro e w2 ⟨rfl, bn_r⟩
       refine hK _ _ rfl bn_r rfl (fun h => by cases h)
     · have d39 : vals 39 = _ := hd 39 (by decide +kernel)
       rw [d39]
       go_simp
       refine hK _ _ rfl (Below.refl _ _) (by first | rfl | simp) (fun h => by cases h)
     · have d36 : vals 36 = _ := hd 36 (by decide +kernel)
       have d40 : vals 40 = _ := hd 40 (by decide +kernel)
       rw [d36, d40]
       go_simp
       refine hK _ _ rfl (Below.refl _ _) (by first | rfl | simp) (fun h => by cases h)
     · have d33 : vals 33 = _ := hd 33 (by decide +kernel)
       have d41 : vals 41 = _ := hd 41 (by decide +kernel)
       rw [d33, d41]
       go_simp
       refine hK _ _ rfl (Below.refl _ _) (by first | rfl | simp) (fun h => by cases h)
     · have d42 : vals 42 = _ := hd 42 (by decide +kernel)
       rw [d42]
       go_simp
       refine hK _ _ rfl (Below.refl _ _) (by first | rfl | simp) (fun h => by cases h)
     · go_simp
       refine hK _ _ rfl (Below.refl _ _) (by first | rfl | simp) (fun h => by cases h)
     · go_simp
       refine hK _ _ rfl (Below.refl _ _) (by first | rfl | simp) (fun h => by cases h)
     · have d44 : vals 44 = _ := hd 44 (by decide +kernel)
       have d45 : vals 45 = _ := hd 45 (by decide +kernel)
       rw [d44, d45]
       go_simp
       refine hK _ _ rfl (Below.refl _ _) (by first | rfl | simp) (fun h => by cases h)
     · have d46 : vals 46 = _ := hd 46 (by decide +kernel)
       rw [d46]
       go_simp
       refine hK _ _ rfl (Below.refl _ _) (by first | rfl | simp) (fun h => by cases h)
     · have d47 : vals 47 = _ := hd 47 (by decide +kernel)
       have d50 : vals 50 = _ := hd 50 (by decide +kernel)
       rw [d47, d50]
       go_simp
       refine hK _ _ rfl (Below.refl _ _) (by first | rfl | simp) (fun h => by cases h)
     · have d43 : vals 43 = _ := hd 43 (by decide +kernel)
       have d51 : vals 51 = _ := hd 51 (by decide +kernel)
       rw [d43, d51]
       go_simp
       refine hK _ _ rfl (Below.refl _ _) (by first | rfl | simp) (fun h => by cases h)
    case hfin17 =>
     intro vals wr hS hP hne
     have ez_52 : vals 52 = _ := hP 52 (by decide)
     try dsimp only
     rw [ez_52]
     refine wpAny_done (by kernel_rfl) ?_ _
     generalize wr = w21 at *
     have bn := hS
     clear hS ez_52
     replace h_a := h_a.below bn
     replace h_ra := h_ra.below bn
     replace h_lo := h_lo.below bn
     replace h_rlo := h_rlo.below bn
     replace h_hi := h_hi.below bn
     replace h_rhi := h_rhi.below bn
     replace h_mid := h_mid.below bn
     replace h_rmid := h_rmid.below bn
     replace h_gap := h_gap.below bn
     replace h_rgap := h_rgap.below bn
     replace h_t := h_t.below bn
     replace h_o := h_o.below bn
     replace h_st := h_st.below bn
     replace h_rst := h_rst.below bn
     replace HTab := Lib.hid (HTab.out.below bn)
     replace bw := below_two bw bn
     clear bn
     have c_a0 := h_ra.c0
     have c_a1 := h_ra.c1
     have c_a2 := h_ra.c2
     have c_mid0 := h_rmid.c0
     have c_mid1 := h_rmid.c1
     have c_mid2 := h_rmid.c2
     go_wp2_with fail
     clear c_a0 c_a1 c_a2 c_mid0 c_mid1 c_mid2
     refine (rSub_c h_a h_mid (by decide) (by decide) _ _ F9.out).mono ?_
     rintro e w22 ⟨A_w, n_w, c_w, B_w, m_w, d_w, rfl, h_w, bn⟩
     replace h_a := h_a.below bn
     replace h_ra := h_ra.below bn
     replace h_lo := h_lo.below bn
     replace h_rlo := h_rlo.below bn
     replace h_hi := h_hi.below bn
     replace h_rhi := h_rhi.below bn
     replace h_mid := h_mid.below bn
     replace h_rmid := h_rmid.below bn
     replace h_gap := h_gap.below bn
     replace h_rgap := h_rgap.below bn
     replace h_t := h_t.below bn
     replace h_o := h_o.below bn
     replace h_st := h_st.below bn
     replace h_rst := h_rst.below bn
     replace HTab := Lib.hid (HTab.out.below bn)
     replace bw := below_two bw bn
     clear bn
     have h_rw := row3_new w22 27 (.bool (sg (oTop (some z_w)))) (.slice A_w n_w c_w) (.slice B_w m_w d_w)
     have bn := below_new w22 (.cells #[Value.bool (sg (oTop (some z_w))), Value.slice A_w n_w c_w, Value.slice B_w m_w d_w] 27)
     replace h_a := h_a.below bn
     replace h_ra := h_ra.below bn
     replace h_lo := h_lo.below bn
     replace h_rlo := h_rlo.below bn
     replace h_hi := h_hi.below bn
     replace h_rhi := h_rhi.below bn
     replace h_mid := h_mid.below bn
     replace h_rmid := h_rmid.below bn
     replace h_gap := h_gap.below bn
     replace h_rgap := h_rgap.below bn
     replace h_t := h_t.below bn
     replace h_o := h_o.below bn
     replace h_st := h_st.below bn
     replace h_rst := h_rst.below bn
     replace h_w := h_w.below bn
     replace HTab := Lib.hid (HTab.out.below bn)
     replace bw := below_two bw bn
     clear bn
     have c_w0 := h_rw.c0
     have c_w1 := h_rw.c1
     have c_w2 := h_rw.c2
     go_wp2_with fail
     clear c_w0 c_w1 c_w2
     generalize w22.alloc (.cells #[Value.bool (sg (oTop (some z_w))), Value.slice A_w n_w c_w, Value.slice B_w m_w d_w] 27) = w23 at *
     obtain ⟨q_w, eg⟩ : ∃ g, g = w22.heap.size := ⟨_, rfl⟩
     rw [← eg] at h_rw ⊢
     clear eg
     refine (rAdd_c h_w h_w (by decide) (by decide) _ _ F10.out).mono ?_
     rintro e w24 ⟨A_v, n_v, c_v, B_v, m_v, d_v, rfl, h_v, bn⟩
     replace h_a := h_a.below bn
     replace h_ra := h_ra.below bn
     replace h_lo := h_lo.below bn
     replace h_rlo := h_rlo.below bn
     replace h_hi := h_hi.below bn
     replace h_rhi := h_rhi.below bn
     replace h_mid := h_mid.below bn
     replace h_rmid := h_rmid.below bn
     replace h_gap := h_gap.below bn
     replace h_rgap := h_rgap.below bn
     replace h_t := h_t.below bn
     replace h_o := h_o.below bn
     replace h_st := h_st.below bn
     replace h_rst := h_rst.below bn
     replace h_w := h_w.below bn
     replace h_rw := h_rw.below bn
     replace HTab := Lib.hid (HTab.out.below bn)
     replace bw := below_two bw bn
     clear bn
     have h_rv := row3_new w24 27 (.bool (sg (oTop (some z_v)))) (.slice A_v n_v c_v) (.slice B_v m_v d_v)
     have bn := below_new w24 (.cells #[Value.bool (sg (oTop (some z_v))), Value.slice A_v n_v c_v, Value.slice B_v m_v d_v] 27)
     replace h_a := h_a.below bn
     replace h_ra := h_ra.below bn
     replace h_lo := h_lo.below bn
     replace h_rlo := h_rlo.below bn
     replace h_hi := h_hi.below bn
     replace h_rhi := h_rhi.below bn
     replace h_mid := h_mid.below bn
     replace h_rmid := h_rmid.below bn
     replace h_gap := h_gap.below bn
     replace h_rgap := h_rgap.below bn
     replace h_t := h_t.below bn
     replace h_o := h_o.below bn
     replace h_st := h_st.below bn
     replace h_rst := h_rst.below bn
     replace h_w := h_w.below bn
     replace h_rw := h_rw.below bn
     replace h_v := h_v.below bn
     replace HTab := Lib.hid (HTab.out.below bn)
     replace bw := below_two bw bn
     clear bn
     go_wp2
     generalize w24.alloc (.cells #[Value.bool (sg (oTop (some z_v))), Value.slice A_v n_v c_v, Value.slice B_v m_v d_v] 27) = w25 at *
     obtain ⟨q_v, eg⟩ : ∃ g, g = w24.heap.size := ⟨_, rfl⟩
     rw [← eg] at h_rv ⊢
     clear eg
     generalize w25 = wS at *
     refine region_freeg 22 1 [186, 187, 188, 189, 190, 191, 192, 193, 194, 195, 196, 197, 198, 199, 200, 201, 202, 203, 204, 205, 206, 207] ?aF18 (fun wx => Below wS.heap.size wS wx) (fun k vv wx => match k with
      | 0 => vv = .int .i64 0
      | 1 => vv = .bool true
      | 2 => vv = .bool true
      | 3 => vv = .int .i64 0
      | 4 => vv = .bool true
      | 5 => vv = .bool true
      | 6 => vv = .bool true
      | 7 => vv = .agg #[.bool (sg (oTop (some z_v))), .slice A_v n_v c_v, .slice B_v m_v d_v]
      | 8 => vv = .agg #[.bool (sg (oTop (some z_st))), .slice A_st n_st c_st, .slice B_st m_st d_st]
      | 9 => vv = .int .i64 c3
      | 10 => vv = .bool true
      | 11 => vv = .bool true
      | 12 => vv = .bool true
      | 13 => vv = .agg #[.bool (sg (oTop (some z_v))), .slice A_v n_v c_v, .slice B_v m_v d_v]
      | 14 => ∃ (e0 : Option Addr) (e1 : Nat) (e2 : Nat) (e3 : Option Addr) (e4 : Nat) (e5 : Nat), vv = .agg #[.bool (sg (oTop (some (-z_v)))), .slice e0 e1 e2, .slice e3 e4 e5] ∧ QT wx e0 e1 e2 e3 e4 e5 (some (-z_v))
      | 15 => vv = .agg #[.bool (sg (oTop (some z_st))), .slice A_st n_st c_st, .slice B_st m_st d_st]
      | 16 => vv = .int .i64 c4
      | 17 => vv = .bool true
      | 18 => vv = .bool true
      | 19 => vv = .bool true
      | 20 => vv = .bool true
      | _ => vv = .bool true)
      (fun k => false) (by kernel_rfl) ?haF18 rfl (by kernel_rfl) (by kernel_rfl) (fun _ _ _ _ _ h => h) ?hSb18 ?hPb18 ?hS18 ?hop18 ?hfin18
     case haF18 =>
      intro vals
      simp only [fillAll, List.getElem?_cons_zero, List.getElem?_cons_succ, Act.put, List.setIfInBounds_toArray, List.set_cons_zero, List.set_cons_succ]
      exact rfl
     case hSb18 => exact fun wx w2 hb hS => below_two hS hb
     case hPb18 =>
      intro k v wa wb hb h
      match k, h with
      | 0, h => exact h
      | 1, h => exact h
      | 2, h => exact h
      | 3, h => exact h
      | 4, h => exact h
      | 5, h => exact h
      | 6, h => exact h
      | 7, h => exact h
      | 8, h => exact h
      | 9, h => exact h
      | 10, h => exact h
      | 11, h => exact h
      | 12, h => exact h
      | 13, h => exact h
      | 14, ⟨e0, e1, e2, e3, e4, e5, h1, g0⟩ => exact ⟨e0, e1, e2, e3, e4, e5, h1, g0.below hb⟩
      | 15, h => exact h
      | 16, h => exact h
      | 17, h => exact h
      | 18, h => exact h
      | 19, h => exact h
      | 20, h => exact h
      | _ + 21, h => exact h
     case hS18 => exact (Below.refl _ _).drew
     case hop18 =>
      refine .cons (k := 0) (.plain rfl ?_) (.cons (k := 1) (.plain rfl ?_) (.cons (k := 2) (.plain rfl ?_) (.cons (k := 3) (.yes (fun vals wr hS hd g b e => by cases e; exact hd 2 (by decide +kernel)) ?_) (.cons (k := 4) (.yes (fun vals wr hS hd g b e => by cases e; exact hd 2 (by decide +kernel)) ?_) (.cons (k := 5) (.plain rfl ?_) (.cons (k := 6) (.plain rfl ?_) (.cons (k := 7) (.yes (fun vals wr hS hd g b e => by cases e; exact hd 6 (by decide +kernel)) ?_) (.cons (k := 8) (.yes (fun vals wr hS hd g b e => by cases e; exact hd 6 (by decide +kernel)) ?_) (.cons (k := 9) (.yes (fun vals wr hS hd g b e => by cases e; exact hd 6 (by decide +kernel)) ?_) (.cons (k := 10) (.yes (fun vals wr hS hd g b e => by cases e; exact hd 6 (by decide +kernel)) ?_) (.cons (k := 11) (.plain rfl ?_) (.cons (k := 12) (.plain rfl ?_) (.cons (k := 13) (.yes (fun vals wr hS hd g b e => by cases e; exact hd 12 (by decide +kernel)) ?_) (.cons (k := 14) (.yes (fun vals wr hS hd g b e => by cases e; exact hd 12 (by decide +kernel)) ?_) (.cons (k := 15) (.yes (fun vals wr hS hd g b e => by cases e; exact hd 12 (by decide +kernel)) ?_) (.cons (k := 16) (.yes (fun vals wr hS hd g b e => by cases e; exact hd 12 (by decide +kernel)) ?_) (.cons (k := 17) (.yes (fun vals wr hS hd g b e => by cases e; exact hd 12 (by decide +kernel)) ?_) (.cons (k := 18) (.plain rfl ?_) (.cons (k := 19) (.plain rfl ?_) (.cons (k := 20) (.yes (fun vals wr hS hd g b e => by cases e; exact hd 19 (by decide +kernel)) ?_) (.cons (k := 21) (.plain rfl ?_) (.nil))))))))))))))))))))))
      all_goals intro vals wr hS hd KC hK
      all_goals (show Oper.wp _ _ _ _ _ _; dsimp only)
      · go_simp
        refine hK _ _ rfl (Below.refl _ _) (by first | rfl | simp) (fun h => by cases h)
      · have d0 : vals 0 = _ := hd 0 (by decide +kernel)
        rw [d0]
        go_simp
        refine hK _ _ rfl (Below.refl _ _) (by first | rfl | simp) (fun h => by cases h)
      · have d1 : vals 1 = _ := hd 1 (by decide +kernel)
        rw [d1]
        go_simp
        refine hK _ _ rfl (Below.refl _ _) (by first | rfl | simp) (fun h => by cases h)
      · go_simp
        refine hK _ _ rfl (Below.refl _ _) (by first | rfl | simp) (fun h => by cases h)
      · have d3 : vals 3 = _ := hd 3 (by decide +kernel)
        rw [d3]
        go_simp
        refine hK _ _ rfl (Below.refl _ _) (by first | rfl | simp) (fun h => by cases h)
      · have d2 : vals 2 = _ := hd 2 (by decide +kernel)
        have d4 : vals 4 = _ := hd 4 (by decide +kernel)
        rw [d2, d4]
        go_simp
        refine hK _ _ rfl (Below.refl _ _) (by first | rfl | simp) (fun h => by cases h)
      · have d5 : vals 5 = _ := hd 5 (by decide +kernel)
        rw [d5]
        go_simp
        refine hK _ _ rfl (Below.refl _ _) (by first | rfl | simp) (fun h => by cases h)
      · have z0 := (h_rv.below hS).c0
        have z1 := (h_rv.below hS).c1
        have z2 := (h_rv.below hS).c2
        go_simp
        refine hK _ _ rfl (Below.refl _ _) (by first | rfl | simp) (fun h => by cases h)
      · have z0 := (h_rst.below hS).c0
        have z1 := (h_rst.below hS).c1
        have z2 := (h_rst.below hS).c2
        go_simp
        refine hK _ _ rfl (Below.refl _ _) (by first | rfl | simp) (fun h => by cases h)
      · have d7 : vals 7 = _ := hd 7 (by decide +kernel)
        have d8 : vals 8 = _ := hd 8 (by decide +kernel)
        rw [d7, d8]
        go_simp
        go_at_call 33
        with_reducible refine (rCmp_c (h_v.below hS) (h_st.below hS) (by decide) (by decide) c3 Hc3.out).mono ?_
        rintro e w2 ⟨rfl, bn_r⟩
        refine hK _ _ rfl bn_r rfl (fun h => by cases h)
      · have d9 : vals 9 = _ := hd 9 (by decide +kernel)
        rw [d9]
        go_simp
        refine hK _ _ rfl (Below.refl _ _) (by first | rfl | simp) (fun h => by cases h)
      · have d6 : vals 6 = _ := hd 6 (by decide +kernel)
        have d10 : vals 10 = _ := hd 10 (by decide +kernel)
        rw [d6, d10]
        go_simp
        refine hK _ _ rfl (Below.refl _ _) (by first | rfl | simp) (fun h => by cases h)
      · have d11 : vals 11 = _ := hd 11 (by decide +kernel)
        rw [d11]
        go_simp
        refine hK _ _ rfl (Below.refl _ _) (by first | rfl | simp) (fun h => by cases h)
      · have z0 := (h_rv.below hS).c0
        have z1 := (h_rv.below hS).c1
        have z2 := (h_rv.below hS).c2
        go_simp
        refine hK _ _ rfl (Below.refl _ _) (by first | rfl | simp) (fun h => by cases h)
      · have d13 : vals 13 = _ := hd 13 (by decide +kernel)
        rw [d13]
        go_simp
        go_at_call 36
        with_reducible refine (rNegS_c (h_v.below hS) (by decide)).mono ?_
        rintro e w2 ⟨r0, r1, r2, r3, r4, r5, rfl, f0, bn_r⟩
        refine hK _ _ rfl bn_r ⟨_, _, _, _, _, _, rfl, f0⟩ (fun h => by cases h)
      · have z0 := (h_rst.below hS).c0
        have z1 := (h_rst.below hS).c1
        have z2 := (h_rst.below hS).c2
        go_simp
        refine hK _ _ rfl (Below.refl _ _) (by first | rfl | simp) (fun h => by cases h)
      · obtain ⟨A_14_0, n_14_1, n_14_2, A_14_3, n_14_4, n_14_5, d14, h_14_0⟩ := hd 14 (by decide +kernel)
        have d15 : vals 15 = _ := hd 15 (by decide +kernel)
        rw [d14, d15]
        go_simp
        go_at_call 33
        with_reducible refine (rCmp_c h_14_0 (h_st.below hS) (by decide) (by decide) c4 Hc4.out).mono ?_
        rintro e w2 ⟨rfl, bn_r⟩
        refine hK _ _ rfl bn_r rfl (fun h => by cases h)
      · have d16 : vals 16 = _ := hd 16 (by decide +kernel)
        rw [d16]
        go_simp
        refine hK _ _ rfl (Below.refl _ _) (by first | rfl | simp) (fun h => by cases h)
      · have d12 : vals 12 = _ := hd 12 (by decide +kernel)
        have d17 : vals 17 = _ := hd 17 (by decide +kernel)
        rw [d12, d17]
        go_simp
        refine hK _ _ rfl (Below.refl _ _) (by first | rfl | simp) (fun h => by cases h)
      · have d18 : vals 18 = _ := hd 18 (by decide +kernel)
        rw [d18]
        go_simp
        refine hK _ _ rfl (Below.refl _ _) (by first | rfl | simp) (fun h => by cases h)
      · go_simp
        go_at_call 10
        with_reducible refine (wakes_any _ (HTab.out.below hS)).mono ?_
        rintro e w2 ⟨rfl, bn_r⟩
        refine hK _ _ rfl bn_r rfl (fun h => by cases h)
      · have d19 : vals 19 = _ := hd 19 (by decide +kernel)
        have d20 : vals 20 = _ := hd 20 (by decide +kernel)
        rw [d19, d20]
        go_simp
        refine hK _ _ rfl (Below.refl _ _) (by first | rfl | simp) (fun h => by cases h)
     case hfin18 =>
      intro vals wr hS hP hne
      have ez_21 : vals 21 = _ := hP 21 (by decide)
      have HB := Lib.hid (below_two bw hS)
      try dsimp only
      rw [ez_21]
      refine wpAny_ready (rs := [22]) (by kernel_rfl) (by simp) (AllReady.cons rfl (fun KC hK => ?_) AllReady.nil)
      go_simp
      refine hK _ _ ?_
      clear hK KC
      refine wpAny_done (by kernel_rfl) ?_ _
      go_wp2
      go_ret
      exact ⟨rfl, HB.out⟩
  · skip
    subst u1
    have u2b : (cg != 0) = true := by rw [bne, u2]; rfl
    have u2c : ¬ cg = 0 := beq_eq_false_iff_ne.1 u2
    have u2d : decide (cg = 0) = false := decide_eq_false u2c
    subst u3
    subst u4
    refine region_freeg 53 0 [121, 122, 123, 124, 125, 126, 127, 128, 129, 130, 131, 132, 133, 134, 135, 136, 137, 138, 139, 140, 141, 142, 143, 144, 145, 146, 147, 148, 149, 150, 151, 152, 153, 154, 155, 156, 157, 158, 159, 160, 161, 162, 163, 164, 165, 166, 167, 168, 169, 170, 171, 172, 173] ?aF19 (fun wx => Below wS.heap.size wS wx) (fun k vv wx => match k with
     | 0 => vv = .int .i64 0
     | 1 => vv = .bool false
     | 2 => vv = .bool false
     | 3 => vv = .bool true
     | 4 => vv = .bool false
     | 5 => vv = .bool false
     | 6 => vv = .bool false
     | 7 => vv = .int .i64 0
     | 8 => vv = .bool false
     | 9 => vv = .bool false
     | 10 => vv = .bool false
     | 11 => vv = .agg #[.bool (sg (oTop (some z_lo))), .slice A_lo n_lo c_lo, .slice B_lo m_lo d_lo]
     | 12 => vv = .agg #[.bool (sg (oTop (some z_a))), .slice A_a n_a c_a, .slice B_a m_a d_a]
     | 13 => vv = .int .i64 (-1)
     | 14 => vv = .bool false
     | 15 => vv = .bool false
     | 16 => vv = .bool false
     | 17 => vv = .agg #[.bool (sg (oTop (some z_hi))), .slice A_hi n_hi c_hi, .slice B_hi m_hi d_hi]
     | 18 => vv = .agg #[.bool (sg (oTop (some z_a))), .slice A_a n_a c_a, .slice B_a m_a d_a]
     | 19 => vv = .int .i64 c2
     | 20 => vv = .bool false
     | 21 => vv = .bool false
     | 22 => vv = .bool false
     | 23 => vv = .agg #[.bool (sg (oTop (some z_g))), .slice A_gap n_gap c_gap, .slice B_gap m_gap d_gap]
     | 24 => vv = .int .i64 cg
     | 25 => vv = .bool true
     | 26 => vv = .bool true
     | 27 => vv = .agg #[.bool (sg (oTop (some z_g))), .slice A_gap n_gap c_gap, .slice B_gap m_gap d_gap]
     | 28 => vv = .agg #[.bool (sg (oTop (some z_g))), .slice A_st n_st c_st, .slice B_st m_st d_st]
     | 29 => vv = .bool true
     | 30 => vv = .bool false
     | 31 => vv = .bool false
     | 32 => vv = .bool false
     | 33 => vv = .bool false
     | 34 => vv = .agg #[.bool (sg (oTop (some z_g))), .slice A_gap n_gap c_gap, .slice B_gap m_gap d_gap]
     | 35 => vv = .int .i64 cg
     | 36 => vv = .bool false
     | 37 => vv = .agg #[.bool (sg (oTop (some z_lo))), .slice A_lo n_lo c_lo, .slice B_lo m_lo d_lo]
     | 38 => vv = .agg #[.bool (sg (oTop (some z_a))), .slice A_a n_a c_a, .slice B_a m_a d_a]
     | 39 => vv = .int .i64 (-1)
     | 40 => vv = .bool false
     | 41 => vv = .bool false
     | 42 => vv = .bool false
     | 43 => vv = .bool false
     | 44 => vv = .string SM
     | 45 => vv = .string SM
     | 46 => vv = .bool false
     | 47 => vv = .bool false
     | 48 => vv = undef
     | 49 => vv = undef
     | 50 => vv = undef
     | 51 => vv = .bool false
     | _ => vv = .bool false)
     (fun k => false) (by kernel_rfl) ?haF19 rfl (by kernel_rfl) (by kernel_rfl) (fun _ _ _ _ _ h => h) ?hSb19 ?hPb19 ?hS19 ?hop19 ?hfin19
    case haF19 =>
     intro vals
     simp only [fillAll, List.getElem?_cons_zero, List.getElem?_cons_succ, Act.put, List.setIfInBounds_toArray, List.set_cons_zero, List.set_cons_succ]
     exact rfl
    case hSb19 => exact fun wx w2 hb hS => below_two hS hb
    case hPb19 =>
     intro k v wa wb hb h
     match k, h with
     | 0, h => exact h
     | 1, h => exact h
     | 2, h => exact h
     | 3, h => exact h
     | 4, h => exact h
     | 5, h => exact h
     | 6, h => exact h
     | 7, h => exact h
     | 8, h => exact h
     | 9, h => exact h
     | 10, h => exact h
     | 11, h => exact h
     | 12, h => exact h
     | 13, h => exact h
     | 14, h => exact h
     | 15, h => exact h
     | 16, h => exact h
     | 17, h => exact h
     | 18, h => exact h
     | 19, h => exact h
     | 20, h => exact h
     | 21, h => exact h
     | 22, h => exact h
     | 23, h => exact h
     | 24, h => exact h
     | 25, h => exact h
     | 26, h => exact h
     | 27, h => exact h
     | 28, h => exact h
     | 29, h => exact h
     | 30, h => exact h
     | 31, h => exact h
     | 32, h => exact h
     | 33, h => exact h
     | 34, h => exact h
     | 35, h => exact h
     | 36, h => exact h
     | 37, h => exact h
     | 38, h => exact h
     | 39, h => exact h
     | 40, h => exact h
     | 41, h => exact h
     | 42, h => exact h
     | 43, h => exact h
     | 44, h => exact h
     | 45, h => exact h
     | 46, h => exact h
     | 47, h => exact h
     | 48, h => exact h
     | 49, h => exact h
     | 50, h => exact h
     | 51, h => exact h
     | _ + 52, h => exact h
    case hS19 => exact (Below.refl _ _).drew
    case hop19 =>
     refine .cons (k := 0) (.plain rfl ?_) (.cons (k := 1) (.plain rfl ?_) (.cons (k := 2) (.plain rfl ?_) (.cons (k := 3) (.yes (fun vals wr hS hd g b e => by cases e; exact hd 2 (by decide +kernel)) ?_) (.cons (k := 4) (.yes (fun vals wr hS hd g b e => by cases e; exact hd 2 (by decide +kernel)) ?_) (.cons (k := 5) (.plain rfl ?_) (.cons (k := 6) (.plain rfl ?_) (.cons (k := 7) (.yes (fun vals wr hS hd g b e => by cases e; exact hd 6 (by decide +kernel)) ?_) (.cons (k := 8) (.yes (fun vals wr hS hd g b e => by cases e; exact hd 6 (by decide +kernel)) ?_) (.cons (k := 9) (.plain rfl ?_) (.cons (k := 10) (.plain rfl ?_) (.cons (k := 11) (.yes (fun vals wr hS hd g b e => by cases e; exact hd 10 (by decide +kernel)) ?_) (.cons (k := 12) (.yes (fun vals wr hS hd g b e => by cases e; exact hd 10 (by decide +kernel)) ?_) (.cons (k := 13) (.yes (fun vals wr hS hd g b e => by cases e; exact hd 10 (by decide +kernel)) ?_) (.cons (k := 14) (.yes (fun vals wr hS hd g b e => by cases e; exact hd 10 (by decide +kernel)) ?_) (.cons (k := 15) (.plain rfl ?_) (.cons (k := 16) (.plain rfl ?_) (.cons (k := 17) (.yes (fun vals wr hS hd g b e => by cases e; exact hd 16 (by decide +kernel)) ?_) (.cons (k := 18) (.yes (fun vals wr hS hd g b e => by cases e; exact hd 16 (by decide +kernel)) ?_) (.cons (k := 19) (.yes (fun vals wr hS hd g b e => by cases e; exact hd 16 (by decide +kernel)) ?_) (.cons (k := 20) (.yes (fun vals wr hS hd g b e => by cases e; exact hd 16 (by decide +kernel)) ?_) (.cons (k := 21) (.plain rfl ?_) (.cons (k := 22) (.plain rfl ?_) (.cons (k := 23) (.yes (fun vals wr hS hd g b e => by cases e; exact hd 22 (by decide +kernel)) ?_) (.cons (k := 24) (.yes (fun vals wr hS hd g b e => by cases e; exact hd 22 (by decide +kernel)) ?_) (.cons (k := 25) (.yes (fun vals wr hS hd g b e => by cases e; exact hd 22 (by decide +kernel)) ?_) (.cons (k := 26) (.yes (fun vals wr hS hd g b e => by cases e; exact hd 22 (by decide +kernel)) ?_) (.cons (k := 27) (.yes (fun vals wr hS hd g b e => by cases e; exact hd 26 (by decide +kernel)) ?_) (.cons (k := 28) (.yes (fun vals wr hS hd g b e => by cases e; exact hd 26 (by decide +kernel)) ?_) (.cons (k := 29) (.yes (fun vals wr hS hd g b e => by cases e; exact hd 26 (by decide +kernel)) ?_) (.cons (k := 30) (.yes (fun vals wr hS hd g b e => by cases e; exact hd 26 (by decide +kernel)) ?_) (.cons (k := 31) (.yes (fun vals wr hS hd g b e => by cases e; exact hd 22 (by decide +kernel)) ?_) (.cons (k := 32) (.plain rfl ?_) (.cons (k := 33) (.plain rfl ?_) (.cons (k := 34) (.yes (fun vals wr hS hd g b e => by cases e; exact hd 33 (by decide +kernel)) ?_) (.cons (k := 35) (.yes (fun vals wr hS hd g b e => by cases e; exact hd 33 (by decide +kernel)) ?_) (.cons (k := 36) (.yes (fun vals wr hS hd g b e => by cases e; exact hd 33 (by decide +kernel)) ?_) (.cons (k := 37) (.yes (fun vals wr hS hd g b e => by cases e; exact hd 33 (by decide +kernel)) ?_) (.cons (k := 38) (.yes (fun vals wr hS hd g b e => by cases e; exact hd 33 (by decide +kernel)) ?_) (.cons (k := 39) (.yes (fun vals wr hS hd g b e => by cases e; exact hd 33 (by decide +kernel)) ?_) (.cons (k := 40) (.yes (fun vals wr hS hd g b e => by cases e; exact hd 33 (by decide +kernel)) ?_) (.cons (k := 41) (.yes (fun vals wr hS hd g b e => by cases e; exact hd 33 (by decide +kernel)) ?_) (.cons (k := 42) (.plain rfl ?_) (.cons (k := 43) (.plain rfl ?_) (.cons (k := 44) (.yes (fun vals wr hS hd g b e => by cases e; exact hd 43 (by decide +kernel)) ?_) (.cons (k := 45) (.yes (fun vals wr hS hd g b e => by cases e; exact hd 43 (by decide +kernel)) ?_) (.cons (k := 46) (.yes (fun vals wr hS hd g b e => by cases e; exact hd 43 (by decide +kernel)) ?_) (.cons (k := 47) (.yes (fun vals wr hS hd g b e => by cases e; exact hd 43 (by decide +kernel)) ?_) (.cons (k := 48) (.inr ⟨47, true, rfl, fun vals wr hS hd => hd 47 (by decide +kernel), fun _ _ => rfl, rfl⟩) (.cons (k := 49) (.inr ⟨47, true, rfl, fun vals wr hS hd => hd 47 (by decide +kernel), fun _ _ => rfl, rfl⟩) (.cons (k := 50) (.inr ⟨47, true, rfl, fun vals wr hS hd => hd 47 (by decide +kernel), fun _ _ => rfl, rfl⟩) (.cons (k := 51) (.yes (fun vals wr hS hd g b e => by cases e; exact hd 43 (by decide +kernel)) ?_) (.cons (k := 52) (.plain rfl ?_) (.nil)))))))))))))))))))))))))))))))))))))))))))))))))))))
     all_goals intro vals wr hS hd KC hK
     all_goals (show Oper.wp _ _ _ _ _ _; dsimp only)
     · go_simp
       refine hK _ _ rfl (Below.refl _ _) (by first | rfl | simp) (fun h => by cases h)
     · have d0 : vals 0 = _ := hd 0 (by decide +kernel)
       rw [d0]
       go_simp
       refine hK _ _ rfl (Below.refl _ _) (by first | rfl | simp) (fun h => by cases h)
     · have d1 : vals 1 = _ := hd 1 (by decide +kernel)
       rw [d1]
       go_simp
       refine hK _ _ rfl (Below.refl _ _) (by first | rfl | simp) (fun h => by cases h)
     · go_simp
       refine hK _ _ rfl (Below.refl _ _) (by first | rfl | simp) (fun h => by cases h)
     · have d3 : vals 3 = _ := hd 3 (by decide +kernel)
       rw [d3]
       go_simp
       refine hK _ _ rfl (Below.refl _ _) (by first | rfl | simp) (fun h => by cases h)
     · have d2 : vals 2 = _ := hd 2 (by decide +kernel)
       have d4 : vals 4 = _ := hd 4 (by decide +kernel)
       rw [d2, d4]
       go_simp
       refine hK _ _ rfl (Below.refl _ _) (by first | rfl | simp) (fun h => by cases h)
     · have d5 : vals 5 = _ := hd 5 (by decide +kernel)
       rw [d5]
       go_simp
       refine hK _ _ rfl (Below.refl _ _) (by first | rfl | simp) (fun h => by cases h)
     · go_simp
       refine hK _ _ rfl (Below.refl _ _) (by first | rfl | simp) (fun h => by cases h)
     · have d7 : vals 7 = _ := hd 7 (by decide +kernel)
       rw [d7]
       go_simp
       refine hK _ _ rfl (Below.refl _ _) (by first | rfl | simp) (fun h => by cases h)
     · have d6 : vals 6 = _ := hd 6 (by decide +kernel)
       have d8 : vals 8 = _ := hd 8 (by decide +kernel)
       rw [d6, d8]
       go_simp
       refine hK _ _ rfl (Below.refl _ _) (by first | rfl | simp) (fun h => by cases h)
     · have d9 : vals 9 = _ := hd 9 (by decide +kernel)
       rw [d9]
       go_simp
       refine hK _ _ rfl (Below.refl _ _) (by first | rfl | simp) (fun h => by cases h)
     · have z0 := (h_rlo.below hS).c0
       have z1 := (h_rlo.below hS).c1
       have z2 := (h_rlo.below hS).c2
       go_simp
       refine hK _ _ rfl (Below.refl _ _) (by first | rfl | simp) (fun h => by cases h)
     · have z0 := (h_ra.below hS).c0
       have z1 := (h_ra.below hS).c1
       have z2 := (h_ra.below hS).c2
       go_simp
       refine hK _ _ rfl (Below.refl _ _) (by first | rfl | simp) (fun h => by cases h)
     · have d11 : vals 11 = _ := hd 11 (by decide +kernel)
       have d12 : vals 12 = _ := hd 12 (by decide +kernel)
       rw [d11, d12]
       go_simp
       go_at_call 33
       with_reducible refine (rCmp_c (h_lo.below hS) (h_a.below hS) (by decide) (by decide) (-1) Hc1.out).mono ?_
       rintro e w2 ⟨rfl, bn_r⟩
       refine hK _ _ rfl bn_r rfl (fun h => by cases h)
     · have d13 : vals 13 = _ := hd 13 (by decide +kernel)
       rw [d13]
       go_simp
       refine hK _ _ rfl (Below.refl _ _) (by first | rfl | simp) (fun h => by cases h)
     · have d10 : vals 10 = _ := hd 10 (by decide +kernel)
       have d14 : vals 14 = _ := hd 14 (by decide +kernel)
       rw [d10, d14]
       go_simp
       refine hK _ _ rfl (Below.refl _ _) (by first | rfl | simp) (fun h => by cases h)
     · have d15 : vals 15 = _ := hd 15 (by decide +kernel)
       rw [d15]
       go_simp
       refine hK _ _ rfl (Below.refl _ _) (by first | rfl | simp) (fun h => by cases h)
     · have z0 := (h_rhi.below hS).c0
       have z1 := (h_rhi.below hS).c1
       have z2 := (h_rhi.below hS).c2
       go_simp
       refine hK _ _ rfl (Below.refl _ _) (by first | rfl | simp) (fun h => by cases h)
     · have z0 := (h_ra.below hS).c0
       have z1 := (h_ra.below hS).c1
       have z2 := (h_ra.below hS).c2
       go_simp
       refine hK _ _ rfl (Below.refl _ _) (by first | rfl | simp) (fun h => by cases h)
     · have d17 : vals 17 = _ := hd 17 (by decide +kernel)
       have d18 : vals 18 = _ := hd 18 (by decide +kernel)
       rw [d17, d18]
       go_simp
       go_at_call 33
       with_reducible refine (rCmp_c (h_hi.below hS) (h_a.below hS) (by decide) (by decide) c2 Hc2.out).mono ?_
       rintro e w2 ⟨rfl, bn_r⟩
       refine hK _ _ rfl bn_r rfl (fun h => by cases h)
     · have d19 : vals 19 = _ := hd 19 (by decide +kernel)
       rw [d19]
       go_simp
       refine hK _ _ rfl (Below.refl _ _) (by first | rfl | simp) (fun h => by cases h)
     · have d16 : vals 16 = _ := hd 16 (by decide +kernel)
       have d20 : vals 20 = _ := hd 20 (by decide +kernel)
       rw [d16, d20]
       go_simp
       refine hK _ _ rfl (Below.refl _ _) (by first | rfl | simp) (fun h => by cases h)
     · have d21 : vals 21 = _ := hd 21 (by decide +kernel)
       rw [d21]
       go_simp
       refine hK _ _ rfl (Below.refl _ _) (by first | rfl | simp) (fun h => by cases h)
     · have z0 := (h_rgap.below hS).c0
       have z1 := (h_rgap.below hS).c1
       have z2 := (h_rgap.below hS).c2
       go_simp
       refine hK _ _ rfl (Below.refl _ _) (by first | rfl | simp) (fun h => by cases h)
     · have d23 : vals 23 = _ := hd 23 (by decide +kernel)
       rw [d23]
       go_simp
       go_at_call 34
       with_reducible refine (rSign_c (h_gap.below hS) (by decide) cg Hcg.out).mono ?_
       rintro e w2 ⟨rfl, bn_r⟩
       refine hK _ _ rfl bn_r rfl (fun h => by cases h)
     · have d24 : vals 24 = _ := hd 24 (by decide +kernel)
       rw [d24]
       go_simp
       refine hK _ _ rfl (Below.refl _ _) (by first | rfl | simp) (fun h => by cases h)
     · have d25 : vals 25 = _ := hd 25 (by decide +kernel)
       rw [d25]
       go_simp
       refine hK _ _ rfl (Below.refl _ _) (by first | rfl | simp) (fun h => by cases h)
     · have z0 := (h_rgap.below hS).c0
       have z1 := (h_rgap.below hS).c1
       have z2 := (h_rgap.below hS).c2
       go_simp
       refine hK _ _ rfl (Below.refl _ _) (by first | rfl | simp) (fun h => by cases h)
     · have z0 := (h_rst.below hS).c0
       have z1 := (h_rst.below hS).c1
       have z2 := (h_rst.below hS).c2
       go_simp
       refine hK _ _ rfl (Below.refl _ _) (by first | rfl | simp) (fun h => by cases h)
     · have d27 : vals 27 = _ := hd 27 (by decide +kernel)
       have d28 : vals 28 = _ := hd 28 (by decide +kernel)
       rw [d27, d28]
       go_simp
       go_at_call 20
       with_reducible refine (keepRat_c (h_gap.below hS) (h_st.below hS) (by decide) (by decide) true (keepQ rfl)).mono ?_
       rintro e w2 ⟨rfl, bn_r⟩
       refine hK _ _ rfl bn_r rfl (fun h => by cases h)
     · have d29 : vals 29 = _ := hd 29 (by decide +kernel)
       rw [d29]
       go_simp
       refine hK _ _ rfl (Below.refl _ _) (by first | rfl | simp) (fun h => by cases h)
     · have d26 : vals 26 = _ := hd 26 (by decide +kernel)
       have d30 : vals 30 = _ := hd 30 (by decide +kernel)
       rw [d26, d30]
       go_simp
       refine hK _ _ rfl (Below.refl _ _) (by first | rfl | simp) (fun h => by cases h)
     · have d22 : vals 22 = _ := hd 22 (by decide +kernel)
       have d31 : vals 31 = _ := hd 31 (by decide +kernel)
       rw [d22, d31]
       go_simp
       refine hK _ _ rfl (Below.refl _ _) (by first | rfl | simp) (fun h => by cases h)
     · have d32 : vals 32 = _ := hd 32 (by decide +kernel)
       rw [d32]
       go_simp
       refine hK _ _ rfl (Below.refl _ _) (by first | rfl | simp) (fun h => by cases h)
     · have z0 := (h_rgap.below hS).c0
       have z1 := (h_rgap.below hS).c1
       have z2 := (h_rgap.below hS).c2
       go_simp
       refine hK _ _ rfl (Below.refl _ _) (by first | rfl | simp) (fun h => by cases h)
     · have d34 : vals 34 = _ := hd 34 (by decide +kernel)
       rw [d34]
       go_simp
       go_at_call 34
       with_reducible refine (rSign_c (h_gap.below hS) (by decide) cg Hcg.out).mono ?_
       rintro e w2 ⟨rfl, bn_r⟩
       refine hK _ _ rfl bn_r rfl (fun h => by cases h)
     · have d35 : vals 35 = _ := hd 35 (by decide +kernel)
       rw [d35]
       go_simp
       refine hK _ _ rfl (Below.refl _ _) (by first | rfl | simp) (fun h => by cases h)
     · have z0 := (h_rlo.below hS).c0
       have z1 := (h_rlo.below hS).c1
       have z2 := (h_rlo.below hS).c2
       go_simp
       refine hK _ _ rfl (Below.refl _ _) (by first | rfl | simp) (fun h => by cases h)
     · have z0 := (h_ra.below hS).c0
       have z1 := (h_ra.below hS).c1
       have z2 := (h_ra.below hS).c2
       go_simp
       refine hK _ _ rfl (Below.refl _ _) (by first | rfl | simp) (fun h => by cases h)
     · have d37 : vals 37 = _ := hd 37 (by decide +kernel)
       have d38 : vals 38 = _ := hd 38 (by decide +kernel)
       rw [d37, d38]
       go_simp
       go_at_call 33
       with_reducible refine (rCmp_c (h_lo.below hS) (h_a.below hS) (by decide) (by decide) (-1) Hc1.out).mono ?_
       rintro e w2 ⟨rfl, bn_r⟩
       refine hK _ _ rfl bn_r rfl (fun h => by cases h)
     · have d39 : vals 39 = _ := hd 39 (by decide +kernel)
       rw [d39]
       go_simp
       refine hK _ _ rfl (Below.refl _ _) (by first | rfl | simp) (fun h => by cases h)
     · have d36 : vals 36 = _ := hd 36 (by decide +kernel)
       have d40 : vals 40 = _ := hd 40 (by decide +kernel)
       rw [d36, d40]
       go_simp
       refine hK _ _ rfl (Below.refl _ _) (by first | rfl | simp) (fun h => by cases h)
     · have d33 : vals 33 = _ := hd 33 (by decide +kernel)
       have d41 : vals 41 = _ := hd 41 (by decide +kernel)
       rw [d33, d41]
       go_simp
       refine hK _ _ rfl (Below.refl _ _) (by first | rfl | simp) (fun h => by cases h)
     · have d42 : vals 42 = _ := hd 42 (by decide +kernel)
       rw [d42]
       go_simp
       refine hK _ _ rfl (Below.refl _ _) (by first | rfl | simp) (fun h => by cases h)
     · go_simp
       refine hK _ _ rfl (Below.refl _ _) (by first | rfl | simp) (fun h => by cases h)
     · go_simp
       refine hK _ _ rfl (Below.refl _ _) (by first | rfl | simp) (fun h => by cases h)
     · have d44 : vals 44 = _ := hd 44 (by decide +kernel)
       have d45 : vals 45 = _ := hd 45 (by decide +kernel)
       rw [d44, d45]
       go_simp
       refine hK _ _ rfl (Below.refl _ _) (by first | rfl | simp) (fun h => by cases h)
     · have d46 : vals 46 = _ := hd 46 (by decide +kernel)
       rw [d46]
       go_simp
       refine hK _ _ rfl (Below.refl _ _) (by first | rfl | simp) (fun h => by cases h)
     · have d47 : vals 47 = _ := hd 47 (by decide +kernel)
       have d50 : vals 50 = _ := hd 50 (by decide +kernel)
       rw [d47, d50]
       go_simp
       refine hK _ _ rfl (Below.refl _ _) (by first | rfl | simp) (fun h => by cases h)
     · have d43 : vals 43 = _ := hd 43 (by decide +kernel)
       have d51 : vals 51 = _ := hd 51 (by decide +kernel)
       rw [d43, d51]
       go_simp
       refine hK _ _ rfl (Below.refl _ _) (by first | rfl | simp) (fun h => by cases h)
    case hfin19 =>
     intro vals wr hS hP hne
     have ez_52 : vals 52 = _ := hP 52 (by decide)
     try dsimp only
     rw [ez_52]
     refine wpAny_done (by kernel_rfl) ?_ _
     generalize wr = w26 at *
     have bn := hS
     clear hS ez_52
     replace h_a := h_a.below bn
     replace h_ra := h_ra.below bn
     replace h_lo := h_lo.below bn
     replace h_rlo := h_rlo.below bn
     replace h_hi := h_hi.below bn
     replace h_rhi := h_rhi.below bn
     replace h_mid := h_mid.below bn
     replace h_rmid := h_rmid.below bn
     replace h_gap := h_gap.below bn
     replace h_rgap := h_rgap.below bn
     replace h_t := h_t.below bn
     replace h_o := h_o.below bn
     replace h_st := h_st.below bn
     replace h_rst := h_rst.below bn
     replace HTab := Lib.hid (HTab.out.below bn)
     replace bw := below_two bw bn
     clear bn
     have c_a0 := h_ra.c0
     have c_a1 := h_ra.c1
     have c_a2 := h_ra.c2
     have c_mid0 := h_rmid.c0
     have c_mid1 := h_rmid.c1
     have c_mid2 := h_rmid.c2
     go_wp2_with fail
     clear c_a0 c_a1 c_a2 c_mid0 c_mid1 c_mid2
     refine (rSub_c h_a h_mid (by decide) (by decide) _ _ F9.out).mono ?_
     rintro e w27 ⟨A_w, n_w, c_w, B_w, m_w, d_w, rfl, h_w, bn⟩
     replace h_a := h_a.below bn
     replace h_ra := h_ra.below bn
     replace h_lo := h_lo.below bn
     replace h_rlo := h_rlo.below bn
     replace h_hi := h_hi.below bn
     replace h_rhi := h_rhi.below bn
     replace h_mid := h_mid.below bn
     replace h_rmid := h_rmid.below bn
     replace h_gap := h_gap.below bn
     replace h_rgap := h_rgap.below bn
     replace h_t := h_t.below bn
     replace h_o := h_o.below bn
     replace h_st := h_st.below bn
     replace h_rst := h_rst.below bn
     replace HTab := Lib.hid (HTab.out.below bn)
     replace bw := below_two bw bn
     clear bn
     have h_rw := row3_new w27 27 (.bool (sg (oTop (some z_w)))) (.slice A_w n_w c_w) (.slice B_w m_w d_w)
     have bn := below_new w27 (.cells #[Value.bool (sg (oTop (some z_w))), Value.slice A_w n_w c_w, Value.slice B_w m_w d_w] 27)
     replace h_a := h_a.below bn
     replace h_ra := h_ra.below bn
     replace h_lo := h_lo.below bn
     replace h_rlo := h_rlo.below bn
     replace h_hi := h_hi.below bn
     replace h_rhi := h_rhi.below bn
     replace h_mid := h_mid.below bn
     replace h_rmid := h_rmid.below bn
     replace h_gap := h_gap.below bn
     replace h_rgap := h_rgap.below bn
     replace h_t := h_t.below bn
     replace h_o := h_o.below bn
     replace h_st := h_st.below bn
     replace h_rst := h_rst.below bn
     replace h_w := h_w.below bn
     replace HTab := Lib.hid (HTab.out.below bn)
     replace bw := below_two bw bn
     clear bn
     have c_w0 := h_rw.c0
     have c_w1 := h_rw.c1
     have c_w2 := h_rw.c2
     go_wp2_with fail
     clear c_w0 c_w1 c_w2
     generalize w27.alloc (.cells #[Value.bool (sg (oTop (some z_w))), Value.slice A_w n_w c_w, Value.slice B_w m_w d_w] 27) = w28 at *
     obtain ⟨q_w, eg⟩ : ∃ g, g = w27.heap.size := ⟨_, rfl⟩
     rw [← eg] at h_rw ⊢
     clear eg
     refine (rAdd_c h_w h_w (by decide) (by decide) _ _ F10.out).mono ?_
     rintro e w29 ⟨A_v, n_v, c_v, B_v, m_v, d_v, rfl, h_v, bn⟩
     replace h_a := h_a.below bn
     replace h_ra := h_ra.below bn
     replace h_lo := h_lo.below bn
     replace h_rlo := h_rlo.below bn
     replace h_hi := h_hi.below bn
     replace h_rhi := h_rhi.below bn
     replace h_mid := h_mid.below bn
     replace h_rmid := h_rmid.below bn
     replace h_gap := h_gap.below bn
     replace h_rgap := h_rgap.below bn
     replace h_t := h_t.below bn
     replace h_o := h_o.below bn
     replace h_st := h_st.below bn
     replace h_rst := h_rst.below bn
     replace h_w := h_w.below bn
     replace h_rw := h_rw.below bn
     replace HTab := Lib.hid (HTab.out.below bn)
     replace bw := below_two bw bn
     clear bn
     have h_rv := row3_new w29 27 (.bool (sg (oTop (some z_v)))) (.slice A_v n_v c_v) (.slice B_v m_v d_v)
     have bn := below_new w29 (.cells #[Value.bool (sg (oTop (some z_v))), Value.slice A_v n_v c_v, Value.slice B_v m_v d_v] 27)
     replace h_a := h_a.below bn
     replace h_ra := h_ra.below bn
     replace h_lo := h_lo.below bn
     replace h_rlo := h_rlo.below bn
     replace h_hi := h_hi.below bn
     replace h_rhi := h_rhi.below bn
     replace h_mid := h_mid.below bn
     replace h_rmid := h_rmid.below bn
     replace h_gap := h_gap.below bn
     replace h_rgap := h_rgap.below bn
     replace h_t := h_t.below bn
     replace h_o := h_o.below bn
     replace h_st := h_st.below bn
     replace h_rst := h_rst.below bn
     replace h_w := h_w.below bn
     replace h_rw := h_rw.below bn
     replace h_v := h_v.below bn
     replace HTab := Lib.hid (HTab.out.below bn)
     replace bw := below_two bw bn
     clear bn
     go_wp2
     generalize w29.alloc (.cells #[Value.bool (sg (oTop (some z_v))), Value.slice A_v n_v c_v, Value.slice B_v m_v d_v] 27) = w30 at *
     obtain ⟨q_v, eg⟩ : ∃ g, g = w29.heap.size := ⟨_, rfl⟩
     rw [← eg] at h_rv ⊢
     clear eg
     generalize w30 = wS at *
     refine region_freeg 22 1 [186, 187, 188, 189, 190, 191, 192, 193, 194, 195, 196, 197, 198, 199, 200, 201, 202, 203, 204, 205, 206, 207] ?aF20 (fun wx => Below wS.heap.size wS wx) (fun k vv wx => match k with
      | 0 => vv = .int .i64 0
      | 1 => vv = .bool true
      | 2 => vv = .bool true
      | 3 => vv = .int .i64 0
      | 4 => vv = .bool true
      | 5 => vv = .bool true
      | 6 => vv = .bool true
      | 7 => vv = .agg #[.bool (sg (oTop (some z_v))), .slice A_v n_v c_v, .slice B_v m_v d_v]
      | 8 => vv = .agg #[.bool (sg (oTop (some z_g))), .slice A_st n_st c_st, .slice B_st m_st d_st]
      | 9 => vv = .int .i64 c3
      | 10 => vv = .bool true
      | 11 => vv = .bool true
      | 12 => vv = .bool true
      | 13 => vv = .agg #[.bool (sg (oTop (some z_v))), .slice A_v n_v c_v, .slice B_v m_v d_v]
      | 14 => ∃ (e0 : Option Addr) (e1 : Nat) (e2 : Nat) (e3 : Option Addr) (e4 : Nat) (e5 : Nat), vv = .agg #[.bool (sg (oTop (some (-z_v)))), .slice e0 e1 e2, .slice e3 e4 e5] ∧ QT wx e0 e1 e2 e3 e4 e5 (some (-z_v))
      | 15 => vv = .agg #[.bool (sg (oTop (some z_g))), .slice A_st n_st c_st, .slice B_st m_st d_st]
      | 16 => vv = .int .i64 c4
      | 17 => vv = .bool true
      | 18 => vv = .bool true
      | 19 => vv = .bool true
      | 20 => vv = .bool true
      | _ => vv = .bool true)
      (fun k => false) (by kernel_rfl) ?haF20 rfl (by kernel_rfl) (by kernel_rfl) (fun _ _ _ _ _ h => h) ?hSb20 ?hPb20 ?hS20 ?hop20 ?hfin20
     case haF20 =>
      intro vals
      simp only [fillAll, List.getElem?_cons_zero, List.getElem?_cons_succ, Act.put, List.setIfInBounds_toArray, List.set_cons_zero, List.set_cons_succ]
      exact rfl
     case hSb20 => exact fun wx w2 hb hS => below_two hS hb
     case hPb20 =>
      intro k v wa wb hb h
      match k, h with
      | 0, h => exact h
      | 1, h => exact h
      | 2, h => exact h
      | 3, h => exact h
      | 4, h => exact h
      | 5, h => exact h
      | 6, h => exact h
      | 7, h => exact h
      | 8, h => exact h
      | 9, h => exact h
      | 10, h => exact h
      | 11, h => exact h
      | 12, h => exact h
      | 13, h => exact h
      | 14, ⟨e0, e1, e2, e3, e4, e5, h1, g0⟩ => exact ⟨e0, e1, e2, e3, e4, e5, h1, g0.below hb⟩
      | 15, h => exact h
      | 16, h => exact h
      | 17, h => exact h
      | 18, h => exact h
      | 19, h => exact h
      | 20, h => exact h
      | _ + 21, h => exact h
     case hS20 => exact (Below.refl _ _).drew
     case hop20 =>
      refine .cons (k := 0) (.plain rfl ?_) (.cons (k := 1) (.plain rfl ?_) (.cons (k := 2) (.plain rfl ?_) (.cons (k := 3) (.yes (fun vals wr hS hd g b e => by cases e; exact hd 2 (by decide +kernel)) ?_) (.cons (k := 4) (.yes (fun vals wr hS hd g b e => by cases e; exact hd 2 (by decide +kernel)) ?_) (.cons (k := 5) (.plain rfl ?_) (.cons (k := 6) (.plain rfl ?_) (.cons (k := 7) (.yes (fun vals wr hS hd g b e => by cases e; exact hd 6 (by decide +kernel)) ?_) (.cons (k := 8) (.yes (fun vals wr hS hd g b e => by cases e; exact hd 6 (by decide +kernel)) ?_) (.cons (k := 9) (.yes (fun vals wr hS hd g b e => by cases e; exact hd 6 (by decide +kernel)) ?_) (.cons (k := 10) (.yes (fun vals wr hS hd g b e => by cases e; exact hd 6 (by decide +kernel)) ?_) (.cons (k := 11) (.plain rfl ?_) (.cons (k := 12) (.plain rfl ?_) (.cons (k := 13) (.yes (fun vals wr hS hd g b e => by cases e; exact hd 12 (by decide +kernel)) ?_) (.cons (k := 14) (.yes (fun vals wr hS hd g b e => by cases e; exact hd 12 (by decide +kernel)) ?_) (.cons (k := 15) (.yes (fun vals wr hS hd g b e => by cases e; exact hd 12 (by decide +kernel)) ?_) (.cons (k := 16) (.yes (fun vals wr hS hd g b e => by cases e; exact hd 12 (by decide +kernel)) ?_) (.cons (k := 17) (.yes (fun vals wr hS hd g b e => by cases e; exact hd 12 (by decide +kernel)) ?_) (.cons (k := 18) (.plain rfl ?_) (.cons (k := 19) (.plain rfl ?_) (.cons (k := 20) (.yes (fun vals wr hS hd g b e => by cases e; exact hd 19 (by decide +kernel)) ?_) (.cons (k := 21) (.plain rfl ?_) (.nil))))))))))))))))))))))
      all_goals intro vals wr hS hd KC hK
      all_goals (show Oper.wp _ _ _ _ _ _; dsimp only)
      · go_simp
        refine hK _ _ rfl (Below.refl _ _) (by first | rfl | simp) (fun h => by cases h)
      · have d0 : vals 0 = _ := hd 0 (by decide +kernel)
        rw [d0]
        go_simp
        refine hK _ _ rfl (Below.refl _ _) (by first | rfl | simp) (fun h => by cases h)
      · have d1 : vals 1 = _ := hd 1 (by decide +kernel)
        rw [d1]
        go_simp
        refine hK _ _ rfl (Below.refl _ _) (by first | rfl | simp) (fun h => by cases h)
      · go_simp
        refine hK _ _ rfl (Below.refl _ _) (by first | rfl | simp) (fun h => by cases h)
      · have d3 : vals 3 = _ := hd 3 (by decide +kernel)
        rw [d3]
        go_simp
        refine hK _ _ rfl (Below.refl _ _) (by first | rfl | simp) (fun h => by cases h)
      · have d2 : vals 2 = _ := hd 2 (by decide +kernel)
        have d4 : vals 4 = _ := hd 4 (by decide +kernel)
        rw [d2, d4]
        go_simp
        refine hK _ _ rfl (Below.refl _ _) (by first | rfl | simp) (fun h => by cases h)
      · have d5 : vals 5 = _ := hd 5 (by decide +kernel)
        rw [d5]
        go_simp
        refine hK _ _ rfl (Below.refl _ _) (by first | rfl | simp) (fun h => by cases h)
      · have z0 := (h_rv.below hS).c0
        have z1 := (h_rv.below hS).c1
        have z2 := (h_rv.below hS).c2
        go_simp
        refine hK _ _ rfl (Below.refl _ _) (by first | rfl | simp) (fun h => by cases h)
      · have z0 := (h_rst.below hS).c0
        have z1 := (h_rst.below hS).c1
        have z2 := (h_rst.below hS).c2
        go_simp
        refine hK _ _ rfl (Below.refl _ _) (by first | rfl | simp) (fun h => by cases h)
      · have d7 : vals 7 = _ := hd 7 (by decide +kernel)
        have d8 : vals 8 = _ := hd 8 (by decide +kernel)
        rw [d7, d8]
        go_simp
        go_at_call 33
        with_reducible refine (rCmp_c (h_v.below hS) (h_st.below hS) (by decide) (by decide) c3 Hc3.out).mono ?_
        rintro e w2 ⟨rfl, bn_r⟩
        refine hK _ _ rfl bn_r rfl (fun h => by cases h)
      · have d9 : vals 9 = _ := hd 9 (by decide +kernel)
        rw [d9]
        go_simp
        refine hK _ _ rfl (Below.refl _ _) (by first | rfl | simp) (fun h => by cases h)
      · have d6 : vals 6 = _ := hd 6 (by decide +kernel)
        have d10 : vals 10 = _ := hd 10 (by decide +kernel)
        rw [d6, d10]
        go_simp
        refine hK _ _ rfl (Below.refl _ _) (by first | rfl | simp) (fun h => by cases h)
      · have d11 : vals 11 = _ := hd 11 (by decide +kernel)
        rw [d11]
        go_simp
        refine hK _ _ rfl (Below.refl _ _) (by first | rfl | simp) (fun h => by cases h)
      · have z0 := (h_rv.below hS).c0
        have z1 := (h_rv.below hS).c1
        have z2 := (h_rv.below hS).c2
        go_simp
        refine hK _ _ rfl (Below.refl _ _) (by first | rfl | simp) (fun h => by cases h)
      · have d13 : vals 13 = _ := hd 13 (by decide +kernel)
        rw [d13]
        go_simp
        go_at_call 36
        with_reducible refine (rNegS_c (h_v.below hS) (by decide)).mono ?_
        rintro e w2 ⟨r0, r1, r2, r3, r4, r5, rfl, f0, bn_r⟩
        refine hK _ _ rfl bn_r ⟨_, _, _, _, _, _, rfl, f0⟩ (fun h => by cases h)
      · have z0 := (h_rst.below hS).c0
        have z1 := (h_rst.below hS).c1
        have z2 := (h_rst.below hS).c2
        go_simp
        refine hK _ _ rfl (Below.refl _ _) (by first | rfl | simp) (fun h => by cases h)
      · obtain ⟨A_14_0, n_14_1, n_14_2, A_14_3, n_14_4, n_14_5, d14, h_14_0⟩ := hd 14 (by decide +kernel)
        have d15 : vals 15 = _ := hd 15 (by decide +kernel)
        rw [d14, d15]
        go_simp
        go_at_call 33
        with_reducible refine (rCmp_c h_14_0 (h_st.below hS) (by decide) (by decide) c4 Hc4.out).mono ?_
        rintro e w2 ⟨rfl, bn_r⟩
        refine hK _ _ rfl bn_r rfl (fun h => by cases h)
      · have d16 : vals 16 = _ := hd 16 (by decide +kernel)
        rw [d16]
        go_simp
        refine hK _ _ rfl (Below.refl _ _) (by first | rfl | simp) (fun h => by cases h)
      · have d12 : vals 12 = _ := hd 12 (by decide +kernel)
        have d17 : vals 17 = _ := hd 17 (by decide +kernel)
        rw [d12, d17]
        go_simp
        refine hK _ _ rfl (Below.refl _ _) (by first | rfl | simp) (fun h => by cases h)
      · have d18 : vals 18 = _ := hd 18 (by decide +kernel)
        rw [d18]
        go_simp
        refine hK _ _ rfl (Below.refl _ _) (by first | rfl | simp) (fun h => by cases h)
      · go_simp
        go_at_call 10
        with_reducible refine (wakes_any _ (HTab.out.below hS)).mono ?_
        rintro e w2 ⟨rfl, bn_r⟩
        refine hK _ _ rfl bn_r rfl (fun h => by cases h)
      · have d19 : vals 19 = _ := hd 19 (by decide +kernel)
        have d20 : vals 20 = _ := hd 20 (by decide +kernel)
        rw [d19, d20]
        go_simp
        refine hK _ _ rfl (Below.refl _ _) (by first | rfl | simp) (fun h => by cases h)
     case hfin20 =>
      intro vals wr hS hP hne
      have ez_21 : vals 21 = _ := hP 21 (by decide)
      have HB := Lib.hid (below_two bw hS)
      try dsimp only
      rw [ez_21]
      refine wpAny_ready (rs := [22]) (by kernel_rfl) (by simp) (AllReady.cons rfl (fun KC hK => ?_) AllReady.nil)
      go_simp
      refine hK _ _ ?_
      clear hK KC
      refine wpAny_done (by kernel_rfl) ?_ _
      go_wp2
      go_ret
      exact ⟨rfl, HB.out⟩
  · skip
    subst u1
    have u2b : (cg != 0) = true := by rw [bne, u2]; rfl
    have u2c : ¬ cg = 0 := beq_eq_false_iff_ne.1 u2
    have u2d : decide (cg = 0) = false := decide_eq_false u2c
    subst u3
    subst u4
    refine region_freeg 53 0 [121, 122, 123, 124, 125, 126, 127, 128, 129, 130, 131, 132, 133, 134, 135, 136, 137, 138, 139, 140, 141, 142, 143, 144, 145, 146, 147, 148, 149, 150, 151, 152, 153, 154, 155, 156, 157, 158, 159, 160, 161, 162, 163, 164, 165, 166, 167, 168, 169, 170, 171, 172, 173] ?aF21 (fun wx => Below wS.heap.size wS wx) (fun k vv wx => match k with
     | 0 => vv = .int .i64 0
     | 1 => vv = .bool false
     | 2 => vv = .bool false
     | 3 => vv = .bool true
     | 4 => vv = .bool false
     | 5 => vv = .bool false
     | 6 => vv = .bool false
     | 7 => vv = .int .i64 0
     | 8 => vv = .bool false
     | 9 => vv = .bool false
     | 10 => vv = .bool false
     | 11 => vv = .agg #[.bool (sg (oTop (some z_lo))), .slice A_lo n_lo c_lo, .slice B_lo m_lo d_lo]
     | 12 => vv = .agg #[.bool (sg (oTop (some z_a))), .slice A_a n_a c_a, .slice B_a m_a d_a]
     | 13 => vv = .int .i64 (-1)
     | 14 => vv = .bool false
     | 15 => vv = .bool false
     | 16 => vv = .bool false
     | 17 => vv = .agg #[.bool (sg (oTop (some z_hi))), .slice A_hi n_hi c_hi, .slice B_hi m_hi d_hi]
     | 18 => vv = .agg #[.bool (sg (oTop (some z_a))), .slice A_a n_a c_a, .slice B_a m_a d_a]
     | 19 => vv = .int .i64 c2
     | 20 => vv = .bool false
     | 21 => vv = .bool false
     | 22 => vv = .bool false
     | 23 => vv = .agg #[.bool (sg (oTop (some z_g))), .slice A_gap n_gap c_gap, .slice B_gap m_gap d_gap]
     | 24 => vv = .int .i64 cg
     | 25 => vv = .bool true
     | 26 => vv = .bool true
     | 27 => vv = .agg #[.bool (sg (oTop (some z_g))), .slice A_gap n_gap c_gap, .slice B_gap m_gap d_gap]
     | 28 => vv = .agg #[.bool (sg (oTop (some z_g))), .slice A_st n_st c_st, .slice B_st m_st d_st]
     | 29 => vv = .bool true
     | 30 => vv = .bool false
     | 31 => vv = .bool false
     | 32 => vv = .bool false
     | 33 => vv = .bool false
     | 34 => vv = .agg #[.bool (sg (oTop (some z_g))), .slice A_gap n_gap c_gap, .slice B_gap m_gap d_gap]
     | 35 => vv = .int .i64 cg
     | 36 => vv = .bool false
     | 37 => vv = .agg #[.bool (sg (oTop (some z_lo))), .slice A_lo n_lo c_lo, .slice B_lo m_lo d_lo]
     | 38 => vv = .agg #[.bool (sg (oTop (some z_a))), .slice A_a n_a c_a, .slice B_a m_a d_a]
     | 39 => vv = .int .i64 (-1)
     | 40 => vv = .bool false
     | 41 => vv = .bool false
     | 42 => vv = .bool false
     | 43 => vv = .bool false
     | 44 => vv = .string SM
     | 45 => vv = .string SD
     | 46 => vv = .bool true
     | 47 => vv = .bool true
     | 48 => vv = .string SM
     | 49 => vv = .string SM
     | 50 => vv = .bool false
     | 51 => vv = .bool false
     | _ => vv = .bool false)
     (fun k => false) (by kernel_rfl) ?haF21 rfl (by kernel_rfl) (by kernel_rfl) (fun _ _ _ _ _ h => h) ?hSb21 ?hPb21 ?hS21 ?hop21 ?hfin21
    case haF21 =>
     intro vals
     simp only [fillAll, List.getElem?_cons_zero, List.getElem?_cons_succ, Act.put, List.setIfInBounds_toArray, List.set_cons_zero, List.set_cons_succ]
     exact rfl
    case hSb21 => exact fun wx w2 hb hS => below_two hS hb
    case hPb21 =>
     intro k v wa wb hb h
     match k, h with
     | 0, h => exact h
     | 1, h => exact h
     | 2, h => exact h
     | 3, h => exact h
     | 4, h => exact h
     | 5, h => exact h
     | 6, h => exact h
     | 7, h => exact h
     | 8, h => exact h
     | 9, h => exact h
     | 10, h => exact h
     | 11, h => exact h
     | 12, h => exact h
     | 13, h => exact h
     | 14, h => exact h
     | 15, h => exact h
     | 16, h => exact h
     | 17, h => exact h
     | 18, h => exact h
     | 19, h => exact h
     | 20, h => exact h
     | 21, h => exact h
     | 22, h => exact h
     | 23, h => exact h
     | 24, h => exact h
     | 25, h => exact h
     | 26, h => exact h
     | 27, h => exact h
     | 28, h => exact h
     | 29, h => exact h
     | 30, h => exact h
     | 31, h => exact h
     | 32, h => exact h
     | 33, h => exact h
     | 34, h => exact h
     | 35, h => exact h
     | 36, h => exact h
     | 37, h => exact h
     | 38, h => exact h
     | 39, h => exact h
     | 40, h => exact h
     | 41, h => exact h
     | 42, h => exact h
     | 43, h => exact h
     | 44, h => exact h
     | 45, h => exact h
     | 46, h => exact h
     | 47, h => exact h
     | 48, h => exact h
     | 49, h => exact h
     | 50, h => exact h
     | 51, h => exact h
     | _ + 52, h => exact h
    case hS21 => exact (Below.refl _ _).drew
    case hop21 =>
     refine .cons (k := 0) (.plain rfl ?_) (.cons (k := 1) (.plain rfl ?_) (.cons (k := 2) (.plain rfl ?_) (.cons (k := 3) (.yes (fun vals wr hS hd g b e => by cases e; exact hd 2 (by decide +kernel)) ?_) (.cons (k := 4) (.yes (fun vals wr hS hd g b e => by cases e; exact hd 2 (by decide +kernel)) ?_) (.cons (k := 5) (.plain rfl ?_) (.cons (k := 6) (.plain rfl ?_) (.cons (k := 7) (.yes (fun vals wr hS hd g b e => by cases e; exact hd 6 (by decide +kernel)) ?_) (.cons (k := 8) (.yes (fun vals wr hS hd g b e => by cases e; exact hd 6 (by decide +kernel)) ?_) (.cons (k := 9) (.plain rfl ?_) (.cons (k := 10) (.plain rfl ?_) (.cons (k := 11) (.yes (fun vals wr hS hd g b e => by cases e; exact hd 10 (by decide +kernel)) ?_) (.cons (k := 12) (.yes (fun vals wr hS hd g b e => by cases e; exact hd 10 (by decide +kernel)) ?_) (.cons (k := 13) (.yes (fun vals wr hS hd g b e => by cases e; exact hd 10 (by decide +kernel)) ?_) (.cons (k := 14) (.yes (fun vals wr hS hd g b e => by cases e; exact hd 10 (by decide +kernel)) ?_) (.cons (k := 15) (.plain rfl ?_) (.cons (k := 16) (.plain rfl ?_) (.cons (k := 17) (.yes (fun vals wr hS hd g b e => by cases e; exact hd 16 (by decide +kernel)) ?_) (.cons (k := 18) (.yes (fun vals wr hS hd g b e => by cases e; exact hd 16 (by decide +kernel)) ?_) (.cons (k := 19) (.yes (fun vals wr hS hd g b e => by cases e; exact hd 16 (by decide +kernel)) ?_) (.cons (k := 20) (.yes (fun vals wr hS hd g b e => by cases e; exact hd 16 (by decide +kernel)) ?_) (.cons (k := 21) (.plain rfl ?_) (.cons (k := 22) (.plain rfl ?_) (.cons (k := 23) (.yes (fun vals wr hS hd g b e => by cases e; exact hd 22 (by decide +kernel)) ?_) (.cons (k := 24) (.yes (fun vals wr hS hd g b e => by cases e; exact hd 22 (by decide +kernel)) ?_) (.cons (k := 25) (.yes (fun vals wr hS hd g b e => by cases e; exact hd 22 (by decide +kernel)) ?_) (.cons (k := 26) (.yes (fun vals wr hS hd g b e => by cases e; exact hd 22 (by decide +kernel)) ?_) (.cons (k := 27) (.yes (fun vals wr hS hd g b e => by cases e; exact hd 26 (by decide +kernel)) ?_) (.cons (k := 28) (.yes (fun vals wr hS hd g b e => by cases e; exact hd 26 (by decide +kernel)) ?_) (.cons (k := 29) (.yes (fun vals wr hS hd g b e => by cases e; exact hd 26 (by decide +kernel)) ?_) (.cons (k := 30) (.yes (fun vals wr hS hd g b e => by cases e; exact hd 26 (by decide +kernel)) ?_) (.cons (k := 31) (.yes (fun vals wr hS hd g b e => by cases e; exact hd 22 (by decide +kernel)) ?_) (.cons (k := 32) (.plain rfl ?_) (.cons (k := 33) (.plain rfl ?_) (.cons (k := 34) (.yes (fun vals wr hS hd g b e => by cases e; exact hd 33 (by decide +kernel)) ?_) (.cons (k := 35) (.yes (fun vals wr hS hd g b e => by cases e; exact hd 33 (by decide +kernel)) ?_) (.cons (k := 36) (.yes (fun vals wr hS hd g b e => by cases e; exact hd 33 (by decide +kernel)) ?_) (.cons (k := 37) (.yes (fun vals wr hS hd g b e => by cases e; exact hd 33 (by decide +kernel)) ?_) (.cons (k := 38) (.yes (fun vals wr hS hd g b e => by cases e; exact hd 33 (by decide +kernel)) ?_) (.cons (k := 39) (.yes (fun vals wr hS hd g b e => by cases e; exact hd 33 (by decide +kernel)) ?_) (.cons (k := 40) (.yes (fun vals wr hS hd g b e => by cases e; exact hd 33 (by decide +kernel)) ?_) (.cons (k := 41) (.yes (fun vals wr hS hd g b e => by cases e; exact hd 33 (by decide +kernel)) ?_) (.cons (k := 42) (.plain rfl ?_) (.cons (k := 43) (.plain rfl ?_) (.cons (k := 44) (.yes (fun vals wr hS hd g b e => by cases e; exact hd 43 (by decide +kernel)) ?_) (.cons (k := 45) (.yes (fun vals wr hS hd g b e => by cases e; exact hd 43 (by decide +kernel)) ?_) (.cons (k := 46) (.yes (fun vals wr hS hd g b e => by cases e; exact hd 43 (by decide +kernel)) ?_) (.cons (k := 47) (.yes (fun vals wr hS hd g b e => by cases e; exact hd 43 (by decide +kernel)) ?_) (.cons (k := 48) (.yes (fun vals wr hS hd g b e => by cases e; exact hd 47 (by decide +kernel)) ?_) (.cons (k := 49) (.yes (fun vals wr hS hd g b e => by cases e; exact hd 47 (by decide +kernel)) ?_) (.cons (k := 50) (.yes (fun vals wr hS hd g b e => by cases e; exact hd 47 (by decide +kernel)) ?_) (.cons (k := 51) (.yes (fun vals wr hS hd g b e => by cases e; exact hd 43 (by decide +kernel)) ?_) (.cons (k := 52) (.plain rfl ?_) (.nil)))))))))))))))))))))))))))))))))))))))))))))))))))))
     all_goals intro vals wr hS hd KC hK
     all_goals (show Oper.wp _ _ _ _ _ _; dsimp only)
     · go_simp
       refine hK _ _ rfl (Below.refl _ _) (by first | rfl | simp) (fun h => by cases h)
     · have d0 : vals 0 = _ := hd 0 (by decide +kernel)
       rw [d0]
       go_simp
       refine hK _ _ rfl (Below.refl _ _) (by first | rfl | simp) (fun h => by cases h)
     · have d1 : vals 1 = _ := hd 1 (by decide +kernel)
       rw [d1]
       go_simp
       refine hK _ _ rfl (Below.refl _ _) (by first | rfl | simp) (fun h => by cases h)
     · go_simp
       refine hK _ _ rfl (Below.refl _ _) (by first | rfl | simp) (fun h => by cases h)
     · have d3 : vals 3 = _ := hd 3 (by decide +kernel)
       rw [d3]
       go_simp
       refine hK _ _ rfl (Below.refl _ _) (by first | rfl | simp) (fun h => by cases h)
     · have d2 : vals 2 = _ := hd 2 (by decide +kernel)
       have d4 : vals 4 = _ := hd 4 (by decide +kernel)
       rw [d2, d4]
       go_simp
       refine hK _ _ rfl (Below.refl _ _) (by first | rfl | simp) (fun h => by cases h)
     · have d5 : vals 5 = _ := hd 5 (by decide +kernel)
       rw [d5]
       go_simp
       refine hK _ _ rfl (Below.refl _ _) (by first | rfl | simp) (fun h => by cases h)
     · go_simp
       refine hK _ _ rfl (Below.refl _ _) (by first | rfl | simp) (fun h => by cases h)
     · have d7 : vals 7 = _ := hd 7 (by decide +kernel)
       rw [d7]
       go_simp
       refine hK _ _ rfl (Below.refl _ _) (by first | rfl | simp) (fun h => by cases h)
     · have d6 : vals 6 = _ := hd 6 (by decide +kernel)
       have d8 : vals 8 = _ := hd 8 (by decide +kernel)
       rw [d6, d8]
       go_simp
       refine hK _ _ rfl (Below.refl _ _) (by first | rfl | simp) (fun h => by cases h)
     · have d9 : vals 9 = _ := hd 9 (by decide +kernel)
       rw [d9]
       go_simp
       refine hK _ _ rfl (Below.refl _ _) (by first | rfl | simp) (fun h => by cases h)
     · have z0 := (h_rlo.below hS).c0
       have z1 := (h_rlo.below hS).c1
       have z2 := (h_rlo.below hS).c2
       go_simp
       refine hK _ _ rfl (Below.refl _ _) (by first | rfl | simp) (fun h => by cases h)
     · have z0 := (h_ra.below hS).c0
       have z1 := (h_ra.below hS).c1
       have z2 := (h_ra.below hS).c2
       go_simp
       refine hK _ _ rfl (Below.refl _ _) (by first | rfl | simp) (fun h => by cases h)
     · have d11 : vals 11 = _ := hd 11 (by decide +kernel)
       have d12 : vals 12 = _ := hd 12 (by decide +kernel)
       rw [d11, d12]
       go_simp
       go_at_call 33
       with_reducible refine (rCmp_c (h_lo.below hS) (h_a.below hS) (by decide) (by decide) (-1) Hc1.out).mono ?_
       rintro e w2 ⟨rfl, bn_r⟩
       refine hK _ _ rfl bn_r rfl (fun h => by cases h)
     · have d13 : vals 13 = _ := hd 13 (by decide +kernel)
       rw [d13]
       go_simp
       refine hK _ _ rfl (Below.refl _ _) (by first | rfl | simp) (fun h => by cases h)
     · have d10 : vals 10 = _ := hd 10 (by decide +kernel)
       have d14 : vals 14 = _ := hd 14 (by decide +kernel)
       rw [d10, d14]
       go_simp
       refine hK _ _ rfl (Below.refl _ _) (by first | rfl | simp) (fun h => by cases h)
     · have d15 : vals 15 = _ := hd 15 (by decide +kernel)
       rw [d15]
       go_simp
       refine hK _ _ rfl (Below.refl _ _) (by first | rfl | simp) (fun h => by cases h)
     · have z0 := (h_rhi.below hS).c0
       have z1 := (h_rhi.below hS).c1
       have z2 := (h_rhi.below hS).c2
       go_simp
       refine hK _ _ rfl (Below.refl _ _) (by first | rfl | simp) (fun h => by cases h)
     · have z0 := (h_ra.below hS).c0
       have z1 := (h_ra.below hS).c1
       have z2 := (h_ra.below hS).c2
       go_simp
       refine hK _ _ rfl (Below.refl _ _) (by first | rfl | simp) (fun h => by cases h)
     · have d17 : vals 17 = _ := hd 17 (by decide +kernel)
       have d18 : vals 18 = _ := hd 18 (by decide +kernel)
       rw [d17, d18]
       go_simp
       go_at_call 33
       with_reducible refine (rCmp_c (h_hi.below hS) (h_a.below hS) (by decide) (by decide) c2 Hc2.out).mono ?_
       rintro e w2 ⟨rfl, bn_r⟩
       refine hK _ _ rfl bn_r rfl (fun h => by cases h)
     · have d19 : vals 19 = _ := hd 19 (by decide +kernel)
       rw [d19]
       go_simp
       refine hK _ _ rfl (Below.refl _ _) (by first | rfl | simp) (fun h => by cases h)
     · have d16 : vals 16 = _ := hd 16 (by decide +kernel)
       have d20 : vals 20 = _ := hd 20 (by decide +kernel)
       rw [d16, d20]
       go_simp
       refine hK _ _ rfl (Below.refl _ _) (by first | rfl | simp) (fun h => by cases h)
     · have d21 : vals 21 = _ := hd 21 (by decide +kernel)
       rw [d21]
       go_simp
       refine hK _ _ rfl (Below.refl _ _) (by first | rfl | simp) (fun h => by cases h)
     · have z0 := (h_rgap.below hS).c0
       have z1 := (h_rgap.below hS).c1
       have z2 := (h_rgap.below hS).c2
       go_simp
       refine hK _ _ rfl (Below.refl _ _) (by first | rfl | simp) (fun h => by cases h)
     · have d23 : vals 23 = _ := hd 23 (by decide +kernel)
       rw [d23]
       go_simp
       go_at_call 34
       with_reducible refine (rSign_c (h_gap.below hS) (by decide) cg Hcg.out).mono ?_
       rintro e w2 ⟨rfl, bn_r⟩
       refine hK _ _ rfl bn_r rfl (fun h => by cases h)
     · have d24 : vals 24 = _ := hd 24 (by decide +kernel)
       rw [d24]
       go_simp
       refine hK _ _ rfl (Below.refl _ _) (by first | rfl | simp) (fun h => by cases h)
     · have d25 : vals 25 = _ := hd 25 (by decide +kernel)
       rw [d25]
       go_simp
       refine hK _ _ rfl (Below.refl _ _) (by first | rfl | simp) (fun h => by cases h)
     · have z0 := (h_rgap.below hS).c0
       have z1 := (h_rgap.below hS).c1
       have z2 := (h_rgap.below hS).c2
       go_simp
       refine hK _ _ rfl (Below.refl _ _) (by first | rfl | simp) (fun h => by cases h)
     · have z0 := (h_rst.below hS).c0
       have z1 := (h_rst.below hS).c1
       have z2 := (h_rst.below hS).c2
       go_simp
       refine hK _ _ rfl (Below.refl _ _) (by first | rfl | simp) (fun h => by cases h)
     · have d27 : vals 27 = _ := hd 27 (by decide +kernel)
       have d28 : vals 28 = _ := hd 28 (by decide +kernel)
       rw [d27, d28]
       go_simp
       go_at_call 20
       with_reducible refine (keepRat_c (h_gap.below hS) (h_st.below hS) (by decide) (by decide) true (keepQ rfl)).mono ?_
       rintro e w2 ⟨rfl, bn_r⟩
       refine hK _ _ rfl bn_r rfl (fun h => by cases h)
     · have d29 : vals 29 = _ := hd 29 (by decide +kernel)
       rw [d29]
       go_simp
       refine hK _ _ rfl (Below.refl _ _) (by first | rfl | simp) (fun h => by cases h)
     · have d26 : vals 26 = _ := hd 26 (by decide +kernel)
       have d30 : vals 30 = _ := hd 30 (by decide +kernel)
       rw [d26, d30]
       go_simp
       refine hK _ _ rfl (Below.refl _ _) (by first | rfl | simp) (fun h => by cases h)
     · have d22 : vals 22 = _ := hd 22 (by decide +kernel)
       have d31 : vals 31 = _ := hd 31 (by decide +kernel)
       rw [d22, d31]
       go_simp
       refine hK _ _ rfl (Below.refl _ _) (by first | rfl | simp) (fun h => by cases h)
     · have d32 : vals 32 = _ := hd 32 (by decide +kernel)
       rw [d32]
       go_simp
       refine hK _ _ rfl (Below.refl _ _) (by first | rfl | simp) (fun h => by cases h)
     · have z0 := (h_rgap.below hS).c0
       have z1 := (h_rgap.below hS).c1
       have z2 := (h_rgap.below hS).c2
       go_simp
       refine hK _ _ rfl (Below.refl _ _) (by first | rfl | simp) (fun h => by cases h)
     · have d34 : vals 34 = _ := hd 34 (by decide +kernel)
       rw [d34]
       go_simp
       go_at_call 34
       with_reducible refine (rSign_c (h_gap.below hS) (by decide) cg Hcg.out).mono ?_
       rintro e w2 ⟨rfl, bn_r⟩
       refine hK _ _ rfl bn_r rfl (fun h => by cases h)
     · have d35 : vals 35 = _ := hd 35 (by decide +kernel)
       rw [d35]
       go_simp
       refine hK _ _ rfl (Below.refl _ _) (by first | rfl | simp) (fun h => by cases h)
     · have z0 := (h_rlo.below hS).c0
       have z1 := (h_rlo.below hS).c1
       have z2 := (h_rlo.below hS).c2
       go_simp
       refine hK _ _ rfl (Below.refl _ _) (by first | rfl | simp) (fun h => by cases h)
     · have z0 := (h_ra.below hS).c0
       have z1 := (h_ra.below hS).c1
       have z2 := (h_ra.below hS).c2
       go_simp
       refine hK _ _ rfl (Below.refl _ _) (by first | rfl | simp) (fun h => by cases h)
     · have d37 : vals 37 = _ := hd 37 (by decide +kernel)
       have d38 : vals 38 = _ := hd 38 (by decide +kernel)
       rw [d37, d38]
       go_simp
       go_at_call 33
       with_reducible refine (rCmp_c (h_lo.below hS) (h_a.below hS) (by decide) (by decide) (-1) Hc1.out).mono ?_
       rintro e w2 ⟨rfl, bn_r⟩
       refine hK _ _ rfl bn_r rfl (fun h => by cases h)
     · have d39 : vals 39 = _ := hd 39 (by decide +kernel)
       rw [d39]
       go_simp
       refine hK _ _ rfl (Below.refl _ _) (by first | rfl | simp) (fun h => by cases h)
     · have d36 : vals 36 = _ := hd 36 (by decide +kernel)
       have d40 : vals 40 = _ := hd 40 (by decide +kernel)
       rw [d36, d40]
       go_simp
       refine hK _ _ rfl (Below.refl _ _) (by first | rfl | simp) (fun h => by cases h)
     · have d33 : vals 33 = _ := hd 33 (by decide +kernel)
       have d41 : vals 41 = _ := hd 41 (by decide +kernel)
       rw [d33, d41]
       go_simp
       refine hK _ _ rfl (Below.refl _ _) (by first | rfl | simp) (fun h => by cases h)
     · have d42 : vals 42 = _ := hd 42 (by decide +kernel)
       rw [d42]
       go_simp
       refine hK _ _ rfl (Below.refl _ _) (by first | rfl | simp) (fun h => by cases h)
     · go_simp
       refine hK _ _ rfl (Below.refl _ _) (by first | rfl | simp) (fun h => by cases h)
     · go_simp
       refine hK _ _ rfl (Below.refl _ _) (by first | rfl | simp) (fun h => by cases h)
     · have d44 : vals 44 = _ := hd 44 (by decide +kernel)
       have d45 : vals 45 = _ := hd 45 (by decide +kernel)
       rw [d44, d45]
       go_simp
       refine hK _ _ rfl (Below.refl _ _) (by first | rfl | simp) (fun h => by cases h)
     · have d46 : vals 46 = _ := hd 46 (by decide +kernel)
       rw [d46]
       go_simp
       refine hK _ _ rfl (Below.refl _ _) (by first | rfl | simp) (fun h => by cases h)
     · go_simp
       refine hK _ _ rfl (Below.refl _ _) (by first | rfl | simp) (fun h => by cases h)
     · go_simp
       refine hK _ _ rfl (Below.refl _ _) (by first | rfl | simp) (fun h => by cases h)
     · have d48 : vals 48 = _ := hd 48 (by decide +kernel)
       have d49 : vals 49 = _ := hd 49 (by decide +kernel)
       rw [d48, d49]
       go_simp
       refine hK _ _ rfl (Below.refl _ _) (by first | rfl | simp) (fun h => by cases h)
     · have d47 : vals 47 = _ := hd 47 (by decide +kernel)
       have d50 : vals 50 = _ := hd 50 (by decide +kernel)
       rw [d47, d50]
       go_simp
       refine hK _ _ rfl (Below.refl _ _) (by first | rfl | simp) (fun h => by cases h)
     · have d43 : vals 43 = _ := hd 43 (by decide +kernel)
       have d51 : vals 51 = _ := hd 51 (by decide +kernel)
       rw [d43, d51]
       go_simp
       refine hK _ _ rfl (Below.refl _ _) (by first | rfl | simp) (fun h => by cases h)
    case hfin21 =>
     intro vals wr hS hP hne
     have ez_52 : vals 52 = _ := hP 52 (by decide)
     try dsimp only
     rw [ez_52]
     refine wpAny_done (by kernel_rfl) ?_ _
     generalize wr = w31 at *
     have bn := hS
     clear hS ez_52
     replace h_a := h_a.below bn
     replace h_ra := h_ra.below bn
     replace h_lo := h_lo.below bn
     replace h_rlo := h_rlo.below bn
     replace h_hi := h_hi.below bn
     replace h_rhi := h_rhi.below bn
     replace h_mid := h_mid.below bn
     replace h_rmid := h_rmid.below bn
     replace h_gap := h_gap.below bn
     replace h_rgap := h_rgap.below bn
     replace h_t := h_t.below bn
     replace h_o := h_o.below bn
     replace h_st := h_st.below bn
     replace h_rst := h_rst.below bn
     replace HTab := Lib.hid (HTab.out.below bn)
     replace bw := below_two bw bn
     clear bn
     have c_a0 := h_ra.c0
     have c_a1 := h_ra.c1
     have c_a2 := h_ra.c2
     have c_mid0 := h_rmid.c0
     have c_mid1 := h_rmid.c1
     have c_mid2 := h_rmid.c2
     go_wp2_with fail
     clear c_a0 c_a1 c_a2 c_mid0 c_mid1 c_mid2
     refine (rSub_c h_a h_mid (by decide) (by decide) _ _ F9.out).mono ?_
     rintro e w32 ⟨A_w, n_w, c_w, B_w, m_w, d_w, rfl, h_w, bn⟩
     replace h_a := h_a.below bn
     replace h_ra := h_ra.below bn
     replace h_lo := h_lo.below bn
     replace h_rlo := h_rlo.below bn
     replace h_hi := h_hi.below bn
     replace h_rhi := h_rhi.below bn
     replace h_mid := h_mid.below bn
     replace h_rmid := h_rmid.below bn
     replace h_gap := h_gap.below bn
     replace h_rgap := h_rgap.below bn
     replace h_t := h_t.below bn
     replace h_o := h_o.below bn
     replace h_st := h_st.below bn
     replace h_rst := h_rst.below bn
     replace HTab := Lib.hid (HTab.out.below bn)
     replace bw := below_two bw bn
     clear bn
     have h_rw := row3_new w32 27 (.bool (sg (oTop (some z_w)))) (.slice A_w n_w c_w) (.slice B_w m_w d_w)
     have bn := below_new w32 (.cells #[Value.bool (sg (oTop (some z_w))), Value.slice A_w n_w c_w, Value.slice B_w m_w d_w] 27)
     replace h_a := h_a.below bn
     replace h_ra := h_ra.below bn
     replace h_lo := h_lo.below bn
     replace h_rlo := h_rlo.below bn
     replace h_hi := h_hi.below bn
     replace h_rhi := h_rhi.below bn
     replace h_mid := h_mid.below bn
     replace h_rmid := h_rmid.below bn
     replace h_gap := h_gap.below bn
     replace h_rgap := h_rgap.below bn
     replace h_t := h_t.below bn
     replace h_o := h_o.below bn
     replace h_st := h_st.below bn
     replace h_rst := h_rst.below bn
     replace h_w := h_w.below bn
     replace HTab := Lib.hid (HTab.out.below bn)
     replace bw := below_two bw bn
     clear bn
     have c_w0 := h_rw.c0
     have c_w1 := h_rw.c1
     have c_w2 := h_rw.c2
     go_wp2_with fail
     clear c_w0 c_w1 c_w2
     generalize w32.alloc (.cells #[Value.bool (sg (oTop (some z_w))), Value.slice A_w n_w c_w, Value.slice B_w m_w d_w] 27) = w33 at *
     obtain ⟨q_w, eg⟩ : ∃ g, g = w32.heap.size := ⟨_, rfl⟩
     rw [← eg] at h_rw ⊢
     clear eg
     refine (rAdd_c h_w h_w (by decide) (by decide) _ _ F10.out).mono ?_
     rintro e w34 ⟨A_v, n_v, c_v, B_v, m_v, d_v, rfl, h_v, bn⟩
     replace h_a := h_a.below bn
     replace h_ra := h_ra.below bn
     replace h_lo := h_lo.below bn
     replace h_rlo := h_rlo.below bn
     replace h_hi := h_hi.below bn
     replace h_rhi := h_rhi.below bn
     replace h_mid := h_mid.below bn
     replace h_rmid := h_rmid.below bn
     replace h_gap := h_gap.below bn
     replace h_rgap := h_rgap.below bn
     replace h_t := h_t.below bn
     replace h_o := h_o.below bn
     replace h_st := h_st.below bn
     replace h_rst := h_rst.below bn
     replace h_w := h_w.below bn
     replace h_rw := h_rw.below bn
     replace HTab := Lib.hid (HTab.out.below bn)
     replace bw := below_two bw bn
     clear bn
     have h_rv := row3_new w34 27 (.bool (sg (oTop (some z_v)))) (.slice A_v n_v c_v) (.slice B_v m_v d_v)
     have bn := below_new w34 (.cells #[Value.bool (sg (oTop (some z_v))), Value.slice A_v n_v c_v, Value.slice B_v m_v d_v] 27)
     replace h_a := h_a.below bn
     replace h_ra := h_ra.below bn
     replace h_lo := h_lo.below bn
     replace h_rlo := h_rlo.below bn
     replace h_hi := h_hi.below bn
     replace h_rhi := h_rhi.below bn
     replace h_mid := h_mid.below bn
     replace h_rmid := h_rmid.below bn
     replace h_gap := h_gap.below bn
     replace h_rgap := h_rgap.below bn
     replace h_t := h_t.below bn
     replace h_o := h_o.below bn
     replace h_st := h_st.below bn
     replace h_rst := h_rst.below bn
     replace h_w := h_w.below bn
     replace h_rw := h_rw.below bn
     replace h_v := h_v.below bn
     replace HTab := Lib.hid (HTab.out.below bn)
     replace bw := below_two bw bn
     clear bn
     go_wp2
     generalize w34.alloc (.cells #[Value.bool (sg (oTop (some z_v))), Value.slice A_v n_v c_v, Value.slice B_v m_v d_v] 27) = w35 at *
     obtain ⟨q_v, eg⟩ : ∃ g, g = w34.heap.size := ⟨_, rfl⟩
     rw [← eg] at h_rv ⊢
     clear eg
     generalize w35 = wS at *
     refine region_freeg 22 1 [186, 187, 188, 189, 190, 191, 192, 193, 194, 195, 196, 197, 198, 199, 200, 201, 202, 203, 204, 205, 206, 207] ?aF22 (fun wx => Below wS.heap.size wS wx) (fun k vv wx => match k with
      | 0 => vv = .int .i64 0
      | 1 => vv = .bool true
      | 2 => vv = .bool true
      | 3 => vv = .int .i64 0
      | 4 => vv = .bool true
      | 5 => vv = .bool true
      | 6 => vv = .bool true
      | 7 => vv = .agg #[.bool (sg (oTop (some z_v))), .slice A_v n_v c_v, .slice B_v m_v d_v]
      | 8 => vv = .agg #[.bool (sg (oTop (some z_g))), .slice A_st n_st c_st, .slice B_st m_st d_st]
      | 9 => vv = .int .i64 c3
      | 10 => vv = .bool true
      | 11 => vv = .bool true
      | 12 => vv = .bool true
      | 13 => vv = .agg #[.bool (sg (oTop (some z_v))), .slice A_v n_v c_v, .slice B_v m_v d_v]
      | 14 => ∃ (e0 : Option Addr) (e1 : Nat) (e2 : Nat) (e3 : Option Addr) (e4 : Nat) (e5 : Nat), vv = .agg #[.bool (sg (oTop (some (-z_v)))), .slice e0 e1 e2, .slice e3 e4 e5] ∧ QT wx e0 e1 e2 e3 e4 e5 (some (-z_v))
      | 15 => vv = .agg #[.bool (sg (oTop (some z_g))), .slice A_st n_st c_st, .slice B_st m_st d_st]
      | 16 => vv = .int .i64 c4
      | 17 => vv = .bool true
      | 18 => vv = .bool true
      | 19 => vv = .bool true
      | 20 => vv = .bool true
      | _ => vv = .bool true)
      (fun k => false) (by kernel_rfl) ?haF22 rfl (by kernel_rfl) (by kernel_rfl) (fun _ _ _ _ _ h => h) ?hSb22 ?hPb22 ?hS22 ?hop22 ?hfin22
     case haF22 =>
      intro vals
      simp only [fillAll, List.getElem?_cons_zero, List.getElem?_cons_succ, Act.put, List.setIfInBounds_toArray, List.set_cons_zero, List.set_cons_succ]
      exact rfl
     case hSb22 => exact fun wx w2 hb hS => below_two hS hb
     case hPb22 =>
      intro k v wa wb hb h
      match k, h with
      | 0, h => exact h
      | 1, h => exact h
      | 2, h => exact h
      | 3, h => exact h
      | 4, h => exact h
      | 5, h => exact h
      | 6, h => exact h
      | 7, h => exact h
      | 8, h => exact h
      | 9, h => exact h
      | 10, h => exact h
      | 11, h => exact h
      | 12, h => exact h
      | 13, h => exact h
      | 14, ⟨e0, e1, e2, e3, e4, e5, h1, g0⟩ => exact ⟨e0, e1, e2, e3, e4, e5, h1, g0.below hb⟩
      | 15, h => exact h
      | 16, h => exact h
      | 17, h => exact h
      | 18, h => exact h
      | 19, h => exact h
      | 20, h => exact h
      | _ + 21, h => exact h
     case hS22 => exact (Below.refl _ _).drew
     case hop22 =>
      refine .cons (k := 0) (.plain rfl ?_) (.cons (k := 1) (.plain rfl ?_) (.cons (k := 2) (.plain rfl ?_) (.cons (k := 3) (.yes (fun vals wr hS hd g b e => by cases e; exact hd 2 (by decide +kernel)) ?_) (.cons (k := 4) (.yes (fun vals wr hS hd g b e => by cases e; exact hd 2 (by decide +kernel)) ?_) (.cons (k := 5) (.plain rfl ?_) (.cons (k := 6) (.plain rfl ?_) (.cons (k := 7) (.yes (fun vals wr hS hd g b e => by cases e; exact hd 6 (by decide +kernel)) ?_) (.cons (k := 8) (.yes (fun vals wr hS hd g b e => by cases e; exact hd 6 (by decide +kernel)) ?_) (.cons (k := 9) (.yes (fun vals wr hS hd g b e => by cases e; exact hd 6 (by decide +kernel)) ?_) (.cons (k := 10) (.yes (fun vals wr hS hd g b e => by cases e; exact hd 6 (by decide +kernel)) ?_) (.cons (k := 11) (.plain rfl ?_) (.cons (k := 12) (.plain rfl ?_) (.cons (k := 13) (.yes (fun vals wr hS hd g b e => by cases e; exact hd 12 (by decide +kernel)) ?_) (.cons (k := 14) (.yes (fun vals wr hS hd g b e => by cases e; exact hd 12 (by decide +kernel)) ?_) (.cons (k := 15) (.yes (fun vals wr hS hd g b e => by cases e; exact hd 12 (by decide +kernel)) ?_) (.cons (k := 16) (.yes (fun vals wr hS hd g b e => by cases e; exact hd 12 (by decide +kernel)) ?_) (.cons (k := 17) (.yes (fun vals wr hS hd g b e => by cases e; exact hd 12 (by decide +kernel)) ?_) (.cons (k := 18) (.plain rfl ?_) (.cons (k := 19) (.plain rfl ?_) (.cons (k := 20) (.yes (fun vals wr hS hd g b e => by cases e; exact hd 19 (by decide +kernel)) ?_) (.cons (k := 21) (.plain rfl ?_) (.nil))))))))))))))))))))))
      all_goals intro vals wr hS hd KC hK
      all_goals (show Oper.wp _ _ _ _ _ _; dsimp only)
      · go_simp
        refine hK _ _ rfl (Below.refl _ _) (by first | rfl | simp) (fun h => by cases h)
      · have d0 : vals 0 = _ := hd 0 (by decide +kernel)
        rw [d0]
        go_simp
        refine hK _ _ rfl (Below.refl _ _) (by first | rfl | simp) (fun h => by cases h)
      · have d1 : vals 1 = _ := hd 1 (by decide +kernel)
        rw [d1]
        go_simp
        refine hK _ _ rfl (Below.refl _ _) (by first | rfl | simp) (fun h => by cases h)
      · go_simp
        refine hK _ _ rfl (Below.refl _ _) (by first | rfl | simp) (fun h => by cases h)
      · have d3 : vals 3 = _ := hd 3 (by decide +kernel)
        rw [d3]
        go_simp
        refine hK _ _ rfl (Below.refl _ _) (by first | rfl | simp) (fun h => by cases h)
      · have d2 : vals 2 = _ := hd 2 (by decide +kernel)
        have d4 : vals 4 = _ := hd 4 (by decide +kernel)
        rw [d2, d4]
        go_simp
        refine hK _ _ rfl (Below.refl _ _) (by first | rfl | simp) (fun h => by cases h)
      · have d5 : vals 5 = _ := hd 5 (by decide +kernel)
        rw [d5]
        go_simp
        refine hK _ _ rfl (Below.refl _ _) (by first | rfl | simp) (fun h => by cases h)
      · have z0 := (h_rv.below hS).c0
        have z1 := (h_rv.below hS).c1
        have z2 := (h_rv.below hS).c2
        go_simp
        refine hK _ _ rfl (Below.refl _ _) (by first | rfl | simp) (fun h => by cases h)
      · have z0 := (h_rst.below hS).c0
        have z1 := (h_rst.below hS).c1
        have z2 := (h_rst.below hS).c2
        go_simp
        refine hK _ _ rfl (Below.refl _ _) (by first | rfl | simp) (fun h => by cases h)
      · have d7 : vals 7 = _ := hd 7 (by decide +kernel)
        have d8 : vals 8 = _ := hd 8 (by decide +kernel)
        rw [d7, d8]
        go_simp
        go_at_call 33
        with_reducible refine (rCmp_c (h_v.below hS) (h_st.below hS) (by decide) (by decide) c3 Hc3.out).mono ?_
        rintro e w2 ⟨rfl, bn_r⟩
        refine hK _ _ rfl bn_r rfl (fun h => by cases h)
      · have d9 : vals 9 = _ := hd 9 (by decide +kernel)
        rw [d9]
        go_simp
        refine hK _ _ rfl (Below.refl _ _) (by first | rfl | simp) (fun h => by cases h)
      · have d6 : vals 6 = _ := hd 6 (by decide +kernel)
        have d10 : vals 10 = _ := hd 10 (by decide +kernel)
        rw [d6, d10]
        go_simp
        refine hK _ _ rfl (Below.refl _ _) (by first | rfl | simp) (fun h => by cases h)
      · have d11 : vals 11 = _ := hd 11 (by decide +kernel)
        rw [d11]
        go_simp
        refine hK _ _ rfl (Below.refl _ _) (by first | rfl | simp) (fun h => by cases h)
      · have z0 := (h_rv.below hS).c0
        have z1 := (h_rv.below hS).c1
        have z2 := (h_rv.below hS).c2
        go_simp
        refine hK _ _ rfl (Below.refl _ _) (by first | rfl | simp) (fun h => by cases h)
      · have d13 : vals 13 = _ := hd 13 (by decide +kernel)
        rw [d13]
        go_simp
        go_at_call 36
        with_reducible refine (rNegS_c (h_v.below hS) (by decide)).mono ?_
        rintro e w2 ⟨r0, r1, r2, r3, r4, r5, rfl, f0, bn_r⟩
        refine hK _ _ rfl bn_r ⟨_, _, _, _, _, _, rfl, f0⟩ (fun h => by cases h)
      · have z0 := (h_rst.below hS).c0
        have z1 := (h_rst.below hS).c1
        have z2 := (h_rst.below hS).c2
        go_simp
        refine hK _ _ rfl (Below.refl _ _) (by first | rfl | simp) (fun h => by cases h)
      · obtain ⟨A_14_0, n_14_1, n_14_2, A_14_3, n_14_4, n_14_5, d14, h_14_0⟩ := hd 14 (by decide +kernel)
        have d15 : vals 15 = _ := hd 15 (by decide +kernel)
        rw [d14, d15]
        go_simp
        go_at_call 33
        with_reducible refine (rCmp_c h_14_0 (h_st.below hS) (by decide) (by decide) c4 Hc4.out).mono ?_
        rintro e w2 ⟨rfl, bn_r⟩
        refine hK _ _ rfl bn_r rfl (fun h => by cases h)
      · have d16 : vals 16 = _ := hd 16 (by decide +kernel)
        rw [d16]
        go_simp
        refine hK _ _ rfl (Below.refl _ _) (by first | rfl | simp) (fun h => by cases h)
      · have d12 : vals 12 = _ := hd 12 (by decide +kernel)
        have d17 : vals 17 = _ := hd 17 (by decide +kernel)
        rw [d12, d17]
        go_simp
        refine hK _ _ rfl (Below.refl _ _) (by first | rfl | simp) (fun h => by cases h)
      · have d18 : vals 18 = _ := hd 18 (by decide +kernel)
        rw [d18]
        go_simp
        refine hK _ _ rfl (Below.refl _ _) (by first | rfl | simp) (fun h => by cases h)
      · go_simp
        go_at_call 10
        with_reducible refine (wakes_any _ (HTab.out.below hS)).mono ?_
        rintro e w2 ⟨rfl, bn_r⟩
        refine hK _ _ rfl bn_r rfl (fun h => by cases h)
      · have d19 : vals 19 = _ := hd 19 (by decide +kernel)
        have d20 : vals 20 = _ := hd 20 (by decide +kernel)
        rw [d19, d20]
        go_simp
        refine hK _ _ rfl (Below.refl _ _) (by first | rfl | simp) (fun h => by cases h)
     case hfin22 =>
      intro vals wr hS hP hne
      have ez_21 : vals 21 = _ := hP 21 (by decide)
      have HB := Lib.hid (below_two bw hS)
      try dsimp only
      rw [ez_21]
      refine wpAny_ready (rs := [22]) (by kernel_rfl) (by simp) (AllReady.cons rfl (fun KC hK => ?_) AllReady.nil)
      go_simp
      refine hK _ _ ?_
      clear hK KC
      refine wpAny_done (by kernel_rfl) ?_ _
      go_wp2
      go_ret
      exact ⟨rfl, HB.out⟩
theorem tab_of {W : World} (h : laidMet Tryz.prog Rows.decimalBoundsRow.laid W) : Tab W := by
 refine ⟨?_, ?_⟩
 · first | exact powers_tab (laidMet_drop 0 h) (by decide +kernel) | exact powers_tab (laidMet_drop 1 h) (by decide +kernel) | exact powers_tab (laidMet_drop 2 h) (by decide +kernel) | exact powers_tab (laidMet_drop 3 h) (by decide +kernel) | exact powers_tab (laidMet_drop 4 h) (by decide +kernel) | exact powers_tab (laidMet_drop 5 h) (by decide +kernel) | exact powers_tab (laidMet_drop 6 h) (by decide +kernel) | exact powers_tab (laidMet_drop 7 h) (by decide +kernel) | exact powers_tab (laidMet_drop 8 h) (by decide +kernel) | exact powers_tab (laidMet_drop 9 h) (by decide +kernel) | exact powers_tab (laidMet_drop 10 h) (by decide +kernel) | exact powers_tab (laidMet_drop 11 h) (by decide +kernel) | exact powers_tab (laidMet_drop 12 h) (by decide +kernel) | exact powers_tab (laidMet_drop 13 h) (by decide +kernel)
 · first | exact err_tab (laidMet_drop 0 h) (by decide +kernel) | exact err_tab (laidMet_drop 1 h) (by decide +kernel) | exact err_tab (laidMet_drop 2 h) (by decide +kernel) | exact err_tab (laidMet_drop 3 h) (by decide +kernel) | exact err_tab (laidMet_drop 4 h) (by decide +kernel) | exact err_tab (laidMet_drop 5 h) (by decide +kernel) | exact err_tab (laidMet_drop 6 h) (by decide +kernel) | exact err_tab (laidMet_drop 7 h) (by decide +kernel) | exact err_tab (laidMet_drop 8 h) (by decide +kernel) | exact err_tab (laidMet_drop 9 h) (by decide +kernel) | exact err_tab (laidMet_drop 10 h) (by decide +kernel) | exact err_tab (laidMet_drop 11 h) (by decide +kernel) | exact err_tab (laidMet_drop 12 h) (by decide +kernel) | exact err_tab (laidMet_drop 13 h) (by decide +kernel)
set_option maxRecDepth 100000 in
theorem lifted (os : Os) (started : os.Started) (H : Type) (enc : TypeId × Value → H) :
 ReturnsInHanded {} Tryz.checked os 5 .any (fun w args => (Rows.decimalBoundsSpec.pre enc Tryz.prog Tryz.f5 [] false w args ∧ laidMetH Tryz.prog Rows.decimalBoundsRow.laid w) ∧ sizedMet enc Tryz.prog Tryz.f5 (OpenSpec.ofChange Rows.decimalBoundsSpec) false w args)
  (Rows.decimalBoundsSpec.post enc Tryz.prog Tryz.f5 false true false false) := by
 refine returnsInHanded_of_change_and (C := Tryz.checked) (X := fun w _ => laidMetH Tryz.prog Rows.decimalBoundsRow.laid w) (fun _ _ _ hh h => h.of_heap hh) own started (by kernel_rfl) Tryz.func5
  (ChangeSpec.witness_shaped (enc := enc) (C := Tryz.checked) (os := os) (X := fun w _ => laidMetH Tryz.prog Rows.decimalBoundsRow.laid w) false (World.laidAll Tryz.prog os Rows.decimalBoundsRow.laid) #[.agg #[.bool false, .slice none 0 0, .slice none 0 0], .int .u8 0] 8 (World.laidAll_os _ _ _)
    (World.shaped_of_ZipB (by kernel_rfl) (by kernel_rfl)) (by kernel_rfl) (by kernel_rfl) (by kernel_rfl)
    (by rw [MakeChecks.laidMetH_plain _ _ _ (by kernel_rfl)]; exact laidMet_laidAll _ (by kernel_rfl) (by kernel_rfl))) ?_
 intro W base args ds gs before hval0 hW _ _ hL _
 have hval : ∀ (j : Nat) t v, Tryz.f5.params[j]? = some t → args[j]? = some v → Value.okWide Tryz.prog W .any base t v := hval0
 have hW' := hW
 obtain ⟨p, q, hA0, hV, rfl, hfz, hnd⟩ := hW
 have hA : DataW.TrodAll enc Tryz.prog W 0 (fun _ => true) true Tryz.f5.params.toList args.toList ds p := hA0
 rw [Tryz.params5] at hA hval
 obtain ⟨v0, vs0, d0, ds0, p0, q0, hargs, rfl, rfl, h0, r0⟩ := trodAll_cons hA
 obtain ⟨v1, vs1, d1, ds1, p1, q1, rfl, rfl, rfl, h1, r1⟩ := trodAll_cons r0
 obtain ⟨rfl, rfl, rfl⟩ := trodAll_nil r1
 obtain rfl : args = #[v0, v1] := by cases args; simp_all
 obtain ⟨rfl, rfl⟩ := trodVars_none hV
 obtain ⟨b0, a0, len0, cap0, z0, e0, lem0, dap0, y0, rfl, i0, hc0, hm0, k0, kc0, km0⟩ := open_rat (hval 0 27 v0 rfl rfl) h0
 obtain ⟨a1, rfl, rfl, rfl, w1⟩ := open_int Tryz.underlying5 (hval 1 5 v1 rfl rfl) h1
 clear hA0 hval0
 simp only [List.append_nil] at hW'
 rw [MakeChecks.laidMetH_plain _ _ _ (by kernel_rfl)] at hL
 refine (walk b0 a0 len0 cap0 z0 e0 lem0 dap0 y0 a1 W i0 hc0 hm0 k0 kc0 km0 w1 (tab_of hL)).mono fun e W' ⟨he, bel⟩ => ?_
 subst he
 exact ⟨_, rfl, _, _, _, [], _, [], hW', trodAll_mk1 (shut_bool Tryz.underlying4 _), (trodAll_cons_mk (Below.trod laidOut (by kernel_rfl) (of_decide_eq_true (by kernel_rfl)) h0 bel (places_lt h0)) (trodAll_cons_mk (shut_int Tryz.underlying5 w1) trodAll_mk0)), rfl, bel.frame _, fun h => by cases h⟩
theorem over : Rows.decimalBoundsRow.holds Tryz.pinned (OpenSpec.ofChange Rows.decimalBoundsSpec) :=
 OpenClaim.holds_of_wide 5 Tryz.f5 rfl rfl rfl rfl rfl rfl rfl ⟨rfl, rfl, rfl, rfl, rfl⟩ rfl rfl rfl rfl rfl (by kernel_rfl) Tryz.func5 (by kernel_rfl)
  (of_decide_eq_true (by kernel_rfl)) (by unfold Func.isWrapper; first | (rw [if_pos (by decide +kernel)]; kernel_rfl) | (rw [if_neg (by decide +kernel)]; exact ⟨rfl, rfl⟩))
  (fun os started H enc _ => lifted os started H enc)
theorem proved : Rows.DecimalBoundsCardSaid :=
 Claim7.holds_tied_plain_at .later [] Rows.decimalBoundsCard.laidKinds true Rows.decimalBoundsCard.stood.harness Rows.decimalBoundsCard.stood.looks
  over (fun _ h => by cases h) (by kernel_rfl) (fun _ h => by cases h) decimalBounds_row_tie rfl ⟨rfl, rfl⟩ (by kernel_rfl) rfl
  (fun f fn hf hfn => by
    obtain rfl : f = 5 := Option.some.inj ((show Tryz.prog.funcNamed Rows.decimalBoundsRow.func = some 5 by kernel_rfl).symm.trans hf) |>.symm
    obtain rfl : fn = Tryz.f5 := (Option.some.inj (Tryz.func5.symm.trans hfn)).symm
    exact ⟨by kernel_rfl, fun j t ht => by
     have hm : t ∈ Tryz.f5.params.toList := by simpa using Array.mem_of_getElem? ht
     have hall : (Tryz.f5.params.toList.all fun u => !Tryz.prog.wantsStandIn u) = true := by kernel_rfl
     exact (show Tryz.prog.wantsStandIn t = false by simpa using List.all_eq_true.1 hall t hm)⟩)
  (by kernel_rfl)
end Go.Proofs.YtjikaojffgjndaaGreatDoor.lawDecimalBounds
