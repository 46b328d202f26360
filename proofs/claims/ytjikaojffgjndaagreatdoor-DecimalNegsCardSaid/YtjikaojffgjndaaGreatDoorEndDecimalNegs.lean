/- Of any rational number of few limbs: what its negative is rounded to is the negative of what it is rounded to the other way. Condition: the listed tables. -/
import Derived.Test.YtjikaojffgjndaaGreatDoorM11
import Derived.Test.YtjikaojffgjndaaGreatDoorCards
import Derived.Test.YtjikaojffgjndaaGreatDoorTie
import Derived.ChangeMaps5
import Derived.Lay
import Derived.SevenTiedAt
/- Of any rational number of few limbs: what its negative is rounded to is the negative of what it is rounded to the other way. Condition: the listed tables. -/
namespace Go.Proofs.YtjikaojffgjndaaGreatDoor.lawDecimalNegs
open Go.ChangeShapes Go.WideShapes Go.ChangeAt Go.RowKit Limb
set_option linter.unusedVariables false
theorem rNegT_c {w : World} {s : Bool} {A B : Option Addr} {n c m d : Nat} {xs ys : List Nat} {q : Rat} {L : Nat} (hx : QQ w s A n c xs B m d ys (some q) L) (h1 : L ≤ 1000) (r : Rat) (hr : -q = r) :
 Calls Tryz.prog 36 #[.agg #[.bool s, .slice A n c, .slice B m d]] w fun e w' => ∃ A2 n2 c2 B2 m2 d2, e = .returned (.agg #[.bool (sg (oTop (some r))), .slice A2 n2 c2, .slice B2 m2 d2]) ∧ QT w' A2 n2 c2 B2 m2 d2 (some r) ∧ Below w.heap.size w w' := by
 subst hr; exact rNeg_c hx h1
theorem rNegS_c {w : World} {s : Bool} {A B : Option Addr} {n c m d : Nat} {xs ys : List Nat} {q : Rat} {L : Nat} (hx : QQ w s A n c xs B m d ys (some q) L) (h1 : L ≤ 1000) :
 Calls Tryz.prog 36 #[.agg #[.bool s, .slice A n c, .slice B m d]] w fun e w' => ∃ A2 n2 c2 B2 m2 d2, e = .returned (.agg #[.bool (sg (oTop (some (-q)))), .slice A2 n2 c2, .slice B2 m2 d2]) ∧ QT w' A2 n2 c2 B2 m2 d2 (some (-q)) ∧ Below w.heap.size w w' := rNeg_c hx h1
set_option maxHeartbeats 4000000 in
set_option maxRecDepth 100000 in
theorem walk (g_a : Bool) (A_a : Option Addr) (n_a c_a : Nat) (xs_a : List Nat) (B_a : Option Addr) (m_a d_a : Nat) (ys_a : List Nat) (v_n : Int) (w : World) (i_a : IsN w A_a n_a xs_a) (hc_a : n_a ≤ c_a) (hm_a : c_a ≤ maxLen) (j_a : IsN w B_a m_a ys_a) (kc_a : m_a ≤ d_a) (km_a : d_a ≤ maxLen) (f_n : (Lit.int .u8 v_n).wf = true) (T : Tab w) :
 Calls Tryz.prog 6 #[.agg #[.bool g_a, .slice A_a n_a c_a, .slice B_a m_a d_a], .int .u8 v_n] w fun e w' => e = .returned (.bool true) ∧ Below w.heap.size w w' := by
 have HTab := Lib.hid T
 clear T
 have hw_n : 0 ≤ v_n ∧ v_n ≤ 255 := by
  have e1 : IntKind.u8.min = 0 := rfl
  have e2 : IntKind.u8.max = 255 := rfl
  simp only [Lit.wf, Bool.and_eq_true, decide_eq_true_eq] at f_n
  omega
 obtain ⟨w0_n, w1_n⟩ := hw_n
 clear f_n
 obtain ⟨N, eN⟩ : ∃ N : Nat, v_n % 20 = (N : Int) := ⟨(v_n % 20).toNat, by omega⟩
 have bN : N < 20 := by omega
 have KL_a : max n_a m_a ≤ 9223372036854775807 := by
  have e : maxLen = 9223372036854775807 := by decide
  omega
 have h_a := QQ.of (s := g_a) i_a hc_a j_a kc_a (Nat.le_max_left n_a m_a) (Nat.le_max_right n_a m_a)
 generalize readQ g_a xs_a ys_a = o_a at h_a
 have bw := bel_refl w
 have h_ra := row3_new w 27 (.bool g_a) (.slice A_a n_a c_a) (.slice B_a m_a d_a)
 have bn := below_new w (.cells #[Value.bool g_a, Value.slice A_a n_a c_a, Value.slice B_a m_a d_a] 27)
 replace h_a := h_a.below bn
 replace HTab := Lib.hid (HTab.out.below bn)
 replace bw := below_two bw bn
 clear bn
 go_enter Tryz.func6, Tryz.ntmps6
 go_wp2_with fail
 generalize w.alloc (.cells #[Value.bool g_a, Value.slice A_a n_a c_a, Value.slice B_a m_a d_a] 27) = wP at *
 obtain ⟨q_a, eg⟩ : ∃ g, g = w.heap.size := ⟨_, rfl⟩
 rw [← eg] at h_ra ⊢
 clear eg
 cases o_a with
 | none =>
  refine (refGood_c h_a KL_a false rfl).mono ?_
  rintro e w1 ⟨rfl, bn⟩
  replace h_a := h_a.below bn
  replace h_ra := h_ra.below bn
  replace HTab := Lib.hid (HTab.out.below bn)
  replace bw := below_two bw bn
  clear bn
  go_wp2_with fail
  refine (wakes_any _ HTab.out).mono ?_
  rintro e w2 ⟨rfl, bn⟩
  replace h_a := h_a.below bn
  replace h_ra := h_ra.below bn
  replace HTab := Lib.hid (HTab.out.below bn)
  replace bw := below_two bw bn
  clear bn
  go_wp2
  go_ret
  exact ⟨rfl, bw⟩
 | some z_a =>
  refine (refGood_c h_a KL_a true rfl).mono ?_
  rintro e w3 ⟨rfl, bn⟩
  replace h_a := h_a.below bn
  replace h_ra := h_ra.below bn
  replace HTab := Lib.hid (HTab.out.below bn)
  replace bw := below_two bw bn
  clear bn
  obtain ⟨t1, t2, t3, t4, L1_a, L2_a, D_a⟩ := qq_told h_a
  clear i_a j_a
  subst t1
  subst t2
  subst t3
  replace h_a := t4
  clear t4
  by_cases l_0 : 20 < n_a
  case pos =>
   have LL : (20 : Int) < n_a := by omega
   clear l_0
   have c_a0 := h_ra.c0
   have c_a1 := h_ra.c1
   have c_a2 := h_ra.c2
   go_wp2_with fail
   clear c_a0 c_a1 c_a2
   refine (wakes_any _ HTab.out).mono ?_
   rintro e w4 ⟨rfl, bn⟩
   replace h_a := h_a.below bn
   replace h_ra := h_ra.below bn
   replace HTab := Lib.hid (HTab.out.below bn)
   replace bw := below_two bw bn
   clear bn
   go_wp2
   go_ret
   exact ⟨rfl, bw⟩
  have LL_0 : (n_a : Int) ≤ 20 := by omega
  clear l_0
  by_cases l_1 : 20 < m_a
  case pos =>
   have LL : (20 : Int) < m_a := by omega
   clear l_1
   have c_a0 := h_ra.c0
   have c_a1 := h_ra.c1
   have c_a2 := h_ra.c2
   go_wp2_with fail
   clear c_a0 c_a1 c_a2
   refine (wakes_any _ HTab.out).mono ?_
   rintro e w5 ⟨rfl, bn⟩
   replace h_a := h_a.below bn
   replace h_ra := h_ra.below bn
   replace HTab := Lib.hid (HTab.out.below bn)
   replace bw := below_two bw bn
   clear bn
   go_wp2
   go_ret
   exact ⟨rfl, bw⟩
  have LL_1 : (m_a : Int) ≤ 20 := by omega
  clear l_1
  have HBD : RowKit.Hid (Bd z_a 20 20) := D_a.mono (by omega) (by omega)
  have HBM : RowKit.Hid (Bd (movedQ z_a N) 23 23) := moved_bd HBD.out (by omega)
  have HBN : RowKit.Hid (Bd (movedQ (-z_a) N) 23 23) := moved_bd HBD.out.neg (by omega)
  obtain ⟨z_y, z_v, -, -, F0, F1, F2, F3⟩ := negs_facts HBD.out bN
  have HR0 : RowKit.Hid (room (Rat.floor (movedQ (-z_a) N))) := room_of (HBN.out.mono (by omega) (by omega)) (Int.le_refl _) (by omega)
  have HR1 : RowKit.Hid (room (Rat.ceil (movedQ z_a N))) := room_of (HBM.out.mono (by omega) (by omega)) (ceil_between _).1 (ceil_between _).2
  have HR2 : RowKit.Hid (room (nearQ (movedQ z_a N))) := room_of (HBM.out.mono (by omega) (by omega)) (near_between _).1 (near_between _).2
  have HR3 : RowKit.Hid (room (nearQ (movedQ (-z_a) N))) := room_of (HBN.out.mono (by omega) (by omega)) (near_between _).1 (near_between _).2
  obtain ⟨SD, hSD⟩ : ∃ S, strOf (pointT (Rat.floor (movedQ (-z_a) (N))) (N)) = S := ⟨_, rfl⟩
  have HS_SD : RowKit.Hid (decR Rat.floor (some (-z_a)) ((N : Int)) = (SD, 0)) := decR_yes Rat.floor (by omega) hSD
  have HT_SD := Lib.hid hSD
  clear hSD
  obtain ⟨SU, hSU⟩ : ∃ S, strOf (pointT (Rat.ceil (movedQ z_a (N))) (N)) = S := ⟨_, rfl⟩
  have HS_SU : RowKit.Hid (decR Rat.ceil (some z_a) ((N : Int)) = (SU, 0)) := decR_yes Rat.ceil (by omega) hSU
  have HT_SU := Lib.hid hSU
  clear hSU
  obtain ⟨SM, hSM⟩ : ∃ S, strOf (pointT (nearQ (movedQ z_a (N))) (N)) = S := ⟨_, rfl⟩
  have HS_SM : RowKit.Hid (decR nearQ (some z_a) ((N : Int)) = (SM, 0)) := decR_yes nearQ (by omega) hSM
  have HT_SM := Lib.hid hSM
  clear hSM
  obtain ⟨SW, hSW⟩ : ∃ S, strOf (pointT (nearQ (movedQ (-z_a) (N))) (N)) = S := ⟨_, rfl⟩
  have HS_SW : RowKit.Hid (decR nearQ (some (-z_a)) ((N : Int)) = (SW, 0)) := decR_yes nearQ (by omega) hSW
  have HT_SW := Lib.hid hSW
  clear hSW
  have F0 := Lib.hid F0
  have F1 := Lib.hid F1
  have F2 := Lib.hid F2
  have F3 := Lib.hid F3
  have c_a0 := h_ra.c0
  have c_a1 := h_ra.c1
  have c_a2 := h_ra.c2
  go_wp2_with fail
  clear c_a0 c_a1 c_a2
  refine (rNegS_c h_a (by decide)).mono ?_
  rintro e w6 ⟨A_b, n_b, c_b, B_b, m_b, d_b, rfl, h_b, bn⟩
  replace h_a := h_a.below bn
  replace h_ra := h_ra.below bn
  replace HTab := Lib.hid (HTab.out.below bn)
  replace bw := below_two bw bn
  clear bn
  have h_rb := row3_new w6 27 (.bool (sg (oTop (some (-z_a))))) (.slice A_b n_b c_b) (.slice B_b m_b d_b)
  have bn := below_new w6 (.cells #[Value.bool (sg (oTop (some (-z_a)))), Value.slice A_b n_b c_b, Value.slice B_b m_b d_b] 27)
  replace h_a := h_a.below bn
  replace h_ra := h_ra.below bn
  replace h_b := h_b.below bn
  replace HTab := Lib.hid (HTab.out.below bn)
  replace bw := below_two bw bn
  clear bn
  have c_b0 := h_rb.c0
  have c_b1 := h_rb.c1
  have c_b2 := h_rb.c2
  go_wp2_with fail
  clear c_b0 c_b1 c_b2
  generalize w6.alloc (.cells #[Value.bool (sg (oTop (some (-z_a)))), Value.slice A_b n_b c_b, Value.slice B_b m_b d_b] 27) = w7 at *
  obtain ⟨q_b, eg⟩ : ∃ g, g = w6.heap.size := ⟨_, rfl⟩
  rw [← eg] at h_rb ⊢
  clear eg
  refine (dDown_c h_b (by decide) HTab.out (N : Int) (by omega) (by omega) SD 0 HS_SD.out).mono ?_
  rintro e w8 ⟨rfl, bn⟩
  replace h_a := h_a.below bn
  replace h_ra := h_ra.below bn
  replace h_b := h_b.below bn
  replace h_rb := h_rb.below bn
  replace HTab := Lib.hid (HTab.out.below bn)
  replace bw := below_two bw bn
  clear bn
  have c_a0 := h_ra.c0
  have c_a1 := h_ra.c1
  have c_a2 := h_ra.c2
  go_wp2_with fail
  clear c_a0 c_a1 c_a2
  refine (dUp_c h_a (by decide) HTab.out (N : Int) (by omega) (by omega) SU 0 HS_SU.out).mono ?_
  rintro e w9 ⟨rfl, bn⟩
  replace h_a := h_a.below bn
  replace h_ra := h_ra.below bn
  replace h_b := h_b.below bn
  replace h_rb := h_rb.below bn
  replace HTab := Lib.hid (HTab.out.below bn)
  replace bw := below_two bw bn
  clear bn
  have c_a0 := h_ra.c0
  have c_a1 := h_ra.c1
  have c_a2 := h_ra.c2
  go_wp2_with fail
  clear c_a0 c_a1 c_a2
  refine (dNear_c h_a (by decide) HTab.out (N : Int) (by omega) (by omega) SM 0 HS_SM.out).mono ?_
  rintro e w10 ⟨rfl, bn⟩
  replace h_a := h_a.below bn
  replace h_ra := h_ra.below bn
  replace h_b := h_b.below bn
  replace h_rb := h_rb.below bn
  replace HTab := Lib.hid (HTab.out.below bn)
  replace bw := below_two bw bn
  clear bn
  have c_b0 := h_rb.c0
  have c_b1 := h_rb.c1
  have c_b2 := h_rb.c2
  go_wp2_with fail
  clear c_b0 c_b1 c_b2
  refine (dNear_c h_b (by decide) HTab.out (N : Int) (by omega) (by omega) SW 0 HS_SW.out).mono ?_
  rintro e w11 ⟨rfl, bn⟩
  replace h_a := h_a.below bn
  replace h_ra := h_ra.below bn
  replace h_b := h_b.below bn
  replace h_rb := h_rb.below bn
  replace HTab := Lib.hid (HTab.out.below bn)
  replace bw := below_two bw bn
  clear bn
  go_wp2_with fail
  refine (number_c _ N (by omega) HR0.out SD HT_SD.out _ rfl _ HTab.out _ F0.out).mono ?_
  rintro e w12 ⟨A_x, n_x, c_x, B_x, m_x, d_x, rfl, h_x, bn⟩
  replace h_a := h_a.below bn
  replace h_ra := h_ra.below bn
  replace h_b := h_b.below bn
  replace h_rb := h_rb.below bn
  replace HTab := Lib.hid (HTab.out.below bn)
  replace bw := below_two bw bn
  clear bn
  have h_rx := row3_new w12 27 (.bool (sg (oTop (some (-z_y))))) (.slice A_x n_x c_x) (.slice B_x m_x d_x)
  have bn := below_new w12 (.cells #[Value.bool (sg (oTop (some (-z_y)))), Value.slice A_x n_x c_x, Value.slice B_x m_x d_x] 27)
  replace h_a := h_a.below bn
  replace h_ra := h_ra.below bn
  replace h_b := h_b.below bn
  replace h_rb := h_rb.below bn
  replace h_x := h_x.below bn
  replace HTab := Lib.hid (HTab.out.below bn)
  replace bw := below_two bw bn
  clear bn
  go_wp2_with fail
  generalize w12.alloc (.cells #[Value.bool (sg (oTop (some (-z_y)))), Value.slice A_x n_x c_x, Value.slice B_x m_x d_x] 27) = w13 at *
  obtain ⟨q_x, eg⟩ : ∃ g, g = w12.heap.size := ⟨_, rfl⟩
  rw [← eg] at h_rx ⊢
  clear eg
  refine (number_c _ N (by omega) HR1.out SU HT_SU.out _ rfl _ HTab.out _ F1.out).mono ?_
  rintro e w14 ⟨A_y, n_y, c_y, B_y, m_y, d_y, rfl, h_y, bn⟩
  replace h_a := h_a.below bn
  replace h_ra := h_ra.below bn
  replace h_b := h_b.below bn
  replace h_rb := h_rb.below bn
  replace h_x := h_x.below bn
  replace h_rx := h_rx.below bn
  replace HTab := Lib.hid (HTab.out.below bn)
  replace bw := below_two bw bn
  clear bn
  have h_ry := row3_new w14 27 (.bool (sg (oTop (some z_y)))) (.slice A_y n_y c_y) (.slice B_y m_y d_y)
  have bn := below_new w14 (.cells #[Value.bool (sg (oTop (some z_y))), Value.slice A_y n_y c_y, Value.slice B_y m_y d_y] 27)
  replace h_a := h_a.below bn
  replace h_ra := h_ra.below bn
  replace h_b := h_b.below bn
  replace h_rb := h_rb.below bn
  replace h_x := h_x.below bn
  replace h_rx := h_rx.below bn
  replace h_y := h_y.below bn
  replace HTab := Lib.hid (HTab.out.below bn)
  replace bw := below_two bw bn
  clear bn
  go_wp2_with fail
  generalize w14.alloc (.cells #[Value.bool (sg (oTop (some z_y))), Value.slice A_y n_y c_y, Value.slice B_y m_y d_y] 27) = w15 at *
  obtain ⟨q_y, eg⟩ : ∃ g, g = w14.heap.size := ⟨_, rfl⟩
  rw [← eg] at h_ry ⊢
  clear eg
  refine (number_c _ N (by omega) HR2.out SM HT_SM.out _ rfl _ HTab.out _ F2.out).mono ?_
  rintro e w16 ⟨A_z, n_z, c_z, B_z, m_z, d_z, rfl, h_z, bn⟩
  replace h_a := h_a.below bn
  replace h_ra := h_ra.below bn
  replace h_b := h_b.below bn
  replace h_rb := h_rb.below bn
  replace h_x := h_x.below bn
  replace h_rx := h_rx.below bn
  replace h_y := h_y.below bn
  replace h_ry := h_ry.below bn
  replace HTab := Lib.hid (HTab.out.below bn)
  replace bw := below_two bw bn
  clear bn
  have h_rz := row3_new w16 27 (.bool (sg (oTop (some z_v)))) (.slice A_z n_z c_z) (.slice B_z m_z d_z)
  have bn := below_new w16 (.cells #[Value.bool (sg (oTop (some z_v))), Value.slice A_z n_z c_z, Value.slice B_z m_z d_z] 27)
  replace h_a := h_a.below bn
  replace h_ra := h_ra.below bn
  replace h_b := h_b.below bn
  replace h_rb := h_rb.below bn
  replace h_x := h_x.below bn
  replace h_rx := h_rx.below bn
  replace h_y := h_y.below bn
  replace h_ry := h_ry.below bn
  replace h_z := h_z.below bn
  replace HTab := Lib.hid (HTab.out.below bn)
  replace bw := below_two bw bn
  clear bn
  go_wp2_with fail
  generalize w16.alloc (.cells #[Value.bool (sg (oTop (some z_v))), Value.slice A_z n_z c_z, Value.slice B_z m_z d_z] 27) = w17 at *
  obtain ⟨q_z, eg⟩ : ∃ g, g = w16.heap.size := ⟨_, rfl⟩
  rw [← eg] at h_rz ⊢
  clear eg
  refine (number_c _ N (by omega) HR3.out SW HT_SW.out _ rfl _ HTab.out _ F3.out).mono ?_
  rintro e w18 ⟨A_v, n_v, c_v, B_v, m_v, d_v, rfl, h_v, bn⟩
  replace h_a := h_a.below bn
  replace h_ra := h_ra.below bn
  replace h_b := h_b.below bn
  replace h_rb := h_rb.below bn
  replace h_x := h_x.below bn
  replace h_rx := h_rx.below bn
  replace h_y := h_y.below bn
  replace h_ry := h_ry.below bn
  replace h_z := h_z.below bn
  replace h_rz := h_rz.below bn
  replace HTab := Lib.hid (HTab.out.below bn)
  replace bw := below_two bw bn
  clear bn
  have h_rv := row3_new w18 27 (.bool (sg (oTop (some (-z_v))))) (.slice A_v n_v c_v) (.slice B_v m_v d_v)
  have bn := below_new w18 (.cells #[Value.bool (sg (oTop (some (-z_v)))), Value.slice A_v n_v c_v, Value.slice B_v m_v d_v] 27)
  replace h_a := h_a.below bn
  replace h_ra := h_ra.below bn
  replace h_b := h_b.below bn
  replace h_rb := h_rb.below bn
  replace h_x := h_x.below bn
  replace h_rx := h_rx.below bn
  replace h_y := h_y.below bn
  replace h_ry := h_ry.below bn
  replace h_z := h_z.below bn
  replace h_rz := h_rz.below bn
  replace h_v := h_v.below bn
  replace HTab := Lib.hid (HTab.out.below bn)
  replace bw := below_two bw bn
  clear bn
  go_wp2
  generalize w18.alloc (.cells #[Value.bool (sg (oTop (some (-z_v)))), Value.slice A_v n_v c_v, Value.slice B_v m_v d_v] 27) = w19 at *
  obtain ⟨q_v, eg⟩ : ∃ g, g = w18.heap.size := ⟨_, rfl⟩
  rw [← eg] at h_rv ⊢
  clear eg
  generalize w19 = wS at *
  refine region_freeg 25 1 [107, 108, 109, 110, 111, 112, 113, 114, 115, 116, 117, 118, 119, 120, 121, 122, 123, 124, 125, 126, 127, 128, 129, 130, 131] ?aF23 (fun wx => Below wS.heap.size wS wx) (fun k vv wx => match k with
   | 0 => vv = .bool true
   | 1 => vv = .bool true
   | 2 => vv = .bool true
   | 3 => vv = .bool true
   | 4 => vv = .bool true
   | 5 => vv = .bool true
   | 6 => vv = .bool true
   | 7 => vv = .bool true
   | 8 => vv = .bool true
   | 9 => vv = .bool true
   | 10 => vv = .bool true
   | 11 => vv = .agg #[.bool (sg (oTop (some (-z_y)))), .slice A_x n_x c_x, .slice B_x m_x d_x]
   | 12 => vv = .agg #[.bool (sg (oTop (some z_y))), .slice A_y n_y c_y, .slice B_y m_y d_y]
   | 13 => ∃ (e0 : Option Addr) (e1 : Nat) (e2 : Nat) (e3 : Option Addr) (e4 : Nat) (e5 : Nat), vv = .agg #[.bool (sg (oTop (some (-z_y)))), .slice e0 e1 e2, .slice e3 e4 e5] ∧ QT wx e0 e1 e2 e3 e4 e5 (some (-z_y))
   | 14 => vv = .bool true
   | 15 => vv = .bool true
   | 16 => vv = .bool true
   | 17 => vv = .agg #[.bool (sg (oTop (some z_v))), .slice A_z n_z c_z, .slice B_z m_z d_z]
   | 18 => vv = .agg #[.bool (sg (oTop (some (-z_v)))), .slice A_v n_v c_v, .slice B_v m_v d_v]
   | 19 => ∃ (e0 : Option Addr) (e1 : Nat) (e2 : Nat) (e3 : Option Addr) (e4 : Nat) (e5 : Nat), vv = .agg #[.bool (sg (oTop (some z_v))), .slice e0 e1 e2, .slice e3 e4 e5] ∧ QT wx e0 e1 e2 e3 e4 e5 (some z_v)
   | 20 => vv = .bool true
   | 21 => vv = .bool true
   | 22 => vv = .bool true
   | 23 => vv = .bool true
   | _ => vv = .bool true)
   (fun k => false) (by kernel_rfl) ?haF23 rfl (by kernel_rfl) (by kernel_rfl) (fun _ _ _ _ _ h => h) ?hSb23 ?hPb23 ?hS23 ?hop23 ?hfin23
  case haF23 =>
   intro vals
   simp only [fillAll, List.getElem?_cons_zero, List.getElem?_cons_succ, Act.put, List.setIfInBounds_toArray, List.set_cons_zero, List.set_cons_succ]
   exact rfl
  case hSb23 => exact fun wx w2 hb hS => below_two hS hb
  case hPb23 =>
   intro k v wa wb hb h
   match k, h with
   | 0, h => exact h
   | 1, h => exact h
   | 2, h => exact h
   | 3, h => exact h
   | 4, h => exact h
   | 5, h => exact h
   | 6, h => exact h
   | 7, h => exact h
   | 8, h => exact h
   | 9, h => exact h
   | 10, h => exact h
   | 11, h => exact h
   | 12, h => exact h
   | 13, ⟨e0, e1, e2, e3, e4, e5, h1, g0⟩ => exact ⟨e0, e1, e2, e3, e4, e5, h1, g0.below hb⟩
   | 14, h => exact h
   | 15, h => exact h
   | 16, h => exact h
   | 17, h => exact h
   | 18, h => exact h
   | 19, ⟨e0, e1, e2, e3, e4, e5, h1, g0⟩ => exact ⟨e0, e1, e2, e3, e4, e5, h1, g0.below hb⟩
   | 20, h => exact h
   | 21, h => exact h
   | 22, h => exact h
   | 23, h => exact h
   | _ + 24, h => exact h
  case hS23 => exact (Below.refl _ _).drew
  case hop23 =>
   refine .cons (k := 0) (.plain rfl ?_) (.cons (k := 1) (.plain rfl ?_) (.cons (k := 2) (.yes (fun vals wr hS hd g b e => by cases e; exact hd 1 (by decide +kernel)) ?_) (.cons (k := 3) (.plain rfl ?_) (.cons (k := 4) (.plain rfl ?_) (.cons (k := 5) (.yes (fun vals wr hS hd g b e => by cases e; exact hd 4 (by decide +kernel)) ?_) (.cons (k := 6) (.plain rfl ?_) (.cons (k := 7) (.plain rfl ?_) (.cons (k := 8) (.yes (fun vals wr hS hd g b e => by cases e; exact hd 7 (by decide +kernel)) ?_) (.cons (k := 9) (.plain rfl ?_) (.cons (k := 10) (.plain rfl ?_) (.cons (k := 11) (.yes (fun vals wr hS hd g b e => by cases e; exact hd 10 (by decide +kernel)) ?_) (.cons (k := 12) (.yes (fun vals wr hS hd g b e => by cases e; exact hd 10 (by decide +kernel)) ?_) (.cons (k := 13) (.yes (fun vals wr hS hd g b e => by cases e; exact hd 10 (by decide +kernel)) ?_) (.cons (k := 14) (.yes (fun vals wr hS hd g b e => by cases e; exact hd 10 (by decide +kernel)) ?_) (.cons (k := 15) (.plain rfl ?_) (.cons (k := 16) (.plain rfl ?_) (.cons (k := 17) (.yes (fun vals wr hS hd g b e => by cases e; exact hd 16 (by decide +kernel)) ?_) (.cons (k := 18) (.yes (fun vals wr hS hd g b e => by cases e; exact hd 16 (by decide +kernel)) ?_) (.cons (k := 19) (.yes (fun vals wr hS hd g b e => by cases e; exact hd 16 (by decide +kernel)) ?_) (.cons (k := 20) (.yes (fun vals wr hS hd g b e => by cases e; exact hd 16 (by decide +kernel)) ?_) (.cons (k := 21) (.plain rfl ?_) (.cons (k := 22) (.plain rfl ?_) (.cons (k := 23) (.yes (fun vals wr hS hd g b e => by cases e; exact hd 22 (by decide +kernel)) ?_) (.cons (k := 24) (.plain rfl ?_) (.nil)))))))))))))))))))))))))
   all_goals intro vals wr hS hd KC hK
   all_goals (show Oper.wp _ _ _ _ _ _; dsimp only)
   · go_simp
     refine hK _ _ rfl (Below.refl _ _) (by first | rfl | simp) (fun h => by cases h)
   · have d0 : vals 0 = _ := hd 0 (by decide +kernel)
     rw [d0]
     go_simp
     refine hK _ _ rfl (Below.refl _ _) (by first | rfl | simp) (fun h => by cases h)
   · go_simp
     refine hK _ _ rfl (Below.refl _ _) (by first | rfl | simp) (fun h => by cases h)
   · have d1 : vals 1 = _ := hd 1 (by decide +kernel)
     have d2 : vals 2 = _ := hd 2 (by decide +kernel)
     rw [d1, d2]
     go_simp
     refine hK _ _ rfl (Below.refl _ _) (by first | rfl | simp) (fun h => by cases h)
   · have d3 : vals 3 = _ := hd 3 (by decide +kernel)
     rw [d3]
     go_simp
     refine hK _ _ rfl (Below.refl _ _) (by first | rfl | simp) (fun h => by cases h)
   · go_simp
     refine hK _ _ rfl (Below.refl _ _) (by first | rfl | simp) (fun h => by cases h)
   · have d4 : vals 4 = _ := hd 4 (by decide +kernel)
     have d5 : vals 5 = _ := hd 5 (by decide +kernel)
     rw [d4, d5]
     go_simp
     refine hK _ _ rfl (Below.refl _ _) (by first | rfl | simp) (fun h => by cases h)
   · have d6 : vals 6 = _ := hd 6 (by decide +kernel)
     rw [d6]
     go_simp
     refine hK _ _ rfl (Below.refl _ _) (by first | rfl | simp) (fun h => by cases h)
   · go_simp
     refine hK _ _ rfl (Below.refl _ _) (by first | rfl | simp) (fun h => by cases h)
   · have d7 : vals 7 = _ := hd 7 (by decide +kernel)
     have d8 : vals 8 = _ := hd 8 (by decide +kernel)
     rw [d7, d8]
     go_simp
     refine hK _ _ rfl (Below.refl _ _) (by first | rfl | simp) (fun h => by cases h)
   · have d9 : vals 9 = _ := hd 9 (by decide +kernel)
     rw [d9]
     go_simp
     refine hK _ _ rfl (Below.refl _ _) (by first | rfl | simp) (fun h => by cases h)
   · have z0 := (h_rx.below hS).c0
     have z1 := (h_rx.below hS).c1
     have z2 := (h_rx.below hS).c2
     go_simp
     refine hK _ _ rfl (Below.refl _ _) (by first | rfl | simp) (fun h => by cases h)
   · have z0 := (h_ry.below hS).c0
     have z1 := (h_ry.below hS).c1
     have z2 := (h_ry.below hS).c2
     go_simp
     refine hK _ _ rfl (Below.refl _ _) (by first | rfl | simp) (fun h => by cases h)
   · have d12 : vals 12 = _ := hd 12 (by decide +kernel)
     rw [d12]
     go_simp
     go_at_call 36
     with_reducible refine (rNegS_c (h_y.below hS) (by decide)).mono ?_
     rintro e w2 ⟨r0, r1, r2, r3, r4, r5, rfl, f0, bn_r⟩
     refine hK _ _ rfl bn_r ⟨_, _, _, _, _, _, rfl, f0⟩ (fun h => by cases h)
   · have d11 : vals 11 = _ := hd 11 (by decide +kernel)
     obtain ⟨A_13_0, n_13_1, n_13_2, A_13_3, n_13_4, n_13_5, d13, h_13_0⟩ := hd 13 (by decide +kernel)
     rw [d11, d13]
     go_simp
     go_at_call 20
     with_reducible refine (keepRat_c (h_x.below hS) h_13_0 (by decide) (by decide) true (keepQ rfl)).mono ?_
     rintro e w2 ⟨rfl, bn_r⟩
     refine hK _ _ rfl bn_r rfl (fun h => by cases h)
   · have d10 : vals 10 = _ := hd 10 (by decide +kernel)
     have d14 : vals 14 = _ := hd 14 (by decide +kernel)
     rw [d10, d14]
     go_simp
     refine hK _ _ rfl (Below.refl _ _) (by first | rfl | simp) (fun h => by cases h)
   · have d15 : vals 15 = _ := hd 15 (by decide +kernel)
     rw [d15]
     go_simp
     refine hK _ _ rfl (Below.refl _ _) (by first | rfl | simp) (fun h => by cases h)
   · have z0 := (h_rz.below hS).c0
     have z1 := (h_rz.below hS).c1
     have z2 := (h_rz.below hS).c2
     go_simp
     refine hK _ _ rfl (Below.refl _ _) (by first | rfl | simp) (fun h => by cases h)
   · have z0 := (h_rv.below hS).c0
     have z1 := (h_rv.below hS).c1
     have z2 := (h_rv.below hS).c2
     go_simp
     refine hK _ _ rfl (Below.refl _ _) (by first | rfl | simp) (fun h => by cases h)
   · have d18 : vals 18 = _ := hd 18 (by decide +kernel)
     rw [d18]
     go_simp
     go_at_call 36
     with_reducible refine (rNegT_c (h_v.below hS) (by decide) z_v (Rat.neg_neg _)).mono ?_
     rintro e w2 ⟨r0, r1, r2, r3, r4, r5, rfl, f0, bn_r⟩
     refine hK _ _ rfl bn_r ⟨_, _, _, _, _, _, rfl, f0⟩ (fun h => by cases h)
   · have d17 : vals 17 = _ := hd 17 (by decide +kernel)
     obtain ⟨A_19_0, n_19_1, n_19_2, A_19_3, n_19_4, n_19_5, d19, h_19_0⟩ := hd 19 (by decide +kernel)
     rw [d17, d19]
     go_simp
     go_at_call 20
     with_reducible refine (keepRat_c (h_z.below hS) h_19_0 (by decide) (by decide) true (keepQ rfl)).mono ?_
     rintro e w2 ⟨rfl, bn_r⟩
     refine hK _ _ rfl bn_r rfl (fun h => by cases h)
   · have d16 : vals 16 = _ := hd 16 (by decide +kernel)
     have d20 : vals 20 = _ := hd 20 (by decide +kernel)
     rw [d16, d20]
     go_simp
     refine hK _ _ rfl (Below.refl _ _) (by first | rfl | simp) (fun h => by cases h)
   · have d21 : vals 21 = _ := hd 21 (by decide +kernel)
     rw [d21]
     go_simp
     refine hK _ _ rfl (Below.refl _ _) (by first | rfl | simp) (fun h => by cases h)
   · go_simp
     go_at_call 10
     with_reducible refine (wakes_any _ (HTab.out.below hS)).mono ?_
     rintro e w2 ⟨rfl, bn_r⟩
     refine hK _ _ rfl bn_r rfl (fun h => by cases h)
   · have d22 : vals 22 = _ := hd 22 (by decide +kernel)
     have d23 : vals 23 = _ := hd 23 (by decide +kernel)
     rw [d22, d23]
     go_simp
     refine hK _ _ rfl (Below.refl _ _) (by first | rfl | simp) (fun h => by cases h)
  case hfin23 =>
   intro vals wr hS hP hne
   have ez_24 : vals 24 = _ := hP 24 (by decide)
   have HB := Lib.hid (below_two bw hS)
   try dsimp only
   rw [ez_24]
   refine wpAny_ready (rs := [25]) (by kernel_rfl) (by simp) (AllReady.cons rfl (fun KC hK => ?_) AllReady.nil)
   go_simp
   refine hK _ _ ?_
   clear hK KC
   refine wpAny_done (by kernel_rfl) ?_ _
   go_wp2
   go_ret
   exact ⟨rfl, HB.out⟩
theorem tab_of {W : World} (h : laidMet Tryz.prog Rows.decimalNegsRow.laid W) : Tab W := by
 refine ⟨?_, ?_⟩
 · first | exact powers_tab (laidMet_drop 0 h) (by decide +kernel) | exact powers_tab (laidMet_drop 1 h) (by decide +kernel) | exact powers_tab (laidMet_drop 2 h) (by decide +kernel) | exact powers_tab (laidMet_drop 3 h) (by decide +kernel) | exact powers_tab (laidMet_drop 4 h) (by decide +kernel) | exact powers_tab (laidMet_drop 5 h) (by decide +kernel) | exact powers_tab (laidMet_drop 6 h) (by decide +kernel) | exact powers_tab (laidMet_drop 7 h) (by decide +kernel) | exact powers_tab (laidMet_drop 8 h) (by decide +kernel) | exact powers_tab (laidMet_drop 9 h) (by decide +kernel) | exact powers_tab (laidMet_drop 10 h) (by decide +kernel) | exact powers_tab (laidMet_drop 11 h) (by decide +kernel) | exact powers_tab (laidMet_drop 12 h) (by decide +kernel) | exact powers_tab (laidMet_drop 13 h) (by decide +kernel)
 · first | exact err_tab (laidMet_drop 0 h) (by decide +kernel) | exact err_tab (laidMet_drop 1 h) (by decide +kernel) | exact err_tab (laidMet_drop 2 h) (by decide +kernel) | exact err_tab (laidMet_drop 3 h) (by decide +kernel) | exact err_tab (laidMet_drop 4 h) (by decide +kernel) | exact err_tab (laidMet_drop 5 h) (by decide +kernel) | exact err_tab (laidMet_drop 6 h) (by decide +kernel) | exact err_tab (laidMet_drop 7 h) (by decide +kernel) | exact err_tab (laidMet_drop 8 h) (by decide +kernel) | exact err_tab (laidMet_drop 9 h) (by decide +kernel) | exact err_tab (laidMet_drop 10 h) (by decide +kernel) | exact err_tab (laidMet_drop 11 h) (by decide +kernel) | exact err_tab (laidMet_drop 12 h) (by decide +kernel) | exact err_tab (laidMet_drop 13 h) (by decide +kernel)
set_option maxRecDepth 100000 in
theorem lifted (os : Os) (started : os.Started) (H : Type) (enc : TypeId × Value → H) :
 ReturnsInHanded {} Tryz.checked os 6 .any (fun w args => (Rows.decimalNegsSpec.pre enc Tryz.prog Tryz.f6 [] false w args ∧ laidMetH Tryz.prog Rows.decimalNegsRow.laid w) ∧ sizedMet enc Tryz.prog Tryz.f6 (OpenSpec.ofChange Rows.decimalNegsSpec) false w args)
  (Rows.decimalNegsSpec.post enc Tryz.prog Tryz.f6 false true false false) := by
 refine returnsInHanded_of_change_and (C := Tryz.checked) (X := fun w _ => laidMetH Tryz.prog Rows.decimalNegsRow.laid w) (fun _ _ _ hh h => h.of_heap hh) own started (by kernel_rfl) Tryz.func6
  (ChangeSpec.witness_shaped (enc := enc) (C := Tryz.checked) (os := os) (X := fun w _ => laidMetH Tryz.prog Rows.decimalNegsRow.laid w) false (World.laidAll Tryz.prog os Rows.decimalNegsRow.laid) #[.agg #[.bool false, .slice none 0 0, .slice none 0 0], .int .u8 0] 8 (World.laidAll_os _ _ _)
    (World.shaped_of_ZipB (by kernel_rfl) (by kernel_rfl)) (by kernel_rfl) (by kernel_rfl) (by kernel_rfl)
    (by rw [MakeChecks.laidMetH_plain _ _ _ (by kernel_rfl)]; exact laidMet_laidAll _ (by kernel_rfl) (by kernel_rfl))) ?_
 intro W base args ds gs before hval0 hW _ _ hL _
 have hval : ∀ (j : Nat) t v, Tryz.f6.params[j]? = some t → args[j]? = some v → Value.okWide Tryz.prog W .any base t v := hval0
 have hW' := hW
 obtain ⟨p, q, hA0, hV, rfl, hfz, hnd⟩ := hW
 have hA : DataW.TrodAll enc Tryz.prog W 0 (fun _ => true) true Tryz.f6.params.toList args.toList ds p := hA0
 rw [Tryz.params6] at hA hval
 obtain ⟨v0, vs0, d0, ds0, p0, q0, hargs, rfl, rfl, h0, r0⟩ := trodAll_cons hA
 obtain ⟨v1, vs1, d1, ds1, p1, q1, rfl, rfl, rfl, h1, r1⟩ := trodAll_cons r0
 obtain ⟨rfl, rfl, rfl⟩ := trodAll_nil r1
 obtain rfl : args = #[v0, v1] := by cases args; simp_all
 obtain ⟨rfl, rfl⟩ := trodVars_none hV
 obtain ⟨b0, a0, len0, cap0, z0, e0, lem0, dap0, y0, rfl, i0, hc0, hm0, k0, kc0, km0⟩ := open_rat (hval 0 27 v0 rfl rfl) h0
 obtain ⟨a1, rfl, rfl, rfl, w1⟩ := open_int Tryz.underlying5 (hval 1 5 v1 rfl rfl) h1
 clear hA0 hval0
 simp only [List.append_nil] at hW'
 rw [MakeChecks.laidMetH_plain _ _ _ (by kernel_rfl)] at hL
 refine (walk b0 a0 len0 cap0 z0 e0 lem0 dap0 y0 a1 W i0 hc0 hm0 k0 kc0 km0 w1 (tab_of hL)).mono fun e W' ⟨he, bel⟩ => ?_
 subst he
 exact ⟨_, rfl, _, _, _, [], _, [], hW', trodAll_mk1 (shut_bool Tryz.underlying4 _), (trodAll_cons_mk (Below.trod laidOut (by kernel_rfl) (of_decide_eq_true (by kernel_rfl)) h0 bel (places_lt h0)) (trodAll_cons_mk (shut_int Tryz.underlying5 w1) trodAll_mk0)), rfl, bel.frame _, fun h => by cases h⟩
theorem over : Rows.decimalNegsRow.holds Tryz.pinned (OpenSpec.ofChange Rows.decimalNegsSpec) :=
 OpenClaim.holds_of_wide 6 Tryz.f6 rfl rfl rfl rfl rfl rfl rfl ⟨rfl, rfl, rfl, rfl, rfl⟩ rfl rfl rfl rfl rfl (by kernel_rfl) Tryz.func6 (by kernel_rfl)
  (of_decide_eq_true (by kernel_rfl)) (by unfold Func.isWrapper; first | (rw [if_pos (by decide +kernel)]; kernel_rfl) | (rw [if_neg (by decide +kernel)]; exact ⟨rfl, rfl⟩))
  (fun os started H enc _ => lifted os started H enc)
theorem proved : Rows.DecimalNegsCardSaid :=
 Claim7.holds_tied_plain_at .later [] Rows.decimalNegsCard.laidKinds true Rows.decimalNegsCard.stood.harness Rows.decimalNegsCard.stood.looks
  over (fun _ h => by cases h) (by kernel_rfl) (fun _ h => by cases h) decimalNegs_row_tie rfl ⟨rfl, rfl⟩ (by kernel_rfl) rfl
  (fun f fn hf hfn => by
    obtain rfl : f = 6 := Option.some.inj ((show Tryz.prog.funcNamed Rows.decimalNegsRow.func = some 6 by kernel_rfl).symm.trans hf) |>.symm
    obtain rfl : fn = Tryz.f6 := (Option.some.inj (Tryz.func6.symm.trans hfn)).symm
    exact ⟨by kernel_rfl, fun j t ht => by
     have hm : t ∈ Tryz.f6.params.toList := by simpa using Array.mem_of_getElem? ht
     have hall : (Tryz.f6.params.toList.all fun u => !Tryz.prog.wantsStandIn u) = true := by kernel_rfl
     exact (show Tryz.prog.wantsStandIn t = false by simpa using List.all_eq_true.1 hall t hm)⟩)
  (by kernel_rfl)
end Go.Proofs.YtjikaojffgjndaaGreatDoor.lawDecimalNegs
