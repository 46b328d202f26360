/- Of any rational number of few limbs and any small exponent: the sign of its power; the power by the negative exponent is one by it. No condition. -/
import Derived.Test.YtmifgblbicnimaaM9
import Derived.ChangeMaps5
/- Of any rational number of few limbs and any small exponent: the sign of its power; the power by the negative exponent is one by it. No condition. -/
namespace Go.Proofs.Ytmifgblbicnimaa.lawPowerSigns
open Go.ChangeShapes Go.WideShapes Go.ChangeAt Go.RowKit Limb
set_option linter.unusedVariables false

set_option maxHeartbeats 4000000 in
set_option maxRecDepth 100000 in
theorem walk (g_a : Bool) (A_a : Option Addr) (n_a c_a : Nat) (xs_a : List Nat) (B_a : Option Addr) (m_a d_a : Nat) (ys_a : List Nat) (v_n : Int) (w : World) (i_a : IsN w A_a n_a xs_a) (hc_a : n_a ≤ c_a) (hm_a : c_a ≤ maxLen) (j_a : IsN w B_a m_a ys_a) (kc_a : m_a ≤ d_a) (km_a : d_a ≤ maxLen) (f_n : (Lit.int .u8 v_n).wf = true) :
    Calls Try.prog 5 #[.agg #[.bool g_a, .slice A_a n_a c_a, .slice B_a m_a d_a], .int .u8 v_n] w fun e w' => e = .returned (.bool true) ∧ Below w.heap.size w w' := by
  have hw_n : 0 ≤ v_n ∧ v_n ≤ 255 := by
    have e1 : IntKind.u8.min = 0 := rfl
    have e2 : IntKind.u8.max = 255 := rfl
    simp only [Lit.wf, Bool.and_eq_true, decide_eq_true_eq] at f_n
    omega
  obtain ⟨w0_n, w1_n⟩ := hw_n
  clear f_n
  have KL_a : max n_a m_a ≤ 9223372036854775807 := by
    have e : maxLen = 9223372036854775807 := by decide
    omega
  have h_a := QQ.of (s := g_a) i_a hc_a j_a kc_a (Nat.le_max_left n_a m_a) (Nat.le_max_right n_a m_a)
  generalize readQ g_a xs_a ys_a = o_a at h_a
  have bw := bel_refl w
  have h_ra := row3_new w 27 (.bool g_a) (.slice A_a n_a c_a) (.slice B_a m_a d_a)
  have bn := below_new w (.cells #[Value.bool g_a, Value.slice A_a n_a c_a, Value.slice B_a m_a d_a] 27)
  replace h_a := h_a.below bn
  replace bw := below_two bw bn
  clear bn
  go_enter Try.func5, Try.ntmps5
  go_wp2_with fail
  generalize w.alloc (.cells #[Value.bool g_a, Value.slice A_a n_a c_a, Value.slice B_a m_a d_a] 27) = wP at *
  obtain ⟨q_a, eg⟩ : ∃ g, g = w.heap.size := ⟨_, rfl⟩
  rw [← eg] at h_ra ⊢
  clear eg
  cases o_a with
  | none =>
    refine (refGood_c h_a KL_a false rfl).mono ?_
    rintro e w1 ⟨rfl, bn⟩
    replace h_a := h_a.below bn
    replace h_ra := h_ra.below bn
    replace bw := below_two bw bn
    clear bn
    go_wp2_with fail
    refine (wakes_any _).mono ?_
    rintro e w2 ⟨rfl, bn⟩
    replace h_a := h_a.below bn
    replace h_ra := h_ra.below bn
    replace bw := below_two bw bn
    clear bn
    go_wp2
    go_ret
    exact ⟨rfl, bw⟩
  | some z_a =>
    refine (refGood_c h_a KL_a true rfl).mono ?_
    rintro e w3 ⟨rfl, bn⟩
    replace h_a := h_a.below bn
    replace h_ra := h_ra.below bn
    replace bw := below_two bw bn
    clear bn
    obtain ⟨t1, t2, t3, t4, L1_a, L2_a, D_a⟩ := qq_told h_a
    clear i_a j_a
    subst t1
    subst t2
    subst t3
    replace h_a := t4
    clear t4
    by_cases l_0 : 2 < n_a
    case pos =>
      have LL : (2 : Int) < n_a := by omega
      clear l_0
      have c_a0 := h_ra.c0
      have c_a1 := h_ra.c1
      have c_a2 := h_ra.c2
      go_wp2_with fail
      clear c_a0 c_a1 c_a2
      refine (wakes_any _).mono ?_
      rintro e w4 ⟨rfl, bn⟩
      replace h_a := h_a.below bn
      replace h_ra := h_ra.below bn
      replace bw := below_two bw bn
      clear bn
      go_wp2
      go_ret
      exact ⟨rfl, bw⟩
    have LL_0 : (n_a : Int) ≤ 2 := by omega
    clear l_0
    by_cases l_1 : 2 < m_a
    case pos =>
      have LL : (2 : Int) < m_a := by omega
      clear l_1
      have c_a0 := h_ra.c0
      have c_a1 := h_ra.c1
      have c_a2 := h_ra.c2
      go_wp2_with fail
      clear c_a0 c_a1 c_a2
      refine (wakes_any _).mono ?_
      rintro e w5 ⟨rfl, bn⟩
      replace h_a := h_a.below bn
      replace h_ra := h_ra.below bn
      replace bw := below_two bw bn
      clear bn
      go_wp2
      go_ret
      exact ⟨rfl, bw⟩
    have LL_1 : (m_a : Int) ≤ 2 := by omega
    clear l_1
    obtain ⟨u, hu⟩ : ∃ u, cmpQ z_a 0 = u := ⟨_, rfl⟩
    have hb := cmpQ_bounds z_a 0
    have hn := sign_num (q := z_a)
    rw [hu] at hn
    rw [hu] at hb
    have HBD : RowKit.Hid (Bd z_a 2 2) := D_a.mono (by omega) (by omega)
    rcases (show u = -1 ∨ u = 0 ∨ u = 1 by omega) with hs | hs | hs
    · by_cases kz : v_n % 9 = 0
      · skip
        have S := Lib.hid (show cmpR (some z_a) (some 0) = (-1) from hu.trans hs)
        have hn2 : z_a.num ≠ 0 := by rw [hs] at hn; simpa using hn
        obtain ⟨z_x, F0, F1, F2⟩ := signs_facts HBD.out (k := 0) (by decide)
        rw [show cmpQ z_a 0 = (-1) from hu.trans hs] at F1
        have F0 : powR (some z_a) 0 = (some z_x, 0) := F0
        have F0 := Lib.hid F0
        have R1 : RowKit.Hid (cmpR (some z_x) (some 0) = 1) := by show _ = _; rw [F1]; unfold signPow; rfl
        obtain ⟨_, z_y, F3, F4⟩ := F2.resolve_left (fun h => by have h1 := h.1; have h2 := h.2.1; omega)
        have F4 := Lib.hid F4
        have F3 : powR (some z_a) 0 = (some z_y, 0) := F3
        have F3 := Lib.hid F3
        clear F1 F2 hn hn2 hs hu hb
        have c_a0 := h_ra.c0
        have c_a1 := h_ra.c1
        have c_a2 := h_ra.c2
        go_wp2_with fail
        clear c_a0 c_a1 c_a2
        refine (pOf_c h_a (by decide) 0 _ _ F0.out).mono ?_
        rintro e w6 ⟨A_x, n_x, c_x, B_x, m_x, d_x, rfl, h_x, bn⟩
        replace h_a := h_a.below bn
        replace h_ra := h_ra.below bn
        replace bw := below_two bw bn
        clear bn
        have h_rx := row3_new w6 27 (.bool (sg (oTop (some z_x)))) (.slice A_x n_x c_x) (.slice B_x m_x d_x)
        have bn := below_new w6 (.cells #[Value.bool (sg (oTop (some z_x))), Value.slice A_x n_x c_x, Value.slice B_x m_x d_x] 27)
        replace h_a := h_a.below bn
        replace h_ra := h_ra.below bn
        replace h_x := h_x.below bn
        replace bw := below_two bw bn
        clear bn
        have c_a0 := h_ra.c0
        have c_a1 := h_ra.c1
        have c_a2 := h_ra.c2
        go_wp2_with fail
        clear c_a0 c_a1 c_a2
        generalize w6.alloc (.cells #[Value.bool (sg (oTop (some z_x))), Value.slice A_x n_x c_x, Value.slice B_x m_x d_x] 27) = w7 at *
        obtain ⟨q_x, eg⟩ : ∃ g, g = w6.heap.size := ⟨_, rfl⟩
        rw [← eg] at h_rx ⊢
        clear eg
        refine (rSign_c h_a (by decide) (-1) S.out).mono ?_
        rintro e w8 ⟨rfl, bn⟩
        replace h_a := h_a.below bn
        replace h_ra := h_ra.below bn
        replace h_x := h_x.below bn
        replace h_rx := h_rx.below bn
        replace bw := below_two bw bn
        clear bn
        have c_a0 := h_ra.c0
        have c_a1 := h_ra.c1
        have c_a2 := h_ra.c2
        go_wp2_with fail
        clear c_a0 c_a1 c_a2
        refine (pOf_c h_a (by decide) 0 _ _ F3.out).mono ?_
        rintro e w9 ⟨A_y, n_y, c_y, B_y, m_y, d_y, rfl, h_y, bn⟩
        replace h_a := h_a.below bn
        replace h_ra := h_ra.below bn
        replace h_x := h_x.below bn
        replace h_rx := h_rx.below bn
        replace bw := below_two bw bn
        clear bn
        have h_ry := row3_new w9 27 (.bool (sg (oTop (some z_y)))) (.slice A_y n_y c_y) (.slice B_y m_y d_y)
        have bn := below_new w9 (.cells #[Value.bool (sg (oTop (some z_y))), Value.slice A_y n_y c_y, Value.slice B_y m_y d_y] 27)
        replace h_a := h_a.below bn
        replace h_ra := h_ra.below bn
        replace h_x := h_x.below bn
        replace h_rx := h_rx.below bn
        replace h_y := h_y.below bn
        replace bw := below_two bw bn
        clear bn
        have c_x0 := h_rx.c0
        have c_x1 := h_rx.c1
        have c_x2 := h_rx.c2
        have c_y0 := h_ry.c0
        have c_y1 := h_ry.c1
        have c_y2 := h_ry.c2
        go_wp2_with fail
        clear c_x0 c_x1 c_x2 c_y0 c_y1 c_y2
        generalize w9.alloc (.cells #[Value.bool (sg (oTop (some z_y))), Value.slice A_y n_y c_y, Value.slice B_y m_y d_y] 27) = w10 at *
        obtain ⟨q_y, eg⟩ : ∃ g, g = w9.heap.size := ⟨_, rfl⟩
        rw [← eg] at h_ry ⊢
        clear eg
        refine (rMul_c h_x h_y (by decide) (by decide) _ _ F4.out).mono ?_
        rintro e w11 ⟨A_p, n_p, c_p, B_p, m_p, d_p, rfl, h_p, bn⟩
        replace h_a := h_a.below bn
        replace h_ra := h_ra.below bn
        replace h_x := h_x.below bn
        replace h_rx := h_rx.below bn
        replace h_y := h_y.below bn
        replace h_ry := h_ry.below bn
        replace bw := below_two bw bn
        clear bn
        have h_rp := row3_new w11 27 (.bool (sg (oTop (some 1)))) (.slice A_p n_p c_p) (.slice B_p m_p d_p)
        have bn := below_new w11 (.cells #[Value.bool (sg (oTop (some 1))), Value.slice A_p n_p c_p, Value.slice B_p m_p d_p] 27)
        replace h_a := h_a.below bn
        replace h_ra := h_ra.below bn
        replace h_x := h_x.below bn
        replace h_rx := h_rx.below bn
        replace h_y := h_y.below bn
        replace h_ry := h_ry.below bn
        replace h_p := h_p.below bn
        replace bw := below_two bw bn
        clear bn
        go_wp2
        generalize w11.alloc (.cells #[Value.bool (sg (oTop (some 1))), Value.slice A_p n_p c_p, Value.slice B_p m_p d_p] 27) = w12 at *
        obtain ⟨q_p, eg⟩ : ∃ g, g = w11.heap.size := ⟨_, rfl⟩
        rw [← eg] at h_rp ⊢
        clear eg
        generalize w12 = wS at *
        refine region_freeg 20 1 [82, 83, 84, 85, 86, 87, 88, 89, 90, 91, 92, 93, 94, 95, 96, 97, 98, 99, 100, 101] ?aF17 (fun wx => Below wS.heap.size wS wx) (fun k vv wx => match k with
            | 0 => vv = .agg #[.bool (sg (oTop (some z_x))), .slice A_x n_x c_x, .slice B_x m_x d_x]
            | 1 => vv = .int .i64 1
            | 2 => vv = .int .i64 1
            | 3 => vv = .bool true
            | 4 => vv = .bool true
            | 5 => vv = .int .i64 0
            | 6 => vv = .bool true
            | 7 => vv = .bool true
            | 8 => vv = .bool true
            | 9 => vv = .int .i64 0
            | 10 => vv = .bool true
            | 11 => vv = .bool true
            | 12 => vv = .bool true
            | 13 => vv = .agg #[.bool (sg (oTop (some 1))), .slice A_p n_p c_p, .slice B_p m_p d_p]
            | 14 => ∃ (e0 : Option Addr) (e1 : Nat) (e2 : Nat) (e3 : Option Addr) (e4 : Nat) (e5 : Nat), vv = .agg #[.bool (sg (oTop (some 1))), .slice e0 e1 e2, .slice e3 e4 e5] ∧ QT wx e0 e1 e2 e3 e4 e5 (some 1)
            | 15 => vv = .bool true
            | 16 => vv = .bool true
            | 17 => vv = .bool true
            | 18 => vv = .bool true
            | _ => vv = .bool true)
          (fun k => false) (by kernel_rfl) ?haF17 rfl (by kernel_rfl) (by kernel_rfl) (fun _ _ _ _ _ h => h) ?hSb17 ?hPb17 ?hS17 ?hop17 ?hfin17
        case haF17 =>
          intro vals
          simp only [fillAll, List.getElem?_cons_zero, List.getElem?_cons_succ, Act.put, List.setIfInBounds_toArray, List.set_cons_zero, List.set_cons_succ]
          exact rfl
        case hSb17 => exact fun wx w2 hb hS => below_two hS hb
        case hPb17 =>
          intro k v wa wb hb h
          match k, h with
          | 0, h => exact h
          | 1, h => exact h
          | 2, h => exact h
          | 3, h => exact h
          | 4, h => exact h
          | 5, h => exact h
          | 6, h => exact h
          | 7, h => exact h
          | 8, h => exact h
          | 9, h => exact h
          | 10, h => exact h
          | 11, h => exact h
          | 12, h => exact h
          | 13, h => exact h
          | 14, ⟨e0, e1, e2, e3, e4, e5, h1, g0⟩ => exact ⟨e0, e1, e2, e3, e4, e5, h1, g0.below hb⟩
          | 15, h => exact h
          | 16, h => exact h
          | 17, h => exact h
          | 18, h => exact h
          | _ + 19, h => exact h
        case hS17 => exact (Below.refl _ _).drew
        case hop17 =>
          refine .cons (k := 0) (.plain rfl ?_) (.cons (k := 1) (.plain rfl ?_) (.cons (k := 2) (.plain rfl ?_) (.cons (k := 3) (.plain rfl ?_) (.cons (k := 4) (.plain rfl ?_) (.cons (k := 5) (.yes (fun vals wr hS hd g b e => by cases e; exact hd 4 (by decide +kernel)) ?_) (.cons (k := 6) (.yes (fun vals wr hS hd g b e => by cases e; exact hd 4 (by decide +kernel)) ?_) (.cons (k := 7) (.plain rfl ?_) (.cons (k := 8) (.plain rfl ?_) (.cons (k := 9) (.yes (fun vals wr hS hd g b e => by cases e; exact hd 8 (by decide +kernel)) ?_) (.cons (k := 10) (.yes (fun vals wr hS hd g b e => by cases e; exact hd 8 (by decide +kernel)) ?_) (.cons (k := 11) (.plain rfl ?_) (.cons (k := 12) (.plain rfl ?_) (.cons (k := 13) (.yes (fun vals wr hS hd g b e => by cases e; exact hd 12 (by decide +kernel)) ?_) (.cons (k := 14) (.yes (fun vals wr hS hd g b e => by cases e; exact hd 12 (by decide +kernel)) ?_) (.cons (k := 15) (.yes (fun vals wr hS hd g b e => by cases e; exact hd 12 (by decide +kernel)) ?_) (.cons (k := 16) (.plain rfl ?_) (.cons (k := 17) (.plain rfl ?_) (.cons (k := 18) (.yes (fun vals wr hS hd g b e => by cases e; exact hd 17 (by decide +kernel)) ?_) (.cons (k := 19) (.plain rfl ?_) (.nil))))))))))))))))))))
          all_goals intro vals wr hS hd KC hK
          all_goals (show Oper.wp _ _ _ _ _ _; dsimp only)
          · have z0 := (h_rx.below hS).c0
            have z1 := (h_rx.below hS).c1
            have z2 := (h_rx.below hS).c2
            go_simp
            refine hK _ _ rfl (Below.refl _ _) (by first | rfl | simp) (fun h => by cases h)
          · have d0 : vals 0 = _ := hd 0 (by decide +kernel)
            rw [d0]
            go_simp
            go_at_call 17
            with_reducible refine (rSign_c (h_x.below hS) (by decide) 1 R1.out).mono ?_
            rintro e w2 ⟨rfl, bn_r⟩
            refine hK _ _ rfl bn_r rfl (fun h => by cases h)
          · go_simp
            refine hK _ _ rfl (Below.refl _ _) (by first | rfl | simp) (fun h => by cases h)
          · have d1 : vals 1 = _ := hd 1 (by decide +kernel)
            have d2 : vals 2 = _ := hd 2 (by decide +kernel)
            rw [d1, d2]
            go_simp
            refine hK _ _ rfl (Below.refl _ _) (by first | rfl | simp) (fun h => by cases h)
          · have d3 : vals 3 = _ := hd 3 (by decide +kernel)
            rw [d3]
            go_simp
            refine hK _ _ rfl (Below.refl _ _) (by first | rfl | simp) (fun h => by cases h)
          · go_simp
            refine hK _ _ rfl (Below.refl _ _) (by first | rfl | simp) (fun h => by cases h)
          · have d5 : vals 5 = _ := hd 5 (by decide +kernel)
            rw [d5]
            go_simp
            refine hK _ _ rfl (Below.refl _ _) (by first | rfl | simp) (fun h => by cases h)
          · have d4 : vals 4 = _ := hd 4 (by decide +kernel)
            have d6 : vals 6 = _ := hd 6 (by decide +kernel)
            rw [d4, d6]
            go_simp
            refine hK _ _ rfl (Below.refl _ _) (by first | rfl | simp) (fun h => by cases h)
          · have d7 : vals 7 = _ := hd 7 (by decide +kernel)
            rw [d7]
            go_simp
            refine hK _ _ rfl (Below.refl _ _) (by first | rfl | simp) (fun h => by cases h)
          · go_simp
            refine hK _ _ rfl (Below.refl _ _) (by first | rfl | simp) (fun h => by cases h)
          · have d9 : vals 9 = _ := hd 9 (by decide +kernel)
            rw [d9]
            go_simp
            refine hK _ _ rfl (Below.refl _ _) (by first | rfl | simp) (fun h => by cases h)
          · have d8 : vals 8 = _ := hd 8 (by decide +kernel)
            have d10 : vals 10 = _ := hd 10 (by decide +kernel)
            rw [d8, d10]
            go_simp
            refine hK _ _ rfl (Below.refl _ _) (by first | rfl | simp) (fun h => by cases h)
          · have d11 : vals 11 = _ := hd 11 (by decide +kernel)
            rw [d11]
            go_simp
            refine hK _ _ rfl (Below.refl _ _) (by first | rfl | simp) (fun h => by cases h)
          · have z0 := (h_rp.below hS).c0
            have z1 := (h_rp.below hS).c1
            have z2 := (h_rp.below hS).c2
            go_simp
            refine hK _ _ rfl (Below.refl _ _) (by first | rfl | simp) (fun h => by cases h)
          · go_simp
            go_at_call 18
            with_reducible refine (rWhole_is 1 (by decide) (by decide) _ one_cast _).mono ?_
            rintro e w2 ⟨r0, r1, r2, r3, r4, r5, rfl, f0, bn_r⟩
            refine hK _ _ rfl bn_r ⟨_, _, _, _, _, _, rfl, f0⟩ (fun h => by cases h)
          · have d13 : vals 13 = _ := hd 13 (by decide +kernel)
            obtain ⟨A_14_0, n_14_1, n_14_2, A_14_3, n_14_4, n_14_5, d14, h_14_0⟩ := hd 14 (by decide +kernel)
            rw [d13, d14]
            go_simp
            go_at_call 15
            with_reducible refine (keepRat_c (h_p.below hS) h_14_0 (by decide) (by decide) true (keepQ rfl)).mono ?_
            rintro e w2 ⟨rfl, bn_r⟩
            refine hK _ _ rfl bn_r rfl (fun h => by cases h)
          · have d12 : vals 12 = _ := hd 12 (by decide +kernel)
            have d15 : vals 15 = _ := hd 15 (by decide +kernel)
            rw [d12, d15]
            go_simp
            refine hK _ _ rfl (Below.refl _ _) (by first | rfl | simp) (fun h => by cases h)
          · have d16 : vals 16 = _ := hd 16 (by decide +kernel)
            rw [d16]
            go_simp
            refine hK _ _ rfl (Below.refl _ _) (by first | rfl | simp) (fun h => by cases h)
          · go_simp
            go_at_call 9
            with_reducible refine (wakes_any _).mono ?_
            rintro e w2 ⟨rfl, bn_r⟩
            refine hK _ _ rfl bn_r rfl (fun h => by cases h)
          · have d17 : vals 17 = _ := hd 17 (by decide +kernel)
            have d18 : vals 18 = _ := hd 18 (by decide +kernel)
            rw [d17, d18]
            go_simp
            refine hK _ _ rfl (Below.refl _ _) (by first | rfl | simp) (fun h => by cases h)
        case hfin17 =>
          intro vals wr hS hP hne
          have ez_19 : vals 19 = _ := hP 19 (by decide)
          have HB := Lib.hid (below_two bw hS)
          try dsimp only
          rw [ez_19]
          refine wpAny_ready (rs := [20]) (by kernel_rfl) (by simp) (AllReady.cons rfl (fun KC hK => ?_) AllReady.nil)
          go_simp
          refine hK _ _ ?_
          clear hK KC
          refine wpAny_done (by kernel_rfl) ?_ _
          go_wp2
          go_ret
          exact ⟨rfl, HB.out⟩
      · obtain ⟨K, hK⟩ : ∃ K : Nat, v_n % 9 = (K : Int) := ⟨(v_n % 9).toNat, by omega⟩
        have K0 : (1 : Int) ≤ (K : Int) := by omega
        have K1 : (K : Int) ≤ 8 := by omega
        clear kz
        by_cases hpar : K % 2 = 0
        · skip
          have S := Lib.hid (show cmpR (some z_a) (some 0) = (-1) from hu.trans hs)
          have hn2 : z_a.num ≠ 0 := by rw [hs] at hn; simpa using hn
          obtain ⟨z_x, F0, F1, F2⟩ := signs_facts HBD.out (k := K) (by omega)
          rw [show cmpQ z_a 0 = (-1) from hu.trans hs] at F1
          have F0 := Lib.hid F0
          have R1 : RowKit.Hid (cmpR (some z_x) (some 0) = 1) := by show _ = _; rw [F1]; unfold signPow; rw [if_neg (by omega), if_pos hpar]; rfl
          obtain ⟨_, z_y, F3, F4⟩ := F2.resolve_left (fun h => by have h1 := h.1; have h2 := h.2.1; omega)
          have F4 := Lib.hid F4
          have F3 := Lib.hid F3
          clear F1 F2 hn hn2 hs hu hb
          have hr : ((K : Int) % 2 == 0) = true := by rw [beq_iff_eq]; omega
          have hk0 : ((K : Int) == 0) = false := by rw [beq_eq_false_iff_ne]; omega
          clear hpar
          have c_a0 := h_ra.c0
          have c_a1 := h_ra.c1
          have c_a2 := h_ra.c2
          go_wp2_with fail
          clear c_a0 c_a1 c_a2
          refine (pOf_c h_a (by decide) (K : Int) _ _ F0.out).mono ?_
          rintro e w13 ⟨A_x, n_x, c_x, B_x, m_x, d_x, rfl, h_x, bn⟩
          replace h_a := h_a.below bn
          replace h_ra := h_ra.below bn
          replace bw := below_two bw bn
          clear bn
          have h_rx := row3_new w13 27 (.bool (sg (oTop (some z_x)))) (.slice A_x n_x c_x) (.slice B_x m_x d_x)
          have bn := below_new w13 (.cells #[Value.bool (sg (oTop (some z_x))), Value.slice A_x n_x c_x, Value.slice B_x m_x d_x] 27)
          replace h_a := h_a.below bn
          replace h_ra := h_ra.below bn
          replace h_x := h_x.below bn
          replace bw := below_two bw bn
          clear bn
          have c_a0 := h_ra.c0
          have c_a1 := h_ra.c1
          have c_a2 := h_ra.c2
          go_wp2_with fail
          clear c_a0 c_a1 c_a2
          generalize w13.alloc (.cells #[Value.bool (sg (oTop (some z_x))), Value.slice A_x n_x c_x, Value.slice B_x m_x d_x] 27) = w14 at *
          obtain ⟨q_x, eg⟩ : ∃ g, g = w13.heap.size := ⟨_, rfl⟩
          rw [← eg] at h_rx ⊢
          clear eg
          refine (rSign_c h_a (by decide) (-1) S.out).mono ?_
          rintro e w15 ⟨rfl, bn⟩
          replace h_a := h_a.below bn
          replace h_ra := h_ra.below bn
          replace h_x := h_x.below bn
          replace h_rx := h_rx.below bn
          replace bw := below_two bw bn
          clear bn
          have c_a0 := h_ra.c0
          have c_a1 := h_ra.c1
          have c_a2 := h_ra.c2
          go_wp2_with fail
          clear c_a0 c_a1 c_a2
          refine (pOf_c h_a (by decide) (-(K : Int)) _ _ F3.out).mono ?_
          rintro e w16 ⟨A_y, n_y, c_y, B_y, m_y, d_y, rfl, h_y, bn⟩
          replace h_a := h_a.below bn
          replace h_ra := h_ra.below bn
          replace h_x := h_x.below bn
          replace h_rx := h_rx.below bn
          replace bw := below_two bw bn
          clear bn
          have h_ry := row3_new w16 27 (.bool (sg (oTop (some z_y)))) (.slice A_y n_y c_y) (.slice B_y m_y d_y)
          have bn := below_new w16 (.cells #[Value.bool (sg (oTop (some z_y))), Value.slice A_y n_y c_y, Value.slice B_y m_y d_y] 27)
          replace h_a := h_a.below bn
          replace h_ra := h_ra.below bn
          replace h_x := h_x.below bn
          replace h_rx := h_rx.below bn
          replace h_y := h_y.below bn
          replace bw := below_two bw bn
          clear bn
          have c_x0 := h_rx.c0
          have c_x1 := h_rx.c1
          have c_x2 := h_rx.c2
          have c_y0 := h_ry.c0
          have c_y1 := h_ry.c1
          have c_y2 := h_ry.c2
          go_wp2_with fail
          clear c_x0 c_x1 c_x2 c_y0 c_y1 c_y2
          generalize w16.alloc (.cells #[Value.bool (sg (oTop (some z_y))), Value.slice A_y n_y c_y, Value.slice B_y m_y d_y] 27) = w17 at *
          obtain ⟨q_y, eg⟩ : ∃ g, g = w16.heap.size := ⟨_, rfl⟩
          rw [← eg] at h_ry ⊢
          clear eg
          refine (rMul_c h_x h_y (by decide) (by decide) _ _ F4.out).mono ?_
          rintro e w18 ⟨A_p, n_p, c_p, B_p, m_p, d_p, rfl, h_p, bn⟩
          replace h_a := h_a.below bn
          replace h_ra := h_ra.below bn
          replace h_x := h_x.below bn
          replace h_rx := h_rx.below bn
          replace h_y := h_y.below bn
          replace h_ry := h_ry.below bn
          replace bw := below_two bw bn
          clear bn
          have h_rp := row3_new w18 27 (.bool (sg (oTop (some 1)))) (.slice A_p n_p c_p) (.slice B_p m_p d_p)
          have bn := below_new w18 (.cells #[Value.bool (sg (oTop (some 1))), Value.slice A_p n_p c_p, Value.slice B_p m_p d_p] 27)
          replace h_a := h_a.below bn
          replace h_ra := h_ra.below bn
          replace h_x := h_x.below bn
          replace h_rx := h_rx.below bn
          replace h_y := h_y.below bn
          replace h_ry := h_ry.below bn
          replace h_p := h_p.below bn
          replace bw := below_two bw bn
          clear bn
          go_wp2
          generalize w18.alloc (.cells #[Value.bool (sg (oTop (some 1))), Value.slice A_p n_p c_p, Value.slice B_p m_p d_p] 27) = w19 at *
          obtain ⟨q_p, eg⟩ : ∃ g, g = w18.heap.size := ⟨_, rfl⟩
          rw [← eg] at h_rp ⊢
          clear eg
          generalize w19 = wS at *
          refine region_freeg 20 1 [82, 83, 84, 85, 86, 87, 88, 89, 90, 91, 92, 93, 94, 95, 96, 97, 98, 99, 100, 101] ?aF18 (fun wx => Below wS.heap.size wS wx) (fun k vv wx => match k with
              | 0 => vv = .agg #[.bool (sg (oTop (some z_x))), .slice A_x n_x c_x, .slice B_x m_x d_x]
              | 1 => vv = .int .i64 1
              | 2 => vv = .int .i64 1
              | 3 => vv = .bool true
              | 4 => vv = .bool true
              | 5 => vv = .int .i64 0
              | 6 => vv = .bool true
              | 7 => vv = .bool true
              | 8 => vv = .bool true
              | 9 => vv = .int .i64 0
              | 10 => vv = .bool true
              | 11 => vv = .bool true
              | 12 => vv = .bool true
              | 13 => vv = .agg #[.bool (sg (oTop (some 1))), .slice A_p n_p c_p, .slice B_p m_p d_p]
              | 14 => ∃ (e0 : Option Addr) (e1 : Nat) (e2 : Nat) (e3 : Option Addr) (e4 : Nat) (e5 : Nat), vv = .agg #[.bool (sg (oTop (some 1))), .slice e0 e1 e2, .slice e3 e4 e5] ∧ QT wx e0 e1 e2 e3 e4 e5 (some 1)
              | 15 => vv = .bool true
              | 16 => vv = .bool true
              | 17 => vv = .bool true
              | 18 => vv = .bool true
              | _ => vv = .bool true)
            (fun k => false) (by kernel_rfl) ?haF18 rfl (by kernel_rfl) (by kernel_rfl) (fun _ _ _ _ _ h => h) ?hSb18 ?hPb18 ?hS18 ?hop18 ?hfin18
          case haF18 =>
            intro vals
            simp only [fillAll, List.getElem?_cons_zero, List.getElem?_cons_succ, Act.put, List.setIfInBounds_toArray, List.set_cons_zero, List.set_cons_succ]
            exact rfl
          case hSb18 => exact fun wx w2 hb hS => below_two hS hb
          case hPb18 =>
            intro k v wa wb hb h
            match k, h with
            | 0, h => exact h
            | 1, h => exact h
            | 2, h => exact h
            | 3, h => exact h
            | 4, h => exact h
            | 5, h => exact h
            | 6, h => exact h
            | 7, h => exact h
            | 8, h => exact h
            | 9, h => exact h
            | 10, h => exact h
            | 11, h => exact h
            | 12, h => exact h
            | 13, h => exact h
            | 14, ⟨e0, e1, e2, e3, e4, e5, h1, g0⟩ => exact ⟨e0, e1, e2, e3, e4, e5, h1, g0.below hb⟩
            | 15, h => exact h
            | 16, h => exact h
            | 17, h => exact h
            | 18, h => exact h
            | _ + 19, h => exact h
          case hS18 => exact (Below.refl _ _).drew
          case hop18 =>
            refine .cons (k := 0) (.plain rfl ?_) (.cons (k := 1) (.plain rfl ?_) (.cons (k := 2) (.plain rfl ?_) (.cons (k := 3) (.plain rfl ?_) (.cons (k := 4) (.plain rfl ?_) (.cons (k := 5) (.yes (fun vals wr hS hd g b e => by cases e; exact hd 4 (by decide +kernel)) ?_) (.cons (k := 6) (.yes (fun vals wr hS hd g b e => by cases e; exact hd 4 (by decide +kernel)) ?_) (.cons (k := 7) (.plain rfl ?_) (.cons (k := 8) (.plain rfl ?_) (.cons (k := 9) (.yes (fun vals wr hS hd g b e => by cases e; exact hd 8 (by decide +kernel)) ?_) (.cons (k := 10) (.yes (fun vals wr hS hd g b e => by cases e; exact hd 8 (by decide +kernel)) ?_) (.cons (k := 11) (.plain rfl ?_) (.cons (k := 12) (.plain rfl ?_) (.cons (k := 13) (.yes (fun vals wr hS hd g b e => by cases e; exact hd 12 (by decide +kernel)) ?_) (.cons (k := 14) (.yes (fun vals wr hS hd g b e => by cases e; exact hd 12 (by decide +kernel)) ?_) (.cons (k := 15) (.yes (fun vals wr hS hd g b e => by cases e; exact hd 12 (by decide +kernel)) ?_) (.cons (k := 16) (.plain rfl ?_) (.cons (k := 17) (.plain rfl ?_) (.cons (k := 18) (.yes (fun vals wr hS hd g b e => by cases e; exact hd 17 (by decide +kernel)) ?_) (.cons (k := 19) (.plain rfl ?_) (.nil))))))))))))))))))))
            all_goals intro vals wr hS hd KC hK
            all_goals (show Oper.wp _ _ _ _ _ _; dsimp only)
            · have z0 := (h_rx.below hS).c0
              have z1 := (h_rx.below hS).c1
              have z2 := (h_rx.below hS).c2
              go_simp
              refine hK _ _ rfl (Below.refl _ _) (by first | rfl | simp) (fun h => by cases h)
            · have d0 : vals 0 = _ := hd 0 (by decide +kernel)
              rw [d0]
              go_simp
              go_at_call 17
              with_reducible refine (rSign_c (h_x.below hS) (by decide) 1 R1.out).mono ?_
              rintro e w2 ⟨rfl, bn_r⟩
              refine hK _ _ rfl bn_r rfl (fun h => by cases h)
            · go_simp
              refine hK _ _ rfl (Below.refl _ _) (by first | rfl | simp) (fun h => by cases h)
            · have d1 : vals 1 = _ := hd 1 (by decide +kernel)
              have d2 : vals 2 = _ := hd 2 (by decide +kernel)
              rw [d1, d2]
              go_simp
              refine hK _ _ rfl (Below.refl _ _) (by first | rfl | simp) (fun h => by cases h)
            · have d3 : vals 3 = _ := hd 3 (by decide +kernel)
              rw [d3]
              go_simp
              refine hK _ _ rfl (Below.refl _ _) (by first | rfl | simp) (fun h => by cases h)
            · go_simp
              refine hK _ _ rfl (Below.refl _ _) (by first | rfl | simp) (fun h => by cases h)
            · have d5 : vals 5 = _ := hd 5 (by decide +kernel)
              rw [d5]
              go_simp
              refine hK _ _ rfl (Below.refl _ _) (by first | rfl | simp) (fun h => by cases h)
            · have d4 : vals 4 = _ := hd 4 (by decide +kernel)
              have d6 : vals 6 = _ := hd 6 (by decide +kernel)
              rw [d4, d6]
              go_simp
              refine hK _ _ rfl (Below.refl _ _) (by first | rfl | simp) (fun h => by cases h)
            · have d7 : vals 7 = _ := hd 7 (by decide +kernel)
              rw [d7]
              go_simp
              refine hK _ _ rfl (Below.refl _ _) (by first | rfl | simp) (fun h => by cases h)
            · go_simp
              refine hK _ _ rfl (Below.refl _ _) (by first | rfl | simp) (fun h => by cases h)
            · have d9 : vals 9 = _ := hd 9 (by decide +kernel)
              rw [d9]
              go_simp
              refine hK _ _ rfl (Below.refl _ _) (by first | rfl | simp) (fun h => by cases h)
            · have d8 : vals 8 = _ := hd 8 (by decide +kernel)
              have d10 : vals 10 = _ := hd 10 (by decide +kernel)
              rw [d8, d10]
              go_simp
              refine hK _ _ rfl (Below.refl _ _) (by first | rfl | simp) (fun h => by cases h)
            · have d11 : vals 11 = _ := hd 11 (by decide +kernel)
              rw [d11]
              go_simp
              refine hK _ _ rfl (Below.refl _ _) (by first | rfl | simp) (fun h => by cases h)
            · have z0 := (h_rp.below hS).c0
              have z1 := (h_rp.below hS).c1
              have z2 := (h_rp.below hS).c2
              go_simp
              refine hK _ _ rfl (Below.refl _ _) (by first | rfl | simp) (fun h => by cases h)
            · go_simp
              go_at_call 18
              with_reducible refine (rWhole_is 1 (by decide) (by decide) _ one_cast _).mono ?_
              rintro e w2 ⟨r0, r1, r2, r3, r4, r5, rfl, f0, bn_r⟩
              refine hK _ _ rfl bn_r ⟨_, _, _, _, _, _, rfl, f0⟩ (fun h => by cases h)
            · have d13 : vals 13 = _ := hd 13 (by decide +kernel)
              obtain ⟨A_14_0, n_14_1, n_14_2, A_14_3, n_14_4, n_14_5, d14, h_14_0⟩ := hd 14 (by decide +kernel)
              rw [d13, d14]
              go_simp
              go_at_call 15
              with_reducible refine (keepRat_c (h_p.below hS) h_14_0 (by decide) (by decide) true (keepQ rfl)).mono ?_
              rintro e w2 ⟨rfl, bn_r⟩
              refine hK _ _ rfl bn_r rfl (fun h => by cases h)
            · have d12 : vals 12 = _ := hd 12 (by decide +kernel)
              have d15 : vals 15 = _ := hd 15 (by decide +kernel)
              rw [d12, d15]
              go_simp
              refine hK _ _ rfl (Below.refl _ _) (by first | rfl | simp) (fun h => by cases h)
            · have d16 : vals 16 = _ := hd 16 (by decide +kernel)
              rw [d16]
              go_simp
              refine hK _ _ rfl (Below.refl _ _) (by first | rfl | simp) (fun h => by cases h)
            · go_simp
              go_at_call 9
              with_reducible refine (wakes_any _).mono ?_
              rintro e w2 ⟨rfl, bn_r⟩
              refine hK _ _ rfl bn_r rfl (fun h => by cases h)
            · have d17 : vals 17 = _ := hd 17 (by decide +kernel)
              have d18 : vals 18 = _ := hd 18 (by decide +kernel)
              rw [d17, d18]
              go_simp
              refine hK _ _ rfl (Below.refl _ _) (by first | rfl | simp) (fun h => by cases h)
          case hfin18 =>
            intro vals wr hS hP hne
            have ez_19 : vals 19 = _ := hP 19 (by decide)
            have HB := Lib.hid (below_two bw hS)
            try dsimp only
            rw [ez_19]
            refine wpAny_ready (rs := [20]) (by kernel_rfl) (by simp) (AllReady.cons rfl (fun KC hK => ?_) AllReady.nil)
            go_simp
            refine hK _ _ ?_
            clear hK KC
            refine wpAny_done (by kernel_rfl) ?_ _
            go_wp2
            go_ret
            exact ⟨rfl, HB.out⟩
        · skip
          have S := Lib.hid (show cmpR (some z_a) (some 0) = (-1) from hu.trans hs)
          have hn2 : z_a.num ≠ 0 := by rw [hs] at hn; simpa using hn
          obtain ⟨z_x, F0, F1, F2⟩ := signs_facts HBD.out (k := K) (by omega)
          rw [show cmpQ z_a 0 = (-1) from hu.trans hs] at F1
          have F0 := Lib.hid F0
          have R1 : RowKit.Hid (cmpR (some z_x) (some 0) = (-1)) := by show _ = _; rw [F1]; unfold signPow; rw [if_neg (by omega), if_neg (by omega)]
          obtain ⟨_, z_y, F3, F4⟩ := F2.resolve_left (fun h => by have h1 := h.1; have h2 := h.2.1; omega)
          have F4 := Lib.hid F4
          have F3 := Lib.hid F3
          clear F1 F2 hn hn2 hs hu hb
          have hr : ((K : Int) % 2 == 0) = false := by rw [beq_eq_false_iff_ne]; omega
          have hk0 : ((K : Int) == 0) = false := by rw [beq_eq_false_iff_ne]; omega
          clear hpar
          have c_a0 := h_ra.c0
          have c_a1 := h_ra.c1
          have c_a2 := h_ra.c2
          go_wp2_with fail
          clear c_a0 c_a1 c_a2
          refine (pOf_c h_a (by decide) (K : Int) _ _ F0.out).mono ?_
          rintro e w20 ⟨A_x, n_x, c_x, B_x, m_x, d_x, rfl, h_x, bn⟩
          replace h_a := h_a.below bn
          replace h_ra := h_ra.below bn
          replace bw := below_two bw bn
          clear bn
          have h_rx := row3_new w20 27 (.bool (sg (oTop (some z_x)))) (.slice A_x n_x c_x) (.slice B_x m_x d_x)
          have bn := below_new w20 (.cells #[Value.bool (sg (oTop (some z_x))), Value.slice A_x n_x c_x, Value.slice B_x m_x d_x] 27)
          replace h_a := h_a.below bn
          replace h_ra := h_ra.below bn
          replace h_x := h_x.below bn
          replace bw := below_two bw bn
          clear bn
          have c_a0 := h_ra.c0
          have c_a1 := h_ra.c1
          have c_a2 := h_ra.c2
          go_wp2_with fail
          clear c_a0 c_a1 c_a2
          generalize w20.alloc (.cells #[Value.bool (sg (oTop (some z_x))), Value.slice A_x n_x c_x, Value.slice B_x m_x d_x] 27) = w21 at *
          obtain ⟨q_x, eg⟩ : ∃ g, g = w20.heap.size := ⟨_, rfl⟩
          rw [← eg] at h_rx ⊢
          clear eg
          refine (rSign_c h_a (by decide) (-1) S.out).mono ?_
          rintro e w22 ⟨rfl, bn⟩
          replace h_a := h_a.below bn
          replace h_ra := h_ra.below bn
          replace h_x := h_x.below bn
          replace h_rx := h_rx.below bn
          replace bw := below_two bw bn
          clear bn
          have c_a0 := h_ra.c0
          have c_a1 := h_ra.c1
          have c_a2 := h_ra.c2
          go_wp2_with fail
          clear c_a0 c_a1 c_a2
          refine (pOf_c h_a (by decide) (-(K : Int)) _ _ F3.out).mono ?_
          rintro e w23 ⟨A_y, n_y, c_y, B_y, m_y, d_y, rfl, h_y, bn⟩
          replace h_a := h_a.below bn
          replace h_ra := h_ra.below bn
          replace h_x := h_x.below bn
          replace h_rx := h_rx.below bn
          replace bw := below_two bw bn
          clear bn
          have h_ry := row3_new w23 27 (.bool (sg (oTop (some z_y)))) (.slice A_y n_y c_y) (.slice B_y m_y d_y)
          have bn := below_new w23 (.cells #[Value.bool (sg (oTop (some z_y))), Value.slice A_y n_y c_y, Value.slice B_y m_y d_y] 27)
          replace h_a := h_a.below bn
          replace h_ra := h_ra.below bn
          replace h_x := h_x.below bn
          replace h_rx := h_rx.below bn
          replace h_y := h_y.below bn
          replace bw := below_two bw bn
          clear bn
          have c_x0 := h_rx.c0
          have c_x1 := h_rx.c1
          have c_x2 := h_rx.c2
          have c_y0 := h_ry.c0
          have c_y1 := h_ry.c1
          have c_y2 := h_ry.c2
          go_wp2_with fail
          clear c_x0 c_x1 c_x2 c_y0 c_y1 c_y2
          generalize w23.alloc (.cells #[Value.bool (sg (oTop (some z_y))), Value.slice A_y n_y c_y, Value.slice B_y m_y d_y] 27) = w24 at *
          obtain ⟨q_y, eg⟩ : ∃ g, g = w23.heap.size := ⟨_, rfl⟩
          rw [← eg] at h_ry ⊢
          clear eg
          refine (rMul_c h_x h_y (by decide) (by decide) _ _ F4.out).mono ?_
          rintro e w25 ⟨A_p, n_p, c_p, B_p, m_p, d_p, rfl, h_p, bn⟩
          replace h_a := h_a.below bn
          replace h_ra := h_ra.below bn
          replace h_x := h_x.below bn
          replace h_rx := h_rx.below bn
          replace h_y := h_y.below bn
          replace h_ry := h_ry.below bn
          replace bw := below_two bw bn
          clear bn
          have h_rp := row3_new w25 27 (.bool (sg (oTop (some 1)))) (.slice A_p n_p c_p) (.slice B_p m_p d_p)
          have bn := below_new w25 (.cells #[Value.bool (sg (oTop (some 1))), Value.slice A_p n_p c_p, Value.slice B_p m_p d_p] 27)
          replace h_a := h_a.below bn
          replace h_ra := h_ra.below bn
          replace h_x := h_x.below bn
          replace h_rx := h_rx.below bn
          replace h_y := h_y.below bn
          replace h_ry := h_ry.below bn
          replace h_p := h_p.below bn
          replace bw := below_two bw bn
          clear bn
          go_wp2
          generalize w25.alloc (.cells #[Value.bool (sg (oTop (some 1))), Value.slice A_p n_p c_p, Value.slice B_p m_p d_p] 27) = w26 at *
          obtain ⟨q_p, eg⟩ : ∃ g, g = w25.heap.size := ⟨_, rfl⟩
          rw [← eg] at h_rp ⊢
          clear eg
          generalize w26 = wS at *
          refine region_freeg 20 1 [82, 83, 84, 85, 86, 87, 88, 89, 90, 91, 92, 93, 94, 95, 96, 97, 98, 99, 100, 101] ?aF19 (fun wx => Below wS.heap.size wS wx) (fun k vv wx => match k with
              | 0 => vv = .agg #[.bool (sg (oTop (some z_x))), .slice A_x n_x c_x, .slice B_x m_x d_x]
              | 1 => vv = .int .i64 (-1)
              | 2 => vv = .int .i64 (-1)
              | 3 => vv = .bool true
              | 4 => vv = .bool true
              | 5 => vv = .int .i64 0
              | 6 => vv = .bool true
              | 7 => vv = .bool true
              | 8 => vv = .bool true
              | 9 => vv = .int .i64 0
              | 10 => vv = .bool true
              | 11 => vv = .bool true
              | 12 => vv = .bool true
              | 13 => vv = .agg #[.bool (sg (oTop (some 1))), .slice A_p n_p c_p, .slice B_p m_p d_p]
              | 14 => ∃ (e0 : Option Addr) (e1 : Nat) (e2 : Nat) (e3 : Option Addr) (e4 : Nat) (e5 : Nat), vv = .agg #[.bool (sg (oTop (some 1))), .slice e0 e1 e2, .slice e3 e4 e5] ∧ QT wx e0 e1 e2 e3 e4 e5 (some 1)
              | 15 => vv = .bool true
              | 16 => vv = .bool true
              | 17 => vv = .bool true
              | 18 => vv = .bool true
              | _ => vv = .bool true)
            (fun k => false) (by kernel_rfl) ?haF19 rfl (by kernel_rfl) (by kernel_rfl) (fun _ _ _ _ _ h => h) ?hSb19 ?hPb19 ?hS19 ?hop19 ?hfin19
          case haF19 =>
            intro vals
            simp only [fillAll, List.getElem?_cons_zero, List.getElem?_cons_succ, Act.put, List.setIfInBounds_toArray, List.set_cons_zero, List.set_cons_succ]
            exact rfl
          case hSb19 => exact fun wx w2 hb hS => below_two hS hb
          case hPb19 =>
            intro k v wa wb hb h
            match k, h with
            | 0, h => exact h
            | 1, h => exact h
            | 2, h => exact h
            | 3, h => exact h
            | 4, h => exact h
            | 5, h => exact h
            | 6, h => exact h
            | 7, h => exact h
            | 8, h => exact h
            | 9, h => exact h
            | 10, h => exact h
            | 11, h => exact h
            | 12, h => exact h
            | 13, h => exact h
            | 14, ⟨e0, e1, e2, e3, e4, e5, h1, g0⟩ => exact ⟨e0, e1, e2, e3, e4, e5, h1, g0.below hb⟩
            | 15, h => exact h
            | 16, h => exact h
            | 17, h => exact h
            | 18, h => exact h
            | _ + 19, h => exact h
          case hS19 => exact (Below.refl _ _).drew
          case hop19 =>
            refine .cons (k := 0) (.plain rfl ?_) (.cons (k := 1) (.plain rfl ?_) (.cons (k := 2) (.plain rfl ?_) (.cons (k := 3) (.plain rfl ?_) (.cons (k := 4) (.plain rfl ?_) (.cons (k := 5) (.yes (fun vals wr hS hd g b e => by cases e; exact hd 4 (by decide +kernel)) ?_) (.cons (k := 6) (.yes (fun vals wr hS hd g b e => by cases e; exact hd 4 (by decide +kernel)) ?_) (.cons (k := 7) (.plain rfl ?_) (.cons (k := 8) (.plain rfl ?_) (.cons (k := 9) (.yes (fun vals wr hS hd g b e => by cases e; exact hd 8 (by decide +kernel)) ?_) (.cons (k := 10) (.yes (fun vals wr hS hd g b e => by cases e; exact hd 8 (by decide +kernel)) ?_) (.cons (k := 11) (.plain rfl ?_) (.cons (k := 12) (.plain rfl ?_) (.cons (k := 13) (.yes (fun vals wr hS hd g b e => by cases e; exact hd 12 (by decide +kernel)) ?_) (.cons (k := 14) (.yes (fun vals wr hS hd g b e => by cases e; exact hd 12 (by decide +kernel)) ?_) (.cons (k := 15) (.yes (fun vals wr hS hd g b e => by cases e; exact hd 12 (by decide +kernel)) ?_) (.cons (k := 16) (.plain rfl ?_) (.cons (k := 17) (.plain rfl ?_) (.cons (k := 18) (.yes (fun vals wr hS hd g b e => by cases e; exact hd 17 (by decide +kernel)) ?_) (.cons (k := 19) (.plain rfl ?_) (.nil))))))))))))))))))))
            all_goals intro vals wr hS hd KC hK
            all_goals (show Oper.wp _ _ _ _ _ _; dsimp only)
            · have z0 := (h_rx.below hS).c0
              have z1 := (h_rx.below hS).c1
              have z2 := (h_rx.below hS).c2
              go_simp
              refine hK _ _ rfl (Below.refl _ _) (by first | rfl | simp) (fun h => by cases h)
            · have d0 : vals 0 = _ := hd 0 (by decide +kernel)
              rw [d0]
              go_simp
              go_at_call 17
              with_reducible refine (rSign_c (h_x.below hS) (by decide) (-1) R1.out).mono ?_
              rintro e w2 ⟨rfl, bn_r⟩
              refine hK _ _ rfl bn_r rfl (fun h => by cases h)
            · go_simp
              refine hK _ _ rfl (Below.refl _ _) (by first | rfl | simp) (fun h => by cases h)
            · have d1 : vals 1 = _ := hd 1 (by decide +kernel)
              have d2 : vals 2 = _ := hd 2 (by decide +kernel)
              rw [d1, d2]
              go_simp
              refine hK _ _ rfl (Below.refl _ _) (by first | rfl | simp) (fun h => by cases h)
            · have d3 : vals 3 = _ := hd 3 (by decide +kernel)
              rw [d3]
              go_simp
              refine hK _ _ rfl (Below.refl _ _) (by first | rfl | simp) (fun h => by cases h)
            · go_simp
              refine hK _ _ rfl (Below.refl _ _) (by first | rfl | simp) (fun h => by cases h)
            · have d5 : vals 5 = _ := hd 5 (by decide +kernel)
              rw [d5]
              go_simp
              refine hK _ _ rfl (Below.refl _ _) (by first | rfl | simp) (fun h => by cases h)
            · have d4 : vals 4 = _ := hd 4 (by decide +kernel)
              have d6 : vals 6 = _ := hd 6 (by decide +kernel)
              rw [d4, d6]
              go_simp
              refine hK _ _ rfl (Below.refl _ _) (by first | rfl | simp) (fun h => by cases h)
            · have d7 : vals 7 = _ := hd 7 (by decide +kernel)
              rw [d7]
              go_simp
              refine hK _ _ rfl (Below.refl _ _) (by first | rfl | simp) (fun h => by cases h)
            · go_simp
              refine hK _ _ rfl (Below.refl _ _) (by first | rfl | simp) (fun h => by cases h)
            · have d9 : vals 9 = _ := hd 9 (by decide +kernel)
              rw [d9]
              go_simp
              refine hK _ _ rfl (Below.refl _ _) (by first | rfl | simp) (fun h => by cases h)
            · have d8 : vals 8 = _ := hd 8 (by decide +kernel)
              have d10 : vals 10 = _ := hd 10 (by decide +kernel)
              rw [d8, d10]
              go_simp
              refine hK _ _ rfl (Below.refl _ _) (by first | rfl | simp) (fun h => by cases h)
            · have d11 : vals 11 = _ := hd 11 (by decide +kernel)
              rw [d11]
              go_simp
              refine hK _ _ rfl (Below.refl _ _) (by first | rfl | simp) (fun h => by cases h)
            · have z0 := (h_rp.below hS).c0
              have z1 := (h_rp.below hS).c1
              have z2 := (h_rp.below hS).c2
              go_simp
              refine hK _ _ rfl (Below.refl _ _) (by first | rfl | simp) (fun h => by cases h)
            · go_simp
              go_at_call 18
              with_reducible refine (rWhole_is 1 (by decide) (by decide) _ one_cast _).mono ?_
              rintro e w2 ⟨r0, r1, r2, r3, r4, r5, rfl, f0, bn_r⟩
              refine hK _ _ rfl bn_r ⟨_, _, _, _, _, _, rfl, f0⟩ (fun h => by cases h)
            · have d13 : vals 13 = _ := hd 13 (by decide +kernel)
              obtain ⟨A_14_0, n_14_1, n_14_2, A_14_3, n_14_4, n_14_5, d14, h_14_0⟩ := hd 14 (by decide +kernel)
              rw [d13, d14]
              go_simp
              go_at_call 15
              with_reducible refine (keepRat_c (h_p.below hS) h_14_0 (by decide) (by decide) true (keepQ rfl)).mono ?_
              rintro e w2 ⟨rfl, bn_r⟩
              refine hK _ _ rfl bn_r rfl (fun h => by cases h)
            · have d12 : vals 12 = _ := hd 12 (by decide +kernel)
              have d15 : vals 15 = _ := hd 15 (by decide +kernel)
              rw [d12, d15]
              go_simp
              refine hK _ _ rfl (Below.refl _ _) (by first | rfl | simp) (fun h => by cases h)
            · have d16 : vals 16 = _ := hd 16 (by decide +kernel)
              rw [d16]
              go_simp
              refine hK _ _ rfl (Below.refl _ _) (by first | rfl | simp) (fun h => by cases h)
            · go_simp
              go_at_call 9
              with_reducible refine (wakes_any _).mono ?_
              rintro e w2 ⟨rfl, bn_r⟩
              refine hK _ _ rfl bn_r rfl (fun h => by cases h)
            · have d17 : vals 17 = _ := hd 17 (by decide +kernel)
              have d18 : vals 18 = _ := hd 18 (by decide +kernel)
              rw [d17, d18]
              go_simp
              refine hK _ _ rfl (Below.refl _ _) (by first | rfl | simp) (fun h => by cases h)
          case hfin19 =>
            intro vals wr hS hP hne
            have ez_19 : vals 19 = _ := hP 19 (by decide)
            have HB := Lib.hid (below_two bw hS)
            try dsimp only
            rw [ez_19]
            refine wpAny_ready (rs := [20]) (by kernel_rfl) (by simp) (AllReady.cons rfl (fun KC hK => ?_) AllReady.nil)
            go_simp
            refine hK _ _ ?_
            clear hK KC
            refine wpAny_done (by kernel_rfl) ?_ _
            go_wp2
            go_ret
            exact ⟨rfl, HB.out⟩
    · by_cases kz : v_n % 9 = 0
      · skip
        have S := Lib.hid (show cmpR (some z_a) (some 0) = 0 from hu.trans hs)
        have hn2 : z_a.num = 0 := by rw [hs] at hn; simpa using hn
        obtain ⟨z_x, F0, F1, F2⟩ := signs_facts HBD.out (k := 0) (by decide)
        rw [show cmpQ z_a 0 = 0 from hu.trans hs] at F1
        have F0 : powR (some z_a) 0 = (some z_x, 0) := F0
        have F0 := Lib.hid F0
        have R1 : RowKit.Hid (cmpR (some z_x) (some 0) = 1) := by show _ = _; rw [F1]; unfold signPow; rfl
        obtain ⟨_, z_y, F3, F4⟩ := F2.resolve_left (fun h => by have h1 := h.1; have h2 := h.2.1; omega)
        have F4 := Lib.hid F4
        have F3 : powR (some z_a) 0 = (some z_y, 0) := F3
        have F3 := Lib.hid F3
        clear F1 F2 hn hn2 hs hu hb
        have c_a0 := h_ra.c0
        have c_a1 := h_ra.c1
        have c_a2 := h_ra.c2
        go_wp2_with fail
        clear c_a0 c_a1 c_a2
        refine (pOf_c h_a (by decide) 0 _ _ F0.out).mono ?_
        rintro e w27 ⟨A_x, n_x, c_x, B_x, m_x, d_x, rfl, h_x, bn⟩
        replace h_a := h_a.below bn
        replace h_ra := h_ra.below bn
        replace bw := below_two bw bn
        clear bn
        have h_rx := row3_new w27 27 (.bool (sg (oTop (some z_x)))) (.slice A_x n_x c_x) (.slice B_x m_x d_x)
        have bn := below_new w27 (.cells #[Value.bool (sg (oTop (some z_x))), Value.slice A_x n_x c_x, Value.slice B_x m_x d_x] 27)
        replace h_a := h_a.below bn
        replace h_ra := h_ra.below bn
        replace h_x := h_x.below bn
        replace bw := below_two bw bn
        clear bn
        have c_a0 := h_ra.c0
        have c_a1 := h_ra.c1
        have c_a2 := h_ra.c2
        go_wp2_with fail
        clear c_a0 c_a1 c_a2
        generalize w27.alloc (.cells #[Value.bool (sg (oTop (some z_x))), Value.slice A_x n_x c_x, Value.slice B_x m_x d_x] 27) = w28 at *
        obtain ⟨q_x, eg⟩ : ∃ g, g = w27.heap.size := ⟨_, rfl⟩
        rw [← eg] at h_rx ⊢
        clear eg
        refine (rSign_c h_a (by decide) 0 S.out).mono ?_
        rintro e w29 ⟨rfl, bn⟩
        replace h_a := h_a.below bn
        replace h_ra := h_ra.below bn
        replace h_x := h_x.below bn
        replace h_rx := h_rx.below bn
        replace bw := below_two bw bn
        clear bn
        have c_a0 := h_ra.c0
        have c_a1 := h_ra.c1
        have c_a2 := h_ra.c2
        go_wp2_with fail
        clear c_a0 c_a1 c_a2
        refine (pOf_c h_a (by decide) 0 _ _ F3.out).mono ?_
        rintro e w30 ⟨A_y, n_y, c_y, B_y, m_y, d_y, rfl, h_y, bn⟩
        replace h_a := h_a.below bn
        replace h_ra := h_ra.below bn
        replace h_x := h_x.below bn
        replace h_rx := h_rx.below bn
        replace bw := below_two bw bn
        clear bn
        have h_ry := row3_new w30 27 (.bool (sg (oTop (some z_y)))) (.slice A_y n_y c_y) (.slice B_y m_y d_y)
        have bn := below_new w30 (.cells #[Value.bool (sg (oTop (some z_y))), Value.slice A_y n_y c_y, Value.slice B_y m_y d_y] 27)
        replace h_a := h_a.below bn
        replace h_ra := h_ra.below bn
        replace h_x := h_x.below bn
        replace h_rx := h_rx.below bn
        replace h_y := h_y.below bn
        replace bw := below_two bw bn
        clear bn
        have c_x0 := h_rx.c0
        have c_x1 := h_rx.c1
        have c_x2 := h_rx.c2
        have c_y0 := h_ry.c0
        have c_y1 := h_ry.c1
        have c_y2 := h_ry.c2
        go_wp2_with fail
        clear c_x0 c_x1 c_x2 c_y0 c_y1 c_y2
        generalize w30.alloc (.cells #[Value.bool (sg (oTop (some z_y))), Value.slice A_y n_y c_y, Value.slice B_y m_y d_y] 27) = w31 at *
        obtain ⟨q_y, eg⟩ : ∃ g, g = w30.heap.size := ⟨_, rfl⟩
        rw [← eg] at h_ry ⊢
        clear eg
        refine (rMul_c h_x h_y (by decide) (by decide) _ _ F4.out).mono ?_
        rintro e w32 ⟨A_p, n_p, c_p, B_p, m_p, d_p, rfl, h_p, bn⟩
        replace h_a := h_a.below bn
        replace h_ra := h_ra.below bn
        replace h_x := h_x.below bn
        replace h_rx := h_rx.below bn
        replace h_y := h_y.below bn
        replace h_ry := h_ry.below bn
        replace bw := below_two bw bn
        clear bn
        have h_rp := row3_new w32 27 (.bool (sg (oTop (some 1)))) (.slice A_p n_p c_p) (.slice B_p m_p d_p)
        have bn := below_new w32 (.cells #[Value.bool (sg (oTop (some 1))), Value.slice A_p n_p c_p, Value.slice B_p m_p d_p] 27)
        replace h_a := h_a.below bn
        replace h_ra := h_ra.below bn
        replace h_x := h_x.below bn
        replace h_rx := h_rx.below bn
        replace h_y := h_y.below bn
        replace h_ry := h_ry.below bn
        replace h_p := h_p.below bn
        replace bw := below_two bw bn
        clear bn
        go_wp2
        generalize w32.alloc (.cells #[Value.bool (sg (oTop (some 1))), Value.slice A_p n_p c_p, Value.slice B_p m_p d_p] 27) = w33 at *
        obtain ⟨q_p, eg⟩ : ∃ g, g = w32.heap.size := ⟨_, rfl⟩
        rw [← eg] at h_rp ⊢
        clear eg
        generalize w33 = wS at *
        refine region_freeg 20 1 [82, 83, 84, 85, 86, 87, 88, 89, 90, 91, 92, 93, 94, 95, 96, 97, 98, 99, 100, 101] ?aF20 (fun wx => Below wS.heap.size wS wx) (fun k vv wx => match k with
            | 0 => vv = .agg #[.bool (sg (oTop (some z_x))), .slice A_x n_x c_x, .slice B_x m_x d_x]
            | 1 => vv = .int .i64 1
            | 2 => vv = .int .i64 1
            | 3 => vv = .bool true
            | 4 => vv = .bool true
            | 5 => vv = .int .i64 0
            | 6 => vv = .bool true
            | 7 => vv = .bool true
            | 8 => vv = .bool true
            | 9 => vv = .int .i64 0
            | 10 => vv = .bool true
            | 11 => vv = .bool true
            | 12 => vv = .bool true
            | 13 => vv = .agg #[.bool (sg (oTop (some 1))), .slice A_p n_p c_p, .slice B_p m_p d_p]
            | 14 => ∃ (e0 : Option Addr) (e1 : Nat) (e2 : Nat) (e3 : Option Addr) (e4 : Nat) (e5 : Nat), vv = .agg #[.bool (sg (oTop (some 1))), .slice e0 e1 e2, .slice e3 e4 e5] ∧ QT wx e0 e1 e2 e3 e4 e5 (some 1)
            | 15 => vv = .bool true
            | 16 => vv = .bool true
            | 17 => vv = .bool true
            | 18 => vv = .bool true
            | _ => vv = .bool true)
          (fun k => false) (by kernel_rfl) ?haF20 rfl (by kernel_rfl) (by kernel_rfl) (fun _ _ _ _ _ h => h) ?hSb20 ?hPb20 ?hS20 ?hop20 ?hfin20
        case haF20 =>
          intro vals
          simp only [fillAll, List.getElem?_cons_zero, List.getElem?_cons_succ, Act.put, List.setIfInBounds_toArray, List.set_cons_zero, List.set_cons_succ]
          exact rfl
        case hSb20 => exact fun wx w2 hb hS => below_two hS hb
        case hPb20 =>
          intro k v wa wb hb h
          match k, h with
          | 0, h => exact h
          | 1, h => exact h
          | 2, h => exact h
          | 3, h => exact h
          | 4, h => exact h
          | 5, h => exact h
          | 6, h => exact h
          | 7, h => exact h
          | 8, h => exact h
          | 9, h => exact h
          | 10, h => exact h
          | 11, h => exact h
          | 12, h => exact h
          | 13, h => exact h
          | 14, ⟨e0, e1, e2, e3, e4, e5, h1, g0⟩ => exact ⟨e0, e1, e2, e3, e4, e5, h1, g0.below hb⟩
          | 15, h => exact h
          | 16, h => exact h
          | 17, h => exact h
          | 18, h => exact h
          | _ + 19, h => exact h
        case hS20 => exact (Below.refl _ _).drew
        case hop20 =>
          refine .cons (k := 0) (.plain rfl ?_) (.cons (k := 1) (.plain rfl ?_) (.cons (k := 2) (.plain rfl ?_) (.cons (k := 3) (.plain rfl ?_) (.cons (k := 4) (.plain rfl ?_) (.cons (k := 5) (.yes (fun vals wr hS hd g b e => by cases e; exact hd 4 (by decide +kernel)) ?_) (.cons (k := 6) (.yes (fun vals wr hS hd g b e => by cases e; exact hd 4 (by decide +kernel)) ?_) (.cons (k := 7) (.plain rfl ?_) (.cons (k := 8) (.plain rfl ?_) (.cons (k := 9) (.yes (fun vals wr hS hd g b e => by cases e; exact hd 8 (by decide +kernel)) ?_) (.cons (k := 10) (.yes (fun vals wr hS hd g b e => by cases e; exact hd 8 (by decide +kernel)) ?_) (.cons (k := 11) (.plain rfl ?_) (.cons (k := 12) (.plain rfl ?_) (.cons (k := 13) (.yes (fun vals wr hS hd g b e => by cases e; exact hd 12 (by decide +kernel)) ?_) (.cons (k := 14) (.yes (fun vals wr hS hd g b e => by cases e; exact hd 12 (by decide +kernel)) ?_) (.cons (k := 15) (.yes (fun vals wr hS hd g b e => by cases e; exact hd 12 (by decide +kernel)) ?_) (.cons (k := 16) (.plain rfl ?_) (.cons (k := 17) (.plain rfl ?_) (.cons (k := 18) (.yes (fun vals wr hS hd g b e => by cases e; exact hd 17 (by decide +kernel)) ?_) (.cons (k := 19) (.plain rfl ?_) (.nil))))))))))))))))))))
          all_goals intro vals wr hS hd KC hK
          all_goals (show Oper.wp _ _ _ _ _ _; dsimp only)
          · have z0 := (h_rx.below hS).c0
            have z1 := (h_rx.below hS).c1
            have z2 := (h_rx.below hS).c2
            go_simp
            refine hK _ _ rfl (Below.refl _ _) (by first | rfl | simp) (fun h => by cases h)
          · have d0 : vals 0 = _ := hd 0 (by decide +kernel)
            rw [d0]
            go_simp
            go_at_call 17
            with_reducible refine (rSign_c (h_x.below hS) (by decide) 1 R1.out).mono ?_
            rintro e w2 ⟨rfl, bn_r⟩
            refine hK _ _ rfl bn_r rfl (fun h => by cases h)
          · go_simp
            refine hK _ _ rfl (Below.refl _ _) (by first | rfl | simp) (fun h => by cases h)
          · have d1 : vals 1 = _ := hd 1 (by decide +kernel)
            have d2 : vals 2 = _ := hd 2 (by decide +kernel)
            rw [d1, d2]
            go_simp
            refine hK _ _ rfl (Below.refl _ _) (by first | rfl | simp) (fun h => by cases h)
          · have d3 : vals 3 = _ := hd 3 (by decide +kernel)
            rw [d3]
            go_simp
            refine hK _ _ rfl (Below.refl _ _) (by first | rfl | simp) (fun h => by cases h)
          · go_simp
            refine hK _ _ rfl (Below.refl _ _) (by first | rfl | simp) (fun h => by cases h)
          · have d5 : vals 5 = _ := hd 5 (by decide +kernel)
            rw [d5]
            go_simp
            refine hK _ _ rfl (Below.refl _ _) (by first | rfl | simp) (fun h => by cases h)
          · have d4 : vals 4 = _ := hd 4 (by decide +kernel)
            have d6 : vals 6 = _ := hd 6 (by decide +kernel)
            rw [d4, d6]
            go_simp
            refine hK _ _ rfl (Below.refl _ _) (by first | rfl | simp) (fun h => by cases h)
          · have d7 : vals 7 = _ := hd 7 (by decide +kernel)
            rw [d7]
            go_simp
            refine hK _ _ rfl (Below.refl _ _) (by first | rfl | simp) (fun h => by cases h)
          · go_simp
            refine hK _ _ rfl (Below.refl _ _) (by first | rfl | simp) (fun h => by cases h)
          · have d9 : vals 9 = _ := hd 9 (by decide +kernel)
            rw [d9]
            go_simp
            refine hK _ _ rfl (Below.refl _ _) (by first | rfl | simp) (fun h => by cases h)
          · have d8 : vals 8 = _ := hd 8 (by decide +kernel)
            have d10 : vals 10 = _ := hd 10 (by decide +kernel)
            rw [d8, d10]
            go_simp
            refine hK _ _ rfl (Below.refl _ _) (by first | rfl | simp) (fun h => by cases h)
          · have d11 : vals 11 = _ := hd 11 (by decide +kernel)
            rw [d11]
            go_simp
            refine hK _ _ rfl (Below.refl _ _) (by first | rfl | simp) (fun h => by cases h)
          · have z0 := (h_rp.below hS).c0
            have z1 := (h_rp.below hS).c1
            have z2 := (h_rp.below hS).c2
            go_simp
            refine hK _ _ rfl (Below.refl _ _) (by first | rfl | simp) (fun h => by cases h)
          · go_simp
            go_at_call 18
            with_reducible refine (rWhole_is 1 (by decide) (by decide) _ one_cast _).mono ?_
            rintro e w2 ⟨r0, r1, r2, r3, r4, r5, rfl, f0, bn_r⟩
            refine hK _ _ rfl bn_r ⟨_, _, _, _, _, _, rfl, f0⟩ (fun h => by cases h)
          · have d13 : vals 13 = _ := hd 13 (by decide +kernel)
            obtain ⟨A_14_0, n_14_1, n_14_2, A_14_3, n_14_4, n_14_5, d14, h_14_0⟩ := hd 14 (by decide +kernel)
            rw [d13, d14]
            go_simp
            go_at_call 15
            with_reducible refine (keepRat_c (h_p.below hS) h_14_0 (by decide) (by decide) true (keepQ rfl)).mono ?_
            rintro e w2 ⟨rfl, bn_r⟩
            refine hK _ _ rfl bn_r rfl (fun h => by cases h)
          · have d12 : vals 12 = _ := hd 12 (by decide +kernel)
            have d15 : vals 15 = _ := hd 15 (by decide +kernel)
            rw [d12, d15]
            go_simp
            refine hK _ _ rfl (Below.refl _ _) (by first | rfl | simp) (fun h => by cases h)
          · have d16 : vals 16 = _ := hd 16 (by decide +kernel)
            rw [d16]
            go_simp
            refine hK _ _ rfl (Below.refl _ _) (by first | rfl | simp) (fun h => by cases h)
          · go_simp
            go_at_call 9
            with_reducible refine (wakes_any _).mono ?_
            rintro e w2 ⟨rfl, bn_r⟩
            refine hK _ _ rfl bn_r rfl (fun h => by cases h)
          · have d17 : vals 17 = _ := hd 17 (by decide +kernel)
            have d18 : vals 18 = _ := hd 18 (by decide +kernel)
            rw [d17, d18]
            go_simp
            refine hK _ _ rfl (Below.refl _ _) (by first | rfl | simp) (fun h => by cases h)
        case hfin20 =>
          intro vals wr hS hP hne
          have ez_19 : vals 19 = _ := hP 19 (by decide)
          have HB := Lib.hid (below_two bw hS)
          try dsimp only
          rw [ez_19]
          refine wpAny_ready (rs := [20]) (by kernel_rfl) (by simp) (AllReady.cons rfl (fun KC hK => ?_) AllReady.nil)
          go_simp
          refine hK _ _ ?_
          clear hK KC
          refine wpAny_done (by kernel_rfl) ?_ _
          go_wp2
          go_ret
          exact ⟨rfl, HB.out⟩
      · obtain ⟨K, hK⟩ : ∃ K : Nat, v_n % 9 = (K : Int) := ⟨(v_n % 9).toNat, by omega⟩
        have K0 : (1 : Int) ≤ (K : Int) := by omega
        have K1 : (K : Int) ≤ 8 := by omega
        clear kz
        by_cases hpar : K % 2 = 0
        · skip
          have S := Lib.hid (show cmpR (some z_a) (some 0) = 0 from hu.trans hs)
          have hn2 : z_a.num = 0 := by rw [hs] at hn; simpa using hn
          obtain ⟨z_x, F0, F1, F2⟩ := signs_facts HBD.out (k := K) (by omega)
          rw [show cmpQ z_a 0 = 0 from hu.trans hs] at F1
          have F0 := Lib.hid F0
          have R1 : RowKit.Hid (cmpR (some z_x) (some 0) = 0) := by show _ = _; rw [F1]; unfold signPow; rw [if_neg (by omega), if_pos hpar]; rfl
          obtain ⟨_, _, F3⟩ := F2.resolve_right (fun h => by have := h.1; omega)
          have F3 := Lib.hid F3
          clear F1 F2 hn hn2 hs hu hb
          have hr : ((K : Int) % 2 == 0) = true := by rw [beq_iff_eq]; omega
          have hk0 : ((K : Int) == 0) = false := by rw [beq_eq_false_iff_ne]; omega
          clear hpar
          have c_a0 := h_ra.c0
          have c_a1 := h_ra.c1
          have c_a2 := h_ra.c2
          go_wp2_with fail
          clear c_a0 c_a1 c_a2
          refine (pOf_c h_a (by decide) (K : Int) _ _ F0.out).mono ?_
          rintro e w34 ⟨A_x, n_x, c_x, B_x, m_x, d_x, rfl, h_x, bn⟩
          replace h_a := h_a.below bn
          replace h_ra := h_ra.below bn
          replace bw := below_two bw bn
          clear bn
          have h_rx := row3_new w34 27 (.bool (sg (oTop (some z_x)))) (.slice A_x n_x c_x) (.slice B_x m_x d_x)
          have bn := below_new w34 (.cells #[Value.bool (sg (oTop (some z_x))), Value.slice A_x n_x c_x, Value.slice B_x m_x d_x] 27)
          replace h_a := h_a.below bn
          replace h_ra := h_ra.below bn
          replace h_x := h_x.below bn
          replace bw := below_two bw bn
          clear bn
          have c_a0 := h_ra.c0
          have c_a1 := h_ra.c1
          have c_a2 := h_ra.c2
          go_wp2_with fail
          clear c_a0 c_a1 c_a2
          generalize w34.alloc (.cells #[Value.bool (sg (oTop (some z_x))), Value.slice A_x n_x c_x, Value.slice B_x m_x d_x] 27) = w35 at *
          obtain ⟨q_x, eg⟩ : ∃ g, g = w34.heap.size := ⟨_, rfl⟩
          rw [← eg] at h_rx ⊢
          clear eg
          refine (rSign_c h_a (by decide) 0 S.out).mono ?_
          rintro e w36 ⟨rfl, bn⟩
          replace h_a := h_a.below bn
          replace h_ra := h_ra.below bn
          replace h_x := h_x.below bn
          replace h_rx := h_rx.below bn
          replace bw := below_two bw bn
          clear bn
          have c_a0 := h_ra.c0
          have c_a1 := h_ra.c1
          have c_a2 := h_ra.c2
          go_wp2_with fail
          clear c_a0 c_a1 c_a2
          refine (pOf_c h_a (by decide) (-(K : Int)) _ _ F3.out).mono ?_
          rintro e w37 ⟨A_y, n_y, c_y, B_y, m_y, d_y, rfl, h_y, bn⟩
          replace h_a := h_a.below bn
          replace h_ra := h_ra.below bn
          replace h_x := h_x.below bn
          replace h_rx := h_rx.below bn
          replace bw := below_two bw bn
          clear bn
          have h_ry := row3_new w37 27 (.bool (sg (oTop none))) (.slice A_y n_y c_y) (.slice B_y m_y d_y)
          have bn := below_new w37 (.cells #[Value.bool (sg (oTop none)), Value.slice A_y n_y c_y, Value.slice B_y m_y d_y] 27)
          replace h_a := h_a.below bn
          replace h_ra := h_ra.below bn
          replace h_x := h_x.below bn
          replace h_rx := h_rx.below bn
          replace h_y := h_y.below bn
          replace bw := below_two bw bn
          clear bn
          have c_x0 := h_rx.c0
          have c_x1 := h_rx.c1
          have c_x2 := h_rx.c2
          go_wp2_with fail
          clear c_x0 c_x1 c_x2
          generalize w37.alloc (.cells #[Value.bool (sg (oTop none)), Value.slice A_y n_y c_y, Value.slice B_y m_y d_y] 27) = w38 at *
          obtain ⟨q_y, eg⟩ : ∃ g, g = w37.heap.size := ⟨_, rfl⟩
          rw [← eg] at h_ry ⊢
          clear eg
          refine (rSign_c h_x (by decide) 0 R1.out).mono ?_
          rintro e w39 ⟨rfl, bn⟩
          replace h_a := h_a.below bn
          replace h_ra := h_ra.below bn
          replace h_x := h_x.below bn
          replace h_rx := h_rx.below bn
          replace h_y := h_y.below bn
          replace h_ry := h_ry.below bn
          replace bw := below_two bw bn
          clear bn
          go_wp2_with fail
          refine (wakes_any _).mono ?_
          rintro e w40 ⟨rfl, bn⟩
          replace h_a := h_a.below bn
          replace h_ra := h_ra.below bn
          replace h_x := h_x.below bn
          replace h_rx := h_rx.below bn
          replace h_y := h_y.below bn
          replace h_ry := h_ry.below bn
          replace bw := below_two bw bn
          clear bn
          go_wp2
          go_ret
          exact ⟨rfl, bw⟩
        · skip
          have S := Lib.hid (show cmpR (some z_a) (some 0) = 0 from hu.trans hs)
          have hn2 : z_a.num = 0 := by rw [hs] at hn; simpa using hn
          obtain ⟨z_x, F0, F1, F2⟩ := signs_facts HBD.out (k := K) (by omega)
          rw [show cmpQ z_a 0 = 0 from hu.trans hs] at F1
          have F0 := Lib.hid F0
          have R1 : RowKit.Hid (cmpR (some z_x) (some 0) = 0) := by show _ = _; rw [F1]; unfold signPow; rw [if_neg (by omega), if_neg (by omega)]
          obtain ⟨_, _, F3⟩ := F2.resolve_right (fun h => by have := h.1; omega)
          have F3 := Lib.hid F3
          clear F1 F2 hn hn2 hs hu hb
          have hr : ((K : Int) % 2 == 0) = false := by rw [beq_eq_false_iff_ne]; omega
          have hk0 : ((K : Int) == 0) = false := by rw [beq_eq_false_iff_ne]; omega
          clear hpar
          have c_a0 := h_ra.c0
          have c_a1 := h_ra.c1
          have c_a2 := h_ra.c2
          go_wp2_with fail
          clear c_a0 c_a1 c_a2
          refine (pOf_c h_a (by decide) (K : Int) _ _ F0.out).mono ?_
          rintro e w41 ⟨A_x, n_x, c_x, B_x, m_x, d_x, rfl, h_x, bn⟩
          replace h_a := h_a.below bn
          replace h_ra := h_ra.below bn
          replace bw := below_two bw bn
          clear bn
          have h_rx := row3_new w41 27 (.bool (sg (oTop (some z_x)))) (.slice A_x n_x c_x) (.slice B_x m_x d_x)
          have bn := below_new w41 (.cells #[Value.bool (sg (oTop (some z_x))), Value.slice A_x n_x c_x, Value.slice B_x m_x d_x] 27)
          replace h_a := h_a.below bn
          replace h_ra := h_ra.below bn
          replace h_x := h_x.below bn
          replace bw := below_two bw bn
          clear bn
          have c_a0 := h_ra.c0
          have c_a1 := h_ra.c1
          have c_a2 := h_ra.c2
          go_wp2_with fail
          clear c_a0 c_a1 c_a2
          generalize w41.alloc (.cells #[Value.bool (sg (oTop (some z_x))), Value.slice A_x n_x c_x, Value.slice B_x m_x d_x] 27) = w42 at *
          obtain ⟨q_x, eg⟩ : ∃ g, g = w41.heap.size := ⟨_, rfl⟩
          rw [← eg] at h_rx ⊢
          clear eg
          refine (rSign_c h_a (by decide) 0 S.out).mono ?_
          rintro e w43 ⟨rfl, bn⟩
          replace h_a := h_a.below bn
          replace h_ra := h_ra.below bn
          replace h_x := h_x.below bn
          replace h_rx := h_rx.below bn
          replace bw := below_two bw bn
          clear bn
          have c_a0 := h_ra.c0
          have c_a1 := h_ra.c1
          have c_a2 := h_ra.c2
          go_wp2_with fail
          clear c_a0 c_a1 c_a2
          refine (pOf_c h_a (by decide) (-(K : Int)) _ _ F3.out).mono ?_
          rintro e w44 ⟨A_y, n_y, c_y, B_y, m_y, d_y, rfl, h_y, bn⟩
          replace h_a := h_a.below bn
          replace h_ra := h_ra.below bn
          replace h_x := h_x.below bn
          replace h_rx := h_rx.below bn
          replace bw := below_two bw bn
          clear bn
          have h_ry := row3_new w44 27 (.bool (sg (oTop none))) (.slice A_y n_y c_y) (.slice B_y m_y d_y)
          have bn := below_new w44 (.cells #[Value.bool (sg (oTop none)), Value.slice A_y n_y c_y, Value.slice B_y m_y d_y] 27)
          replace h_a := h_a.below bn
          replace h_ra := h_ra.below bn
          replace h_x := h_x.below bn
          replace h_rx := h_rx.below bn
          replace h_y := h_y.below bn
          replace bw := below_two bw bn
          clear bn
          have c_x0 := h_rx.c0
          have c_x1 := h_rx.c1
          have c_x2 := h_rx.c2
          go_wp2_with fail
          clear c_x0 c_x1 c_x2
          generalize w44.alloc (.cells #[Value.bool (sg (oTop none)), Value.slice A_y n_y c_y, Value.slice B_y m_y d_y] 27) = w45 at *
          obtain ⟨q_y, eg⟩ : ∃ g, g = w44.heap.size := ⟨_, rfl⟩
          rw [← eg] at h_ry ⊢
          clear eg
          refine (rSign_c h_x (by decide) 0 R1.out).mono ?_
          rintro e w46 ⟨rfl, bn⟩
          replace h_a := h_a.below bn
          replace h_ra := h_ra.below bn
          replace h_x := h_x.below bn
          replace h_rx := h_rx.below bn
          replace h_y := h_y.below bn
          replace h_ry := h_ry.below bn
          replace bw := below_two bw bn
          clear bn
          go_wp2_with fail
          refine (wakes_any _).mono ?_
          rintro e w47 ⟨rfl, bn⟩
          replace h_a := h_a.below bn
          replace h_ra := h_ra.below bn
          replace h_x := h_x.below bn
          replace h_rx := h_rx.below bn
          replace h_y := h_y.below bn
          replace h_ry := h_ry.below bn
          replace bw := below_two bw bn
          clear bn
          go_wp2
          go_ret
          exact ⟨rfl, bw⟩
    · by_cases kz : v_n % 9 = 0
      · skip
        have S := Lib.hid (show cmpR (some z_a) (some 0) = 1 from hu.trans hs)
        have hn2 : z_a.num ≠ 0 := by rw [hs] at hn; simpa using hn
        obtain ⟨z_x, F0, F1, F2⟩ := signs_facts HBD.out (k := 0) (by decide)
        rw [show cmpQ z_a 0 = 1 from hu.trans hs] at F1
        have F0 : powR (some z_a) 0 = (some z_x, 0) := F0
        have F0 := Lib.hid F0
        have R1 : RowKit.Hid (cmpR (some z_x) (some 0) = 1) := by show _ = _; rw [F1]; unfold signPow; rfl
        obtain ⟨_, z_y, F3, F4⟩ := F2.resolve_left (fun h => by have h1 := h.1; have h2 := h.2.1; omega)
        have F4 := Lib.hid F4
        have F3 : powR (some z_a) 0 = (some z_y, 0) := F3
        have F3 := Lib.hid F3
        clear F1 F2 hn hn2 hs hu hb
        have c_a0 := h_ra.c0
        have c_a1 := h_ra.c1
        have c_a2 := h_ra.c2
        go_wp2_with fail
        clear c_a0 c_a1 c_a2
        refine (pOf_c h_a (by decide) 0 _ _ F0.out).mono ?_
        rintro e w48 ⟨A_x, n_x, c_x, B_x, m_x, d_x, rfl, h_x, bn⟩
        replace h_a := h_a.below bn
        replace h_ra := h_ra.below bn
        replace bw := below_two bw bn
        clear bn
        have h_rx := row3_new w48 27 (.bool (sg (oTop (some z_x)))) (.slice A_x n_x c_x) (.slice B_x m_x d_x)
        have bn := below_new w48 (.cells #[Value.bool (sg (oTop (some z_x))), Value.slice A_x n_x c_x, Value.slice B_x m_x d_x] 27)
        replace h_a := h_a.below bn
        replace h_ra := h_ra.below bn
        replace h_x := h_x.below bn
        replace bw := below_two bw bn
        clear bn
        have c_a0 := h_ra.c0
        have c_a1 := h_ra.c1
        have c_a2 := h_ra.c2
        go_wp2_with fail
        clear c_a0 c_a1 c_a2
        generalize w48.alloc (.cells #[Value.bool (sg (oTop (some z_x))), Value.slice A_x n_x c_x, Value.slice B_x m_x d_x] 27) = w49 at *
        obtain ⟨q_x, eg⟩ : ∃ g, g = w48.heap.size := ⟨_, rfl⟩
        rw [← eg] at h_rx ⊢
        clear eg
        refine (rSign_c h_a (by decide) 1 S.out).mono ?_
        rintro e w50 ⟨rfl, bn⟩
        replace h_a := h_a.below bn
        replace h_ra := h_ra.below bn
        replace h_x := h_x.below bn
        replace h_rx := h_rx.below bn
        replace bw := below_two bw bn
        clear bn
        have c_a0 := h_ra.c0
        have c_a1 := h_ra.c1
        have c_a2 := h_ra.c2
        go_wp2_with fail
        clear c_a0 c_a1 c_a2
        refine (pOf_c h_a (by decide) 0 _ _ F3.out).mono ?_
        rintro e w51 ⟨A_y, n_y, c_y, B_y, m_y, d_y, rfl, h_y, bn⟩
        replace h_a := h_a.below bn
        replace h_ra := h_ra.below bn
        replace h_x := h_x.below bn
        replace h_rx := h_rx.below bn
        replace bw := below_two bw bn
        clear bn
        have h_ry := row3_new w51 27 (.bool (sg (oTop (some z_y)))) (.slice A_y n_y c_y) (.slice B_y m_y d_y)
        have bn := below_new w51 (.cells #[Value.bool (sg (oTop (some z_y))), Value.slice A_y n_y c_y, Value.slice B_y m_y d_y] 27)
        replace h_a := h_a.below bn
        replace h_ra := h_ra.below bn
        replace h_x := h_x.below bn
        replace h_rx := h_rx.below bn
        replace h_y := h_y.below bn
        replace bw := below_two bw bn
        clear bn
        have c_x0 := h_rx.c0
        have c_x1 := h_rx.c1
        have c_x2 := h_rx.c2
        have c_y0 := h_ry.c0
        have c_y1 := h_ry.c1
        have c_y2 := h_ry.c2
        go_wp2_with fail
        clear c_x0 c_x1 c_x2 c_y0 c_y1 c_y2
        generalize w51.alloc (.cells #[Value.bool (sg (oTop (some z_y))), Value.slice A_y n_y c_y, Value.slice B_y m_y d_y] 27) = w52 at *
        obtain ⟨q_y, eg⟩ : ∃ g, g = w51.heap.size := ⟨_, rfl⟩
        rw [← eg] at h_ry ⊢
        clear eg
        refine (rMul_c h_x h_y (by decide) (by decide) _ _ F4.out).mono ?_
        rintro e w53 ⟨A_p, n_p, c_p, B_p, m_p, d_p, rfl, h_p, bn⟩
        replace h_a := h_a.below bn
        replace h_ra := h_ra.below bn
        replace h_x := h_x.below bn
        replace h_rx := h_rx.below bn
        replace h_y := h_y.below bn
        replace h_ry := h_ry.below bn
        replace bw := below_two bw bn
        clear bn
        have h_rp := row3_new w53 27 (.bool (sg (oTop (some 1)))) (.slice A_p n_p c_p) (.slice B_p m_p d_p)
        have bn := below_new w53 (.cells #[Value.bool (sg (oTop (some 1))), Value.slice A_p n_p c_p, Value.slice B_p m_p d_p] 27)
        replace h_a := h_a.below bn
        replace h_ra := h_ra.below bn
        replace h_x := h_x.below bn
        replace h_rx := h_rx.below bn
        replace h_y := h_y.below bn
        replace h_ry := h_ry.below bn
        replace h_p := h_p.below bn
        replace bw := below_two bw bn
        clear bn
        go_wp2
        generalize w53.alloc (.cells #[Value.bool (sg (oTop (some 1))), Value.slice A_p n_p c_p, Value.slice B_p m_p d_p] 27) = w54 at *
        obtain ⟨q_p, eg⟩ : ∃ g, g = w53.heap.size := ⟨_, rfl⟩
        rw [← eg] at h_rp ⊢
        clear eg
        generalize w54 = wS at *
        refine region_freeg 20 1 [82, 83, 84, 85, 86, 87, 88, 89, 90, 91, 92, 93, 94, 95, 96, 97, 98, 99, 100, 101] ?aF21 (fun wx => Below wS.heap.size wS wx) (fun k vv wx => match k with
            | 0 => vv = .agg #[.bool (sg (oTop (some z_x))), .slice A_x n_x c_x, .slice B_x m_x d_x]
            | 1 => vv = .int .i64 1
            | 2 => vv = .int .i64 1
            | 3 => vv = .bool true
            | 4 => vv = .bool true
            | 5 => vv = .int .i64 0
            | 6 => vv = .bool true
            | 7 => vv = .bool true
            | 8 => vv = .bool true
            | 9 => vv = .int .i64 0
            | 10 => vv = .bool true
            | 11 => vv = .bool true
            | 12 => vv = .bool true
            | 13 => vv = .agg #[.bool (sg (oTop (some 1))), .slice A_p n_p c_p, .slice B_p m_p d_p]
            | 14 => ∃ (e0 : Option Addr) (e1 : Nat) (e2 : Nat) (e3 : Option Addr) (e4 : Nat) (e5 : Nat), vv = .agg #[.bool (sg (oTop (some 1))), .slice e0 e1 e2, .slice e3 e4 e5] ∧ QT wx e0 e1 e2 e3 e4 e5 (some 1)
            | 15 => vv = .bool true
            | 16 => vv = .bool true
            | 17 => vv = .bool true
            | 18 => vv = .bool true
            | _ => vv = .bool true)
          (fun k => false) (by kernel_rfl) ?haF21 rfl (by kernel_rfl) (by kernel_rfl) (fun _ _ _ _ _ h => h) ?hSb21 ?hPb21 ?hS21 ?hop21 ?hfin21
        case haF21 =>
          intro vals
          simp only [fillAll, List.getElem?_cons_zero, List.getElem?_cons_succ, Act.put, List.setIfInBounds_toArray, List.set_cons_zero, List.set_cons_succ]
          exact rfl
        case hSb21 => exact fun wx w2 hb hS => below_two hS hb
        case hPb21 =>
          intro k v wa wb hb h
          match k, h with
          | 0, h => exact h
          | 1, h => exact h
          | 2, h => exact h
          | 3, h => exact h
          | 4, h => exact h
          | 5, h => exact h
          | 6, h => exact h
          | 7, h => exact h
          | 8, h => exact h
          | 9, h => exact h
          | 10, h => exact h
          | 11, h => exact h
          | 12, h => exact h
          | 13, h => exact h
          | 14, ⟨e0, e1, e2, e3, e4, e5, h1, g0⟩ => exact ⟨e0, e1, e2, e3, e4, e5, h1, g0.below hb⟩
          | 15, h => exact h
          | 16, h => exact h
          | 17, h => exact h
          | 18, h => exact h
          | _ + 19, h => exact h
        case hS21 => exact (Below.refl _ _).drew
        case hop21 =>
          refine .cons (k := 0) (.plain rfl ?_) (.cons (k := 1) (.plain rfl ?_) (.cons (k := 2) (.plain rfl ?_) (.cons (k := 3) (.plain rfl ?_) (.cons (k := 4) (.plain rfl ?_) (.cons (k := 5) (.yes (fun vals wr hS hd g b e => by cases e; exact hd 4 (by decide +kernel)) ?_) (.cons (k := 6) (.yes (fun vals wr hS hd g b e => by cases e; exact hd 4 (by decide +kernel)) ?_) (.cons (k := 7) (.plain rfl ?_) (.cons (k := 8) (.plain rfl ?_) (.cons (k := 9) (.yes (fun vals wr hS hd g b e => by cases e; exact hd 8 (by decide +kernel)) ?_) (.cons (k := 10) (.yes (fun vals wr hS hd g b e => by cases e; exact hd 8 (by decide +kernel)) ?_) (.cons (k := 11) (.plain rfl ?_) (.cons (k := 12) (.plain rfl ?_) (.cons (k := 13) (.yes (fun vals wr hS hd g b e => by cases e; exact hd 12 (by decide +kernel)) ?_) (.cons (k := 14) (.yes (fun vals wr hS hd g b e => by cases e; exact hd 12 (by decide +kernel)) ?_) (.cons (k := 15) (.yes (fun vals wr hS hd g b e => by cases e; exact hd 12 (by decide +kernel)) ?_) (.cons (k := 16) (.plain rfl ?_) (.cons (k := 17) (.plain rfl ?_) (.cons (k := 18) (.yes (fun vals wr hS hd g b e => by cases e; exact hd 17 (by decide +kernel)) ?_) (.cons (k := 19) (.plain rfl ?_) (.nil))))))))))))))))))))
          all_goals intro vals wr hS hd KC hK
          all_goals (show Oper.wp _ _ _ _ _ _; dsimp only)
          · have z0 := (h_rx.below hS).c0
            have z1 := (h_rx.below hS).c1
            have z2 := (h_rx.below hS).c2
            go_simp
            refine hK _ _ rfl (Below.refl _ _) (by first | rfl | simp) (fun h => by cases h)
          · have d0 : vals 0 = _ := hd 0 (by decide +kernel)
            rw [d0]
            go_simp
            go_at_call 17
            with_reducible refine (rSign_c (h_x.below hS) (by decide) 1 R1.out).mono ?_
            rintro e w2 ⟨rfl, bn_r⟩
            refine hK _ _ rfl bn_r rfl (fun h => by cases h)
          · go_simp
            refine hK _ _ rfl (Below.refl _ _) (by first | rfl | simp) (fun h => by cases h)
          · have d1 : vals 1 = _ := hd 1 (by decide +kernel)
            have d2 : vals 2 = _ := hd 2 (by decide +kernel)
            rw [d1, d2]
            go_simp
            refine hK _ _ rfl (Below.refl _ _) (by first | rfl | simp) (fun h => by cases h)
          · have d3 : vals 3 = _ := hd 3 (by decide +kernel)
            rw [d3]
            go_simp
            refine hK _ _ rfl (Below.refl _ _) (by first | rfl | simp) (fun h => by cases h)
          · go_simp
            refine hK _ _ rfl (Below.refl _ _) (by first | rfl | simp) (fun h => by cases h)
          · have d5 : vals 5 = _ := hd 5 (by decide +kernel)
            rw [d5]
            go_simp
            refine hK _ _ rfl (Below.refl _ _) (by first | rfl | simp) (fun h => by cases h)
          · have d4 : vals 4 = _ := hd 4 (by decide +kernel)
            have d6 : vals 6 = _ := hd 6 (by decide +kernel)
            rw [d4, d6]
            go_simp
            refine hK _ _ rfl (Below.refl _ _) (by first | rfl | simp) (fun h => by cases h)
          · have d7 : vals 7 = _ := hd 7 (by decide +kernel)
            rw [d7]
            go_simp
            refine hK _ _ rfl (Below.refl _ _) (by first | rfl | simp) (fun h => by cases h)
          · go_simp
            refine hK _ _ rfl (Below.refl _ _) (by first | rfl | simp) (fun h => by cases h)
          · have d9 : vals 9 = _ := hd 9 (by decide +kernel)
            rw [d9]
            go_simp
            refine hK _ _ rfl (Below.refl _ _) (by first | rfl | simp) (fun h => by cases h)
          · have d8 : vals 8 = _ := hd 8 (by decide +kernel)
            have d10 : vals 10 = _ := hd 10 (by decide +kernel)
            rw [d8, d10]
            go_simp
            refine hK _ _ rfl (Below.refl _ _) (by first | rfl | simp) (fun h => by cases h)
          · have d11 : vals 11 = _ := hd 11 (by decide +kernel)
            rw [d11]
            go_simp
            refine hK _ _ rfl (Below.refl _ _) (by first | rfl | simp) (fun h => by cases h)
          · have z0 := (h_rp.below hS).c0
            have z1 := (h_rp.below hS).c1
            have z2 := (h_rp.below hS).c2
            go_simp
            refine hK _ _ rfl (Below.refl _ _) (by first | rfl | simp) (fun h => by cases h)
          · go_simp
            go_at_call 18
            with_reducible refine (rWhole_is 1 (by decide) (by decide) _ one_cast _).mono ?_
            rintro e w2 ⟨r0, r1, r2, r3, r4, r5, rfl, f0, bn_r⟩
            refine hK _ _ rfl bn_r ⟨_, _, _, _, _, _, rfl, f0⟩ (fun h => by cases h)
          · have d13 : vals 13 = _ := hd 13 (by decide +kernel)
            obtain ⟨A_14_0, n_14_1, n_14_2, A_14_3, n_14_4, n_14_5, d14, h_14_0⟩ := hd 14 (by decide +kernel)
            rw [d13, d14]
            go_simp
            go_at_call 15
            with_reducible refine (keepRat_c (h_p.below hS) h_14_0 (by decide) (by decide) true (keepQ rfl)).mono ?_
            rintro e w2 ⟨rfl, bn_r⟩
            refine hK _ _ rfl bn_r rfl (fun h => by cases h)
          · have d12 : vals 12 = _ := hd 12 (by decide +kernel)
            have d15 : vals 15 = _ := hd 15 (by decide +kernel)
            rw [d12, d15]
            go_simp
            refine hK _ _ rfl (Below.refl _ _) (by first | rfl | simp) (fun h => by cases h)
          · have d16 : vals 16 = _ := hd 16 (by decide +kernel)
            rw [d16]
            go_simp
            refine hK _ _ rfl (Below.refl _ _) (by first | rfl | simp) (fun h => by cases h)
          · go_simp
            go_at_call 9
            with_reducible refine (wakes_any _).mono ?_
            rintro e w2 ⟨rfl, bn_r⟩
            refine hK _ _ rfl bn_r rfl (fun h => by cases h)
          · have d17 : vals 17 = _ := hd 17 (by decide +kernel)
            have d18 : vals 18 = _ := hd 18 (by decide +kernel)
            rw [d17, d18]
            go_simp
            refine hK _ _ rfl (Below.refl _ _) (by first | rfl | simp) (fun h => by cases h)
        case hfin21 =>
          intro vals wr hS hP hne
          have ez_19 : vals 19 = _ := hP 19 (by decide)
          have HB := Lib.hid (below_two bw hS)
          try dsimp only
          rw [ez_19]
          refine wpAny_ready (rs := [20]) (by kernel_rfl) (by simp) (AllReady.cons rfl (fun KC hK => ?_) AllReady.nil)
          go_simp
          refine hK _ _ ?_
          clear hK KC
          refine wpAny_done (by kernel_rfl) ?_ _
          go_wp2
          go_ret
          exact ⟨rfl, HB.out⟩
      · obtain ⟨K, hK⟩ : ∃ K : Nat, v_n % 9 = (K : Int) := ⟨(v_n % 9).toNat, by omega⟩
        have K0 : (1 : Int) ≤ (K : Int) := by omega
        have K1 : (K : Int) ≤ 8 := by omega
        clear kz
        by_cases hpar : K % 2 = 0
        · skip
          have S := Lib.hid (show cmpR (some z_a) (some 0) = 1 from hu.trans hs)
          have hn2 : z_a.num ≠ 0 := by rw [hs] at hn; simpa using hn
          obtain ⟨z_x, F0, F1, F2⟩ := signs_facts HBD.out (k := K) (by omega)
          rw [show cmpQ z_a 0 = 1 from hu.trans hs] at F1
          have F0 := Lib.hid F0
          have R1 : RowKit.Hid (cmpR (some z_x) (some 0) = 1) := by show _ = _; rw [F1]; unfold signPow; rw [if_neg (by omega), if_pos hpar]; rfl
          obtain ⟨_, z_y, F3, F4⟩ := F2.resolve_left (fun h => by have h1 := h.1; have h2 := h.2.1; omega)
          have F4 := Lib.hid F4
          have F3 := Lib.hid F3
          clear F1 F2 hn hn2 hs hu hb
          have hr : ((K : Int) % 2 == 0) = true := by rw [beq_iff_eq]; omega
          have hk0 : ((K : Int) == 0) = false := by rw [beq_eq_false_iff_ne]; omega
          clear hpar
          have c_a0 := h_ra.c0
          have c_a1 := h_ra.c1
          have c_a2 := h_ra.c2
          go_wp2_with fail
          clear c_a0 c_a1 c_a2
          refine (pOf_c h_a (by decide) (K : Int) _ _ F0.out).mono ?_
          rintro e w55 ⟨A_x, n_x, c_x, B_x, m_x, d_x, rfl, h_x, bn⟩
          replace h_a := h_a.below bn
          replace h_ra := h_ra.below bn
          replace bw := below_two bw bn
          clear bn
          have h_rx := row3_new w55 27 (.bool (sg (oTop (some z_x)))) (.slice A_x n_x c_x) (.slice B_x m_x d_x)
          have bn := below_new w55 (.cells #[Value.bool (sg (oTop (some z_x))), Value.slice A_x n_x c_x, Value.slice B_x m_x d_x] 27)
          replace h_a := h_a.below bn
          replace h_ra := h_ra.below bn
          replace h_x := h_x.below bn
          replace bw := below_two bw bn
          clear bn
          have c_a0 := h_ra.c0
          have c_a1 := h_ra.c1
          have c_a2 := h_ra.c2
          go_wp2_with fail
          clear c_a0 c_a1 c_a2
          generalize w55.alloc (.cells #[Value.bool (sg (oTop (some z_x))), Value.slice A_x n_x c_x, Value.slice B_x m_x d_x] 27) = w56 at *
          obtain ⟨q_x, eg⟩ : ∃ g, g = w55.heap.size := ⟨_, rfl⟩
          rw [← eg] at h_rx ⊢
          clear eg
          refine (rSign_c h_a (by decide) 1 S.out).mono ?_
          rintro e w57 ⟨rfl, bn⟩
          replace h_a := h_a.below bn
          replace h_ra := h_ra.below bn
          replace h_x := h_x.below bn
          replace h_rx := h_rx.below bn
          replace bw := below_two bw bn
          clear bn
          have c_a0 := h_ra.c0
          have c_a1 := h_ra.c1
          have c_a2 := h_ra.c2
          go_wp2_with fail
          clear c_a0 c_a1 c_a2
          refine (pOf_c h_a (by decide) (-(K : Int)) _ _ F3.out).mono ?_
          rintro e w58 ⟨A_y, n_y, c_y, B_y, m_y, d_y, rfl, h_y, bn⟩
          replace h_a := h_a.below bn
          replace h_ra := h_ra.below bn
          replace h_x := h_x.below bn
          replace h_rx := h_rx.below bn
          replace bw := below_two bw bn
          clear bn
          have h_ry := row3_new w58 27 (.bool (sg (oTop (some z_y)))) (.slice A_y n_y c_y) (.slice B_y m_y d_y)
          have bn := below_new w58 (.cells #[Value.bool (sg (oTop (some z_y))), Value.slice A_y n_y c_y, Value.slice B_y m_y d_y] 27)
          replace h_a := h_a.below bn
          replace h_ra := h_ra.below bn
          replace h_x := h_x.below bn
          replace h_rx := h_rx.below bn
          replace h_y := h_y.below bn
          replace bw := below_two bw bn
          clear bn
          have c_x0 := h_rx.c0
          have c_x1 := h_rx.c1
          have c_x2 := h_rx.c2
          have c_y0 := h_ry.c0
          have c_y1 := h_ry.c1
          have c_y2 := h_ry.c2
          go_wp2_with fail
          clear c_x0 c_x1 c_x2 c_y0 c_y1 c_y2
          generalize w58.alloc (.cells #[Value.bool (sg (oTop (some z_y))), Value.slice A_y n_y c_y, Value.slice B_y m_y d_y] 27) = w59 at *
          obtain ⟨q_y, eg⟩ : ∃ g, g = w58.heap.size := ⟨_, rfl⟩
          rw [← eg] at h_ry ⊢
          clear eg
          refine (rMul_c h_x h_y (by decide) (by decide) _ _ F4.out).mono ?_
          rintro e w60 ⟨A_p, n_p, c_p, B_p, m_p, d_p, rfl, h_p, bn⟩
          replace h_a := h_a.below bn
          replace h_ra := h_ra.below bn
          replace h_x := h_x.below bn
          replace h_rx := h_rx.below bn
          replace h_y := h_y.below bn
          replace h_ry := h_ry.below bn
          replace bw := below_two bw bn
          clear bn
          have h_rp := row3_new w60 27 (.bool (sg (oTop (some 1)))) (.slice A_p n_p c_p) (.slice B_p m_p d_p)
          have bn := below_new w60 (.cells #[Value.bool (sg (oTop (some 1))), Value.slice A_p n_p c_p, Value.slice B_p m_p d_p] 27)
          replace h_a := h_a.below bn
          replace h_ra := h_ra.below bn
          replace h_x := h_x.below bn
          replace h_rx := h_rx.below bn
          replace h_y := h_y.below bn
          replace h_ry := h_ry.below bn
          replace h_p := h_p.below bn
          replace bw := below_two bw bn
          clear bn
          go_wp2
          generalize w60.alloc (.cells #[Value.bool (sg (oTop (some 1))), Value.slice A_p n_p c_p, Value.slice B_p m_p d_p] 27) = w61 at *
          obtain ⟨q_p, eg⟩ : ∃ g, g = w60.heap.size := ⟨_, rfl⟩
          rw [← eg] at h_rp ⊢
          clear eg
          generalize w61 = wS at *
          refine region_freeg 20 1 [82, 83, 84, 85, 86, 87, 88, 89, 90, 91, 92, 93, 94, 95, 96, 97, 98, 99, 100, 101] ?aF22 (fun wx => Below wS.heap.size wS wx) (fun k vv wx => match k with
              | 0 => vv = .agg #[.bool (sg (oTop (some z_x))), .slice A_x n_x c_x, .slice B_x m_x d_x]
              | 1 => vv = .int .i64 1
              | 2 => vv = .int .i64 1
              | 3 => vv = .bool true
              | 4 => vv = .bool true
              | 5 => vv = .int .i64 0
              | 6 => vv = .bool true
              | 7 => vv = .bool true
              | 8 => vv = .bool true
              | 9 => vv = .int .i64 0
              | 10 => vv = .bool true
              | 11 => vv = .bool true
              | 12 => vv = .bool true
              | 13 => vv = .agg #[.bool (sg (oTop (some 1))), .slice A_p n_p c_p, .slice B_p m_p d_p]
              | 14 => ∃ (e0 : Option Addr) (e1 : Nat) (e2 : Nat) (e3 : Option Addr) (e4 : Nat) (e5 : Nat), vv = .agg #[.bool (sg (oTop (some 1))), .slice e0 e1 e2, .slice e3 e4 e5] ∧ QT wx e0 e1 e2 e3 e4 e5 (some 1)
              | 15 => vv = .bool true
              | 16 => vv = .bool true
              | 17 => vv = .bool true
              | 18 => vv = .bool true
              | _ => vv = .bool true)
            (fun k => false) (by kernel_rfl) ?haF22 rfl (by kernel_rfl) (by kernel_rfl) (fun _ _ _ _ _ h => h) ?hSb22 ?hPb22 ?hS22 ?hop22 ?hfin22
          case haF22 =>
            intro vals
            simp only [fillAll, List.getElem?_cons_zero, List.getElem?_cons_succ, Act.put, List.setIfInBounds_toArray, List.set_cons_zero, List.set_cons_succ]
            exact rfl
          case hSb22 => exact fun wx w2 hb hS => below_two hS hb
          case hPb22 =>
            intro k v wa wb hb h
            match k, h with
            | 0, h => exact h
            | 1, h => exact h
            | 2, h => exact h
            | 3, h => exact h
            | 4, h => exact h
            | 5, h => exact h
            | 6, h => exact h
            | 7, h => exact h
            | 8, h => exact h
            | 9, h => exact h
            | 10, h => exact h
            | 11, h => exact h
            | 12, h => exact h
            | 13, h => exact h
            | 14, ⟨e0, e1, e2, e3, e4, e5, h1, g0⟩ => exact ⟨e0, e1, e2, e3, e4, e5, h1, g0.below hb⟩
            | 15, h => exact h
            | 16, h => exact h
            | 17, h => exact h
            | 18, h => exact h
            | _ + 19, h => exact h
          case hS22 => exact (Below.refl _ _).drew
          case hop22 =>
            refine .cons (k := 0) (.plain rfl ?_) (.cons (k := 1) (.plain rfl ?_) (.cons (k := 2) (.plain rfl ?_) (.cons (k := 3) (.plain rfl ?_) (.cons (k := 4) (.plain rfl ?_) (.cons (k := 5) (.yes (fun vals wr hS hd g b e => by cases e; exact hd 4 (by decide +kernel)) ?_) (.cons (k := 6) (.yes (fun vals wr hS hd g b e => by cases e; exact hd 4 (by decide +kernel)) ?_) (.cons (k := 7) (.plain rfl ?_) (.cons (k := 8) (.plain rfl ?_) (.cons (k := 9) (.yes (fun vals wr hS hd g b e => by cases e; exact hd 8 (by decide +kernel)) ?_) (.cons (k := 10) (.yes (fun vals wr hS hd g b e => by cases e; exact hd 8 (by decide +kernel)) ?_) (.cons (k := 11) (.plain rfl ?_) (.cons (k := 12) (.plain rfl ?_) (.cons (k := 13) (.yes (fun vals wr hS hd g b e => by cases e; exact hd 12 (by decide +kernel)) ?_) (.cons (k := 14) (.yes (fun vals wr hS hd g b e => by cases e; exact hd 12 (by decide +kernel)) ?_) (.cons (k := 15) (.yes (fun vals wr hS hd g b e => by cases e; exact hd 12 (by decide +kernel)) ?_) (.cons (k := 16) (.plain rfl ?_) (.cons (k := 17) (.plain rfl ?_) (.cons (k := 18) (.yes (fun vals wr hS hd g b e => by cases e; exact hd 17 (by decide +kernel)) ?_) (.cons (k := 19) (.plain rfl ?_) (.nil))))))))))))))))))))
            all_goals intro vals wr hS hd KC hK
            all_goals (show Oper.wp _ _ _ _ _ _; dsimp only)
            · have z0 := (h_rx.below hS).c0
              have z1 := (h_rx.below hS).c1
              have z2 := (h_rx.below hS).c2
              go_simp
              refine hK _ _ rfl (Below.refl _ _) (by first | rfl | simp) (fun h => by cases h)
            · have d0 : vals 0 = _ := hd 0 (by decide +kernel)
              rw [d0]
              go_simp
              go_at_call 17
              with_reducible refine (rSign_c (h_x.below hS) (by decide) 1 R1.out).mono ?_
              rintro e w2 ⟨rfl, bn_r⟩
              refine hK _ _ rfl bn_r rfl (fun h => by cases h)
            · go_simp
              refine hK _ _ rfl (Below.refl _ _) (by first | rfl | simp) (fun h => by cases h)
            · have d1 : vals 1 = _ := hd 1 (by decide +kernel)
              have d2 : vals 2 = _ := hd 2 (by decide +kernel)
              rw [d1, d2]
              go_simp
              refine hK _ _ rfl (Below.refl _ _) (by first | rfl | simp) (fun h => by cases h)
            · have d3 : vals 3 = _ := hd 3 (by decide +kernel)
              rw [d3]
              go_simp
              refine hK _ _ rfl (Below.refl _ _) (by first | rfl | simp) (fun h => by cases h)
            · go_simp
              refine hK _ _ rfl (Below.refl _ _) (by first | rfl | simp) (fun h => by cases h)
            · have d5 : vals 5 = _ := hd 5 (by decide +kernel)
              rw [d5]
              go_simp
              refine hK _ _ rfl (Below.refl _ _) (by first | rfl | simp) (fun h => by cases h)
            · have d4 : vals 4 = _ := hd 4 (by decide +kernel)
              have d6 : vals 6 = _ := hd 6 (by decide +kernel)
              rw [d4, d6]
              go_simp
              refine hK _ _ rfl (Below.refl _ _) (by first | rfl | simp) (fun h => by cases h)
            · have d7 : vals 7 = _ := hd 7 (by decide +kernel)
              rw [d7]
              go_simp
              refine hK _ _ rfl (Below.refl _ _) (by first | rfl | simp) (fun h => by cases h)
            · go_simp
              refine hK _ _ rfl (Below.refl _ _) (by first | rfl | simp) (fun h => by cases h)
            · have d9 : vals 9 = _ := hd 9 (by decide +kernel)
              rw [d9]
              go_simp
              refine hK _ _ rfl (Below.refl _ _) (by first | rfl | simp) (fun h => by cases h)
            · have d8 : vals 8 = _ := hd 8 (by decide +kernel)
              have d10 : vals 10 = _ := hd 10 (by decide +kernel)
              rw [d8, d10]
              go_simp
              refine hK _ _ rfl (Below.refl _ _) (by first | rfl | simp) (fun h => by cases h)
            · have d11 : vals 11 = _ := hd 11 (by decide +kernel)
              rw [d11]
              go_simp
              refine hK _ _ rfl (Below.refl _ _) (by first | rfl | simp) (fun h => by cases h)
            · have z0 := (h_rp.below hS).c0
              have z1 := (h_rp.below hS).c1
              have z2 := (h_rp.below hS).c2
              go_simp
              refine hK _ _ rfl (Below.refl _ _) (by first | rfl | simp) (fun h => by cases h)
            · go_simp
              go_at_call 18
              with_reducible refine (rWhole_is 1 (by decide) (by decide) _ one_cast _).mono ?_
              rintro e w2 ⟨r0, r1, r2, r3, r4, r5, rfl, f0, bn_r⟩
              refine hK _ _ rfl bn_r ⟨_, _, _, _, _, _, rfl, f0⟩ (fun h => by cases h)
            · have d13 : vals 13 = _ := hd 13 (by decide +kernel)
              obtain ⟨A_14_0, n_14_1, n_14_2, A_14_3, n_14_4, n_14_5, d14, h_14_0⟩ := hd 14 (by decide +kernel)
              rw [d13, d14]
              go_simp
              go_at_call 15
              with_reducible refine (keepRat_c (h_p.below hS) h_14_0 (by decide) (by decide) true (keepQ rfl)).mono ?_
              rintro e w2 ⟨rfl, bn_r⟩
              refine hK _ _ rfl bn_r rfl (fun h => by cases h)
            · have d12 : vals 12 = _ := hd 12 (by decide +kernel)
              have d15 : vals 15 = _ := hd 15 (by decide +kernel)
              rw [d12, d15]
              go_simp
              refine hK _ _ rfl (Below.refl _ _) (by first | rfl | simp) (fun h => by cases h)
            · have d16 : vals 16 = _ := hd 16 (by decide +kernel)
              rw [d16]
              go_simp
              refine hK _ _ rfl (Below.refl _ _) (by first | rfl | simp) (fun h => by cases h)
            · go_simp
              go_at_call 9
              with_reducible refine (wakes_any _).mono ?_
              rintro e w2 ⟨rfl, bn_r⟩
              refine hK _ _ rfl bn_r rfl (fun h => by cases h)
            · have d17 : vals 17 = _ := hd 17 (by decide +kernel)
              have d18 : vals 18 = _ := hd 18 (by decide +kernel)
              rw [d17, d18]
              go_simp
              refine hK _ _ rfl (Below.refl _ _) (by first | rfl | simp) (fun h => by cases h)
          case hfin22 =>
            intro vals wr hS hP hne
            have ez_19 : vals 19 = _ := hP 19 (by decide)
            have HB := Lib.hid (below_two bw hS)
            try dsimp only
            rw [ez_19]
            refine wpAny_ready (rs := [20]) (by kernel_rfl) (by simp) (AllReady.cons rfl (fun KC hK => ?_) AllReady.nil)
            go_simp
            refine hK _ _ ?_
            clear hK KC
            refine wpAny_done (by kernel_rfl) ?_ _
            go_wp2
            go_ret
            exact ⟨rfl, HB.out⟩
        · skip
          have S := Lib.hid (show cmpR (some z_a) (some 0) = 1 from hu.trans hs)
          have hn2 : z_a.num ≠ 0 := by rw [hs] at hn; simpa using hn
          obtain ⟨z_x, F0, F1, F2⟩ := signs_facts HBD.out (k := K) (by omega)
          rw [show cmpQ z_a 0 = 1 from hu.trans hs] at F1
          have F0 := Lib.hid F0
          have R1 : RowKit.Hid (cmpR (some z_x) (some 0) = 1) := by show _ = _; rw [F1]; unfold signPow; rw [if_neg (by omega), if_neg (by omega)]
          obtain ⟨_, z_y, F3, F4⟩ := F2.resolve_left (fun h => by have h1 := h.1; have h2 := h.2.1; omega)
          have F4 := Lib.hid F4
          have F3 := Lib.hid F3
          clear F1 F2 hn hn2 hs hu hb
          have hr : ((K : Int) % 2 == 0) = false := by rw [beq_eq_false_iff_ne]; omega
          have hk0 : ((K : Int) == 0) = false := by rw [beq_eq_false_iff_ne]; omega
          clear hpar
          have c_a0 := h_ra.c0
          have c_a1 := h_ra.c1
          have c_a2 := h_ra.c2
          go_wp2_with fail
          clear c_a0 c_a1 c_a2
          refine (pOf_c h_a (by decide) (K : Int) _ _ F0.out).mono ?_
          rintro e w62 ⟨A_x, n_x, c_x, B_x, m_x, d_x, rfl, h_x, bn⟩
          replace h_a := h_a.below bn
          replace h_ra := h_ra.below bn
          replace bw := below_two bw bn
          clear bn
          have h_rx := row3_new w62 27 (.bool (sg (oTop (some z_x)))) (.slice A_x n_x c_x) (.slice B_x m_x d_x)
          have bn := below_new w62 (.cells #[Value.bool (sg (oTop (some z_x))), Value.slice A_x n_x c_x, Value.slice B_x m_x d_x] 27)
          replace h_a := h_a.below bn
          replace h_ra := h_ra.below bn
          replace h_x := h_x.below bn
          replace bw := below_two bw bn
          clear bn
          have c_a0 := h_ra.c0
          have c_a1 := h_ra.c1
          have c_a2 := h_ra.c2
          go_wp2_with fail
          clear c_a0 c_a1 c_a2
          generalize w62.alloc (.cells #[Value.bool (sg (oTop (some z_x))), Value.slice A_x n_x c_x, Value.slice B_x m_x d_x] 27) = w63 at *
          obtain ⟨q_x, eg⟩ : ∃ g, g = w62.heap.size := ⟨_, rfl⟩
          rw [← eg] at h_rx ⊢
          clear eg
          refine (rSign_c h_a (by decide) 1 S.out).mono ?_
          rintro e w64 ⟨rfl, bn⟩
          replace h_a := h_a.below bn
          replace h_ra := h_ra.below bn
          replace h_x := h_x.below bn
          replace h_rx := h_rx.below bn
          replace bw := below_two bw bn
          clear bn
          have c_a0 := h_ra.c0
          have c_a1 := h_ra.c1
          have c_a2 := h_ra.c2
          go_wp2_with fail
          clear c_a0 c_a1 c_a2
          refine (pOf_c h_a (by decide) (-(K : Int)) _ _ F3.out).mono ?_
          rintro e w65 ⟨A_y, n_y, c_y, B_y, m_y, d_y, rfl, h_y, bn⟩
          replace h_a := h_a.below bn
          replace h_ra := h_ra.below bn
          replace h_x := h_x.below bn
          replace h_rx := h_rx.below bn
          replace bw := below_two bw bn
          clear bn
          have h_ry := row3_new w65 27 (.bool (sg (oTop (some z_y)))) (.slice A_y n_y c_y) (.slice B_y m_y d_y)
          have bn := below_new w65 (.cells #[Value.bool (sg (oTop (some z_y))), Value.slice A_y n_y c_y, Value.slice B_y m_y d_y] 27)
          replace h_a := h_a.below bn
          replace h_ra := h_ra.below bn
          replace h_x := h_x.below bn
          replace h_rx := h_rx.below bn
          replace h_y := h_y.below bn
          replace bw := below_two bw bn
          clear bn
          have c_x0 := h_rx.c0
          have c_x1 := h_rx.c1
          have c_x2 := h_rx.c2
          have c_y0 := h_ry.c0
          have c_y1 := h_ry.c1
          have c_y2 := h_ry.c2
          go_wp2_with fail
          clear c_x0 c_x1 c_x2 c_y0 c_y1 c_y2
          generalize w65.alloc (.cells #[Value.bool (sg (oTop (some z_y))), Value.slice A_y n_y c_y, Value.slice B_y m_y d_y] 27) = w66 at *
          obtain ⟨q_y, eg⟩ : ∃ g, g = w65.heap.size := ⟨_, rfl⟩
          rw [← eg] at h_ry ⊢
          clear eg
          refine (rMul_c h_x h_y (by decide) (by decide) _ _ F4.out).mono ?_
          rintro e w67 ⟨A_p, n_p, c_p, B_p, m_p, d_p, rfl, h_p, bn⟩
          replace h_a := h_a.below bn
          replace h_ra := h_ra.below bn
          replace h_x := h_x.below bn
          replace h_rx := h_rx.below bn
          replace h_y := h_y.below bn
          replace h_ry := h_ry.below bn
          replace bw := below_two bw bn
          clear bn
          have h_rp := row3_new w67 27 (.bool (sg (oTop (some 1)))) (.slice A_p n_p c_p) (.slice B_p m_p d_p)
          have bn := below_new w67 (.cells #[Value.bool (sg (oTop (some 1))), Value.slice A_p n_p c_p, Value.slice B_p m_p d_p] 27)
          replace h_a := h_a.below bn
          replace h_ra := h_ra.below bn
          replace h_x := h_x.below bn
          replace h_rx := h_rx.below bn
          replace h_y := h_y.below bn
          replace h_ry := h_ry.below bn
          replace h_p := h_p.below bn
          replace bw := below_two bw bn
          clear bn
          go_wp2
          generalize w67.alloc (.cells #[Value.bool (sg (oTop (some 1))), Value.slice A_p n_p c_p, Value.slice B_p m_p d_p] 27) = w68 at *
          obtain ⟨q_p, eg⟩ : ∃ g, g = w67.heap.size := ⟨_, rfl⟩
          rw [← eg] at h_rp ⊢
          clear eg
          generalize w68 = wS at *
          refine region_freeg 20 1 [82, 83, 84, 85, 86, 87, 88, 89, 90, 91, 92, 93, 94, 95, 96, 97, 98, 99, 100, 101] ?aF23 (fun wx => Below wS.heap.size wS wx) (fun k vv wx => match k with
              | 0 => vv = .agg #[.bool (sg (oTop (some z_x))), .slice A_x n_x c_x, .slice B_x m_x d_x]
              | 1 => vv = .int .i64 1
              | 2 => vv = .int .i64 1
              | 3 => vv = .bool true
              | 4 => vv = .bool true
              | 5 => vv = .int .i64 0
              | 6 => vv = .bool true
              | 7 => vv = .bool true
              | 8 => vv = .bool true
              | 9 => vv = .int .i64 0
              | 10 => vv = .bool true
              | 11 => vv = .bool true
              | 12 => vv = .bool true
              | 13 => vv = .agg #[.bool (sg (oTop (some 1))), .slice A_p n_p c_p, .slice B_p m_p d_p]
              | 14 => ∃ (e0 : Option Addr) (e1 : Nat) (e2 : Nat) (e3 : Option Addr) (e4 : Nat) (e5 : Nat), vv = .agg #[.bool (sg (oTop (some 1))), .slice e0 e1 e2, .slice e3 e4 e5] ∧ QT wx e0 e1 e2 e3 e4 e5 (some 1)
              | 15 => vv = .bool true
              | 16 => vv = .bool true
              | 17 => vv = .bool true
              | 18 => vv = .bool true
              | _ => vv = .bool true)
            (fun k => false) (by kernel_rfl) ?haF23 rfl (by kernel_rfl) (by kernel_rfl) (fun _ _ _ _ _ h => h) ?hSb23 ?hPb23 ?hS23 ?hop23 ?hfin23
          case haF23 =>
            intro vals
            simp only [fillAll, List.getElem?_cons_zero, List.getElem?_cons_succ, Act.put, List.setIfInBounds_toArray, List.set_cons_zero, List.set_cons_succ]
            exact rfl
          case hSb23 => exact fun wx w2 hb hS => below_two hS hb
          case hPb23 =>
            intro k v wa wb hb h
            match k, h with
            | 0, h => exact h
            | 1, h => exact h
            | 2, h => exact h
            | 3, h => exact h
            | 4, h => exact h
            | 5, h => exact h
            | 6, h => exact h
            | 7, h => exact h
            | 8, h => exact h
            | 9, h => exact h
            | 10, h => exact h
            | 11, h => exact h
            | 12, h => exact h
            | 13, h => exact h
            | 14, ⟨e0, e1, e2, e3, e4, e5, h1, g0⟩ => exact ⟨e0, e1, e2, e3, e4, e5, h1, g0.below hb⟩
            | 15, h => exact h
            | 16, h => exact h
            | 17, h => exact h
            | 18, h => exact h
            | _ + 19, h => exact h
          case hS23 => exact (Below.refl _ _).drew
          case hop23 =>
            refine .cons (k := 0) (.plain rfl ?_) (.cons (k := 1) (.plain rfl ?_) (.cons (k := 2) (.plain rfl ?_) (.cons (k := 3) (.plain rfl ?_) (.cons (k := 4) (.plain rfl ?_) (.cons (k := 5) (.yes (fun vals wr hS hd g b e => by cases e; exact hd 4 (by decide +kernel)) ?_) (.cons (k := 6) (.yes (fun vals wr hS hd g b e => by cases e; exact hd 4 (by decide +kernel)) ?_) (.cons (k := 7) (.plain rfl ?_) (.cons (k := 8) (.plain rfl ?_) (.cons (k := 9) (.yes (fun vals wr hS hd g b e => by cases e; exact hd 8 (by decide +kernel)) ?_) (.cons (k := 10) (.yes (fun vals wr hS hd g b e => by cases e; exact hd 8 (by decide +kernel)) ?_) (.cons (k := 11) (.plain rfl ?_) (.cons (k := 12) (.plain rfl ?_) (.cons (k := 13) (.yes (fun vals wr hS hd g b e => by cases e; exact hd 12 (by decide +kernel)) ?_) (.cons (k := 14) (.yes (fun vals wr hS hd g b e => by cases e; exact hd 12 (by decide +kernel)) ?_) (.cons (k := 15) (.yes (fun vals wr hS hd g b e => by cases e; exact hd 12 (by decide +kernel)) ?_) (.cons (k := 16) (.plain rfl ?_) (.cons (k := 17) (.plain rfl ?_) (.cons (k := 18) (.yes (fun vals wr hS hd g b e => by cases e; exact hd 17 (by decide +kernel)) ?_) (.cons (k := 19) (.plain rfl ?_) (.nil))))))))))))))))))))
            all_goals intro vals wr hS hd KC hK
            all_goals (show Oper.wp _ _ _ _ _ _; dsimp only)
            · have z0 := (h_rx.below hS).c0
              have z1 := (h_rx.below hS).c1
              have z2 := (h_rx.below hS).c2
              go_simp
              refine hK _ _ rfl (Below.refl _ _) (by first | rfl | simp) (fun h => by cases h)
            · have d0 : vals 0 = _ := hd 0 (by decide +kernel)
              rw [d0]
              go_simp
              go_at_call 17
              with_reducible refine (rSign_c (h_x.below hS) (by decide) 1 R1.out).mono ?_
              rintro e w2 ⟨rfl, bn_r⟩
              refine hK _ _ rfl bn_r rfl (fun h => by cases h)
            · go_simp
              refine hK _ _ rfl (Below.refl _ _) (by first | rfl | simp) (fun h => by cases h)
            · have d1 : vals 1 = _ := hd 1 (by decide +kernel)
              have d2 : vals 2 = _ := hd 2 (by decide +kernel)
              rw [d1, d2]
              go_simp
              refine hK _ _ rfl (Below.refl _ _) (by first | rfl | simp) (fun h => by cases h)
            · have d3 : vals 3 = _ := hd 3 (by decide +kernel)
              rw [d3]
              go_simp
              refine hK _ _ rfl (Below.refl _ _) (by first | rfl | simp) (fun h => by cases h)
            · go_simp
              refine hK _ _ rfl (Below.refl _ _) (by first | rfl | simp) (fun h => by cases h)
            · have d5 : vals 5 = _ := hd 5 (by decide +kernel)
              rw [d5]
              go_simp
              refine hK _ _ rfl (Below.refl _ _) (by first | rfl | simp) (fun h => by cases h)
            · have d4 : vals 4 = _ := hd 4 (by decide +kernel)
              have d6 : vals 6 = _ := hd 6 (by decide +kernel)
              rw [d4, d6]
              go_simp
              refine hK _ _ rfl (Below.refl _ _) (by first | rfl | simp) (fun h => by cases h)
            · have d7 : vals 7 = _ := hd 7 (by decide +kernel)
              rw [d7]
              go_simp
              refine hK _ _ rfl (Below.refl _ _) (by first | rfl | simp) (fun h => by cases h)
            · go_simp
              refine hK _ _ rfl (Below.refl _ _) (by first | rfl | simp) (fun h => by cases h)
            · have d9 : vals 9 = _ := hd 9 (by decide +kernel)
              rw [d9]
              go_simp
              refine hK _ _ rfl (Below.refl _ _) (by first | rfl | simp) (fun h => by cases h)
            · have d8 : vals 8 = _ := hd 8 (by decide +kernel)
              have d10 : vals 10 = _ := hd 10 (by decide +kernel)
              rw [d8, d10]
              go_simp
              refine hK _ _ rfl (Below.refl _ _) (by first | rfl | simp) (fun h => by cases h)
            · have d11 : vals 11 = _ := hd 11 (by decide +kernel)
              rw [d11]
              go_simp
              refine hK _ _ rfl (Below.refl _ _) (by first | rfl | simp) (fun h => by cases h)
            · have z0 := (h_rp.below hS).c0
              have z1 := (h_rp.below hS).c1
              have z2 := (h_rp.below hS).c2
              go_simp
              refine hK _ _ rfl (Below.refl _ _) (by first | rfl | simp) (fun h => by cases h)
            · go_simp
              go_at_call 18
              with_reducible refine (rWhole_is 1 (by decide) (by decide) _ one_cast _).mono ?_
              rintro e w2 ⟨r0, r1, r2, r3, r4, r5, rfl, f0, bn_r⟩
              refine hK _ _ rfl bn_r ⟨_, _, _, _, _, _, rfl, f0⟩ (fun h => by cases h)
            · have d13 : vals 13 = _ := hd 13 (by decide +kernel)
              obtain ⟨A_14_0, n_14_1, n_14_2, A_14_3, n_14_4, n_14_5, d14, h_14_0⟩ := hd 14 (by decide +kernel)
              rw [d13, d14]
              go_simp
              go_at_call 15
              with_reducible refine (keepRat_c (h_p.below hS) h_14_0 (by decide) (by decide) true (keepQ rfl)).mono ?_
              rintro e w2 ⟨rfl, bn_r⟩
              refine hK _ _ rfl bn_r rfl (fun h => by cases h)
            · have d12 : vals 12 = _ := hd 12 (by decide +kernel)
              have d15 : vals 15 = _ := hd 15 (by decide +kernel)
              rw [d12, d15]
              go_simp
              refine hK _ _ rfl (Below.refl _ _) (by first | rfl | simp) (fun h => by cases h)
            · have d16 : vals 16 = _ := hd 16 (by decide +kernel)
              rw [d16]
              go_simp
              refine hK _ _ rfl (Below.refl _ _) (by first | rfl | simp) (fun h => by cases h)
            · go_simp
              go_at_call 9
              with_reducible refine (wakes_any _).mono ?_
              rintro e w2 ⟨rfl, bn_r⟩
              refine hK _ _ rfl bn_r rfl (fun h => by cases h)
            · have d17 : vals 17 = _ := hd 17 (by decide +kernel)
              have d18 : vals 18 = _ := hd 18 (by decide +kernel)
              rw [d17, d18]
              go_simp
              refine hK _ _ rfl (Below.refl _ _) (by first | rfl | simp) (fun h => by cases h)
          case hfin23 =>
            intro vals wr hS hP hne
            have ez_19 : vals 19 = _ := hP 19 (by decide)
            have HB := Lib.hid (below_two bw hS)
            try dsimp only
            rw [ez_19]
            refine wpAny_ready (rs := [20]) (by kernel_rfl) (by simp) (AllReady.cons rfl (fun KC hK => ?_) AllReady.nil)
            go_simp
            refine hK _ _ ?_
            clear hK KC
            refine wpAny_done (by kernel_rfl) ?_ _
            go_wp2
            go_ret
            exact ⟨rfl, HB.out⟩

set_option maxRecDepth 100000 in
theorem lifted (os : Os) (started : os.Started) (H : Type) (enc : TypeId × Value → H) :
    ReturnsInHanded {} Try.checked os 5 .any (Rows.powerSignsSpec.pre6 enc Try.prog Try.f5 Rows.powerSignsRow.domain false) (Rows.powerSignsSpec.post enc Try.prog Try.f5 false true false false) := by
  refine returnsInHanded_of_change (C := Try.checked) own started (by kernel_rfl) Try.func5
    (ChangeSpec.witness6 (enc := enc) (C := Try.checked) false ⟨#[], #[.agg #[.bool false, .slice none 0 0, .slice none 0 0], .int .u8 0], []⟩ 8 (by kernel_rfl) (by kernel_rfl) (by kernel_rfl) (by kernel_rfl)) ?_
  intro W base args ds gs before hval0 hW hcnd _
  have hval : ∀ (j : Nat) t v, Try.f5.params[j]? = some t → args[j]? = some v → Value.okWide Try.prog W .any base t v := hval0
  have hW' := hW
  obtain ⟨p, q, hA0, hV, rfl, hfz, hnd⟩ := hW
  have hA : DataW.TrodAll enc Try.prog W 0 (fun _ => true) true Try.f5.params.toList args.toList ds p := hA0
  rw [Try.params5] at hA hval
  obtain ⟨v0, vs0, d0, ds0, p0, q0, hargs, rfl, rfl, h0, r0⟩ := trodAll_cons hA
  obtain ⟨v1, vs1, d1, ds1, p1, q1, rfl, rfl, rfl, h1, r1⟩ := trodAll_cons r0
  obtain ⟨rfl, rfl, rfl⟩ := trodAll_nil r1
  obtain rfl : args = #[v0, v1] := by cases args; simp_all
  obtain ⟨rfl, rfl⟩ := trodVars_none hV
  obtain ⟨b0, a0, len0, cap0, z0, e0, lem0, dap0, y0, rfl, i0, hc0, hm0, k0, kc0, km0⟩ := open_rat (hval 0 27 v0 rfl rfl) h0
  obtain ⟨a1, rfl, rfl, rfl, w1⟩ := open_int Try.underlying5 (hval 1 5 v1 rfl rfl) h1
  clear hA0 hval0
  refine (walk b0 a0 len0 cap0 z0 e0 lem0 dap0 y0 a1 W i0 hc0 hm0 k0 kc0 km0 w1).mono fun e W' ⟨he, bel⟩ => ?_
  subst he
  exact ⟨_, rfl, _, _, _, [], _, [], hW', trodAll_mk1 (shut_bool Try.underlying4 _), (trodAll_cons_mk (Below.trod laidOut (by kernel_rfl) (of_decide_eq_true (by kernel_rfl)) h0 bel (places_lt h0)) (trodAll_cons_mk (shut_int Try.underlying5 w1) trodAll_mk0)), rfl, bel.frame _, fun h => by cases h⟩

theorem over : Rows.powerSignsRow.holds Try.pinned (OpenSpec.ofChange Rows.powerSignsSpec) :=
  OpenClaim.holds_of_wide 5 Try.f5 rfl rfl rfl rfl rfl rfl rfl ⟨rfl, rfl, rfl, rfl, rfl⟩ rfl rfl rfl rfl rfl (by kernel_rfl) Try.func5 (by kernel_rfl)
    (of_decide_eq_true (by kernel_rfl)) (by unfold Func.isWrapper; first | (rw [if_pos (by decide +kernel)]; kernel_rfl) | (rw [if_neg (by decide +kernel)]; exact ⟨rfl, rfl⟩))
    (fun os started H enc _ => lifted os started H enc)

theorem proved : Rows.PowerSignsSaid := over

end Go.Proofs.Ytmifgblbicnimaa.lawPowerSigns
