/- Of any two rational numbers and any number of a machine: what package rat tells is what the document tells. No condition. -/
import Derived.Test.YtohciicocaoagaaGreatM11
import Derived.ChangeMaps5
/- Of any two rational numbers and any number of a machine: what package rat tells is what the document tells. No condition. -/
namespace Go.Proofs.YtohciicocaoagaaGreat.lawRatTells
open Go.ChangeShapes Go.WideShapes Go.ChangeAt Go.RowKit Limb
set_option linter.unusedVariables false

theorem qlong_c (s : Bool) (A B : Option Addr) (n c m d : Nat) (v : Bool) (hv : (decide (70 < n) || decide (70 < m)) = v) (w : World) :
    Calls Tryz.prog 4 #[.agg #[.bool s, .slice A n c, .slice B m d]] w fun e w' => e = .returned (.bool v) ∧ Below w.heap.size w w' := by
  have HW := Lib.hid (below_new w (.cells #[Value.bool s, Value.slice A n c, Value.slice B m d] 27))
  have Hv := Lib.hid hv
  clear hv
  by_cases h1 : 70 < n
  · have e1 : decide ((70 : Int) < (n : Int)) = true := by rw [decide_eq_true_eq]; omega
    have HV : RowKit.Hid (true = v) := by
      show _ = _
      rw [← Hv.out, decide_eq_true h1]; rfl
    clear h1 Hv
    go_enter Tryz.func4, Tryz.ntmps4
    go_wp2
    go_ret
    exact ⟨by rw [← HV.out]; rfl, HW.out⟩
  · have e1 : decide ((70 : Int) < (n : Int)) = false := by rw [decide_eq_false_iff_not]; omega
    have HV : RowKit.Hid (decide ((70 : Int) < (m : Int)) = v) := by
      show _ = _
      rw [← Hv.out, decide_eq_false h1, Bool.false_or, decide_eq_decide]; omega
    clear h1 Hv
    go_enter Tryz.func4, Tryz.ntmps4
    go_wp2
    go_ret
    exact ⟨by rw [← HV.out]; rfl, HW.out⟩

set_option maxHeartbeats 400000000 in
set_option maxRecDepth 100000 in
theorem walk (g_a : Bool) (A_a : Option Addr) (n_a c_a : Nat) (xs_a : List Nat) (B_a : Option Addr) (m_a d_a : Nat) (ys_a : List Nat) (g_b : Bool) (A_b : Option Addr) (n_b c_b : Nat) (xs_b : List Nat) (B_b : Option Addr) (m_b d_b : Nat) (ys_b : List Nat) (v_v : Int) (w : World) (i_a : IsN w A_a n_a xs_a) (hc_a : n_a ≤ c_a) (hm_a : c_a ≤ maxLen) (j_a : IsN w B_a m_a ys_a) (kc_a : m_a ≤ d_a) (km_a : d_a ≤ maxLen) (i_b : IsN w A_b n_b xs_b) (hc_b : n_b ≤ c_b) (hm_b : c_b ≤ maxLen) (j_b : IsN w B_b m_b ys_b) (kc_b : m_b ≤ d_b) (km_b : d_b ≤ maxLen) (f_v : (Lit.int .i64 v_v).wf = true) :
    Calls Tryz.prog 3 #[.agg #[.bool g_a, .slice A_a n_a c_a, .slice B_a m_a d_a], .agg #[.bool g_b, .slice A_b n_b c_b, .slice B_b m_b d_b], .int .i64 v_v] w fun e w' => e = .returned (.bool true) ∧ Below w.heap.size w w' := by
  by_cases l_a : n_a ≤ 70 ∧ m_a ≤ 70
  case neg =>
    have T_a : RowKit.Hid ((decide (70 < n_a) || decide (70 < m_a)) = true) := by show _ = _; simp; omega
    have bw := bel_refl w
    have h_ra := row3_new w 27 (.bool g_a) (.slice A_a n_a c_a) (.slice B_a m_a d_a)
    have bn := below_new w (.cells #[Value.bool g_a, Value.slice A_a n_a c_a, Value.slice B_a m_a d_a] 27)
    replace bw := below_two bw bn
    clear bn
    have h_rb := row3_new (w.alloc (.cells #[Value.bool g_a, Value.slice A_a n_a c_a, Value.slice B_a m_a d_a] 27)) 27 (.bool g_b) (.slice A_b n_b c_b) (.slice B_b m_b d_b)
    have bn := below_new (w.alloc (.cells #[Value.bool g_a, Value.slice A_a n_a c_a, Value.slice B_a m_a d_a] 27)) (.cells #[Value.bool g_b, Value.slice A_b n_b c_b, Value.slice B_b m_b d_b] 27)
    replace h_ra := h_ra.below bn
    replace bw := below_two bw bn
    clear bn
    simp only [World.size_alloc] at h_rb
    go_enter Tryz.func3, Tryz.ntmps3
    go_wp2_with fail
    generalize (w.alloc (.cells #[Value.bool g_a, Value.slice A_a n_a c_a, Value.slice B_a m_a d_a] 27)).alloc (.cells #[Value.bool g_b, Value.slice A_b n_b c_b, Value.slice B_b m_b d_b] 27) = wP at *
    obtain ⟨q_b, eg⟩ : ∃ g, g = w.heap.size + 1 := ⟨_, rfl⟩
    rw [← eg] at h_rb ⊢
    clear eg
    obtain ⟨q_a, eg⟩ : ∃ g, g = w.heap.size := ⟨_, rfl⟩
    rw [← eg] at h_ra ⊢
    clear eg
    refine (qlong_c g_a A_a B_a n_a c_a m_a d_a true T_a.out _).mono ?_
    rintro e w1 ⟨rfl, bn⟩
    replace h_ra := h_ra.below bn
    replace h_rb := h_rb.below bn
    replace bw := below_two bw bn
    clear bn
    go_wp2_with fail
    refine (wakes_any _).mono ?_
    rintro e w2 ⟨rfl, bn⟩
    replace h_ra := h_ra.below bn
    replace h_rb := h_rb.below bn
    replace bw := below_two bw bn
    clear bn
    go_wp2
    go_ret
    exact ⟨rfl, bw⟩
  by_cases l_b : n_b ≤ 70 ∧ m_b ≤ 70
  case neg =>
    have T_a : RowKit.Hid ((decide (70 < n_a) || decide (70 < m_a)) = false) := by show _ = _; simp; omega
    have T_b : RowKit.Hid ((decide (70 < n_b) || decide (70 < m_b)) = true) := by show _ = _; simp; omega
    have bw := bel_refl w
    have h_ra := row3_new w 27 (.bool g_a) (.slice A_a n_a c_a) (.slice B_a m_a d_a)
    have bn := below_new w (.cells #[Value.bool g_a, Value.slice A_a n_a c_a, Value.slice B_a m_a d_a] 27)
    replace bw := below_two bw bn
    clear bn
    have h_rb := row3_new (w.alloc (.cells #[Value.bool g_a, Value.slice A_a n_a c_a, Value.slice B_a m_a d_a] 27)) 27 (.bool g_b) (.slice A_b n_b c_b) (.slice B_b m_b d_b)
    have bn := below_new (w.alloc (.cells #[Value.bool g_a, Value.slice A_a n_a c_a, Value.slice B_a m_a d_a] 27)) (.cells #[Value.bool g_b, Value.slice A_b n_b c_b, Value.slice B_b m_b d_b] 27)
    replace h_ra := h_ra.below bn
    replace bw := below_two bw bn
    clear bn
    simp only [World.size_alloc] at h_rb
    go_enter Tryz.func3, Tryz.ntmps3
    go_wp2_with fail
    generalize (w.alloc (.cells #[Value.bool g_a, Value.slice A_a n_a c_a, Value.slice B_a m_a d_a] 27)).alloc (.cells #[Value.bool g_b, Value.slice A_b n_b c_b, Value.slice B_b m_b d_b] 27) = wP at *
    obtain ⟨q_b, eg⟩ : ∃ g, g = w.heap.size + 1 := ⟨_, rfl⟩
    rw [← eg] at h_rb ⊢
    clear eg
    obtain ⟨q_a, eg⟩ : ∃ g, g = w.heap.size := ⟨_, rfl⟩
    rw [← eg] at h_ra ⊢
    clear eg
    refine (qlong_c g_a A_a B_a n_a c_a m_a d_a false T_a.out _).mono ?_
    rintro e w3 ⟨rfl, bn⟩
    replace h_ra := h_ra.below bn
    replace h_rb := h_rb.below bn
    replace bw := below_two bw bn
    clear bn
    have c_b0 := h_rb.c0
    have c_b1 := h_rb.c1
    have c_b2 := h_rb.c2
    go_wp2_with fail
    clear c_b0 c_b1 c_b2
    refine (qlong_c g_b A_b B_b n_b c_b m_b d_b true T_b.out _).mono ?_
    rintro e w4 ⟨rfl, bn⟩
    replace h_ra := h_ra.below bn
    replace h_rb := h_rb.below bn
    replace bw := below_two bw bn
    clear bn
    go_wp2_with fail
    refine (wakes_any _).mono ?_
    rintro e w5 ⟨rfl, bn⟩
    replace h_ra := h_ra.below bn
    replace h_rb := h_rb.below bn
    replace bw := below_two bw bn
    clear bn
    go_wp2
    go_ret
    exact ⟨rfl, bw⟩
  have T_a : RowKit.Hid ((decide (70 < n_a) || decide (70 < m_a)) = false) := by show _ = _; simp; omega
  have h_a := QQ.of (s := g_a) i_a hc_a j_a kc_a l_a.1 l_a.2
  generalize readQ g_a xs_a ys_a = o_a at h_a
  have T_b : RowKit.Hid ((decide (70 < n_b) || decide (70 < m_b)) = false) := by show _ = _; simp; omega
  have h_b := QQ.of (s := g_b) i_b hc_b j_b kc_b l_b.1 l_b.2
  generalize readQ g_b xs_b ys_b = o_b at h_b
  have hv0 : -9223372036854775808 ≤ v_v ∧ v_v ≤ 9223372036854775807 := by
    have e1 : IntKind.i64.min = -9223372036854775808 := rfl
    have e2 : IntKind.i64.max = 9223372036854775807 := rfl
    simp only [Lit.wf, Bool.and_eq_true, decide_eq_true_eq] at f_v
    omega
  have HV0 := Lib.hid hv0
  clear f_v hv0
  obtain ⟨r0, k0, H0⟩ : ∃ r e, addR o_a o_b = (r, e) := ⟨_, _, rfl⟩
  have H0 := Lib.hid H0
  obtain ⟨r1, k1, H1⟩ : ∃ r e, subR o_a o_b = (r, e) := ⟨_, _, rfl⟩
  have H1 := Lib.hid H1
  obtain ⟨r2, k2, H2⟩ : ∃ r e, mulR o_a o_b = (r, e) := ⟨_, _, rfl⟩
  have H2 := Lib.hid H2
  obtain ⟨r3, k3, H3⟩ : ∃ r e, divR o_a o_b = (r, e) := ⟨_, _, rfl⟩
  have H3 := Lib.hid H3
  obtain ⟨b0, G_b0⟩ : ∃ y, o_a.isSome = y := ⟨_, rfl⟩
  have G_b0 := Lib.hid G_b0
  obtain ⟨x1, G_x1⟩ : ∃ y, cmpR o_a o_b = y := ⟨_, rfl⟩
  have G_x1 := Lib.hid G_x1
  obtain ⟨x2, G_x2⟩ : ∃ y, cmpR o_a (some 0) = y := ⟨_, rfl⟩
  have G_x2 := Lib.hid G_x2
  obtain ⟨b1, G_b1⟩ : ∃ y, sameR o_a o_b = y := ⟨_, rfl⟩
  have G_b1 := Lib.hid G_b1
  obtain ⟨z_v, G_z_v⟩ : ∃ y, (v_v : Rat) = y := ⟨_, rfl⟩
  have G_z_v := Lib.hid G_z_v
  have bw := bel_refl w
  have h_ra := row3_new w 27 (.bool g_a) (.slice A_a n_a c_a) (.slice B_a m_a d_a)
  have bn := below_new w (.cells #[Value.bool g_a, Value.slice A_a n_a c_a, Value.slice B_a m_a d_a] 27)
  replace h_a := h_a.below bn
  replace h_b := h_b.below bn
  replace bw := below_two bw bn
  clear bn
  have h_rb := row3_new (w.alloc (.cells #[Value.bool g_a, Value.slice A_a n_a c_a, Value.slice B_a m_a d_a] 27)) 27 (.bool g_b) (.slice A_b n_b c_b) (.slice B_b m_b d_b)
  have bn := below_new (w.alloc (.cells #[Value.bool g_a, Value.slice A_a n_a c_a, Value.slice B_a m_a d_a] 27)) (.cells #[Value.bool g_b, Value.slice A_b n_b c_b, Value.slice B_b m_b d_b] 27)
  replace h_a := h_a.below bn
  replace h_b := h_b.below bn
  replace h_ra := h_ra.below bn
  replace bw := below_two bw bn
  clear bn
  simp only [World.size_alloc] at h_rb
  go_enter Tryz.func3, Tryz.ntmps3
  go_wp2_with fail
  generalize (w.alloc (.cells #[Value.bool g_a, Value.slice A_a n_a c_a, Value.slice B_a m_a d_a] 27)).alloc (.cells #[Value.bool g_b, Value.slice A_b n_b c_b, Value.slice B_b m_b d_b] 27) = wP at *
  obtain ⟨q_b, eg⟩ : ∃ g, g = w.heap.size + 1 := ⟨_, rfl⟩
  rw [← eg] at h_rb ⊢
  clear eg
  obtain ⟨q_a, eg⟩ : ∃ g, g = w.heap.size := ⟨_, rfl⟩
  rw [← eg] at h_ra ⊢
  clear eg
  refine (qlong_c g_a A_a B_a n_a c_a m_a d_a false T_a.out _).mono ?_
  rintro e w6 ⟨rfl, bn⟩
  replace h_a := h_a.below bn
  replace h_b := h_b.below bn
  replace h_ra := h_ra.below bn
  replace h_rb := h_rb.below bn
  replace bw := below_two bw bn
  clear bn
  have c_b0 := h_rb.c0
  have c_b1 := h_rb.c1
  have c_b2 := h_rb.c2
  go_wp2_with fail
  clear c_b0 c_b1 c_b2
  refine (qlong_c g_b A_b B_b n_b c_b m_b d_b false T_b.out _).mono ?_
  rintro e w7 ⟨rfl, bn⟩
  replace h_a := h_a.below bn
  replace h_b := h_b.below bn
  replace h_ra := h_ra.below bn
  replace h_rb := h_rb.below bn
  replace bw := below_two bw bn
  clear bn
  go_wp2
  generalize w7 = wS at *
  refine region_free 6 2 [28, 29, 30, 31, 7, 8] ?aF23 (fun wx => Below wS.heap.size wS wx) (fun k vv wx => match k with
      | 0 => vv = .agg #[.bool g_a, .slice A_a n_a c_a, .slice B_a m_a d_a]
      | 1 => ∃ (e0 : Option Addr) (e1 : Nat) (e2 : Nat) (e3 : Option Addr) (e4 : Nat) (e5 : Nat), vv = .agg #[.bool g_a, .slice e0 e1 e2, .slice e3 e4 e5] ∧ QQ wx g_a e0 e1 e2 xs_a e3 e4 e5 ys_a o_a 70
      | 2 => vv = .agg #[.bool g_b, .slice A_b n_b c_b, .slice B_b m_b d_b]
      | 3 => ∃ (e0 : Option Addr) (e1 : Nat) (e2 : Nat) (e3 : Option Addr) (e4 : Nat) (e5 : Nat), vv = .agg #[.bool g_b, .slice e0 e1 e2, .slice e3 e4 e5] ∧ QQ wx g_b e0 e1 e2 xs_b e3 e4 e5 ys_b o_b 70
      | 4 => ∃ (e0 : Nat), vv = .pointer (some ⟨e0, 0, none⟩) ∧ Row3 wx e0 27 (.bool false) (.slice none 0 0) (.slice none 0 0) ∧ Over wS e0 wx
      | _ => ∃ (e0 : Nat), vv = .pointer (some ⟨e0, 0, none⟩) ∧ Row3 wx e0 27 (.bool false) (.slice none 0 0) (.slice none 0 0) ∧ Over wS e0 wx)
    (fun k => k == 4 || k == 5) (by kernel_rfl) ?haF23 rfl (by kernel_rfl) (by kernel_rfl) (fun _ _ _ _ _ h => h) ?hSb23 ?hPb23 ?hS23 ?hop23 ?hfin23
  case haF23 =>
    intro vals
    simp only [fillAll, List.getElem?_cons_zero, List.getElem?_cons_succ, Act.put, List.setIfInBounds_toArray, List.set_cons_zero, List.set_cons_succ]
    exact rfl
  case hSb23 => exact fun wx w2 hb hS => below_two hS hb
  case hPb23 =>
    intro k v wa wb hb h
    match k, h with
    | 0, h => exact h
    | 1, ⟨e0, e1, e2, e3, e4, e5, h1, g0⟩ => exact ⟨e0, e1, e2, e3, e4, e5, h1, g0.below hb⟩
    | 2, h => exact h
    | 3, ⟨e0, e1, e2, e3, e4, e5, h1, g0⟩ => exact ⟨e0, e1, e2, e3, e4, e5, h1, g0.below hb⟩
    | 4, ⟨e0, h1, g0, g1⟩ => exact ⟨e0, h1, g0.below hb, g1.below hb⟩
    | _ + 5, ⟨e0, h1, g0, g1⟩ => exact ⟨e0, h1, g0.below hb, g1.below hb⟩
  case hS23 => exact (Below.refl _ _).drew
  case hop23 =>
    refine .cons (k := 0) ?_ (.cons (k := 1) ?_ (.cons (k := 2) ?_ (.cons (k := 3) ?_ (.cons (k := 4) ?_ (.cons (k := 5) ?_ (.nil))))))
    all_goals intro vals wr hS hd KC hK
    all_goals (show Oper.wp _ _ _ _ _ _; dsimp only)
    · have z0 := (h_ra.below hS).c0
      have z1 := (h_ra.below hS).c1
      have z2 := (h_ra.below hS).c2
      go_simp
      refine hK _ _ rfl (Below.refl _ _) (by first | rfl | simp) (fun h => by cases h)
    · have d0 : vals 0 = _ := hd 0 (by decide +kernel)
      rw [d0]
      go_simp
      go_at_call 6
      with_reducible refine (ownRat_c (h_a.below hS) (by decide)).mono ?_
      rintro e w2 ⟨r0, r1, r2, r3, r4, r5, rfl, f0, bn_r⟩
      refine hK _ _ rfl bn_r ⟨_, _, _, _, _, _, rfl, f0⟩ (fun h => by cases h)
    · have z0 := (h_rb.below hS).c0
      have z1 := (h_rb.below hS).c1
      have z2 := (h_rb.below hS).c2
      go_simp
      refine hK _ _ rfl (Below.refl _ _) (by first | rfl | simp) (fun h => by cases h)
    · have d2 : vals 2 = _ := hd 2 (by decide +kernel)
      rw [d2]
      go_simp
      go_at_call 6
      with_reducible refine (ownRat_c (h_b.below hS) (by decide)).mono ?_
      rintro e w2 ⟨r0, r1, r2, r3, r4, r5, rfl, f0, bn_r⟩
      refine hK _ _ rfl bn_r ⟨_, _, _, _, _, _, rfl, f0⟩ (fun h => by cases h)
    · go_simp
      refine hK _ _ rfl (below_new _ _) ⟨_, rfl, row3_new wr _ _ _ _ , hS.size⟩ (fun _ => ⟨_, rfl, Nat.le_refl _, by rw [World.size_alloc]; omega⟩)
    · go_simp
      refine hK _ _ rfl (below_new _ _) ⟨_, rfl, row3_new wr _ _ _ _ , hS.size⟩ (fun _ => ⟨_, rfl, Nat.le_refl _, by rw [World.size_alloc]; omega⟩)
  case hfin23 =>
    intro vals wr hS hP hne
    obtain ⟨A_1_0, n_1_1, n_1_2, A_1_3, n_1_4, n_1_5, ez_1, h_1_0⟩ := hP 1 (by decide)
    obtain ⟨A_3_0, n_3_1, n_3_2, A_3_3, n_3_4, n_3_5, ez_3, h_3_0⟩ := hP 3 (by decide)
    obtain ⟨n_4_0, ez_4, h_4_0, h_4_1⟩ := hP 4 (by decide)
    obtain ⟨n_5_0, ez_5, h_5_0, h_5_1⟩ := hP 5 (by decide)
    have ne_4_5 : n_4_0 ≠ n_5_0 := hne 4 5 (by decide) (by decide) (by decide) rfl rfl _ _ ez_4 ez_5
    have ne_5_4 : n_5_0 ≠ n_4_0 := hne 5 4 (by decide) (by decide) (by decide) rfl rfl _ _ ez_5 ez_4
    have v0_0 := Row3.c0 h_4_0
    have v0_1 := Row3.c1 h_4_0
    have v0_2 := Row3.c2 h_4_0
    have y0_0 := Row3.free h_4_0 0
    have y0_1 := Row3.free h_4_0 1
    have y0_2 := Row3.free h_4_0 2
    have v1_0 := Row3.c0 h_5_0
    have v1_1 := Row3.c1 h_5_0
    have v1_2 := Row3.c2 h_5_0
    have y1_0 := Row3.free h_5_0 0
    have y1_1 := Row3.free h_5_0 1
    have y1_2 := Row3.free h_5_0 2
    have bS := hS
    have hNo := Row3.noLimb h_4_0 (by intro v e; cases e) (by intro v e; cases e) (by intro v e; cases e)
    replace h_1_0 := QQ.fillR3 h_1_0 hNo (.bool g_a) (.slice A_1_0 n_1_1 n_1_2) (.slice A_1_3 n_1_4 n_1_5)
    replace h_3_0 := QQ.fillR3 h_3_0 hNo (.bool g_a) (.slice A_1_0 n_1_1 n_1_2) (.slice A_1_3 n_1_4 n_1_5)
    replace h_5_0 := (((h_5_0.set ne_4_5 0 (.bool g_a)).set ne_4_5 1 (.slice A_1_0 n_1_1 n_1_2)).set ne_4_5 2 (.slice A_1_3 n_1_4 n_1_5))
    have k_4 := Row3.fill h_4_0 (.bool g_a) (.slice A_1_0 n_1_1 n_1_2) (.slice A_1_3 n_1_4 n_1_5)
    replace bS := below_fill3' bS h_4_1 (.bool g_a) (.slice A_1_0 n_1_1 n_1_2) (.slice A_1_3 n_1_4 n_1_5)
    clear hNo
    have hNo := Row3.noLimb h_5_0 (by intro v e; cases e) (by intro v e; cases e) (by intro v e; cases e)
    replace h_1_0 := QQ.fillR3 h_1_0 hNo (.bool g_b) (.slice A_3_0 n_3_1 n_3_2) (.slice A_3_3 n_3_4 n_3_5)
    replace h_3_0 := QQ.fillR3 h_3_0 hNo (.bool g_b) (.slice A_3_0 n_3_1 n_3_2) (.slice A_3_3 n_3_4 n_3_5)
    replace k_4 := (((k_4.set ne_5_4 0 (.bool g_b)).set ne_5_4 1 (.slice A_3_0 n_3_1 n_3_2)).set ne_5_4 2 (.slice A_3_3 n_3_4 n_3_5))
    have k_5 := Row3.fill h_5_0 (.bool g_b) (.slice A_3_0 n_3_1 n_3_2) (.slice A_3_3 n_3_4 n_3_5)
    replace bS := below_fill3' bS h_5_1 (.bool g_b) (.slice A_3_0 n_3_1 n_3_2) (.slice A_3_3 n_3_4 n_3_5)
    clear hNo
    try dsimp only
    rw [ez_1, ez_3, ez_4, ez_5]
    refine wpAny_ready (rs := [6]) (by kernel_rfl) (by simp) (AllReady.cons rfl (fun KC hK => ?_) AllReady.nil)
    go_simp
    refine hK _ _ ?_
    clear hK KC
    refine wpAny_ready (rs := [7]) (by kernel_rfl) (by simp) (AllReady.cons rfl (fun KC hK => ?_) AllReady.nil)
    go_simp
    refine hK _ _ ?_
    clear hK KC
    refine wpAny_done (by kernel_rfl) ?_ _
    generalize (((((wr.setCell ⟨n_4_0, 0, none⟩ (.bool g_a)).setCell ⟨n_4_0, 1, none⟩ (.slice A_1_0 n_1_1 n_1_2)).setCell ⟨n_4_0, 2, none⟩ (.slice A_1_3 n_1_4 n_1_5)).setCell ⟨n_5_0, 0, none⟩ (.bool g_b)).setCell ⟨n_5_0, 1, none⟩ (.slice A_3_0 n_3_1 n_3_2)).setCell ⟨n_5_0, 2, none⟩ (.slice A_3_3 n_3_4 n_3_5) = w8 at *
    clear hS v0_0 y0_0 v0_1 y0_1 v0_2 y0_2 v1_0 y1_0 v1_1 y1_1 v1_2 y1_2 ez_1 ez_3 ez_4 ez_5 h_4_0 h_4_1 h_5_0 h_5_1
    have bn := bS
    clear bS
    obtain ⟨q_p, A_p, n_p, c_p, B_p, m_p, d_p, eg⟩ : ∃ q A n c B m d, (q, A, n, c, B, m, d) = (n_4_0, A_1_0, n_1_1, n_1_2, A_1_3, n_1_4, n_1_5) := ⟨_, _, _, _, _, _, _, rfl⟩
    injection eg with e1 eg; injection eg with e2 eg; injection eg with e3 eg; injection eg with e4 eg; injection eg with e5 eg; injection eg with e6 e7
    subst e1 e2 e3 e4 e5 e6 e7
    have h_p := h_1_0
    have h_rp := k_4
    clear h_1_0 k_4
    obtain ⟨q_q, A_q, n_q, c_q, B_q, m_q, d_q, eg⟩ : ∃ q A n c B m d, (q, A, n, c, B, m, d) = (n_5_0, A_3_0, n_3_1, n_3_2, A_3_3, n_3_4, n_3_5) := ⟨_, _, _, _, _, _, _, rfl⟩
    injection eg with e1 eg; injection eg with e2 eg; injection eg with e3 eg; injection eg with e4 eg; injection eg with e5 eg; injection eg with e6 e7
    subst e1 e2 e3 e4 e5 e6 e7
    have h_q := h_3_0
    have h_rq := k_5
    clear h_3_0 k_5
    replace h_a := h_a.below bn
    replace h_b := h_b.below bn
    replace h_ra := h_ra.below bn
    replace h_rb := h_rb.below bn
    replace bw := below_two bw bn
    clear bn
    have c_p0 := h_rp.c0
    have c_p1 := h_rp.c1
    have c_p2 := h_rp.c2
    have c_q0 := h_rq.c0
    have c_q1 := h_rq.c1
    have c_q2 := h_rq.c2
    go_wp2_with fail
    clear c_p0 c_p1 c_p2 c_q0 c_q1 c_q2
    refine (rAdd_c h_p h_q (by decide) (by decide) _ _ H0.out).mono ?_
    rintro e w9 ⟨A_s, n_s, c_s, B_s, m_s, d_s, rfl, h_s, bn⟩
    replace h_a := h_a.below bn
    replace h_b := h_b.below bn
    replace h_ra := h_ra.below bn
    replace h_rb := h_rb.below bn
    replace h_p := h_p.below bn
    replace h_rp := h_rp.below bn
    replace h_q := h_q.below bn
    replace h_rq := h_rq.below bn
    replace bw := below_two bw bn
    clear bn
    have h_rs := row3_new w9 27 (.bool (sg (oTop r0))) (.slice A_s n_s c_s) (.slice B_s m_s d_s)
    have bn := below_new w9 (.cells #[Value.bool (sg (oTop r0)), Value.slice A_s n_s c_s, Value.slice B_s m_s d_s] 27)
    replace h_a := h_a.below bn
    replace h_b := h_b.below bn
    replace h_ra := h_ra.below bn
    replace h_rb := h_rb.below bn
    replace h_p := h_p.below bn
    replace h_rp := h_rp.below bn
    replace h_q := h_q.below bn
    replace h_rq := h_rq.below bn
    replace h_s := h_s.below bn
    replace bw := below_two bw bn
    clear bn
    have c_p0 := h_rp.c0
    have c_p1 := h_rp.c1
    have c_p2 := h_rp.c2
    have c_q0 := h_rq.c0
    have c_q1 := h_rq.c1
    have c_q2 := h_rq.c2
    go_wp2_with fail
    clear c_p0 c_p1 c_p2 c_q0 c_q1 c_q2
    generalize w9.alloc (.cells #[Value.bool (sg (oTop r0)), Value.slice A_s n_s c_s, Value.slice B_s m_s d_s] 27) = w10 at *
    obtain ⟨q_s, eg⟩ : ∃ g, g = w9.heap.size := ⟨_, rfl⟩
    rw [← eg] at h_rs ⊢
    clear eg
    refine (rSub_c h_p h_q (by decide) (by decide) _ _ H1.out).mono ?_
    rintro e w11 ⟨A_d, n_d, c_d, B_d, m_d, d_d, rfl, h_d, bn⟩
    replace h_a := h_a.below bn
    replace h_b := h_b.below bn
    replace h_ra := h_ra.below bn
    replace h_rb := h_rb.below bn
    replace h_p := h_p.below bn
    replace h_rp := h_rp.below bn
    replace h_q := h_q.below bn
    replace h_rq := h_rq.below bn
    replace h_s := h_s.below bn
    replace h_rs := h_rs.below bn
    replace bw := below_two bw bn
    clear bn
    have h_rd := row3_new w11 27 (.bool (sg (oTop r1))) (.slice A_d n_d c_d) (.slice B_d m_d d_d)
    have bn := below_new w11 (.cells #[Value.bool (sg (oTop r1)), Value.slice A_d n_d c_d, Value.slice B_d m_d d_d] 27)
    replace h_a := h_a.below bn
    replace h_b := h_b.below bn
    replace h_ra := h_ra.below bn
    replace h_rb := h_rb.below bn
    replace h_p := h_p.below bn
    replace h_rp := h_rp.below bn
    replace h_q := h_q.below bn
    replace h_rq := h_rq.below bn
    replace h_s := h_s.below bn
    replace h_rs := h_rs.below bn
    replace h_d := h_d.below bn
    replace bw := below_two bw bn
    clear bn
    have c_p0 := h_rp.c0
    have c_p1 := h_rp.c1
    have c_p2 := h_rp.c2
    have c_q0 := h_rq.c0
    have c_q1 := h_rq.c1
    have c_q2 := h_rq.c2
    go_wp2_with fail
    clear c_p0 c_p1 c_p2 c_q0 c_q1 c_q2
    generalize w11.alloc (.cells #[Value.bool (sg (oTop r1)), Value.slice A_d n_d c_d, Value.slice B_d m_d d_d] 27) = w12 at *
    obtain ⟨q_d, eg⟩ : ∃ g, g = w11.heap.size := ⟨_, rfl⟩
    rw [← eg] at h_rd ⊢
    clear eg
    refine (rMul_c h_p h_q (by decide) (by decide) _ _ H2.out).mono ?_
    rintro e w13 ⟨A_m, n_m, c_m, B_m, m_m, d_m, rfl, h_m, bn⟩
    replace h_a := h_a.below bn
    replace h_b := h_b.below bn
    replace h_ra := h_ra.below bn
    replace h_rb := h_rb.below bn
    replace h_p := h_p.below bn
    replace h_rp := h_rp.below bn
    replace h_q := h_q.below bn
    replace h_rq := h_rq.below bn
    replace h_s := h_s.below bn
    replace h_rs := h_rs.below bn
    replace h_d := h_d.below bn
    replace h_rd := h_rd.below bn
    replace bw := below_two bw bn
    clear bn
    have h_rm := row3_new w13 27 (.bool (sg (oTop r2))) (.slice A_m n_m c_m) (.slice B_m m_m d_m)
    have bn := below_new w13 (.cells #[Value.bool (sg (oTop r2)), Value.slice A_m n_m c_m, Value.slice B_m m_m d_m] 27)
    replace h_a := h_a.below bn
    replace h_b := h_b.below bn
    replace h_ra := h_ra.below bn
    replace h_rb := h_rb.below bn
    replace h_p := h_p.below bn
    replace h_rp := h_rp.below bn
    replace h_q := h_q.below bn
    replace h_rq := h_rq.below bn
    replace h_s := h_s.below bn
    replace h_rs := h_rs.below bn
    replace h_d := h_d.below bn
    replace h_rd := h_rd.below bn
    replace h_m := h_m.below bn
    replace bw := below_two bw bn
    clear bn
    have c_p0 := h_rp.c0
    have c_p1 := h_rp.c1
    have c_p2 := h_rp.c2
    have c_q0 := h_rq.c0
    have c_q1 := h_rq.c1
    have c_q2 := h_rq.c2
    go_wp2_with fail
    clear c_p0 c_p1 c_p2 c_q0 c_q1 c_q2
    generalize w13.alloc (.cells #[Value.bool (sg (oTop r2)), Value.slice A_m n_m c_m, Value.slice B_m m_m d_m] 27) = w14 at *
    obtain ⟨q_m, eg⟩ : ∃ g, g = w13.heap.size := ⟨_, rfl⟩
    rw [← eg] at h_rm ⊢
    clear eg
    refine (rDiv_c h_p h_q (by decide) (by decide) _ _ H3.out).mono ?_
    rintro e w15 ⟨A_t, n_t, c_t, B_t, m_t, d_t, rfl, h_t, bn⟩
    replace h_a := h_a.below bn
    replace h_b := h_b.below bn
    replace h_ra := h_ra.below bn
    replace h_rb := h_rb.below bn
    replace h_p := h_p.below bn
    replace h_rp := h_rp.below bn
    replace h_q := h_q.below bn
    replace h_rq := h_rq.below bn
    replace h_s := h_s.below bn
    replace h_rs := h_rs.below bn
    replace h_d := h_d.below bn
    replace h_rd := h_rd.below bn
    replace h_m := h_m.below bn
    replace h_rm := h_rm.below bn
    replace bw := below_two bw bn
    clear bn
    have h_rt := row3_new w15 27 (.bool (sg (oTop r3))) (.slice A_t n_t c_t) (.slice B_t m_t d_t)
    have bn := below_new w15 (.cells #[Value.bool (sg (oTop r3)), Value.slice A_t n_t c_t, Value.slice B_t m_t d_t] 27)
    replace h_a := h_a.below bn
    replace h_b := h_b.below bn
    replace h_ra := h_ra.below bn
    replace h_rb := h_rb.below bn
    replace h_p := h_p.below bn
    replace h_rp := h_rp.below bn
    replace h_q := h_q.below bn
    replace h_rq := h_rq.below bn
    replace h_s := h_s.below bn
    replace h_rs := h_rs.below bn
    replace h_d := h_d.below bn
    replace h_rd := h_rd.below bn
    replace h_m := h_m.below bn
    replace h_rm := h_rm.below bn
    replace h_t := h_t.below bn
    replace bw := below_two bw bn
    clear bn
    go_wp2
    generalize w15.alloc (.cells #[Value.bool (sg (oTop r3)), Value.slice A_t n_t c_t, Value.slice B_t m_t d_t] 27) = w16 at *
    obtain ⟨q_t, eg⟩ : ∃ g, g = w15.heap.size := ⟨_, rfl⟩
    rw [← eg] at h_rt ⊢
    clear eg
    generalize w16 = wS at *
    refine region_freed 16 4 6 [56, 57, 58, 59, 60, 61, 62, 63, 64, 65, 66, 67, 17, 18, 19, 20] ?aF24 (fun wx => Below wS.heap.size wS wx) (fun k vv wx => match k with
        | 0 => vv = .agg #[.bool g_a, .slice A_a n_a c_a, .slice B_a m_a d_a]
        | 1 => vv = .agg #[.bool g_b, .slice A_b n_b c_b, .slice B_b m_b d_b]
        | 2 => ∃ (e0 : Option Addr) (e1 : Nat) (e2 : Nat) (e3 : Option Addr) (e4 : Nat) (e5 : Nat), vv = .agg #[.bool (sg (oTop r0)), .slice e0 e1 e2, .slice e3 e4 e5, .int .i64 k0] ∧ QT wx e0 e1 e2 e3 e4 e5 r0
        | 3 => vv = .agg #[.bool g_a, .slice A_a n_a c_a, .slice B_a m_a d_a]
        | 4 => vv = .agg #[.bool g_b, .slice A_b n_b c_b, .slice B_b m_b d_b]
        | 5 => ∃ (e0 : Option Addr) (e1 : Nat) (e2 : Nat) (e3 : Option Addr) (e4 : Nat) (e5 : Nat), vv = .agg #[.bool (sg (oTop r1)), .slice e0 e1 e2, .slice e3 e4 e5, .int .i64 k1] ∧ QT wx e0 e1 e2 e3 e4 e5 r1
        | 6 => vv = .agg #[.bool g_a, .slice A_a n_a c_a, .slice B_a m_a d_a]
        | 7 => vv = .agg #[.bool g_b, .slice A_b n_b c_b, .slice B_b m_b d_b]
        | 8 => ∃ (e0 : Option Addr) (e1 : Nat) (e2 : Nat) (e3 : Option Addr) (e4 : Nat) (e5 : Nat), vv = .agg #[.bool (sg (oTop r2)), .slice e0 e1 e2, .slice e3 e4 e5, .int .i64 k2] ∧ QT wx e0 e1 e2 e3 e4 e5 r2
        | 9 => vv = .agg #[.bool g_a, .slice A_a n_a c_a, .slice B_a m_a d_a]
        | 10 => vv = .agg #[.bool g_b, .slice A_b n_b c_b, .slice B_b m_b d_b]
        | 11 => ∃ (e0 : Option Addr) (e1 : Nat) (e2 : Nat) (e3 : Option Addr) (e4 : Nat) (e5 : Nat), vv = .agg #[.bool (sg (oTop r3)), .slice e0 e1 e2, .slice e3 e4 e5, .int .i64 k3] ∧ QT wx e0 e1 e2 e3 e4 e5 r3
        | 12 => ∃ (e0 : Nat), vv = .pointer (some ⟨e0, 0, none⟩) ∧ Row4 wx e0 35 (.bool false) (.slice none 0 0) (.slice none 0 0) (.int .i64 0) ∧ Over wS e0 wx
        | 13 => ∃ (e0 : Nat), vv = .pointer (some ⟨e0, 0, none⟩) ∧ Row4 wx e0 35 (.bool false) (.slice none 0 0) (.slice none 0 0) (.int .i64 0) ∧ Over wS e0 wx
        | 14 => ∃ (e0 : Nat), vv = .pointer (some ⟨e0, 0, none⟩) ∧ Row4 wx e0 35 (.bool false) (.slice none 0 0) (.slice none 0 0) (.int .i64 0) ∧ Over wS e0 wx
        | _ => ∃ (e0 : Nat), vv = .pointer (some ⟨e0, 0, none⟩) ∧ Row4 wx e0 35 (.bool false) (.slice none 0 0) (.slice none 0 0) (.int .i64 0) ∧ Over wS e0 wx)
      (fun k => k == 12 || k == 13 || k == 14 || k == 15) (by kernel_rfl) ?haF24 rfl (by kernel_rfl) (by kernel_rfl) (fun _ _ _ _ _ h => h) ?hSb24 ?hPb24 ?hS24 ?hop24 ?hfin24
    case haF24 =>
      intro vals
      simp only [fillAll, List.getElem?_cons_zero, List.getElem?_cons_succ, Act.put, List.setIfInBounds_toArray, List.set_cons_zero, List.set_cons_succ]
      exact rfl
    case hSb24 => exact fun wx w2 hb hS => below_two hS hb
    case hPb24 =>
      intro k v wa wb hb h
      match k, h with
      | 0, h => exact h
      | 1, h => exact h
      | 2, ⟨e0, e1, e2, e3, e4, e5, h1, g0⟩ => exact ⟨e0, e1, e2, e3, e4, e5, h1, g0.below hb⟩
      | 3, h => exact h
      | 4, h => exact h
      | 5, ⟨e0, e1, e2, e3, e4, e5, h1, g0⟩ => exact ⟨e0, e1, e2, e3, e4, e5, h1, g0.below hb⟩
      | 6, h => exact h
      | 7, h => exact h
      | 8, ⟨e0, e1, e2, e3, e4, e5, h1, g0⟩ => exact ⟨e0, e1, e2, e3, e4, e5, h1, g0.below hb⟩
      | 9, h => exact h
      | 10, h => exact h
      | 11, ⟨e0, e1, e2, e3, e4, e5, h1, g0⟩ => exact ⟨e0, e1, e2, e3, e4, e5, h1, g0.below hb⟩
      | 12, ⟨e0, h1, g0, g1⟩ => exact ⟨e0, h1, g0.below hb, g1.below hb⟩
      | 13, ⟨e0, h1, g0, g1⟩ => exact ⟨e0, h1, g0.below hb, g1.below hb⟩
      | 14, ⟨e0, h1, g0, g1⟩ => exact ⟨e0, h1, g0.below hb, g1.below hb⟩
      | _ + 15, ⟨e0, h1, g0, g1⟩ => exact ⟨e0, h1, g0.below hb, g1.below hb⟩
    case hS24 => exact (Below.refl _ _).drew
    case hop24 =>
      refine .cons (k := 0) (.plain rfl ?_) (.cons (k := 1) (.plain rfl ?_) (.cons (k := 2) (.plain rfl ?_) (.cons (k := 3) (.plain rfl ?_) (.cons (k := 4) (.plain rfl ?_) (.cons (k := 5) (.plain rfl ?_) (.cons (k := 6) (.plain rfl ?_) (.cons (k := 7) (.plain rfl ?_) (.cons (k := 8) (.plain rfl ?_) (.cons (k := 9) (.plain rfl ?_) (.cons (k := 10) (.plain rfl ?_) (.cons (k := 11) (.plain rfl ?_) (.cons (k := 12) (.plain rfl ?_) (.cons (k := 13) (.plain rfl ?_) (.cons (k := 14) (.plain rfl ?_) (.cons (k := 15) (.plain rfl ?_) (.nil))))))))))))))))
      all_goals intro vals wr hS hd KC hK
      all_goals (show Oper.wp _ _ _ _ _ _; dsimp only)
      · have z0 := (h_ra.below hS).c0
        have z1 := (h_ra.below hS).c1
        have z2 := (h_ra.below hS).c2
        go_simp
        refine hK _ _ rfl (Below.refl _ _) (by first | rfl | simp) (fun h => by cases h)
      · have z0 := (h_rb.below hS).c0
        have z1 := (h_rb.below hS).c1
        have z2 := (h_rb.below hS).c2
        go_simp
        refine hK _ _ rfl (Below.refl _ _) (by first | rfl | simp) (fun h => by cases h)
      · have d0 : vals 0 = _ := hd 0 (by decide +kernel)
        have d1 : vals 1 = _ := hd 1 (by decide +kernel)
        rw [d0, d1]
        go_simp
        go_at_call 11
        with_reducible refine (refQAdd_c (h_a.below hS) (h_b.below hS) (by decide) (by decide) _ _ H0.out).mono ?_
        rintro e w2 ⟨r0, r1, r2, r3, r4, r5, rfl, f0, bn_r⟩
        refine hK _ _ rfl bn_r ⟨_, _, _, _, _, _, rfl, f0⟩ (fun h => by cases h)
      · have z0 := (h_ra.below hS).c0
        have z1 := (h_ra.below hS).c1
        have z2 := (h_ra.below hS).c2
        go_simp
        refine hK _ _ rfl (Below.refl _ _) (by first | rfl | simp) (fun h => by cases h)
      · have z0 := (h_rb.below hS).c0
        have z1 := (h_rb.below hS).c1
        have z2 := (h_rb.below hS).c2
        go_simp
        refine hK _ _ rfl (Below.refl _ _) (by first | rfl | simp) (fun h => by cases h)
      · have d3 : vals 3 = _ := hd 3 (by decide +kernel)
        have d4 : vals 4 = _ := hd 4 (by decide +kernel)
        rw [d3, d4]
        go_simp
        go_at_call 12
        with_reducible refine (refQSub_c (h_a.below hS) (h_b.below hS) (by decide) (by decide) _ _ H1.out).mono ?_
        rintro e w2 ⟨r0, r1, r2, r3, r4, r5, rfl, f0, bn_r⟩
        refine hK _ _ rfl bn_r ⟨_, _, _, _, _, _, rfl, f0⟩ (fun h => by cases h)
      · have z0 := (h_ra.below hS).c0
        have z1 := (h_ra.below hS).c1
        have z2 := (h_ra.below hS).c2
        go_simp
        refine hK _ _ rfl (Below.refl _ _) (by first | rfl | simp) (fun h => by cases h)
      · have z0 := (h_rb.below hS).c0
        have z1 := (h_rb.below hS).c1
        have z2 := (h_rb.below hS).c2
        go_simp
        refine hK _ _ rfl (Below.refl _ _) (by first | rfl | simp) (fun h => by cases h)
      · have d6 : vals 6 = _ := hd 6 (by decide +kernel)
        have d7 : vals 7 = _ := hd 7 (by decide +kernel)
        rw [d6, d7]
        go_simp
        go_at_call 13
        with_reducible refine (refQMul_c (h_a.below hS) (h_b.below hS) (by decide) (by decide) _ _ H2.out).mono ?_
        rintro e w2 ⟨r0, r1, r2, r3, r4, r5, rfl, f0, bn_r⟩
        refine hK _ _ rfl bn_r ⟨_, _, _, _, _, _, rfl, f0⟩ (fun h => by cases h)
      · have z0 := (h_ra.below hS).c0
        have z1 := (h_ra.below hS).c1
        have z2 := (h_ra.below hS).c2
        go_simp
        refine hK _ _ rfl (Below.refl _ _) (by first | rfl | simp) (fun h => by cases h)
      · have z0 := (h_rb.below hS).c0
        have z1 := (h_rb.below hS).c1
        have z2 := (h_rb.below hS).c2
        go_simp
        refine hK _ _ rfl (Below.refl _ _) (by first | rfl | simp) (fun h => by cases h)
      · have d9 : vals 9 = _ := hd 9 (by decide +kernel)
        have d10 : vals 10 = _ := hd 10 (by decide +kernel)
        rw [d9, d10]
        go_simp
        go_at_call 14
        with_reducible refine (refQDiv_c (h_a.below hS) (h_b.below hS) (by decide) (by decide) _ _ H3.out).mono ?_
        rintro e w2 ⟨r0, r1, r2, r3, r4, r5, rfl, f0, bn_r⟩
        refine hK _ _ rfl bn_r ⟨_, _, _, _, _, _, rfl, f0⟩ (fun h => by cases h)
      · go_simp
        refine hK _ _ rfl (below_new _ _) ⟨_, rfl, row4_new wr _ _ _ _ _ , hS.size⟩ (fun _ => ⟨_, rfl, Nat.le_refl _, by rw [World.size_alloc]; omega⟩)
      · go_simp
        refine hK _ _ rfl (below_new _ _) ⟨_, rfl, row4_new wr _ _ _ _ _ , hS.size⟩ (fun _ => ⟨_, rfl, Nat.le_refl _, by rw [World.size_alloc]; omega⟩)
      · go_simp
        refine hK _ _ rfl (below_new _ _) ⟨_, rfl, row4_new wr _ _ _ _ _ , hS.size⟩ (fun _ => ⟨_, rfl, Nat.le_refl _, by rw [World.size_alloc]; omega⟩)
      · go_simp
        refine hK _ _ rfl (below_new _ _) ⟨_, rfl, row4_new wr _ _ _ _ _ , hS.size⟩ (fun _ => ⟨_, rfl, Nat.le_refl _, by rw [World.size_alloc]; omega⟩)
    case hfin24 =>
      intro vals wr hS hP hne
      obtain ⟨A_2_0, n_2_1, n_2_2, A_2_3, n_2_4, n_2_5, ez_2, h_2_0⟩ := hP 2 (by decide)
      obtain ⟨A_5_0, n_5_1, n_5_2, A_5_3, n_5_4, n_5_5, ez_5, h_5_0⟩ := hP 5 (by decide)
      obtain ⟨A_8_0, n_8_1, n_8_2, A_8_3, n_8_4, n_8_5, ez_8, h_8_0⟩ := hP 8 (by decide)
      obtain ⟨A_11_0, n_11_1, n_11_2, A_11_3, n_11_4, n_11_5, ez_11, h_11_0⟩ := hP 11 (by decide)
      obtain ⟨n_12_0, ez_12, h_12_0, h_12_1⟩ := hP 12 (by decide)
      obtain ⟨n_13_0, ez_13, h_13_0, h_13_1⟩ := hP 13 (by decide)
      obtain ⟨n_14_0, ez_14, h_14_0, h_14_1⟩ := hP 14 (by decide)
      obtain ⟨n_15_0, ez_15, h_15_0, h_15_1⟩ := hP 15 (by decide)
      have ne_12_13 : n_12_0 ≠ n_13_0 := hne 12 13 (by decide) (by decide) (by decide) rfl rfl _ _ ez_12 ez_13
      have ne_12_14 : n_12_0 ≠ n_14_0 := hne 12 14 (by decide) (by decide) (by decide) rfl rfl _ _ ez_12 ez_14
      have ne_12_15 : n_12_0 ≠ n_15_0 := hne 12 15 (by decide) (by decide) (by decide) rfl rfl _ _ ez_12 ez_15
      have ne_13_12 : n_13_0 ≠ n_12_0 := hne 13 12 (by decide) (by decide) (by decide) rfl rfl _ _ ez_13 ez_12
      have ne_13_14 : n_13_0 ≠ n_14_0 := hne 13 14 (by decide) (by decide) (by decide) rfl rfl _ _ ez_13 ez_14
      have ne_13_15 : n_13_0 ≠ n_15_0 := hne 13 15 (by decide) (by decide) (by decide) rfl rfl _ _ ez_13 ez_15
      have ne_14_12 : n_14_0 ≠ n_12_0 := hne 14 12 (by decide) (by decide) (by decide) rfl rfl _ _ ez_14 ez_12
      have ne_14_13 : n_14_0 ≠ n_13_0 := hne 14 13 (by decide) (by decide) (by decide) rfl rfl _ _ ez_14 ez_13
      have ne_14_15 : n_14_0 ≠ n_15_0 := hne 14 15 (by decide) (by decide) (by decide) rfl rfl _ _ ez_14 ez_15
      have ne_15_12 : n_15_0 ≠ n_12_0 := hne 15 12 (by decide) (by decide) (by decide) rfl rfl _ _ ez_15 ez_12
      have ne_15_13 : n_15_0 ≠ n_13_0 := hne 15 13 (by decide) (by decide) (by decide) rfl rfl _ _ ez_15 ez_13
      have ne_15_14 : n_15_0 ≠ n_14_0 := hne 15 14 (by decide) (by decide) (by decide) rfl rfl _ _ ez_15 ez_14
      have v0_0 := Row4.c0 h_12_0
      have v0_1 := Row4.c1 h_12_0
      have v0_2 := Row4.c2 h_12_0
      have v0_3 := Row4.c3 h_12_0
      have y0_0 := Row4.free h_12_0 0
      have y0_1 := Row4.free h_12_0 1
      have y0_2 := Row4.free h_12_0 2
      have y0_3 := Row4.free h_12_0 3
      have v1_0 := Row4.c0 h_13_0
      have v1_1 := Row4.c1 h_13_0
      have v1_2 := Row4.c2 h_13_0
      have v1_3 := Row4.c3 h_13_0
      have y1_0 := Row4.free h_13_0 0
      have y1_1 := Row4.free h_13_0 1
      have y1_2 := Row4.free h_13_0 2
      have y1_3 := Row4.free h_13_0 3
      have v2_0 := Row4.c0 h_14_0
      have v2_1 := Row4.c1 h_14_0
      have v2_2 := Row4.c2 h_14_0
      have v2_3 := Row4.c3 h_14_0
      have y2_0 := Row4.free h_14_0 0
      have y2_1 := Row4.free h_14_0 1
      have y2_2 := Row4.free h_14_0 2
      have y2_3 := Row4.free h_14_0 3
      have v3_0 := Row4.c0 h_15_0
      have v3_1 := Row4.c1 h_15_0
      have v3_2 := Row4.c2 h_15_0
      have v3_3 := Row4.c3 h_15_0
      have y3_0 := Row4.free h_15_0 0
      have y3_1 := Row4.free h_15_0 1
      have y3_2 := Row4.free h_15_0 2
      have y3_3 := Row4.free h_15_0 3
      have bS := hS
      have hNo := Row4.noLimb h_12_0 (by intro v e; cases e) (by intro v e; cases e) (by intro v e; cases e) (by intro v e; cases e)
      replace h_2_0 := QQ.fillR4 h_2_0 hNo (.bool (sg (oTop r0))) (.slice A_2_0 n_2_1 n_2_2) (.slice A_2_3 n_2_4 n_2_5) (.int .i64 k0)
      replace h_5_0 := QQ.fillR4 h_5_0 hNo (.bool (sg (oTop r0))) (.slice A_2_0 n_2_1 n_2_2) (.slice A_2_3 n_2_4 n_2_5) (.int .i64 k0)
      replace h_8_0 := QQ.fillR4 h_8_0 hNo (.bool (sg (oTop r0))) (.slice A_2_0 n_2_1 n_2_2) (.slice A_2_3 n_2_4 n_2_5) (.int .i64 k0)
      replace h_11_0 := QQ.fillR4 h_11_0 hNo (.bool (sg (oTop r0))) (.slice A_2_0 n_2_1 n_2_2) (.slice A_2_3 n_2_4 n_2_5) (.int .i64 k0)
      replace h_13_0 := ((((h_13_0.set ne_12_13 0 (.bool (sg (oTop r0)))).set ne_12_13 1 (.slice A_2_0 n_2_1 n_2_2)).set ne_12_13 2 (.slice A_2_3 n_2_4 n_2_5)).set ne_12_13 3 (.int .i64 k0))
      replace h_14_0 := ((((h_14_0.set ne_12_14 0 (.bool (sg (oTop r0)))).set ne_12_14 1 (.slice A_2_0 n_2_1 n_2_2)).set ne_12_14 2 (.slice A_2_3 n_2_4 n_2_5)).set ne_12_14 3 (.int .i64 k0))
      replace h_15_0 := ((((h_15_0.set ne_12_15 0 (.bool (sg (oTop r0)))).set ne_12_15 1 (.slice A_2_0 n_2_1 n_2_2)).set ne_12_15 2 (.slice A_2_3 n_2_4 n_2_5)).set ne_12_15 3 (.int .i64 k0))
      have k_12 := Row4.fill h_12_0 (.bool (sg (oTop r0))) (.slice A_2_0 n_2_1 n_2_2) (.slice A_2_3 n_2_4 n_2_5) (.int .i64 k0)
      replace bS := below_fill4 bS h_12_1 (.bool (sg (oTop r0))) (.slice A_2_0 n_2_1 n_2_2) (.slice A_2_3 n_2_4 n_2_5) (.int .i64 k0)
      clear hNo
      have hNo := Row4.noLimb h_13_0 (by intro v e; cases e) (by intro v e; cases e) (by intro v e; cases e) (by intro v e; cases e)
      replace h_2_0 := QQ.fillR4 h_2_0 hNo (.bool (sg (oTop r1))) (.slice A_5_0 n_5_1 n_5_2) (.slice A_5_3 n_5_4 n_5_5) (.int .i64 k1)
      replace h_5_0 := QQ.fillR4 h_5_0 hNo (.bool (sg (oTop r1))) (.slice A_5_0 n_5_1 n_5_2) (.slice A_5_3 n_5_4 n_5_5) (.int .i64 k1)
      replace h_8_0 := QQ.fillR4 h_8_0 hNo (.bool (sg (oTop r1))) (.slice A_5_0 n_5_1 n_5_2) (.slice A_5_3 n_5_4 n_5_5) (.int .i64 k1)
      replace h_11_0 := QQ.fillR4 h_11_0 hNo (.bool (sg (oTop r1))) (.slice A_5_0 n_5_1 n_5_2) (.slice A_5_3 n_5_4 n_5_5) (.int .i64 k1)
      replace k_12 := ((((k_12.set ne_13_12 0 (.bool (sg (oTop r1)))).set ne_13_12 1 (.slice A_5_0 n_5_1 n_5_2)).set ne_13_12 2 (.slice A_5_3 n_5_4 n_5_5)).set ne_13_12 3 (.int .i64 k1))
      replace h_14_0 := ((((h_14_0.set ne_13_14 0 (.bool (sg (oTop r1)))).set ne_13_14 1 (.slice A_5_0 n_5_1 n_5_2)).set ne_13_14 2 (.slice A_5_3 n_5_4 n_5_5)).set ne_13_14 3 (.int .i64 k1))
      replace h_15_0 := ((((h_15_0.set ne_13_15 0 (.bool (sg (oTop r1)))).set ne_13_15 1 (.slice A_5_0 n_5_1 n_5_2)).set ne_13_15 2 (.slice A_5_3 n_5_4 n_5_5)).set ne_13_15 3 (.int .i64 k1))
      have k_13 := Row4.fill h_13_0 (.bool (sg (oTop r1))) (.slice A_5_0 n_5_1 n_5_2) (.slice A_5_3 n_5_4 n_5_5) (.int .i64 k1)
      replace bS := below_fill4 bS h_13_1 (.bool (sg (oTop r1))) (.slice A_5_0 n_5_1 n_5_2) (.slice A_5_3 n_5_4 n_5_5) (.int .i64 k1)
      clear hNo
      have hNo := Row4.noLimb h_14_0 (by intro v e; cases e) (by intro v e; cases e) (by intro v e; cases e) (by intro v e; cases e)
      replace h_2_0 := QQ.fillR4 h_2_0 hNo (.bool (sg (oTop r2))) (.slice A_8_0 n_8_1 n_8_2) (.slice A_8_3 n_8_4 n_8_5) (.int .i64 k2)
      replace h_5_0 := QQ.fillR4 h_5_0 hNo (.bool (sg (oTop r2))) (.slice A_8_0 n_8_1 n_8_2) (.slice A_8_3 n_8_4 n_8_5) (.int .i64 k2)
      replace h_8_0 := QQ.fillR4 h_8_0 hNo (.bool (sg (oTop r2))) (.slice A_8_0 n_8_1 n_8_2) (.slice A_8_3 n_8_4 n_8_5) (.int .i64 k2)
      replace h_11_0 := QQ.fillR4 h_11_0 hNo (.bool (sg (oTop r2))) (.slice A_8_0 n_8_1 n_8_2) (.slice A_8_3 n_8_4 n_8_5) (.int .i64 k2)
      replace k_12 := ((((k_12.set ne_14_12 0 (.bool (sg (oTop r2)))).set ne_14_12 1 (.slice A_8_0 n_8_1 n_8_2)).set ne_14_12 2 (.slice A_8_3 n_8_4 n_8_5)).set ne_14_12 3 (.int .i64 k2))
      replace k_13 := ((((k_13.set ne_14_13 0 (.bool (sg (oTop r2)))).set ne_14_13 1 (.slice A_8_0 n_8_1 n_8_2)).set ne_14_13 2 (.slice A_8_3 n_8_4 n_8_5)).set ne_14_13 3 (.int .i64 k2))
      replace h_15_0 := ((((h_15_0.set ne_14_15 0 (.bool (sg (oTop r2)))).set ne_14_15 1 (.slice A_8_0 n_8_1 n_8_2)).set ne_14_15 2 (.slice A_8_3 n_8_4 n_8_5)).set ne_14_15 3 (.int .i64 k2))
      have k_14 := Row4.fill h_14_0 (.bool (sg (oTop r2))) (.slice A_8_0 n_8_1 n_8_2) (.slice A_8_3 n_8_4 n_8_5) (.int .i64 k2)
      replace bS := below_fill4 bS h_14_1 (.bool (sg (oTop r2))) (.slice A_8_0 n_8_1 n_8_2) (.slice A_8_3 n_8_4 n_8_5) (.int .i64 k2)
      clear hNo
      have hNo := Row4.noLimb h_15_0 (by intro v e; cases e) (by intro v e; cases e) (by intro v e; cases e) (by intro v e; cases e)
      replace h_2_0 := QQ.fillR4 h_2_0 hNo (.bool (sg (oTop r3))) (.slice A_11_0 n_11_1 n_11_2) (.slice A_11_3 n_11_4 n_11_5) (.int .i64 k3)
      replace h_5_0 := QQ.fillR4 h_5_0 hNo (.bool (sg (oTop r3))) (.slice A_11_0 n_11_1 n_11_2) (.slice A_11_3 n_11_4 n_11_5) (.int .i64 k3)
      replace h_8_0 := QQ.fillR4 h_8_0 hNo (.bool (sg (oTop r3))) (.slice A_11_0 n_11_1 n_11_2) (.slice A_11_3 n_11_4 n_11_5) (.int .i64 k3)
      replace h_11_0 := QQ.fillR4 h_11_0 hNo (.bool (sg (oTop r3))) (.slice A_11_0 n_11_1 n_11_2) (.slice A_11_3 n_11_4 n_11_5) (.int .i64 k3)
      replace k_12 := ((((k_12.set ne_15_12 0 (.bool (sg (oTop r3)))).set ne_15_12 1 (.slice A_11_0 n_11_1 n_11_2)).set ne_15_12 2 (.slice A_11_3 n_11_4 n_11_5)).set ne_15_12 3 (.int .i64 k3))
      replace k_13 := ((((k_13.set ne_15_13 0 (.bool (sg (oTop r3)))).set ne_15_13 1 (.slice A_11_0 n_11_1 n_11_2)).set ne_15_13 2 (.slice A_11_3 n_11_4 n_11_5)).set ne_15_13 3 (.int .i64 k3))
      replace k_14 := ((((k_14.set ne_15_14 0 (.bool (sg (oTop r3)))).set ne_15_14 1 (.slice A_11_0 n_11_1 n_11_2)).set ne_15_14 2 (.slice A_11_3 n_11_4 n_11_5)).set ne_15_14 3 (.int .i64 k3))
      have k_15 := Row4.fill h_15_0 (.bool (sg (oTop r3))) (.slice A_11_0 n_11_1 n_11_2) (.slice A_11_3 n_11_4 n_11_5) (.int .i64 k3)
      replace bS := below_fill4 bS h_15_1 (.bool (sg (oTop r3))) (.slice A_11_0 n_11_1 n_11_2) (.slice A_11_3 n_11_4 n_11_5) (.int .i64 k3)
      clear hNo
      try dsimp only
      rw [ez_2, ez_5, ez_8, ez_11, ez_12, ez_13, ez_14, ez_15]
      refine wpAny_ready (rs := [16]) (by kernel_rfl) (by simp) (AllReady.cons rfl (fun KC hK => ?_) AllReady.nil)
      go_simp
      refine hK _ _ ?_
      clear hK KC
      refine wpAny_ready (rs := [17]) (by kernel_rfl) (by simp) (AllReady.cons rfl (fun KC hK => ?_) AllReady.nil)
      go_simp
      refine hK _ _ ?_
      clear hK KC
      refine wpAny_ready (rs := [18]) (by kernel_rfl) (by simp) (AllReady.cons rfl (fun KC hK => ?_) AllReady.nil)
      go_simp
      refine hK _ _ ?_
      clear hK KC
      refine wpAny_ready (rs := [19]) (by kernel_rfl) (by simp) (AllReady.cons rfl (fun KC hK => ?_) AllReady.nil)
      go_simp
      refine hK _ _ ?_
      clear hK KC
      refine wpAny_done (by kernel_rfl) ?_ _
      generalize (((((((((((((((wr.setCell ⟨n_12_0, 0, none⟩ (.bool (sg (oTop r0)))).setCell ⟨n_12_0, 1, none⟩ (.slice A_2_0 n_2_1 n_2_2)).setCell ⟨n_12_0, 2, none⟩ (.slice A_2_3 n_2_4 n_2_5)).setCell ⟨n_12_0, 3, none⟩ (.int .i64 k0)).setCell ⟨n_13_0, 0, none⟩ (.bool (sg (oTop r1)))).setCell ⟨n_13_0, 1, none⟩ (.slice A_5_0 n_5_1 n_5_2)).setCell ⟨n_13_0, 2, none⟩ (.slice A_5_3 n_5_4 n_5_5)).setCell ⟨n_13_0, 3, none⟩ (.int .i64 k1)).setCell ⟨n_14_0, 0, none⟩ (.bool (sg (oTop r2)))).setCell ⟨n_14_0, 1, none⟩ (.slice A_8_0 n_8_1 n_8_2)).setCell ⟨n_14_0, 2, none⟩ (.slice A_8_3 n_8_4 n_8_5)).setCell ⟨n_14_0, 3, none⟩ (.int .i64 k2)).setCell ⟨n_15_0, 0, none⟩ (.bool (sg (oTop r3)))).setCell ⟨n_15_0, 1, none⟩ (.slice A_11_0 n_11_1 n_11_2)).setCell ⟨n_15_0, 2, none⟩ (.slice A_11_3 n_11_4 n_11_5)).setCell ⟨n_15_0, 3, none⟩ (.int .i64 k3) = w17 at *
      clear hS v0_0 y0_0 v0_1 y0_1 v0_2 y0_2 v0_3 y0_3 v1_0 y1_0 v1_1 y1_1 v1_2 y1_2 v1_3 y1_3 v2_0 y2_0 v2_1 y2_1 v2_2 y2_2 v2_3 y2_3 v3_0 y3_0 v3_1 y3_1 v3_2 y3_2 v3_3 y3_3 ez_2 ez_5 ez_8 ez_11 ez_12 ez_13 ez_14 ez_15 h_12_0 h_12_1 h_13_0 h_13_1 h_14_0 h_14_1 h_15_0 h_15_1
      have bn := bS
      clear bS
      obtain ⟨q_gx, A_gx, n_gx, c_gx, B_gx, m_gx, d_gx, eg⟩ : ∃ q A n c B m d, (q, A, n, c, B, m, d) = (n_12_0, A_2_0, n_2_1, n_2_2, A_2_3, n_2_4, n_2_5) := ⟨_, _, _, _, _, _, _, rfl⟩
      injection eg with e1 eg; injection eg with e2 eg; injection eg with e3 eg; injection eg with e4 eg; injection eg with e5 eg; injection eg with e6 e7
      subst e1 e2 e3 e4 e5 e6 e7
      have h_gx := h_2_0
      have h_rgx := k_12
      clear h_2_0 k_12
      obtain ⟨q_gy, A_gy, n_gy, c_gy, B_gy, m_gy, d_gy, eg⟩ : ∃ q A n c B m d, (q, A, n, c, B, m, d) = (n_13_0, A_5_0, n_5_1, n_5_2, A_5_3, n_5_4, n_5_5) := ⟨_, _, _, _, _, _, _, rfl⟩
      injection eg with e1 eg; injection eg with e2 eg; injection eg with e3 eg; injection eg with e4 eg; injection eg with e5 eg; injection eg with e6 e7
      subst e1 e2 e3 e4 e5 e6 e7
      have h_gy := h_5_0
      have h_rgy := k_13
      clear h_5_0 k_13
      obtain ⟨q_gz, A_gz, n_gz, c_gz, B_gz, m_gz, d_gz, eg⟩ : ∃ q A n c B m d, (q, A, n, c, B, m, d) = (n_14_0, A_8_0, n_8_1, n_8_2, A_8_3, n_8_4, n_8_5) := ⟨_, _, _, _, _, _, _, rfl⟩
      injection eg with e1 eg; injection eg with e2 eg; injection eg with e3 eg; injection eg with e4 eg; injection eg with e5 eg; injection eg with e6 e7
      subst e1 e2 e3 e4 e5 e6 e7
      have h_gz := h_8_0
      have h_rgz := k_14
      clear h_8_0 k_14
      obtain ⟨q_gw, A_gw, n_gw, c_gw, B_gw, m_gw, d_gw, eg⟩ : ∃ q A n c B m d, (q, A, n, c, B, m, d) = (n_15_0, A_11_0, n_11_1, n_11_2, A_11_3, n_11_4, n_11_5) := ⟨_, _, _, _, _, _, _, rfl⟩
      injection eg with e1 eg; injection eg with e2 eg; injection eg with e3 eg; injection eg with e4 eg; injection eg with e5 eg; injection eg with e6 e7
      subst e1 e2 e3 e4 e5 e6 e7
      have h_gw := h_11_0
      have h_rgw := k_15
      clear h_11_0 k_15
      replace h_a := h_a.below bn
      replace h_b := h_b.below bn
      replace h_ra := h_ra.below bn
      replace h_rb := h_rb.below bn
      replace h_p := h_p.below bn
      replace h_rp := h_rp.below bn
      replace h_q := h_q.below bn
      replace h_rq := h_rq.below bn
      replace h_s := h_s.below bn
      replace h_rs := h_rs.below bn
      replace h_d := h_d.below bn
      replace h_rd := h_rd.below bn
      replace h_m := h_m.below bn
      replace h_rm := h_rm.below bn
      replace h_t := h_t.below bn
      replace h_rt := h_rt.below bn
      replace bw := below_two bw bn
      clear bn
      have c_s0 := h_rs.c0
      have c_s1 := h_rs.c1
      have c_s2 := h_rs.c2
      have c_gx0 := h_rgx.c0
      have c_gx1 := h_rgx.c1
      have c_gx2 := h_rgx.c2
      have c_gx3 := h_rgx.c3
      go_wp2_with fail
      clear c_s0 c_s1 c_s2 c_gx0 c_gx1 c_gx2 c_gx3
      refine (keepRat_c h_s h_gx (by decide) (by decide) true (keepQ rfl)).mono ?_
      rintro e w18 ⟨rfl, bn⟩
      replace h_a := h_a.below bn
      replace h_b := h_b.below bn
      replace h_ra := h_ra.below bn
      replace h_rb := h_rb.below bn
      replace h_p := h_p.below bn
      replace h_rp := h_rp.below bn
      replace h_q := h_q.below bn
      replace h_rq := h_rq.below bn
      replace h_s := h_s.below bn
      replace h_rs := h_rs.below bn
      replace h_d := h_d.below bn
      replace h_rd := h_rd.below bn
      replace h_m := h_m.below bn
      replace h_rm := h_rm.below bn
      replace h_t := h_t.below bn
      replace h_rt := h_rt.below bn
      replace h_gx := h_gx.below bn
      replace h_rgx := h_rgx.below bn
      replace h_gy := h_gy.below bn
      replace h_rgy := h_rgy.below bn
      replace h_gz := h_gz.below bn
      replace h_rgz := h_rgz.below bn
      replace h_gw := h_gw.below bn
      replace h_rgw := h_rgw.below bn
      replace bw := below_two bw bn
      clear bn
      have c_gx0 := h_rgx.c0
      have c_gx1 := h_rgx.c1
      have c_gx2 := h_rgx.c2
      have c_gx3 := h_rgx.c3
      have c_d0 := h_rd.c0
      have c_d1 := h_rd.c1
      have c_d2 := h_rd.c2
      have c_gy0 := h_rgy.c0
      have c_gy1 := h_rgy.c1
      have c_gy2 := h_rgy.c2
      have c_gy3 := h_rgy.c3
      go_wp2_with fail
      clear c_gx0 c_gx1 c_gx2 c_gx3 c_d0 c_d1 c_d2 c_gy0 c_gy1 c_gy2 c_gy3
      refine (keepRat_c h_d h_gy (by decide) (by decide) true (keepQ rfl)).mono ?_
      rintro e w19 ⟨rfl, bn⟩
      replace h_a := h_a.below bn
      replace h_b := h_b.below bn
      replace h_ra := h_ra.below bn
      replace h_rb := h_rb.below bn
      replace h_p := h_p.below bn
      replace h_rp := h_rp.below bn
      replace h_q := h_q.below bn
      replace h_rq := h_rq.below bn
      replace h_s := h_s.below bn
      replace h_rs := h_rs.below bn
      replace h_d := h_d.below bn
      replace h_rd := h_rd.below bn
      replace h_m := h_m.below bn
      replace h_rm := h_rm.below bn
      replace h_t := h_t.below bn
      replace h_rt := h_rt.below bn
      replace h_gx := h_gx.below bn
      replace h_rgx := h_rgx.below bn
      replace h_gy := h_gy.below bn
      replace h_rgy := h_rgy.below bn
      replace h_gz := h_gz.below bn
      replace h_rgz := h_rgz.below bn
      replace h_gw := h_gw.below bn
      replace h_rgw := h_rgw.below bn
      replace bw := below_two bw bn
      clear bn
      have c_gy0 := h_rgy.c0
      have c_gy1 := h_rgy.c1
      have c_gy2 := h_rgy.c2
      have c_gy3 := h_rgy.c3
      have c_m0 := h_rm.c0
      have c_m1 := h_rm.c1
      have c_m2 := h_rm.c2
      have c_gz0 := h_rgz.c0
      have c_gz1 := h_rgz.c1
      have c_gz2 := h_rgz.c2
      have c_gz3 := h_rgz.c3
      go_wp2_with fail
      clear c_gy0 c_gy1 c_gy2 c_gy3 c_m0 c_m1 c_m2 c_gz0 c_gz1 c_gz2 c_gz3
      refine (keepRat_c h_m h_gz (by decide) (by decide) true (keepQ rfl)).mono ?_
      rintro e w20 ⟨rfl, bn⟩
      replace h_a := h_a.below bn
      replace h_b := h_b.below bn
      replace h_ra := h_ra.below bn
      replace h_rb := h_rb.below bn
      replace h_p := h_p.below bn
      replace h_rp := h_rp.below bn
      replace h_q := h_q.below bn
      replace h_rq := h_rq.below bn
      replace h_s := h_s.below bn
      replace h_rs := h_rs.below bn
      replace h_d := h_d.below bn
      replace h_rd := h_rd.below bn
      replace h_m := h_m.below bn
      replace h_rm := h_rm.below bn
      replace h_t := h_t.below bn
      replace h_rt := h_rt.below bn
      replace h_gx := h_gx.below bn
      replace h_rgx := h_rgx.below bn
      replace h_gy := h_gy.below bn
      replace h_rgy := h_rgy.below bn
      replace h_gz := h_gz.below bn
      replace h_rgz := h_rgz.below bn
      replace h_gw := h_gw.below bn
      replace h_rgw := h_rgw.below bn
      replace bw := below_two bw bn
      clear bn
      have c_gz0 := h_rgz.c0
      have c_gz1 := h_rgz.c1
      have c_gz2 := h_rgz.c2
      have c_gz3 := h_rgz.c3
      have c_t0 := h_rt.c0
      have c_t1 := h_rt.c1
      have c_t2 := h_rt.c2
      have c_gw0 := h_rgw.c0
      have c_gw1 := h_rgw.c1
      have c_gw2 := h_rgw.c2
      have c_gw3 := h_rgw.c3
      go_wp2_with fail
      clear c_gz0 c_gz1 c_gz2 c_gz3 c_t0 c_t1 c_t2 c_gw0 c_gw1 c_gw2 c_gw3
      refine (keepRat_c h_t h_gw (by decide) (by decide) true (keepQ rfl)).mono ?_
      rintro e w21 ⟨rfl, bn⟩
      replace h_a := h_a.below bn
      replace h_b := h_b.below bn
      replace h_ra := h_ra.below bn
      replace h_rb := h_rb.below bn
      replace h_p := h_p.below bn
      replace h_rp := h_rp.below bn
      replace h_q := h_q.below bn
      replace h_rq := h_rq.below bn
      replace h_s := h_s.below bn
      replace h_rs := h_rs.below bn
      replace h_d := h_d.below bn
      replace h_rd := h_rd.below bn
      replace h_m := h_m.below bn
      replace h_rm := h_rm.below bn
      replace h_t := h_t.below bn
      replace h_rt := h_rt.below bn
      replace h_gx := h_gx.below bn
      replace h_rgx := h_rgx.below bn
      replace h_gy := h_gy.below bn
      replace h_rgy := h_rgy.below bn
      replace h_gz := h_gz.below bn
      replace h_rgz := h_rgz.below bn
      replace h_gw := h_gw.below bn
      replace h_rgw := h_rgw.below bn
      replace bw := below_two bw bn
      clear bn
      have c_gw0 := h_rgw.c0
      have c_gw1 := h_rgw.c1
      have c_gw2 := h_rgw.c2
      have c_gw3 := h_rgw.c3
      go_wp2
      clear c_gw0 c_gw1 c_gw2 c_gw3
      generalize w21 = wS at *
      refine region_freeg 57 1 [118, 119, 120, 121, 122, 123, 124, 125, 126, 127, 128, 129, 130, 131, 132, 133, 134, 135, 136, 137, 138, 139, 140, 141, 142, 143, 144, 145, 146, 147, 148, 149, 150, 151, 152, 153, 154, 155, 156, 157, 158, 159, 160, 161, 162, 163, 164, 165, 166, 167, 168, 169, 170, 171, 172, 173, 174] ?aF25 (fun wx => Below wS.heap.size wS wx) (fun k vv wx => match k with
          | 0 => vv = .agg #[.bool g_a, .slice A_p n_p c_p, .slice B_p m_p d_p]
          | 1 => vv = .bool b0
          | 2 => vv = .agg #[.bool g_a, .slice A_a n_a c_a, .slice B_a m_a d_a]
          | 3 => vv = .bool b0
          | 4 => vv = .bool true
          | 5 => vv = .bool true
          | 6 => vv = .agg #[.bool g_a, .slice A_p n_p c_p, .slice B_p m_p d_p]
          | 7 => vv = .agg #[.bool g_b, .slice A_q n_q c_q, .slice B_q m_q d_q]
          | 8 => vv = .int .i64 x1
          | 9 => vv = .agg #[.bool g_a, .slice A_a n_a c_a, .slice B_a m_a d_a]
          | 10 => vv = .agg #[.bool g_b, .slice A_b n_b c_b, .slice B_b m_b d_b]
          | 11 => vv = .int .i64 x1
          | 12 => vv = .bool true
          | 13 => vv = .bool true
          | 14 => vv = .bool true
          | 15 => vv = .agg #[.bool g_a, .slice A_p n_p c_p, .slice B_p m_p d_p]
          | 16 => vv = .int .i64 x2
          | 17 => vv = .agg #[.bool g_a, .slice A_a n_a c_a, .slice B_a m_a d_a]
          | 18 => vv = .int .i64 x2
          | 19 => vv = .bool true
          | 20 => vv = .bool true
          | 21 => vv = .bool true
          | 22 => vv = .agg #[.bool g_a, .slice A_p n_p c_p, .slice B_p m_p d_p]
          | 23 => ∃ (e0 : Option Addr) (e1 : Nat) (e2 : Nat) (e3 : Option Addr) (e4 : Nat) (e5 : Nat), vv = .agg #[.bool (sg (oTop (o_a.map fun q => -q))), .slice e0 e1 e2, .slice e3 e4 e5] ∧ QT wx e0 e1 e2 e3 e4 e5 (o_a.map fun q => -q)
          | 24 => vv = .agg #[.bool g_a, .slice A_a n_a c_a, .slice B_a m_a d_a]
          | 25 => ∃ (e0 : Option Addr) (e1 : Nat) (e2 : Nat) (e3 : Option Addr) (e4 : Nat) (e5 : Nat), vv = .agg #[.bool (sg (oTop (o_a.map fun q => -q))), .slice e0 e1 e2, .slice e3 e4 e5] ∧ QT wx e0 e1 e2 e3 e4 e5 (o_a.map fun q => -q)
          | 26 => vv = .bool true
          | 27 => vv = .bool true
          | 28 => vv = .bool true
          | 29 => vv = .agg #[.bool g_a, .slice A_p n_p c_p, .slice B_p m_p d_p]
          | 30 => vv = .agg #[.bool g_b, .slice A_q n_q c_q, .slice B_q m_q d_q]
          | 31 => vv = .bool b1
          | 32 => vv = .agg #[.bool g_a, .slice A_a n_a c_a, .slice B_a m_a d_a]
          | 33 => vv = .agg #[.bool g_b, .slice A_b n_b c_b, .slice B_b m_b d_b]
          | 34 => vv = .bool b1
          | 35 => vv = .bool true
          | 36 => vv = .bool true
          | 37 => vv = .bool true
          | 38 => vv = .int .i64 v_v
          | 39 => ∃ (e0 : Option Addr) (e1 : Nat) (e2 : Nat) (e3 : Option Addr) (e4 : Nat) (e5 : Nat), vv = .agg #[.bool (sg (oTop (some z_v))), .slice e0 e1 e2, .slice e3 e4 e5] ∧ QT wx e0 e1 e2 e3 e4 e5 (some z_v)
          | 40 => vv = .int .i64 v_v
          | 41 => ∃ (e0 : Option Addr) (e1 : Nat) (e2 : Nat) (e3 : Option Addr) (e4 : Nat) (e5 : Nat), vv = .agg #[.bool (sg (oTop (some z_v))), .slice e0 e1 e2, .slice e3 e4 e5] ∧ QT wx e0 e1 e2 e3 e4 e5 (some z_v)
          | 42 => vv = .bool true
          | 43 => vv = .bool true
          | 44 => vv = .bool true
          | 45 => vv = .agg #[.bool g_a, .slice A_p n_p c_p, .slice B_p m_p d_p]
          | 46 => vv = .agg #[.bool g_a, .slice A_a n_a c_a, .slice B_a m_a d_a]
          | 47 => vv = .bool true
          | 48 => vv = .bool true
          | 49 => vv = .bool true
          | 50 => vv = .agg #[.bool g_b, .slice A_q n_q c_q, .slice B_q m_q d_q]
          | 51 => vv = .agg #[.bool g_b, .slice A_b n_b c_b, .slice B_b m_b d_b]
          | 52 => vv = .bool true
          | 53 => vv = .bool true
          | 54 => vv = .bool true
          | 55 => vv = .bool true
          | _ => vv = .bool true)
        (fun k => false) (by kernel_rfl) ?haF25 rfl (by kernel_rfl) (by kernel_rfl) (fun _ _ _ _ _ h => h) ?hSb25 ?hPb25 ?hS25 ?hop25 ?hfin25
      case haF25 =>
        intro vals
        simp only [fillAll, List.getElem?_cons_zero, List.getElem?_cons_succ, Act.put, List.setIfInBounds_toArray, List.set_cons_zero, List.set_cons_succ]
        exact rfl
      case hSb25 => exact fun wx w2 hb hS => below_two hS hb
      case hPb25 =>
        intro k v wa wb hb h
        match k, h with
        | 0, h => exact h
        | 1, h => exact h
        | 2, h => exact h
        | 3, h => exact h
        | 4, h => exact h
        | 5, h => exact h
        | 6, h => exact h
        | 7, h => exact h
        | 8, h => exact h
        | 9, h => exact h
        | 10, h => exact h
        | 11, h => exact h
        | 12, h => exact h
        | 13, h => exact h
        | 14, h => exact h
        | 15, h => exact h
        | 16, h => exact h
        | 17, h => exact h
        | 18, h => exact h
        | 19, h => exact h
        | 20, h => exact h
        | 21, h => exact h
        | 22, h => exact h
        | 23, ⟨e0, e1, e2, e3, e4, e5, h1, g0⟩ => exact ⟨e0, e1, e2, e3, e4, e5, h1, g0.below hb⟩
        | 24, h => exact h
        | 25, ⟨e0, e1, e2, e3, e4, e5, h1, g0⟩ => exact ⟨e0, e1, e2, e3, e4, e5, h1, g0.below hb⟩
        | 26, h => exact h
        | 27, h => exact h
        | 28, h => exact h
        | 29, h => exact h
        | 30, h => exact h
        | 31, h => exact h
        | 32, h => exact h
        | 33, h => exact h
        | 34, h => exact h
        | 35, h => exact h
        | 36, h => exact h
        | 37, h => exact h
        | 38, h => exact h
        | 39, ⟨e0, e1, e2, e3, e4, e5, h1, g0⟩ => exact ⟨e0, e1, e2, e3, e4, e5, h1, g0.below hb⟩
        | 40, h => exact h
        | 41, ⟨e0, e1, e2, e3, e4, e5, h1, g0⟩ => exact ⟨e0, e1, e2, e3, e4, e5, h1, g0.below hb⟩
        | 42, h => exact h
        | 43, h => exact h
        | 44, h => exact h
        | 45, h => exact h
        | 46, h => exact h
        | 47, h => exact h
        | 48, h => exact h
        | 49, h => exact h
        | 50, h => exact h
        | 51, h => exact h
        | 52, h => exact h
        | 53, h => exact h
        | 54, h => exact h
        | 55, h => exact h
        | _ + 56, h => exact h
      case hS25 => exact (Below.refl _ _).drew
      case hop25 =>
        refine .cons (k := 0) (.plain rfl ?_) (.cons (k := 1) (.plain rfl ?_) (.cons (k := 2) (.plain rfl ?_) (.cons (k := 3) (.plain rfl ?_) (.cons (k := 4) (.plain rfl ?_) (.cons (k := 5) (.plain rfl ?_) (.cons (k := 6) (.yes (fun vals wr hS hd g b e => by cases e; exact hd 5 (by decide +kernel)) ?_) (.cons (k := 7) (.yes (fun vals wr hS hd g b e => by cases e; exact hd 5 (by decide +kernel)) ?_) (.cons (k := 8) (.yes (fun vals wr hS hd g b e => by cases e; exact hd 5 (by decide +kernel)) ?_) (.cons (k := 9) (.yes (fun vals wr hS hd g b e => by cases e; exact hd 5 (by decide +kernel)) ?_) (.cons (k := 10) (.yes (fun vals wr hS hd g b e => by cases e; exact hd 5 (by decide +kernel)) ?_) (.cons (k := 11) (.yes (fun vals wr hS hd g b e => by cases e; exact hd 5 (by decide +kernel)) ?_) (.cons (k := 12) (.yes (fun vals wr hS hd g b e => by cases e; exact hd 5 (by decide +kernel)) ?_) (.cons (k := 13) (.plain rfl ?_) (.cons (k := 14) (.plain rfl ?_) (.cons (k := 15) (.yes (fun vals wr hS hd g b e => by cases e; exact hd 14 (by decide +kernel)) ?_) (.cons (k := 16) (.yes (fun vals wr hS hd g b e => by cases e; exact hd 14 (by decide +kernel)) ?_) (.cons (k := 17) (.yes (fun vals wr hS hd g b e => by cases e; exact hd 14 (by decide +kernel)) ?_) (.cons (k := 18) (.yes (fun vals wr hS hd g b e => by cases e; exact hd 14 (by decide +kernel)) ?_) (.cons (k := 19) (.yes (fun vals wr hS hd g b e => by cases e; exact hd 14 (by decide +kernel)) ?_) (.cons (k := 20) (.plain rfl ?_) (.cons (k := 21) (.plain rfl ?_) (.cons (k := 22) (.yes (fun vals wr hS hd g b e => by cases e; exact hd 21 (by decide +kernel)) ?_) (.cons (k := 23) (.yes (fun vals wr hS hd g b e => by cases e; exact hd 21 (by decide +kernel)) ?_) (.cons (k := 24) (.yes (fun vals wr hS hd g b e => by cases e; exact hd 21 (by decide +kernel)) ?_) (.cons (k := 25) (.yes (fun vals wr hS hd g b e => by cases e; exact hd 21 (by decide +kernel)) ?_) (.cons (k := 26) (.yes (fun vals wr hS hd g b e => by cases e; exact hd 21 (by decide +kernel)) ?_) (.cons (k := 27) (.plain rfl ?_) (.cons (k := 28) (.plain rfl ?_) (.cons (k := 29) (.yes (fun vals wr hS hd g b e => by cases e; exact hd 28 (by decide +kernel)) ?_) (.cons (k := 30) (.yes (fun vals wr hS hd g b e => by cases e; exact hd 28 (by decide +kernel)) ?_) (.cons (k := 31) (.yes (fun vals wr hS hd g b e => by cases e; exact hd 28 (by decide +kernel)) ?_) (.cons (k := 32) (.yes (fun vals wr hS hd g b e => by cases e; exact hd 28 (by decide +kernel)) ?_) (.cons (k := 33) (.yes (fun vals wr hS hd g b e => by cases e; exact hd 28 (by decide +kernel)) ?_) (.cons (k := 34) (.yes (fun vals wr hS hd g b e => by cases e; exact hd 28 (by decide +kernel)) ?_) (.cons (k := 35) (.yes (fun vals wr hS hd g b e => by cases e; exact hd 28 (by decide +kernel)) ?_) (.cons (k := 36) (.plain rfl ?_) (.cons (k := 37) (.plain rfl ?_) (.cons (k := 38) (.yes (fun vals wr hS hd g b e => by cases e; exact hd 37 (by decide +kernel)) ?_) (.cons (k := 39) (.yes (fun vals wr hS hd g b e => by cases e; exact hd 37 (by decide +kernel)) ?_) (.cons (k := 40) (.yes (fun vals wr hS hd g b e => by cases e; exact hd 37 (by decide +kernel)) ?_) (.cons (k := 41) (.yes (fun vals wr hS hd g b e => by cases e; exact hd 37 (by decide +kernel)) ?_) (.cons (k := 42) (.yes (fun vals wr hS hd g b e => by cases e; exact hd 37 (by decide +kernel)) ?_) (.cons (k := 43) (.plain rfl ?_) (.cons (k := 44) (.plain rfl ?_) (.cons (k := 45) (.yes (fun vals wr hS hd g b e => by cases e; exact hd 44 (by decide +kernel)) ?_) (.cons (k := 46) (.yes (fun vals wr hS hd g b e => by cases e; exact hd 44 (by decide +kernel)) ?_) (.cons (k := 47) (.yes (fun vals wr hS hd g b e => by cases e; exact hd 44 (by decide +kernel)) ?_) (.cons (k := 48) (.plain rfl ?_) (.cons (k := 49) (.plain rfl ?_) (.cons (k := 50) (.yes (fun vals wr hS hd g b e => by cases e; exact hd 49 (by decide +kernel)) ?_) (.cons (k := 51) (.yes (fun vals wr hS hd g b e => by cases e; exact hd 49 (by decide +kernel)) ?_) (.cons (k := 52) (.yes (fun vals wr hS hd g b e => by cases e; exact hd 49 (by decide +kernel)) ?_) (.cons (k := 53) (.plain rfl ?_) (.cons (k := 54) (.plain rfl ?_) (.cons (k := 55) (.yes (fun vals wr hS hd g b e => by cases e; exact hd 54 (by decide +kernel)) ?_) (.cons (k := 56) (.plain rfl ?_) (.nil)))))))))))))))))))))))))))))))))))))))))))))))))))))))))
        all_goals intro vals wr hS hd KC hK
        all_goals (show Oper.wp _ _ _ _ _ _; dsimp only)
        · have z0 := (h_rp.below hS).c0
          have z1 := (h_rp.below hS).c1
          have z2 := (h_rp.below hS).c2
          go_simp
          refine hK _ _ rfl (Below.refl _ _) (by first | rfl | simp) (fun h => by cases h)
        · have d0 : vals 0 = _ := hd 0 (by decide +kernel)
          rw [d0]
          go_simp
          go_at_call 16
          with_reducible refine (rGood_c (h_p.below hS) (by decide) b0 G_b0.out).mono ?_
          rintro e w2 ⟨rfl, bn_r⟩
          refine hK _ _ rfl bn_r rfl (fun h => by cases h)
        · have z0 := (h_ra.below hS).c0
          have z1 := (h_ra.below hS).c1
          have z2 := (h_ra.below hS).c2
          go_simp
          refine hK _ _ rfl (Below.refl _ _) (by first | rfl | simp) (fun h => by cases h)
        · have d2 : vals 2 = _ := hd 2 (by decide +kernel)
          rw [d2]
          go_simp
          go_at_call 17
          with_reducible refine (refGood_c (h_a.below hS) (by decide) b0 G_b0.out).mono ?_
          rintro e w2 ⟨rfl, bn_r⟩
          refine hK _ _ rfl bn_r rfl (fun h => by cases h)
        · have d1 : vals 1 = _ := hd 1 (by decide +kernel)
          have d3 : vals 3 = _ := hd 3 (by decide +kernel)
          rw [d1, d3]
          go_simp
          refine hK _ _ rfl (Below.refl _ _) (by first | rfl | simp) (fun h => by cases h)
        · have d4 : vals 4 = _ := hd 4 (by decide +kernel)
          rw [d4]
          go_simp
          refine hK _ _ rfl (Below.refl _ _) (by first | rfl | simp) (fun h => by cases h)
        · have z0 := (h_rp.below hS).c0
          have z1 := (h_rp.below hS).c1
          have z2 := (h_rp.below hS).c2
          go_simp
          refine hK _ _ rfl (Below.refl _ _) (by first | rfl | simp) (fun h => by cases h)
        · have z0 := (h_rq.below hS).c0
          have z1 := (h_rq.below hS).c1
          have z2 := (h_rq.below hS).c2
          go_simp
          refine hK _ _ rfl (Below.refl _ _) (by first | rfl | simp) (fun h => by cases h)
        · have d6 : vals 6 = _ := hd 6 (by decide +kernel)
          have d7 : vals 7 = _ := hd 7 (by decide +kernel)
          rw [d6, d7]
          go_simp
          go_at_call 18
          with_reducible refine (rCmp_c (h_p.below hS) (h_q.below hS) (by decide) (by decide) x1 G_x1.out).mono ?_
          rintro e w2 ⟨rfl, bn_r⟩
          refine hK _ _ rfl bn_r rfl (fun h => by cases h)
        · have z0 := (h_ra.below hS).c0
          have z1 := (h_ra.below hS).c1
          have z2 := (h_ra.below hS).c2
          go_simp
          refine hK _ _ rfl (Below.refl _ _) (by first | rfl | simp) (fun h => by cases h)
        · have z0 := (h_rb.below hS).c0
          have z1 := (h_rb.below hS).c1
          have z2 := (h_rb.below hS).c2
          go_simp
          refine hK _ _ rfl (Below.refl _ _) (by first | rfl | simp) (fun h => by cases h)
        · have d9 : vals 9 = _ := hd 9 (by decide +kernel)
          have d10 : vals 10 = _ := hd 10 (by decide +kernel)
          rw [d9, d10]
          go_simp
          go_at_call 19
          with_reducible refine (refQCmp_c (h_a.below hS) (h_b.below hS) (by decide) (by decide) x1 G_x1.out).mono ?_
          rintro e w2 ⟨rfl, bn_r⟩
          refine hK _ _ rfl bn_r rfl (fun h => by cases h)
        · have d8 : vals 8 = _ := hd 8 (by decide +kernel)
          have d11 : vals 11 = _ := hd 11 (by decide +kernel)
          rw [d8, d11]
          go_simp
          refine hK _ _ rfl (Below.refl _ _) (by first | rfl | simp) (fun h => by cases h)
        · have d5 : vals 5 = _ := hd 5 (by decide +kernel)
          have d12 : vals 12 = _ := hd 12 (by decide +kernel)
          rw [d5, d12]
          go_simp
          refine hK _ _ rfl (Below.refl _ _) (by first | rfl | simp) (fun h => by cases h)
        · have d13 : vals 13 = _ := hd 13 (by decide +kernel)
          rw [d13]
          go_simp
          refine hK _ _ rfl (Below.refl _ _) (by first | rfl | simp) (fun h => by cases h)
        · have z0 := (h_rp.below hS).c0
          have z1 := (h_rp.below hS).c1
          have z2 := (h_rp.below hS).c2
          go_simp
          refine hK _ _ rfl (Below.refl _ _) (by first | rfl | simp) (fun h => by cases h)
        · have d15 : vals 15 = _ := hd 15 (by decide +kernel)
          rw [d15]
          go_simp
          go_at_call 20
          with_reducible refine (rSign_c (h_p.below hS) (by decide) x2 G_x2.out).mono ?_
          rintro e w2 ⟨rfl, bn_r⟩
          refine hK _ _ rfl bn_r rfl (fun h => by cases h)
        · have z0 := (h_ra.below hS).c0
          have z1 := (h_ra.below hS).c1
          have z2 := (h_ra.below hS).c2
          go_simp
          refine hK _ _ rfl (Below.refl _ _) (by first | rfl | simp) (fun h => by cases h)
        · have d17 : vals 17 = _ := hd 17 (by decide +kernel)
          rw [d17]
          go_simp
          go_at_call 21
          with_reducible refine (refQSign_c (h_a.below hS) (by decide) x2 G_x2.out).mono ?_
          rintro e w2 ⟨rfl, bn_r⟩
          refine hK _ _ rfl bn_r rfl (fun h => by cases h)
        · have d16 : vals 16 = _ := hd 16 (by decide +kernel)
          have d18 : vals 18 = _ := hd 18 (by decide +kernel)
          rw [d16, d18]
          go_simp
          refine hK _ _ rfl (Below.refl _ _) (by first | rfl | simp) (fun h => by cases h)
        · have d14 : vals 14 = _ := hd 14 (by decide +kernel)
          have d19 : vals 19 = _ := hd 19 (by decide +kernel)
          rw [d14, d19]
          go_simp
          refine hK _ _ rfl (Below.refl _ _) (by first | rfl | simp) (fun h => by cases h)
        · have d20 : vals 20 = _ := hd 20 (by decide +kernel)
          rw [d20]
          go_simp
          refine hK _ _ rfl (Below.refl _ _) (by first | rfl | simp) (fun h => by cases h)
        · have z0 := (h_rp.below hS).c0
          have z1 := (h_rp.below hS).c1
          have z2 := (h_rp.below hS).c2
          go_simp
          refine hK _ _ rfl (Below.refl _ _) (by first | rfl | simp) (fun h => by cases h)
        · have d22 : vals 22 = _ := hd 22 (by decide +kernel)
          rw [d22]
          go_simp
          go_at_call 22
          with_reducible refine (rNeg_c (h_p.below hS) (by decide)).mono ?_
          rintro e w2 ⟨r0, r1, r2, r3, r4, r5, rfl, f0, bn_r⟩
          refine hK _ _ rfl bn_r ⟨_, _, _, _, _, _, rfl, f0⟩ (fun h => by cases h)
        · have z0 := (h_ra.below hS).c0
          have z1 := (h_ra.below hS).c1
          have z2 := (h_ra.below hS).c2
          go_simp
          refine hK _ _ rfl (Below.refl _ _) (by first | rfl | simp) (fun h => by cases h)
        · have d24 : vals 24 = _ := hd 24 (by decide +kernel)
          rw [d24]
          go_simp
          go_at_call 23
          with_reducible refine (refQNeg_c (h_a.below hS) (by decide)).mono ?_
          rintro e w2 ⟨r0, r1, r2, r3, r4, r5, rfl, f0, bn_r⟩
          refine hK _ _ rfl bn_r ⟨_, _, _, _, _, _, rfl, f0⟩ (fun h => by cases h)
        · obtain ⟨A_23_0, n_23_1, n_23_2, A_23_3, n_23_4, n_23_5, d23, h_23_0⟩ := hd 23 (by decide +kernel)
          obtain ⟨A_25_0, n_25_1, n_25_2, A_25_3, n_25_4, n_25_5, d25, h_25_0⟩ := hd 25 (by decide +kernel)
          rw [d23, d25]
          go_simp
          go_at_call 15
          with_reducible refine (keepRat_c h_23_0 h_25_0 (by decide) (by decide) true (keepQ rfl)).mono ?_
          rintro e w2 ⟨rfl, bn_r⟩
          refine hK _ _ rfl bn_r rfl (fun h => by cases h)
        · have d21 : vals 21 = _ := hd 21 (by decide +kernel)
          have d26 : vals 26 = _ := hd 26 (by decide +kernel)
          rw [d21, d26]
          go_simp
          refine hK _ _ rfl (Below.refl _ _) (by first | rfl | simp) (fun h => by cases h)
        · have d27 : vals 27 = _ := hd 27 (by decide +kernel)
          rw [d27]
          go_simp
          refine hK _ _ rfl (Below.refl _ _) (by first | rfl | simp) (fun h => by cases h)
        · have z0 := (h_rp.below hS).c0
          have z1 := (h_rp.below hS).c1
          have z2 := (h_rp.below hS).c2
          go_simp
          refine hK _ _ rfl (Below.refl _ _) (by first | rfl | simp) (fun h => by cases h)
        · have z0 := (h_rq.below hS).c0
          have z1 := (h_rq.below hS).c1
          have z2 := (h_rq.below hS).c2
          go_simp
          refine hK _ _ rfl (Below.refl _ _) (by first | rfl | simp) (fun h => by cases h)
        · have d29 : vals 29 = _ := hd 29 (by decide +kernel)
          have d30 : vals 30 = _ := hd 30 (by decide +kernel)
          rw [d29, d30]
          go_simp
          go_at_call 24
          with_reducible refine (rSame_c (h_p.below hS) (h_q.below hS) (by decide) (by decide) b1 G_b1.out).mono ?_
          rintro e w2 ⟨rfl, bn_r⟩
          refine hK _ _ rfl bn_r rfl (fun h => by cases h)
        · have z0 := (h_ra.below hS).c0
          have z1 := (h_ra.below hS).c1
          have z2 := (h_ra.below hS).c2
          go_simp
          refine hK _ _ rfl (Below.refl _ _) (by first | rfl | simp) (fun h => by cases h)
        · have z0 := (h_rb.below hS).c0
          have z1 := (h_rb.below hS).c1
          have z2 := (h_rb.below hS).c2
          go_simp
          refine hK _ _ rfl (Below.refl _ _) (by first | rfl | simp) (fun h => by cases h)
        · have d32 : vals 32 = _ := hd 32 (by decide +kernel)
          have d33 : vals 33 = _ := hd 33 (by decide +kernel)
          rw [d32, d33]
          go_simp
          go_at_call 25
          with_reducible refine (refQSame_c (h_a.below hS) (h_b.below hS) (by decide) (by decide) b1 G_b1.out).mono ?_
          rintro e w2 ⟨rfl, bn_r⟩
          refine hK _ _ rfl bn_r rfl (fun h => by cases h)
        · have d31 : vals 31 = _ := hd 31 (by decide +kernel)
          have d34 : vals 34 = _ := hd 34 (by decide +kernel)
          rw [d31, d34]
          go_simp
          refine hK _ _ rfl (Below.refl _ _) (by first | rfl | simp) (fun h => by cases h)
        · have d28 : vals 28 = _ := hd 28 (by decide +kernel)
          have d35 : vals 35 = _ := hd 35 (by decide +kernel)
          rw [d28, d35]
          go_simp
          refine hK _ _ rfl (Below.refl _ _) (by first | rfl | simp) (fun h => by cases h)
        · have d36 : vals 36 = _ := hd 36 (by decide +kernel)
          rw [d36]
          go_simp
          refine hK _ _ rfl (Below.refl _ _) (by first | rfl | simp) (fun h => by cases h)
        · go_simp
          refine hK _ _ rfl (Below.refl _ _) (by first | rfl | simp) (fun h => by cases h)
        · have d38 : vals 38 = _ := hd 38 (by decide +kernel)
          rw [d38]
          go_simp
          go_at_call 26
          with_reducible refine (rWhole_is v_v HV0.out.1 HV0.out.2 _ G_z_v.out _).mono ?_
          rintro e w2 ⟨r0, r1, r2, r3, r4, r5, rfl, f0, bn_r⟩
          refine hK _ _ rfl bn_r ⟨_, _, _, _, _, _, rfl, f0⟩ (fun h => by cases h)
        · go_simp
          refine hK _ _ rfl (Below.refl _ _) (by first | rfl | simp) (fun h => by cases h)
        · have d40 : vals 40 = _ := hd 40 (by decide +kernel)
          rw [d40]
          go_simp
          go_at_call 27
          with_reducible refine (refQWhole_is v_v HV0.out.1 HV0.out.2 _ G_z_v.out _).mono ?_
          rintro e w2 ⟨r0, r1, r2, r3, r4, r5, rfl, f0, bn_r⟩
          refine hK _ _ rfl bn_r ⟨_, _, _, _, _, _, rfl, f0⟩ (fun h => by cases h)
        · obtain ⟨A_39_0, n_39_1, n_39_2, A_39_3, n_39_4, n_39_5, d39, h_39_0⟩ := hd 39 (by decide +kernel)
          obtain ⟨A_41_0, n_41_1, n_41_2, A_41_3, n_41_4, n_41_5, d41, h_41_0⟩ := hd 41 (by decide +kernel)
          rw [d39, d41]
          go_simp
          go_at_call 15
          with_reducible refine (keepRat_c h_39_0 h_41_0 (by decide) (by decide) true (keepQ rfl)).mono ?_
          rintro e w2 ⟨rfl, bn_r⟩
          refine hK _ _ rfl bn_r rfl (fun h => by cases h)
        · have d37 : vals 37 = _ := hd 37 (by decide +kernel)
          have d42 : vals 42 = _ := hd 42 (by decide +kernel)
          rw [d37, d42]
          go_simp
          refine hK _ _ rfl (Below.refl _ _) (by first | rfl | simp) (fun h => by cases h)
        · have d43 : vals 43 = _ := hd 43 (by decide +kernel)
          rw [d43]
          go_simp
          refine hK _ _ rfl (Below.refl _ _) (by first | rfl | simp) (fun h => by cases h)
        · have z0 := (h_rp.below hS).c0
          have z1 := (h_rp.below hS).c1
          have z2 := (h_rp.below hS).c2
          go_simp
          refine hK _ _ rfl (Below.refl _ _) (by first | rfl | simp) (fun h => by cases h)
        · have z0 := (h_ra.below hS).c0
          have z1 := (h_ra.below hS).c1
          have z2 := (h_ra.below hS).c2
          go_simp
          refine hK _ _ rfl (Below.refl _ _) (by first | rfl | simp) (fun h => by cases h)
        · have d45 : vals 45 = _ := hd 45 (by decide +kernel)
          have d46 : vals 46 = _ := hd 46 (by decide +kernel)
          rw [d45, d46]
          go_simp
          go_at_call 15
          with_reducible refine (keepRat_c (h_p.below hS) (h_a.below hS) (by decide) (by decide) true (keep_self3 _ _ _)).mono ?_
          rintro e w2 ⟨rfl, bn_r⟩
          refine hK _ _ rfl bn_r rfl (fun h => by cases h)
        · have d44 : vals 44 = _ := hd 44 (by decide +kernel)
          have d47 : vals 47 = _ := hd 47 (by decide +kernel)
          rw [d44, d47]
          go_simp
          refine hK _ _ rfl (Below.refl _ _) (by first | rfl | simp) (fun h => by cases h)
        · have d48 : vals 48 = _ := hd 48 (by decide +kernel)
          rw [d48]
          go_simp
          refine hK _ _ rfl (Below.refl _ _) (by first | rfl | simp) (fun h => by cases h)
        · have z0 := (h_rq.below hS).c0
          have z1 := (h_rq.below hS).c1
          have z2 := (h_rq.below hS).c2
          go_simp
          refine hK _ _ rfl (Below.refl _ _) (by first | rfl | simp) (fun h => by cases h)
        · have z0 := (h_rb.below hS).c0
          have z1 := (h_rb.below hS).c1
          have z2 := (h_rb.below hS).c2
          go_simp
          refine hK _ _ rfl (Below.refl _ _) (by first | rfl | simp) (fun h => by cases h)
        · have d50 : vals 50 = _ := hd 50 (by decide +kernel)
          have d51 : vals 51 = _ := hd 51 (by decide +kernel)
          rw [d50, d51]
          go_simp
          go_at_call 15
          with_reducible refine (keepRat_c (h_q.below hS) (h_b.below hS) (by decide) (by decide) true (keep_self3 _ _ _)).mono ?_
          rintro e w2 ⟨rfl, bn_r⟩
          refine hK _ _ rfl bn_r rfl (fun h => by cases h)
        · have d49 : vals 49 = _ := hd 49 (by decide +kernel)
          have d52 : vals 52 = _ := hd 52 (by decide +kernel)
          rw [d49, d52]
          go_simp
          refine hK _ _ rfl (Below.refl _ _) (by first | rfl | simp) (fun h => by cases h)
        · have d53 : vals 53 = _ := hd 53 (by decide +kernel)
          rw [d53]
          go_simp
          refine hK _ _ rfl (Below.refl _ _) (by first | rfl | simp) (fun h => by cases h)
        · go_simp
          go_at_call 5
          with_reducible refine (wakes_any _).mono ?_
          rintro e w2 ⟨rfl, bn_r⟩
          refine hK _ _ rfl bn_r rfl (fun h => by cases h)
        · have d54 : vals 54 = _ := hd 54 (by decide +kernel)
          have d55 : vals 55 = _ := hd 55 (by decide +kernel)
          rw [d54, d55]
          go_simp
          refine hK _ _ rfl (Below.refl _ _) (by first | rfl | simp) (fun h => by cases h)
      case hfin25 =>
        intro vals wr hS hP hne
        have ez_56 : vals 56 = _ := hP 56 (by decide)
        have HB := Lib.hid (below_two bw hS)
        try dsimp only
        rw [ez_56]
        refine wpAny_ready (rs := [57]) (by kernel_rfl) (by simp) (AllReady.cons rfl (fun KC hK => ?_) AllReady.nil)
        go_simp
        refine hK _ _ ?_
        clear hK KC
        refine wpAny_done (by kernel_rfl) ?_ _
        go_wp2
        go_ret
        exact ⟨rfl, HB.out⟩

set_option maxRecDepth 100000 in
theorem lifted (os : Os) (started : os.Started) (H : Type) (enc : TypeId × Value → H) :
    ReturnsInHanded {} Tryz.checked os 3 .any (Rows.ratTellsSpec.pre6 enc Tryz.prog Tryz.f3 Rows.ratTellsRow.domain false) (Rows.ratTellsSpec.post enc Tryz.prog Tryz.f3 false true false false) := by
  refine returnsInHanded_of_change (C := Tryz.checked) own started (by kernel_rfl) Tryz.func3
    (ChangeSpec.witness6 (enc := enc) (C := Tryz.checked) false ⟨#[], #[.agg #[.bool false, .slice none 0 0, .slice none 0 0], .agg #[.bool false, .slice none 0 0, .slice none 0 0], .int .i64 0], []⟩ 8 (by kernel_rfl) (by kernel_rfl) (by kernel_rfl) (by kernel_rfl)) ?_
  intro W base args ds gs before hval0 hW hcnd _
  have hval : ∀ (j : Nat) t v, Tryz.f3.params[j]? = some t → args[j]? = some v → Value.okWide Tryz.prog W .any base t v := hval0
  have hW' := hW
  obtain ⟨p, q, hA0, hV, rfl, hfz, hnd⟩ := hW
  have hA : DataW.TrodAll enc Tryz.prog W 0 (fun _ => true) true Tryz.f3.params.toList args.toList ds p := hA0
  rw [Tryz.params3] at hA hval
  obtain ⟨v0, vs0, d0, ds0, p0, q0, hargs, rfl, rfl, h0, r0⟩ := trodAll_cons hA
  obtain ⟨v1, vs1, d1, ds1, p1, q1, rfl, rfl, rfl, h1, r1⟩ := trodAll_cons r0
  obtain ⟨v2, vs2, d2, ds2, p2, q2, rfl, rfl, rfl, h2, r2⟩ := trodAll_cons r1
  obtain ⟨rfl, rfl, rfl⟩ := trodAll_nil r2
  obtain rfl : args = #[v0, v1, v2] := by cases args; simp_all
  obtain ⟨rfl, rfl⟩ := trodVars_none hV
  obtain ⟨b0, a0, len0, cap0, z0, e0, lem0, dap0, y0, rfl, i0, hc0, hm0, k0, kc0, km0⟩ := open_rat (hval 0 27 v0 rfl rfl) h0
  obtain ⟨b1, a1, len1, cap1, z1, e1, lem1, dap1, y1, rfl, i1, hc1, hm1, k1, kc1, km1⟩ := open_rat (hval 1 27 v1 rfl rfl) h1
  obtain ⟨a2, rfl, rfl, rfl, w2⟩ := open_int Tryz.underlying2 (hval 2 2 v2 rfl rfl) h2
  clear hA0 hval0
  refine (walk b0 a0 len0 cap0 z0 e0 lem0 dap0 y0 b1 a1 len1 cap1 z1 e1 lem1 dap1 y1 a2 W i0 hc0 hm0 k0 kc0 km0 i1 hc1 hm1 k1 kc1 km1 w2).mono fun e W' ⟨he, bel⟩ => ?_
  subst he
  exact ⟨_, rfl, _, _, _, [], _, [], hW', trodAll_mk1 (shut_bool Tryz.underlying4 _), (trodAll_cons_mk (Below.trod laidOut (by kernel_rfl) (of_decide_eq_true (by kernel_rfl)) h0 bel (places_lt h0)) (trodAll_cons_mk (Below.trod laidOut (by kernel_rfl) (of_decide_eq_true (by kernel_rfl)) h1 bel (places_lt h1)) (trodAll_cons_mk (shut_int Tryz.underlying2 w2) trodAll_mk0))), rfl, bel.frame _, fun h => by cases h⟩

theorem over : Rows.ratTellsRow.holds Tryz.pinned (OpenSpec.ofChange Rows.ratTellsSpec) :=
  OpenClaim.holds_of_wide 3 Tryz.f3 rfl rfl rfl rfl rfl rfl rfl ⟨rfl, rfl, rfl, rfl, rfl⟩ rfl rfl rfl rfl rfl (by kernel_rfl) Tryz.func3 (by kernel_rfl)
    (of_decide_eq_true (by kernel_rfl)) (by unfold Func.isWrapper; first | (rw [if_pos (by decide +kernel)]; kernel_rfl) | (rw [if_neg (by decide +kernel)]; exact ⟨rfl, rfl⟩))
    (fun os started H enc _ => lifted os started H enc)

theorem proved : Rows.RatTellsSaid := over

end Go.Proofs.YtohciicocaoagaaGreat.lawRatTells
