/- Part 5 of the texts that the statements of this seat lean on: mathematics, and what functions answer, as contracts over memory; each part says its own conditions. -/
import Derived.Test.YtgdchljbjnhchaaGreatDoorM4
import Derived.Deep.RegionHeld3
import Derived.Deep.CutRange
/- What the reference's comparison of layer 6 answers, as a contract over memory. Conditions: sizes of at most so many limbs. -/
namespace Go.Proofs.YtgdchljbjnhchaaGreatDoor
open Go.RowKit Limb
set_option linter.unusedVariables false
set_option maxHeartbeats 40000000 in
set_option maxRecDepth 100000 in
theorem refICmp_c {g_x g_y : Bool} {A_x A_y : Option Addr} {n_x c_x n_y c_y : Nat} {xs_x xs_y : List Nat} {z_x z_y : Int} {L_x L_y : Nat} {w : World} (T : Tab w) (h_x : ZZ w g_x A_x n_x c_x xs_x z_x L_x) (h_y : ZZ w g_y A_y n_y c_y xs_y z_y L_y) (h1 : L_x ≤ 100000) (h2 : L_y ≤ 100000) (v : Int) (hv : cmpZ z_x z_y = v) :
    Calls Tryz.prog 17 #[.agg #[.bool g_x, .slice A_x n_x c_x], .agg #[.bool g_y, .slice A_y n_y c_y]] w fun e w' => e = .returned (.int .i64 v) ∧ Below w.heap.size w w' := by
  have hl1 := h1
  have hl2 := h2
  have HTab := Lib.hid T
  clear T
  have bw := bel_refl w
  have h_rx := row2_new w 25 (.bool g_x) (.slice A_x n_x c_x)
  have bn := below_new w (.cells #[Value.bool g_x, Value.slice A_x n_x c_x] 25)
  replace h_x := h_x.below bn
  replace h_y := h_y.below bn
  replace HTab := Lib.hid (HTab.out.below bn)
  replace bw := below_two bw bn
  clear bn
  have h_ry := row2_new (w.alloc (.cells #[Value.bool g_x, Value.slice A_x n_x c_x] 25)) 25 (.bool g_y) (.slice A_y n_y c_y)
  have bn := below_new (w.alloc (.cells #[Value.bool g_x, Value.slice A_x n_x c_x] 25)) (.cells #[Value.bool g_y, Value.slice A_y n_y c_y] 25)
  replace h_x := h_x.below bn
  replace h_y := h_y.below bn
  replace h_rx := h_rx.below bn
  replace HTab := Lib.hid (HTab.out.below bn)
  replace bw := below_two bw bn
  clear bn
  simp only [World.size_alloc] at h_rx h_ry
  go_enter Tryz.func17, Tryz.ntmps17
  go_wp2
  generalize ((w.alloc (.cells #[Value.bool g_x, Value.slice A_x n_x c_x] 25)).alloc (.cells #[Value.bool g_y, Value.slice A_y n_y c_y] 25)) = wP at *
  obtain ⟨q_y, eg⟩ : ∃ g, g = w.heap.size + 1 := ⟨_, rfl⟩
  rw [← eg] at h_ry ⊢
  have E_y := Lib.hid eg
  clear eg
  obtain ⟨q_x, eg⟩ : ∃ g, g = w.heap.size := ⟨_, rfl⟩
  rw [← eg] at h_rx ⊢
  have E_x := Lib.hid eg
  clear eg
  generalize wP = wS at *
  have KA : RowKit.Hid (∀ wx, Below wS.heap.size wS wx → (wx.cell? ⟨q_x, 0, none⟩ = some (.bool g_x) ∧ wx.cell? ⟨q_x, 1, none⟩ = some (.slice A_x n_x c_x) ∧ wx.cell? ⟨q_y, 0, none⟩ = some (.bool g_y) ∧ wx.cell? ⟨q_y, 1, none⟩ = some (.slice A_y n_y c_y) ∧ Below wS.heap.size wS wx)) := fun wx hb => ⟨(h_rx.below hb).c0, (h_rx.below hb).c1, (h_ry.below hb).c0, (h_ry.below hb).c1, hb⟩
  have KS : RowKit.Hid (∀ wx w2, (wx.cell? ⟨q_x, 0, none⟩ = some (.bool g_x) ∧ wx.cell? ⟨q_x, 1, none⟩ = some (.slice A_x n_x c_x) ∧ wx.cell? ⟨q_y, 0, none⟩ = some (.bool g_y) ∧ wx.cell? ⟨q_y, 1, none⟩ = some (.slice A_y n_y c_y) ∧ Below wS.heap.size wS wx) → Below wx.heap.size wx w2 → (w2.cell? ⟨q_x, 0, none⟩ = some (.bool g_x) ∧ w2.cell? ⟨q_x, 1, none⟩ = some (.slice A_x n_x c_x) ∧ w2.cell? ⟨q_y, 0, none⟩ = some (.bool g_y) ∧ w2.cell? ⟨q_y, 1, none⟩ = some (.slice A_y n_y c_y) ∧ Below wS.heap.size wS w2)) := fun wx w2 hS bn => KA.out _ (below_two hS.2.2.2.2 bn)
  have KU : RowKit.Hid (∀ (wx : World) (q : Nat) (u v : Value), (wx.cell? ⟨q_x, 0, none⟩ = some (.bool g_x) ∧ wx.cell? ⟨q_x, 1, none⟩ = some (.slice A_x n_x c_x) ∧ wx.cell? ⟨q_y, 0, none⟩ = some (.bool g_y) ∧ wx.cell? ⟨q_y, 1, none⟩ = some (.slice A_y n_y c_y) ∧ Below wS.heap.size wS wx) → wS.heap.size ≤ q → (((wx.setCell ⟨q, 0, none⟩ u).setCell ⟨q, 1, none⟩ v).cell? ⟨q_x, 0, none⟩ = some (.bool g_x) ∧ ((wx.setCell ⟨q, 0, none⟩ u).setCell ⟨q, 1, none⟩ v).cell? ⟨q_x, 1, none⟩ = some (.slice A_x n_x c_x) ∧ ((wx.setCell ⟨q, 0, none⟩ u).setCell ⟨q, 1, none⟩ v).cell? ⟨q_y, 0, none⟩ = some (.bool g_y) ∧ ((wx.setCell ⟨q, 0, none⟩ u).setCell ⟨q, 1, none⟩ v).cell? ⟨q_y, 1, none⟩ = some (.slice A_y n_y c_y) ∧ Below wS.heap.size wS ((wx.setCell ⟨q, 0, none⟩ u).setCell ⟨q, 1, none⟩ v))) := fun wx q u v hS hq => KA.out _ ((hS.2.2.2.2.setCell (p := ⟨q, 0, none⟩) hq u).setCell (p := ⟨q, 1, none⟩) hq v)
  have K_x : RowKit.Hid (∀ wx, (wx.cell? ⟨q_x, 0, none⟩ = some (.bool g_x) ∧ wx.cell? ⟨q_x, 1, none⟩ = some (.slice A_x n_x c_x) ∧ wx.cell? ⟨q_y, 0, none⟩ = some (.bool g_y) ∧ wx.cell? ⟨q_y, 1, none⟩ = some (.slice A_y n_y c_y) ∧ Below wS.heap.size wS wx) → ZZ wx g_x A_x n_x c_x xs_x z_x L_x) := fun wx hS => h_x.below hS.2.2.2.2
  have K_y : RowKit.Hid (∀ wx, (wx.cell? ⟨q_x, 0, none⟩ = some (.bool g_x) ∧ wx.cell? ⟨q_x, 1, none⟩ = some (.slice A_x n_x c_x) ∧ wx.cell? ⟨q_y, 0, none⟩ = some (.bool g_y) ∧ wx.cell? ⟨q_y, 1, none⟩ = some (.slice A_y n_y c_y) ∧ Below wS.heap.size wS wx) → ZZ wx g_y A_y n_y c_y xs_y z_y L_y) := fun wx hS => h_y.below hS.2.2.2.2
  have KR_x : RowKit.Hid (∀ wx, (wx.cell? ⟨q_x, 0, none⟩ = some (.bool g_x) ∧ wx.cell? ⟨q_x, 1, none⟩ = some (.slice A_x n_x c_x) ∧ wx.cell? ⟨q_y, 0, none⟩ = some (.bool g_y) ∧ wx.cell? ⟨q_y, 1, none⟩ = some (.slice A_y n_y c_y) ∧ Below wS.heap.size wS wx) → Row2 wx q_x 25 (.bool g_x) (.slice A_x n_x c_x)) := fun wx hS => h_rx.below hS.2.2.2.2
  have KR_y : RowKit.Hid (∀ wx, (wx.cell? ⟨q_x, 0, none⟩ = some (.bool g_x) ∧ wx.cell? ⟨q_x, 1, none⟩ = some (.slice A_x n_x c_x) ∧ wx.cell? ⟨q_y, 0, none⟩ = some (.bool g_y) ∧ wx.cell? ⟨q_y, 1, none⟩ = some (.slice A_y n_y c_y) ∧ Below wS.heap.size wS wx) → Row2 wx q_y 25 (.bool g_y) (.slice A_y n_y c_y)) := fun wx hS => h_ry.below hS.2.2.2.2
  have KT : RowKit.Hid (∀ wx, (wx.cell? ⟨q_x, 0, none⟩ = some (.bool g_x) ∧ wx.cell? ⟨q_x, 1, none⟩ = some (.slice A_x n_x c_x) ∧ wx.cell? ⟨q_y, 0, none⟩ = some (.bool g_y) ∧ wx.cell? ⟨q_y, 1, none⟩ = some (.slice A_y n_y c_y) ∧ Below wS.heap.size wS wx) → Tab wx) := fun wx hS => HTab.out.below hS.2.2.2.2
  have HF := Lib.hid bw
  have KF : RowKit.Hid (∀ wx, (wx.cell? ⟨q_x, 0, none⟩ = some (.bool g_x) ∧ wx.cell? ⟨q_x, 1, none⟩ = some (.slice A_x n_x c_x) ∧ wx.cell? ⟨q_y, 0, none⟩ = some (.bool g_y) ∧ wx.cell? ⟨q_y, 1, none⟩ = some (.slice A_y n_y c_y) ∧ Below wS.heap.size wS wx) → Below w.heap.size w wx) := fun wx hS => below_two HF.out hS.2.2.2.2
  obtain ⟨d_x0, d_x1, d_y0, d_y1, _⟩ := KA.out _ (Below.refl _ _)
  clear h_x h_y h_rx h_ry HTab bw
  clear HF
  go_cut [5, 6] from 7 to 10 (fun s5 s6 wx => ∃ (q_p : Nat) (A_p : Option Addr) (n_p c_p : Nat) (q_q : Nat) (A_q : Option Addr) (n_q c_q : Nat), s5 = .pointer (some ⟨q_p, 0, none⟩) ∧ s6 = .pointer (some ⟨q_q, 0, none⟩) ∧ RowKit.Hid (Row2 wx q_p 25 (.bool (sg z_x)) (.slice A_p n_p c_p) ∧ ZZ wx (sg z_x) A_p n_p c_p (limbs z_x.natAbs) z_x L_x ∧ Row2 wx q_q 25 (.bool (sg z_y)) (.slice A_q n_q c_q) ∧ ZZ wx (sg z_y) A_q n_q c_q (limbs z_y.natAbs) z_y L_y ∧ Below wS.heap.size wS wx))
  case first =>
    refine region_free 6 2 [7, 8, 9, 10, 5, 6] ?aF (fun wx => wx.cell? ⟨q_x, 0, none⟩ = some (.bool g_x) ∧ wx.cell? ⟨q_x, 1, none⟩ = some (.slice A_x n_x c_x) ∧ wx.cell? ⟨q_y, 0, none⟩ = some (.bool g_y) ∧ wx.cell? ⟨q_y, 1, none⟩ = some (.slice A_y n_y c_y) ∧ Below wS.heap.size wS wx) (fun k v w => match k with
        | 0 => v = .agg #[.bool g_x, .slice A_x n_x c_x]
        | 1 => ∃ A n c, v = .agg #[.bool (sg z_x), .slice A n c] ∧ ZZ w (sg z_x) A n c (limbs z_x.natAbs) z_x L_x
        | 2 => v = .agg #[.bool g_y, .slice A_y n_y c_y]
        | 3 => ∃ A n c, v = .agg #[.bool (sg z_y), .slice A n c] ∧ ZZ w (sg z_y) A n c (limbs z_y.natAbs) z_y L_y
        | 4 => ∃ q, v = .pointer (some ⟨q, 0, none⟩) ∧ ZB w q ∧ wS.heap.size ≤ q
        | _ => ∃ q, v = .pointer (some ⟨q, 0, none⟩) ∧ ZB w q ∧ wS.heap.size ≤ q)
      (fun k => k == 4 || k == 5) (by kernel_rfl) ?haF rfl (by kernel_rfl) (by kernel_rfl) (fun _ _ _ _ _ h => h) ?hSb ?hPb ?hS ?hop ?hfin
    case haF =>
      intro vals
      simp only [fillAll, List.getElem?_cons_zero, List.getElem?_cons_succ, Act.put, List.setIfInBounds_toArray, List.set_cons_zero, List.set_cons_succ]
      exact rfl
    case hSb => exact fun wx w2 hb hS => KS.out wx w2 hS hb
    case hPb =>
      intro k v w1 w2 hb h
      match k, h with
      | 0, h => exact h
      | 1, ⟨A, n, c, h1, h2⟩ => exact ⟨A, n, c, h1, h2.below hb⟩
      | 2, h => exact h
      | 3, ⟨A, n, c, h1, h2⟩ => exact ⟨A, n, c, h1, h2.below hb⟩
      | 4, ⟨q, h1, h2, h3⟩ => exact ⟨q, h1, h2.below hb, h3⟩
      | _ + 5, ⟨q, h1, h2, h3⟩ => exact ⟨q, h1, h2.below hb, h3⟩
    case hS => exact KA.out _ ((Below.refl _ _).drew)
    case hop =>
      refine .cons (k := 0) ?_ (.cons (k := 1) ?_ (.cons (k := 2) ?_ (.cons (k := 3) ?_ (.cons (k := 4) ?_ (.cons (k := 5) ?_ (.nil))))))
      all_goals intro vals wr hS hd K hK
      all_goals (show Oper.wp _ _ _ _ _ _; dsimp only)
      · obtain ⟨b0, b1, b2, b3, bS⟩ := hS
        go_simp
        refine hK _ _ rfl (Below.refl _ _) rfl (fun h => by cases h)
      · have d0 : vals 0 = _ := hd 0 (by decide +kernel)
        rw [d0]
        go_simp
        go_at_call 21
        with_reducible refine (refITrim_c (K_x.out _ hS) (by omega)).mono ?_
        rintro e w2 ⟨A_r, n_r, c_r, rfl, h_r, bn_r⟩
        refine hK _ _ rfl bn_r ⟨_, _, _, rfl, h_r⟩ (fun h => by cases h)
      · obtain ⟨b0, b1, b2, b3, bS⟩ := hS
        go_simp
        refine hK _ _ rfl (Below.refl _ _) rfl (fun h => by cases h)
      · have d2 : vals 2 = _ := hd 2 (by decide +kernel)
        rw [d2]
        go_simp
        go_at_call 21
        with_reducible refine (refITrim_c (K_y.out _ hS) (by omega)).mono ?_
        rintro e w2 ⟨A_r, n_r, c_r, rfl, h_r, bn_r⟩
        refine hK _ _ rfl bn_r ⟨_, _, _, rfl, h_r⟩ (fun h => by cases h)
      · go_simp
        refine hK _ _ rfl (below_new _ _) ⟨_, rfl, row2_new wr 25 _ _, hS.2.2.2.2.size⟩ (fun _ => ⟨_, rfl, Nat.le_refl _, by rw [World.size_alloc]; omega⟩)
      · go_simp
        refine hK _ _ rfl (below_new _ _) ⟨_, rfl, row2_new wr 25 _ _, hS.2.2.2.2.size⟩ (fun _ => ⟨_, rfl, Nat.le_refl _, by rw [World.size_alloc]; omega⟩)
    case hfin =>
      intro vals wr hS hP hne
      obtain ⟨A_p, n_p, c_p, e1, h_p⟩ := hP 1 (by decide)
      obtain ⟨A_q, n_q, c_q, e3, h_q⟩ := hP 3 (by decide)
      obtain ⟨q_p, e4, z_bp, l_bp⟩ := hP 4 (by decide)
      obtain ⟨q_q, e5, z_bq, l_bq⟩ := hP 5 (by decide)
      have nq01 : q_p ≠ q_q := hne 4 5 (by decide) (by decide) (by decide) rfl rfl _ _ e4 e5
      try dsimp only
      rw [e1, e3, e4, e5]
      have bS := hS.2.2.2.2
      replace h_p := h_p.put z_bp (.bool (sg z_x)) (.slice A_p n_p c_p)
      replace h_q := h_q.put z_bp (.bool (sg z_x)) (.slice A_p n_p c_p)
      have z_nq := Row2.far z_bq nq01 (.bool (sg z_x)) (.slice A_p n_p c_p)
      have r_p := Row2.filled z_bp (.bool (sg z_x)) (.slice A_p n_p c_p)
      replace bS := (bS.setCell (p := ⟨q_p, 0, none⟩) l_bp (.bool (sg z_x))).setCell (p := ⟨q_p, 1, none⟩) l_bp (.slice A_p n_p c_p)
      replace h_p := h_p.put z_nq (.bool (sg z_y)) (.slice A_q n_q c_q)
      replace h_q := h_q.put z_nq (.bool (sg z_y)) (.slice A_q n_q c_q)
      replace r_p := r_p.far (g := q_q) (Ne.symm nq01) (.bool (sg z_y)) (.slice A_q n_q c_q)
      have r_q := Row2.filled z_nq (.bool (sg z_y)) (.slice A_q n_q c_q)
      replace bS := (bS.setCell (p := ⟨q_q, 0, none⟩) l_bq (.bool (sg z_y))).setCell (p := ⟨q_q, 1, none⟩) l_bq (.slice A_q n_q c_q)
      obtain ⟨c00, c01, c02, c03⟩ := z_bp.cells
      obtain ⟨c10, c11, c12, c13⟩ := z_bq.cells
      have t := Lib.hid (And.intro r_p (And.intro h_p (And.intro r_q (And.intro h_q bS))))
      clear bS h_p h_q r_p r_q
      refine wpAny_ready (rs := [6]) (by kernel_rfl) (by simp) (AllReady.cons rfl (fun K hK => ?_) AllReady.nil)
      go_simp
      refine hK _ _ ?_
      clear hK K
      refine wpAny_ready (rs := [7]) (by kernel_rfl) (by simp) (AllReady.cons rfl (fun K hK => ?_) AllReady.nil)
      go_simp
      refine hK _ _ ?_
      clear hK K
      refine wpAny_done (by kernel_rfl) ?_ _
      go_wp2
      go_meet
      case rel => exact ⟨q_p, A_p, n_p, c_p, q_q, A_q, n_q, c_q, rfl, rfl, t⟩
  case rest =>
    obtain ⟨q_p, A_p, n_p, c_p, q_q, A_q, n_q, c_q, rfl, rfl, t⟩ := hcut
    obtain ⟨h_rp, h_p, h_rq, h_q, bn⟩ := t.out
    clear t
    have hS0 := KA.out _ bn
    have h_x := K_x.out _ hS0
    have h_y := K_y.out _ hS0
    have h_rx := KR_x.out _ hS0
    have h_ry := KR_y.out _ hS0
    have HTab := Lib.hid (KT.out _ hS0)
    have bw := KF.out _ hS0
    clear hS0 bn KA KS KU KT KF K_x K_y KR_x KR_y d_x0 d_x1 d_y0 d_y1
    have HP := Lib.hid h_p
    have HQ := Lib.hid h_q
    have d_p0 := h_rp.c0
    have d_p1 := h_rp.c1
    have d_q0 := h_rq.c0
    have d_q1 := h_rq.c1
    have HB := Lib.hid bw
    clear bw HTab h_x h_y h_rx h_ry h_p h_rp h_q h_rq
    by_cases hx0 : z_x < 0
    · by_cases hy0 : z_y < 0
      · rw [sg_neg hx0] at d_p0
        rw [sg_neg hy0] at d_q0
        have HV : RowKit.Hid (cmpI z_y.natAbs z_x.natAbs = v) := by
          show _ = _
          rw [← hv]; exact cmp_abs_neg hx0 hy0
        clear hv hx0 hy0
        go_wp2_with fail
        refine (refCmp_c HQ.out.nn HP.out.nn (by omega) (by omega) v HV.out).mono ?_
        rintro e w9 ⟨rfl, rfl⟩
        go_wp2
        go_ret
        exact ⟨rfl, HB.out⟩
      · rw [sg_neg hx0] at d_p0
        rw [sg_pos (by omega)] at d_q0
        obtain rfl : v = -1 := by rw [← hv]; exact cmpZ_lt (by omega)
        clear hv hx0 hy0
        go_wp2
        go_ret
        exact ⟨rfl, HB.out⟩
    · by_cases hy0 : z_y < 0
      · rw [sg_pos (by omega)] at d_p0
        rw [sg_neg hy0] at d_q0
        obtain rfl : v = 1 := by rw [← hv]; exact cmpZ_gt (by omega)
        clear hv hx0 hy0
        go_wp2
        go_ret
        exact ⟨rfl, HB.out⟩
      · rw [sg_pos (by omega)] at d_p0
        rw [sg_pos (by omega)] at d_q0
        have HV : RowKit.Hid (cmpI z_x.natAbs z_y.natAbs = v) := by
          show _ = _
          rw [← hv]; exact cmp_abs_pos (by omega) (by omega)
        clear hv hx0 hy0
        go_wp2_with fail
        refine (refCmp_c HP.out.nn HQ.out.nn (by omega) (by omega) v HV.out).mono ?_
        rintro e w9 ⟨rfl, rfl⟩
        go_wp2
        go_ret
        exact ⟨rfl, HB.out⟩

end Go.Proofs.YtgdchljbjnhchaaGreatDoor

/- What the reference's sum of layer 6 answers, as a contract over memory. Conditions: sizes of at most so many limbs. -/
namespace Go.Proofs.YtgdchljbjnhchaaGreatDoor
open Go.RowKit Limb
set_option linter.unusedVariables false
theorem lt_of_sum {w : World} {A : Option Addr} {n c a L K : Nat} {xs : List Nat} (h : NN w A n c xs a L) (hK : L ≤ K) : a < 4294967296 ^ K :=
  Nat.lt_of_lt_of_le (lt_pow h) (Nat.pow_le_pow_right (by decide) hK)

set_option maxHeartbeats 40000000 in
set_option maxRecDepth 100000 in
theorem refIAdd_c {g_x g_y : Bool} {A_x A_y : Option Addr} {n_x c_x n_y c_y : Nat} {xs_x xs_y : List Nat} {z_x z_y : Int} {L_x L_y : Nat} {w : World} (T : Tab w) (h_x : ZZ w g_x A_x n_x c_x xs_x z_x L_x) (h_y : ZZ w g_y A_y n_y c_y xs_y z_y L_y) (h1 : L_x ≤ 50000) (h2 : L_y ≤ 50000) (z : Int) (hz : z_x + z_y = z) :
    Calls Tryz.prog 11 #[.agg #[.bool g_x, .slice A_x n_x c_x], .agg #[.bool g_y, .slice A_y n_y c_y]] w fun e w' => ∃ A2 n2 c2, e = .returned (.agg #[.bool (sg z), .slice A2 n2 c2]) ∧ ZZ w' (sg z) A2 n2 c2 (limbs z.natAbs) z (L_x + L_y + 1) ∧ Below w.heap.size w w' := by
  have HTab := Lib.hid T
  clear T
  have bw := bel_refl w
  have h_rx := row2_new w 25 (.bool g_x) (.slice A_x n_x c_x)
  have bn := below_new w (.cells #[Value.bool g_x, Value.slice A_x n_x c_x] 25)
  replace h_x := h_x.below bn
  replace h_y := h_y.below bn
  replace HTab := Lib.hid (HTab.out.below bn)
  replace bw := below_two bw bn
  clear bn
  have h_ry := row2_new (w.alloc (.cells #[Value.bool g_x, Value.slice A_x n_x c_x] 25)) 25 (.bool g_y) (.slice A_y n_y c_y)
  have bn := below_new (w.alloc (.cells #[Value.bool g_x, Value.slice A_x n_x c_x] 25)) (.cells #[Value.bool g_y, Value.slice A_y n_y c_y] 25)
  replace h_x := h_x.below bn
  replace h_y := h_y.below bn
  replace h_rx := h_rx.below bn
  replace HTab := Lib.hid (HTab.out.below bn)
  replace bw := below_two bw bn
  clear bn
  have h_rr := row2_new ((w.alloc (.cells #[Value.bool g_x, Value.slice A_x n_x c_x] 25)).alloc (.cells #[Value.bool g_y, Value.slice A_y n_y c_y] 25)) 25 (.bool false) (.slice none 0 0)
  have bn := below_new ((w.alloc (.cells #[Value.bool g_x, Value.slice A_x n_x c_x] 25)).alloc (.cells #[Value.bool g_y, Value.slice A_y n_y c_y] 25)) zbox
  replace h_x := h_x.below bn
  replace h_y := h_y.below bn
  replace h_rx := h_rx.below bn
  replace h_ry := h_ry.below bn
  replace HTab := Lib.hid (HTab.out.below bn)
  replace bw := below_two bw bn
  clear bn
  simp only [World.size_alloc] at h_rx h_ry h_rr
  go_enter Tryz.func11, Tryz.ntmps11
  go_wp2
  generalize (((w.alloc (.cells #[Value.bool g_x, Value.slice A_x n_x c_x] 25)).alloc (.cells #[Value.bool g_y, Value.slice A_y n_y c_y] 25)).alloc zbox) = wP at *
  obtain ⟨q_r, eg⟩ : ∃ g, g = w.heap.size + 1 + 1 := ⟨_, rfl⟩
  rw [← eg] at h_rr ⊢
  have E_r := Lib.hid eg
  clear eg
  obtain ⟨q_y, eg⟩ : ∃ g, g = w.heap.size + 1 := ⟨_, rfl⟩
  rw [← eg] at h_ry ⊢
  have E_y := Lib.hid eg
  clear eg
  obtain ⟨q_x, eg⟩ : ∃ g, g = w.heap.size := ⟨_, rfl⟩
  rw [← eg] at h_rx ⊢
  have E_x := Lib.hid eg
  clear eg
  generalize wP = wS at *
  have KA : RowKit.Hid (∀ wx, Below wS.heap.size wS wx → (wx.cell? ⟨q_x, 0, none⟩ = some (.bool g_x) ∧ wx.cell? ⟨q_x, 1, none⟩ = some (.slice A_x n_x c_x) ∧ wx.cell? ⟨q_y, 0, none⟩ = some (.bool g_y) ∧ wx.cell? ⟨q_y, 1, none⟩ = some (.slice A_y n_y c_y) ∧ wx.cell? ⟨q_r, 0, none⟩ = some (.bool false) ∧ wx.cell? ⟨q_r, 1, none⟩ = some (.slice none 0 0) ∧ Below wS.heap.size wS wx)) := fun wx hb => ⟨(h_rx.below hb).c0, (h_rx.below hb).c1, (h_ry.below hb).c0, (h_ry.below hb).c1, (h_rr.below hb).c0, (h_rr.below hb).c1, hb⟩
  have KS : RowKit.Hid (∀ wx w2, (wx.cell? ⟨q_x, 0, none⟩ = some (.bool g_x) ∧ wx.cell? ⟨q_x, 1, none⟩ = some (.slice A_x n_x c_x) ∧ wx.cell? ⟨q_y, 0, none⟩ = some (.bool g_y) ∧ wx.cell? ⟨q_y, 1, none⟩ = some (.slice A_y n_y c_y) ∧ wx.cell? ⟨q_r, 0, none⟩ = some (.bool false) ∧ wx.cell? ⟨q_r, 1, none⟩ = some (.slice none 0 0) ∧ Below wS.heap.size wS wx) → Below wx.heap.size wx w2 → (w2.cell? ⟨q_x, 0, none⟩ = some (.bool g_x) ∧ w2.cell? ⟨q_x, 1, none⟩ = some (.slice A_x n_x c_x) ∧ w2.cell? ⟨q_y, 0, none⟩ = some (.bool g_y) ∧ w2.cell? ⟨q_y, 1, none⟩ = some (.slice A_y n_y c_y) ∧ w2.cell? ⟨q_r, 0, none⟩ = some (.bool false) ∧ w2.cell? ⟨q_r, 1, none⟩ = some (.slice none 0 0) ∧ Below wS.heap.size wS w2)) := fun wx w2 hS bn => KA.out _ (below_two hS.2.2.2.2.2.2 bn)
  have KU : RowKit.Hid (∀ (wx : World) (q : Nat) (u v : Value), (wx.cell? ⟨q_x, 0, none⟩ = some (.bool g_x) ∧ wx.cell? ⟨q_x, 1, none⟩ = some (.slice A_x n_x c_x) ∧ wx.cell? ⟨q_y, 0, none⟩ = some (.bool g_y) ∧ wx.cell? ⟨q_y, 1, none⟩ = some (.slice A_y n_y c_y) ∧ wx.cell? ⟨q_r, 0, none⟩ = some (.bool false) ∧ wx.cell? ⟨q_r, 1, none⟩ = some (.slice none 0 0) ∧ Below wS.heap.size wS wx) → wS.heap.size ≤ q → (((wx.setCell ⟨q, 0, none⟩ u).setCell ⟨q, 1, none⟩ v).cell? ⟨q_x, 0, none⟩ = some (.bool g_x) ∧ ((wx.setCell ⟨q, 0, none⟩ u).setCell ⟨q, 1, none⟩ v).cell? ⟨q_x, 1, none⟩ = some (.slice A_x n_x c_x) ∧ ((wx.setCell ⟨q, 0, none⟩ u).setCell ⟨q, 1, none⟩ v).cell? ⟨q_y, 0, none⟩ = some (.bool g_y) ∧ ((wx.setCell ⟨q, 0, none⟩ u).setCell ⟨q, 1, none⟩ v).cell? ⟨q_y, 1, none⟩ = some (.slice A_y n_y c_y) ∧ ((wx.setCell ⟨q, 0, none⟩ u).setCell ⟨q, 1, none⟩ v).cell? ⟨q_r, 0, none⟩ = some (.bool false) ∧ ((wx.setCell ⟨q, 0, none⟩ u).setCell ⟨q, 1, none⟩ v).cell? ⟨q_r, 1, none⟩ = some (.slice none 0 0) ∧ Below wS.heap.size wS ((wx.setCell ⟨q, 0, none⟩ u).setCell ⟨q, 1, none⟩ v))) := fun wx q u v hS hq => KA.out _ ((hS.2.2.2.2.2.2.setCell (p := ⟨q, 0, none⟩) hq u).setCell (p := ⟨q, 1, none⟩) hq v)
  have K_x : RowKit.Hid (∀ wx, (wx.cell? ⟨q_x, 0, none⟩ = some (.bool g_x) ∧ wx.cell? ⟨q_x, 1, none⟩ = some (.slice A_x n_x c_x) ∧ wx.cell? ⟨q_y, 0, none⟩ = some (.bool g_y) ∧ wx.cell? ⟨q_y, 1, none⟩ = some (.slice A_y n_y c_y) ∧ wx.cell? ⟨q_r, 0, none⟩ = some (.bool false) ∧ wx.cell? ⟨q_r, 1, none⟩ = some (.slice none 0 0) ∧ Below wS.heap.size wS wx) → ZZ wx g_x A_x n_x c_x xs_x z_x L_x) := fun wx hS => h_x.below hS.2.2.2.2.2.2
  have K_y : RowKit.Hid (∀ wx, (wx.cell? ⟨q_x, 0, none⟩ = some (.bool g_x) ∧ wx.cell? ⟨q_x, 1, none⟩ = some (.slice A_x n_x c_x) ∧ wx.cell? ⟨q_y, 0, none⟩ = some (.bool g_y) ∧ wx.cell? ⟨q_y, 1, none⟩ = some (.slice A_y n_y c_y) ∧ wx.cell? ⟨q_r, 0, none⟩ = some (.bool false) ∧ wx.cell? ⟨q_r, 1, none⟩ = some (.slice none 0 0) ∧ Below wS.heap.size wS wx) → ZZ wx g_y A_y n_y c_y xs_y z_y L_y) := fun wx hS => h_y.below hS.2.2.2.2.2.2
  have KR_x : RowKit.Hid (∀ wx, (wx.cell? ⟨q_x, 0, none⟩ = some (.bool g_x) ∧ wx.cell? ⟨q_x, 1, none⟩ = some (.slice A_x n_x c_x) ∧ wx.cell? ⟨q_y, 0, none⟩ = some (.bool g_y) ∧ wx.cell? ⟨q_y, 1, none⟩ = some (.slice A_y n_y c_y) ∧ wx.cell? ⟨q_r, 0, none⟩ = some (.bool false) ∧ wx.cell? ⟨q_r, 1, none⟩ = some (.slice none 0 0) ∧ Below wS.heap.size wS wx) → Row2 wx q_x 25 (.bool g_x) (.slice A_x n_x c_x)) := fun wx hS => h_rx.below hS.2.2.2.2.2.2
  have KR_y : RowKit.Hid (∀ wx, (wx.cell? ⟨q_x, 0, none⟩ = some (.bool g_x) ∧ wx.cell? ⟨q_x, 1, none⟩ = some (.slice A_x n_x c_x) ∧ wx.cell? ⟨q_y, 0, none⟩ = some (.bool g_y) ∧ wx.cell? ⟨q_y, 1, none⟩ = some (.slice A_y n_y c_y) ∧ wx.cell? ⟨q_r, 0, none⟩ = some (.bool false) ∧ wx.cell? ⟨q_r, 1, none⟩ = some (.slice none 0 0) ∧ Below wS.heap.size wS wx) → Row2 wx q_y 25 (.bool g_y) (.slice A_y n_y c_y)) := fun wx hS => h_ry.below hS.2.2.2.2.2.2
  have KR_r : RowKit.Hid (∀ wx, (wx.cell? ⟨q_x, 0, none⟩ = some (.bool g_x) ∧ wx.cell? ⟨q_x, 1, none⟩ = some (.slice A_x n_x c_x) ∧ wx.cell? ⟨q_y, 0, none⟩ = some (.bool g_y) ∧ wx.cell? ⟨q_y, 1, none⟩ = some (.slice A_y n_y c_y) ∧ wx.cell? ⟨q_r, 0, none⟩ = some (.bool false) ∧ wx.cell? ⟨q_r, 1, none⟩ = some (.slice none 0 0) ∧ Below wS.heap.size wS wx) → Row2 wx q_r 25 (.bool false) (.slice none 0 0)) := fun wx hS => h_rr.below hS.2.2.2.2.2.2
  have KT : RowKit.Hid (∀ wx, (wx.cell? ⟨q_x, 0, none⟩ = some (.bool g_x) ∧ wx.cell? ⟨q_x, 1, none⟩ = some (.slice A_x n_x c_x) ∧ wx.cell? ⟨q_y, 0, none⟩ = some (.bool g_y) ∧ wx.cell? ⟨q_y, 1, none⟩ = some (.slice A_y n_y c_y) ∧ wx.cell? ⟨q_r, 0, none⟩ = some (.bool false) ∧ wx.cell? ⟨q_r, 1, none⟩ = some (.slice none 0 0) ∧ Below wS.heap.size wS wx) → Tab wx) := fun wx hS => HTab.out.below hS.2.2.2.2.2.2
  have HF := Lib.hid bw
  have KF : RowKit.Hid (∀ wx, (wx.cell? ⟨q_x, 0, none⟩ = some (.bool g_x) ∧ wx.cell? ⟨q_x, 1, none⟩ = some (.slice A_x n_x c_x) ∧ wx.cell? ⟨q_y, 0, none⟩ = some (.bool g_y) ∧ wx.cell? ⟨q_y, 1, none⟩ = some (.slice A_y n_y c_y) ∧ wx.cell? ⟨q_r, 0, none⟩ = some (.bool false) ∧ wx.cell? ⟨q_r, 1, none⟩ = some (.slice none 0 0) ∧ Below wS.heap.size wS wx) → Below w.heap.size w wx) := fun wx hS => below_two HF.out hS.2.2.2.2.2.2
  obtain ⟨d_x0, d_x1, d_y0, d_y1, d_r0, d_r1, _⟩ := KA.out _ (Below.refl _ _)
  clear h_x h_y h_rx h_ry h_rr HTab bw
  clear HF
  go_cut [5, 6] from 7 to 10 (fun s5 s6 wx => ∃ (q_p : Nat) (A_p : Option Addr) (n_p c_p : Nat) (q_q : Nat) (A_q : Option Addr) (n_q c_q : Nat), s5 = .pointer (some ⟨q_p, 0, none⟩) ∧ s6 = .pointer (some ⟨q_q, 0, none⟩) ∧ RowKit.Hid (Row2 wx q_p 25 (.bool (sg z_x)) (.slice A_p n_p c_p) ∧ ZZ wx (sg z_x) A_p n_p c_p (limbs z_x.natAbs) z_x L_x ∧ Row2 wx q_q 25 (.bool (sg z_y)) (.slice A_q n_q c_q) ∧ ZZ wx (sg z_y) A_q n_q c_q (limbs z_y.natAbs) z_y L_y ∧ Below wS.heap.size wS wx))
  case first =>
    refine region_free 6 2 [7, 8, 9, 10, 5, 6] ?aF (fun wx => wx.cell? ⟨q_x, 0, none⟩ = some (.bool g_x) ∧ wx.cell? ⟨q_x, 1, none⟩ = some (.slice A_x n_x c_x) ∧ wx.cell? ⟨q_y, 0, none⟩ = some (.bool g_y) ∧ wx.cell? ⟨q_y, 1, none⟩ = some (.slice A_y n_y c_y) ∧ wx.cell? ⟨q_r, 0, none⟩ = some (.bool false) ∧ wx.cell? ⟨q_r, 1, none⟩ = some (.slice none 0 0) ∧ Below wS.heap.size wS wx) (fun k v w => match k with
        | 0 => v = .agg #[.bool g_x, .slice A_x n_x c_x]
        | 1 => ∃ A n c, v = .agg #[.bool (sg z_x), .slice A n c] ∧ ZZ w (sg z_x) A n c (limbs z_x.natAbs) z_x L_x
        | 2 => v = .agg #[.bool g_y, .slice A_y n_y c_y]
        | 3 => ∃ A n c, v = .agg #[.bool (sg z_y), .slice A n c] ∧ ZZ w (sg z_y) A n c (limbs z_y.natAbs) z_y L_y
        | 4 => ∃ q, v = .pointer (some ⟨q, 0, none⟩) ∧ ZB w q ∧ wS.heap.size ≤ q
        | _ => ∃ q, v = .pointer (some ⟨q, 0, none⟩) ∧ ZB w q ∧ wS.heap.size ≤ q)
      (fun k => k == 4 || k == 5) (by kernel_rfl) ?haF rfl (by kernel_rfl) (by kernel_rfl) (fun _ _ _ _ _ h => h) ?hSb ?hPb ?hS ?hop ?hfin
    case haF =>
      intro vals
      simp only [fillAll, List.getElem?_cons_zero, List.getElem?_cons_succ, Act.put, List.setIfInBounds_toArray, List.set_cons_zero, List.set_cons_succ]
      exact rfl
    case hSb => exact fun wx w2 hb hS => KS.out wx w2 hS hb
    case hPb =>
      intro k v w1 w2 hb h
      match k, h with
      | 0, h => exact h
      | 1, ⟨A, n, c, h1, h2⟩ => exact ⟨A, n, c, h1, h2.below hb⟩
      | 2, h => exact h
      | 3, ⟨A, n, c, h1, h2⟩ => exact ⟨A, n, c, h1, h2.below hb⟩
      | 4, ⟨q, h1, h2, h3⟩ => exact ⟨q, h1, h2.below hb, h3⟩
      | _ + 5, ⟨q, h1, h2, h3⟩ => exact ⟨q, h1, h2.below hb, h3⟩
    case hS => exact KA.out _ ((Below.refl _ _).drew)
    case hop =>
      refine .cons (k := 0) ?_ (.cons (k := 1) ?_ (.cons (k := 2) ?_ (.cons (k := 3) ?_ (.cons (k := 4) ?_ (.cons (k := 5) ?_ (.nil))))))
      all_goals intro vals wr hS hd K hK
      all_goals (show Oper.wp _ _ _ _ _ _; dsimp only)
      · obtain ⟨b0, b1, b2, b3, b4, b5, bS⟩ := hS
        go_simp
        refine hK _ _ rfl (Below.refl _ _) rfl (fun h => by cases h)
      · have d0 : vals 0 = _ := hd 0 (by decide +kernel)
        rw [d0]
        go_simp
        go_at_call 21
        with_reducible refine (refITrim_c (K_x.out _ hS) (by omega)).mono ?_
        rintro e w2 ⟨A_r, n_r, c_r, rfl, h_r, bn_r⟩
        refine hK _ _ rfl bn_r ⟨_, _, _, rfl, h_r⟩ (fun h => by cases h)
      · obtain ⟨b0, b1, b2, b3, b4, b5, bS⟩ := hS
        go_simp
        refine hK _ _ rfl (Below.refl _ _) rfl (fun h => by cases h)
      · have d2 : vals 2 = _ := hd 2 (by decide +kernel)
        rw [d2]
        go_simp
        go_at_call 21
        with_reducible refine (refITrim_c (K_y.out _ hS) (by omega)).mono ?_
        rintro e w2 ⟨A_r, n_r, c_r, rfl, h_r, bn_r⟩
        refine hK _ _ rfl bn_r ⟨_, _, _, rfl, h_r⟩ (fun h => by cases h)
      · go_simp
        refine hK _ _ rfl (below_new _ _) ⟨_, rfl, row2_new wr 25 _ _, hS.2.2.2.2.2.2.size⟩ (fun _ => ⟨_, rfl, Nat.le_refl _, by rw [World.size_alloc]; omega⟩)
      · go_simp
        refine hK _ _ rfl (below_new _ _) ⟨_, rfl, row2_new wr 25 _ _, hS.2.2.2.2.2.2.size⟩ (fun _ => ⟨_, rfl, Nat.le_refl _, by rw [World.size_alloc]; omega⟩)
    case hfin =>
      intro vals wr hS hP hne
      obtain ⟨A_p, n_p, c_p, e1, h_p⟩ := hP 1 (by decide)
      obtain ⟨A_q, n_q, c_q, e3, h_q⟩ := hP 3 (by decide)
      obtain ⟨q_p, e4, z_bp, l_bp⟩ := hP 4 (by decide)
      obtain ⟨q_q, e5, z_bq, l_bq⟩ := hP 5 (by decide)
      have nq01 : q_p ≠ q_q := hne 4 5 (by decide) (by decide) (by decide) rfl rfl _ _ e4 e5
      try dsimp only
      rw [e1, e3, e4, e5]
      have bS := hS.2.2.2.2.2.2
      replace h_p := h_p.put z_bp (.bool (sg z_x)) (.slice A_p n_p c_p)
      replace h_q := h_q.put z_bp (.bool (sg z_x)) (.slice A_p n_p c_p)
      have z_nq := Row2.far z_bq nq01 (.bool (sg z_x)) (.slice A_p n_p c_p)
      have r_p := Row2.filled z_bp (.bool (sg z_x)) (.slice A_p n_p c_p)
      replace bS := (bS.setCell (p := ⟨q_p, 0, none⟩) l_bp (.bool (sg z_x))).setCell (p := ⟨q_p, 1, none⟩) l_bp (.slice A_p n_p c_p)
      replace h_p := h_p.put z_nq (.bool (sg z_y)) (.slice A_q n_q c_q)
      replace h_q := h_q.put z_nq (.bool (sg z_y)) (.slice A_q n_q c_q)
      replace r_p := r_p.far (g := q_q) (Ne.symm nq01) (.bool (sg z_y)) (.slice A_q n_q c_q)
      have r_q := Row2.filled z_nq (.bool (sg z_y)) (.slice A_q n_q c_q)
      replace bS := (bS.setCell (p := ⟨q_q, 0, none⟩) l_bq (.bool (sg z_y))).setCell (p := ⟨q_q, 1, none⟩) l_bq (.slice A_q n_q c_q)
      obtain ⟨c00, c01, c02, c03⟩ := z_bp.cells
      obtain ⟨c10, c11, c12, c13⟩ := z_bq.cells
      have t := Lib.hid (And.intro r_p (And.intro h_p (And.intro r_q (And.intro h_q bS))))
      clear bS h_p h_q r_p r_q
      refine wpAny_ready (rs := [6]) (by kernel_rfl) (by simp) (AllReady.cons rfl (fun K hK => ?_) AllReady.nil)
      go_simp
      refine hK _ _ ?_
      clear hK K
      refine wpAny_ready (rs := [7]) (by kernel_rfl) (by simp) (AllReady.cons rfl (fun K hK => ?_) AllReady.nil)
      go_simp
      refine hK _ _ ?_
      clear hK K
      refine wpAny_done (by kernel_rfl) ?_ _
      go_wp2
      go_meet
      case rel => exact ⟨q_p, A_p, n_p, c_p, q_q, A_q, n_q, c_q, rfl, rfl, t⟩
  case rest =>
    obtain ⟨q_p, A_p, n_p, c_p, q_q, A_q, n_q, c_q, rfl, rfl, t⟩ := hcut
    obtain ⟨h_rp, h_p, h_rq, h_q, bn⟩ := t.out
    clear t
    have hS0 := KA.out _ bn
    have h_x := K_x.out _ hS0
    have h_y := K_y.out _ hS0
    have h_rx := KR_x.out _ hS0
    have h_ry := KR_y.out _ hS0
    have h_rr := KR_r.out _ hS0
    have HTab := Lib.hid (KT.out _ hS0)
    have bw := KF.out _ hS0
    clear hS0 bn KA KS KU KT KF K_x K_y KR_x KR_y KR_r d_x0 d_x1 d_y0 d_y1 d_r0 d_r1
    generalize wc = wS at *
    have HP := Lib.hid h_p
    have HQ := Lib.hid h_q
    have HRp := Lib.hid h_rp
    have HRq := Lib.hid h_rq
    have HZ : RowKit.Hid (ZB wS q_r) := h_rr
    have HW := Lib.hid bw
    have Hq : RowKit.Hid (w.heap.size ≤ q_r) := by have := E_r.out; show _ ≤ _; omega
    have d_p0 := h_rp.c0
    have d_p1 := h_rp.c1
    have d_q0 := h_rq.c0
    have d_q1 := h_rq.c1
    clear bw HTab h_x h_y h_rx h_ry h_rr h_p h_rp h_q h_rq
    by_cases hs : sg z_x = sg z_y
    · have hs2 : (sg z_x == sg z_y) = true := by simpa using hs
      have HS : RowKit.Hid (zOf (sg z_x) (z_x.natAbs + z_y.natAbs) = z) := (zOf_add sg_zof (by rw [hs]; exact sg_zof)).trans hz
      clear hz hs
      go_wp2_with fail
      clear d_p0 d_p1 d_q0 d_q1
      refine region_free 8 1 [16, 17, 18, 19, 20, 21, 22, 23] ?aF2 (fun wx => Below wS.heap.size wS wx) (fun k v wx => match k with
          | 0 => v = .pointer (some ⟨q_p, 0, none⟩)
          | 1 => v = .bool (sg z_x)
          | 2 => v = .pointer (some ⟨q_p, 1, none⟩)
          | 3 => v = .slice A_p n_p c_p
          | 4 => v = .pointer (some ⟨q_q, 1, none⟩)
          | 5 => v = .slice A_q n_q c_q
          | 6 => ∃ A2 n2 c2, v = .slice A2 n2 c2 ∧ NN wx A2 n2 c2 (limbs (z_x.natAbs + z_y.natAbs)) (z_x.natAbs + z_y.natAbs) (L_x + L_y + 1)
          | _ => ∃ A2 n2 c2, v = .agg #[.bool (sg z), .slice A2 n2 c2] ∧ ZZ wx (sg z) A2 n2 c2 (limbs z.natAbs) z (L_x + L_y + 1))
        (fun _ => false) (by kernel_rfl) ?haF2 rfl (by kernel_rfl) (by kernel_rfl) (fun _ _ _ _ _ h => h) ?hSb2 ?hPb2 ?hS2 ?hop2 ?hfin2
      case haF2 =>
        intro vals
        simp only [fillAll, List.getElem?_cons_zero, List.getElem?_cons_succ, Act.put, List.setIfInBounds_toArray, List.set_cons_zero, List.set_cons_succ]
        exact rfl
      case hSb2 => exact fun wx w2 hb hS => below_two hS hb
      case hPb2 =>
        intro k v wa wb hb h
        match k, h with
        | 0, h => exact h
        | 1, h => exact h
        | 2, h => exact h
        | 3, h => exact h
        | 4, h => exact h
        | 5, h => exact h
        | 6, ⟨A2, n2, c2, h1, h2⟩ => exact ⟨A2, n2, c2, h1, h2.below hb⟩
        | _ + 7, ⟨A2, n2, c2, h1, h2⟩ => exact ⟨A2, n2, c2, h1, h2.below hb⟩
      case hS2 => exact (Below.refl _ _).drew
      case hop2 =>
        refine .cons (k := 0) ?_ (.cons (k := 1) ?_ (.cons (k := 2) ?_ (.cons (k := 3) ?_ (.cons (k := 4) ?_ (.cons (k := 5) ?_ (.cons (k := 6) ?_ (.cons (k := 7) ?_ (.nil))))))))
        all_goals intro vals wr hS hd KC hK
        all_goals (show Oper.wp _ _ _ _ _ _; dsimp only)
        · go_simp
          refine hK _ _ rfl (Below.refl _ _) (by first | rfl | simp) (fun h => by cases h)
        · have d0 : vals 0 = _ := hd 0 (by decide +kernel)
          rw [d0]
          have c0 := (HRp.out.below hS).c0
          go_simp
          refine hK _ _ rfl (Below.refl _ _) (by first | rfl | simp) (fun h => by cases h)
        · go_simp
          refine hK _ _ rfl (Below.refl _ _) (by first | rfl | simp) (fun h => by cases h)
        · have d2 : vals 2 = _ := hd 2 (by decide +kernel)
          rw [d2]
          have c0 := (HRp.out.below hS).c1
          go_simp
          refine hK _ _ rfl (Below.refl _ _) (by first | rfl | simp) (fun h => by cases h)
        · go_simp
          refine hK _ _ rfl (Below.refl _ _) (by first | rfl | simp) (fun h => by cases h)
        · have d4 : vals 4 = _ := hd 4 (by decide +kernel)
          rw [d4]
          have c0 := (HRq.out.below hS).c1
          go_simp
          refine hK _ _ rfl (Below.refl _ _) (by first | rfl | simp) (fun h => by cases h)
        · have d3 : vals 3 = _ := hd 3 (by decide +kernel)
          have d5 : vals 5 = _ := hd 5 (by decide +kernel)
          rw [d3, d5]
          go_simp
          go_at_call 34
          with_reducible refine (refAdd_c (HP.out.nn.below hS) (HQ.out.nn.below hS) (by omega) (by omega)).mono ?_
          rintro e w2 ⟨A_r, n_r, c_r, rfl, h_r, bn_r⟩
          refine hK _ _ rfl bn_r ⟨_, _, _, rfl, h_r⟩ (fun h => by cases h)
        · have d1 : vals 1 = _ := hd 1 (by decide +kernel)
          obtain ⟨A_6, n_6, c_6, d6, h_6⟩ := hd 6 (by decide +kernel)
          rw [d1, d6]
          go_simp
          go_at_call 30
          with_reducible refine (refMake_c h_6 (by omega) z HS.out).mono ?_
          rintro e w2 ⟨A_r, n_r, c_r, rfl, h_r, bn_r⟩
          refine hK _ _ rfl bn_r ⟨_, _, _, rfl, h_r⟩ (fun h => by cases h)
      case hfin2 =>
        intro vals wr hS hP hne
        obtain ⟨A2, n2, c2, ez, h3⟩ := hP 7 (by decide)
        have hZ3 := HZ.out.below hS
        obtain ⟨e0, e1, f0, f1⟩ := hZ3.cells
        try dsimp only
        rw [ez]
        have HF := Lib.hid (hZ3.fill (.bool (sg z)) (.slice A2 n2 c2))
        have HPz := Lib.hid (h3.put hZ3 (.bool (sg z)) (.slice A2 n2 c2))
        have HB := Lib.hid (below_fill (below_two HW.out hS) Hq.out (.bool (sg z)) (.slice A2 n2 c2))
        refine wpAny_ready (rs := [8]) (by kernel_rfl) (by simp) (AllReady.cons rfl (fun KC hK => ?_) AllReady.nil)
        go_simp
        refine hK _ _ ?_
        clear hK KC
        refine wpAny_done (by kernel_rfl) ?_ _
        go_wp2
        refine bodyPost_ret (results_cell_row rfl _ _ (q_r) 25 #[.bool (sg z), .slice A2 n2 c2] (0, 0) _ rfl HF.out Tryz.underlying25 rfl int_size) rfl ?_
        exact ⟨A2, n2, c2, rfl, ⟨HPz.out.nn.relax (lt_of_sum HPz.out.nn (by omega)), HPz.out.sgn⟩, HB.out⟩
    · by_cases hab : z_y.natAbs ≤ z_x.natAbs
      · have hs2 : (sg z_x == sg z_y) = false := by simpa using hs
        have HS : RowKit.Hid (zOf (sg z_x) (z_x.natAbs - z_y.natAbs) = z) := (zOf_sub sg_zof sg_zof hs hab).trans hz
        obtain ⟨d, hd⟩ : ∃ d, cmpI z_x.natAbs z_y.natAbs = d := ⟨_, rfl⟩
        have hd0 : 0 ≤ d := by
          rw [← hd]
          rcases Nat.lt_or_eq_of_le hab with h | h
          · rw [cmpI_gt h]; decide
          · rw [cmpI_same h.symm]; decide
        have HV := Lib.hid hd
        clear hz hs hd
        go_wp2_with fail
        refine (refCmp_c HP.out.nn HQ.out.nn (by omega) (by omega) d HV.out).mono ?_
        rintro e w9 ⟨rfl, rfl⟩
        go_wp2_with fail
        clear d_p0 d_p1 d_q0 d_q1
        refine region_free 8 1 [30, 31, 32, 33, 34, 35, 36, 37] ?aF3 (fun wx => Below wS.heap.size wS wx) (fun k v wx => match k with
            | 0 => v = .pointer (some ⟨q_p, 0, none⟩)
            | 1 => v = .bool (sg z_x)
            | 2 => v = .pointer (some ⟨q_p, 1, none⟩)
            | 3 => v = .slice A_p n_p c_p
            | 4 => v = .pointer (some ⟨q_q, 1, none⟩)
            | 5 => v = .slice A_q n_q c_q
            | 6 => ∃ A2 n2 c2, v = .slice A2 n2 c2 ∧ NN wx A2 n2 c2 (limbs (z_x.natAbs - z_y.natAbs)) (z_x.natAbs - z_y.natAbs) L_x
            | _ => ∃ A2 n2 c2, v = .agg #[.bool (sg z), .slice A2 n2 c2] ∧ ZZ wx (sg z) A2 n2 c2 (limbs z.natAbs) z L_x)
          (fun _ => false) (by kernel_rfl) ?haF3 rfl (by kernel_rfl) (by kernel_rfl) (fun _ _ _ _ _ h => h) ?hSb3 ?hPb3 ?hS3 ?hop3 ?hfin3
        case haF3 =>
          intro vals
          simp only [fillAll, List.getElem?_cons_zero, List.getElem?_cons_succ, Act.put, List.setIfInBounds_toArray, List.set_cons_zero, List.set_cons_succ]
          exact rfl
        case hSb3 => exact fun wx w2 hb hS => below_two hS hb
        case hPb3 =>
          intro k v wa wb hb h
          match k, h with
          | 0, h => exact h
          | 1, h => exact h
          | 2, h => exact h
          | 3, h => exact h
          | 4, h => exact h
          | 5, h => exact h
          | 6, ⟨A2, n2, c2, h1, h2⟩ => exact ⟨A2, n2, c2, h1, h2.below hb⟩
          | _ + 7, ⟨A2, n2, c2, h1, h2⟩ => exact ⟨A2, n2, c2, h1, h2.below hb⟩
        case hS3 => exact (Below.refl _ _).drew
        case hop3 =>
          refine .cons (k := 0) ?_ (.cons (k := 1) ?_ (.cons (k := 2) ?_ (.cons (k := 3) ?_ (.cons (k := 4) ?_ (.cons (k := 5) ?_ (.cons (k := 6) ?_ (.cons (k := 7) ?_ (.nil))))))))
          all_goals intro vals wr hS hd KC hK
          all_goals (show Oper.wp _ _ _ _ _ _; dsimp only)
          · go_simp
            refine hK _ _ rfl (Below.refl _ _) (by first | rfl | simp) (fun h => by cases h)
          · have d0 : vals 0 = _ := hd 0 (by decide +kernel)
            rw [d0]
            have c0 := (HRp.out.below hS).c0
            go_simp
            refine hK _ _ rfl (Below.refl _ _) (by first | rfl | simp) (fun h => by cases h)
          · go_simp
            refine hK _ _ rfl (Below.refl _ _) (by first | rfl | simp) (fun h => by cases h)
          · have d2 : vals 2 = _ := hd 2 (by decide +kernel)
            rw [d2]
            have c0 := (HRp.out.below hS).c1
            go_simp
            refine hK _ _ rfl (Below.refl _ _) (by first | rfl | simp) (fun h => by cases h)
          · go_simp
            refine hK _ _ rfl (Below.refl _ _) (by first | rfl | simp) (fun h => by cases h)
          · have d4 : vals 4 = _ := hd 4 (by decide +kernel)
            rw [d4]
            have c0 := (HRq.out.below hS).c1
            go_simp
            refine hK _ _ rfl (Below.refl _ _) (by first | rfl | simp) (fun h => by cases h)
          · have d3 : vals 3 = _ := hd 3 (by decide +kernel)
            have d5 : vals 5 = _ := hd 5 (by decide +kernel)
            rw [d3, d5]
            go_simp
            go_at_call 36
            with_reducible refine (refSub_c (HP.out.nn.below hS) (HQ.out.nn.below hS) (by omega) (by omega) hab).mono ?_
            rintro e w2 ⟨A_r, n_r, c_r, rfl, h_r, bn_r⟩
            refine hK _ _ rfl bn_r ⟨_, _, _, rfl, h_r⟩ (fun h => by cases h)
          · have d1 : vals 1 = _ := hd 1 (by decide +kernel)
            obtain ⟨A_6, n_6, c_6, d6, h_6⟩ := hd 6 (by decide +kernel)
            rw [d1, d6]
            go_simp
            go_at_call 30
            with_reducible refine (refMake_c h_6 (by omega) z HS.out).mono ?_
            rintro e w2 ⟨A_r, n_r, c_r, rfl, h_r, bn_r⟩
            refine hK _ _ rfl bn_r ⟨_, _, _, rfl, h_r⟩ (fun h => by cases h)
        case hfin3 =>
          intro vals wr hS hP hne
          obtain ⟨A2, n2, c2, ez, h3⟩ := hP 7 (by decide)
          have hZ3 := HZ.out.below hS
          obtain ⟨e0, e1, f0, f1⟩ := hZ3.cells
          try dsimp only
          rw [ez]
          have HF := Lib.hid (hZ3.fill (.bool (sg z)) (.slice A2 n2 c2))
          have HPz := Lib.hid (h3.put hZ3 (.bool (sg z)) (.slice A2 n2 c2))
          have HB := Lib.hid (below_fill (below_two HW.out hS) Hq.out (.bool (sg z)) (.slice A2 n2 c2))
          refine wpAny_ready (rs := [8]) (by kernel_rfl) (by simp) (AllReady.cons rfl (fun KC hK => ?_) AllReady.nil)
          go_simp
          refine hK _ _ ?_
          clear hK KC
          refine wpAny_done (by kernel_rfl) ?_ _
          go_wp2
          refine bodyPost_ret (results_cell_row rfl _ _ (q_r) 25 #[.bool (sg z), .slice A2 n2 c2] (0, 0) _ rfl HF.out Tryz.underlying25 rfl int_size) rfl ?_
          exact ⟨A2, n2, c2, rfl, ⟨HPz.out.nn.relax (lt_of_sum HPz.out.nn (by omega)), HPz.out.sgn⟩, HB.out⟩
      · have hs2 : (sg z_x == sg z_y) = false := by simpa using hs
        have hba : z_x.natAbs ≤ z_y.natAbs := by omega
        have HS : RowKit.Hid (zOf (sg z_y) (z_y.natAbs - z_x.natAbs) = z) := (zOf_sub sg_zof sg_zof (Ne.symm hs) hba).trans ((Int.add_comm _ _).trans hz)
        obtain ⟨d, hd⟩ : ∃ d, cmpI z_x.natAbs z_y.natAbs = d := ⟨_, rfl⟩
        have hd0 : d < 0 := by
          rw [← hd, cmpI_lt (by omega)]; decide
        have HV := Lib.hid hd
        clear hz hs hd
        go_wp2_with fail
        refine (refCmp_c HP.out.nn HQ.out.nn (by omega) (by omega) d HV.out).mono ?_
        rintro e w9 ⟨rfl, rfl⟩
        go_wp2_with fail
        clear d_p0 d_p1 d_q0 d_q1
        refine region_free 8 1 [38, 39, 40, 41, 42, 43, 44, 45] ?aF4 (fun wx => Below wS.heap.size wS wx) (fun k v wx => match k with
            | 0 => v = .pointer (some ⟨q_q, 0, none⟩)
            | 1 => v = .bool (sg z_y)
            | 2 => v = .pointer (some ⟨q_q, 1, none⟩)
            | 3 => v = .slice A_q n_q c_q
            | 4 => v = .pointer (some ⟨q_p, 1, none⟩)
            | 5 => v = .slice A_p n_p c_p
            | 6 => ∃ A2 n2 c2, v = .slice A2 n2 c2 ∧ NN wx A2 n2 c2 (limbs (z_y.natAbs - z_x.natAbs)) (z_y.natAbs - z_x.natAbs) L_y
            | _ => ∃ A2 n2 c2, v = .agg #[.bool (sg z), .slice A2 n2 c2] ∧ ZZ wx (sg z) A2 n2 c2 (limbs z.natAbs) z L_y)
          (fun _ => false) (by kernel_rfl) ?haF4 rfl (by kernel_rfl) (by kernel_rfl) (fun _ _ _ _ _ h => h) ?hSb4 ?hPb4 ?hS4 ?hop4 ?hfin4
        case haF4 =>
          intro vals
          simp only [fillAll, List.getElem?_cons_zero, List.getElem?_cons_succ, Act.put, List.setIfInBounds_toArray, List.set_cons_zero, List.set_cons_succ]
          exact rfl
        case hSb4 => exact fun wx w2 hb hS => below_two hS hb
        case hPb4 =>
          intro k v wa wb hb h
          match k, h with
          | 0, h => exact h
          | 1, h => exact h
          | 2, h => exact h
          | 3, h => exact h
          | 4, h => exact h
          | 5, h => exact h
          | 6, ⟨A2, n2, c2, h1, h2⟩ => exact ⟨A2, n2, c2, h1, h2.below hb⟩
          | _ + 7, ⟨A2, n2, c2, h1, h2⟩ => exact ⟨A2, n2, c2, h1, h2.below hb⟩
        case hS4 => exact (Below.refl _ _).drew
        case hop4 =>
          refine .cons (k := 0) ?_ (.cons (k := 1) ?_ (.cons (k := 2) ?_ (.cons (k := 3) ?_ (.cons (k := 4) ?_ (.cons (k := 5) ?_ (.cons (k := 6) ?_ (.cons (k := 7) ?_ (.nil))))))))
          all_goals intro vals wr hS hd KC hK
          all_goals (show Oper.wp _ _ _ _ _ _; dsimp only)
          · go_simp
            refine hK _ _ rfl (Below.refl _ _) (by first | rfl | simp) (fun h => by cases h)
          · have d0 : vals 0 = _ := hd 0 (by decide +kernel)
            rw [d0]
            have c0 := (HRq.out.below hS).c0
            go_simp
            refine hK _ _ rfl (Below.refl _ _) (by first | rfl | simp) (fun h => by cases h)
          · go_simp
            refine hK _ _ rfl (Below.refl _ _) (by first | rfl | simp) (fun h => by cases h)
          · have d2 : vals 2 = _ := hd 2 (by decide +kernel)
            rw [d2]
            have c0 := (HRq.out.below hS).c1
            go_simp
            refine hK _ _ rfl (Below.refl _ _) (by first | rfl | simp) (fun h => by cases h)
          · go_simp
            refine hK _ _ rfl (Below.refl _ _) (by first | rfl | simp) (fun h => by cases h)
          · have d4 : vals 4 = _ := hd 4 (by decide +kernel)
            rw [d4]
            have c0 := (HRp.out.below hS).c1
            go_simp
            refine hK _ _ rfl (Below.refl _ _) (by first | rfl | simp) (fun h => by cases h)
          · have d3 : vals 3 = _ := hd 3 (by decide +kernel)
            have d5 : vals 5 = _ := hd 5 (by decide +kernel)
            rw [d3, d5]
            go_simp
            go_at_call 36
            with_reducible refine (refSub_c (HQ.out.nn.below hS) (HP.out.nn.below hS) (by omega) (by omega) hba).mono ?_
            rintro e w2 ⟨A_r, n_r, c_r, rfl, h_r, bn_r⟩
            refine hK _ _ rfl bn_r ⟨_, _, _, rfl, h_r⟩ (fun h => by cases h)
          · have d1 : vals 1 = _ := hd 1 (by decide +kernel)
            obtain ⟨A_6, n_6, c_6, d6, h_6⟩ := hd 6 (by decide +kernel)
            rw [d1, d6]
            go_simp
            go_at_call 30
            with_reducible refine (refMake_c h_6 (by omega) z HS.out).mono ?_
            rintro e w2 ⟨A_r, n_r, c_r, rfl, h_r, bn_r⟩
            refine hK _ _ rfl bn_r ⟨_, _, _, rfl, h_r⟩ (fun h => by cases h)
        case hfin4 =>
          intro vals wr hS hP hne
          obtain ⟨A2, n2, c2, ez, h3⟩ := hP 7 (by decide)
          have hZ3 := HZ.out.below hS
          obtain ⟨e0, e1, f0, f1⟩ := hZ3.cells
          try dsimp only
          rw [ez]
          have HF := Lib.hid (hZ3.fill (.bool (sg z)) (.slice A2 n2 c2))
          have HPz := Lib.hid (h3.put hZ3 (.bool (sg z)) (.slice A2 n2 c2))
          have HB := Lib.hid (below_fill (below_two HW.out hS) Hq.out (.bool (sg z)) (.slice A2 n2 c2))
          refine wpAny_ready (rs := [8]) (by kernel_rfl) (by simp) (AllReady.cons rfl (fun KC hK => ?_) AllReady.nil)
          go_simp
          refine hK _ _ ?_
          clear hK KC
          refine wpAny_done (by kernel_rfl) ?_ _
          go_wp2
          refine bodyPost_ret (results_cell_row rfl _ _ (q_r) 25 #[.bool (sg z), .slice A2 n2 c2] (0, 0) _ rfl HF.out Tryz.underlying25 rfl int_size) rfl ?_
          exact ⟨A2, n2, c2, rfl, ⟨HPz.out.nn.relax (lt_of_sum HPz.out.nn (by omega)), HPz.out.sgn⟩, HB.out⟩

end Go.Proofs.YtgdchljbjnhchaaGreatDoor

/- What the reference's Parse of layer 6 answers, as a contract over memory. No condition. -/
namespace Go.Proofs.YtgdchljbjnhchaaGreatDoor
open Go.RowKit Limb
set_option linter.unusedVariables false
/-- A block of three cells. -/
def Row3 (w : World) (g : Nat) (T : TypeId) (a b c : Value) : Prop := w.heap[g]? = some (.cells #[a, b, c] T (0, 0))
section
variable {w w' : World} {g : Nat} {T : TypeId} {a b c : Value}
theorem Row3.lt (h : Row3 w g T a b c) : g < w.heap.size := by
  rcases Nat.lt_or_ge g w.heap.size with hlt | hge
  · exact hlt
  · unfold Row3 at h; rw [Array.getElem?_eq_none hge] at h; cases h
theorem Row3.below (h : Row3 w g T a b c) (hb : Below w.heap.size w w') : Row3 w' g T a b c := (hb.block g h.lt).trans h
theorem Row3.c0 (h : Row3 w g T a b c) : w.cell? ⟨g, 0, none⟩ = some a := by unfold Row3 at h; simp [World.cell?, h]
theorem Row3.c1 (h : Row3 w g T a b c) : w.cell? ⟨g, 1, none⟩ = some b := by unfold Row3 at h; simp [World.cell?, h]
theorem Row3.c2 (h : Row3 w g T a b c) : w.cell? ⟨g, 2, none⟩ = some c := by unfold Row3 at h; simp [World.cell?, h]
theorem Row3.free (h : Row3 w g T a b c) (k : Nat) : w.frozen? ⟨g, k, none⟩ = false := by unfold Row3 at h; simp [World.frozen?, h]
theorem Row3.fill (h : Row3 w g T a b c) (x y z : Value) : Row3 (((w.setCell ⟨g, 0, none⟩ x).setCell ⟨g, 1, none⟩ y).setCell ⟨g, 2, none⟩ z) g T x y z := by
  unfold Row3 at h ⊢
  simp [World.setCell, Array.getElem?_modify, h]
theorem row3_new (w : World) (T : TypeId) (a b c : Value) : Row3 (w.alloc (.cells #[a, b, c] T)) w.heap.size T a b c := heap_alloc_new _ _
theorem below_fill3' (h : Below w.heap.size w w') (hg : w.heap.size ≤ g) (x y z : Value) : Below w.heap.size w (((w'.setCell ⟨g, 0, none⟩ x).setCell ⟨g, 1, none⟩ y).setCell ⟨g, 2, none⟩ z) :=
  ((h.setCell (by exact hg) _).setCell (by exact hg) _).setCell (by exact hg) _
end
theorem ZZ.put3 {w : World} {s : Bool} {A : Option Addr} {n c : Nat} {xs : List Nat} {z : Int} {L g : Nat} {T : TypeId} {b0 b1 : Bool} {A0 : Option Addr} {n0 c0 : Nat} (h : ZZ w s A n c xs z L) (hb : Row3 w g T (.bool b0) (.slice A0 n0 c0) (.bool b1)) (u v x : Value) :
    ZZ (((w.setCell ⟨g, 0, none⟩ u).setCell ⟨g, 1, none⟩ v).setCell ⟨g, 2, none⟩ x) s A n c xs z L := by
  have hA : Apart g A n := by
    intro hn b' o s' e
    obtain ⟨b, o2, e2, hlt, hc⟩ := h.nn.isN.2.2 hn
    rw [e] at e2
    injection e2 with e2
    injection e2 with e3 e4
    subst e3
    rintro rfl
    have h1 := hc 0 hn
    unfold Row3 at hb
    match o2, h1 with
    | 0, h1 => simp [World.cell?, hb] at h1
    | 1, h1 => simp [World.cell?, hb] at h1
    | 2, h1 => simp [World.cell?, hb] at h1
    | o + 3, h1 => simp [World.cell?, hb] at h1
  exact ⟨((h.nn.elsewhere hA 0 u).elsewhere hA 1 v).elsewhere hA 2 x, h.sgn⟩
theorem got6_size : (Tryz.prog.info? 34).map (·.size) = some 3 := by kernel_rfl
theorem refParse_v (s : ByteArray) (w : World) (v : Bool) (hv : numOk (bytesOf s) = v) (m : Nat) (hm : numV (bytesOf s) = m) :
    Calls Tryz.prog 29 #[.string s] w fun e w' => ∃ A1 n1 c1, e = .returned (.agg #[.slice A1 n1 c1, .bool v]) ∧ NN w' A1 n1 c1 (limbs m) m 223 ∧ Below w.heap.size w w' := by
  subst hv; subst hm; exact refParse_c s w

theorem lim_head {l : List Nat} {x : Nat} (h : l.head? = some x) : lim l 0 = x := by
  cases l with
  | nil => cases h
  | cons y l => injection h
theorem head_lim {l : List Nat} {x : Nat} (hl : 0 < l.length) (h : lim l 0 = x) : l.head? = some x := by
  cases l with
  | nil => simp at hl
  | cons y l => rw [← h]; rfl

set_option maxHeartbeats 4000000 in
set_option maxRecDepth 100000 in
theorem refIParse_c (t : ByteArray) (w : World) (v : Bool) (hv : zOk (bytesOf t) = v) (z : Int) (hz : zV (bytesOf t) = z) :
    Calls Tryz.prog 8 #[.string t] w fun e w' => ∃ A2 n2 c2, e = .returned (.agg #[.bool (sg z), .slice A2 n2 c2, .bool v]) ∧ ZZ w' (sg z) A2 n2 c2 (limbs z.natAbs) z 223 ∧ Below w.heap.size w w' := by
  have HW := Lib.hid (below_new w (.cells #[Value.bool false, Value.slice none 0 0, Value.bool false] 34))
  have HG := Lib.hid (row3_new w 34 (.bool false) (.slice none 0 0) (.bool false))
  by_cases hp : 0 < t.size
  · by_cases hm : (bytesOf t).head? = Option.some 45
    · rw [zOk_minus hm] at hv
      rw [zV_minus hm] at hz
      obtain ⟨k, hk⟩ : ∃ k, numOk (bytesOf t).tail = k := ⟨_, rfl⟩
      obtain ⟨m, hmm⟩ : ∃ m, numV (bytesOf t).tail = m := ⟨_, rfl⟩
      rw [hk, hmm] at hv
      rw [hmm] at hz
      have hk0 : k = false → m = 0 := fun h => by rw [← hmm]; exact numV_no (hk.trans h)
      obtain ⟨d, hd⟩ : ∃ d, (t[0]'hp).toNat = d := ⟨_, rfl⟩
      have hdl : d = lim (bytesOf t) 0 := by rw [← hd, byte_at t 0 hp]
      have hpi : (0 : Int) < (t.size : Int) := by omega
      have e45 : d = 45 := by rw [hdl]; exact lim_head hm
      subst e45
      obtain ⟨R, hR⟩ : ∃ R, t.extract 1 t.size = R := ⟨_, rfl⟩
      have hRb := bytesOf_tail (S := t) hp
      rw [hR] at hRb
      rw [← hRb] at hk hmm
      have hp1 : (1 : Int) ≤ (t.size : Int) := by omega
      clear hdl
      have HK := Lib.hid hk
      have HM := Lib.hid hmm
      clear hk hmm hm hRb
      go_enter Tryz.func8, Tryz.ntmps8
      go_wp2_with fail
      refine (refParse_v R _ k HK.out m HM.out).mono ?_
      rintro e w2 ⟨A1, n1, c1, rfl, h1, bn⟩
      have bg := below_new w2 (.cells #[Value.slice A1 n1 c1, Value.bool k] 51)
      have BN := Lib.hid (below_two bn bg)
      have hn : n1 = 0 ↔ m = 0 := by rw [← h1.isN.len]; exact len_limbs_zero
      have d0 := (row2_new w2 51 (.slice A1 n1 c1) (.bool k)).c0
      have d1 := (row2_new w2 51 (.slice A1 n1 c1) (.bool k)).c1
      by_cases hk1 : k = true
      · subst hk1
        by_cases em : m = 0
        · have en : n1 = 0 := hn.2 em
          subst en
          subst em
          have ev : v = false := by rw [← hv]; simp
          subst ev
          have ez : z = 0 := by rw [← hz]; rfl
          subst ez
          clear hv hz hk0 hn
          have e0 := (HG.out.below BN.out).c0
          have e1 := (HG.out.below BN.out).c1
          have e2 := (HG.out.below BN.out).c2
          have f0 := (HG.out.below BN.out).free 0
          have f1 := (HG.out.below BN.out).free 1
          have f2 := (HG.out.below BN.out).free 2
          clear h1 bn
          have HF := Lib.hid ((HG.out.below BN.out).fill (.bool false) (.slice none 0 0) (.bool false))
          have HB := Lib.hid (below_fill3' (g := w.heap.size) (below_two HW.out BN.out) (Nat.le_refl _) (.bool false) (.slice none 0 0) (.bool false))
          go_wp2
          refine bodyPost_ret (results_cell_row rfl _ _ w.heap.size 34 #[.bool false, .slice none 0 0, .bool false] (0, 0) _ rfl HF.out Tryz.underlying34 rfl got6_size) rfl ?_
          exact ⟨none, 0, 0, rfl, ⟨⟨IsN.nil _ _, rfl, Nat.le_refl _, Nat.zero_le _⟩, rfl⟩, HB.out⟩
        · have ev : v = true := by rw [← hv]; simp [em]
          subst ev
          have hn0 : ((n1 : Int) == 0) = false := by
            rw [beq_eq_false_iff_ne]
            have := mt hn.1 em
            omega
          have HS : RowKit.Hid (zOf true m = z) := by
            show _ = _
            rw [← hz]; rfl
          clear hv hz hk0 hn em
          go_wp2_with fail
          refine (refMake_c (h1.below bg) (by decide) z HS.out).mono ?_
          rintro e w4 ⟨A4, n4, c4, rfl, h4, bm⟩
          have BM := Lib.hid (below_two BN.out bm)
          clear h1 bn bg d0 d1
          have e0 := (HG.out.below BM.out).c0
          have e1 := (HG.out.below BM.out).c1
          have e2 := (HG.out.below BM.out).c2
          have f0 := (HG.out.below BM.out).free 0
          have f1 := (HG.out.below BM.out).free 1
          have f2 := (HG.out.below BM.out).free 2
          have HF := Lib.hid ((HG.out.below BM.out).fill (.bool (sg z)) (.slice A4 n4 c4) (.bool true))
          have HB := Lib.hid (below_fill3' (g := w.heap.size) (below_two HW.out BM.out) (Nat.le_refl _) (.bool (sg z)) (.slice A4 n4 c4) (.bool true))
          have HP := Lib.hid (h4.put3 (HG.out.below BM.out) (.bool (sg z)) (.slice A4 n4 c4) (.bool true))
          clear h4 bm
          go_wp2
          refine bodyPost_ret (results_cell_row rfl _ _ w.heap.size 34 #[.bool (sg z), .slice A4 n4 c4, .bool true] (0, 0) _ rfl HF.out Tryz.underlying34 rfl got6_size) rfl ?_
          exact ⟨A4, n4, c4, rfl, HP.out, HB.out⟩
      · have hk2 : k = false := by simpa using hk1
        have em : m = 0 := hk0 hk2
        subst hk2
        subst em
        have ev : v = false := by rw [← hv]; rfl
        subst ev
        have ez : z = 0 := by rw [← hz]; rfl
        subst ez
        clear hv hz hk0 hk1 hn
        have e0 := (HG.out.below BN.out).c0
        have e1 := (HG.out.below BN.out).c1
        have e2 := (HG.out.below BN.out).c2
        have f0 := (HG.out.below BN.out).free 0
        have f1 := (HG.out.below BN.out).free 1
        have f2 := (HG.out.below BN.out).free 2
        clear h1 bn
        have HF := Lib.hid ((HG.out.below BN.out).fill (.bool false) (.slice none 0 0) (.bool false))
        have HB := Lib.hid (below_fill3' (g := w.heap.size) (below_two HW.out BN.out) (Nat.le_refl _) (.bool false) (.slice none 0 0) (.bool false))
        go_wp2
        refine bodyPost_ret (results_cell_row rfl _ _ w.heap.size 34 #[.bool false, .slice none 0 0, .bool false] (0, 0) _ rfl HF.out Tryz.underlying34 rfl got6_size) rfl ?_
        exact ⟨none, 0, 0, rfl, ⟨⟨IsN.nil _ _, rfl, Nat.le_refl _, Nat.zero_le _⟩, rfl⟩, HB.out⟩
    · rw [zOk_plain hm] at hv
      rw [zV_plain hm] at hz
      obtain ⟨k, hk⟩ : ∃ k, numOk (bytesOf t) = k := ⟨_, rfl⟩
      obtain ⟨m, hmm⟩ : ∃ m, numV (bytesOf t) = m := ⟨_, rfl⟩
      rw [hk] at hv
      rw [hmm] at hz
      have hk0 : k = false → m = 0 := fun h => by rw [← hmm]; exact numV_no (hk.trans h)
      obtain ⟨d, hd⟩ : ∃ d, (t[0]'hp).toNat = d := ⟨_, rfl⟩
      have hdl : d = lim (bytesOf t) 0 := by rw [← hd, byte_at t 0 hp]
      have hpi : (0 : Int) < (t.size : Int) := by omega
      have hd45 : ((d : Int) == 45) = false := by
        rw [beq_eq_false_iff_ne]
        intro e
        exact hm (head_lim (by rw [length_bytesOf]; exact hp) (by rw [← hdl]; omega))
      clear hdl
      have HK := Lib.hid hk
      have HM := Lib.hid hmm
      clear hk hmm hm
      go_enter Tryz.func8, Tryz.ntmps8
      go_wp2_with fail
      refine (refParse_v t _ k HK.out m HM.out).mono ?_
      rintro e w2 ⟨A1, n1, c1, rfl, h1, bn⟩
      have bg := below_new w2 (.cells #[Value.slice A1 n1 c1, Value.bool k] 51)
      have BN := Lib.hid (below_two bn bg)
      have hn : n1 = 0 ↔ m = 0 := by rw [← h1.isN.len]; exact len_limbs_zero
      have d0 := (row2_new w2 51 (.slice A1 n1 c1) (.bool k)).c0
      have d1 := (row2_new w2 51 (.slice A1 n1 c1) (.bool k)).c1
      by_cases hk1 : k = true
      · subst hk1
        have ev : v = true := hv.symm
        subst ev
        have HS : RowKit.Hid (zOf false m = z) := by
          show _ = _
          rw [← hz]; rfl
        clear hv hz hk0 hn
        go_wp2_with fail
        refine (refMake_c (h1.below bg) (by decide) z HS.out).mono ?_
        rintro e w4 ⟨A4, n4, c4, rfl, h4, bm⟩
        have BM := Lib.hid (below_two BN.out bm)
        clear h1 bn bg d0 d1
        have e0 := (HG.out.below BM.out).c0
        have e1 := (HG.out.below BM.out).c1
        have e2 := (HG.out.below BM.out).c2
        have f0 := (HG.out.below BM.out).free 0
        have f1 := (HG.out.below BM.out).free 1
        have f2 := (HG.out.below BM.out).free 2
        have HF := Lib.hid ((HG.out.below BM.out).fill (.bool (sg z)) (.slice A4 n4 c4) (.bool true))
        have HB := Lib.hid (below_fill3' (g := w.heap.size) (below_two HW.out BM.out) (Nat.le_refl _) (.bool (sg z)) (.slice A4 n4 c4) (.bool true))
        have HP := Lib.hid (h4.put3 (HG.out.below BM.out) (.bool (sg z)) (.slice A4 n4 c4) (.bool true))
        clear h4 bm
        go_wp2
        refine bodyPost_ret (results_cell_row rfl _ _ w.heap.size 34 #[.bool (sg z), .slice A4 n4 c4, .bool true] (0, 0) _ rfl HF.out Tryz.underlying34 rfl got6_size) rfl ?_
        exact ⟨A4, n4, c4, rfl, HP.out, HB.out⟩
      · have hk2 : k = false := by simpa using hk1
        have em : m = 0 := hk0 hk2
        subst hk2
        subst em
        have ev : v = false := by rw [← hv]
        subst ev
        have ez : z = 0 := by rw [← hz]; rfl
        subst ez
        clear hv hz hk0 hk1 hn
        have e0 := (HG.out.below BN.out).c0
        have e1 := (HG.out.below BN.out).c1
        have e2 := (HG.out.below BN.out).c2
        have f0 := (HG.out.below BN.out).free 0
        have f1 := (HG.out.below BN.out).free 1
        have f2 := (HG.out.below BN.out).free 2
        clear h1 bn
        have HF := Lib.hid ((HG.out.below BN.out).fill (.bool false) (.slice none 0 0) (.bool false))
        have HB := Lib.hid (below_fill3' (g := w.heap.size) (below_two HW.out BN.out) (Nat.le_refl _) (.bool false) (.slice none 0 0) (.bool false))
        go_wp2
        refine bodyPost_ret (results_cell_row rfl _ _ w.heap.size 34 #[.bool false, .slice none 0 0, .bool false] (0, 0) _ rfl HF.out Tryz.underlying34 rfl got6_size) rfl ?_
        exact ⟨none, 0, 0, rfl, ⟨⟨IsN.nil _ _, rfl, Nat.le_refl _, Nat.zero_le _⟩, rfl⟩, HB.out⟩
  · have hB : t.size = 0 := by omega
    have hm : (bytesOf t).head? ≠ Option.some 45 := by
      rw [List.eq_nil_of_length_eq_zero ((length_bytesOf t).trans hB)]; simp
    clear hp
    rw [zOk_plain hm] at hv
    rw [zV_plain hm] at hz
    obtain ⟨k, hk⟩ : ∃ k, numOk (bytesOf t) = k := ⟨_, rfl⟩
    obtain ⟨m, hmm⟩ : ∃ m, numV (bytesOf t) = m := ⟨_, rfl⟩
    rw [hk] at hv
    rw [hmm] at hz
    have hk0 : k = false → m = 0 := fun h => by rw [← hmm]; exact numV_no (hk.trans h)
    have HK := Lib.hid hk
    have HM := Lib.hid hmm
    clear hk hmm hm
    go_enter Tryz.func8, Tryz.ntmps8
    go_wp2_with fail
    refine (refParse_v t _ k HK.out m HM.out).mono ?_
    rintro e w2 ⟨A1, n1, c1, rfl, h1, bn⟩
    have bg := below_new w2 (.cells #[Value.slice A1 n1 c1, Value.bool k] 51)
    have BN := Lib.hid (below_two bn bg)
    have hn : n1 = 0 ↔ m = 0 := by rw [← h1.isN.len]; exact len_limbs_zero
    have d0 := (row2_new w2 51 (.slice A1 n1 c1) (.bool k)).c0
    have d1 := (row2_new w2 51 (.slice A1 n1 c1) (.bool k)).c1
    by_cases hk1 : k = true
    · subst hk1
      have ev : v = true := hv.symm
      subst ev
      have HS : RowKit.Hid (zOf false m = z) := by
        show _ = _
        rw [← hz]; rfl
      clear hv hz hk0 hn
      go_wp2_with fail
      refine (refMake_c (h1.below bg) (by decide) z HS.out).mono ?_
      rintro e w4 ⟨A4, n4, c4, rfl, h4, bm⟩
      have BM := Lib.hid (below_two BN.out bm)
      clear h1 bn bg d0 d1
      have e0 := (HG.out.below BM.out).c0
      have e1 := (HG.out.below BM.out).c1
      have e2 := (HG.out.below BM.out).c2
      have f0 := (HG.out.below BM.out).free 0
      have f1 := (HG.out.below BM.out).free 1
      have f2 := (HG.out.below BM.out).free 2
      have HF := Lib.hid ((HG.out.below BM.out).fill (.bool (sg z)) (.slice A4 n4 c4) (.bool true))
      have HB := Lib.hid (below_fill3' (g := w.heap.size) (below_two HW.out BM.out) (Nat.le_refl _) (.bool (sg z)) (.slice A4 n4 c4) (.bool true))
      have HP := Lib.hid (h4.put3 (HG.out.below BM.out) (.bool (sg z)) (.slice A4 n4 c4) (.bool true))
      clear h4 bm
      go_wp2
      refine bodyPost_ret (results_cell_row rfl _ _ w.heap.size 34 #[.bool (sg z), .slice A4 n4 c4, .bool true] (0, 0) _ rfl HF.out Tryz.underlying34 rfl got6_size) rfl ?_
      exact ⟨A4, n4, c4, rfl, HP.out, HB.out⟩
    · have hk2 : k = false := by simpa using hk1
      have em : m = 0 := hk0 hk2
      subst hk2
      subst em
      have ev : v = false := by rw [← hv]
      subst ev
      have ez : z = 0 := by rw [← hz]; rfl
      subst ez
      clear hv hz hk0 hk1 hn
      have e0 := (HG.out.below BN.out).c0
      have e1 := (HG.out.below BN.out).c1
      have e2 := (HG.out.below BN.out).c2
      have f0 := (HG.out.below BN.out).free 0
      have f1 := (HG.out.below BN.out).free 1
      have f2 := (HG.out.below BN.out).free 2
      clear h1 bn
      have HF := Lib.hid ((HG.out.below BN.out).fill (.bool false) (.slice none 0 0) (.bool false))
      have HB := Lib.hid (below_fill3' (g := w.heap.size) (below_two HW.out BN.out) (Nat.le_refl _) (.bool false) (.slice none 0 0) (.bool false))
      go_wp2
      refine bodyPost_ret (results_cell_row rfl _ _ w.heap.size 34 #[.bool false, .slice none 0 0, .bool false] (0, 0) _ rfl HF.out Tryz.underlying34 rfl got6_size) rfl ?_
      exact ⟨none, 0, 0, rfl, ⟨⟨IsN.nil _ _, rfl, Nat.le_refl _, Nat.zero_le _⟩, rfl⟩, HB.out⟩

end Go.Proofs.YtgdchljbjnhchaaGreatDoor
