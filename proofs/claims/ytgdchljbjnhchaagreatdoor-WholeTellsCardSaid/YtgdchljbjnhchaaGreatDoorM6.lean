/- Part 6 of the texts that the statements of this seat lean on: mathematics, and what functions answer, as contracts over memory; each part says its own conditions. -/
import Derived.Test.YtgdchljbjnhchaaGreatDoorM5
import Derived.ChangeMaps5
import Derived.Lay
import Derived.SevenTiedAt
import Derived.Deep.RegionWith
import Derived.Deep.RegionHeld3
import Derived.Lib.LaidTab
import Derived.Stop.LaidErr
/- The walk of WholeTells where all is short enough. Condition: at most 60 limbs, 500 bytes. -/
namespace Go.Proofs.YtgdchljbjnhchaaGreatDoor.lawWholeTells
open Go.ChangeShapes Go.WideShapes Go.ChangeAt Go.RowKit Limb
set_option linter.unusedVariables false

theorem keep_self (s : Bool) (xs : List Nat) : (decide (s = s) && same xs xs) = true := by
  rw [same_self]; simp

set_option maxHeartbeats 400000000 in
set_option maxRecDepth 100000 in
theorem tells (g_a : Bool) (A_a : Option Addr) (n_a c_a : Nat) (xs_a : List Nat) (g_b : Bool) (A_b : Option Addr) (n_b c_b : Nat) (xs_b : List Nat) (v_x : Int) (s_x : ByteArray) (w : World) (i_a : IsN w A_a n_a xs_a) (hc_a : n_a ≤ c_a) (hm_a : c_a ≤ maxLen) (i_b : IsN w A_b n_b xs_b) (hc_b : n_b ≤ c_b) (hm_b : c_b ≤ maxLen) (f_x : (Lit.int .i64 v_x).wf = true) (z_x : s_x.size ≤ maxLen) (T : Tab w) (l_a : n_a ≤ 60) (l_b : n_b ≤ 60) (l_x : s_x.size ≤ 500) :
    Calls Tryz.prog 3 #[.agg #[.bool g_a, .slice A_a n_a c_a], .agg #[.bool g_b, .slice A_b n_b c_b], .agg #[.int .i64 v_x, .string s_x]] w fun e w' => e = .returned (.bool true) ∧ Below w.heap.size w w' := by
  have HTab := Lib.hid T
  clear T
  have bw := bel_refl w
  have hv0 : -9223372036854775808 ≤ v_x ∧ v_x ≤ 9223372036854775807 := by
    have e1 : IntKind.i64.min = -9223372036854775808 := rfl
    have e2 : IntKind.i64.max = 9223372036854775807 := rfl
    simp only [Lit.wf, Bool.and_eq_true, decide_eq_true_eq] at f_x
    omega
  have HV0 := Lib.hid hv0
  clear f_x z_x hv0
  have T_a : RowKit.Hid (decide (60 < n_a) = false) := by show _ = _; simp; omega
  have T_b : RowKit.Hid (decide (60 < n_b) = false) := by show _ = _; simp; omega
  have h_a : ZZ w g_a A_a n_a c_a xs_a (zOf g_a (Limb.val xs_a)) 60 := ZZ.of ⟨i_a, rfl, hc_a, by omega⟩
  generalize zOf g_a (Limb.val xs_a) = z_a at h_a
  have h_b : ZZ w g_b A_b n_b c_b xs_b (zOf g_b (Limb.val xs_b)) 60 := ZZ.of ⟨i_b, rfl, hc_b, by omega⟩
  generalize zOf g_b (Limb.val xs_b) = z_b at h_b
  obtain ⟨S, hS⟩ : ∃ S, strOf (zT z_a) = S := ⟨_, rfl⟩
  obtain ⟨v, hv⟩ : ∃ v, cmpZ z_a z_b = v := ⟨_, rfl⟩
  obtain ⟨ok, hok⟩ : ∃ v, zOk (bytesOf s_x) = v := ⟨_, rfl⟩
  obtain ⟨z_v, hzv⟩ : ∃ z, zV (bytesOf s_x) = z := ⟨_, rfl⟩
  have hS := Lib.hid hS
  have hv := Lib.hid hv
  have hok := Lib.hid hok
  have hzv := Lib.hid hzv
  have l_x2 : (s_x.size : Int) ≤ 500 := by omega
  have h_ra := row2_new w 25 (.bool g_a) (.slice A_a n_a c_a)
  have bn := below_new w (.cells #[Value.bool g_a, Value.slice A_a n_a c_a] 25)
  replace h_a := h_a.below bn
  replace h_b := h_b.below bn
  replace HTab := Lib.hid (HTab.out.below bn)
  replace bw := below_two bw bn
  clear bn
  have h_rb := row2_new (w.alloc (.cells #[Value.bool g_a, Value.slice A_a n_a c_a] 25)) 25 (.bool g_b) (.slice A_b n_b c_b)
  have bn := below_new (w.alloc (.cells #[Value.bool g_a, Value.slice A_a n_a c_a] 25)) (.cells #[Value.bool g_b, Value.slice A_b n_b c_b] 25)
  replace h_a := h_a.below bn
  replace h_b := h_b.below bn
  replace h_ra := h_ra.below bn
  replace HTab := Lib.hid (HTab.out.below bn)
  replace bw := below_two bw bn
  clear bn
  have h_rx := row2_new ((w.alloc (.cells #[Value.bool g_a, Value.slice A_a n_a c_a] 25)).alloc (.cells #[Value.bool g_b, Value.slice A_b n_b c_b] 25)) 27 (.int .i64 v_x) (.string s_x)
  have bn := below_new ((w.alloc (.cells #[Value.bool g_a, Value.slice A_a n_a c_a] 25)).alloc (.cells #[Value.bool g_b, Value.slice A_b n_b c_b] 25)) (.cells #[Value.int .i64 v_x, Value.string s_x] 27)
  replace h_a := h_a.below bn
  replace h_b := h_b.below bn
  replace h_ra := h_ra.below bn
  replace h_rb := h_rb.below bn
  replace HTab := Lib.hid (HTab.out.below bn)
  replace bw := below_two bw bn
  clear bn
  simp only [World.size_alloc] at h_ra h_rb h_rx
  go_enter Tryz.func3, Tryz.ntmps3
  go_wp2_with fail
  generalize (((w.alloc (.cells #[Value.bool g_a, Value.slice A_a n_a c_a] 25)).alloc (.cells #[Value.bool g_b, Value.slice A_b n_b c_b] 25)).alloc (.cells #[Value.int .i64 v_x, Value.string s_x] 27)) = wP at *
  obtain ⟨q_x, eg⟩ : ∃ g, g = w.heap.size + 1 + 1 := ⟨_, rfl⟩
  rw [← eg] at h_rx ⊢
  have E_x := Lib.hid eg
  clear eg
  obtain ⟨q_b, eg⟩ : ∃ g, g = w.heap.size + 1 := ⟨_, rfl⟩
  rw [← eg] at h_rb ⊢
  have E_b := Lib.hid eg
  clear eg
  obtain ⟨q_a, eg⟩ : ∃ g, g = w.heap.size := ⟨_, rfl⟩
  rw [← eg] at h_ra ⊢
  have E_a := Lib.hid eg
  clear eg
  refine (long_c g_a A_a n_a c_a false T_a.out _).mono ?_
  rintro e w1 ⟨rfl, bn⟩
  replace h_a := h_a.below bn
  replace h_b := h_b.below bn
  replace h_ra := h_ra.below bn
  replace h_rb := h_rb.below bn
  replace h_rx := h_rx.below bn
  replace HTab := Lib.hid (HTab.out.below bn)
  replace bw := below_two bw bn
  clear bn
  have d_a0 := h_ra.c0
  have d_a1 := h_ra.c1
  have d_b0 := h_rb.c0
  have d_b1 := h_rb.c1
  have d_x0 := h_rx.c0
  have d_x1 := h_rx.c1
  go_wp2_with fail
  clear d_a0 d_a1 d_b0 d_b1 d_x0 d_x1
  refine (long_c g_b A_b n_b c_b false T_b.out _).mono ?_
  rintro e w2 ⟨rfl, bn⟩
  replace h_a := h_a.below bn
  replace h_b := h_b.below bn
  replace h_ra := h_ra.below bn
  replace h_rb := h_rb.below bn
  replace h_rx := h_rx.below bn
  replace HTab := Lib.hid (HTab.out.below bn)
  replace bw := below_two bw bn
  clear bn
  have d_a0 := h_ra.c0
  have d_a1 := h_ra.c1
  have d_b0 := h_rb.c0
  have d_b1 := h_rb.c1
  have d_x0 := h_rx.c0
  have d_x1 := h_rx.c1
  go_wp2_with fail
  clear d_a0 d_a1 d_b0 d_b1 d_x0 d_x1
  generalize w2 = wS at *
  have KA : RowKit.Hid (∀ wx, Below wS.heap.size wS wx → (wx.cell? ⟨q_a, 0, none⟩ = some (.bool g_a) ∧ wx.cell? ⟨q_a, 1, none⟩ = some (.slice A_a n_a c_a) ∧ wx.cell? ⟨q_b, 0, none⟩ = some (.bool g_b) ∧ wx.cell? ⟨q_b, 1, none⟩ = some (.slice A_b n_b c_b) ∧ wx.cell? ⟨q_x, 0, none⟩ = some (.int .i64 v_x) ∧ wx.cell? ⟨q_x, 1, none⟩ = some (.string s_x) ∧ Below wS.heap.size wS wx)) := fun wx hb => ⟨(h_ra.below hb).c0, (h_ra.below hb).c1, (h_rb.below hb).c0, (h_rb.below hb).c1, (h_rx.below hb).c0, (h_rx.below hb).c1, hb⟩
  have KS : RowKit.Hid (∀ wx w2, (wx.cell? ⟨q_a, 0, none⟩ = some (.bool g_a) ∧ wx.cell? ⟨q_a, 1, none⟩ = some (.slice A_a n_a c_a) ∧ wx.cell? ⟨q_b, 0, none⟩ = some (.bool g_b) ∧ wx.cell? ⟨q_b, 1, none⟩ = some (.slice A_b n_b c_b) ∧ wx.cell? ⟨q_x, 0, none⟩ = some (.int .i64 v_x) ∧ wx.cell? ⟨q_x, 1, none⟩ = some (.string s_x) ∧ Below wS.heap.size wS wx) → Below wx.heap.size wx w2 → (w2.cell? ⟨q_a, 0, none⟩ = some (.bool g_a) ∧ w2.cell? ⟨q_a, 1, none⟩ = some (.slice A_a n_a c_a) ∧ w2.cell? ⟨q_b, 0, none⟩ = some (.bool g_b) ∧ w2.cell? ⟨q_b, 1, none⟩ = some (.slice A_b n_b c_b) ∧ w2.cell? ⟨q_x, 0, none⟩ = some (.int .i64 v_x) ∧ w2.cell? ⟨q_x, 1, none⟩ = some (.string s_x) ∧ Below wS.heap.size wS w2)) := fun wx w2 hS bn => KA.out _ (below_two hS.2.2.2.2.2.2 bn)
  have KU : RowKit.Hid (∀ (wx : World) (q : Nat) (u v : Value), (wx.cell? ⟨q_a, 0, none⟩ = some (.bool g_a) ∧ wx.cell? ⟨q_a, 1, none⟩ = some (.slice A_a n_a c_a) ∧ wx.cell? ⟨q_b, 0, none⟩ = some (.bool g_b) ∧ wx.cell? ⟨q_b, 1, none⟩ = some (.slice A_b n_b c_b) ∧ wx.cell? ⟨q_x, 0, none⟩ = some (.int .i64 v_x) ∧ wx.cell? ⟨q_x, 1, none⟩ = some (.string s_x) ∧ Below wS.heap.size wS wx) → wS.heap.size ≤ q → (((wx.setCell ⟨q, 0, none⟩ u).setCell ⟨q, 1, none⟩ v).cell? ⟨q_a, 0, none⟩ = some (.bool g_a) ∧ ((wx.setCell ⟨q, 0, none⟩ u).setCell ⟨q, 1, none⟩ v).cell? ⟨q_a, 1, none⟩ = some (.slice A_a n_a c_a) ∧ ((wx.setCell ⟨q, 0, none⟩ u).setCell ⟨q, 1, none⟩ v).cell? ⟨q_b, 0, none⟩ = some (.bool g_b) ∧ ((wx.setCell ⟨q, 0, none⟩ u).setCell ⟨q, 1, none⟩ v).cell? ⟨q_b, 1, none⟩ = some (.slice A_b n_b c_b) ∧ ((wx.setCell ⟨q, 0, none⟩ u).setCell ⟨q, 1, none⟩ v).cell? ⟨q_x, 0, none⟩ = some (.int .i64 v_x) ∧ ((wx.setCell ⟨q, 0, none⟩ u).setCell ⟨q, 1, none⟩ v).cell? ⟨q_x, 1, none⟩ = some (.string s_x) ∧ Below wS.heap.size wS ((wx.setCell ⟨q, 0, none⟩ u).setCell ⟨q, 1, none⟩ v))) := fun wx q u v hS hq => KA.out _ ((hS.2.2.2.2.2.2.setCell (p := ⟨q, 0, none⟩) hq u).setCell (p := ⟨q, 1, none⟩) hq v)
  have K_a : RowKit.Hid (∀ wx, (wx.cell? ⟨q_a, 0, none⟩ = some (.bool g_a) ∧ wx.cell? ⟨q_a, 1, none⟩ = some (.slice A_a n_a c_a) ∧ wx.cell? ⟨q_b, 0, none⟩ = some (.bool g_b) ∧ wx.cell? ⟨q_b, 1, none⟩ = some (.slice A_b n_b c_b) ∧ wx.cell? ⟨q_x, 0, none⟩ = some (.int .i64 v_x) ∧ wx.cell? ⟨q_x, 1, none⟩ = some (.string s_x) ∧ Below wS.heap.size wS wx) → ZZ wx g_a A_a n_a c_a xs_a z_a 60) := fun wx hS => h_a.below hS.2.2.2.2.2.2
  have K_b : RowKit.Hid (∀ wx, (wx.cell? ⟨q_a, 0, none⟩ = some (.bool g_a) ∧ wx.cell? ⟨q_a, 1, none⟩ = some (.slice A_a n_a c_a) ∧ wx.cell? ⟨q_b, 0, none⟩ = some (.bool g_b) ∧ wx.cell? ⟨q_b, 1, none⟩ = some (.slice A_b n_b c_b) ∧ wx.cell? ⟨q_x, 0, none⟩ = some (.int .i64 v_x) ∧ wx.cell? ⟨q_x, 1, none⟩ = some (.string s_x) ∧ Below wS.heap.size wS wx) → ZZ wx g_b A_b n_b c_b xs_b z_b 60) := fun wx hS => h_b.below hS.2.2.2.2.2.2
  have KR_a : RowKit.Hid (∀ wx, (wx.cell? ⟨q_a, 0, none⟩ = some (.bool g_a) ∧ wx.cell? ⟨q_a, 1, none⟩ = some (.slice A_a n_a c_a) ∧ wx.cell? ⟨q_b, 0, none⟩ = some (.bool g_b) ∧ wx.cell? ⟨q_b, 1, none⟩ = some (.slice A_b n_b c_b) ∧ wx.cell? ⟨q_x, 0, none⟩ = some (.int .i64 v_x) ∧ wx.cell? ⟨q_x, 1, none⟩ = some (.string s_x) ∧ Below wS.heap.size wS wx) → Row2 wx q_a 25 (.bool g_a) (.slice A_a n_a c_a)) := fun wx hS => h_ra.below hS.2.2.2.2.2.2
  have KR_b : RowKit.Hid (∀ wx, (wx.cell? ⟨q_a, 0, none⟩ = some (.bool g_a) ∧ wx.cell? ⟨q_a, 1, none⟩ = some (.slice A_a n_a c_a) ∧ wx.cell? ⟨q_b, 0, none⟩ = some (.bool g_b) ∧ wx.cell? ⟨q_b, 1, none⟩ = some (.slice A_b n_b c_b) ∧ wx.cell? ⟨q_x, 0, none⟩ = some (.int .i64 v_x) ∧ wx.cell? ⟨q_x, 1, none⟩ = some (.string s_x) ∧ Below wS.heap.size wS wx) → Row2 wx q_b 25 (.bool g_b) (.slice A_b n_b c_b)) := fun wx hS => h_rb.below hS.2.2.2.2.2.2
  have KR_x : RowKit.Hid (∀ wx, (wx.cell? ⟨q_a, 0, none⟩ = some (.bool g_a) ∧ wx.cell? ⟨q_a, 1, none⟩ = some (.slice A_a n_a c_a) ∧ wx.cell? ⟨q_b, 0, none⟩ = some (.bool g_b) ∧ wx.cell? ⟨q_b, 1, none⟩ = some (.slice A_b n_b c_b) ∧ wx.cell? ⟨q_x, 0, none⟩ = some (.int .i64 v_x) ∧ wx.cell? ⟨q_x, 1, none⟩ = some (.string s_x) ∧ Below wS.heap.size wS wx) → Row2 wx q_x 27 (.int .i64 v_x) (.string s_x)) := fun wx hS => h_rx.below hS.2.2.2.2.2.2
  have KT : RowKit.Hid (∀ wx, (wx.cell? ⟨q_a, 0, none⟩ = some (.bool g_a) ∧ wx.cell? ⟨q_a, 1, none⟩ = some (.slice A_a n_a c_a) ∧ wx.cell? ⟨q_b, 0, none⟩ = some (.bool g_b) ∧ wx.cell? ⟨q_b, 1, none⟩ = some (.slice A_b n_b c_b) ∧ wx.cell? ⟨q_x, 0, none⟩ = some (.int .i64 v_x) ∧ wx.cell? ⟨q_x, 1, none⟩ = some (.string s_x) ∧ Below wS.heap.size wS wx) → Tab wx) := fun wx hS => HTab.out.below hS.2.2.2.2.2.2
  have HF := Lib.hid bw
  have KF : RowKit.Hid (∀ wx, (wx.cell? ⟨q_a, 0, none⟩ = some (.bool g_a) ∧ wx.cell? ⟨q_a, 1, none⟩ = some (.slice A_a n_a c_a) ∧ wx.cell? ⟨q_b, 0, none⟩ = some (.bool g_b) ∧ wx.cell? ⟨q_b, 1, none⟩ = some (.slice A_b n_b c_b) ∧ wx.cell? ⟨q_x, 0, none⟩ = some (.int .i64 v_x) ∧ wx.cell? ⟨q_x, 1, none⟩ = some (.string s_x) ∧ Below wS.heap.size wS wx) → Below w.heap.size w wx) := fun wx hS => below_two HF.out hS.2.2.2.2.2.2
  obtain ⟨d_a0, d_a1, d_b0, d_b1, d_x0, d_x1, _⟩ := KA.out _ (Below.refl _ _)
  clear h_a h_b h_ra h_rb h_rx HTab bw
  clear HF
  go_cut [7, 8] from 25 to 28 (fun s7 s8 wx => ∃ (q_p : Nat) (A_p : Option Addr) (n_p c_p : Nat) (q_q : Nat) (A_q : Option Addr) (n_q c_q : Nat), s7 = .pointer (some ⟨q_p, 0, none⟩) ∧ s8 = .pointer (some ⟨q_q, 0, none⟩) ∧ RowKit.Hid (Row2 wx q_p 25 (.bool g_a) (.slice A_p n_p c_p) ∧ ZZ wx g_a A_p n_p c_p xs_a z_a 60 ∧ Row2 wx q_q 25 (.bool g_b) (.slice A_q n_q c_q) ∧ ZZ wx g_b A_q n_q c_q xs_b z_b 60 ∧ Below wS.heap.size wS wx))
  case first =>
    refine region_free 6 2 [25, 26, 27, 28, 7, 8] ?aF (fun wx => wx.cell? ⟨q_a, 0, none⟩ = some (.bool g_a) ∧ wx.cell? ⟨q_a, 1, none⟩ = some (.slice A_a n_a c_a) ∧ wx.cell? ⟨q_b, 0, none⟩ = some (.bool g_b) ∧ wx.cell? ⟨q_b, 1, none⟩ = some (.slice A_b n_b c_b) ∧ wx.cell? ⟨q_x, 0, none⟩ = some (.int .i64 v_x) ∧ wx.cell? ⟨q_x, 1, none⟩ = some (.string s_x) ∧ Below wS.heap.size wS wx) (fun k v w => match k with
        | 0 => v = .agg #[.bool g_a, .slice A_a n_a c_a]
        | 1 => ∃ A n c, v = .agg #[.bool g_a, .slice A n c] ∧ ZZ w g_a A n c xs_a z_a 60
        | 2 => v = .agg #[.bool g_b, .slice A_b n_b c_b]
        | 3 => ∃ A n c, v = .agg #[.bool g_b, .slice A n c] ∧ ZZ w g_b A n c xs_b z_b 60
        | 4 => ∃ q, v = .pointer (some ⟨q, 0, none⟩) ∧ ZB w q ∧ wS.heap.size ≤ q
        | _ => ∃ q, v = .pointer (some ⟨q, 0, none⟩) ∧ ZB w q ∧ wS.heap.size ≤ q)
      (fun k => k == 4 || k == 5) (by kernel_rfl) ?haF rfl (by kernel_rfl) (by kernel_rfl) (fun _ _ _ _ _ h => h) ?hSb ?hPb ?hS ?hop ?hfin
    case haF =>
      intro vals
      simp only [fillAll, List.getElem?_cons_zero, List.getElem?_cons_succ, Act.put, List.setIfInBounds_toArray, List.set_cons_zero, List.set_cons_succ]
      exact rfl
    case hSb => exact fun wx w2 hb hS => KS.out wx w2 hS hb
    case hPb =>
      intro k v w1 w2 hb h
      match k, h with
      | 0, h => exact h
      | 1, ⟨A, n, c, h1, h2⟩ => exact ⟨A, n, c, h1, h2.below hb⟩
      | 2, h => exact h
      | 3, ⟨A, n, c, h1, h2⟩ => exact ⟨A, n, c, h1, h2.below hb⟩
      | 4, ⟨q, h1, h2, h3⟩ => exact ⟨q, h1, h2.below hb, h3⟩
      | _ + 5, ⟨q, h1, h2, h3⟩ => exact ⟨q, h1, h2.below hb, h3⟩
    case hS => exact KA.out _ ((Below.refl _ _).drew)
    case hop =>
      refine .cons (k := 0) ?_ (.cons (k := 1) ?_ (.cons (k := 2) ?_ (.cons (k := 3) ?_ (.cons (k := 4) ?_ (.cons (k := 5) ?_ (.nil))))))
      all_goals intro vals wr hS hd K hK
      all_goals (show Oper.wp _ _ _ _ _ _; dsimp only)
      · obtain ⟨b0, b1, b2, b3, b4, b5, bS⟩ := hS
        go_simp
        refine hK _ _ rfl (Below.refl _ _) rfl (fun h => by cases h)
      · have d0 : vals 0 = _ := hd 0 (by decide +kernel)
        rw [d0]
        go_simp
        go_at_call 6
        with_reducible refine (ownInt_c (K_a.out _ hS) (by decide)).mono ?_
        rintro e w2 ⟨A_r, n_r, c_r, rfl, h_r, bn_r⟩
        refine hK _ _ rfl bn_r ⟨_, _, _, rfl, h_r⟩ (fun h => by cases h)
      · obtain ⟨b0, b1, b2, b3, b4, b5, bS⟩ := hS
        go_simp
        refine hK _ _ rfl (Below.refl _ _) rfl (fun h => by cases h)
      · have d2 : vals 2 = _ := hd 2 (by decide +kernel)
        rw [d2]
        go_simp
        go_at_call 6
        with_reducible refine (ownInt_c (K_b.out _ hS) (by decide)).mono ?_
        rintro e w2 ⟨A_r, n_r, c_r, rfl, h_r, bn_r⟩
        refine hK _ _ rfl bn_r ⟨_, _, _, rfl, h_r⟩ (fun h => by cases h)
      · go_simp
        refine hK _ _ rfl (below_new _ _) ⟨_, rfl, row2_new wr 25 _ _, hS.2.2.2.2.2.2.size⟩ (fun _ => ⟨_, rfl, Nat.le_refl _, by rw [World.size_alloc]; omega⟩)
      · go_simp
        refine hK _ _ rfl (below_new _ _) ⟨_, rfl, row2_new wr 25 _ _, hS.2.2.2.2.2.2.size⟩ (fun _ => ⟨_, rfl, Nat.le_refl _, by rw [World.size_alloc]; omega⟩)
    case hfin =>
      intro vals wr hS hP hne
      obtain ⟨A_p, n_p, c_p, e1, h_p⟩ := hP 1 (by decide)
      obtain ⟨A_q, n_q, c_q, e3, h_q⟩ := hP 3 (by decide)
      obtain ⟨q_p, e4, z_bp, l_bp⟩ := hP 4 (by decide)
      obtain ⟨q_q, e5, z_bq, l_bq⟩ := hP 5 (by decide)
      have nq01 : q_p ≠ q_q := hne 4 5 (by decide) (by decide) (by decide) rfl rfl _ _ e4 e5
      try dsimp only
      rw [e1, e3, e4, e5]
      have bS := hS.2.2.2.2.2.2
      replace h_p := h_p.put z_bp (.bool g_a) (.slice A_p n_p c_p)
      replace h_q := h_q.put z_bp (.bool g_a) (.slice A_p n_p c_p)
      have z_nq := Row2.far z_bq nq01 (.bool g_a) (.slice A_p n_p c_p)
      have r_p := Row2.filled z_bp (.bool g_a) (.slice A_p n_p c_p)
      replace bS := (bS.setCell (p := ⟨q_p, 0, none⟩) l_bp (.bool g_a)).setCell (p := ⟨q_p, 1, none⟩) l_bp (.slice A_p n_p c_p)
      replace h_p := h_p.put z_nq (.bool g_b) (.slice A_q n_q c_q)
      replace h_q := h_q.put z_nq (.bool g_b) (.slice A_q n_q c_q)
      replace r_p := r_p.far (g := q_q) (Ne.symm nq01) (.bool g_b) (.slice A_q n_q c_q)
      have r_q := Row2.filled z_nq (.bool g_b) (.slice A_q n_q c_q)
      replace bS := (bS.setCell (p := ⟨q_q, 0, none⟩) l_bq (.bool g_b)).setCell (p := ⟨q_q, 1, none⟩) l_bq (.slice A_q n_q c_q)
      obtain ⟨c00, c01, c02, c03⟩ := z_bp.cells
      obtain ⟨c10, c11, c12, c13⟩ := z_bq.cells
      have t := Lib.hid (And.intro r_p (And.intro h_p (And.intro r_q (And.intro h_q bS))))
      clear bS h_p h_q r_p r_q
      refine wpAny_ready (rs := [6]) (by kernel_rfl) (by simp) (AllReady.cons rfl (fun K hK => ?_) AllReady.nil)
      go_simp
      refine hK _ _ ?_
      clear hK K
      refine wpAny_ready (rs := [7]) (by kernel_rfl) (by simp) (AllReady.cons rfl (fun K hK => ?_) AllReady.nil)
      go_simp
      refine hK _ _ ?_
      clear hK K
      refine wpAny_done (by kernel_rfl) ?_ _
      go_wp2
      go_meet
      case rel => exact ⟨q_p, A_p, n_p, c_p, q_q, A_q, n_q, c_q, rfl, rfl, t⟩
  case rest =>
    obtain ⟨q_p, A_p, n_p, c_p, q_q, A_q, n_q, c_q, rfl, rfl, t⟩ := hcut
    obtain ⟨h_rp, h_p, h_rq, h_q, bn⟩ := t.out
    clear t
    have hS0 := KA.out _ bn
    have h_a := K_a.out _ hS0
    have h_b := K_b.out _ hS0
    have h_ra := KR_a.out _ hS0
    have h_rb := KR_b.out _ hS0
    have h_rx := KR_x.out _ hS0
    have HTab := Lib.hid (KT.out _ hS0)
    have bw := KF.out _ hS0
    clear hS0 bn KA KS KU KT KF K_a K_b KR_a KR_b KR_x d_a0 d_a1 d_b0 d_b1 d_x0 d_x1
    have d_x0 := h_rx.c0
    have d_x1 := h_rx.c1
    go_wp2_with fail
    clear d_x0 d_x1
    refine (wParse_c s_x _ HTab.out ok hok.out z_v hzv.out).mono ?_
    rintro e w3 ⟨A_c, n_c, c_c, rfl, h_c, bn⟩
    replace h_a := h_a.below bn
    replace h_b := h_b.below bn
    replace h_ra := h_ra.below bn
    replace h_rb := h_rb.below bn
    replace h_rx := h_rx.below bn
    replace h_p := h_p.below bn
    replace h_rp := h_rp.below bn
    replace h_q := h_q.below bn
    replace h_rq := h_rq.below bn
    replace HTab := Lib.hid (HTab.out.below bn)
    replace bw := below_two bw bn
    clear bn
    have y0 := (h_rx.below (below_new w3 (.cells #[Value.bool (sg z_v), Value.slice A_c n_c c_c] 25))).c0
    have y1 := (h_rx.below (below_new w3 (.cells #[Value.bool (sg z_v), Value.slice A_c n_c c_c] 25))).c1
    have d_x0 := h_rx.c0
    have d_x1 := h_rx.c1
    go_wp2_with fail
    clear d_x0 d_x1
    clear y0 y1
    have h_rc := row2_new w3 25 (.bool (sg z_v)) (.slice A_c n_c c_c)
    have bn := below_new w3 (.cells #[Value.bool (sg z_v), Value.slice A_c n_c c_c] 25)
    replace h_a := h_a.below bn
    replace h_b := h_b.below bn
    replace h_ra := h_ra.below bn
    replace h_rb := h_rb.below bn
    replace h_rx := h_rx.below bn
    replace h_p := h_p.below bn
    replace h_rp := h_rp.below bn
    replace h_q := h_q.below bn
    replace h_rq := h_rq.below bn
    replace h_c := h_c.below bn
    replace HTab := Lib.hid (HTab.out.below bn)
    replace bw := below_two bw bn
    clear bn
    generalize w3.alloc (.cells #[Value.bool (sg z_v), Value.slice A_c n_c c_c] 25) = w4 at *
    obtain ⟨q_c, eg⟩ : ∃ g, g = w3.heap.size := ⟨_, rfl⟩
    rw [← eg] at h_rc ⊢
    clear eg
    refine (refIParse_c s_x _ ok hok.out z_v hzv.out).mono ?_
    rintro e w5 ⟨A_g, n_g, c_g, rfl, h_g, bn⟩
    replace h_a := h_a.below bn
    replace h_b := h_b.below bn
    replace h_ra := h_ra.below bn
    replace h_rb := h_rb.below bn
    replace h_rx := h_rx.below bn
    replace h_p := h_p.below bn
    replace h_rp := h_rp.below bn
    replace h_q := h_q.below bn
    replace h_rq := h_rq.below bn
    replace h_c := h_c.below bn
    replace h_rc := h_rc.below bn
    replace HTab := Lib.hid (HTab.out.below bn)
    replace bw := below_two bw bn
    clear bn
    go_wp2_with fail
    have h_rg := row3_new w5 34 (.bool (sg z_v)) (.slice A_g n_g c_g) (.bool ok)
    have bn := below_new w5 (.cells #[Value.bool (sg z_v), Value.slice A_g n_g c_g, Value.bool ok] 34)
    replace h_a := h_a.below bn
    replace h_b := h_b.below bn
    replace h_ra := h_ra.below bn
    replace h_rb := h_rb.below bn
    replace h_rx := h_rx.below bn
    replace h_p := h_p.below bn
    replace h_rp := h_rp.below bn
    replace h_q := h_q.below bn
    replace h_rq := h_rq.below bn
    replace h_c := h_c.below bn
    replace h_rc := h_rc.below bn
    replace h_g := h_g.below bn
    replace HTab := Lib.hid (HTab.out.below bn)
    replace bw := below_two bw bn
    clear bn
    generalize w5.alloc (.cells #[Value.bool (sg z_v), Value.slice A_g n_g c_g, Value.bool ok] 34) = w6 at *
    obtain ⟨q_g, eg⟩ : ∃ g, g = w5.heap.size := ⟨_, rfl⟩
    rw [← eg] at h_rg ⊢
    clear eg
    generalize w6 = wS at *
    have KA : RowKit.Hid (∀ wx, Below wS.heap.size wS wx → (wx.cell? ⟨q_a, 0, none⟩ = some (.bool g_a) ∧ wx.cell? ⟨q_a, 1, none⟩ = some (.slice A_a n_a c_a) ∧ wx.cell? ⟨q_b, 0, none⟩ = some (.bool g_b) ∧ wx.cell? ⟨q_b, 1, none⟩ = some (.slice A_b n_b c_b) ∧ wx.cell? ⟨q_x, 0, none⟩ = some (.int .i64 v_x) ∧ wx.cell? ⟨q_x, 1, none⟩ = some (.string s_x) ∧ wx.cell? ⟨q_p, 0, none⟩ = some (.bool g_a) ∧ wx.cell? ⟨q_p, 1, none⟩ = some (.slice A_p n_p c_p) ∧ wx.cell? ⟨q_q, 0, none⟩ = some (.bool g_b) ∧ wx.cell? ⟨q_q, 1, none⟩ = some (.slice A_q n_q c_q) ∧ wx.cell? ⟨q_c, 0, none⟩ = some (.bool (sg z_v)) ∧ wx.cell? ⟨q_c, 1, none⟩ = some (.slice A_c n_c c_c) ∧ wx.cell? ⟨q_g, 0, none⟩ = some (.bool (sg z_v)) ∧ wx.cell? ⟨q_g, 1, none⟩ = some (.slice A_g n_g c_g) ∧ wx.cell? ⟨q_g, 2, none⟩ = some (.bool ok) ∧ Below wS.heap.size wS wx)) := fun wx hb => ⟨(h_ra.below hb).c0, (h_ra.below hb).c1, (h_rb.below hb).c0, (h_rb.below hb).c1, (h_rx.below hb).c0, (h_rx.below hb).c1, (h_rp.below hb).c0, (h_rp.below hb).c1, (h_rq.below hb).c0, (h_rq.below hb).c1, (h_rc.below hb).c0, (h_rc.below hb).c1, (h_rg.below hb).c0, (h_rg.below hb).c1, (h_rg.below hb).c2, hb⟩
    have KS : RowKit.Hid (∀ wx w2, (wx.cell? ⟨q_a, 0, none⟩ = some (.bool g_a) ∧ wx.cell? ⟨q_a, 1, none⟩ = some (.slice A_a n_a c_a) ∧ wx.cell? ⟨q_b, 0, none⟩ = some (.bool g_b) ∧ wx.cell? ⟨q_b, 1, none⟩ = some (.slice A_b n_b c_b) ∧ wx.cell? ⟨q_x, 0, none⟩ = some (.int .i64 v_x) ∧ wx.cell? ⟨q_x, 1, none⟩ = some (.string s_x) ∧ wx.cell? ⟨q_p, 0, none⟩ = some (.bool g_a) ∧ wx.cell? ⟨q_p, 1, none⟩ = some (.slice A_p n_p c_p) ∧ wx.cell? ⟨q_q, 0, none⟩ = some (.bool g_b) ∧ wx.cell? ⟨q_q, 1, none⟩ = some (.slice A_q n_q c_q) ∧ wx.cell? ⟨q_c, 0, none⟩ = some (.bool (sg z_v)) ∧ wx.cell? ⟨q_c, 1, none⟩ = some (.slice A_c n_c c_c) ∧ wx.cell? ⟨q_g, 0, none⟩ = some (.bool (sg z_v)) ∧ wx.cell? ⟨q_g, 1, none⟩ = some (.slice A_g n_g c_g) ∧ wx.cell? ⟨q_g, 2, none⟩ = some (.bool ok) ∧ Below wS.heap.size wS wx) → Below wx.heap.size wx w2 → (w2.cell? ⟨q_a, 0, none⟩ = some (.bool g_a) ∧ w2.cell? ⟨q_a, 1, none⟩ = some (.slice A_a n_a c_a) ∧ w2.cell? ⟨q_b, 0, none⟩ = some (.bool g_b) ∧ w2.cell? ⟨q_b, 1, none⟩ = some (.slice A_b n_b c_b) ∧ w2.cell? ⟨q_x, 0, none⟩ = some (.int .i64 v_x) ∧ w2.cell? ⟨q_x, 1, none⟩ = some (.string s_x) ∧ w2.cell? ⟨q_p, 0, none⟩ = some (.bool g_a) ∧ w2.cell? ⟨q_p, 1, none⟩ = some (.slice A_p n_p c_p) ∧ w2.cell? ⟨q_q, 0, none⟩ = some (.bool g_b) ∧ w2.cell? ⟨q_q, 1, none⟩ = some (.slice A_q n_q c_q) ∧ w2.cell? ⟨q_c, 0, none⟩ = some (.bool (sg z_v)) ∧ w2.cell? ⟨q_c, 1, none⟩ = some (.slice A_c n_c c_c) ∧ w2.cell? ⟨q_g, 0, none⟩ = some (.bool (sg z_v)) ∧ w2.cell? ⟨q_g, 1, none⟩ = some (.slice A_g n_g c_g) ∧ w2.cell? ⟨q_g, 2, none⟩ = some (.bool ok) ∧ Below wS.heap.size wS w2)) := fun wx w2 hS bn => KA.out _ (below_two hS.2.2.2.2.2.2.2.2.2.2.2.2.2.2.2 bn)
    have KU : RowKit.Hid (∀ (wx : World) (q : Nat) (u v : Value), (wx.cell? ⟨q_a, 0, none⟩ = some (.bool g_a) ∧ wx.cell? ⟨q_a, 1, none⟩ = some (.slice A_a n_a c_a) ∧ wx.cell? ⟨q_b, 0, none⟩ = some (.bool g_b) ∧ wx.cell? ⟨q_b, 1, none⟩ = some (.slice A_b n_b c_b) ∧ wx.cell? ⟨q_x, 0, none⟩ = some (.int .i64 v_x) ∧ wx.cell? ⟨q_x, 1, none⟩ = some (.string s_x) ∧ wx.cell? ⟨q_p, 0, none⟩ = some (.bool g_a) ∧ wx.cell? ⟨q_p, 1, none⟩ = some (.slice A_p n_p c_p) ∧ wx.cell? ⟨q_q, 0, none⟩ = some (.bool g_b) ∧ wx.cell? ⟨q_q, 1, none⟩ = some (.slice A_q n_q c_q) ∧ wx.cell? ⟨q_c, 0, none⟩ = some (.bool (sg z_v)) ∧ wx.cell? ⟨q_c, 1, none⟩ = some (.slice A_c n_c c_c) ∧ wx.cell? ⟨q_g, 0, none⟩ = some (.bool (sg z_v)) ∧ wx.cell? ⟨q_g, 1, none⟩ = some (.slice A_g n_g c_g) ∧ wx.cell? ⟨q_g, 2, none⟩ = some (.bool ok) ∧ Below wS.heap.size wS wx) → wS.heap.size ≤ q → (((wx.setCell ⟨q, 0, none⟩ u).setCell ⟨q, 1, none⟩ v).cell? ⟨q_a, 0, none⟩ = some (.bool g_a) ∧ ((wx.setCell ⟨q, 0, none⟩ u).setCell ⟨q, 1, none⟩ v).cell? ⟨q_a, 1, none⟩ = some (.slice A_a n_a c_a) ∧ ((wx.setCell ⟨q, 0, none⟩ u).setCell ⟨q, 1, none⟩ v).cell? ⟨q_b, 0, none⟩ = some (.bool g_b) ∧ ((wx.setCell ⟨q, 0, none⟩ u).setCell ⟨q, 1, none⟩ v).cell? ⟨q_b, 1, none⟩ = some (.slice A_b n_b c_b) ∧ ((wx.setCell ⟨q, 0, none⟩ u).setCell ⟨q, 1, none⟩ v).cell? ⟨q_x, 0, none⟩ = some (.int .i64 v_x) ∧ ((wx.setCell ⟨q, 0, none⟩ u).setCell ⟨q, 1, none⟩ v).cell? ⟨q_x, 1, none⟩ = some (.string s_x) ∧ ((wx.setCell ⟨q, 0, none⟩ u).setCell ⟨q, 1, none⟩ v).cell? ⟨q_p, 0, none⟩ = some (.bool g_a) ∧ ((wx.setCell ⟨q, 0, none⟩ u).setCell ⟨q, 1, none⟩ v).cell? ⟨q_p, 1, none⟩ = some (.slice A_p n_p c_p) ∧ ((wx.setCell ⟨q, 0, none⟩ u).setCell ⟨q, 1, none⟩ v).cell? ⟨q_q, 0, none⟩ = some (.bool g_b) ∧ ((wx.setCell ⟨q, 0, none⟩ u).setCell ⟨q, 1, none⟩ v).cell? ⟨q_q, 1, none⟩ = some (.slice A_q n_q c_q) ∧ ((wx.setCell ⟨q, 0, none⟩ u).setCell ⟨q, 1, none⟩ v).cell? ⟨q_c, 0, none⟩ = some (.bool (sg z_v)) ∧ ((wx.setCell ⟨q, 0, none⟩ u).setCell ⟨q, 1, none⟩ v).cell? ⟨q_c, 1, none⟩ = some (.slice A_c n_c c_c) ∧ ((wx.setCell ⟨q, 0, none⟩ u).setCell ⟨q, 1, none⟩ v).cell? ⟨q_g, 0, none⟩ = some (.bool (sg z_v)) ∧ ((wx.setCell ⟨q, 0, none⟩ u).setCell ⟨q, 1, none⟩ v).cell? ⟨q_g, 1, none⟩ = some (.slice A_g n_g c_g) ∧ ((wx.setCell ⟨q, 0, none⟩ u).setCell ⟨q, 1, none⟩ v).cell? ⟨q_g, 2, none⟩ = some (.bool ok) ∧ Below wS.heap.size wS ((wx.setCell ⟨q, 0, none⟩ u).setCell ⟨q, 1, none⟩ v))) := fun wx q u v hS hq => KA.out _ ((hS.2.2.2.2.2.2.2.2.2.2.2.2.2.2.2.setCell (p := ⟨q, 0, none⟩) hq u).setCell (p := ⟨q, 1, none⟩) hq v)
    have K_a : RowKit.Hid (∀ wx, (wx.cell? ⟨q_a, 0, none⟩ = some (.bool g_a) ∧ wx.cell? ⟨q_a, 1, none⟩ = some (.slice A_a n_a c_a) ∧ wx.cell? ⟨q_b, 0, none⟩ = some (.bool g_b) ∧ wx.cell? ⟨q_b, 1, none⟩ = some (.slice A_b n_b c_b) ∧ wx.cell? ⟨q_x, 0, none⟩ = some (.int .i64 v_x) ∧ wx.cell? ⟨q_x, 1, none⟩ = some (.string s_x) ∧ wx.cell? ⟨q_p, 0, none⟩ = some (.bool g_a) ∧ wx.cell? ⟨q_p, 1, none⟩ = some (.slice A_p n_p c_p) ∧ wx.cell? ⟨q_q, 0, none⟩ = some (.bool g_b) ∧ wx.cell? ⟨q_q, 1, none⟩ = some (.slice A_q n_q c_q) ∧ wx.cell? ⟨q_c, 0, none⟩ = some (.bool (sg z_v)) ∧ wx.cell? ⟨q_c, 1, none⟩ = some (.slice A_c n_c c_c) ∧ wx.cell? ⟨q_g, 0, none⟩ = some (.bool (sg z_v)) ∧ wx.cell? ⟨q_g, 1, none⟩ = some (.slice A_g n_g c_g) ∧ wx.cell? ⟨q_g, 2, none⟩ = some (.bool ok) ∧ Below wS.heap.size wS wx) → ZZ wx g_a A_a n_a c_a xs_a z_a 60) := fun wx hS => h_a.below hS.2.2.2.2.2.2.2.2.2.2.2.2.2.2.2
    have K_b : RowKit.Hid (∀ wx, (wx.cell? ⟨q_a, 0, none⟩ = some (.bool g_a) ∧ wx.cell? ⟨q_a, 1, none⟩ = some (.slice A_a n_a c_a) ∧ wx.cell? ⟨q_b, 0, none⟩ = some (.bool g_b) ∧ wx.cell? ⟨q_b, 1, none⟩ = some (.slice A_b n_b c_b) ∧ wx.cell? ⟨q_x, 0, none⟩ = some (.int .i64 v_x) ∧ wx.cell? ⟨q_x, 1, none⟩ = some (.string s_x) ∧ wx.cell? ⟨q_p, 0, none⟩ = some (.bool g_a) ∧ wx.cell? ⟨q_p, 1, none⟩ = some (.slice A_p n_p c_p) ∧ wx.cell? ⟨q_q, 0, none⟩ = some (.bool g_b) ∧ wx.cell? ⟨q_q, 1, none⟩ = some (.slice A_q n_q c_q) ∧ wx.cell? ⟨q_c, 0, none⟩ = some (.bool (sg z_v)) ∧ wx.cell? ⟨q_c, 1, none⟩ = some (.slice A_c n_c c_c) ∧ wx.cell? ⟨q_g, 0, none⟩ = some (.bool (sg z_v)) ∧ wx.cell? ⟨q_g, 1, none⟩ = some (.slice A_g n_g c_g) ∧ wx.cell? ⟨q_g, 2, none⟩ = some (.bool ok) ∧ Below wS.heap.size wS wx) → ZZ wx g_b A_b n_b c_b xs_b z_b 60) := fun wx hS => h_b.below hS.2.2.2.2.2.2.2.2.2.2.2.2.2.2.2
    have K_p : RowKit.Hid (∀ wx, (wx.cell? ⟨q_a, 0, none⟩ = some (.bool g_a) ∧ wx.cell? ⟨q_a, 1, none⟩ = some (.slice A_a n_a c_a) ∧ wx.cell? ⟨q_b, 0, none⟩ = some (.bool g_b) ∧ wx.cell? ⟨q_b, 1, none⟩ = some (.slice A_b n_b c_b) ∧ wx.cell? ⟨q_x, 0, none⟩ = some (.int .i64 v_x) ∧ wx.cell? ⟨q_x, 1, none⟩ = some (.string s_x) ∧ wx.cell? ⟨q_p, 0, none⟩ = some (.bool g_a) ∧ wx.cell? ⟨q_p, 1, none⟩ = some (.slice A_p n_p c_p) ∧ wx.cell? ⟨q_q, 0, none⟩ = some (.bool g_b) ∧ wx.cell? ⟨q_q, 1, none⟩ = some (.slice A_q n_q c_q) ∧ wx.cell? ⟨q_c, 0, none⟩ = some (.bool (sg z_v)) ∧ wx.cell? ⟨q_c, 1, none⟩ = some (.slice A_c n_c c_c) ∧ wx.cell? ⟨q_g, 0, none⟩ = some (.bool (sg z_v)) ∧ wx.cell? ⟨q_g, 1, none⟩ = some (.slice A_g n_g c_g) ∧ wx.cell? ⟨q_g, 2, none⟩ = some (.bool ok) ∧ Below wS.heap.size wS wx) → ZZ wx g_a A_p n_p c_p xs_a z_a 60) := fun wx hS => h_p.below hS.2.2.2.2.2.2.2.2.2.2.2.2.2.2.2
    have K_q : RowKit.Hid (∀ wx, (wx.cell? ⟨q_a, 0, none⟩ = some (.bool g_a) ∧ wx.cell? ⟨q_a, 1, none⟩ = some (.slice A_a n_a c_a) ∧ wx.cell? ⟨q_b, 0, none⟩ = some (.bool g_b) ∧ wx.cell? ⟨q_b, 1, none⟩ = some (.slice A_b n_b c_b) ∧ wx.cell? ⟨q_x, 0, none⟩ = some (.int .i64 v_x) ∧ wx.cell? ⟨q_x, 1, none⟩ = some (.string s_x) ∧ wx.cell? ⟨q_p, 0, none⟩ = some (.bool g_a) ∧ wx.cell? ⟨q_p, 1, none⟩ = some (.slice A_p n_p c_p) ∧ wx.cell? ⟨q_q, 0, none⟩ = some (.bool g_b) ∧ wx.cell? ⟨q_q, 1, none⟩ = some (.slice A_q n_q c_q) ∧ wx.cell? ⟨q_c, 0, none⟩ = some (.bool (sg z_v)) ∧ wx.cell? ⟨q_c, 1, none⟩ = some (.slice A_c n_c c_c) ∧ wx.cell? ⟨q_g, 0, none⟩ = some (.bool (sg z_v)) ∧ wx.cell? ⟨q_g, 1, none⟩ = some (.slice A_g n_g c_g) ∧ wx.cell? ⟨q_g, 2, none⟩ = some (.bool ok) ∧ Below wS.heap.size wS wx) → ZZ wx g_b A_q n_q c_q xs_b z_b 60) := fun wx hS => h_q.below hS.2.2.2.2.2.2.2.2.2.2.2.2.2.2.2
    have K_c : RowKit.Hid (∀ wx, (wx.cell? ⟨q_a, 0, none⟩ = some (.bool g_a) ∧ wx.cell? ⟨q_a, 1, none⟩ = some (.slice A_a n_a c_a) ∧ wx.cell? ⟨q_b, 0, none⟩ = some (.bool g_b) ∧ wx.cell? ⟨q_b, 1, none⟩ = some (.slice A_b n_b c_b) ∧ wx.cell? ⟨q_x, 0, none⟩ = some (.int .i64 v_x) ∧ wx.cell? ⟨q_x, 1, none⟩ = some (.string s_x) ∧ wx.cell? ⟨q_p, 0, none⟩ = some (.bool g_a) ∧ wx.cell? ⟨q_p, 1, none⟩ = some (.slice A_p n_p c_p) ∧ wx.cell? ⟨q_q, 0, none⟩ = some (.bool g_b) ∧ wx.cell? ⟨q_q, 1, none⟩ = some (.slice A_q n_q c_q) ∧ wx.cell? ⟨q_c, 0, none⟩ = some (.bool (sg z_v)) ∧ wx.cell? ⟨q_c, 1, none⟩ = some (.slice A_c n_c c_c) ∧ wx.cell? ⟨q_g, 0, none⟩ = some (.bool (sg z_v)) ∧ wx.cell? ⟨q_g, 1, none⟩ = some (.slice A_g n_g c_g) ∧ wx.cell? ⟨q_g, 2, none⟩ = some (.bool ok) ∧ Below wS.heap.size wS wx) → ZZ wx (sg z_v) A_c n_c c_c (limbs z_v.natAbs) z_v 223) := fun wx hS => h_c.below hS.2.2.2.2.2.2.2.2.2.2.2.2.2.2.2
    have K_g : RowKit.Hid (∀ wx, (wx.cell? ⟨q_a, 0, none⟩ = some (.bool g_a) ∧ wx.cell? ⟨q_a, 1, none⟩ = some (.slice A_a n_a c_a) ∧ wx.cell? ⟨q_b, 0, none⟩ = some (.bool g_b) ∧ wx.cell? ⟨q_b, 1, none⟩ = some (.slice A_b n_b c_b) ∧ wx.cell? ⟨q_x, 0, none⟩ = some (.int .i64 v_x) ∧ wx.cell? ⟨q_x, 1, none⟩ = some (.string s_x) ∧ wx.cell? ⟨q_p, 0, none⟩ = some (.bool g_a) ∧ wx.cell? ⟨q_p, 1, none⟩ = some (.slice A_p n_p c_p) ∧ wx.cell? ⟨q_q, 0, none⟩ = some (.bool g_b) ∧ wx.cell? ⟨q_q, 1, none⟩ = some (.slice A_q n_q c_q) ∧ wx.cell? ⟨q_c, 0, none⟩ = some (.bool (sg z_v)) ∧ wx.cell? ⟨q_c, 1, none⟩ = some (.slice A_c n_c c_c) ∧ wx.cell? ⟨q_g, 0, none⟩ = some (.bool (sg z_v)) ∧ wx.cell? ⟨q_g, 1, none⟩ = some (.slice A_g n_g c_g) ∧ wx.cell? ⟨q_g, 2, none⟩ = some (.bool ok) ∧ Below wS.heap.size wS wx) → ZZ wx (sg z_v) A_g n_g c_g (limbs z_v.natAbs) z_v 223) := fun wx hS => h_g.below hS.2.2.2.2.2.2.2.2.2.2.2.2.2.2.2
    have KR_a : RowKit.Hid (∀ wx, (wx.cell? ⟨q_a, 0, none⟩ = some (.bool g_a) ∧ wx.cell? ⟨q_a, 1, none⟩ = some (.slice A_a n_a c_a) ∧ wx.cell? ⟨q_b, 0, none⟩ = some (.bool g_b) ∧ wx.cell? ⟨q_b, 1, none⟩ = some (.slice A_b n_b c_b) ∧ wx.cell? ⟨q_x, 0, none⟩ = some (.int .i64 v_x) ∧ wx.cell? ⟨q_x, 1, none⟩ = some (.string s_x) ∧ wx.cell? ⟨q_p, 0, none⟩ = some (.bool g_a) ∧ wx.cell? ⟨q_p, 1, none⟩ = some (.slice A_p n_p c_p) ∧ wx.cell? ⟨q_q, 0, none⟩ = some (.bool g_b) ∧ wx.cell? ⟨q_q, 1, none⟩ = some (.slice A_q n_q c_q) ∧ wx.cell? ⟨q_c, 0, none⟩ = some (.bool (sg z_v)) ∧ wx.cell? ⟨q_c, 1, none⟩ = some (.slice A_c n_c c_c) ∧ wx.cell? ⟨q_g, 0, none⟩ = some (.bool (sg z_v)) ∧ wx.cell? ⟨q_g, 1, none⟩ = some (.slice A_g n_g c_g) ∧ wx.cell? ⟨q_g, 2, none⟩ = some (.bool ok) ∧ Below wS.heap.size wS wx) → Row2 wx q_a 25 (.bool g_a) (.slice A_a n_a c_a)) := fun wx hS => h_ra.below hS.2.2.2.2.2.2.2.2.2.2.2.2.2.2.2
    have KR_b : RowKit.Hid (∀ wx, (wx.cell? ⟨q_a, 0, none⟩ = some (.bool g_a) ∧ wx.cell? ⟨q_a, 1, none⟩ = some (.slice A_a n_a c_a) ∧ wx.cell? ⟨q_b, 0, none⟩ = some (.bool g_b) ∧ wx.cell? ⟨q_b, 1, none⟩ = some (.slice A_b n_b c_b) ∧ wx.cell? ⟨q_x, 0, none⟩ = some (.int .i64 v_x) ∧ wx.cell? ⟨q_x, 1, none⟩ = some (.string s_x) ∧ wx.cell? ⟨q_p, 0, none⟩ = some (.bool g_a) ∧ wx.cell? ⟨q_p, 1, none⟩ = some (.slice A_p n_p c_p) ∧ wx.cell? ⟨q_q, 0, none⟩ = some (.bool g_b) ∧ wx.cell? ⟨q_q, 1, none⟩ = some (.slice A_q n_q c_q) ∧ wx.cell? ⟨q_c, 0, none⟩ = some (.bool (sg z_v)) ∧ wx.cell? ⟨q_c, 1, none⟩ = some (.slice A_c n_c c_c) ∧ wx.cell? ⟨q_g, 0, none⟩ = some (.bool (sg z_v)) ∧ wx.cell? ⟨q_g, 1, none⟩ = some (.slice A_g n_g c_g) ∧ wx.cell? ⟨q_g, 2, none⟩ = some (.bool ok) ∧ Below wS.heap.size wS wx) → Row2 wx q_b 25 (.bool g_b) (.slice A_b n_b c_b)) := fun wx hS => h_rb.below hS.2.2.2.2.2.2.2.2.2.2.2.2.2.2.2
    have KR_x : RowKit.Hid (∀ wx, (wx.cell? ⟨q_a, 0, none⟩ = some (.bool g_a) ∧ wx.cell? ⟨q_a, 1, none⟩ = some (.slice A_a n_a c_a) ∧ wx.cell? ⟨q_b, 0, none⟩ = some (.bool g_b) ∧ wx.cell? ⟨q_b, 1, none⟩ = some (.slice A_b n_b c_b) ∧ wx.cell? ⟨q_x, 0, none⟩ = some (.int .i64 v_x) ∧ wx.cell? ⟨q_x, 1, none⟩ = some (.string s_x) ∧ wx.cell? ⟨q_p, 0, none⟩ = some (.bool g_a) ∧ wx.cell? ⟨q_p, 1, none⟩ = some (.slice A_p n_p c_p) ∧ wx.cell? ⟨q_q, 0, none⟩ = some (.bool g_b) ∧ wx.cell? ⟨q_q, 1, none⟩ = some (.slice A_q n_q c_q) ∧ wx.cell? ⟨q_c, 0, none⟩ = some (.bool (sg z_v)) ∧ wx.cell? ⟨q_c, 1, none⟩ = some (.slice A_c n_c c_c) ∧ wx.cell? ⟨q_g, 0, none⟩ = some (.bool (sg z_v)) ∧ wx.cell? ⟨q_g, 1, none⟩ = some (.slice A_g n_g c_g) ∧ wx.cell? ⟨q_g, 2, none⟩ = some (.bool ok) ∧ Below wS.heap.size wS wx) → Row2 wx q_x 27 (.int .i64 v_x) (.string s_x)) := fun wx hS => h_rx.below hS.2.2.2.2.2.2.2.2.2.2.2.2.2.2.2
    have KR_p : RowKit.Hid (∀ wx, (wx.cell? ⟨q_a, 0, none⟩ = some (.bool g_a) ∧ wx.cell? ⟨q_a, 1, none⟩ = some (.slice A_a n_a c_a) ∧ wx.cell? ⟨q_b, 0, none⟩ = some (.bool g_b) ∧ wx.cell? ⟨q_b, 1, none⟩ = some (.slice A_b n_b c_b) ∧ wx.cell? ⟨q_x, 0, none⟩ = some (.int .i64 v_x) ∧ wx.cell? ⟨q_x, 1, none⟩ = some (.string s_x) ∧ wx.cell? ⟨q_p, 0, none⟩ = some (.bool g_a) ∧ wx.cell? ⟨q_p, 1, none⟩ = some (.slice A_p n_p c_p) ∧ wx.cell? ⟨q_q, 0, none⟩ = some (.bool g_b) ∧ wx.cell? ⟨q_q, 1, none⟩ = some (.slice A_q n_q c_q) ∧ wx.cell? ⟨q_c, 0, none⟩ = some (.bool (sg z_v)) ∧ wx.cell? ⟨q_c, 1, none⟩ = some (.slice A_c n_c c_c) ∧ wx.cell? ⟨q_g, 0, none⟩ = some (.bool (sg z_v)) ∧ wx.cell? ⟨q_g, 1, none⟩ = some (.slice A_g n_g c_g) ∧ wx.cell? ⟨q_g, 2, none⟩ = some (.bool ok) ∧ Below wS.heap.size wS wx) → Row2 wx q_p 25 (.bool g_a) (.slice A_p n_p c_p)) := fun wx hS => h_rp.below hS.2.2.2.2.2.2.2.2.2.2.2.2.2.2.2
    have KR_q : RowKit.Hid (∀ wx, (wx.cell? ⟨q_a, 0, none⟩ = some (.bool g_a) ∧ wx.cell? ⟨q_a, 1, none⟩ = some (.slice A_a n_a c_a) ∧ wx.cell? ⟨q_b, 0, none⟩ = some (.bool g_b) ∧ wx.cell? ⟨q_b, 1, none⟩ = some (.slice A_b n_b c_b) ∧ wx.cell? ⟨q_x, 0, none⟩ = some (.int .i64 v_x) ∧ wx.cell? ⟨q_x, 1, none⟩ = some (.string s_x) ∧ wx.cell? ⟨q_p, 0, none⟩ = some (.bool g_a) ∧ wx.cell? ⟨q_p, 1, none⟩ = some (.slice A_p n_p c_p) ∧ wx.cell? ⟨q_q, 0, none⟩ = some (.bool g_b) ∧ wx.cell? ⟨q_q, 1, none⟩ = some (.slice A_q n_q c_q) ∧ wx.cell? ⟨q_c, 0, none⟩ = some (.bool (sg z_v)) ∧ wx.cell? ⟨q_c, 1, none⟩ = some (.slice A_c n_c c_c) ∧ wx.cell? ⟨q_g, 0, none⟩ = some (.bool (sg z_v)) ∧ wx.cell? ⟨q_g, 1, none⟩ = some (.slice A_g n_g c_g) ∧ wx.cell? ⟨q_g, 2, none⟩ = some (.bool ok) ∧ Below wS.heap.size wS wx) → Row2 wx q_q 25 (.bool g_b) (.slice A_q n_q c_q)) := fun wx hS => h_rq.below hS.2.2.2.2.2.2.2.2.2.2.2.2.2.2.2
    have KR_c : RowKit.Hid (∀ wx, (wx.cell? ⟨q_a, 0, none⟩ = some (.bool g_a) ∧ wx.cell? ⟨q_a, 1, none⟩ = some (.slice A_a n_a c_a) ∧ wx.cell? ⟨q_b, 0, none⟩ = some (.bool g_b) ∧ wx.cell? ⟨q_b, 1, none⟩ = some (.slice A_b n_b c_b) ∧ wx.cell? ⟨q_x, 0, none⟩ = some (.int .i64 v_x) ∧ wx.cell? ⟨q_x, 1, none⟩ = some (.string s_x) ∧ wx.cell? ⟨q_p, 0, none⟩ = some (.bool g_a) ∧ wx.cell? ⟨q_p, 1, none⟩ = some (.slice A_p n_p c_p) ∧ wx.cell? ⟨q_q, 0, none⟩ = some (.bool g_b) ∧ wx.cell? ⟨q_q, 1, none⟩ = some (.slice A_q n_q c_q) ∧ wx.cell? ⟨q_c, 0, none⟩ = some (.bool (sg z_v)) ∧ wx.cell? ⟨q_c, 1, none⟩ = some (.slice A_c n_c c_c) ∧ wx.cell? ⟨q_g, 0, none⟩ = some (.bool (sg z_v)) ∧ wx.cell? ⟨q_g, 1, none⟩ = some (.slice A_g n_g c_g) ∧ wx.cell? ⟨q_g, 2, none⟩ = some (.bool ok) ∧ Below wS.heap.size wS wx) → Row2 wx q_c 25 (.bool (sg z_v)) (.slice A_c n_c c_c)) := fun wx hS => h_rc.below hS.2.2.2.2.2.2.2.2.2.2.2.2.2.2.2
    have KR_g : RowKit.Hid (∀ wx, (wx.cell? ⟨q_a, 0, none⟩ = some (.bool g_a) ∧ wx.cell? ⟨q_a, 1, none⟩ = some (.slice A_a n_a c_a) ∧ wx.cell? ⟨q_b, 0, none⟩ = some (.bool g_b) ∧ wx.cell? ⟨q_b, 1, none⟩ = some (.slice A_b n_b c_b) ∧ wx.cell? ⟨q_x, 0, none⟩ = some (.int .i64 v_x) ∧ wx.cell? ⟨q_x, 1, none⟩ = some (.string s_x) ∧ wx.cell? ⟨q_p, 0, none⟩ = some (.bool g_a) ∧ wx.cell? ⟨q_p, 1, none⟩ = some (.slice A_p n_p c_p) ∧ wx.cell? ⟨q_q, 0, none⟩ = some (.bool g_b) ∧ wx.cell? ⟨q_q, 1, none⟩ = some (.slice A_q n_q c_q) ∧ wx.cell? ⟨q_c, 0, none⟩ = some (.bool (sg z_v)) ∧ wx.cell? ⟨q_c, 1, none⟩ = some (.slice A_c n_c c_c) ∧ wx.cell? ⟨q_g, 0, none⟩ = some (.bool (sg z_v)) ∧ wx.cell? ⟨q_g, 1, none⟩ = some (.slice A_g n_g c_g) ∧ wx.cell? ⟨q_g, 2, none⟩ = some (.bool ok) ∧ Below wS.heap.size wS wx) → Row3 wx q_g 34 (.bool (sg z_v)) (.slice A_g n_g c_g) (.bool ok)) := fun wx hS => h_rg.below hS.2.2.2.2.2.2.2.2.2.2.2.2.2.2.2
    have KT : RowKit.Hid (∀ wx, (wx.cell? ⟨q_a, 0, none⟩ = some (.bool g_a) ∧ wx.cell? ⟨q_a, 1, none⟩ = some (.slice A_a n_a c_a) ∧ wx.cell? ⟨q_b, 0, none⟩ = some (.bool g_b) ∧ wx.cell? ⟨q_b, 1, none⟩ = some (.slice A_b n_b c_b) ∧ wx.cell? ⟨q_x, 0, none⟩ = some (.int .i64 v_x) ∧ wx.cell? ⟨q_x, 1, none⟩ = some (.string s_x) ∧ wx.cell? ⟨q_p, 0, none⟩ = some (.bool g_a) ∧ wx.cell? ⟨q_p, 1, none⟩ = some (.slice A_p n_p c_p) ∧ wx.cell? ⟨q_q, 0, none⟩ = some (.bool g_b) ∧ wx.cell? ⟨q_q, 1, none⟩ = some (.slice A_q n_q c_q) ∧ wx.cell? ⟨q_c, 0, none⟩ = some (.bool (sg z_v)) ∧ wx.cell? ⟨q_c, 1, none⟩ = some (.slice A_c n_c c_c) ∧ wx.cell? ⟨q_g, 0, none⟩ = some (.bool (sg z_v)) ∧ wx.cell? ⟨q_g, 1, none⟩ = some (.slice A_g n_g c_g) ∧ wx.cell? ⟨q_g, 2, none⟩ = some (.bool ok) ∧ Below wS.heap.size wS wx) → Tab wx) := fun wx hS => HTab.out.below hS.2.2.2.2.2.2.2.2.2.2.2.2.2.2.2
    have HF := Lib.hid bw
    have KF : RowKit.Hid (∀ wx, (wx.cell? ⟨q_a, 0, none⟩ = some (.bool g_a) ∧ wx.cell? ⟨q_a, 1, none⟩ = some (.slice A_a n_a c_a) ∧ wx.cell? ⟨q_b, 0, none⟩ = some (.bool g_b) ∧ wx.cell? ⟨q_b, 1, none⟩ = some (.slice A_b n_b c_b) ∧ wx.cell? ⟨q_x, 0, none⟩ = some (.int .i64 v_x) ∧ wx.cell? ⟨q_x, 1, none⟩ = some (.string s_x) ∧ wx.cell? ⟨q_p, 0, none⟩ = some (.bool g_a) ∧ wx.cell? ⟨q_p, 1, none⟩ = some (.slice A_p n_p c_p) ∧ wx.cell? ⟨q_q, 0, none⟩ = some (.bool g_b) ∧ wx.cell? ⟨q_q, 1, none⟩ = some (.slice A_q n_q c_q) ∧ wx.cell? ⟨q_c, 0, none⟩ = some (.bool (sg z_v)) ∧ wx.cell? ⟨q_c, 1, none⟩ = some (.slice A_c n_c c_c) ∧ wx.cell? ⟨q_g, 0, none⟩ = some (.bool (sg z_v)) ∧ wx.cell? ⟨q_g, 1, none⟩ = some (.slice A_g n_g c_g) ∧ wx.cell? ⟨q_g, 2, none⟩ = some (.bool ok) ∧ Below wS.heap.size wS wx) → Below w.heap.size w wx) := fun wx hS => below_two HF.out hS.2.2.2.2.2.2.2.2.2.2.2.2.2.2.2
    obtain ⟨d_a0, d_a1, d_b0, d_b1, d_x0, d_x1, d_p0, d_p1, d_q0, d_q1, d_c0, d_c1, d_g0, d_g1, d_g2, _⟩ := KA.out _ (Below.refl _ _)
    clear h_a h_b h_ra h_rb h_rx h_p h_rp h_q h_rq h_c h_rc h_g h_rg HTab bw
    clear HF
    try dsimp only [List.append]
    go_region_held3 (fun wx => wx.cell? ⟨q_a, 0, none⟩ = some (.bool g_a) ∧ wx.cell? ⟨q_a, 1, none⟩ = some (.slice A_a n_a c_a) ∧ wx.cell? ⟨q_b, 0, none⟩ = some (.bool g_b) ∧ wx.cell? ⟨q_b, 1, none⟩ = some (.slice A_b n_b c_b) ∧ wx.cell? ⟨q_x, 0, none⟩ = some (.int .i64 v_x) ∧ wx.cell? ⟨q_x, 1, none⟩ = some (.string s_x) ∧ wx.cell? ⟨q_p, 0, none⟩ = some (.bool g_a) ∧ wx.cell? ⟨q_p, 1, none⟩ = some (.slice A_p n_p c_p) ∧ wx.cell? ⟨q_q, 0, none⟩ = some (.bool g_b) ∧ wx.cell? ⟨q_q, 1, none⟩ = some (.slice A_q n_q c_q) ∧ wx.cell? ⟨q_c, 0, none⟩ = some (.bool (sg z_v)) ∧ wx.cell? ⟨q_c, 1, none⟩ = some (.slice A_c n_c c_c) ∧ wx.cell? ⟨q_g, 0, none⟩ = some (.bool (sg z_v)) ∧ wx.cell? ⟨q_g, 1, none⟩ = some (.slice A_g n_g c_g) ∧ wx.cell? ⟨q_g, 2, none⟩ = some (.bool ok) ∧ Below wS.heap.size wS wx) (first | assumption | exact KA.out _ ((Below.refl _ _).drew) | (with_reducible refine KS.out _ _ ?_ (below_new _ _); assumption)) (first
      | (go_at_call 5; (have mk := bn_k8; clear mk); (with_reducible refine (wakes_any _ (KT.out _ (by assumption))).mono ?_); rintro e w2 ⟨rfl, bn_k⟩; have hS2 := KS.out _ _ (by assumption) bn_k)
      | (go_at_call 9; (have mk := bn_k7; clear mk); (with_reducible refine (keepInt_c (K_q.out _ (by assumption)) (K_b.out _ (by assumption)) (by decide) (by decide) true (keep_self _ _)).mono ?_); rintro e w2 ⟨rfl, bn_k8⟩; have hS2 := KS.out _ _ (by assumption) bn_k8)
      | (go_at_call 9; (have mk := bn_k6; clear mk); (with_reducible refine (keepInt_c (K_p.out _ (by assumption)) (K_a.out _ (by assumption)) (by decide) (by decide) true (keep_self _ _)).mono ?_); rintro e w2 ⟨rfl, bn_k7⟩; have hS2 := KS.out _ _ (by assumption) bn_k7)
      | (go_at_call 9; (have mk := bn_o2; clear mk); (with_reducible refine (keepInt_c (h_o1.below bn_o2) h_o2 (by decide) (by decide) true (zsame rfl)).mono ?_); rintro e w2 ⟨rfl, bn_k6⟩; have hS2 := KS.out _ _ (by assumption) bn_k6)
      | (go_at_call 23; (have mk := bn_o1; clear mk); (with_reducible refine (refIOf_c v_x HV0.out.1 HV0.out.2 _).mono ?_); rintro e w2 ⟨A_o2, n_o2, c_o2, rfl, h_o2, bn_o2⟩; have hS2 := KS.out _ _ (by assumption) bn_o2)
      | (go_at_call 22; (have mk := bn_k5; clear mk); (with_reducible refine (wOf_c v_x HV0.out.1 HV0.out.2 _).mono ?_); rintro e w2 ⟨A_o1, n_o1, c_o1, rfl, h_o1, bn_o1⟩; have hS2 := KS.out _ _ (by assumption) bn_o1)
      | (go_at_call 9; (have mk := bn_k4; clear mk); (with_reducible refine (keepInt_c (K_c.out _ (by assumption)) (K_g.out _ (by assumption)) (by decide) (by decide) true (zsame rfl)).mono ?_); rintro e w2 ⟨rfl, bn_k5⟩; have hS2 := KS.out _ _ (by assumption) bn_k5)
      | (go_at_call 9; (have mk := bn_u2; clear mk); (with_reducible refine (keepInt_c (h_u1.below bn_u2) h_u2 (by decide) (by decide) true (zsame rfl)).mono ?_); rintro e w2 ⟨rfl, bn_k4⟩; have hS2 := KS.out _ _ (by assumption) bn_k4)
      | (go_at_call 21; (have mk := bn_u1; clear mk); (with_reducible refine (refITrim_c (K_a.out _ (by assumption)) (by decide)).mono ?_); rintro e w2 ⟨A_u2, n_u2, c_u2, rfl, h_u2, bn_u2⟩; have hS2 := KS.out _ _ (by assumption) bn_u2)
      | (go_at_call 20; (have mk := bn_t2; clear mk); (with_reducible refine (wTrim_c (K_p.out _ (by assumption)) (by decide)).mono ?_); rintro e w2 ⟨A_u1, n_u1, c_u1, rfl, h_u1, bn_u1⟩; have hS2 := KS.out _ _ (by assumption) bn_u1)
      | (go_at_call 19; (have mk := bn_t1; clear mk); (with_reducible refine (refIText_c (K_a.out _ (by assumption)) (by decide) S hS.out).mono ?_); rintro e w2 ⟨rfl, bn_t2⟩; have hS2 := KS.out _ _ (by assumption) bn_t2)
      | (go_at_call 18; (have mk := bn_c2; clear mk); (with_reducible refine (wText_c (KT.out _ (by assumption)) (K_p.out _ (by assumption)) (by decide) S hS.out).mono ?_); rintro e w2 ⟨rfl, bn_t1⟩; have hS2 := KS.out _ _ (by assumption) bn_t1)
      | (go_at_call 17; (have mk := bn_c1; clear mk); (with_reducible refine (refICmp_c (KT.out _ (by assumption)) (K_a.out _ (by assumption)) (K_b.out _ (by assumption)) (by decide) (by decide) v hv.out).mono ?_); rintro e w2 ⟨rfl, bn_c2⟩; have hS2 := KS.out _ _ (by assumption) bn_c2)
      | (go_at_call 16; (have mk := bn_k3; clear mk); (with_reducible refine (wCmp_c (K_p.out _ (by assumption)) (K_q.out _ (by assumption)) (by decide) (by decide) v hv.out).mono ?_); rintro e w2 ⟨rfl, bn_c1⟩; have hS2 := KS.out _ _ (by assumption) bn_c1)
      | (go_at_call 9; (have mk := bn_n2; clear mk); (with_reducible refine (keepInt_c (h_n1.below bn_n2) h_n2 (by decide) (by decide) true (zsame rfl)).mono ?_); rintro e w2 ⟨rfl, bn_k3⟩; have hS2 := KS.out _ _ (by assumption) bn_k3)
      | (go_at_call 15; (have mk := bn_n1; clear mk); (with_reducible refine (refINeg_c (K_a.out _ (by assumption)) (by decide) (-z_a) rfl).mono ?_); rintro e w2 ⟨A_n2, n_n2, c_n2, rfl, h_n2, bn_n2⟩; have hS2 := KS.out _ _ (by assumption) bn_n2)
      | (go_at_call 14; (have mk := bn_k2; clear mk); (with_reducible refine (wNeg_c (K_p.out _ (by assumption)) (by decide) (-z_a) rfl).mono ?_); rintro e w2 ⟨A_n1, n_n1, c_n1, rfl, h_n1, bn_n1⟩; have hS2 := KS.out _ _ (by assumption) bn_n1)
      | (go_at_call 9; (have mk := bn_m2; clear mk); (with_reducible refine (keepInt_c (h_m1.below bn_m2) h_m2 (by decide) (by decide) true (zsame rfl)).mono ?_); rintro e w2 ⟨rfl, bn_k2⟩; have hS2 := KS.out _ _ (by assumption) bn_k2)
      | (go_at_call 13; (have mk := bn_m1; clear mk); (with_reducible refine (refIMul_c (K_a.out _ (by assumption)) (K_b.out _ (by assumption)) (by decide) (by decide) (z_a * z_b) rfl).mono ?_); rintro e w2 ⟨A_m2, n_m2, c_m2, rfl, h_m2, bn_m2⟩; have hS2 := KS.out _ _ (by assumption) bn_m2)
      | (go_at_call 12; (have mk := bn_k1; clear mk); (with_reducible refine (wMul_c (K_p.out _ (by assumption)) (K_q.out _ (by assumption)) 120 (by decide) (by decide) (by decide) (z_a * z_b) rfl).mono ?_); rintro e w2 ⟨A_m1, n_m1, c_m1, rfl, h_m1, bn_m1⟩; have hS2 := KS.out _ _ (by assumption) bn_m1)
      | (go_at_call 9; (have mk := bn_s2; clear mk); (with_reducible refine (keepInt_c (h_s1.below bn_s2) h_s2 (by decide) (by decide) true (zsame rfl)).mono ?_); rintro e w2 ⟨rfl, bn_k1⟩; have hS2 := KS.out _ _ (by assumption) bn_k1)
      | (go_at_call 11; (have mk := bn_s1; clear mk); (with_reducible refine (refIAdd_c (KT.out _ (by assumption)) (K_a.out _ (by assumption)) (K_b.out _ (by assumption)) (by decide) (by decide) (z_a + z_b) rfl).mono ?_); rintro e w2 ⟨A_s2, n_s2, c_s2, rfl, h_s2, bn_s2⟩; have hS2 := KS.out _ _ (by assumption) bn_s2)
      | (go_at_call 10; (with_reducible refine (wAdd_c (K_p.out _ (by assumption)) (K_q.out _ (by assumption)) 61 (by decide) (by decide) (by decide) (z_a + z_b) rfl).mono ?_); rintro e w2 ⟨A_s1, n_s1, c_s1, rfl, h_s1, bn_s1⟩; have hS2 := KS.out _ _ (by assumption) bn_s1))
    all_goals (go_wp2; go_ret; exact ⟨rfl, KF.out _ (by assumption)⟩)

end Go.Proofs.YtgdchljbjnhchaaGreatDoor.lawWholeTells

/- What a row's listed variables give: the table of powers of ten and strconv's sentinel as the contracts ask them. Condition: the variables read as listed. -/
namespace Go.Proofs.YtgdchljbjnhchaaGreatDoor
open Go.RowKit Go.ChangeShapes
set_option linter.unusedVariables false

theorem laidMet_drop {P : Program} {w : World} : ∀ (k : Nat) {l : List (String × DataW Unit)}, laidMet P l w → laidMet P (l.drop k) w
  | 0, _, h => h
  | _ + 1, [], h => h
  | k + 1, _ :: _, h => laidMet_drop k h.tail

/-- The powers of ten that a limb holds. -/
def tens : List Int := [1, 10, 100, 1000, 10000, 100000, 1000000, 10000000, 100000000, 1000000000]
theorem tens_at : ∀ i, i < 10 → tens.getD i 0 = ((10 ^ i : Nat) : Int) := by decide

theorem powers_tab {W : World} {name : String} {r : List (String × DataW Unit)} (h : laidMet Tryz.prog ((name, Lib.tabData .u32 tens) :: r) W) (hg : Tryz.prog.globalNamed name = some 0) :
    ∀ i, i < 10 → W.cell? ⟨0, i, none⟩ = some (.int .u32 ((10 ^ i : Nat) : Int)) := fun i hi => by
  have hT := Lib.tabIs_of_head hg (t := 65) (by kernel_rfl) Tryz.underlying65 Tryz.underlying42 (by kernel_rfl) (by kernel_rfl) h
  rw [hT.cell hg i hi, tens_at i hi]

theorem err_tab {W : World} {name nm : String} {d : DataW Unit} {r : List (String × DataW Unit)} (h : laidMet Tryz.prog ((name, .iface nm d) :: r) W) (hg : Tryz.prog.globalNamed name = some 1) :
    ∃ te pe, W.cell? ⟨1, 0, none⟩ = some (.iface te pe) := by
  obtain ⟨ps, ⟨g0, t0, cs0, f0, p0, q0, hg0, ht0, hv0, hd0, _, _⟩, _, _⟩ := h
  obtain rfl := Option.some.inj (hg.symm.trans hg0)
  have ht : (Tryz.prog.globals[1]?).map (·.type) = some 61 := by kernel_rfl
  obtain rfl := Option.some.inj (ht.symm.trans ht0)
  obtain ⟨_, u, v, hcs, _⟩ := iface_of_trod Tryz.underlying61 hd0
  have h2 := World.var?_cell hg0 hv0 0
  rw [← Array.getElem?_toList, hcs] at h2
  exact ⟨u, v, by simpa using h2⟩

end Go.Proofs.YtgdchljbjnhchaaGreatDoor
