/- Of any three whole numbers: they are a ring. No condition. -/
import Derived.Test.YtgdchljbjnhchaaDoorM4
import Derived.Test.YtgdchljbjnhchaaDoorCards
import Derived.Test.YtgdchljbjnhchaaDoorTie
import Derived.ChangeMaps5
import Derived.Lay
import Derived.SevenTiedAt
import Derived.Deep.RegionWith
import Derived.Deep.RegionHeld3
/- Of any three whole numbers: they are a ring. No condition. -/
namespace Go.Proofs.YtgdchljbjnhchaaDoor.lawWholeLaws
open Go.ChangeShapes Go.WideShapes Go.ChangeAt Go.RowKit Limb
set_option linter.unusedVariables false

set_option maxHeartbeats 40000000 in
set_option maxRecDepth 100000 in
theorem walk (g_a : Bool) (A_a : Option Addr) (n_a c_a : Nat) (xs_a : List Nat) (g_b : Bool) (A_b : Option Addr) (n_b c_b : Nat) (xs_b : List Nat) (g_c : Bool) (A_c : Option Addr) (n_c c_c : Nat) (xs_c : List Nat) (w : World) (i_a : IsN w A_a n_a xs_a) (hc_a : n_a ≤ c_a) (hm_a : c_a ≤ maxLen) (i_b : IsN w A_b n_b xs_b) (hc_b : n_b ≤ c_b) (hm_b : c_b ≤ maxLen) (i_c : IsN w A_c n_c xs_c) (hc_c : n_c ≤ c_c) (hm_c : c_c ≤ maxLen) (T : Tab w) :
    Calls Tryd.prog 3 #[.agg #[.bool g_a, .slice A_a n_a c_a], .agg #[.bool g_b, .slice A_b n_b c_b], .agg #[.bool g_c, .slice A_c n_c c_c]] w fun e w' => e = .returned (.bool true) ∧ Below w.heap.size w w' := by
  have HTab := Lib.hid T
  clear T
  have bw := bel_refl w
  by_cases l_a : 20 < n_a
  · have L_a : (20 : Int) < n_a := by omega
    have bn := Lib.hid (below_two (below_two (below_new w (.cells #[Value.bool g_a, Value.slice A_a n_a c_a] 25)) (below_new (w.alloc (.cells #[Value.bool g_a, Value.slice A_a n_a c_a] 25)) (.cells #[Value.bool g_b, Value.slice A_b n_b c_b] 25))) (below_new ((w.alloc (.cells #[Value.bool g_a, Value.slice A_a n_a c_a] 25)).alloc (.cells #[Value.bool g_b, Value.slice A_b n_b c_b] 25)) (.cells #[Value.bool g_c, Value.slice A_c n_c c_c] 25)))
    go_enter Tryd.func3, Tryd.ntmps3
    go_wp2_with ((go_at_call 7; (with_reducible refine (wakes_any _ (HTab.out.below bn.out)).mono ?_); rintro e w2 ⟨rfl, b2⟩))
    go_ret
    exact ⟨rfl, below_two bn.out b2⟩
  by_cases l_b : 20 < n_b
  · have L_a : (n_a : Int) ≤ 20 := by omega
    have L_b : (20 : Int) < n_b := by omega
    have bn := Lib.hid (below_two (below_two (below_new w (.cells #[Value.bool g_a, Value.slice A_a n_a c_a] 25)) (below_new (w.alloc (.cells #[Value.bool g_a, Value.slice A_a n_a c_a] 25)) (.cells #[Value.bool g_b, Value.slice A_b n_b c_b] 25))) (below_new ((w.alloc (.cells #[Value.bool g_a, Value.slice A_a n_a c_a] 25)).alloc (.cells #[Value.bool g_b, Value.slice A_b n_b c_b] 25)) (.cells #[Value.bool g_c, Value.slice A_c n_c c_c] 25)))
    go_enter Tryd.func3, Tryd.ntmps3
    go_wp2_with ((go_at_call 7; (with_reducible refine (wakes_any _ (HTab.out.below bn.out)).mono ?_); rintro e w2 ⟨rfl, b2⟩))
    go_ret
    exact ⟨rfl, below_two bn.out b2⟩
  by_cases l_c : 20 < n_c
  · have L_a : (n_a : Int) ≤ 20 := by omega
    have L_b : (n_b : Int) ≤ 20 := by omega
    have L_c : (20 : Int) < n_c := by omega
    have bn := Lib.hid (below_two (below_two (below_new w (.cells #[Value.bool g_a, Value.slice A_a n_a c_a] 25)) (below_new (w.alloc (.cells #[Value.bool g_a, Value.slice A_a n_a c_a] 25)) (.cells #[Value.bool g_b, Value.slice A_b n_b c_b] 25))) (below_new ((w.alloc (.cells #[Value.bool g_a, Value.slice A_a n_a c_a] 25)).alloc (.cells #[Value.bool g_b, Value.slice A_b n_b c_b] 25)) (.cells #[Value.bool g_c, Value.slice A_c n_c c_c] 25)))
    go_enter Tryd.func3, Tryd.ntmps3
    go_wp2_with ((go_at_call 7; (with_reducible refine (wakes_any _ (HTab.out.below bn.out)).mono ?_); rintro e w2 ⟨rfl, b2⟩))
    go_ret
    exact ⟨rfl, below_two bn.out b2⟩
  have L_a : (n_a : Int) ≤ 20 := by omega
  have L_b : (n_b : Int) ≤ 20 := by omega
  have L_c : (n_c : Int) ≤ 20 := by omega
  have h_a : ZZ w g_a A_a n_a c_a xs_a (zOf g_a (Limb.val xs_a)) 20 := ZZ.of ⟨i_a, rfl, hc_a, by omega⟩
  generalize zOf g_a (Limb.val xs_a) = z_a at h_a
  have h_b : ZZ w g_b A_b n_b c_b xs_b (zOf g_b (Limb.val xs_b)) 20 := ZZ.of ⟨i_b, rfl, hc_b, by omega⟩
  generalize zOf g_b (Limb.val xs_b) = z_b at h_b
  have h_c : ZZ w g_c A_c n_c c_c xs_c (zOf g_c (Limb.val xs_c)) 20 := ZZ.of ⟨i_c, rfl, hc_c, by omega⟩
  generalize zOf g_c (Limb.val xs_c) = z_c at h_c
  have h_ra := row2_new w 25 (.bool g_a) (.slice A_a n_a c_a)
  have bn := below_new w (.cells #[Value.bool g_a, Value.slice A_a n_a c_a] 25)
  replace h_a := h_a.below bn
  replace h_b := h_b.below bn
  replace h_c := h_c.below bn
  replace HTab := Lib.hid (HTab.out.below bn)
  replace bw := below_two bw bn
  clear bn
  have h_rb := row2_new (w.alloc (.cells #[Value.bool g_a, Value.slice A_a n_a c_a] 25)) 25 (.bool g_b) (.slice A_b n_b c_b)
  have bn := below_new (w.alloc (.cells #[Value.bool g_a, Value.slice A_a n_a c_a] 25)) (.cells #[Value.bool g_b, Value.slice A_b n_b c_b] 25)
  replace h_a := h_a.below bn
  replace h_b := h_b.below bn
  replace h_c := h_c.below bn
  replace h_ra := h_ra.below bn
  replace HTab := Lib.hid (HTab.out.below bn)
  replace bw := below_two bw bn
  clear bn
  have h_rc := row2_new ((w.alloc (.cells #[Value.bool g_a, Value.slice A_a n_a c_a] 25)).alloc (.cells #[Value.bool g_b, Value.slice A_b n_b c_b] 25)) 25 (.bool g_c) (.slice A_c n_c c_c)
  have bn := below_new ((w.alloc (.cells #[Value.bool g_a, Value.slice A_a n_a c_a] 25)).alloc (.cells #[Value.bool g_b, Value.slice A_b n_b c_b] 25)) (.cells #[Value.bool g_c, Value.slice A_c n_c c_c] 25)
  replace h_a := h_a.below bn
  replace h_b := h_b.below bn
  replace h_c := h_c.below bn
  replace h_ra := h_ra.below bn
  replace h_rb := h_rb.below bn
  replace HTab := Lib.hid (HTab.out.below bn)
  replace bw := below_two bw bn
  clear bn
  simp only [World.size_alloc] at h_ra h_rb h_rc
  go_enter Tryd.func3, Tryd.ntmps3
  go_wp2
  generalize (((w.alloc (.cells #[Value.bool g_a, Value.slice A_a n_a c_a] 25)).alloc (.cells #[Value.bool g_b, Value.slice A_b n_b c_b] 25)).alloc (.cells #[Value.bool g_c, Value.slice A_c n_c c_c] 25)) = wP at *
  obtain ⟨q_c, eg⟩ : ∃ g, g = w.heap.size + 1 + 1 := ⟨_, rfl⟩
  rw [← eg] at h_rc ⊢
  have E_c := Lib.hid eg
  clear eg
  obtain ⟨q_b, eg⟩ : ∃ g, g = w.heap.size + 1 := ⟨_, rfl⟩
  rw [← eg] at h_rb ⊢
  have E_b := Lib.hid eg
  clear eg
  obtain ⟨q_a, eg⟩ : ∃ g, g = w.heap.size := ⟨_, rfl⟩
  rw [← eg] at h_ra ⊢
  have E_a := Lib.hid eg
  clear eg
  generalize wP = wS at *
  have KA : RowKit.Hid (∀ wx, Below wS.heap.size wS wx → (wx.cell? ⟨q_a, 0, none⟩ = some (.bool g_a) ∧ wx.cell? ⟨q_a, 1, none⟩ = some (.slice A_a n_a c_a) ∧ wx.cell? ⟨q_b, 0, none⟩ = some (.bool g_b) ∧ wx.cell? ⟨q_b, 1, none⟩ = some (.slice A_b n_b c_b) ∧ wx.cell? ⟨q_c, 0, none⟩ = some (.bool g_c) ∧ wx.cell? ⟨q_c, 1, none⟩ = some (.slice A_c n_c c_c) ∧ Below wS.heap.size wS wx)) := fun wx hb => ⟨(h_ra.below hb).c0, (h_ra.below hb).c1, (h_rb.below hb).c0, (h_rb.below hb).c1, (h_rc.below hb).c0, (h_rc.below hb).c1, hb⟩
  have KS : RowKit.Hid (∀ wx w2, (wx.cell? ⟨q_a, 0, none⟩ = some (.bool g_a) ∧ wx.cell? ⟨q_a, 1, none⟩ = some (.slice A_a n_a c_a) ∧ wx.cell? ⟨q_b, 0, none⟩ = some (.bool g_b) ∧ wx.cell? ⟨q_b, 1, none⟩ = some (.slice A_b n_b c_b) ∧ wx.cell? ⟨q_c, 0, none⟩ = some (.bool g_c) ∧ wx.cell? ⟨q_c, 1, none⟩ = some (.slice A_c n_c c_c) ∧ Below wS.heap.size wS wx) → Below wx.heap.size wx w2 → (w2.cell? ⟨q_a, 0, none⟩ = some (.bool g_a) ∧ w2.cell? ⟨q_a, 1, none⟩ = some (.slice A_a n_a c_a) ∧ w2.cell? ⟨q_b, 0, none⟩ = some (.bool g_b) ∧ w2.cell? ⟨q_b, 1, none⟩ = some (.slice A_b n_b c_b) ∧ w2.cell? ⟨q_c, 0, none⟩ = some (.bool g_c) ∧ w2.cell? ⟨q_c, 1, none⟩ = some (.slice A_c n_c c_c) ∧ Below wS.heap.size wS w2)) := fun wx w2 hS bn => KA.out _ (below_two hS.2.2.2.2.2.2 bn)
  have KU : RowKit.Hid (∀ (wx : World) (q : Nat) (u v : Value), (wx.cell? ⟨q_a, 0, none⟩ = some (.bool g_a) ∧ wx.cell? ⟨q_a, 1, none⟩ = some (.slice A_a n_a c_a) ∧ wx.cell? ⟨q_b, 0, none⟩ = some (.bool g_b) ∧ wx.cell? ⟨q_b, 1, none⟩ = some (.slice A_b n_b c_b) ∧ wx.cell? ⟨q_c, 0, none⟩ = some (.bool g_c) ∧ wx.cell? ⟨q_c, 1, none⟩ = some (.slice A_c n_c c_c) ∧ Below wS.heap.size wS wx) → wS.heap.size ≤ q → (((wx.setCell ⟨q, 0, none⟩ u).setCell ⟨q, 1, none⟩ v).cell? ⟨q_a, 0, none⟩ = some (.bool g_a) ∧ ((wx.setCell ⟨q, 0, none⟩ u).setCell ⟨q, 1, none⟩ v).cell? ⟨q_a, 1, none⟩ = some (.slice A_a n_a c_a) ∧ ((wx.setCell ⟨q, 0, none⟩ u).setCell ⟨q, 1, none⟩ v).cell? ⟨q_b, 0, none⟩ = some (.bool g_b) ∧ ((wx.setCell ⟨q, 0, none⟩ u).setCell ⟨q, 1, none⟩ v).cell? ⟨q_b, 1, none⟩ = some (.slice A_b n_b c_b) ∧ ((wx.setCell ⟨q, 0, none⟩ u).setCell ⟨q, 1, none⟩ v).cell? ⟨q_c, 0, none⟩ = some (.bool g_c) ∧ ((wx.setCell ⟨q, 0, none⟩ u).setCell ⟨q, 1, none⟩ v).cell? ⟨q_c, 1, none⟩ = some (.slice A_c n_c c_c) ∧ Below wS.heap.size wS ((wx.setCell ⟨q, 0, none⟩ u).setCell ⟨q, 1, none⟩ v))) := fun wx q u v hS hq => KA.out _ ((hS.2.2.2.2.2.2.setCell (p := ⟨q, 0, none⟩) hq u).setCell (p := ⟨q, 1, none⟩) hq v)
  have K_a : RowKit.Hid (∀ wx, (wx.cell? ⟨q_a, 0, none⟩ = some (.bool g_a) ∧ wx.cell? ⟨q_a, 1, none⟩ = some (.slice A_a n_a c_a) ∧ wx.cell? ⟨q_b, 0, none⟩ = some (.bool g_b) ∧ wx.cell? ⟨q_b, 1, none⟩ = some (.slice A_b n_b c_b) ∧ wx.cell? ⟨q_c, 0, none⟩ = some (.bool g_c) ∧ wx.cell? ⟨q_c, 1, none⟩ = some (.slice A_c n_c c_c) ∧ Below wS.heap.size wS wx) → ZZ wx g_a A_a n_a c_a xs_a z_a 20) := fun wx hS => h_a.below hS.2.2.2.2.2.2
  have K_b : RowKit.Hid (∀ wx, (wx.cell? ⟨q_a, 0, none⟩ = some (.bool g_a) ∧ wx.cell? ⟨q_a, 1, none⟩ = some (.slice A_a n_a c_a) ∧ wx.cell? ⟨q_b, 0, none⟩ = some (.bool g_b) ∧ wx.cell? ⟨q_b, 1, none⟩ = some (.slice A_b n_b c_b) ∧ wx.cell? ⟨q_c, 0, none⟩ = some (.bool g_c) ∧ wx.cell? ⟨q_c, 1, none⟩ = some (.slice A_c n_c c_c) ∧ Below wS.heap.size wS wx) → ZZ wx g_b A_b n_b c_b xs_b z_b 20) := fun wx hS => h_b.below hS.2.2.2.2.2.2
  have K_c : RowKit.Hid (∀ wx, (wx.cell? ⟨q_a, 0, none⟩ = some (.bool g_a) ∧ wx.cell? ⟨q_a, 1, none⟩ = some (.slice A_a n_a c_a) ∧ wx.cell? ⟨q_b, 0, none⟩ = some (.bool g_b) ∧ wx.cell? ⟨q_b, 1, none⟩ = some (.slice A_b n_b c_b) ∧ wx.cell? ⟨q_c, 0, none⟩ = some (.bool g_c) ∧ wx.cell? ⟨q_c, 1, none⟩ = some (.slice A_c n_c c_c) ∧ Below wS.heap.size wS wx) → ZZ wx g_c A_c n_c c_c xs_c z_c 20) := fun wx hS => h_c.below hS.2.2.2.2.2.2
  have KR_a : RowKit.Hid (∀ wx, (wx.cell? ⟨q_a, 0, none⟩ = some (.bool g_a) ∧ wx.cell? ⟨q_a, 1, none⟩ = some (.slice A_a n_a c_a) ∧ wx.cell? ⟨q_b, 0, none⟩ = some (.bool g_b) ∧ wx.cell? ⟨q_b, 1, none⟩ = some (.slice A_b n_b c_b) ∧ wx.cell? ⟨q_c, 0, none⟩ = some (.bool g_c) ∧ wx.cell? ⟨q_c, 1, none⟩ = some (.slice A_c n_c c_c) ∧ Below wS.heap.size wS wx) → Row2 wx q_a 25 (.bool g_a) (.slice A_a n_a c_a)) := fun wx hS => h_ra.below hS.2.2.2.2.2.2
  have KR_b : RowKit.Hid (∀ wx, (wx.cell? ⟨q_a, 0, none⟩ = some (.bool g_a) ∧ wx.cell? ⟨q_a, 1, none⟩ = some (.slice A_a n_a c_a) ∧ wx.cell? ⟨q_b, 0, none⟩ = some (.bool g_b) ∧ wx.cell? ⟨q_b, 1, none⟩ = some (.slice A_b n_b c_b) ∧ wx.cell? ⟨q_c, 0, none⟩ = some (.bool g_c) ∧ wx.cell? ⟨q_c, 1, none⟩ = some (.slice A_c n_c c_c) ∧ Below wS.heap.size wS wx) → Row2 wx q_b 25 (.bool g_b) (.slice A_b n_b c_b)) := fun wx hS => h_rb.below hS.2.2.2.2.2.2
  have KR_c : RowKit.Hid (∀ wx, (wx.cell? ⟨q_a, 0, none⟩ = some (.bool g_a) ∧ wx.cell? ⟨q_a, 1, none⟩ = some (.slice A_a n_a c_a) ∧ wx.cell? ⟨q_b, 0, none⟩ = some (.bool g_b) ∧ wx.cell? ⟨q_b, 1, none⟩ = some (.slice A_b n_b c_b) ∧ wx.cell? ⟨q_c, 0, none⟩ = some (.bool g_c) ∧ wx.cell? ⟨q_c, 1, none⟩ = some (.slice A_c n_c c_c) ∧ Below wS.heap.size wS wx) → Row2 wx q_c 25 (.bool g_c) (.slice A_c n_c c_c)) := fun wx hS => h_rc.below hS.2.2.2.2.2.2
  have KT : RowKit.Hid (∀ wx, (wx.cell? ⟨q_a, 0, none⟩ = some (.bool g_a) ∧ wx.cell? ⟨q_a, 1, none⟩ = some (.slice A_a n_a c_a) ∧ wx.cell? ⟨q_b, 0, none⟩ = some (.bool g_b) ∧ wx.cell? ⟨q_b, 1, none⟩ = some (.slice A_b n_b c_b) ∧ wx.cell? ⟨q_c, 0, none⟩ = some (.bool g_c) ∧ wx.cell? ⟨q_c, 1, none⟩ = some (.slice A_c n_c c_c) ∧ Below wS.heap.size wS wx) → Tab wx) := fun wx hS => HTab.out.below hS.2.2.2.2.2.2
  have HF := Lib.hid bw
  have KF : RowKit.Hid (∀ wx, (wx.cell? ⟨q_a, 0, none⟩ = some (.bool g_a) ∧ wx.cell? ⟨q_a, 1, none⟩ = some (.slice A_a n_a c_a) ∧ wx.cell? ⟨q_b, 0, none⟩ = some (.bool g_b) ∧ wx.cell? ⟨q_b, 1, none⟩ = some (.slice A_b n_b c_b) ∧ wx.cell? ⟨q_c, 0, none⟩ = some (.bool g_c) ∧ wx.cell? ⟨q_c, 1, none⟩ = some (.slice A_c n_c c_c) ∧ Below wS.heap.size wS wx) → Below w.heap.size w wx) := fun wx hS => below_two HF.out hS.2.2.2.2.2.2
  obtain ⟨d_a0, d_a1, d_b0, d_b1, d_c0, d_c1, _⟩ := KA.out _ (Below.refl _ _)
  clear h_a h_b h_c h_ra h_rb h_rc HTab bw
  clear HF
  go_cut [7, 8] from 27 to 32 (fun s7 s8 wx => ∃ (q_s : Nat) (A_s : Option Addr) (n_s c_s : Nat) (q_p : Nat) (A_p : Option Addr) (n_p c_p : Nat), s7 = .pointer (some ⟨q_s, 0, none⟩) ∧ s8 = .pointer (some ⟨q_p, 0, none⟩) ∧ RowKit.Hid (Row2 wx q_s 25 (.bool (sg (z_a + z_b))) (.slice A_s n_s c_s) ∧ ZZ wx (sg (z_a + z_b)) A_s n_s c_s (limbs (z_a + z_b).natAbs) (z_a + z_b) 21 ∧ Row2 wx q_p 25 (.bool (sg (z_a * z_b))) (.slice A_p n_p c_p) ∧ ZZ wx (sg (z_a * z_b)) A_p n_p c_p (limbs (z_a * z_b).natAbs) (z_a * z_b) 40 ∧ Below wS.heap.size wS wx))
  case first =>
    refine region_free 8 2 [27, 28, 29, 30, 31, 32, 7, 8] ?aF (fun wx => wx.cell? ⟨q_a, 0, none⟩ = some (.bool g_a) ∧ wx.cell? ⟨q_a, 1, none⟩ = some (.slice A_a n_a c_a) ∧ wx.cell? ⟨q_b, 0, none⟩ = some (.bool g_b) ∧ wx.cell? ⟨q_b, 1, none⟩ = some (.slice A_b n_b c_b) ∧ wx.cell? ⟨q_c, 0, none⟩ = some (.bool g_c) ∧ wx.cell? ⟨q_c, 1, none⟩ = some (.slice A_c n_c c_c) ∧ Below wS.heap.size wS wx) (fun k v w => match k with
        | 0 => v = .agg #[.bool g_a, .slice A_a n_a c_a]
        | 1 => v = .agg #[.bool g_b, .slice A_b n_b c_b]
        | 2 => ∃ A n c, v = .agg #[.bool (sg (z_a + z_b)), .slice A n c] ∧ ZZ w (sg (z_a + z_b)) A n c (limbs (z_a + z_b).natAbs) (z_a + z_b) 21
        | 3 => v = .agg #[.bool g_a, .slice A_a n_a c_a]
        | 4 => v = .agg #[.bool g_b, .slice A_b n_b c_b]
        | 5 => ∃ A n c, v = .agg #[.bool (sg (z_a * z_b)), .slice A n c] ∧ ZZ w (sg (z_a * z_b)) A n c (limbs (z_a * z_b).natAbs) (z_a * z_b) 40
        | 6 => ∃ q, v = .pointer (some ⟨q, 0, none⟩) ∧ ZB w q ∧ wS.heap.size ≤ q
        | _ => ∃ q, v = .pointer (some ⟨q, 0, none⟩) ∧ ZB w q ∧ wS.heap.size ≤ q)
      (fun k => k == 6 || k == 7) (by kernel_rfl) ?haF rfl (by kernel_rfl) (by kernel_rfl) (fun _ _ _ _ _ h => h) ?hSb ?hPb ?hS ?hop ?hfin
    case haF =>
      intro vals
      simp only [fillAll, List.getElem?_cons_zero, List.getElem?_cons_succ, Act.put, List.setIfInBounds_toArray, List.set_cons_zero, List.set_cons_succ]
      exact rfl
    case hSb => exact fun wx w2 hb hS => KS.out wx w2 hS hb
    case hPb =>
      intro k v w1 w2 hb h
      match k, h with
      | 0, h => exact h
      | 1, h => exact h
      | 2, ⟨A, n, c, h1, h2⟩ => exact ⟨A, n, c, h1, h2.below hb⟩
      | 3, h => exact h
      | 4, h => exact h
      | 5, ⟨A, n, c, h1, h2⟩ => exact ⟨A, n, c, h1, h2.below hb⟩
      | 6, ⟨q, h1, h2, h3⟩ => exact ⟨q, h1, h2.below hb, h3⟩
      | _ + 7, ⟨q, h1, h2, h3⟩ => exact ⟨q, h1, h2.below hb, h3⟩
    case hS => exact KA.out _ ((Below.refl _ _).drew)
    case hop =>
      refine .cons (k := 0) ?_ (.cons (k := 1) ?_ (.cons (k := 2) ?_ (.cons (k := 3) ?_ (.cons (k := 4) ?_ (.cons (k := 5) ?_ (.cons (k := 6) ?_ (.cons (k := 7) ?_ (.nil))))))))
      all_goals intro vals wr hS hd K hK
      all_goals (show Oper.wp _ _ _ _ _ _; dsimp only)
      · obtain ⟨b0, b1, b2, b3, b4, b5, bS⟩ := hS
        go_simp
        refine hK _ _ rfl (Below.refl _ _) rfl (fun h => by cases h)
      · obtain ⟨b0, b1, b2, b3, b4, b5, bS⟩ := hS
        go_simp
        refine hK _ _ rfl (Below.refl _ _) rfl (fun h => by cases h)
      · have d0 : vals 0 = _ := hd 0 (by decide +kernel)
        have d1 : vals 1 = _ := hd 1 (by decide +kernel)
        rw [d0, d1]
        go_simp
        go_at_call 8
        with_reducible refine (wAdd_c (K_a.out _ hS) (K_b.out _ hS) 21 (by decide) (by decide) (by decide) (z_a + z_b) rfl).mono ?_
        rintro e w2 ⟨A_r, n_r, c_r, rfl, h_r, bn_r⟩
        refine hK _ _ rfl bn_r ⟨_, _, _, rfl, h_r⟩ (fun h => by cases h)
      · obtain ⟨b0, b1, b2, b3, b4, b5, bS⟩ := hS
        go_simp
        refine hK _ _ rfl (Below.refl _ _) rfl (fun h => by cases h)
      · obtain ⟨b0, b1, b2, b3, b4, b5, bS⟩ := hS
        go_simp
        refine hK _ _ rfl (Below.refl _ _) rfl (fun h => by cases h)
      · have d3 : vals 3 = _ := hd 3 (by decide +kernel)
        have d4 : vals 4 = _ := hd 4 (by decide +kernel)
        rw [d3, d4]
        go_simp
        go_at_call 9
        with_reducible refine (wMul_c (K_a.out _ hS) (K_b.out _ hS) 40 (by decide) (by decide) (by decide) (z_a * z_b) rfl).mono ?_
        rintro e w2 ⟨A_r, n_r, c_r, rfl, h_r, bn_r⟩
        refine hK _ _ rfl bn_r ⟨_, _, _, rfl, h_r⟩ (fun h => by cases h)
      · go_simp
        refine hK _ _ rfl (below_new _ _) ⟨_, rfl, row2_new wr 25 _ _, hS.2.2.2.2.2.2.size⟩ (fun _ => ⟨_, rfl, Nat.le_refl _, by rw [World.size_alloc]; omega⟩)
      · go_simp
        refine hK _ _ rfl (below_new _ _) ⟨_, rfl, row2_new wr 25 _ _, hS.2.2.2.2.2.2.size⟩ (fun _ => ⟨_, rfl, Nat.le_refl _, by rw [World.size_alloc]; omega⟩)
    case hfin =>
      intro vals wr hS hP hne
      obtain ⟨A_s, n_s, c_s, e2, h_s⟩ := hP 2 (by decide)
      obtain ⟨A_p, n_p, c_p, e5, h_p⟩ := hP 5 (by decide)
      obtain ⟨q_s, e6, z_bs, l_bs⟩ := hP 6 (by decide)
      obtain ⟨q_p, e7, z_bp, l_bp⟩ := hP 7 (by decide)
      have nq01 : q_s ≠ q_p := hne 6 7 (by decide) (by decide) (by decide) rfl rfl _ _ e6 e7
      try dsimp only
      rw [e2, e5, e6, e7]
      have bS := hS.2.2.2.2.2.2
      replace h_s := h_s.put z_bs (.bool (sg (z_a + z_b))) (.slice A_s n_s c_s)
      replace h_p := h_p.put z_bs (.bool (sg (z_a + z_b))) (.slice A_s n_s c_s)
      have z_np := Row2.far z_bp nq01 (.bool (sg (z_a + z_b))) (.slice A_s n_s c_s)
      have r_s := Row2.filled z_bs (.bool (sg (z_a + z_b))) (.slice A_s n_s c_s)
      replace bS := (bS.setCell (p := ⟨q_s, 0, none⟩) l_bs (.bool (sg (z_a + z_b)))).setCell (p := ⟨q_s, 1, none⟩) l_bs (.slice A_s n_s c_s)
      replace h_s := h_s.put z_np (.bool (sg (z_a * z_b))) (.slice A_p n_p c_p)
      replace h_p := h_p.put z_np (.bool (sg (z_a * z_b))) (.slice A_p n_p c_p)
      replace r_s := r_s.far (g := q_p) (Ne.symm nq01) (.bool (sg (z_a * z_b))) (.slice A_p n_p c_p)
      have r_p := Row2.filled z_np (.bool (sg (z_a * z_b))) (.slice A_p n_p c_p)
      replace bS := (bS.setCell (p := ⟨q_p, 0, none⟩) l_bp (.bool (sg (z_a * z_b)))).setCell (p := ⟨q_p, 1, none⟩) l_bp (.slice A_p n_p c_p)
      obtain ⟨c00, c01, c02, c03⟩ := z_bs.cells
      obtain ⟨c10, c11, c12, c13⟩ := z_bp.cells
      have t := Lib.hid (And.intro r_s (And.intro h_s (And.intro r_p (And.intro h_p bS))))
      clear bS h_s h_p r_s r_p
      refine wpAny_ready (rs := [8]) (by kernel_rfl) (by simp) (AllReady.cons rfl (fun K hK => ?_) AllReady.nil)
      go_simp
      refine hK _ _ ?_
      clear hK K
      refine wpAny_ready (rs := [9]) (by kernel_rfl) (by simp) (AllReady.cons rfl (fun K hK => ?_) AllReady.nil)
      go_simp
      refine hK _ _ ?_
      clear hK K
      refine wpAny_done (by kernel_rfl) ?_ _
      go_wp2
      go_meet
      case rel => exact ⟨q_s, A_s, n_s, c_s, q_p, A_p, n_p, c_p, rfl, rfl, t⟩
  case rest =>
    obtain ⟨q_s, A_s, n_s, c_s, q_p, A_p, n_p, c_p, rfl, rfl, t⟩ := hcut
    obtain ⟨h_rs, h_s, h_rp, h_p, bn⟩ := t.out
    clear t
    have hS0 := KA.out _ bn
    have h_a := K_a.out _ hS0
    have h_b := K_b.out _ hS0
    have h_c := K_c.out _ hS0
    have h_ra := KR_a.out _ hS0
    have h_rb := KR_b.out _ hS0
    have h_rc := KR_c.out _ hS0
    have HTab := Lib.hid (KT.out _ hS0)
    have bw := KF.out _ hS0
    clear hS0 bn KA KS KU KT KF K_a K_b K_c KR_a KR_b KR_c d_a0 d_a1 d_b0 d_b1 d_c0 d_c1
    go_wp2
    generalize wc = wS at *
    have KA : RowKit.Hid (∀ wx, Below wS.heap.size wS wx → (wx.cell? ⟨q_a, 0, none⟩ = some (.bool g_a) ∧ wx.cell? ⟨q_a, 1, none⟩ = some (.slice A_a n_a c_a) ∧ wx.cell? ⟨q_b, 0, none⟩ = some (.bool g_b) ∧ wx.cell? ⟨q_b, 1, none⟩ = some (.slice A_b n_b c_b) ∧ wx.cell? ⟨q_c, 0, none⟩ = some (.bool g_c) ∧ wx.cell? ⟨q_c, 1, none⟩ = some (.slice A_c n_c c_c) ∧ wx.cell? ⟨q_s, 0, none⟩ = some (.bool (sg (z_a + z_b))) ∧ wx.cell? ⟨q_s, 1, none⟩ = some (.slice A_s n_s c_s) ∧ wx.cell? ⟨q_p, 0, none⟩ = some (.bool (sg (z_a * z_b))) ∧ wx.cell? ⟨q_p, 1, none⟩ = some (.slice A_p n_p c_p) ∧ Below wS.heap.size wS wx)) := fun wx hb => ⟨(h_ra.below hb).c0, (h_ra.below hb).c1, (h_rb.below hb).c0, (h_rb.below hb).c1, (h_rc.below hb).c0, (h_rc.below hb).c1, (h_rs.below hb).c0, (h_rs.below hb).c1, (h_rp.below hb).c0, (h_rp.below hb).c1, hb⟩
    have KS : RowKit.Hid (∀ wx w2, (wx.cell? ⟨q_a, 0, none⟩ = some (.bool g_a) ∧ wx.cell? ⟨q_a, 1, none⟩ = some (.slice A_a n_a c_a) ∧ wx.cell? ⟨q_b, 0, none⟩ = some (.bool g_b) ∧ wx.cell? ⟨q_b, 1, none⟩ = some (.slice A_b n_b c_b) ∧ wx.cell? ⟨q_c, 0, none⟩ = some (.bool g_c) ∧ wx.cell? ⟨q_c, 1, none⟩ = some (.slice A_c n_c c_c) ∧ wx.cell? ⟨q_s, 0, none⟩ = some (.bool (sg (z_a + z_b))) ∧ wx.cell? ⟨q_s, 1, none⟩ = some (.slice A_s n_s c_s) ∧ wx.cell? ⟨q_p, 0, none⟩ = some (.bool (sg (z_a * z_b))) ∧ wx.cell? ⟨q_p, 1, none⟩ = some (.slice A_p n_p c_p) ∧ Below wS.heap.size wS wx) → Below wx.heap.size wx w2 → (w2.cell? ⟨q_a, 0, none⟩ = some (.bool g_a) ∧ w2.cell? ⟨q_a, 1, none⟩ = some (.slice A_a n_a c_a) ∧ w2.cell? ⟨q_b, 0, none⟩ = some (.bool g_b) ∧ w2.cell? ⟨q_b, 1, none⟩ = some (.slice A_b n_b c_b) ∧ w2.cell? ⟨q_c, 0, none⟩ = some (.bool g_c) ∧ w2.cell? ⟨q_c, 1, none⟩ = some (.slice A_c n_c c_c) ∧ w2.cell? ⟨q_s, 0, none⟩ = some (.bool (sg (z_a + z_b))) ∧ w2.cell? ⟨q_s, 1, none⟩ = some (.slice A_s n_s c_s) ∧ w2.cell? ⟨q_p, 0, none⟩ = some (.bool (sg (z_a * z_b))) ∧ w2.cell? ⟨q_p, 1, none⟩ = some (.slice A_p n_p c_p) ∧ Below wS.heap.size wS w2)) := fun wx w2 hS bn => KA.out _ (below_two hS.2.2.2.2.2.2.2.2.2.2 bn)
    have KU : RowKit.Hid (∀ (wx : World) (q : Nat) (u v : Value), (wx.cell? ⟨q_a, 0, none⟩ = some (.bool g_a) ∧ wx.cell? ⟨q_a, 1, none⟩ = some (.slice A_a n_a c_a) ∧ wx.cell? ⟨q_b, 0, none⟩ = some (.bool g_b) ∧ wx.cell? ⟨q_b, 1, none⟩ = some (.slice A_b n_b c_b) ∧ wx.cell? ⟨q_c, 0, none⟩ = some (.bool g_c) ∧ wx.cell? ⟨q_c, 1, none⟩ = some (.slice A_c n_c c_c) ∧ wx.cell? ⟨q_s, 0, none⟩ = some (.bool (sg (z_a + z_b))) ∧ wx.cell? ⟨q_s, 1, none⟩ = some (.slice A_s n_s c_s) ∧ wx.cell? ⟨q_p, 0, none⟩ = some (.bool (sg (z_a * z_b))) ∧ wx.cell? ⟨q_p, 1, none⟩ = some (.slice A_p n_p c_p) ∧ Below wS.heap.size wS wx) → wS.heap.size ≤ q → (((wx.setCell ⟨q, 0, none⟩ u).setCell ⟨q, 1, none⟩ v).cell? ⟨q_a, 0, none⟩ = some (.bool g_a) ∧ ((wx.setCell ⟨q, 0, none⟩ u).setCell ⟨q, 1, none⟩ v).cell? ⟨q_a, 1, none⟩ = some (.slice A_a n_a c_a) ∧ ((wx.setCell ⟨q, 0, none⟩ u).setCell ⟨q, 1, none⟩ v).cell? ⟨q_b, 0, none⟩ = some (.bool g_b) ∧ ((wx.setCell ⟨q, 0, none⟩ u).setCell ⟨q, 1, none⟩ v).cell? ⟨q_b, 1, none⟩ = some (.slice A_b n_b c_b) ∧ ((wx.setCell ⟨q, 0, none⟩ u).setCell ⟨q, 1, none⟩ v).cell? ⟨q_c, 0, none⟩ = some (.bool g_c) ∧ ((wx.setCell ⟨q, 0, none⟩ u).setCell ⟨q, 1, none⟩ v).cell? ⟨q_c, 1, none⟩ = some (.slice A_c n_c c_c) ∧ ((wx.setCell ⟨q, 0, none⟩ u).setCell ⟨q, 1, none⟩ v).cell? ⟨q_s, 0, none⟩ = some (.bool (sg (z_a + z_b))) ∧ ((wx.setCell ⟨q, 0, none⟩ u).setCell ⟨q, 1, none⟩ v).cell? ⟨q_s, 1, none⟩ = some (.slice A_s n_s c_s) ∧ ((wx.setCell ⟨q, 0, none⟩ u).setCell ⟨q, 1, none⟩ v).cell? ⟨q_p, 0, none⟩ = some (.bool (sg (z_a * z_b))) ∧ ((wx.setCell ⟨q, 0, none⟩ u).setCell ⟨q, 1, none⟩ v).cell? ⟨q_p, 1, none⟩ = some (.slice A_p n_p c_p) ∧ Below wS.heap.size wS ((wx.setCell ⟨q, 0, none⟩ u).setCell ⟨q, 1, none⟩ v))) := fun wx q u v hS hq => KA.out _ ((hS.2.2.2.2.2.2.2.2.2.2.setCell (p := ⟨q, 0, none⟩) hq u).setCell (p := ⟨q, 1, none⟩) hq v)
    have K_a : RowKit.Hid (∀ wx, (wx.cell? ⟨q_a, 0, none⟩ = some (.bool g_a) ∧ wx.cell? ⟨q_a, 1, none⟩ = some (.slice A_a n_a c_a) ∧ wx.cell? ⟨q_b, 0, none⟩ = some (.bool g_b) ∧ wx.cell? ⟨q_b, 1, none⟩ = some (.slice A_b n_b c_b) ∧ wx.cell? ⟨q_c, 0, none⟩ = some (.bool g_c) ∧ wx.cell? ⟨q_c, 1, none⟩ = some (.slice A_c n_c c_c) ∧ wx.cell? ⟨q_s, 0, none⟩ = some (.bool (sg (z_a + z_b))) ∧ wx.cell? ⟨q_s, 1, none⟩ = some (.slice A_s n_s c_s) ∧ wx.cell? ⟨q_p, 0, none⟩ = some (.bool (sg (z_a * z_b))) ∧ wx.cell? ⟨q_p, 1, none⟩ = some (.slice A_p n_p c_p) ∧ Below wS.heap.size wS wx) → ZZ wx g_a A_a n_a c_a xs_a z_a 20) := fun wx hS => h_a.below hS.2.2.2.2.2.2.2.2.2.2
    have K_b : RowKit.Hid (∀ wx, (wx.cell? ⟨q_a, 0, none⟩ = some (.bool g_a) ∧ wx.cell? ⟨q_a, 1, none⟩ = some (.slice A_a n_a c_a) ∧ wx.cell? ⟨q_b, 0, none⟩ = some (.bool g_b) ∧ wx.cell? ⟨q_b, 1, none⟩ = some (.slice A_b n_b c_b) ∧ wx.cell? ⟨q_c, 0, none⟩ = some (.bool g_c) ∧ wx.cell? ⟨q_c, 1, none⟩ = some (.slice A_c n_c c_c) ∧ wx.cell? ⟨q_s, 0, none⟩ = some (.bool (sg (z_a + z_b))) ∧ wx.cell? ⟨q_s, 1, none⟩ = some (.slice A_s n_s c_s) ∧ wx.cell? ⟨q_p, 0, none⟩ = some (.bool (sg (z_a * z_b))) ∧ wx.cell? ⟨q_p, 1, none⟩ = some (.slice A_p n_p c_p) ∧ Below wS.heap.size wS wx) → ZZ wx g_b A_b n_b c_b xs_b z_b 20) := fun wx hS => h_b.below hS.2.2.2.2.2.2.2.2.2.2
    have K_c : RowKit.Hid (∀ wx, (wx.cell? ⟨q_a, 0, none⟩ = some (.bool g_a) ∧ wx.cell? ⟨q_a, 1, none⟩ = some (.slice A_a n_a c_a) ∧ wx.cell? ⟨q_b, 0, none⟩ = some (.bool g_b) ∧ wx.cell? ⟨q_b, 1, none⟩ = some (.slice A_b n_b c_b) ∧ wx.cell? ⟨q_c, 0, none⟩ = some (.bool g_c) ∧ wx.cell? ⟨q_c, 1, none⟩ = some (.slice A_c n_c c_c) ∧ wx.cell? ⟨q_s, 0, none⟩ = some (.bool (sg (z_a + z_b))) ∧ wx.cell? ⟨q_s, 1, none⟩ = some (.slice A_s n_s c_s) ∧ wx.cell? ⟨q_p, 0, none⟩ = some (.bool (sg (z_a * z_b))) ∧ wx.cell? ⟨q_p, 1, none⟩ = some (.slice A_p n_p c_p) ∧ Below wS.heap.size wS wx) → ZZ wx g_c A_c n_c c_c xs_c z_c 20) := fun wx hS => h_c.below hS.2.2.2.2.2.2.2.2.2.2
    have K_s : RowKit.Hid (∀ wx, (wx.cell? ⟨q_a, 0, none⟩ = some (.bool g_a) ∧ wx.cell? ⟨q_a, 1, none⟩ = some (.slice A_a n_a c_a) ∧ wx.cell? ⟨q_b, 0, none⟩ = some (.bool g_b) ∧ wx.cell? ⟨q_b, 1, none⟩ = some (.slice A_b n_b c_b) ∧ wx.cell? ⟨q_c, 0, none⟩ = some (.bool g_c) ∧ wx.cell? ⟨q_c, 1, none⟩ = some (.slice A_c n_c c_c) ∧ wx.cell? ⟨q_s, 0, none⟩ = some (.bool (sg (z_a + z_b))) ∧ wx.cell? ⟨q_s, 1, none⟩ = some (.slice A_s n_s c_s) ∧ wx.cell? ⟨q_p, 0, none⟩ = some (.bool (sg (z_a * z_b))) ∧ wx.cell? ⟨q_p, 1, none⟩ = some (.slice A_p n_p c_p) ∧ Below wS.heap.size wS wx) → ZZ wx (sg (z_a + z_b)) A_s n_s c_s (limbs (z_a + z_b).natAbs) (z_a + z_b) 21) := fun wx hS => h_s.below hS.2.2.2.2.2.2.2.2.2.2
    have K_p : RowKit.Hid (∀ wx, (wx.cell? ⟨q_a, 0, none⟩ = some (.bool g_a) ∧ wx.cell? ⟨q_a, 1, none⟩ = some (.slice A_a n_a c_a) ∧ wx.cell? ⟨q_b, 0, none⟩ = some (.bool g_b) ∧ wx.cell? ⟨q_b, 1, none⟩ = some (.slice A_b n_b c_b) ∧ wx.cell? ⟨q_c, 0, none⟩ = some (.bool g_c) ∧ wx.cell? ⟨q_c, 1, none⟩ = some (.slice A_c n_c c_c) ∧ wx.cell? ⟨q_s, 0, none⟩ = some (.bool (sg (z_a + z_b))) ∧ wx.cell? ⟨q_s, 1, none⟩ = some (.slice A_s n_s c_s) ∧ wx.cell? ⟨q_p, 0, none⟩ = some (.bool (sg (z_a * z_b))) ∧ wx.cell? ⟨q_p, 1, none⟩ = some (.slice A_p n_p c_p) ∧ Below wS.heap.size wS wx) → ZZ wx (sg (z_a * z_b)) A_p n_p c_p (limbs (z_a * z_b).natAbs) (z_a * z_b) 40) := fun wx hS => h_p.below hS.2.2.2.2.2.2.2.2.2.2
    have KR_a : RowKit.Hid (∀ wx, (wx.cell? ⟨q_a, 0, none⟩ = some (.bool g_a) ∧ wx.cell? ⟨q_a, 1, none⟩ = some (.slice A_a n_a c_a) ∧ wx.cell? ⟨q_b, 0, none⟩ = some (.bool g_b) ∧ wx.cell? ⟨q_b, 1, none⟩ = some (.slice A_b n_b c_b) ∧ wx.cell? ⟨q_c, 0, none⟩ = some (.bool g_c) ∧ wx.cell? ⟨q_c, 1, none⟩ = some (.slice A_c n_c c_c) ∧ wx.cell? ⟨q_s, 0, none⟩ = some (.bool (sg (z_a + z_b))) ∧ wx.cell? ⟨q_s, 1, none⟩ = some (.slice A_s n_s c_s) ∧ wx.cell? ⟨q_p, 0, none⟩ = some (.bool (sg (z_a * z_b))) ∧ wx.cell? ⟨q_p, 1, none⟩ = some (.slice A_p n_p c_p) ∧ Below wS.heap.size wS wx) → Row2 wx q_a 25 (.bool g_a) (.slice A_a n_a c_a)) := fun wx hS => h_ra.below hS.2.2.2.2.2.2.2.2.2.2
    have KR_b : RowKit.Hid (∀ wx, (wx.cell? ⟨q_a, 0, none⟩ = some (.bool g_a) ∧ wx.cell? ⟨q_a, 1, none⟩ = some (.slice A_a n_a c_a) ∧ wx.cell? ⟨q_b, 0, none⟩ = some (.bool g_b) ∧ wx.cell? ⟨q_b, 1, none⟩ = some (.slice A_b n_b c_b) ∧ wx.cell? ⟨q_c, 0, none⟩ = some (.bool g_c) ∧ wx.cell? ⟨q_c, 1, none⟩ = some (.slice A_c n_c c_c) ∧ wx.cell? ⟨q_s, 0, none⟩ = some (.bool (sg (z_a + z_b))) ∧ wx.cell? ⟨q_s, 1, none⟩ = some (.slice A_s n_s c_s) ∧ wx.cell? ⟨q_p, 0, none⟩ = some (.bool (sg (z_a * z_b))) ∧ wx.cell? ⟨q_p, 1, none⟩ = some (.slice A_p n_p c_p) ∧ Below wS.heap.size wS wx) → Row2 wx q_b 25 (.bool g_b) (.slice A_b n_b c_b)) := fun wx hS => h_rb.below hS.2.2.2.2.2.2.2.2.2.2
    have KR_c : RowKit.Hid (∀ wx, (wx.cell? ⟨q_a, 0, none⟩ = some (.bool g_a) ∧ wx.cell? ⟨q_a, 1, none⟩ = some (.slice A_a n_a c_a) ∧ wx.cell? ⟨q_b, 0, none⟩ = some (.bool g_b) ∧ wx.cell? ⟨q_b, 1, none⟩ = some (.slice A_b n_b c_b) ∧ wx.cell? ⟨q_c, 0, none⟩ = some (.bool g_c) ∧ wx.cell? ⟨q_c, 1, none⟩ = some (.slice A_c n_c c_c) ∧ wx.cell? ⟨q_s, 0, none⟩ = some (.bool (sg (z_a + z_b))) ∧ wx.cell? ⟨q_s, 1, none⟩ = some (.slice A_s n_s c_s) ∧ wx.cell? ⟨q_p, 0, none⟩ = some (.bool (sg (z_a * z_b))) ∧ wx.cell? ⟨q_p, 1, none⟩ = some (.slice A_p n_p c_p) ∧ Below wS.heap.size wS wx) → Row2 wx q_c 25 (.bool g_c) (.slice A_c n_c c_c)) := fun wx hS => h_rc.below hS.2.2.2.2.2.2.2.2.2.2
    have KR_s : RowKit.Hid (∀ wx, (wx.cell? ⟨q_a, 0, none⟩ = some (.bool g_a) ∧ wx.cell? ⟨q_a, 1, none⟩ = some (.slice A_a n_a c_a) ∧ wx.cell? ⟨q_b, 0, none⟩ = some (.bool g_b) ∧ wx.cell? ⟨q_b, 1, none⟩ = some (.slice A_b n_b c_b) ∧ wx.cell? ⟨q_c, 0, none⟩ = some (.bool g_c) ∧ wx.cell? ⟨q_c, 1, none⟩ = some (.slice A_c n_c c_c) ∧ wx.cell? ⟨q_s, 0, none⟩ = some (.bool (sg (z_a + z_b))) ∧ wx.cell? ⟨q_s, 1, none⟩ = some (.slice A_s n_s c_s) ∧ wx.cell? ⟨q_p, 0, none⟩ = some (.bool (sg (z_a * z_b))) ∧ wx.cell? ⟨q_p, 1, none⟩ = some (.slice A_p n_p c_p) ∧ Below wS.heap.size wS wx) → Row2 wx q_s 25 (.bool (sg (z_a + z_b))) (.slice A_s n_s c_s)) := fun wx hS => h_rs.below hS.2.2.2.2.2.2.2.2.2.2
    have KR_p : RowKit.Hid (∀ wx, (wx.cell? ⟨q_a, 0, none⟩ = some (.bool g_a) ∧ wx.cell? ⟨q_a, 1, none⟩ = some (.slice A_a n_a c_a) ∧ wx.cell? ⟨q_b, 0, none⟩ = some (.bool g_b) ∧ wx.cell? ⟨q_b, 1, none⟩ = some (.slice A_b n_b c_b) ∧ wx.cell? ⟨q_c, 0, none⟩ = some (.bool g_c) ∧ wx.cell? ⟨q_c, 1, none⟩ = some (.slice A_c n_c c_c) ∧ wx.cell? ⟨q_s, 0, none⟩ = some (.bool (sg (z_a + z_b))) ∧ wx.cell? ⟨q_s, 1, none⟩ = some (.slice A_s n_s c_s) ∧ wx.cell? ⟨q_p, 0, none⟩ = some (.bool (sg (z_a * z_b))) ∧ wx.cell? ⟨q_p, 1, none⟩ = some (.slice A_p n_p c_p) ∧ Below wS.heap.size wS wx) → Row2 wx q_p 25 (.bool (sg (z_a * z_b))) (.slice A_p n_p c_p)) := fun wx hS => h_rp.below hS.2.2.2.2.2.2.2.2.2.2
    have KT : RowKit.Hid (∀ wx, (wx.cell? ⟨q_a, 0, none⟩ = some (.bool g_a) ∧ wx.cell? ⟨q_a, 1, none⟩ = some (.slice A_a n_a c_a) ∧ wx.cell? ⟨q_b, 0, none⟩ = some (.bool g_b) ∧ wx.cell? ⟨q_b, 1, none⟩ = some (.slice A_b n_b c_b) ∧ wx.cell? ⟨q_c, 0, none⟩ = some (.bool g_c) ∧ wx.cell? ⟨q_c, 1, none⟩ = some (.slice A_c n_c c_c) ∧ wx.cell? ⟨q_s, 0, none⟩ = some (.bool (sg (z_a + z_b))) ∧ wx.cell? ⟨q_s, 1, none⟩ = some (.slice A_s n_s c_s) ∧ wx.cell? ⟨q_p, 0, none⟩ = some (.bool (sg (z_a * z_b))) ∧ wx.cell? ⟨q_p, 1, none⟩ = some (.slice A_p n_p c_p) ∧ Below wS.heap.size wS wx) → Tab wx) := fun wx hS => HTab.out.below hS.2.2.2.2.2.2.2.2.2.2
    have HF := Lib.hid bw
    have KF : RowKit.Hid (∀ wx, (wx.cell? ⟨q_a, 0, none⟩ = some (.bool g_a) ∧ wx.cell? ⟨q_a, 1, none⟩ = some (.slice A_a n_a c_a) ∧ wx.cell? ⟨q_b, 0, none⟩ = some (.bool g_b) ∧ wx.cell? ⟨q_b, 1, none⟩ = some (.slice A_b n_b c_b) ∧ wx.cell? ⟨q_c, 0, none⟩ = some (.bool g_c) ∧ wx.cell? ⟨q_c, 1, none⟩ = some (.slice A_c n_c c_c) ∧ wx.cell? ⟨q_s, 0, none⟩ = some (.bool (sg (z_a + z_b))) ∧ wx.cell? ⟨q_s, 1, none⟩ = some (.slice A_s n_s c_s) ∧ wx.cell? ⟨q_p, 0, none⟩ = some (.bool (sg (z_a * z_b))) ∧ wx.cell? ⟨q_p, 1, none⟩ = some (.slice A_p n_p c_p) ∧ Below wS.heap.size wS wx) → Below w.heap.size w wx) := fun wx hS => below_two HF.out hS.2.2.2.2.2.2.2.2.2.2
    obtain ⟨d_a0, d_a1, d_b0, d_b1, d_c0, d_c1, d_s0, d_s1, d_p0, d_p1, _⟩ := KA.out _ (Below.refl _ _)
    clear h_a h_b h_c h_ra h_rb h_rc h_s h_rs h_p h_rp HTab bw
    clear HF
    go_cut [70] from 33 to 69 (fun s0 wx => s0 = .bool false ∧ RowKit.Hid (wx.cell? ⟨q_a, 0, none⟩ = some (.bool g_a) ∧ wx.cell? ⟨q_a, 1, none⟩ = some (.slice A_a n_a c_a) ∧ wx.cell? ⟨q_b, 0, none⟩ = some (.bool g_b) ∧ wx.cell? ⟨q_b, 1, none⟩ = some (.slice A_b n_b c_b) ∧ wx.cell? ⟨q_c, 0, none⟩ = some (.bool g_c) ∧ wx.cell? ⟨q_c, 1, none⟩ = some (.slice A_c n_c c_c) ∧ wx.cell? ⟨q_s, 0, none⟩ = some (.bool (sg (z_a + z_b))) ∧ wx.cell? ⟨q_s, 1, none⟩ = some (.slice A_s n_s c_s) ∧ wx.cell? ⟨q_p, 0, none⟩ = some (.bool (sg (z_a * z_b))) ∧ wx.cell? ⟨q_p, 1, none⟩ = some (.slice A_p n_p c_p) ∧ Below wS.heap.size wS wx))
    case first =>
      try dsimp only [List.append]
      go_region_held3 (fun wx => wx.cell? ⟨q_a, 0, none⟩ = some (.bool g_a) ∧ wx.cell? ⟨q_a, 1, none⟩ = some (.slice A_a n_a c_a) ∧ wx.cell? ⟨q_b, 0, none⟩ = some (.bool g_b) ∧ wx.cell? ⟨q_b, 1, none⟩ = some (.slice A_b n_b c_b) ∧ wx.cell? ⟨q_c, 0, none⟩ = some (.bool g_c) ∧ wx.cell? ⟨q_c, 1, none⟩ = some (.slice A_c n_c c_c) ∧ wx.cell? ⟨q_s, 0, none⟩ = some (.bool (sg (z_a + z_b))) ∧ wx.cell? ⟨q_s, 1, none⟩ = some (.slice A_s n_s c_s) ∧ wx.cell? ⟨q_p, 0, none⟩ = some (.bool (sg (z_a * z_b))) ∧ wx.cell? ⟨q_p, 1, none⟩ = some (.slice A_p n_p c_p) ∧ Below wS.heap.size wS wx) (first | assumption | exact KA.out _ ((Below.refl _ _).drew) | (with_reducible refine KS.out _ _ ?_ (below_new _ _); assumption)) (first
        | (go_at_call 10; (have mk := bn_acb; clear mk); (with_reducible refine (keepInt_c ((h_pc.below bn_cb).below bn_acb) h_acb (by decide) (by decide) true (zsame rfl)).mono ?_); rintro e w2 ⟨rfl, bn_k4⟩; have hS2 := KS.out _ _ (by assumption) bn_k4)
        | (go_at_call 9; (have mk := bn_cb; clear mk); (with_reducible refine (wMul_c (K_a.out _ (by assumption)) h_cb 60 (by decide) (by decide) (by decide) (z_a * z_b * z_c) (Int.mul_assoc _ _ _).symm).mono ?_); rintro e w2 ⟨A_acb, n_acb, c_acb, rfl, h_acb, bn_acb⟩; have hS2 := KS.out _ _ (by assumption) bn_acb)
        | (go_at_call 9; (have mk := bn_pc; clear mk); (with_reducible refine (wMul_c (K_b.out _ (by assumption)) (K_c.out _ (by assumption)) 40 (by decide) (by decide) (by decide) (z_b * z_c) rfl).mono ?_); rintro e w2 ⟨A_cb, n_cb, c_cb, rfl, h_cb, bn_cb⟩; have hS2 := KS.out _ _ (by assumption) bn_cb)
        | (go_at_call 9; (have mk := bn_k3; clear mk); (with_reducible refine (wMul_c (K_p.out _ (by assumption)) (K_c.out _ (by assumption)) 60 (by decide) (by decide) (by decide) (z_a * z_b * z_c) rfl).mono ?_); rintro e w2 ⟨A_pc, n_pc, c_pc, rfl, h_pc, bn_pc⟩; have hS2 := KS.out _ _ (by assumption) bn_pc)
        | (go_at_call 10; (have mk := bn_abc; clear mk); (with_reducible refine (keepInt_c ((h_sc.below bn_bc).below bn_abc) h_abc (by decide) (by decide) true (zsame rfl)).mono ?_); rintro e w2 ⟨rfl, bn_k3⟩; have hS2 := KS.out _ _ (by assumption) bn_k3)
        | (go_at_call 8; (have mk := bn_bc; clear mk); (with_reducible refine (wAdd_c (K_a.out _ (by assumption)) h_bc 22 (by decide) (by decide) (by decide) (z_a + z_b + z_c) (Int.add_assoc _ _ _).symm).mono ?_); rintro e w2 ⟨A_abc, n_abc, c_abc, rfl, h_abc, bn_abc⟩; have hS2 := KS.out _ _ (by assumption) bn_abc)
        | (go_at_call 8; (have mk := bn_sc; clear mk); (with_reducible refine (wAdd_c (K_b.out _ (by assumption)) (K_c.out _ (by assumption)) 21 (by decide) (by decide) (by decide) (z_b + z_c) rfl).mono ?_); rintro e w2 ⟨A_bc, n_bc, c_bc, rfl, h_bc, bn_bc⟩; have hS2 := KS.out _ _ (by assumption) bn_bc)
        | (go_at_call 8; (have mk := bn_k2; clear mk); (with_reducible refine (wAdd_c (K_s.out _ (by assumption)) (K_c.out _ (by assumption)) 22 (by decide) (by decide) (by decide) (z_a + z_b + z_c) rfl).mono ?_); rintro e w2 ⟨A_sc, n_sc, c_sc, rfl, h_sc, bn_sc⟩; have hS2 := KS.out _ _ (by assumption) bn_sc)
        | (go_at_call 10; (have mk := bn_bb; clear mk); (with_reducible refine (keepInt_c (K_p.out _ (by assumption)) h_bb (by decide) (by decide) true (zsame rfl)).mono ?_); rintro e w2 ⟨rfl, bn_k2⟩; have hS2 := KS.out _ _ (by assumption) bn_k2)
        | (go_at_call 9; (have mk := bn_k1; clear mk); (with_reducible refine (wMul_c (K_b.out _ (by assumption)) (K_a.out _ (by assumption)) 40 (by decide) (by decide) (by decide) (z_a * z_b) (Int.mul_comm _ _)).mono ?_); rintro e w2 ⟨A_bb, n_bb, c_bb, rfl, h_bb, bn_bb⟩; have hS2 := KS.out _ _ (by assumption) bn_bb)
        | (go_at_call 10; (have mk := bn_ba; clear mk); (with_reducible refine (keepInt_c (K_s.out _ (by assumption)) h_ba (by decide) (by decide) true (zsame rfl)).mono ?_); rintro e w2 ⟨rfl, bn_k1⟩; have hS2 := KS.out _ _ (by assumption) bn_k1)
        | (go_at_call 8; (with_reducible refine (wAdd_c (K_b.out _ (by assumption)) (K_a.out _ (by assumption)) 21 (by decide) (by decide) (by decide) (z_a + z_b) (Int.add_comm _ _)).mono ?_); rintro e w2 ⟨A_ba, n_ba, c_ba, rfl, h_ba, bn_ba⟩; have hS2 := KS.out _ _ (by assumption) bn_ba))
      all_goals (go_wp2; go_meet)
      all_goals (case rel => exact ⟨rfl, Lib.hid (by assumption)⟩)
    case rest =>
      obtain ⟨rfl, t⟩ := hcut
      have hS0 := t.out
      clear t
      have h_a := K_a.out _ hS0
      have h_b := K_b.out _ hS0
      have h_c := K_c.out _ hS0
      have h_s := K_s.out _ hS0
      have h_p := K_p.out _ hS0
      have h_ra := KR_a.out _ hS0
      have h_rb := KR_b.out _ hS0
      have h_rc := KR_c.out _ hS0
      have h_rs := KR_s.out _ hS0
      have h_rp := KR_p.out _ hS0
      have HTab := Lib.hid (KT.out _ hS0)
      have bw := KF.out _ hS0
      clear hS0 KA KS KU KT KF K_a K_b K_c K_s K_p KR_a KR_b KR_c KR_s KR_p d_a0 d_a1 d_b0 d_b1 d_c0 d_c1 d_s0 d_s1 d_p0 d_p1
      go_wp2
      generalize wc = wS at *
      have KA : RowKit.Hid (∀ wx, Below wS.heap.size wS wx → (wx.cell? ⟨q_a, 0, none⟩ = some (.bool g_a) ∧ wx.cell? ⟨q_a, 1, none⟩ = some (.slice A_a n_a c_a) ∧ wx.cell? ⟨q_b, 0, none⟩ = some (.bool g_b) ∧ wx.cell? ⟨q_b, 1, none⟩ = some (.slice A_b n_b c_b) ∧ wx.cell? ⟨q_c, 0, none⟩ = some (.bool g_c) ∧ wx.cell? ⟨q_c, 1, none⟩ = some (.slice A_c n_c c_c) ∧ wx.cell? ⟨q_s, 0, none⟩ = some (.bool (sg (z_a + z_b))) ∧ wx.cell? ⟨q_s, 1, none⟩ = some (.slice A_s n_s c_s) ∧ wx.cell? ⟨q_p, 0, none⟩ = some (.bool (sg (z_a * z_b))) ∧ wx.cell? ⟨q_p, 1, none⟩ = some (.slice A_p n_p c_p) ∧ Below wS.heap.size wS wx)) := fun wx hb => ⟨(h_ra.below hb).c0, (h_ra.below hb).c1, (h_rb.below hb).c0, (h_rb.below hb).c1, (h_rc.below hb).c0, (h_rc.below hb).c1, (h_rs.below hb).c0, (h_rs.below hb).c1, (h_rp.below hb).c0, (h_rp.below hb).c1, hb⟩
      have KS : RowKit.Hid (∀ wx w2, (wx.cell? ⟨q_a, 0, none⟩ = some (.bool g_a) ∧ wx.cell? ⟨q_a, 1, none⟩ = some (.slice A_a n_a c_a) ∧ wx.cell? ⟨q_b, 0, none⟩ = some (.bool g_b) ∧ wx.cell? ⟨q_b, 1, none⟩ = some (.slice A_b n_b c_b) ∧ wx.cell? ⟨q_c, 0, none⟩ = some (.bool g_c) ∧ wx.cell? ⟨q_c, 1, none⟩ = some (.slice A_c n_c c_c) ∧ wx.cell? ⟨q_s, 0, none⟩ = some (.bool (sg (z_a + z_b))) ∧ wx.cell? ⟨q_s, 1, none⟩ = some (.slice A_s n_s c_s) ∧ wx.cell? ⟨q_p, 0, none⟩ = some (.bool (sg (z_a * z_b))) ∧ wx.cell? ⟨q_p, 1, none⟩ = some (.slice A_p n_p c_p) ∧ Below wS.heap.size wS wx) → Below wx.heap.size wx w2 → (w2.cell? ⟨q_a, 0, none⟩ = some (.bool g_a) ∧ w2.cell? ⟨q_a, 1, none⟩ = some (.slice A_a n_a c_a) ∧ w2.cell? ⟨q_b, 0, none⟩ = some (.bool g_b) ∧ w2.cell? ⟨q_b, 1, none⟩ = some (.slice A_b n_b c_b) ∧ w2.cell? ⟨q_c, 0, none⟩ = some (.bool g_c) ∧ w2.cell? ⟨q_c, 1, none⟩ = some (.slice A_c n_c c_c) ∧ w2.cell? ⟨q_s, 0, none⟩ = some (.bool (sg (z_a + z_b))) ∧ w2.cell? ⟨q_s, 1, none⟩ = some (.slice A_s n_s c_s) ∧ w2.cell? ⟨q_p, 0, none⟩ = some (.bool (sg (z_a * z_b))) ∧ w2.cell? ⟨q_p, 1, none⟩ = some (.slice A_p n_p c_p) ∧ Below wS.heap.size wS w2)) := fun wx w2 hS bn => KA.out _ (below_two hS.2.2.2.2.2.2.2.2.2.2 bn)
      have KU : RowKit.Hid (∀ (wx : World) (q : Nat) (u v : Value), (wx.cell? ⟨q_a, 0, none⟩ = some (.bool g_a) ∧ wx.cell? ⟨q_a, 1, none⟩ = some (.slice A_a n_a c_a) ∧ wx.cell? ⟨q_b, 0, none⟩ = some (.bool g_b) ∧ wx.cell? ⟨q_b, 1, none⟩ = some (.slice A_b n_b c_b) ∧ wx.cell? ⟨q_c, 0, none⟩ = some (.bool g_c) ∧ wx.cell? ⟨q_c, 1, none⟩ = some (.slice A_c n_c c_c) ∧ wx.cell? ⟨q_s, 0, none⟩ = some (.bool (sg (z_a + z_b))) ∧ wx.cell? ⟨q_s, 1, none⟩ = some (.slice A_s n_s c_s) ∧ wx.cell? ⟨q_p, 0, none⟩ = some (.bool (sg (z_a * z_b))) ∧ wx.cell? ⟨q_p, 1, none⟩ = some (.slice A_p n_p c_p) ∧ Below wS.heap.size wS wx) → wS.heap.size ≤ q → (((wx.setCell ⟨q, 0, none⟩ u).setCell ⟨q, 1, none⟩ v).cell? ⟨q_a, 0, none⟩ = some (.bool g_a) ∧ ((wx.setCell ⟨q, 0, none⟩ u).setCell ⟨q, 1, none⟩ v).cell? ⟨q_a, 1, none⟩ = some (.slice A_a n_a c_a) ∧ ((wx.setCell ⟨q, 0, none⟩ u).setCell ⟨q, 1, none⟩ v).cell? ⟨q_b, 0, none⟩ = some (.bool g_b) ∧ ((wx.setCell ⟨q, 0, none⟩ u).setCell ⟨q, 1, none⟩ v).cell? ⟨q_b, 1, none⟩ = some (.slice A_b n_b c_b) ∧ ((wx.setCell ⟨q, 0, none⟩ u).setCell ⟨q, 1, none⟩ v).cell? ⟨q_c, 0, none⟩ = some (.bool g_c) ∧ ((wx.setCell ⟨q, 0, none⟩ u).setCell ⟨q, 1, none⟩ v).cell? ⟨q_c, 1, none⟩ = some (.slice A_c n_c c_c) ∧ ((wx.setCell ⟨q, 0, none⟩ u).setCell ⟨q, 1, none⟩ v).cell? ⟨q_s, 0, none⟩ = some (.bool (sg (z_a + z_b))) ∧ ((wx.setCell ⟨q, 0, none⟩ u).setCell ⟨q, 1, none⟩ v).cell? ⟨q_s, 1, none⟩ = some (.slice A_s n_s c_s) ∧ ((wx.setCell ⟨q, 0, none⟩ u).setCell ⟨q, 1, none⟩ v).cell? ⟨q_p, 0, none⟩ = some (.bool (sg (z_a * z_b))) ∧ ((wx.setCell ⟨q, 0, none⟩ u).setCell ⟨q, 1, none⟩ v).cell? ⟨q_p, 1, none⟩ = some (.slice A_p n_p c_p) ∧ Below wS.heap.size wS ((wx.setCell ⟨q, 0, none⟩ u).setCell ⟨q, 1, none⟩ v))) := fun wx q u v hS hq => KA.out _ ((hS.2.2.2.2.2.2.2.2.2.2.setCell (p := ⟨q, 0, none⟩) hq u).setCell (p := ⟨q, 1, none⟩) hq v)
      have K_a : RowKit.Hid (∀ wx, (wx.cell? ⟨q_a, 0, none⟩ = some (.bool g_a) ∧ wx.cell? ⟨q_a, 1, none⟩ = some (.slice A_a n_a c_a) ∧ wx.cell? ⟨q_b, 0, none⟩ = some (.bool g_b) ∧ wx.cell? ⟨q_b, 1, none⟩ = some (.slice A_b n_b c_b) ∧ wx.cell? ⟨q_c, 0, none⟩ = some (.bool g_c) ∧ wx.cell? ⟨q_c, 1, none⟩ = some (.slice A_c n_c c_c) ∧ wx.cell? ⟨q_s, 0, none⟩ = some (.bool (sg (z_a + z_b))) ∧ wx.cell? ⟨q_s, 1, none⟩ = some (.slice A_s n_s c_s) ∧ wx.cell? ⟨q_p, 0, none⟩ = some (.bool (sg (z_a * z_b))) ∧ wx.cell? ⟨q_p, 1, none⟩ = some (.slice A_p n_p c_p) ∧ Below wS.heap.size wS wx) → ZZ wx g_a A_a n_a c_a xs_a z_a 20) := fun wx hS => h_a.below hS.2.2.2.2.2.2.2.2.2.2
      have K_b : RowKit.Hid (∀ wx, (wx.cell? ⟨q_a, 0, none⟩ = some (.bool g_a) ∧ wx.cell? ⟨q_a, 1, none⟩ = some (.slice A_a n_a c_a) ∧ wx.cell? ⟨q_b, 0, none⟩ = some (.bool g_b) ∧ wx.cell? ⟨q_b, 1, none⟩ = some (.slice A_b n_b c_b) ∧ wx.cell? ⟨q_c, 0, none⟩ = some (.bool g_c) ∧ wx.cell? ⟨q_c, 1, none⟩ = some (.slice A_c n_c c_c) ∧ wx.cell? ⟨q_s, 0, none⟩ = some (.bool (sg (z_a + z_b))) ∧ wx.cell? ⟨q_s, 1, none⟩ = some (.slice A_s n_s c_s) ∧ wx.cell? ⟨q_p, 0, none⟩ = some (.bool (sg (z_a * z_b))) ∧ wx.cell? ⟨q_p, 1, none⟩ = some (.slice A_p n_p c_p) ∧ Below wS.heap.size wS wx) → ZZ wx g_b A_b n_b c_b xs_b z_b 20) := fun wx hS => h_b.below hS.2.2.2.2.2.2.2.2.2.2
      have K_c : RowKit.Hid (∀ wx, (wx.cell? ⟨q_a, 0, none⟩ = some (.bool g_a) ∧ wx.cell? ⟨q_a, 1, none⟩ = some (.slice A_a n_a c_a) ∧ wx.cell? ⟨q_b, 0, none⟩ = some (.bool g_b) ∧ wx.cell? ⟨q_b, 1, none⟩ = some (.slice A_b n_b c_b) ∧ wx.cell? ⟨q_c, 0, none⟩ = some (.bool g_c) ∧ wx.cell? ⟨q_c, 1, none⟩ = some (.slice A_c n_c c_c) ∧ wx.cell? ⟨q_s, 0, none⟩ = some (.bool (sg (z_a + z_b))) ∧ wx.cell? ⟨q_s, 1, none⟩ = some (.slice A_s n_s c_s) ∧ wx.cell? ⟨q_p, 0, none⟩ = some (.bool (sg (z_a * z_b))) ∧ wx.cell? ⟨q_p, 1, none⟩ = some (.slice A_p n_p c_p) ∧ Below wS.heap.size wS wx) → ZZ wx g_c A_c n_c c_c xs_c z_c 20) := fun wx hS => h_c.below hS.2.2.2.2.2.2.2.2.2.2
      have K_s : RowKit.Hid (∀ wx, (wx.cell? ⟨q_a, 0, none⟩ = some (.bool g_a) ∧ wx.cell? ⟨q_a, 1, none⟩ = some (.slice A_a n_a c_a) ∧ wx.cell? ⟨q_b, 0, none⟩ = some (.bool g_b) ∧ wx.cell? ⟨q_b, 1, none⟩ = some (.slice A_b n_b c_b) ∧ wx.cell? ⟨q_c, 0, none⟩ = some (.bool g_c) ∧ wx.cell? ⟨q_c, 1, none⟩ = some (.slice A_c n_c c_c) ∧ wx.cell? ⟨q_s, 0, none⟩ = some (.bool (sg (z_a + z_b))) ∧ wx.cell? ⟨q_s, 1, none⟩ = some (.slice A_s n_s c_s) ∧ wx.cell? ⟨q_p, 0, none⟩ = some (.bool (sg (z_a * z_b))) ∧ wx.cell? ⟨q_p, 1, none⟩ = some (.slice A_p n_p c_p) ∧ Below wS.heap.size wS wx) → ZZ wx (sg (z_a + z_b)) A_s n_s c_s (limbs (z_a + z_b).natAbs) (z_a + z_b) 21) := fun wx hS => h_s.below hS.2.2.2.2.2.2.2.2.2.2
      have K_p : RowKit.Hid (∀ wx, (wx.cell? ⟨q_a, 0, none⟩ = some (.bool g_a) ∧ wx.cell? ⟨q_a, 1, none⟩ = some (.slice A_a n_a c_a) ∧ wx.cell? ⟨q_b, 0, none⟩ = some (.bool g_b) ∧ wx.cell? ⟨q_b, 1, none⟩ = some (.slice A_b n_b c_b) ∧ wx.cell? ⟨q_c, 0, none⟩ = some (.bool g_c) ∧ wx.cell? ⟨q_c, 1, none⟩ = some (.slice A_c n_c c_c) ∧ wx.cell? ⟨q_s, 0, none⟩ = some (.bool (sg (z_a + z_b))) ∧ wx.cell? ⟨q_s, 1, none⟩ = some (.slice A_s n_s c_s) ∧ wx.cell? ⟨q_p, 0, none⟩ = some (.bool (sg (z_a * z_b))) ∧ wx.cell? ⟨q_p, 1, none⟩ = some (.slice A_p n_p c_p) ∧ Below wS.heap.size wS wx) → ZZ wx (sg (z_a * z_b)) A_p n_p c_p (limbs (z_a * z_b).natAbs) (z_a * z_b) 40) := fun wx hS => h_p.below hS.2.2.2.2.2.2.2.2.2.2
      have KR_a : RowKit.Hid (∀ wx, (wx.cell? ⟨q_a, 0, none⟩ = some (.bool g_a) ∧ wx.cell? ⟨q_a, 1, none⟩ = some (.slice A_a n_a c_a) ∧ wx.cell? ⟨q_b, 0, none⟩ = some (.bool g_b) ∧ wx.cell? ⟨q_b, 1, none⟩ = some (.slice A_b n_b c_b) ∧ wx.cell? ⟨q_c, 0, none⟩ = some (.bool g_c) ∧ wx.cell? ⟨q_c, 1, none⟩ = some (.slice A_c n_c c_c) ∧ wx.cell? ⟨q_s, 0, none⟩ = some (.bool (sg (z_a + z_b))) ∧ wx.cell? ⟨q_s, 1, none⟩ = some (.slice A_s n_s c_s) ∧ wx.cell? ⟨q_p, 0, none⟩ = some (.bool (sg (z_a * z_b))) ∧ wx.cell? ⟨q_p, 1, none⟩ = some (.slice A_p n_p c_p) ∧ Below wS.heap.size wS wx) → Row2 wx q_a 25 (.bool g_a) (.slice A_a n_a c_a)) := fun wx hS => h_ra.below hS.2.2.2.2.2.2.2.2.2.2
      have KR_b : RowKit.Hid (∀ wx, (wx.cell? ⟨q_a, 0, none⟩ = some (.bool g_a) ∧ wx.cell? ⟨q_a, 1, none⟩ = some (.slice A_a n_a c_a) ∧ wx.cell? ⟨q_b, 0, none⟩ = some (.bool g_b) ∧ wx.cell? ⟨q_b, 1, none⟩ = some (.slice A_b n_b c_b) ∧ wx.cell? ⟨q_c, 0, none⟩ = some (.bool g_c) ∧ wx.cell? ⟨q_c, 1, none⟩ = some (.slice A_c n_c c_c) ∧ wx.cell? ⟨q_s, 0, none⟩ = some (.bool (sg (z_a + z_b))) ∧ wx.cell? ⟨q_s, 1, none⟩ = some (.slice A_s n_s c_s) ∧ wx.cell? ⟨q_p, 0, none⟩ = some (.bool (sg (z_a * z_b))) ∧ wx.cell? ⟨q_p, 1, none⟩ = some (.slice A_p n_p c_p) ∧ Below wS.heap.size wS wx) → Row2 wx q_b 25 (.bool g_b) (.slice A_b n_b c_b)) := fun wx hS => h_rb.below hS.2.2.2.2.2.2.2.2.2.2
      have KR_c : RowKit.Hid (∀ wx, (wx.cell? ⟨q_a, 0, none⟩ = some (.bool g_a) ∧ wx.cell? ⟨q_a, 1, none⟩ = some (.slice A_a n_a c_a) ∧ wx.cell? ⟨q_b, 0, none⟩ = some (.bool g_b) ∧ wx.cell? ⟨q_b, 1, none⟩ = some (.slice A_b n_b c_b) ∧ wx.cell? ⟨q_c, 0, none⟩ = some (.bool g_c) ∧ wx.cell? ⟨q_c, 1, none⟩ = some (.slice A_c n_c c_c) ∧ wx.cell? ⟨q_s, 0, none⟩ = some (.bool (sg (z_a + z_b))) ∧ wx.cell? ⟨q_s, 1, none⟩ = some (.slice A_s n_s c_s) ∧ wx.cell? ⟨q_p, 0, none⟩ = some (.bool (sg (z_a * z_b))) ∧ wx.cell? ⟨q_p, 1, none⟩ = some (.slice A_p n_p c_p) ∧ Below wS.heap.size wS wx) → Row2 wx q_c 25 (.bool g_c) (.slice A_c n_c c_c)) := fun wx hS => h_rc.below hS.2.2.2.2.2.2.2.2.2.2
      have KR_s : RowKit.Hid (∀ wx, (wx.cell? ⟨q_a, 0, none⟩ = some (.bool g_a) ∧ wx.cell? ⟨q_a, 1, none⟩ = some (.slice A_a n_a c_a) ∧ wx.cell? ⟨q_b, 0, none⟩ = some (.bool g_b) ∧ wx.cell? ⟨q_b, 1, none⟩ = some (.slice A_b n_b c_b) ∧ wx.cell? ⟨q_c, 0, none⟩ = some (.bool g_c) ∧ wx.cell? ⟨q_c, 1, none⟩ = some (.slice A_c n_c c_c) ∧ wx.cell? ⟨q_s, 0, none⟩ = some (.bool (sg (z_a + z_b))) ∧ wx.cell? ⟨q_s, 1, none⟩ = some (.slice A_s n_s c_s) ∧ wx.cell? ⟨q_p, 0, none⟩ = some (.bool (sg (z_a * z_b))) ∧ wx.cell? ⟨q_p, 1, none⟩ = some (.slice A_p n_p c_p) ∧ Below wS.heap.size wS wx) → Row2 wx q_s 25 (.bool (sg (z_a + z_b))) (.slice A_s n_s c_s)) := fun wx hS => h_rs.below hS.2.2.2.2.2.2.2.2.2.2
      have KR_p : RowKit.Hid (∀ wx, (wx.cell? ⟨q_a, 0, none⟩ = some (.bool g_a) ∧ wx.cell? ⟨q_a, 1, none⟩ = some (.slice A_a n_a c_a) ∧ wx.cell? ⟨q_b, 0, none⟩ = some (.bool g_b) ∧ wx.cell? ⟨q_b, 1, none⟩ = some (.slice A_b n_b c_b) ∧ wx.cell? ⟨q_c, 0, none⟩ = some (.bool g_c) ∧ wx.cell? ⟨q_c, 1, none⟩ = some (.slice A_c n_c c_c) ∧ wx.cell? ⟨q_s, 0, none⟩ = some (.bool (sg (z_a + z_b))) ∧ wx.cell? ⟨q_s, 1, none⟩ = some (.slice A_s n_s c_s) ∧ wx.cell? ⟨q_p, 0, none⟩ = some (.bool (sg (z_a * z_b))) ∧ wx.cell? ⟨q_p, 1, none⟩ = some (.slice A_p n_p c_p) ∧ Below wS.heap.size wS wx) → Row2 wx q_p 25 (.bool (sg (z_a * z_b))) (.slice A_p n_p c_p)) := fun wx hS => h_rp.below hS.2.2.2.2.2.2.2.2.2.2
      have KT : RowKit.Hid (∀ wx, (wx.cell? ⟨q_a, 0, none⟩ = some (.bool g_a) ∧ wx.cell? ⟨q_a, 1, none⟩ = some (.slice A_a n_a c_a) ∧ wx.cell? ⟨q_b, 0, none⟩ = some (.bool g_b) ∧ wx.cell? ⟨q_b, 1, none⟩ = some (.slice A_b n_b c_b) ∧ wx.cell? ⟨q_c, 0, none⟩ = some (.bool g_c) ∧ wx.cell? ⟨q_c, 1, none⟩ = some (.slice A_c n_c c_c) ∧ wx.cell? ⟨q_s, 0, none⟩ = some (.bool (sg (z_a + z_b))) ∧ wx.cell? ⟨q_s, 1, none⟩ = some (.slice A_s n_s c_s) ∧ wx.cell? ⟨q_p, 0, none⟩ = some (.bool (sg (z_a * z_b))) ∧ wx.cell? ⟨q_p, 1, none⟩ = some (.slice A_p n_p c_p) ∧ Below wS.heap.size wS wx) → Tab wx) := fun wx hS => HTab.out.below hS.2.2.2.2.2.2.2.2.2.2
      have HF := Lib.hid bw
      have KF : RowKit.Hid (∀ wx, (wx.cell? ⟨q_a, 0, none⟩ = some (.bool g_a) ∧ wx.cell? ⟨q_a, 1, none⟩ = some (.slice A_a n_a c_a) ∧ wx.cell? ⟨q_b, 0, none⟩ = some (.bool g_b) ∧ wx.cell? ⟨q_b, 1, none⟩ = some (.slice A_b n_b c_b) ∧ wx.cell? ⟨q_c, 0, none⟩ = some (.bool g_c) ∧ wx.cell? ⟨q_c, 1, none⟩ = some (.slice A_c n_c c_c) ∧ wx.cell? ⟨q_s, 0, none⟩ = some (.bool (sg (z_a + z_b))) ∧ wx.cell? ⟨q_s, 1, none⟩ = some (.slice A_s n_s c_s) ∧ wx.cell? ⟨q_p, 0, none⟩ = some (.bool (sg (z_a * z_b))) ∧ wx.cell? ⟨q_p, 1, none⟩ = some (.slice A_p n_p c_p) ∧ Below wS.heap.size wS wx) → Below w.heap.size w wx) := fun wx hS => below_two HF.out hS.2.2.2.2.2.2.2.2.2.2
      obtain ⟨d_a0, d_a1, d_b0, d_b1, d_c0, d_c1, d_s0, d_s1, d_p0, d_p1, _⟩ := KA.out _ (Below.refl _ _)
      clear h_a h_b h_c h_s h_p h_ra h_rb h_rc h_rs h_rp HTab bw
      clear HF
      go_cut [84] from 71 to 83 (fun s0 wx => s0 = .bool false ∧ RowKit.Hid (wx.cell? ⟨q_a, 0, none⟩ = some (.bool g_a) ∧ wx.cell? ⟨q_a, 1, none⟩ = some (.slice A_a n_a c_a) ∧ wx.cell? ⟨q_b, 0, none⟩ = some (.bool g_b) ∧ wx.cell? ⟨q_b, 1, none⟩ = some (.slice A_b n_b c_b) ∧ wx.cell? ⟨q_c, 0, none⟩ = some (.bool g_c) ∧ wx.cell? ⟨q_c, 1, none⟩ = some (.slice A_c n_c c_c) ∧ wx.cell? ⟨q_s, 0, none⟩ = some (.bool (sg (z_a + z_b))) ∧ wx.cell? ⟨q_s, 1, none⟩ = some (.slice A_s n_s c_s) ∧ wx.cell? ⟨q_p, 0, none⟩ = some (.bool (sg (z_a * z_b))) ∧ wx.cell? ⟨q_p, 1, none⟩ = some (.slice A_p n_p c_p) ∧ Below wS.heap.size wS wx))
      case first =>
        try dsimp only [List.append]
        go_region_held3 (fun wx => wx.cell? ⟨q_a, 0, none⟩ = some (.bool g_a) ∧ wx.cell? ⟨q_a, 1, none⟩ = some (.slice A_a n_a c_a) ∧ wx.cell? ⟨q_b, 0, none⟩ = some (.bool g_b) ∧ wx.cell? ⟨q_b, 1, none⟩ = some (.slice A_b n_b c_b) ∧ wx.cell? ⟨q_c, 0, none⟩ = some (.bool g_c) ∧ wx.cell? ⟨q_c, 1, none⟩ = some (.slice A_c n_c c_c) ∧ wx.cell? ⟨q_s, 0, none⟩ = some (.bool (sg (z_a + z_b))) ∧ wx.cell? ⟨q_s, 1, none⟩ = some (.slice A_s n_s c_s) ∧ wx.cell? ⟨q_p, 0, none⟩ = some (.bool (sg (z_a * z_b))) ∧ wx.cell? ⟨q_p, 1, none⟩ = some (.slice A_p n_p c_p) ∧ Below wS.heap.size wS wx) (first | assumption | exact KA.out _ ((Below.refl _ _).drew) | (with_reducible refine KS.out _ _ ?_ (below_new _ _); assumption)) (first
          | (go_at_call 10; (have mk := bn_e; clear mk); (with_reducible refine (keepInt_c (((h_d.below bn_ac).below bn_bc).below bn_e) h_e (by decide) (by decide) true (zsame rfl)).mono ?_); rintro e w2 ⟨rfl, bn_k5⟩; have hS2 := KS.out _ _ (by assumption) bn_k5)
          | (go_at_call 8; (have mk := bn_bc; clear mk); (with_reducible refine (wAdd_c (h_ac.below bn_bc) h_bc 41 (by decide) (by decide) (by decide) ((z_a + z_b) * z_c) (Int.add_mul _ _ _).symm).mono ?_); rintro e w2 ⟨A_e, n_e, c_e, rfl, h_e, bn_e⟩; have hS2 := KS.out _ _ (by assumption) bn_e)
          | (go_at_call 9; (have mk := bn_ac; clear mk); (with_reducible refine (wMul_c (K_b.out _ (by assumption)) (K_c.out _ (by assumption)) 40 (by decide) (by decide) (by decide) (z_b * z_c) rfl).mono ?_); rintro e w2 ⟨A_bc, n_bc, c_bc, rfl, h_bc, bn_bc⟩; have hS2 := KS.out _ _ (by assumption) bn_bc)
          | (go_at_call 9; (have mk := bn_d; clear mk); (with_reducible refine (wMul_c (K_a.out _ (by assumption)) (K_c.out _ (by assumption)) 40 (by decide) (by decide) (by decide) (z_a * z_c) rfl).mono ?_); rintro e w2 ⟨A_ac, n_ac, c_ac, rfl, h_ac, bn_ac⟩; have hS2 := KS.out _ _ (by assumption) bn_ac)
          | (go_at_call 9; (have mk := bn_ab; clear mk); (with_reducible refine (wMul_c h_ab (K_c.out _ (by assumption)) 41 (by decide) (by decide) (by decide) ((z_a + z_b) * z_c) rfl).mono ?_); rintro e w2 ⟨A_d, n_d, c_d, rfl, h_d, bn_d⟩; have hS2 := KS.out _ _ (by assumption) bn_d)
          | (go_at_call 8; (with_reducible refine (wAdd_c (K_a.out _ (by assumption)) (K_b.out _ (by assumption)) 21 (by decide) (by decide) (by decide) (z_a + z_b) rfl).mono ?_); rintro e w2 ⟨A_ab, n_ab, c_ab, rfl, h_ab, bn_ab⟩; have hS2 := KS.out _ _ (by assumption) bn_ab))
        all_goals (go_wp2; go_meet)
        all_goals (case rel => exact ⟨rfl, Lib.hid (by assumption)⟩)
      case rest =>
        obtain ⟨rfl, t⟩ := hcut
        have hS0 := t.out
        clear t
        have h_a := K_a.out _ hS0
        have h_b := K_b.out _ hS0
        have h_c := K_c.out _ hS0
        have h_s := K_s.out _ hS0
        have h_p := K_p.out _ hS0
        have h_ra := KR_a.out _ hS0
        have h_rb := KR_b.out _ hS0
        have h_rc := KR_c.out _ hS0
        have h_rs := KR_s.out _ hS0
        have h_rp := KR_p.out _ hS0
        have HTab := Lib.hid (KT.out _ hS0)
        have bw := KF.out _ hS0
        clear hS0 KA KS KU KT KF K_a K_b K_c K_s K_p KR_a KR_b KR_c KR_s KR_p d_a0 d_a1 d_b0 d_b1 d_c0 d_c1 d_s0 d_s1 d_p0 d_p1
        go_wp2_with fail
        refine (wOf_c 0 (by decide) (by decide) _).mono ?_
        rintro e w1 ⟨A_z, n_z, c_z, rfl, h_z, bn⟩
        replace h_a := h_a.below bn
        replace h_b := h_b.below bn
        replace h_c := h_c.below bn
        replace h_s := h_s.below bn
        replace h_p := h_p.below bn
        replace h_ra := h_ra.below bn
        replace h_rb := h_rb.below bn
        replace h_rc := h_rc.below bn
        replace h_rs := h_rs.below bn
        replace h_rp := h_rp.below bn
        replace HTab := Lib.hid (HTab.out.below bn)
        replace bw := below_two bw bn
        clear bn
        go_wp2_with fail
        have h_rz := row2_new w1 25 (.bool (sg 0)) (.slice A_z n_z c_z)
        have bn := below_new w1 (.cells #[Value.bool (sg 0), Value.slice A_z n_z c_z] 25)
        replace h_a := h_a.below bn
        replace h_b := h_b.below bn
        replace h_c := h_c.below bn
        replace h_s := h_s.below bn
        replace h_p := h_p.below bn
        replace h_ra := h_ra.below bn
        replace h_rb := h_rb.below bn
        replace h_rc := h_rc.below bn
        replace h_rs := h_rs.below bn
        replace h_rp := h_rp.below bn
        replace h_z := h_z.below bn
        replace HTab := Lib.hid (HTab.out.below bn)
        replace bw := below_two bw bn
        clear bn
        generalize w1.alloc (.cells #[Value.bool (sg 0), Value.slice A_z n_z c_z] 25) = w2 at *
        obtain ⟨q_z, eg⟩ : ∃ g, g = w1.heap.size := ⟨_, rfl⟩
        rw [← eg] at h_rz ⊢
        clear eg
        generalize w2 = wS at *
        have KA : RowKit.Hid (∀ wx, Below wS.heap.size wS wx → (wx.cell? ⟨q_a, 0, none⟩ = some (.bool g_a) ∧ wx.cell? ⟨q_a, 1, none⟩ = some (.slice A_a n_a c_a) ∧ wx.cell? ⟨q_b, 0, none⟩ = some (.bool g_b) ∧ wx.cell? ⟨q_b, 1, none⟩ = some (.slice A_b n_b c_b) ∧ wx.cell? ⟨q_c, 0, none⟩ = some (.bool g_c) ∧ wx.cell? ⟨q_c, 1, none⟩ = some (.slice A_c n_c c_c) ∧ wx.cell? ⟨q_s, 0, none⟩ = some (.bool (sg (z_a + z_b))) ∧ wx.cell? ⟨q_s, 1, none⟩ = some (.slice A_s n_s c_s) ∧ wx.cell? ⟨q_p, 0, none⟩ = some (.bool (sg (z_a * z_b))) ∧ wx.cell? ⟨q_p, 1, none⟩ = some (.slice A_p n_p c_p) ∧ wx.cell? ⟨q_z, 0, none⟩ = some (.bool (sg 0)) ∧ wx.cell? ⟨q_z, 1, none⟩ = some (.slice A_z n_z c_z) ∧ Below wS.heap.size wS wx)) := fun wx hb => ⟨(h_ra.below hb).c0, (h_ra.below hb).c1, (h_rb.below hb).c0, (h_rb.below hb).c1, (h_rc.below hb).c0, (h_rc.below hb).c1, (h_rs.below hb).c0, (h_rs.below hb).c1, (h_rp.below hb).c0, (h_rp.below hb).c1, (h_rz.below hb).c0, (h_rz.below hb).c1, hb⟩
        have KS : RowKit.Hid (∀ wx w2, (wx.cell? ⟨q_a, 0, none⟩ = some (.bool g_a) ∧ wx.cell? ⟨q_a, 1, none⟩ = some (.slice A_a n_a c_a) ∧ wx.cell? ⟨q_b, 0, none⟩ = some (.bool g_b) ∧ wx.cell? ⟨q_b, 1, none⟩ = some (.slice A_b n_b c_b) ∧ wx.cell? ⟨q_c, 0, none⟩ = some (.bool g_c) ∧ wx.cell? ⟨q_c, 1, none⟩ = some (.slice A_c n_c c_c) ∧ wx.cell? ⟨q_s, 0, none⟩ = some (.bool (sg (z_a + z_b))) ∧ wx.cell? ⟨q_s, 1, none⟩ = some (.slice A_s n_s c_s) ∧ wx.cell? ⟨q_p, 0, none⟩ = some (.bool (sg (z_a * z_b))) ∧ wx.cell? ⟨q_p, 1, none⟩ = some (.slice A_p n_p c_p) ∧ wx.cell? ⟨q_z, 0, none⟩ = some (.bool (sg 0)) ∧ wx.cell? ⟨q_z, 1, none⟩ = some (.slice A_z n_z c_z) ∧ Below wS.heap.size wS wx) → Below wx.heap.size wx w2 → (w2.cell? ⟨q_a, 0, none⟩ = some (.bool g_a) ∧ w2.cell? ⟨q_a, 1, none⟩ = some (.slice A_a n_a c_a) ∧ w2.cell? ⟨q_b, 0, none⟩ = some (.bool g_b) ∧ w2.cell? ⟨q_b, 1, none⟩ = some (.slice A_b n_b c_b) ∧ w2.cell? ⟨q_c, 0, none⟩ = some (.bool g_c) ∧ w2.cell? ⟨q_c, 1, none⟩ = some (.slice A_c n_c c_c) ∧ w2.cell? ⟨q_s, 0, none⟩ = some (.bool (sg (z_a + z_b))) ∧ w2.cell? ⟨q_s, 1, none⟩ = some (.slice A_s n_s c_s) ∧ w2.cell? ⟨q_p, 0, none⟩ = some (.bool (sg (z_a * z_b))) ∧ w2.cell? ⟨q_p, 1, none⟩ = some (.slice A_p n_p c_p) ∧ w2.cell? ⟨q_z, 0, none⟩ = some (.bool (sg 0)) ∧ w2.cell? ⟨q_z, 1, none⟩ = some (.slice A_z n_z c_z) ∧ Below wS.heap.size wS w2)) := fun wx w2 hS bn => KA.out _ (below_two hS.2.2.2.2.2.2.2.2.2.2.2.2 bn)
        have KU : RowKit.Hid (∀ (wx : World) (q : Nat) (u v : Value), (wx.cell? ⟨q_a, 0, none⟩ = some (.bool g_a) ∧ wx.cell? ⟨q_a, 1, none⟩ = some (.slice A_a n_a c_a) ∧ wx.cell? ⟨q_b, 0, none⟩ = some (.bool g_b) ∧ wx.cell? ⟨q_b, 1, none⟩ = some (.slice A_b n_b c_b) ∧ wx.cell? ⟨q_c, 0, none⟩ = some (.bool g_c) ∧ wx.cell? ⟨q_c, 1, none⟩ = some (.slice A_c n_c c_c) ∧ wx.cell? ⟨q_s, 0, none⟩ = some (.bool (sg (z_a + z_b))) ∧ wx.cell? ⟨q_s, 1, none⟩ = some (.slice A_s n_s c_s) ∧ wx.cell? ⟨q_p, 0, none⟩ = some (.bool (sg (z_a * z_b))) ∧ wx.cell? ⟨q_p, 1, none⟩ = some (.slice A_p n_p c_p) ∧ wx.cell? ⟨q_z, 0, none⟩ = some (.bool (sg 0)) ∧ wx.cell? ⟨q_z, 1, none⟩ = some (.slice A_z n_z c_z) ∧ Below wS.heap.size wS wx) → wS.heap.size ≤ q → (((wx.setCell ⟨q, 0, none⟩ u).setCell ⟨q, 1, none⟩ v).cell? ⟨q_a, 0, none⟩ = some (.bool g_a) ∧ ((wx.setCell ⟨q, 0, none⟩ u).setCell ⟨q, 1, none⟩ v).cell? ⟨q_a, 1, none⟩ = some (.slice A_a n_a c_a) ∧ ((wx.setCell ⟨q, 0, none⟩ u).setCell ⟨q, 1, none⟩ v).cell? ⟨q_b, 0, none⟩ = some (.bool g_b) ∧ ((wx.setCell ⟨q, 0, none⟩ u).setCell ⟨q, 1, none⟩ v).cell? ⟨q_b, 1, none⟩ = some (.slice A_b n_b c_b) ∧ ((wx.setCell ⟨q, 0, none⟩ u).setCell ⟨q, 1, none⟩ v).cell? ⟨q_c, 0, none⟩ = some (.bool g_c) ∧ ((wx.setCell ⟨q, 0, none⟩ u).setCell ⟨q, 1, none⟩ v).cell? ⟨q_c, 1, none⟩ = some (.slice A_c n_c c_c) ∧ ((wx.setCell ⟨q, 0, none⟩ u).setCell ⟨q, 1, none⟩ v).cell? ⟨q_s, 0, none⟩ = some (.bool (sg (z_a + z_b))) ∧ ((wx.setCell ⟨q, 0, none⟩ u).setCell ⟨q, 1, none⟩ v).cell? ⟨q_s, 1, none⟩ = some (.slice A_s n_s c_s) ∧ ((wx.setCell ⟨q, 0, none⟩ u).setCell ⟨q, 1, none⟩ v).cell? ⟨q_p, 0, none⟩ = some (.bool (sg (z_a * z_b))) ∧ ((wx.setCell ⟨q, 0, none⟩ u).setCell ⟨q, 1, none⟩ v).cell? ⟨q_p, 1, none⟩ = some (.slice A_p n_p c_p) ∧ ((wx.setCell ⟨q, 0, none⟩ u).setCell ⟨q, 1, none⟩ v).cell? ⟨q_z, 0, none⟩ = some (.bool (sg 0)) ∧ ((wx.setCell ⟨q, 0, none⟩ u).setCell ⟨q, 1, none⟩ v).cell? ⟨q_z, 1, none⟩ = some (.slice A_z n_z c_z) ∧ Below wS.heap.size wS ((wx.setCell ⟨q, 0, none⟩ u).setCell ⟨q, 1, none⟩ v))) := fun wx q u v hS hq => KA.out _ ((hS.2.2.2.2.2.2.2.2.2.2.2.2.setCell (p := ⟨q, 0, none⟩) hq u).setCell (p := ⟨q, 1, none⟩) hq v)
        have K_a : RowKit.Hid (∀ wx, (wx.cell? ⟨q_a, 0, none⟩ = some (.bool g_a) ∧ wx.cell? ⟨q_a, 1, none⟩ = some (.slice A_a n_a c_a) ∧ wx.cell? ⟨q_b, 0, none⟩ = some (.bool g_b) ∧ wx.cell? ⟨q_b, 1, none⟩ = some (.slice A_b n_b c_b) ∧ wx.cell? ⟨q_c, 0, none⟩ = some (.bool g_c) ∧ wx.cell? ⟨q_c, 1, none⟩ = some (.slice A_c n_c c_c) ∧ wx.cell? ⟨q_s, 0, none⟩ = some (.bool (sg (z_a + z_b))) ∧ wx.cell? ⟨q_s, 1, none⟩ = some (.slice A_s n_s c_s) ∧ wx.cell? ⟨q_p, 0, none⟩ = some (.bool (sg (z_a * z_b))) ∧ wx.cell? ⟨q_p, 1, none⟩ = some (.slice A_p n_p c_p) ∧ wx.cell? ⟨q_z, 0, none⟩ = some (.bool (sg 0)) ∧ wx.cell? ⟨q_z, 1, none⟩ = some (.slice A_z n_z c_z) ∧ Below wS.heap.size wS wx) → ZZ wx g_a A_a n_a c_a xs_a z_a 20) := fun wx hS => h_a.below hS.2.2.2.2.2.2.2.2.2.2.2.2
        have K_b : RowKit.Hid (∀ wx, (wx.cell? ⟨q_a, 0, none⟩ = some (.bool g_a) ∧ wx.cell? ⟨q_a, 1, none⟩ = some (.slice A_a n_a c_a) ∧ wx.cell? ⟨q_b, 0, none⟩ = some (.bool g_b) ∧ wx.cell? ⟨q_b, 1, none⟩ = some (.slice A_b n_b c_b) ∧ wx.cell? ⟨q_c, 0, none⟩ = some (.bool g_c) ∧ wx.cell? ⟨q_c, 1, none⟩ = some (.slice A_c n_c c_c) ∧ wx.cell? ⟨q_s, 0, none⟩ = some (.bool (sg (z_a + z_b))) ∧ wx.cell? ⟨q_s, 1, none⟩ = some (.slice A_s n_s c_s) ∧ wx.cell? ⟨q_p, 0, none⟩ = some (.bool (sg (z_a * z_b))) ∧ wx.cell? ⟨q_p, 1, none⟩ = some (.slice A_p n_p c_p) ∧ wx.cell? ⟨q_z, 0, none⟩ = some (.bool (sg 0)) ∧ wx.cell? ⟨q_z, 1, none⟩ = some (.slice A_z n_z c_z) ∧ Below wS.heap.size wS wx) → ZZ wx g_b A_b n_b c_b xs_b z_b 20) := fun wx hS => h_b.below hS.2.2.2.2.2.2.2.2.2.2.2.2
        have K_c : RowKit.Hid (∀ wx, (wx.cell? ⟨q_a, 0, none⟩ = some (.bool g_a) ∧ wx.cell? ⟨q_a, 1, none⟩ = some (.slice A_a n_a c_a) ∧ wx.cell? ⟨q_b, 0, none⟩ = some (.bool g_b) ∧ wx.cell? ⟨q_b, 1, none⟩ = some (.slice A_b n_b c_b) ∧ wx.cell? ⟨q_c, 0, none⟩ = some (.bool g_c) ∧ wx.cell? ⟨q_c, 1, none⟩ = some (.slice A_c n_c c_c) ∧ wx.cell? ⟨q_s, 0, none⟩ = some (.bool (sg (z_a + z_b))) ∧ wx.cell? ⟨q_s, 1, none⟩ = some (.slice A_s n_s c_s) ∧ wx.cell? ⟨q_p, 0, none⟩ = some (.bool (sg (z_a * z_b))) ∧ wx.cell? ⟨q_p, 1, none⟩ = some (.slice A_p n_p c_p) ∧ wx.cell? ⟨q_z, 0, none⟩ = some (.bool (sg 0)) ∧ wx.cell? ⟨q_z, 1, none⟩ = some (.slice A_z n_z c_z) ∧ Below wS.heap.size wS wx) → ZZ wx g_c A_c n_c c_c xs_c z_c 20) := fun wx hS => h_c.below hS.2.2.2.2.2.2.2.2.2.2.2.2
        have K_s : RowKit.Hid (∀ wx, (wx.cell? ⟨q_a, 0, none⟩ = some (.bool g_a) ∧ wx.cell? ⟨q_a, 1, none⟩ = some (.slice A_a n_a c_a) ∧ wx.cell? ⟨q_b, 0, none⟩ = some (.bool g_b) ∧ wx.cell? ⟨q_b, 1, none⟩ = some (.slice A_b n_b c_b) ∧ wx.cell? ⟨q_c, 0, none⟩ = some (.bool g_c) ∧ wx.cell? ⟨q_c, 1, none⟩ = some (.slice A_c n_c c_c) ∧ wx.cell? ⟨q_s, 0, none⟩ = some (.bool (sg (z_a + z_b))) ∧ wx.cell? ⟨q_s, 1, none⟩ = some (.slice A_s n_s c_s) ∧ wx.cell? ⟨q_p, 0, none⟩ = some (.bool (sg (z_a * z_b))) ∧ wx.cell? ⟨q_p, 1, none⟩ = some (.slice A_p n_p c_p) ∧ wx.cell? ⟨q_z, 0, none⟩ = some (.bool (sg 0)) ∧ wx.cell? ⟨q_z, 1, none⟩ = some (.slice A_z n_z c_z) ∧ Below wS.heap.size wS wx) → ZZ wx (sg (z_a + z_b)) A_s n_s c_s (limbs (z_a + z_b).natAbs) (z_a + z_b) 21) := fun wx hS => h_s.below hS.2.2.2.2.2.2.2.2.2.2.2.2
        have K_p : RowKit.Hid (∀ wx, (wx.cell? ⟨q_a, 0, none⟩ = some (.bool g_a) ∧ wx.cell? ⟨q_a, 1, none⟩ = some (.slice A_a n_a c_a) ∧ wx.cell? ⟨q_b, 0, none⟩ = some (.bool g_b) ∧ wx.cell? ⟨q_b, 1, none⟩ = some (.slice A_b n_b c_b) ∧ wx.cell? ⟨q_c, 0, none⟩ = some (.bool g_c) ∧ wx.cell? ⟨q_c, 1, none⟩ = some (.slice A_c n_c c_c) ∧ wx.cell? ⟨q_s, 0, none⟩ = some (.bool (sg (z_a + z_b))) ∧ wx.cell? ⟨q_s, 1, none⟩ = some (.slice A_s n_s c_s) ∧ wx.cell? ⟨q_p, 0, none⟩ = some (.bool (sg (z_a * z_b))) ∧ wx.cell? ⟨q_p, 1, none⟩ = some (.slice A_p n_p c_p) ∧ wx.cell? ⟨q_z, 0, none⟩ = some (.bool (sg 0)) ∧ wx.cell? ⟨q_z, 1, none⟩ = some (.slice A_z n_z c_z) ∧ Below wS.heap.size wS wx) → ZZ wx (sg (z_a * z_b)) A_p n_p c_p (limbs (z_a * z_b).natAbs) (z_a * z_b) 40) := fun wx hS => h_p.below hS.2.2.2.2.2.2.2.2.2.2.2.2
        have K_z : RowKit.Hid (∀ wx, (wx.cell? ⟨q_a, 0, none⟩ = some (.bool g_a) ∧ wx.cell? ⟨q_a, 1, none⟩ = some (.slice A_a n_a c_a) ∧ wx.cell? ⟨q_b, 0, none⟩ = some (.bool g_b) ∧ wx.cell? ⟨q_b, 1, none⟩ = some (.slice A_b n_b c_b) ∧ wx.cell? ⟨q_c, 0, none⟩ = some (.bool g_c) ∧ wx.cell? ⟨q_c, 1, none⟩ = some (.slice A_c n_c c_c) ∧ wx.cell? ⟨q_s, 0, none⟩ = some (.bool (sg (z_a + z_b))) ∧ wx.cell? ⟨q_s, 1, none⟩ = some (.slice A_s n_s c_s) ∧ wx.cell? ⟨q_p, 0, none⟩ = some (.bool (sg (z_a * z_b))) ∧ wx.cell? ⟨q_p, 1, none⟩ = some (.slice A_p n_p c_p) ∧ wx.cell? ⟨q_z, 0, none⟩ = some (.bool (sg 0)) ∧ wx.cell? ⟨q_z, 1, none⟩ = some (.slice A_z n_z c_z) ∧ Below wS.heap.size wS wx) → ZZ wx (sg 0) A_z n_z c_z (limbs (0 : Int).natAbs) 0 2) := fun wx hS => h_z.below hS.2.2.2.2.2.2.2.2.2.2.2.2
        have KR_a : RowKit.Hid (∀ wx, (wx.cell? ⟨q_a, 0, none⟩ = some (.bool g_a) ∧ wx.cell? ⟨q_a, 1, none⟩ = some (.slice A_a n_a c_a) ∧ wx.cell? ⟨q_b, 0, none⟩ = some (.bool g_b) ∧ wx.cell? ⟨q_b, 1, none⟩ = some (.slice A_b n_b c_b) ∧ wx.cell? ⟨q_c, 0, none⟩ = some (.bool g_c) ∧ wx.cell? ⟨q_c, 1, none⟩ = some (.slice A_c n_c c_c) ∧ wx.cell? ⟨q_s, 0, none⟩ = some (.bool (sg (z_a + z_b))) ∧ wx.cell? ⟨q_s, 1, none⟩ = some (.slice A_s n_s c_s) ∧ wx.cell? ⟨q_p, 0, none⟩ = some (.bool (sg (z_a * z_b))) ∧ wx.cell? ⟨q_p, 1, none⟩ = some (.slice A_p n_p c_p) ∧ wx.cell? ⟨q_z, 0, none⟩ = some (.bool (sg 0)) ∧ wx.cell? ⟨q_z, 1, none⟩ = some (.slice A_z n_z c_z) ∧ Below wS.heap.size wS wx) → Row2 wx q_a 25 (.bool g_a) (.slice A_a n_a c_a)) := fun wx hS => h_ra.below hS.2.2.2.2.2.2.2.2.2.2.2.2
        have KR_b : RowKit.Hid (∀ wx, (wx.cell? ⟨q_a, 0, none⟩ = some (.bool g_a) ∧ wx.cell? ⟨q_a, 1, none⟩ = some (.slice A_a n_a c_a) ∧ wx.cell? ⟨q_b, 0, none⟩ = some (.bool g_b) ∧ wx.cell? ⟨q_b, 1, none⟩ = some (.slice A_b n_b c_b) ∧ wx.cell? ⟨q_c, 0, none⟩ = some (.bool g_c) ∧ wx.cell? ⟨q_c, 1, none⟩ = some (.slice A_c n_c c_c) ∧ wx.cell? ⟨q_s, 0, none⟩ = some (.bool (sg (z_a + z_b))) ∧ wx.cell? ⟨q_s, 1, none⟩ = some (.slice A_s n_s c_s) ∧ wx.cell? ⟨q_p, 0, none⟩ = some (.bool (sg (z_a * z_b))) ∧ wx.cell? ⟨q_p, 1, none⟩ = some (.slice A_p n_p c_p) ∧ wx.cell? ⟨q_z, 0, none⟩ = some (.bool (sg 0)) ∧ wx.cell? ⟨q_z, 1, none⟩ = some (.slice A_z n_z c_z) ∧ Below wS.heap.size wS wx) → Row2 wx q_b 25 (.bool g_b) (.slice A_b n_b c_b)) := fun wx hS => h_rb.below hS.2.2.2.2.2.2.2.2.2.2.2.2
        have KR_c : RowKit.Hid (∀ wx, (wx.cell? ⟨q_a, 0, none⟩ = some (.bool g_a) ∧ wx.cell? ⟨q_a, 1, none⟩ = some (.slice A_a n_a c_a) ∧ wx.cell? ⟨q_b, 0, none⟩ = some (.bool g_b) ∧ wx.cell? ⟨q_b, 1, none⟩ = some (.slice A_b n_b c_b) ∧ wx.cell? ⟨q_c, 0, none⟩ = some (.bool g_c) ∧ wx.cell? ⟨q_c, 1, none⟩ = some (.slice A_c n_c c_c) ∧ wx.cell? ⟨q_s, 0, none⟩ = some (.bool (sg (z_a + z_b))) ∧ wx.cell? ⟨q_s, 1, none⟩ = some (.slice A_s n_s c_s) ∧ wx.cell? ⟨q_p, 0, none⟩ = some (.bool (sg (z_a * z_b))) ∧ wx.cell? ⟨q_p, 1, none⟩ = some (.slice A_p n_p c_p) ∧ wx.cell? ⟨q_z, 0, none⟩ = some (.bool (sg 0)) ∧ wx.cell? ⟨q_z, 1, none⟩ = some (.slice A_z n_z c_z) ∧ Below wS.heap.size wS wx) → Row2 wx q_c 25 (.bool g_c) (.slice A_c n_c c_c)) := fun wx hS => h_rc.below hS.2.2.2.2.2.2.2.2.2.2.2.2
        have KR_s : RowKit.Hid (∀ wx, (wx.cell? ⟨q_a, 0, none⟩ = some (.bool g_a) ∧ wx.cell? ⟨q_a, 1, none⟩ = some (.slice A_a n_a c_a) ∧ wx.cell? ⟨q_b, 0, none⟩ = some (.bool g_b) ∧ wx.cell? ⟨q_b, 1, none⟩ = some (.slice A_b n_b c_b) ∧ wx.cell? ⟨q_c, 0, none⟩ = some (.bool g_c) ∧ wx.cell? ⟨q_c, 1, none⟩ = some (.slice A_c n_c c_c) ∧ wx.cell? ⟨q_s, 0, none⟩ = some (.bool (sg (z_a + z_b))) ∧ wx.cell? ⟨q_s, 1, none⟩ = some (.slice A_s n_s c_s) ∧ wx.cell? ⟨q_p, 0, none⟩ = some (.bool (sg (z_a * z_b))) ∧ wx.cell? ⟨q_p, 1, none⟩ = some (.slice A_p n_p c_p) ∧ wx.cell? ⟨q_z, 0, none⟩ = some (.bool (sg 0)) ∧ wx.cell? ⟨q_z, 1, none⟩ = some (.slice A_z n_z c_z) ∧ Below wS.heap.size wS wx) → Row2 wx q_s 25 (.bool (sg (z_a + z_b))) (.slice A_s n_s c_s)) := fun wx hS => h_rs.below hS.2.2.2.2.2.2.2.2.2.2.2.2
        have KR_p : RowKit.Hid (∀ wx, (wx.cell? ⟨q_a, 0, none⟩ = some (.bool g_a) ∧ wx.cell? ⟨q_a, 1, none⟩ = some (.slice A_a n_a c_a) ∧ wx.cell? ⟨q_b, 0, none⟩ = some (.bool g_b) ∧ wx.cell? ⟨q_b, 1, none⟩ = some (.slice A_b n_b c_b) ∧ wx.cell? ⟨q_c, 0, none⟩ = some (.bool g_c) ∧ wx.cell? ⟨q_c, 1, none⟩ = some (.slice A_c n_c c_c) ∧ wx.cell? ⟨q_s, 0, none⟩ = some (.bool (sg (z_a + z_b))) ∧ wx.cell? ⟨q_s, 1, none⟩ = some (.slice A_s n_s c_s) ∧ wx.cell? ⟨q_p, 0, none⟩ = some (.bool (sg (z_a * z_b))) ∧ wx.cell? ⟨q_p, 1, none⟩ = some (.slice A_p n_p c_p) ∧ wx.cell? ⟨q_z, 0, none⟩ = some (.bool (sg 0)) ∧ wx.cell? ⟨q_z, 1, none⟩ = some (.slice A_z n_z c_z) ∧ Below wS.heap.size wS wx) → Row2 wx q_p 25 (.bool (sg (z_a * z_b))) (.slice A_p n_p c_p)) := fun wx hS => h_rp.below hS.2.2.2.2.2.2.2.2.2.2.2.2
        have KR_z : RowKit.Hid (∀ wx, (wx.cell? ⟨q_a, 0, none⟩ = some (.bool g_a) ∧ wx.cell? ⟨q_a, 1, none⟩ = some (.slice A_a n_a c_a) ∧ wx.cell? ⟨q_b, 0, none⟩ = some (.bool g_b) ∧ wx.cell? ⟨q_b, 1, none⟩ = some (.slice A_b n_b c_b) ∧ wx.cell? ⟨q_c, 0, none⟩ = some (.bool g_c) ∧ wx.cell? ⟨q_c, 1, none⟩ = some (.slice A_c n_c c_c) ∧ wx.cell? ⟨q_s, 0, none⟩ = some (.bool (sg (z_a + z_b))) ∧ wx.cell? ⟨q_s, 1, none⟩ = some (.slice A_s n_s c_s) ∧ wx.cell? ⟨q_p, 0, none⟩ = some (.bool (sg (z_a * z_b))) ∧ wx.cell? ⟨q_p, 1, none⟩ = some (.slice A_p n_p c_p) ∧ wx.cell? ⟨q_z, 0, none⟩ = some (.bool (sg 0)) ∧ wx.cell? ⟨q_z, 1, none⟩ = some (.slice A_z n_z c_z) ∧ Below wS.heap.size wS wx) → Row2 wx q_z 25 (.bool (sg 0)) (.slice A_z n_z c_z)) := fun wx hS => h_rz.below hS.2.2.2.2.2.2.2.2.2.2.2.2
        have KT : RowKit.Hid (∀ wx, (wx.cell? ⟨q_a, 0, none⟩ = some (.bool g_a) ∧ wx.cell? ⟨q_a, 1, none⟩ = some (.slice A_a n_a c_a) ∧ wx.cell? ⟨q_b, 0, none⟩ = some (.bool g_b) ∧ wx.cell? ⟨q_b, 1, none⟩ = some (.slice A_b n_b c_b) ∧ wx.cell? ⟨q_c, 0, none⟩ = some (.bool g_c) ∧ wx.cell? ⟨q_c, 1, none⟩ = some (.slice A_c n_c c_c) ∧ wx.cell? ⟨q_s, 0, none⟩ = some (.bool (sg (z_a + z_b))) ∧ wx.cell? ⟨q_s, 1, none⟩ = some (.slice A_s n_s c_s) ∧ wx.cell? ⟨q_p, 0, none⟩ = some (.bool (sg (z_a * z_b))) ∧ wx.cell? ⟨q_p, 1, none⟩ = some (.slice A_p n_p c_p) ∧ wx.cell? ⟨q_z, 0, none⟩ = some (.bool (sg 0)) ∧ wx.cell? ⟨q_z, 1, none⟩ = some (.slice A_z n_z c_z) ∧ Below wS.heap.size wS wx) → Tab wx) := fun wx hS => HTab.out.below hS.2.2.2.2.2.2.2.2.2.2.2.2
        have HF := Lib.hid bw
        have KF : RowKit.Hid (∀ wx, (wx.cell? ⟨q_a, 0, none⟩ = some (.bool g_a) ∧ wx.cell? ⟨q_a, 1, none⟩ = some (.slice A_a n_a c_a) ∧ wx.cell? ⟨q_b, 0, none⟩ = some (.bool g_b) ∧ wx.cell? ⟨q_b, 1, none⟩ = some (.slice A_b n_b c_b) ∧ wx.cell? ⟨q_c, 0, none⟩ = some (.bool g_c) ∧ wx.cell? ⟨q_c, 1, none⟩ = some (.slice A_c n_c c_c) ∧ wx.cell? ⟨q_s, 0, none⟩ = some (.bool (sg (z_a + z_b))) ∧ wx.cell? ⟨q_s, 1, none⟩ = some (.slice A_s n_s c_s) ∧ wx.cell? ⟨q_p, 0, none⟩ = some (.bool (sg (z_a * z_b))) ∧ wx.cell? ⟨q_p, 1, none⟩ = some (.slice A_p n_p c_p) ∧ wx.cell? ⟨q_z, 0, none⟩ = some (.bool (sg 0)) ∧ wx.cell? ⟨q_z, 1, none⟩ = some (.slice A_z n_z c_z) ∧ Below wS.heap.size wS wx) → Below w.heap.size w wx) := fun wx hS => below_two HF.out hS.2.2.2.2.2.2.2.2.2.2.2.2
        obtain ⟨d_a0, d_a1, d_b0, d_b1, d_c0, d_c1, d_s0, d_s1, d_p0, d_p1, d_z0, d_z1, _⟩ := KA.out _ (Below.refl _ _)
        clear h_a h_b h_c h_s h_p h_ra h_rb h_rc h_rs h_rp h_z h_rz HTab bw
        clear HF
        try dsimp only [List.append]
        go_region_held3 (fun wx => wx.cell? ⟨q_a, 0, none⟩ = some (.bool g_a) ∧ wx.cell? ⟨q_a, 1, none⟩ = some (.slice A_a n_a c_a) ∧ wx.cell? ⟨q_b, 0, none⟩ = some (.bool g_b) ∧ wx.cell? ⟨q_b, 1, none⟩ = some (.slice A_b n_b c_b) ∧ wx.cell? ⟨q_c, 0, none⟩ = some (.bool g_c) ∧ wx.cell? ⟨q_c, 1, none⟩ = some (.slice A_c n_c c_c) ∧ wx.cell? ⟨q_s, 0, none⟩ = some (.bool (sg (z_a + z_b))) ∧ wx.cell? ⟨q_s, 1, none⟩ = some (.slice A_s n_s c_s) ∧ wx.cell? ⟨q_p, 0, none⟩ = some (.bool (sg (z_a * z_b))) ∧ wx.cell? ⟨q_p, 1, none⟩ = some (.slice A_p n_p c_p) ∧ wx.cell? ⟨q_z, 0, none⟩ = some (.bool (sg 0)) ∧ wx.cell? ⟨q_z, 1, none⟩ = some (.slice A_z n_z c_z) ∧ Below wS.heap.size wS wx) (first | assumption | exact KA.out _ ((Below.refl _ _).drew) | (with_reducible refine KS.out _ _ ?_ (below_new _ _); assumption)) (first
          | (go_at_call 7; (have mk := bn_k9; clear mk); (with_reducible refine (wakes_any _ (KT.out _ (by assumption))).mono ?_); rintro e w2 ⟨rfl, bn_k⟩; have hS2 := KS.out _ _ (by assumption) bn_k)
          | (go_at_call 10; (have mk := bn_np; clear mk); (with_reducible refine (keepInt_c (h_m2.below bn_np) h_np (by decide) (by decide) true (zsame rfl)).mono ?_); rintro e w2 ⟨rfl, bn_k9⟩; have hS2 := KS.out _ _ (by assumption) bn_k9)
          | (go_at_call 12; (have mk := bn_m2; clear mk); (with_reducible refine (wNeg_c (K_p.out _ (by assumption)) (by decide) (-(z_a * z_b)) rfl).mono ?_); rintro e w2 ⟨A_np, n_np, c_np, rfl, h_np, bn_np⟩; have hS2 := KS.out _ _ (by assumption) bn_np)
          | (go_at_call 9; (have mk := bn_nc; clear mk); (with_reducible refine (wMul_c h_nc (K_b.out _ (by assumption)) 40 (by decide) (by decide) (by decide) (-(z_a * z_b)) (Int.neg_mul _ _)).mono ?_); rintro e w2 ⟨A_m2, n_m2, c_m2, rfl, h_m2, bn_m2⟩; have hS2 := KS.out _ _ (by assumption) bn_m2)
          | (go_at_call 12; (have mk := bn_k8; clear mk); (with_reducible refine (wNeg_c (K_a.out _ (by assumption)) (by decide) (-z_a) rfl).mono ?_); rintro e w2 ⟨A_nc, n_nc, c_nc, rfl, h_nc, bn_nc⟩; have hS2 := KS.out _ _ (by assumption) bn_nc)
          | (go_at_call 10; (have mk := bn_tb; clear mk); (with_reducible refine (keepInt_c (h_m1.below bn_tb) h_tb (by decide) (by decide) true (zsame rfl)).mono ?_); rintro e w2 ⟨rfl, bn_k8⟩; have hS2 := KS.out _ _ (by assumption) bn_k8)
          | (go_at_call 13; (have mk := bn_m1; clear mk); (with_reducible refine (wTrim_c (K_a.out _ (by assumption)) (by decide)).mono ?_); rintro e w2 ⟨A_tb, n_tb, c_tb, rfl, h_tb, bn_tb⟩; have hS2 := KS.out _ _ (by assumption) bn_tb)
          | (go_at_call 9; (have mk := bn_o1; clear mk); (with_reducible refine (wMul_c (K_a.out _ (by assumption)) h_o1 22 (by decide) (by decide) (by decide) z_a (Int.mul_one _)).mono ?_); rintro e w2 ⟨A_m1, n_m1, c_m1, rfl, h_m1, bn_m1⟩; have hS2 := KS.out _ _ (by assumption) bn_m1)
          | (go_at_call 11; (have mk := bn_k7; clear mk); (with_reducible refine (wOf_c (1) (by decide) (by decide) _).mono ?_); rintro e w2 ⟨A_o1, n_o1, c_o1, rfl, h_o1, bn_o1⟩; have hS2 := KS.out _ _ (by assumption) bn_o1)
          | (go_at_call 10; (have mk := bn_ta; clear mk); (with_reducible refine (keepInt_c (h_nn.below bn_ta) h_ta (by decide) (by decide) true (zsame rfl)).mono ?_); rintro e w2 ⟨rfl, bn_k7⟩; have hS2 := KS.out _ _ (by assumption) bn_k7)
          | (go_at_call 13; (have mk := bn_nn; clear mk); (with_reducible refine (wTrim_c (K_a.out _ (by assumption)) (by decide)).mono ?_); rintro e w2 ⟨A_ta, n_ta, c_ta, rfl, h_ta, bn_ta⟩; have hS2 := KS.out _ _ (by assumption) bn_ta)
          | (go_at_call 12; (have mk := bn_nb; clear mk); (with_reducible refine (wNeg_c h_nb (by decide) z_a (Int.neg_neg _)).mono ?_); rintro e w2 ⟨A_nn, n_nn, c_nn, rfl, h_nn, bn_nn⟩; have hS2 := KS.out _ _ (by assumption) bn_nn)
          | (go_at_call 12; (have mk := bn_k6; clear mk); (with_reducible refine (wNeg_c (K_a.out _ (by assumption)) (by decide) (-z_a) rfl).mono ?_); rintro e w2 ⟨A_nb, n_nb, c_nb, rfl, h_nb, bn_nb⟩; have hS2 := KS.out _ _ (by assumption) bn_nb)
          | (go_at_call 10; (have mk := bn_x1; clear mk); (with_reducible refine (keepInt_c h_x1 (K_z.out _ (by assumption)) (by decide) (by decide) true (zsame rfl)).mono ?_); rintro e w2 ⟨rfl, bn_k6⟩; have hS2 := KS.out _ _ (by assumption) bn_k6)
          | (go_at_call 8; (have mk := bn_na; clear mk); (with_reducible refine (wAdd_c (K_a.out _ (by assumption)) h_na 21 (by decide) (by decide) (by decide) 0 (Int.add_right_neg _)).mono ?_); rintro e w2 ⟨A_x1, n_x1, c_x1, rfl, h_x1, bn_x1⟩; have hS2 := KS.out _ _ (by assumption) bn_x1)
          | (go_at_call 12; (with_reducible refine (wNeg_c (K_a.out _ (by assumption)) (by decide) (-z_a) rfl).mono ?_); rintro e w2 ⟨A_na, n_na, c_na, rfl, h_na, bn_na⟩; have hS2 := KS.out _ _ (by assumption) bn_na))
        all_goals (go_wp2; go_ret; exact ⟨rfl, KF.out _ (by assumption)⟩)

theorem tab_of {W : World} (h : laidMet Tryd.prog Rows.wholeLawsRow.laid W) : Tab W := by
  refine ⟨?_, ?_⟩
  · first | exact powers_tab (laidMet_drop 0 h) (by decide +kernel) | exact powers_tab (laidMet_drop 1 h) (by decide +kernel) | exact powers_tab (laidMet_drop 2 h) (by decide +kernel) | exact powers_tab (laidMet_drop 3 h) (by decide +kernel) | exact powers_tab (laidMet_drop 4 h) (by decide +kernel) | exact powers_tab (laidMet_drop 5 h) (by decide +kernel) | exact powers_tab (laidMet_drop 6 h) (by decide +kernel) | exact powers_tab (laidMet_drop 7 h) (by decide +kernel) | exact powers_tab (laidMet_drop 8 h) (by decide +kernel) | exact powers_tab (laidMet_drop 9 h) (by decide +kernel) | exact powers_tab (laidMet_drop 10 h) (by decide +kernel) | exact powers_tab (laidMet_drop 11 h) (by decide +kernel) | exact powers_tab (laidMet_drop 12 h) (by decide +kernel) | exact powers_tab (laidMet_drop 13 h) (by decide +kernel)
  · first | exact err_tab (laidMet_drop 0 h) (by decide +kernel) | exact err_tab (laidMet_drop 1 h) (by decide +kernel) | exact err_tab (laidMet_drop 2 h) (by decide +kernel) | exact err_tab (laidMet_drop 3 h) (by decide +kernel) | exact err_tab (laidMet_drop 4 h) (by decide +kernel) | exact err_tab (laidMet_drop 5 h) (by decide +kernel) | exact err_tab (laidMet_drop 6 h) (by decide +kernel) | exact err_tab (laidMet_drop 7 h) (by decide +kernel) | exact err_tab (laidMet_drop 8 h) (by decide +kernel) | exact err_tab (laidMet_drop 9 h) (by decide +kernel) | exact err_tab (laidMet_drop 10 h) (by decide +kernel) | exact err_tab (laidMet_drop 11 h) (by decide +kernel) | exact err_tab (laidMet_drop 12 h) (by decide +kernel) | exact err_tab (laidMet_drop 13 h) (by decide +kernel)

set_option maxRecDepth 100000 in
theorem lifted (os : Os) (started : os.Started) (H : Type) (enc : TypeId × Value → H) :
    ReturnsInHanded {} Tryd.checked os 3 .any (fun w args => (Rows.wholeLawsSpec.pre enc Tryd.prog Tryd.f3 [] false w args ∧ laidMetH Tryd.prog Rows.wholeLawsRow.laid w) ∧ sizedMet enc Tryd.prog Tryd.f3 (OpenSpec.ofChange Rows.wholeLawsSpec) false w args)
      (Rows.wholeLawsSpec.post enc Tryd.prog Tryd.f3 false true false false) := by
  refine returnsInHanded_of_change_and (C := Tryd.checked) (X := fun w _ => laidMetH Tryd.prog Rows.wholeLawsRow.laid w) (fun _ _ _ hh h => h.of_heap hh) own started (by kernel_rfl) Tryd.func3
    (ChangeSpec.witness_shaped (enc := enc) (C := Tryd.checked) (os := os) (X := fun w _ => laidMetH Tryd.prog Rows.wholeLawsRow.laid w) false (World.laidAll Tryd.prog os Rows.wholeLawsRow.laid) #[.agg #[.bool false, .slice none 0 0], .agg #[.bool false, .slice none 0 0], .agg #[.bool false, .slice none 0 0]] 8 (World.laidAll_os _ _ _)
      (World.shaped_of_ZipB (by kernel_rfl) (by kernel_rfl)) (by kernel_rfl) (by kernel_rfl) (by kernel_rfl)
      (by rw [MakeChecks.laidMetH_plain _ _ _ (by kernel_rfl)]; exact laidMet_laidAll _ (by kernel_rfl) (by kernel_rfl))) ?_
  intro W base args ds gs before hval0 hW _ _ hL _
  have hval : ∀ (j : Nat) t v, Tryd.f3.params[j]? = some t → args[j]? = some v → Value.okWide Tryd.prog W .any base t v := hval0
  have hW' := hW
  obtain ⟨p, q, hA0, hV, rfl, hfz, hnd⟩ := hW
  have hA : DataW.TrodAll enc Tryd.prog W 0 (fun _ => true) true Tryd.f3.params.toList args.toList ds p := hA0
  rw [Tryd.params3] at hA hval
  obtain ⟨v0, vs0, d0, ds0, p0, q0, hargs, rfl, rfl, h0, r0⟩ := trodAll_cons hA
  obtain ⟨v1, vs1, d1, ds1, p1, q1, rfl, rfl, rfl, h1, r1⟩ := trodAll_cons r0
  obtain ⟨v2, vs2, d2, ds2, p2, q2, rfl, rfl, rfl, h2, r2⟩ := trodAll_cons r1
  obtain ⟨rfl, rfl, rfl⟩ := trodAll_nil r2
  obtain rfl : args = #[v0, v1, v2] := by cases args; simp_all
  obtain ⟨rfl, rfl⟩ := trodVars_none hV
  obtain ⟨b0, a0, len0, cap0, z0, rfl, i0, hc0, hm0⟩ := open_zint (hval 0 25 v0 rfl rfl) h0
  obtain ⟨b1, a1, len1, cap1, z1, rfl, i1, hc1, hm1⟩ := open_zint (hval 1 25 v1 rfl rfl) h1
  obtain ⟨b2, a2, len2, cap2, z2, rfl, i2, hc2, hm2⟩ := open_zint (hval 2 25 v2 rfl rfl) h2
  clear hA0 hval0
  simp only [List.append_nil] at hW'
  rw [MakeChecks.laidMetH_plain _ _ _ (by kernel_rfl)] at hL
  refine (walk b0 a0 len0 cap0 z0 b1 a1 len1 cap1 z1 b2 a2 len2 cap2 z2 W i0 hc0 hm0 i1 hc1 hm1 i2 hc2 hm2 (tab_of hL)).mono fun e W' ⟨he, bel⟩ => ?_
  subst he
  exact ⟨_, rfl, _, _, _, [], _, [], hW', trodAll_mk1 (shut_bool Tryd.underlying4 _), (trodAll_cons_mk (Below.trod laidOut (by kernel_rfl) (of_decide_eq_true (by kernel_rfl)) h0 bel (places_lt h0)) (trodAll_cons_mk (Below.trod laidOut (by kernel_rfl) (of_decide_eq_true (by kernel_rfl)) h1 bel (places_lt h1)) (trodAll_cons_mk (Below.trod laidOut (by kernel_rfl) (of_decide_eq_true (by kernel_rfl)) h2 bel (places_lt h2)) trodAll_mk0))), rfl, bel.frame _, fun h => by cases h⟩

theorem over : Rows.wholeLawsRow.holds Tryd.pinned (OpenSpec.ofChange Rows.wholeLawsSpec) :=
  OpenClaim.holds_of_wide 3 Tryd.f3 rfl rfl rfl rfl rfl rfl rfl ⟨rfl, rfl, rfl, rfl, rfl⟩ rfl rfl rfl rfl rfl (by kernel_rfl) Tryd.func3 (by kernel_rfl)
    (of_decide_eq_true (by kernel_rfl)) (by unfold Func.isWrapper; first | (rw [if_pos (by decide +kernel)]; kernel_rfl) | (rw [if_neg (by decide +kernel)]; exact ⟨rfl, rfl⟩))
    (fun os started H enc _ => lifted os started H enc)

theorem proved : Rows.WholeLawsCardSaid :=
  Claim7.holds_tied_plain_at .later [] Rows.wholeLawsCard.laidKinds true Rows.wholeLawsCard.stood.harness Rows.wholeLawsCard.stood.looks
    over (fun _ h => by cases h) (by kernel_rfl) (fun _ h => by cases h) wholeLaws_row_tie rfl ⟨rfl, rfl⟩ (by kernel_rfl) rfl
    (fun f fn hf hfn => by
      obtain rfl : f = 3 := Option.some.inj ((show Tryd.prog.funcNamed Rows.wholeLawsRow.func = some 3 by kernel_rfl).symm.trans hf) |>.symm
      obtain rfl : fn = Tryd.f3 := (Option.some.inj (Tryd.func3.symm.trans hfn)).symm
      exact ⟨by kernel_rfl, fun j t ht => by
        have hm : t ∈ Tryd.f3.params.toList := by simpa using Array.mem_of_getElem? ht
        have hall : (Tryd.f3.params.toList.all fun u => !Tryd.prog.wantsStandIn u) = true := by kernel_rfl
        exact (show Tryd.prog.wantsStandIn t = false by simpa using List.all_eq_true.1 hall t hm)⟩)
    (by kernel_rfl)

end Go.Proofs.YtgdchljbjnhchaaDoor.lawWholeLaws
