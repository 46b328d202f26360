/- Of any three whole numbers: the order goes with sums and products, a text and back it is the same. No condition. -/
import Derived.Test.YtgdchljbjnhchaaDoorM4
import Derived.Test.YtgdchljbjnhchaaDoorCards
import Derived.Test.YtgdchljbjnhchaaDoorTie
import Derived.ChangeMaps5
import Derived.Lay
import Derived.SevenTiedAt
import Derived.Deep.RegionWith
import Derived.Deep.RegionHeld3
/- Mathematics of the order of whole numbers; a number's text and back. No condition. -/
namespace Go.Proofs.YtgdchljbjnhchaaDoor
open Go.RowKit Limb

theorem cmpZ_swap (x y : Int) : cmpZ y x = -cmpZ x y := by unfold cmpZ; (repeat' split) <;> omega
theorem cmpZ_add (x y z : Int) : cmpZ (x + z) (y + z) = cmpZ x y := by unfold cmpZ; (repeat' split) <;> omega
theorem cmpZ_neg (x y : Int) : cmpZ (-x) (-y) = -cmpZ x y := by unfold cmpZ; (repeat' split) <;> omega
theorem cmpZ_mul (x y z : Int) : cmpZ (x * z) (y * z) = cmpZ x y * cmpZ z 0 := by
  rcases Int.lt_trichotomy z 0 with hz | rfl | hz
  · rw [cmpZ_lt hz]
    rcases Int.lt_trichotomy x y with h | rfl | h
    · rw [cmpZ_lt h, cmpZ_gt (Int.mul_lt_mul_of_neg_right h hz)]; rfl
    · rw [cmpZ_eq rfl, cmpZ_eq rfl]; rfl
    · rw [cmpZ_gt h, cmpZ_lt (Int.mul_lt_mul_of_neg_right h hz)]; rfl
  · rw [Int.mul_zero, Int.mul_zero, cmpZ_eq rfl, Int.mul_zero]
  · rw [cmpZ_gt hz, Int.mul_one]
    rcases Int.lt_trichotomy x y with h | rfl | h
    · rw [cmpZ_lt h, cmpZ_lt (Int.mul_lt_mul_of_pos_right h hz)]
    · rw [cmpZ_eq rfl, cmpZ_eq rfl]
    · rw [cmpZ_gt h, cmpZ_gt (Int.mul_lt_mul_of_pos_right h hz)]
theorem wrap_sign {v : Int} (h : -1 ≤ v ∧ v ≤ 1) : IntKind.i64.wrap v = v ∧ wrap64 v = v := by
  have : v = -1 ∨ v = 0 ∨ v = 1 := by omega
  rcases this with rfl | rfl | rfl <;> exact ⟨by decide +kernel, by decide +kernel⟩
theorem sign_mul {x y : Int} (hx : -1 ≤ x ∧ x ≤ 1) (hy : -1 ≤ y ∧ y ≤ 1) : -1 ≤ x * y ∧ x * y ≤ 1 := by
  have h1 : x = -1 ∨ x = 0 ∨ x = 1 := by omega
  rcases h1 with rfl | rfl | rfl <;> omega
theorem zback {z : Int} {S : ByteArray} (h : strOf (zT z) = S) (hl : (decT z.natAbs).length ≤ 2000) : zOk (bytesOf S) = true ∧ zV (bytesOf S) = z := by
  subst h
  rw [bytesOf_strOf (zT_bytes z)]
  exact ⟨zOk_T hl, zV_T hl⟩

end Go.Proofs.YtgdchljbjnhchaaDoor

/- Of any three whole numbers: the order goes with sums and products, a text and back it is the same. No condition. -/
namespace Go.Proofs.YtgdchljbjnhchaaDoor.lawWholeOrder
open Go.ChangeShapes Go.WideShapes Go.ChangeAt Go.RowKit Limb
set_option linter.unusedVariables false

set_option maxHeartbeats 40000000 in
set_option maxRecDepth 100000 in
theorem walk (g_a : Bool) (A_a : Option Addr) (n_a c_a : Nat) (xs_a : List Nat) (g_b : Bool) (A_b : Option Addr) (n_b c_b : Nat) (xs_b : List Nat) (g_c : Bool) (A_c : Option Addr) (n_c c_c : Nat) (xs_c : List Nat) (w : World) (i_a : IsN w A_a n_a xs_a) (hc_a : n_a ≤ c_a) (hm_a : c_a ≤ maxLen) (i_b : IsN w A_b n_b xs_b) (hc_b : n_b ≤ c_b) (hm_b : c_b ≤ maxLen) (i_c : IsN w A_c n_c xs_c) (hc_c : n_c ≤ c_c) (hm_c : c_c ≤ maxLen) (T : Tab w) :
    Calls Tryd.prog 4 #[.agg #[.bool g_a, .slice A_a n_a c_a], .agg #[.bool g_b, .slice A_b n_b c_b], .agg #[.bool g_c, .slice A_c n_c c_c]] w fun e w' => e = .returned (.bool true) ∧ Below w.heap.size w w' := by
  have HTab := Lib.hid T
  clear T
  have bw := bel_refl w
  by_cases l_a : 20 < n_a
  · have L_a : (20 : Int) < n_a := by omega
    have bn := Lib.hid (below_two (below_two (below_new w (.cells #[Value.bool g_a, Value.slice A_a n_a c_a] 25)) (below_new (w.alloc (.cells #[Value.bool g_a, Value.slice A_a n_a c_a] 25)) (.cells #[Value.bool g_b, Value.slice A_b n_b c_b] 25))) (below_new ((w.alloc (.cells #[Value.bool g_a, Value.slice A_a n_a c_a] 25)).alloc (.cells #[Value.bool g_b, Value.slice A_b n_b c_b] 25)) (.cells #[Value.bool g_c, Value.slice A_c n_c c_c] 25)))
    go_enter Tryd.func4, Tryd.ntmps4
    go_wp2_with ((go_at_call 7; (with_reducible refine (wakes_any _ (HTab.out.below bn.out)).mono ?_); rintro e w2 ⟨rfl, b2⟩))
    go_ret
    exact ⟨rfl, below_two bn.out b2⟩
  by_cases l_b : 20 < n_b
  · have L_a : (n_a : Int) ≤ 20 := by omega
    have L_b : (20 : Int) < n_b := by omega
    have bn := Lib.hid (below_two (below_two (below_new w (.cells #[Value.bool g_a, Value.slice A_a n_a c_a] 25)) (below_new (w.alloc (.cells #[Value.bool g_a, Value.slice A_a n_a c_a] 25)) (.cells #[Value.bool g_b, Value.slice A_b n_b c_b] 25))) (below_new ((w.alloc (.cells #[Value.bool g_a, Value.slice A_a n_a c_a] 25)).alloc (.cells #[Value.bool g_b, Value.slice A_b n_b c_b] 25)) (.cells #[Value.bool g_c, Value.slice A_c n_c c_c] 25)))
    go_enter Tryd.func4, Tryd.ntmps4
    go_wp2_with ((go_at_call 7; (with_reducible refine (wakes_any _ (HTab.out.below bn.out)).mono ?_); rintro e w2 ⟨rfl, b2⟩))
    go_ret
    exact ⟨rfl, below_two bn.out b2⟩
  by_cases l_c : 20 < n_c
  · have L_a : (n_a : Int) ≤ 20 := by omega
    have L_b : (n_b : Int) ≤ 20 := by omega
    have L_c : (20 : Int) < n_c := by omega
    have bn := Lib.hid (below_two (below_two (below_new w (.cells #[Value.bool g_a, Value.slice A_a n_a c_a] 25)) (below_new (w.alloc (.cells #[Value.bool g_a, Value.slice A_a n_a c_a] 25)) (.cells #[Value.bool g_b, Value.slice A_b n_b c_b] 25))) (below_new ((w.alloc (.cells #[Value.bool g_a, Value.slice A_a n_a c_a] 25)).alloc (.cells #[Value.bool g_b, Value.slice A_b n_b c_b] 25)) (.cells #[Value.bool g_c, Value.slice A_c n_c c_c] 25)))
    go_enter Tryd.func4, Tryd.ntmps4
    go_wp2_with ((go_at_call 7; (with_reducible refine (wakes_any _ (HTab.out.below bn.out)).mono ?_); rintro e w2 ⟨rfl, b2⟩))
    go_ret
    exact ⟨rfl, below_two bn.out b2⟩
  have L_a : (n_a : Int) ≤ 20 := by omega
  have L_b : (n_b : Int) ≤ 20 := by omega
  have L_c : (n_c : Int) ≤ 20 := by omega
  have h_a : ZZ w g_a A_a n_a c_a xs_a (zOf g_a (Limb.val xs_a)) 20 := ZZ.of ⟨i_a, rfl, hc_a, by omega⟩
  generalize zOf g_a (Limb.val xs_a) = z_a at h_a
  have h_b : ZZ w g_b A_b n_b c_b xs_b (zOf g_b (Limb.val xs_b)) 20 := ZZ.of ⟨i_b, rfl, hc_b, by omega⟩
  generalize zOf g_b (Limb.val xs_b) = z_b at h_b
  have h_c : ZZ w g_c A_c n_c c_c xs_c (zOf g_c (Limb.val xs_c)) 20 := ZZ.of ⟨i_c, rfl, hc_c, by omega⟩
  generalize zOf g_c (Limb.val xs_c) = z_c at h_c
  have h_ra := row2_new w 25 (.bool g_a) (.slice A_a n_a c_a)
  have bn := below_new w (.cells #[Value.bool g_a, Value.slice A_a n_a c_a] 25)
  replace h_a := h_a.below bn
  replace h_b := h_b.below bn
  replace h_c := h_c.below bn
  replace HTab := Lib.hid (HTab.out.below bn)
  replace bw := below_two bw bn
  clear bn
  have h_rb := row2_new (w.alloc (.cells #[Value.bool g_a, Value.slice A_a n_a c_a] 25)) 25 (.bool g_b) (.slice A_b n_b c_b)
  have bn := below_new (w.alloc (.cells #[Value.bool g_a, Value.slice A_a n_a c_a] 25)) (.cells #[Value.bool g_b, Value.slice A_b n_b c_b] 25)
  replace h_a := h_a.below bn
  replace h_b := h_b.below bn
  replace h_c := h_c.below bn
  replace h_ra := h_ra.below bn
  replace HTab := Lib.hid (HTab.out.below bn)
  replace bw := below_two bw bn
  clear bn
  have h_rc := row2_new ((w.alloc (.cells #[Value.bool g_a, Value.slice A_a n_a c_a] 25)).alloc (.cells #[Value.bool g_b, Value.slice A_b n_b c_b] 25)) 25 (.bool g_c) (.slice A_c n_c c_c)
  have bn := below_new ((w.alloc (.cells #[Value.bool g_a, Value.slice A_a n_a c_a] 25)).alloc (.cells #[Value.bool g_b, Value.slice A_b n_b c_b] 25)) (.cells #[Value.bool g_c, Value.slice A_c n_c c_c] 25)
  replace h_a := h_a.below bn
  replace h_b := h_b.below bn
  replace h_c := h_c.below bn
  replace h_ra := h_ra.below bn
  replace h_rb := h_rb.below bn
  replace HTab := Lib.hid (HTab.out.below bn)
  replace bw := below_two bw bn
  clear bn
  simp only [World.size_alloc] at h_ra h_rb h_rc
  have hT : (decT z_a.natAbs).length ≤ 2000 := Nat.le_trans (decT_len_limbs (lt_pow h_a.nn)) (by decide)
  obtain ⟨S, hS⟩ : ∃ S, strOf (zT z_a) = S := ⟨_, rfl⟩
  obtain ⟨ho, hv⟩ := zback hS hT
  have hS := Lib.hid hS
  have ho := Lib.hid ho
  have hv := Lib.hid hv
  have hx1 := cmpZ_bounds z_a z_b
  have hs1 := cmpZ_bounds z_c 0
  have hy := cmpZ_swap z_a z_b
  have hadd := cmpZ_add z_a z_b z_c
  have hneg := cmpZ_neg z_a z_b
  have hmul := cmpZ_mul z_a z_b z_c
  obtain ⟨x, hx⟩ : ∃ x, cmpZ z_a z_b = x := ⟨_, rfl⟩
  obtain ⟨s, hs⟩ : ∃ s, cmpZ z_c 0 = s := ⟨_, rfl⟩
  rw [hx] at hx1 hy hadd hneg hmul
  rw [hs] at hs1 hmul
  obtain ⟨y, ey⟩ : ∃ y, -x = y := ⟨_, rfl⟩
  obtain ⟨t, et⟩ : ∃ t, x * s = t := ⟨_, rfl⟩
  have yb : -1 ≤ y ∧ y ≤ 1 := by omega
  have tb : -1 ≤ t ∧ t ≤ 1 := by rw [← et]; exact sign_mul hx1 hs1
  have ex : -y = x := by omega
  have e1 : IntKind.i64.wrap (-y) = x := by rw [ex]; exact (wrap_sign hx1).1
  have e2 : IntKind.i64.wrap (-x) = y := by rw [ey]; exact (wrap_sign yb).1
  have e3 : IntKind.i64.wrap (x * s) = t := by rw [et]; exact (wrap_sign tb).1
  rw [ey] at hy hneg
  rw [et] at hmul
  have hx := Lib.hid hx
  have hs := Lib.hid hs
  have hy := Lib.hid hy
  have hadd := Lib.hid hadd
  have hneg := Lib.hid hneg
  have hmul := Lib.hid hmul
  clear ey et yb tb ex hx1 hs1 hT
  go_enter Tryd.func4, Tryd.ntmps4
  go_wp2_with fail
  generalize (((w.alloc (.cells #[Value.bool g_a, Value.slice A_a n_a c_a] 25)).alloc (.cells #[Value.bool g_b, Value.slice A_b n_b c_b] 25)).alloc (.cells #[Value.bool g_c, Value.slice A_c n_c c_c] 25)) = wP at *
  obtain ⟨q_c, eg⟩ : ∃ g, g = w.heap.size + 1 + 1 := ⟨_, rfl⟩
  rw [← eg] at h_rc ⊢
  have E_c := Lib.hid eg
  clear eg
  obtain ⟨q_b, eg⟩ : ∃ g, g = w.heap.size + 1 := ⟨_, rfl⟩
  rw [← eg] at h_rb ⊢
  have E_b := Lib.hid eg
  clear eg
  obtain ⟨q_a, eg⟩ : ∃ g, g = w.heap.size := ⟨_, rfl⟩
  rw [← eg] at h_ra ⊢
  have E_a := Lib.hid eg
  clear eg
  refine (wCmp_c h_a h_b (by decide) (by decide) x hx.out).mono ?_
  rintro e w1 ⟨rfl, bn⟩
  replace h_a := h_a.below bn
  replace h_b := h_b.below bn
  replace h_c := h_c.below bn
  replace h_ra := h_ra.below bn
  replace h_rb := h_rb.below bn
  replace h_rc := h_rc.below bn
  replace HTab := Lib.hid (HTab.out.below bn)
  replace bw := below_two bw bn
  clear bn
  go_wp2_with fail
  generalize w1 = wS at *
  have KA : RowKit.Hid (∀ wx, Below wS.heap.size wS wx → (wx.cell? ⟨q_a, 0, none⟩ = some (.bool g_a) ∧ wx.cell? ⟨q_a, 1, none⟩ = some (.slice A_a n_a c_a) ∧ wx.cell? ⟨q_b, 0, none⟩ = some (.bool g_b) ∧ wx.cell? ⟨q_b, 1, none⟩ = some (.slice A_b n_b c_b) ∧ wx.cell? ⟨q_c, 0, none⟩ = some (.bool g_c) ∧ wx.cell? ⟨q_c, 1, none⟩ = some (.slice A_c n_c c_c) ∧ Below wS.heap.size wS wx)) := fun wx hb => ⟨(h_ra.below hb).c0, (h_ra.below hb).c1, (h_rb.below hb).c0, (h_rb.below hb).c1, (h_rc.below hb).c0, (h_rc.below hb).c1, hb⟩
  have KS : RowKit.Hid (∀ wx w2, (wx.cell? ⟨q_a, 0, none⟩ = some (.bool g_a) ∧ wx.cell? ⟨q_a, 1, none⟩ = some (.slice A_a n_a c_a) ∧ wx.cell? ⟨q_b, 0, none⟩ = some (.bool g_b) ∧ wx.cell? ⟨q_b, 1, none⟩ = some (.slice A_b n_b c_b) ∧ wx.cell? ⟨q_c, 0, none⟩ = some (.bool g_c) ∧ wx.cell? ⟨q_c, 1, none⟩ = some (.slice A_c n_c c_c) ∧ Below wS.heap.size wS wx) → Below wx.heap.size wx w2 → (w2.cell? ⟨q_a, 0, none⟩ = some (.bool g_a) ∧ w2.cell? ⟨q_a, 1, none⟩ = some (.slice A_a n_a c_a) ∧ w2.cell? ⟨q_b, 0, none⟩ = some (.bool g_b) ∧ w2.cell? ⟨q_b, 1, none⟩ = some (.slice A_b n_b c_b) ∧ w2.cell? ⟨q_c, 0, none⟩ = some (.bool g_c) ∧ w2.cell? ⟨q_c, 1, none⟩ = some (.slice A_c n_c c_c) ∧ Below wS.heap.size wS w2)) := fun wx w2 hS bn => KA.out _ (below_two hS.2.2.2.2.2.2 bn)
  have KU : RowKit.Hid (∀ (wx : World) (q : Nat) (u v : Value), (wx.cell? ⟨q_a, 0, none⟩ = some (.bool g_a) ∧ wx.cell? ⟨q_a, 1, none⟩ = some (.slice A_a n_a c_a) ∧ wx.cell? ⟨q_b, 0, none⟩ = some (.bool g_b) ∧ wx.cell? ⟨q_b, 1, none⟩ = some (.slice A_b n_b c_b) ∧ wx.cell? ⟨q_c, 0, none⟩ = some (.bool g_c) ∧ wx.cell? ⟨q_c, 1, none⟩ = some (.slice A_c n_c c_c) ∧ Below wS.heap.size wS wx) → wS.heap.size ≤ q → (((wx.setCell ⟨q, 0, none⟩ u).setCell ⟨q, 1, none⟩ v).cell? ⟨q_a, 0, none⟩ = some (.bool g_a) ∧ ((wx.setCell ⟨q, 0, none⟩ u).setCell ⟨q, 1, none⟩ v).cell? ⟨q_a, 1, none⟩ = some (.slice A_a n_a c_a) ∧ ((wx.setCell ⟨q, 0, none⟩ u).setCell ⟨q, 1, none⟩ v).cell? ⟨q_b, 0, none⟩ = some (.bool g_b) ∧ ((wx.setCell ⟨q, 0, none⟩ u).setCell ⟨q, 1, none⟩ v).cell? ⟨q_b, 1, none⟩ = some (.slice A_b n_b c_b) ∧ ((wx.setCell ⟨q, 0, none⟩ u).setCell ⟨q, 1, none⟩ v).cell? ⟨q_c, 0, none⟩ = some (.bool g_c) ∧ ((wx.setCell ⟨q, 0, none⟩ u).setCell ⟨q, 1, none⟩ v).cell? ⟨q_c, 1, none⟩ = some (.slice A_c n_c c_c) ∧ Below wS.heap.size wS ((wx.setCell ⟨q, 0, none⟩ u).setCell ⟨q, 1, none⟩ v))) := fun wx q u v hS hq => KA.out _ ((hS.2.2.2.2.2.2.setCell (p := ⟨q, 0, none⟩) hq u).setCell (p := ⟨q, 1, none⟩) hq v)
  have K_a : RowKit.Hid (∀ wx, (wx.cell? ⟨q_a, 0, none⟩ = some (.bool g_a) ∧ wx.cell? ⟨q_a, 1, none⟩ = some (.slice A_a n_a c_a) ∧ wx.cell? ⟨q_b, 0, none⟩ = some (.bool g_b) ∧ wx.cell? ⟨q_b, 1, none⟩ = some (.slice A_b n_b c_b) ∧ wx.cell? ⟨q_c, 0, none⟩ = some (.bool g_c) ∧ wx.cell? ⟨q_c, 1, none⟩ = some (.slice A_c n_c c_c) ∧ Below wS.heap.size wS wx) → ZZ wx g_a A_a n_a c_a xs_a z_a 20) := fun wx hS => h_a.below hS.2.2.2.2.2.2
  have K_b : RowKit.Hid (∀ wx, (wx.cell? ⟨q_a, 0, none⟩ = some (.bool g_a) ∧ wx.cell? ⟨q_a, 1, none⟩ = some (.slice A_a n_a c_a) ∧ wx.cell? ⟨q_b, 0, none⟩ = some (.bool g_b) ∧ wx.cell? ⟨q_b, 1, none⟩ = some (.slice A_b n_b c_b) ∧ wx.cell? ⟨q_c, 0, none⟩ = some (.bool g_c) ∧ wx.cell? ⟨q_c, 1, none⟩ = some (.slice A_c n_c c_c) ∧ Below wS.heap.size wS wx) → ZZ wx g_b A_b n_b c_b xs_b z_b 20) := fun wx hS => h_b.below hS.2.2.2.2.2.2
  have K_c : RowKit.Hid (∀ wx, (wx.cell? ⟨q_a, 0, none⟩ = some (.bool g_a) ∧ wx.cell? ⟨q_a, 1, none⟩ = some (.slice A_a n_a c_a) ∧ wx.cell? ⟨q_b, 0, none⟩ = some (.bool g_b) ∧ wx.cell? ⟨q_b, 1, none⟩ = some (.slice A_b n_b c_b) ∧ wx.cell? ⟨q_c, 0, none⟩ = some (.bool g_c) ∧ wx.cell? ⟨q_c, 1, none⟩ = some (.slice A_c n_c c_c) ∧ Below wS.heap.size wS wx) → ZZ wx g_c A_c n_c c_c xs_c z_c 20) := fun wx hS => h_c.below hS.2.2.2.2.2.2
  have KR_a : RowKit.Hid (∀ wx, (wx.cell? ⟨q_a, 0, none⟩ = some (.bool g_a) ∧ wx.cell? ⟨q_a, 1, none⟩ = some (.slice A_a n_a c_a) ∧ wx.cell? ⟨q_b, 0, none⟩ = some (.bool g_b) ∧ wx.cell? ⟨q_b, 1, none⟩ = some (.slice A_b n_b c_b) ∧ wx.cell? ⟨q_c, 0, none⟩ = some (.bool g_c) ∧ wx.cell? ⟨q_c, 1, none⟩ = some (.slice A_c n_c c_c) ∧ Below wS.heap.size wS wx) → Row2 wx q_a 25 (.bool g_a) (.slice A_a n_a c_a)) := fun wx hS => h_ra.below hS.2.2.2.2.2.2
  have KR_b : RowKit.Hid (∀ wx, (wx.cell? ⟨q_a, 0, none⟩ = some (.bool g_a) ∧ wx.cell? ⟨q_a, 1, none⟩ = some (.slice A_a n_a c_a) ∧ wx.cell? ⟨q_b, 0, none⟩ = some (.bool g_b) ∧ wx.cell? ⟨q_b, 1, none⟩ = some (.slice A_b n_b c_b) ∧ wx.cell? ⟨q_c, 0, none⟩ = some (.bool g_c) ∧ wx.cell? ⟨q_c, 1, none⟩ = some (.slice A_c n_c c_c) ∧ Below wS.heap.size wS wx) → Row2 wx q_b 25 (.bool g_b) (.slice A_b n_b c_b)) := fun wx hS => h_rb.below hS.2.2.2.2.2.2
  have KR_c : RowKit.Hid (∀ wx, (wx.cell? ⟨q_a, 0, none⟩ = some (.bool g_a) ∧ wx.cell? ⟨q_a, 1, none⟩ = some (.slice A_a n_a c_a) ∧ wx.cell? ⟨q_b, 0, none⟩ = some (.bool g_b) ∧ wx.cell? ⟨q_b, 1, none⟩ = some (.slice A_b n_b c_b) ∧ wx.cell? ⟨q_c, 0, none⟩ = some (.bool g_c) ∧ wx.cell? ⟨q_c, 1, none⟩ = some (.slice A_c n_c c_c) ∧ Below wS.heap.size wS wx) → Row2 wx q_c 25 (.bool g_c) (.slice A_c n_c c_c)) := fun wx hS => h_rc.below hS.2.2.2.2.2.2
  have KT : RowKit.Hid (∀ wx, (wx.cell? ⟨q_a, 0, none⟩ = some (.bool g_a) ∧ wx.cell? ⟨q_a, 1, none⟩ = some (.slice A_a n_a c_a) ∧ wx.cell? ⟨q_b, 0, none⟩ = some (.bool g_b) ∧ wx.cell? ⟨q_b, 1, none⟩ = some (.slice A_b n_b c_b) ∧ wx.cell? ⟨q_c, 0, none⟩ = some (.bool g_c) ∧ wx.cell? ⟨q_c, 1, none⟩ = some (.slice A_c n_c c_c) ∧ Below wS.heap.size wS wx) → Tab wx) := fun wx hS => HTab.out.below hS.2.2.2.2.2.2
  have HF := Lib.hid bw
  have KF : RowKit.Hid (∀ wx, (wx.cell? ⟨q_a, 0, none⟩ = some (.bool g_a) ∧ wx.cell? ⟨q_a, 1, none⟩ = some (.slice A_a n_a c_a) ∧ wx.cell? ⟨q_b, 0, none⟩ = some (.bool g_b) ∧ wx.cell? ⟨q_b, 1, none⟩ = some (.slice A_b n_b c_b) ∧ wx.cell? ⟨q_c, 0, none⟩ = some (.bool g_c) ∧ wx.cell? ⟨q_c, 1, none⟩ = some (.slice A_c n_c c_c) ∧ Below wS.heap.size wS wx) → Below w.heap.size w wx) := fun wx hS => below_two HF.out hS.2.2.2.2.2.2
  obtain ⟨d_a0, d_a1, d_b0, d_b1, d_c0, d_c1, _⟩ := KA.out _ (Below.refl _ _)
  clear h_a h_b h_c h_ra h_rb h_rc HTab bw
  clear HF
  go_cut [57] from 31 to 56 (fun s0 wx => s0 = .bool false ∧ RowKit.Hid (wx.cell? ⟨q_a, 0, none⟩ = some (.bool g_a) ∧ wx.cell? ⟨q_a, 1, none⟩ = some (.slice A_a n_a c_a) ∧ wx.cell? ⟨q_b, 0, none⟩ = some (.bool g_b) ∧ wx.cell? ⟨q_b, 1, none⟩ = some (.slice A_b n_b c_b) ∧ wx.cell? ⟨q_c, 0, none⟩ = some (.bool g_c) ∧ wx.cell? ⟨q_c, 1, none⟩ = some (.slice A_c n_c c_c) ∧ Below wS.heap.size wS wx))
  case first =>
    try dsimp only [List.append]
    go_region_held3 (fun wx => wx.cell? ⟨q_a, 0, none⟩ = some (.bool g_a) ∧ wx.cell? ⟨q_a, 1, none⟩ = some (.slice A_a n_a c_a) ∧ wx.cell? ⟨q_b, 0, none⟩ = some (.bool g_b) ∧ wx.cell? ⟨q_b, 1, none⟩ = some (.slice A_b n_b c_b) ∧ wx.cell? ⟨q_c, 0, none⟩ = some (.bool g_c) ∧ wx.cell? ⟨q_c, 1, none⟩ = some (.slice A_c n_c c_c) ∧ Below wS.heap.size wS wx) (first | assumption | exact KA.out _ ((Below.refl _ _).drew) | (with_reducible refine KS.out _ _ ?_ (below_new _ _); assumption)) (first
      | (go_at_call 14; (have mk := bn_nb; clear mk); (with_reducible refine (wCmp_c (h_na.below bn_nb) h_nb (by decide) (by decide) y hneg.out).mono ?_); rintro e w2 ⟨rfl, bn_y2⟩; have hS2 := KS.out _ _ (by assumption) bn_y2)
      | (go_at_call 12; (have mk := bn_na; clear mk); (with_reducible refine (wNeg_c (K_b.out _ (by assumption)) (by decide) (-z_b) rfl).mono ?_); rintro e w2 ⟨A_nb, n_nb, c_nb, rfl, h_nb, bn_nb⟩; have hS2 := KS.out _ _ (by assumption) bn_nb)
      | (go_at_call 12; (have mk := bn_x2; clear mk); (with_reducible refine (wNeg_c (K_a.out _ (by assumption)) (by decide) (-z_a) rfl).mono ?_); rintro e w2 ⟨A_na, n_na, c_na, rfl, h_na, bn_na⟩; have hS2 := KS.out _ _ (by assumption) bn_na)
      | (go_at_call 14; (have mk := bn_bc; clear mk); (with_reducible refine (wCmp_c (h_ac.below bn_bc) h_bc (by decide) (by decide) x hadd.out).mono ?_); rintro e w2 ⟨rfl, bn_x2⟩; have hS2 := KS.out _ _ (by assumption) bn_x2)
      | (go_at_call 8; (have mk := bn_ac; clear mk); (with_reducible refine (wAdd_c (K_b.out _ (by assumption)) (K_c.out _ (by assumption)) 21 (by decide) (by decide) (by decide) (z_b + z_c) rfl).mono ?_); rintro e w2 ⟨A_bc, n_bc, c_bc, rfl, h_bc, bn_bc⟩; have hS2 := KS.out _ _ (by assumption) bn_bc)
      | (go_at_call 8; (have mk := bn_y; clear mk); (with_reducible refine (wAdd_c (K_a.out _ (by assumption)) (K_c.out _ (by assumption)) 21 (by decide) (by decide) (by decide) (z_a + z_c) rfl).mono ?_); rintro e w2 ⟨A_ac, n_ac, c_ac, rfl, h_ac, bn_ac⟩; have hS2 := KS.out _ _ (by assumption) bn_ac)
      | (go_at_call 14; (with_reducible refine (wCmp_c (K_b.out _ (by assumption)) (K_a.out _ (by assumption)) (by decide) (by decide) y hy.out).mono ?_); rintro e w2 ⟨rfl, bn_y⟩; have hS2 := KS.out _ _ (by assumption) bn_y))
    all_goals (go_wp2; go_meet)
    all_goals (case rel => exact ⟨rfl, Lib.hid (by assumption)⟩)
  case rest =>
    obtain ⟨rfl, t⟩ := hcut
    have hS0 := t.out
    clear t
    have h_a := K_a.out _ hS0
    have h_b := K_b.out _ hS0
    have h_c := K_c.out _ hS0
    have h_ra := KR_a.out _ hS0
    have h_rb := KR_b.out _ hS0
    have h_rc := KR_c.out _ hS0
    have HTab := Lib.hid (KT.out _ hS0)
    have bw := KF.out _ hS0
    clear hS0 KA KS KU KT KF K_a K_b K_c KR_a KR_b KR_c d_a0 d_a1 d_b0 d_b1 d_c0 d_c1
    go_wp2_with fail
    generalize wc = wS at *
    have KA : RowKit.Hid (∀ wx, Below wS.heap.size wS wx → (wx.cell? ⟨q_a, 0, none⟩ = some (.bool g_a) ∧ wx.cell? ⟨q_a, 1, none⟩ = some (.slice A_a n_a c_a) ∧ wx.cell? ⟨q_b, 0, none⟩ = some (.bool g_b) ∧ wx.cell? ⟨q_b, 1, none⟩ = some (.slice A_b n_b c_b) ∧ wx.cell? ⟨q_c, 0, none⟩ = some (.bool g_c) ∧ wx.cell? ⟨q_c, 1, none⟩ = some (.slice A_c n_c c_c) ∧ Below wS.heap.size wS wx)) := fun wx hb => ⟨(h_ra.below hb).c0, (h_ra.below hb).c1, (h_rb.below hb).c0, (h_rb.below hb).c1, (h_rc.below hb).c0, (h_rc.below hb).c1, hb⟩
    have KS : RowKit.Hid (∀ wx w2, (wx.cell? ⟨q_a, 0, none⟩ = some (.bool g_a) ∧ wx.cell? ⟨q_a, 1, none⟩ = some (.slice A_a n_a c_a) ∧ wx.cell? ⟨q_b, 0, none⟩ = some (.bool g_b) ∧ wx.cell? ⟨q_b, 1, none⟩ = some (.slice A_b n_b c_b) ∧ wx.cell? ⟨q_c, 0, none⟩ = some (.bool g_c) ∧ wx.cell? ⟨q_c, 1, none⟩ = some (.slice A_c n_c c_c) ∧ Below wS.heap.size wS wx) → Below wx.heap.size wx w2 → (w2.cell? ⟨q_a, 0, none⟩ = some (.bool g_a) ∧ w2.cell? ⟨q_a, 1, none⟩ = some (.slice A_a n_a c_a) ∧ w2.cell? ⟨q_b, 0, none⟩ = some (.bool g_b) ∧ w2.cell? ⟨q_b, 1, none⟩ = some (.slice A_b n_b c_b) ∧ w2.cell? ⟨q_c, 0, none⟩ = some (.bool g_c) ∧ w2.cell? ⟨q_c, 1, none⟩ = some (.slice A_c n_c c_c) ∧ Below wS.heap.size wS w2)) := fun wx w2 hS bn => KA.out _ (below_two hS.2.2.2.2.2.2 bn)
    have KU : RowKit.Hid (∀ (wx : World) (q : Nat) (u v : Value), (wx.cell? ⟨q_a, 0, none⟩ = some (.bool g_a) ∧ wx.cell? ⟨q_a, 1, none⟩ = some (.slice A_a n_a c_a) ∧ wx.cell? ⟨q_b, 0, none⟩ = some (.bool g_b) ∧ wx.cell? ⟨q_b, 1, none⟩ = some (.slice A_b n_b c_b) ∧ wx.cell? ⟨q_c, 0, none⟩ = some (.bool g_c) ∧ wx.cell? ⟨q_c, 1, none⟩ = some (.slice A_c n_c c_c) ∧ Below wS.heap.size wS wx) → wS.heap.size ≤ q → (((wx.setCell ⟨q, 0, none⟩ u).setCell ⟨q, 1, none⟩ v).cell? ⟨q_a, 0, none⟩ = some (.bool g_a) ∧ ((wx.setCell ⟨q, 0, none⟩ u).setCell ⟨q, 1, none⟩ v).cell? ⟨q_a, 1, none⟩ = some (.slice A_a n_a c_a) ∧ ((wx.setCell ⟨q, 0, none⟩ u).setCell ⟨q, 1, none⟩ v).cell? ⟨q_b, 0, none⟩ = some (.bool g_b) ∧ ((wx.setCell ⟨q, 0, none⟩ u).setCell ⟨q, 1, none⟩ v).cell? ⟨q_b, 1, none⟩ = some (.slice A_b n_b c_b) ∧ ((wx.setCell ⟨q, 0, none⟩ u).setCell ⟨q, 1, none⟩ v).cell? ⟨q_c, 0, none⟩ = some (.bool g_c) ∧ ((wx.setCell ⟨q, 0, none⟩ u).setCell ⟨q, 1, none⟩ v).cell? ⟨q_c, 1, none⟩ = some (.slice A_c n_c c_c) ∧ Below wS.heap.size wS ((wx.setCell ⟨q, 0, none⟩ u).setCell ⟨q, 1, none⟩ v))) := fun wx q u v hS hq => KA.out _ ((hS.2.2.2.2.2.2.setCell (p := ⟨q, 0, none⟩) hq u).setCell (p := ⟨q, 1, none⟩) hq v)
    have K_a : RowKit.Hid (∀ wx, (wx.cell? ⟨q_a, 0, none⟩ = some (.bool g_a) ∧ wx.cell? ⟨q_a, 1, none⟩ = some (.slice A_a n_a c_a) ∧ wx.cell? ⟨q_b, 0, none⟩ = some (.bool g_b) ∧ wx.cell? ⟨q_b, 1, none⟩ = some (.slice A_b n_b c_b) ∧ wx.cell? ⟨q_c, 0, none⟩ = some (.bool g_c) ∧ wx.cell? ⟨q_c, 1, none⟩ = some (.slice A_c n_c c_c) ∧ Below wS.heap.size wS wx) → ZZ wx g_a A_a n_a c_a xs_a z_a 20) := fun wx hS => h_a.below hS.2.2.2.2.2.2
    have K_b : RowKit.Hid (∀ wx, (wx.cell? ⟨q_a, 0, none⟩ = some (.bool g_a) ∧ wx.cell? ⟨q_a, 1, none⟩ = some (.slice A_a n_a c_a) ∧ wx.cell? ⟨q_b, 0, none⟩ = some (.bool g_b) ∧ wx.cell? ⟨q_b, 1, none⟩ = some (.slice A_b n_b c_b) ∧ wx.cell? ⟨q_c, 0, none⟩ = some (.bool g_c) ∧ wx.cell? ⟨q_c, 1, none⟩ = some (.slice A_c n_c c_c) ∧ Below wS.heap.size wS wx) → ZZ wx g_b A_b n_b c_b xs_b z_b 20) := fun wx hS => h_b.below hS.2.2.2.2.2.2
    have K_c : RowKit.Hid (∀ wx, (wx.cell? ⟨q_a, 0, none⟩ = some (.bool g_a) ∧ wx.cell? ⟨q_a, 1, none⟩ = some (.slice A_a n_a c_a) ∧ wx.cell? ⟨q_b, 0, none⟩ = some (.bool g_b) ∧ wx.cell? ⟨q_b, 1, none⟩ = some (.slice A_b n_b c_b) ∧ wx.cell? ⟨q_c, 0, none⟩ = some (.bool g_c) ∧ wx.cell? ⟨q_c, 1, none⟩ = some (.slice A_c n_c c_c) ∧ Below wS.heap.size wS wx) → ZZ wx g_c A_c n_c c_c xs_c z_c 20) := fun wx hS => h_c.below hS.2.2.2.2.2.2
    have KR_a : RowKit.Hid (∀ wx, (wx.cell? ⟨q_a, 0, none⟩ = some (.bool g_a) ∧ wx.cell? ⟨q_a, 1, none⟩ = some (.slice A_a n_a c_a) ∧ wx.cell? ⟨q_b, 0, none⟩ = some (.bool g_b) ∧ wx.cell? ⟨q_b, 1, none⟩ = some (.slice A_b n_b c_b) ∧ wx.cell? ⟨q_c, 0, none⟩ = some (.bool g_c) ∧ wx.cell? ⟨q_c, 1, none⟩ = some (.slice A_c n_c c_c) ∧ Below wS.heap.size wS wx) → Row2 wx q_a 25 (.bool g_a) (.slice A_a n_a c_a)) := fun wx hS => h_ra.below hS.2.2.2.2.2.2
    have KR_b : RowKit.Hid (∀ wx, (wx.cell? ⟨q_a, 0, none⟩ = some (.bool g_a) ∧ wx.cell? ⟨q_a, 1, none⟩ = some (.slice A_a n_a c_a) ∧ wx.cell? ⟨q_b, 0, none⟩ = some (.bool g_b) ∧ wx.cell? ⟨q_b, 1, none⟩ = some (.slice A_b n_b c_b) ∧ wx.cell? ⟨q_c, 0, none⟩ = some (.bool g_c) ∧ wx.cell? ⟨q_c, 1, none⟩ = some (.slice A_c n_c c_c) ∧ Below wS.heap.size wS wx) → Row2 wx q_b 25 (.bool g_b) (.slice A_b n_b c_b)) := fun wx hS => h_rb.below hS.2.2.2.2.2.2
    have KR_c : RowKit.Hid (∀ wx, (wx.cell? ⟨q_a, 0, none⟩ = some (.bool g_a) ∧ wx.cell? ⟨q_a, 1, none⟩ = some (.slice A_a n_a c_a) ∧ wx.cell? ⟨q_b, 0, none⟩ = some (.bool g_b) ∧ wx.cell? ⟨q_b, 1, none⟩ = some (.slice A_b n_b c_b) ∧ wx.cell? ⟨q_c, 0, none⟩ = some (.bool g_c) ∧ wx.cell? ⟨q_c, 1, none⟩ = some (.slice A_c n_c c_c) ∧ Below wS.heap.size wS wx) → Row2 wx q_c 25 (.bool g_c) (.slice A_c n_c c_c)) := fun wx hS => h_rc.below hS.2.2.2.2.2.2
    have KT : RowKit.Hid (∀ wx, (wx.cell? ⟨q_a, 0, none⟩ = some (.bool g_a) ∧ wx.cell? ⟨q_a, 1, none⟩ = some (.slice A_a n_a c_a) ∧ wx.cell? ⟨q_b, 0, none⟩ = some (.bool g_b) ∧ wx.cell? ⟨q_b, 1, none⟩ = some (.slice A_b n_b c_b) ∧ wx.cell? ⟨q_c, 0, none⟩ = some (.bool g_c) ∧ wx.cell? ⟨q_c, 1, none⟩ = some (.slice A_c n_c c_c) ∧ Below wS.heap.size wS wx) → Tab wx) := fun wx hS => HTab.out.below hS.2.2.2.2.2.2
    have HF := Lib.hid bw
    have KF : RowKit.Hid (∀ wx, (wx.cell? ⟨q_a, 0, none⟩ = some (.bool g_a) ∧ wx.cell? ⟨q_a, 1, none⟩ = some (.slice A_a n_a c_a) ∧ wx.cell? ⟨q_b, 0, none⟩ = some (.bool g_b) ∧ wx.cell? ⟨q_b, 1, none⟩ = some (.slice A_b n_b c_b) ∧ wx.cell? ⟨q_c, 0, none⟩ = some (.bool g_c) ∧ wx.cell? ⟨q_c, 1, none⟩ = some (.slice A_c n_c c_c) ∧ Below wS.heap.size wS wx) → Below w.heap.size w wx) := fun wx hS => below_two HF.out hS.2.2.2.2.2.2
    obtain ⟨d_a0, d_a1, d_b0, d_b1, d_c0, d_c1, _⟩ := KA.out _ (Below.refl _ _)
    clear h_a h_b h_c h_ra h_rb h_rc HTab bw
    clear HF
    go_cut [8] from 58 to 60 (fun s0 wx => s0 = .int .i64 s ∧ RowKit.Hid (wx.cell? ⟨q_a, 0, none⟩ = some (.bool g_a) ∧ wx.cell? ⟨q_a, 1, none⟩ = some (.slice A_a n_a c_a) ∧ wx.cell? ⟨q_b, 0, none⟩ = some (.bool g_b) ∧ wx.cell? ⟨q_b, 1, none⟩ = some (.slice A_b n_b c_b) ∧ wx.cell? ⟨q_c, 0, none⟩ = some (.bool g_c) ∧ wx.cell? ⟨q_c, 1, none⟩ = some (.slice A_c n_c c_c) ∧ Below wS.heap.size wS wx))
    case first =>
      try dsimp only [List.append]
      go_region_held3 (fun wx => wx.cell? ⟨q_a, 0, none⟩ = some (.bool g_a) ∧ wx.cell? ⟨q_a, 1, none⟩ = some (.slice A_a n_a c_a) ∧ wx.cell? ⟨q_b, 0, none⟩ = some (.bool g_b) ∧ wx.cell? ⟨q_b, 1, none⟩ = some (.slice A_b n_b c_b) ∧ wx.cell? ⟨q_c, 0, none⟩ = some (.bool g_c) ∧ wx.cell? ⟨q_c, 1, none⟩ = some (.slice A_c n_c c_c) ∧ Below wS.heap.size wS wx) (first | assumption | exact KA.out _ ((Below.refl _ _).drew) | (with_reducible refine KS.out _ _ ?_ (below_new _ _); assumption)) (first
        | (go_at_call 14; (have mk := bn_z; clear mk); (with_reducible refine (wCmp_c (K_c.out _ (by assumption)) h_z (by decide) (by decide) s hs.out).mono ?_); rintro e w2 ⟨rfl, bn_s⟩; have hS2 := KS.out _ _ (by assumption) bn_s)
        | (go_at_call 11; (with_reducible refine (wOf_c (0) (by decide) (by decide) _).mono ?_); rintro e w2 ⟨A_z, n_z, c_z, rfl, h_z, bn_z⟩; have hS2 := KS.out _ _ (by assumption) bn_z))
      all_goals (go_wp2; go_meet)
      all_goals (case rel => exact ⟨rfl, Lib.hid (by assumption)⟩)
    case rest =>
      obtain ⟨rfl, t⟩ := hcut
      have hS0 := t.out
      clear t
      have h_a := K_a.out _ hS0
      have h_b := K_b.out _ hS0
      have h_c := K_c.out _ hS0
      have h_ra := KR_a.out _ hS0
      have h_rb := KR_b.out _ hS0
      have h_rc := KR_c.out _ hS0
      have HTab := Lib.hid (KT.out _ hS0)
      have bw := KF.out _ hS0
      clear hS0 KA KS KU KT KF K_a K_b K_c KR_a KR_b KR_c d_a0 d_a1 d_b0 d_b1 d_c0 d_c1
      go_wp2_with fail
      generalize wc = wS at *
      have KA : RowKit.Hid (∀ wx, Below wS.heap.size wS wx → (wx.cell? ⟨q_a, 0, none⟩ = some (.bool g_a) ∧ wx.cell? ⟨q_a, 1, none⟩ = some (.slice A_a n_a c_a) ∧ wx.cell? ⟨q_b, 0, none⟩ = some (.bool g_b) ∧ wx.cell? ⟨q_b, 1, none⟩ = some (.slice A_b n_b c_b) ∧ wx.cell? ⟨q_c, 0, none⟩ = some (.bool g_c) ∧ wx.cell? ⟨q_c, 1, none⟩ = some (.slice A_c n_c c_c) ∧ Below wS.heap.size wS wx)) := fun wx hb => ⟨(h_ra.below hb).c0, (h_ra.below hb).c1, (h_rb.below hb).c0, (h_rb.below hb).c1, (h_rc.below hb).c0, (h_rc.below hb).c1, hb⟩
      have KS : RowKit.Hid (∀ wx w2, (wx.cell? ⟨q_a, 0, none⟩ = some (.bool g_a) ∧ wx.cell? ⟨q_a, 1, none⟩ = some (.slice A_a n_a c_a) ∧ wx.cell? ⟨q_b, 0, none⟩ = some (.bool g_b) ∧ wx.cell? ⟨q_b, 1, none⟩ = some (.slice A_b n_b c_b) ∧ wx.cell? ⟨q_c, 0, none⟩ = some (.bool g_c) ∧ wx.cell? ⟨q_c, 1, none⟩ = some (.slice A_c n_c c_c) ∧ Below wS.heap.size wS wx) → Below wx.heap.size wx w2 → (w2.cell? ⟨q_a, 0, none⟩ = some (.bool g_a) ∧ w2.cell? ⟨q_a, 1, none⟩ = some (.slice A_a n_a c_a) ∧ w2.cell? ⟨q_b, 0, none⟩ = some (.bool g_b) ∧ w2.cell? ⟨q_b, 1, none⟩ = some (.slice A_b n_b c_b) ∧ w2.cell? ⟨q_c, 0, none⟩ = some (.bool g_c) ∧ w2.cell? ⟨q_c, 1, none⟩ = some (.slice A_c n_c c_c) ∧ Below wS.heap.size wS w2)) := fun wx w2 hS bn => KA.out _ (below_two hS.2.2.2.2.2.2 bn)
      have KU : RowKit.Hid (∀ (wx : World) (q : Nat) (u v : Value), (wx.cell? ⟨q_a, 0, none⟩ = some (.bool g_a) ∧ wx.cell? ⟨q_a, 1, none⟩ = some (.slice A_a n_a c_a) ∧ wx.cell? ⟨q_b, 0, none⟩ = some (.bool g_b) ∧ wx.cell? ⟨q_b, 1, none⟩ = some (.slice A_b n_b c_b) ∧ wx.cell? ⟨q_c, 0, none⟩ = some (.bool g_c) ∧ wx.cell? ⟨q_c, 1, none⟩ = some (.slice A_c n_c c_c) ∧ Below wS.heap.size wS wx) → wS.heap.size ≤ q → (((wx.setCell ⟨q, 0, none⟩ u).setCell ⟨q, 1, none⟩ v).cell? ⟨q_a, 0, none⟩ = some (.bool g_a) ∧ ((wx.setCell ⟨q, 0, none⟩ u).setCell ⟨q, 1, none⟩ v).cell? ⟨q_a, 1, none⟩ = some (.slice A_a n_a c_a) ∧ ((wx.setCell ⟨q, 0, none⟩ u).setCell ⟨q, 1, none⟩ v).cell? ⟨q_b, 0, none⟩ = some (.bool g_b) ∧ ((wx.setCell ⟨q, 0, none⟩ u).setCell ⟨q, 1, none⟩ v).cell? ⟨q_b, 1, none⟩ = some (.slice A_b n_b c_b) ∧ ((wx.setCell ⟨q, 0, none⟩ u).setCell ⟨q, 1, none⟩ v).cell? ⟨q_c, 0, none⟩ = some (.bool g_c) ∧ ((wx.setCell ⟨q, 0, none⟩ u).setCell ⟨q, 1, none⟩ v).cell? ⟨q_c, 1, none⟩ = some (.slice A_c n_c c_c) ∧ Below wS.heap.size wS ((wx.setCell ⟨q, 0, none⟩ u).setCell ⟨q, 1, none⟩ v))) := fun wx q u v hS hq => KA.out _ ((hS.2.2.2.2.2.2.setCell (p := ⟨q, 0, none⟩) hq u).setCell (p := ⟨q, 1, none⟩) hq v)
      have K_a : RowKit.Hid (∀ wx, (wx.cell? ⟨q_a, 0, none⟩ = some (.bool g_a) ∧ wx.cell? ⟨q_a, 1, none⟩ = some (.slice A_a n_a c_a) ∧ wx.cell? ⟨q_b, 0, none⟩ = some (.bool g_b) ∧ wx.cell? ⟨q_b, 1, none⟩ = some (.slice A_b n_b c_b) ∧ wx.cell? ⟨q_c, 0, none⟩ = some (.bool g_c) ∧ wx.cell? ⟨q_c, 1, none⟩ = some (.slice A_c n_c c_c) ∧ Below wS.heap.size wS wx) → ZZ wx g_a A_a n_a c_a xs_a z_a 20) := fun wx hS => h_a.below hS.2.2.2.2.2.2
      have K_b : RowKit.Hid (∀ wx, (wx.cell? ⟨q_a, 0, none⟩ = some (.bool g_a) ∧ wx.cell? ⟨q_a, 1, none⟩ = some (.slice A_a n_a c_a) ∧ wx.cell? ⟨q_b, 0, none⟩ = some (.bool g_b) ∧ wx.cell? ⟨q_b, 1, none⟩ = some (.slice A_b n_b c_b) ∧ wx.cell? ⟨q_c, 0, none⟩ = some (.bool g_c) ∧ wx.cell? ⟨q_c, 1, none⟩ = some (.slice A_c n_c c_c) ∧ Below wS.heap.size wS wx) → ZZ wx g_b A_b n_b c_b xs_b z_b 20) := fun wx hS => h_b.below hS.2.2.2.2.2.2
      have K_c : RowKit.Hid (∀ wx, (wx.cell? ⟨q_a, 0, none⟩ = some (.bool g_a) ∧ wx.cell? ⟨q_a, 1, none⟩ = some (.slice A_a n_a c_a) ∧ wx.cell? ⟨q_b, 0, none⟩ = some (.bool g_b) ∧ wx.cell? ⟨q_b, 1, none⟩ = some (.slice A_b n_b c_b) ∧ wx.cell? ⟨q_c, 0, none⟩ = some (.bool g_c) ∧ wx.cell? ⟨q_c, 1, none⟩ = some (.slice A_c n_c c_c) ∧ Below wS.heap.size wS wx) → ZZ wx g_c A_c n_c c_c xs_c z_c 20) := fun wx hS => h_c.below hS.2.2.2.2.2.2
      have KR_a : RowKit.Hid (∀ wx, (wx.cell? ⟨q_a, 0, none⟩ = some (.bool g_a) ∧ wx.cell? ⟨q_a, 1, none⟩ = some (.slice A_a n_a c_a) ∧ wx.cell? ⟨q_b, 0, none⟩ = some (.bool g_b) ∧ wx.cell? ⟨q_b, 1, none⟩ = some (.slice A_b n_b c_b) ∧ wx.cell? ⟨q_c, 0, none⟩ = some (.bool g_c) ∧ wx.cell? ⟨q_c, 1, none⟩ = some (.slice A_c n_c c_c) ∧ Below wS.heap.size wS wx) → Row2 wx q_a 25 (.bool g_a) (.slice A_a n_a c_a)) := fun wx hS => h_ra.below hS.2.2.2.2.2.2
      have KR_b : RowKit.Hid (∀ wx, (wx.cell? ⟨q_a, 0, none⟩ = some (.bool g_a) ∧ wx.cell? ⟨q_a, 1, none⟩ = some (.slice A_a n_a c_a) ∧ wx.cell? ⟨q_b, 0, none⟩ = some (.bool g_b) ∧ wx.cell? ⟨q_b, 1, none⟩ = some (.slice A_b n_b c_b) ∧ wx.cell? ⟨q_c, 0, none⟩ = some (.bool g_c) ∧ wx.cell? ⟨q_c, 1, none⟩ = some (.slice A_c n_c c_c) ∧ Below wS.heap.size wS wx) → Row2 wx q_b 25 (.bool g_b) (.slice A_b n_b c_b)) := fun wx hS => h_rb.below hS.2.2.2.2.2.2
      have KR_c : RowKit.Hid (∀ wx, (wx.cell? ⟨q_a, 0, none⟩ = some (.bool g_a) ∧ wx.cell? ⟨q_a, 1, none⟩ = some (.slice A_a n_a c_a) ∧ wx.cell? ⟨q_b, 0, none⟩ = some (.bool g_b) ∧ wx.cell? ⟨q_b, 1, none⟩ = some (.slice A_b n_b c_b) ∧ wx.cell? ⟨q_c, 0, none⟩ = some (.bool g_c) ∧ wx.cell? ⟨q_c, 1, none⟩ = some (.slice A_c n_c c_c) ∧ Below wS.heap.size wS wx) → Row2 wx q_c 25 (.bool g_c) (.slice A_c n_c c_c)) := fun wx hS => h_rc.below hS.2.2.2.2.2.2
      have KT : RowKit.Hid (∀ wx, (wx.cell? ⟨q_a, 0, none⟩ = some (.bool g_a) ∧ wx.cell? ⟨q_a, 1, none⟩ = some (.slice A_a n_a c_a) ∧ wx.cell? ⟨q_b, 0, none⟩ = some (.bool g_b) ∧ wx.cell? ⟨q_b, 1, none⟩ = some (.slice A_b n_b c_b) ∧ wx.cell? ⟨q_c, 0, none⟩ = some (.bool g_c) ∧ wx.cell? ⟨q_c, 1, none⟩ = some (.slice A_c n_c c_c) ∧ Below wS.heap.size wS wx) → Tab wx) := fun wx hS => HTab.out.below hS.2.2.2.2.2.2
      have HF := Lib.hid bw
      have KF : RowKit.Hid (∀ wx, (wx.cell? ⟨q_a, 0, none⟩ = some (.bool g_a) ∧ wx.cell? ⟨q_a, 1, none⟩ = some (.slice A_a n_a c_a) ∧ wx.cell? ⟨q_b, 0, none⟩ = some (.bool g_b) ∧ wx.cell? ⟨q_b, 1, none⟩ = some (.slice A_b n_b c_b) ∧ wx.cell? ⟨q_c, 0, none⟩ = some (.bool g_c) ∧ wx.cell? ⟨q_c, 1, none⟩ = some (.slice A_c n_c c_c) ∧ Below wS.heap.size wS wx) → Below w.heap.size w wx) := fun wx hS => below_two HF.out hS.2.2.2.2.2.2
      obtain ⟨d_a0, d_a1, d_b0, d_b1, d_c0, d_c1, _⟩ := KA.out _ (Below.refl _ _)
      clear h_a h_b h_c h_ra h_rb h_rc HTab bw
      clear HF
      go_cut [71] from 61 to 70 (fun s0 wx => s0 = .bool false ∧ RowKit.Hid (wx.cell? ⟨q_a, 0, none⟩ = some (.bool g_a) ∧ wx.cell? ⟨q_a, 1, none⟩ = some (.slice A_a n_a c_a) ∧ wx.cell? ⟨q_b, 0, none⟩ = some (.bool g_b) ∧ wx.cell? ⟨q_b, 1, none⟩ = some (.slice A_b n_b c_b) ∧ wx.cell? ⟨q_c, 0, none⟩ = some (.bool g_c) ∧ wx.cell? ⟨q_c, 1, none⟩ = some (.slice A_c n_c c_c) ∧ Below wS.heap.size wS wx))
      case first =>
        try dsimp only [List.append]
        go_region_held3 (fun wx => wx.cell? ⟨q_a, 0, none⟩ = some (.bool g_a) ∧ wx.cell? ⟨q_a, 1, none⟩ = some (.slice A_a n_a c_a) ∧ wx.cell? ⟨q_b, 0, none⟩ = some (.bool g_b) ∧ wx.cell? ⟨q_b, 1, none⟩ = some (.slice A_b n_b c_b) ∧ wx.cell? ⟨q_c, 0, none⟩ = some (.bool g_c) ∧ wx.cell? ⟨q_c, 1, none⟩ = some (.slice A_c n_c c_c) ∧ Below wS.heap.size wS wx) (first | assumption | exact KA.out _ ((Below.refl _ _).drew) | (with_reducible refine KS.out _ _ ?_ (below_new _ _); assumption)) (first
          | (go_at_call 14; (have mk := bn_bc; clear mk); (with_reducible refine (wCmp_c (h_ac.below bn_bc) h_bc (by decide) (by decide) t hmul.out).mono ?_); rintro e w2 ⟨rfl, bn_t⟩; have hS2 := KS.out _ _ (by assumption) bn_t)
          | (go_at_call 9; (have mk := bn_ac; clear mk); (with_reducible refine (wMul_c (K_b.out _ (by assumption)) (K_c.out _ (by assumption)) 40 (by decide) (by decide) (by decide) (z_b * z_c) rfl).mono ?_); rintro e w2 ⟨A_bc, n_bc, c_bc, rfl, h_bc, bn_bc⟩; have hS2 := KS.out _ _ (by assumption) bn_bc)
          | (go_at_call 9; (with_reducible refine (wMul_c (K_a.out _ (by assumption)) (K_c.out _ (by assumption)) 40 (by decide) (by decide) (by decide) (z_a * z_c) rfl).mono ?_); rintro e w2 ⟨A_ac, n_ac, c_ac, rfl, h_ac, bn_ac⟩; have hS2 := KS.out _ _ (by assumption) bn_ac))
        all_goals (go_wp2; go_meet)
        all_goals (case rel => exact ⟨rfl, Lib.hid (by assumption)⟩)
      case rest =>
        obtain ⟨rfl, t⟩ := hcut
        have hS0 := t.out
        clear t
        have h_a := K_a.out _ hS0
        have h_b := K_b.out _ hS0
        have h_c := K_c.out _ hS0
        have h_ra := KR_a.out _ hS0
        have h_rb := KR_b.out _ hS0
        have h_rc := KR_c.out _ hS0
        have HTab := Lib.hid (KT.out _ hS0)
        have bw := KF.out _ hS0
        clear hS0 KA KS KU KT KF K_a K_b K_c KR_a KR_b KR_c d_a0 d_a1 d_b0 d_b1 d_c0 d_c1
        have d0 := h_ra.c0
        have d1 := h_ra.c1
        go_wp2_with fail
        clear d0 d1
        refine (wText_c HTab.out h_a (by decide) S hS.out).mono ?_
        rintro e w2 ⟨rfl, bn⟩
        replace h_a := h_a.below bn
        replace h_b := h_b.below bn
        replace h_c := h_c.below bn
        replace h_ra := h_ra.below bn
        replace h_rb := h_rb.below bn
        replace h_rc := h_rc.below bn
        replace HTab := Lib.hid (HTab.out.below bn)
        replace bw := below_two bw bn
        clear bn
        go_wp2_with fail
        refine (wParse_c S _ HTab.out true ho.out z_a hv.out).mono ?_
        rintro e w3 ⟨A_t, n_t, c_t, rfl, h_t, bn⟩
        replace h_a := h_a.below bn
        replace h_b := h_b.below bn
        replace h_c := h_c.below bn
        replace h_ra := h_ra.below bn
        replace h_rb := h_rb.below bn
        replace h_rc := h_rc.below bn
        replace HTab := Lib.hid (HTab.out.below bn)
        replace bw := below_two bw bn
        clear bn
        go_wp2_with fail
        have h_rt := row2_new w3 25 (.bool (sg z_a)) (.slice A_t n_t c_t)
        have bn := below_new w3 (.cells #[Value.bool (sg z_a), Value.slice A_t n_t c_t] 25)
        replace h_a := h_a.below bn
        replace h_b := h_b.below bn
        replace h_c := h_c.below bn
        replace h_ra := h_ra.below bn
        replace h_rb := h_rb.below bn
        replace h_rc := h_rc.below bn
        replace h_t := h_t.below bn
        replace HTab := Lib.hid (HTab.out.below bn)
        replace bw := below_two bw bn
        clear bn
        generalize w3.alloc (.cells #[Value.bool (sg z_a), Value.slice A_t n_t c_t] 25) = w4 at *
        obtain ⟨q_t, eg⟩ : ∃ g, g = w3.heap.size := ⟨_, rfl⟩
        rw [← eg] at h_rt ⊢
        clear eg
        generalize w4 = wS at *
        have KA : RowKit.Hid (∀ wx, Below wS.heap.size wS wx → (wx.cell? ⟨q_a, 0, none⟩ = some (.bool g_a) ∧ wx.cell? ⟨q_a, 1, none⟩ = some (.slice A_a n_a c_a) ∧ wx.cell? ⟨q_b, 0, none⟩ = some (.bool g_b) ∧ wx.cell? ⟨q_b, 1, none⟩ = some (.slice A_b n_b c_b) ∧ wx.cell? ⟨q_c, 0, none⟩ = some (.bool g_c) ∧ wx.cell? ⟨q_c, 1, none⟩ = some (.slice A_c n_c c_c) ∧ wx.cell? ⟨q_t, 0, none⟩ = some (.bool (sg z_a)) ∧ wx.cell? ⟨q_t, 1, none⟩ = some (.slice A_t n_t c_t) ∧ Below wS.heap.size wS wx)) := fun wx hb => ⟨(h_ra.below hb).c0, (h_ra.below hb).c1, (h_rb.below hb).c0, (h_rb.below hb).c1, (h_rc.below hb).c0, (h_rc.below hb).c1, (h_rt.below hb).c0, (h_rt.below hb).c1, hb⟩
        have KS : RowKit.Hid (∀ wx w2, (wx.cell? ⟨q_a, 0, none⟩ = some (.bool g_a) ∧ wx.cell? ⟨q_a, 1, none⟩ = some (.slice A_a n_a c_a) ∧ wx.cell? ⟨q_b, 0, none⟩ = some (.bool g_b) ∧ wx.cell? ⟨q_b, 1, none⟩ = some (.slice A_b n_b c_b) ∧ wx.cell? ⟨q_c, 0, none⟩ = some (.bool g_c) ∧ wx.cell? ⟨q_c, 1, none⟩ = some (.slice A_c n_c c_c) ∧ wx.cell? ⟨q_t, 0, none⟩ = some (.bool (sg z_a)) ∧ wx.cell? ⟨q_t, 1, none⟩ = some (.slice A_t n_t c_t) ∧ Below wS.heap.size wS wx) → Below wx.heap.size wx w2 → (w2.cell? ⟨q_a, 0, none⟩ = some (.bool g_a) ∧ w2.cell? ⟨q_a, 1, none⟩ = some (.slice A_a n_a c_a) ∧ w2.cell? ⟨q_b, 0, none⟩ = some (.bool g_b) ∧ w2.cell? ⟨q_b, 1, none⟩ = some (.slice A_b n_b c_b) ∧ w2.cell? ⟨q_c, 0, none⟩ = some (.bool g_c) ∧ w2.cell? ⟨q_c, 1, none⟩ = some (.slice A_c n_c c_c) ∧ w2.cell? ⟨q_t, 0, none⟩ = some (.bool (sg z_a)) ∧ w2.cell? ⟨q_t, 1, none⟩ = some (.slice A_t n_t c_t) ∧ Below wS.heap.size wS w2)) := fun wx w2 hS bn => KA.out _ (below_two hS.2.2.2.2.2.2.2.2 bn)
        have KU : RowKit.Hid (∀ (wx : World) (q : Nat) (u v : Value), (wx.cell? ⟨q_a, 0, none⟩ = some (.bool g_a) ∧ wx.cell? ⟨q_a, 1, none⟩ = some (.slice A_a n_a c_a) ∧ wx.cell? ⟨q_b, 0, none⟩ = some (.bool g_b) ∧ wx.cell? ⟨q_b, 1, none⟩ = some (.slice A_b n_b c_b) ∧ wx.cell? ⟨q_c, 0, none⟩ = some (.bool g_c) ∧ wx.cell? ⟨q_c, 1, none⟩ = some (.slice A_c n_c c_c) ∧ wx.cell? ⟨q_t, 0, none⟩ = some (.bool (sg z_a)) ∧ wx.cell? ⟨q_t, 1, none⟩ = some (.slice A_t n_t c_t) ∧ Below wS.heap.size wS wx) → wS.heap.size ≤ q → (((wx.setCell ⟨q, 0, none⟩ u).setCell ⟨q, 1, none⟩ v).cell? ⟨q_a, 0, none⟩ = some (.bool g_a) ∧ ((wx.setCell ⟨q, 0, none⟩ u).setCell ⟨q, 1, none⟩ v).cell? ⟨q_a, 1, none⟩ = some (.slice A_a n_a c_a) ∧ ((wx.setCell ⟨q, 0, none⟩ u).setCell ⟨q, 1, none⟩ v).cell? ⟨q_b, 0, none⟩ = some (.bool g_b) ∧ ((wx.setCell ⟨q, 0, none⟩ u).setCell ⟨q, 1, none⟩ v).cell? ⟨q_b, 1, none⟩ = some (.slice A_b n_b c_b) ∧ ((wx.setCell ⟨q, 0, none⟩ u).setCell ⟨q, 1, none⟩ v).cell? ⟨q_c, 0, none⟩ = some (.bool g_c) ∧ ((wx.setCell ⟨q, 0, none⟩ u).setCell ⟨q, 1, none⟩ v).cell? ⟨q_c, 1, none⟩ = some (.slice A_c n_c c_c) ∧ ((wx.setCell ⟨q, 0, none⟩ u).setCell ⟨q, 1, none⟩ v).cell? ⟨q_t, 0, none⟩ = some (.bool (sg z_a)) ∧ ((wx.setCell ⟨q, 0, none⟩ u).setCell ⟨q, 1, none⟩ v).cell? ⟨q_t, 1, none⟩ = some (.slice A_t n_t c_t) ∧ Below wS.heap.size wS ((wx.setCell ⟨q, 0, none⟩ u).setCell ⟨q, 1, none⟩ v))) := fun wx q u v hS hq => KA.out _ ((hS.2.2.2.2.2.2.2.2.setCell (p := ⟨q, 0, none⟩) hq u).setCell (p := ⟨q, 1, none⟩) hq v)
        have K_a : RowKit.Hid (∀ wx, (wx.cell? ⟨q_a, 0, none⟩ = some (.bool g_a) ∧ wx.cell? ⟨q_a, 1, none⟩ = some (.slice A_a n_a c_a) ∧ wx.cell? ⟨q_b, 0, none⟩ = some (.bool g_b) ∧ wx.cell? ⟨q_b, 1, none⟩ = some (.slice A_b n_b c_b) ∧ wx.cell? ⟨q_c, 0, none⟩ = some (.bool g_c) ∧ wx.cell? ⟨q_c, 1, none⟩ = some (.slice A_c n_c c_c) ∧ wx.cell? ⟨q_t, 0, none⟩ = some (.bool (sg z_a)) ∧ wx.cell? ⟨q_t, 1, none⟩ = some (.slice A_t n_t c_t) ∧ Below wS.heap.size wS wx) → ZZ wx g_a A_a n_a c_a xs_a z_a 20) := fun wx hS => h_a.below hS.2.2.2.2.2.2.2.2
        have K_b : RowKit.Hid (∀ wx, (wx.cell? ⟨q_a, 0, none⟩ = some (.bool g_a) ∧ wx.cell? ⟨q_a, 1, none⟩ = some (.slice A_a n_a c_a) ∧ wx.cell? ⟨q_b, 0, none⟩ = some (.bool g_b) ∧ wx.cell? ⟨q_b, 1, none⟩ = some (.slice A_b n_b c_b) ∧ wx.cell? ⟨q_c, 0, none⟩ = some (.bool g_c) ∧ wx.cell? ⟨q_c, 1, none⟩ = some (.slice A_c n_c c_c) ∧ wx.cell? ⟨q_t, 0, none⟩ = some (.bool (sg z_a)) ∧ wx.cell? ⟨q_t, 1, none⟩ = some (.slice A_t n_t c_t) ∧ Below wS.heap.size wS wx) → ZZ wx g_b A_b n_b c_b xs_b z_b 20) := fun wx hS => h_b.below hS.2.2.2.2.2.2.2.2
        have K_c : RowKit.Hid (∀ wx, (wx.cell? ⟨q_a, 0, none⟩ = some (.bool g_a) ∧ wx.cell? ⟨q_a, 1, none⟩ = some (.slice A_a n_a c_a) ∧ wx.cell? ⟨q_b, 0, none⟩ = some (.bool g_b) ∧ wx.cell? ⟨q_b, 1, none⟩ = some (.slice A_b n_b c_b) ∧ wx.cell? ⟨q_c, 0, none⟩ = some (.bool g_c) ∧ wx.cell? ⟨q_c, 1, none⟩ = some (.slice A_c n_c c_c) ∧ wx.cell? ⟨q_t, 0, none⟩ = some (.bool (sg z_a)) ∧ wx.cell? ⟨q_t, 1, none⟩ = some (.slice A_t n_t c_t) ∧ Below wS.heap.size wS wx) → ZZ wx g_c A_c n_c c_c xs_c z_c 20) := fun wx hS => h_c.below hS.2.2.2.2.2.2.2.2
        have K_t : RowKit.Hid (∀ wx, (wx.cell? ⟨q_a, 0, none⟩ = some (.bool g_a) ∧ wx.cell? ⟨q_a, 1, none⟩ = some (.slice A_a n_a c_a) ∧ wx.cell? ⟨q_b, 0, none⟩ = some (.bool g_b) ∧ wx.cell? ⟨q_b, 1, none⟩ = some (.slice A_b n_b c_b) ∧ wx.cell? ⟨q_c, 0, none⟩ = some (.bool g_c) ∧ wx.cell? ⟨q_c, 1, none⟩ = some (.slice A_c n_c c_c) ∧ wx.cell? ⟨q_t, 0, none⟩ = some (.bool (sg z_a)) ∧ wx.cell? ⟨q_t, 1, none⟩ = some (.slice A_t n_t c_t) ∧ Below wS.heap.size wS wx) → ZZ wx (sg z_a) A_t n_t c_t (limbs z_a.natAbs) z_a 223) := fun wx hS => h_t.below hS.2.2.2.2.2.2.2.2
        have KR_a : RowKit.Hid (∀ wx, (wx.cell? ⟨q_a, 0, none⟩ = some (.bool g_a) ∧ wx.cell? ⟨q_a, 1, none⟩ = some (.slice A_a n_a c_a) ∧ wx.cell? ⟨q_b, 0, none⟩ = some (.bool g_b) ∧ wx.cell? ⟨q_b, 1, none⟩ = some (.slice A_b n_b c_b) ∧ wx.cell? ⟨q_c, 0, none⟩ = some (.bool g_c) ∧ wx.cell? ⟨q_c, 1, none⟩ = some (.slice A_c n_c c_c) ∧ wx.cell? ⟨q_t, 0, none⟩ = some (.bool (sg z_a)) ∧ wx.cell? ⟨q_t, 1, none⟩ = some (.slice A_t n_t c_t) ∧ Below wS.heap.size wS wx) → Row2 wx q_a 25 (.bool g_a) (.slice A_a n_a c_a)) := fun wx hS => h_ra.below hS.2.2.2.2.2.2.2.2
        have KR_b : RowKit.Hid (∀ wx, (wx.cell? ⟨q_a, 0, none⟩ = some (.bool g_a) ∧ wx.cell? ⟨q_a, 1, none⟩ = some (.slice A_a n_a c_a) ∧ wx.cell? ⟨q_b, 0, none⟩ = some (.bool g_b) ∧ wx.cell? ⟨q_b, 1, none⟩ = some (.slice A_b n_b c_b) ∧ wx.cell? ⟨q_c, 0, none⟩ = some (.bool g_c) ∧ wx.cell? ⟨q_c, 1, none⟩ = some (.slice A_c n_c c_c) ∧ wx.cell? ⟨q_t, 0, none⟩ = some (.bool (sg z_a)) ∧ wx.cell? ⟨q_t, 1, none⟩ = some (.slice A_t n_t c_t) ∧ Below wS.heap.size wS wx) → Row2 wx q_b 25 (.bool g_b) (.slice A_b n_b c_b)) := fun wx hS => h_rb.below hS.2.2.2.2.2.2.2.2
        have KR_c : RowKit.Hid (∀ wx, (wx.cell? ⟨q_a, 0, none⟩ = some (.bool g_a) ∧ wx.cell? ⟨q_a, 1, none⟩ = some (.slice A_a n_a c_a) ∧ wx.cell? ⟨q_b, 0, none⟩ = some (.bool g_b) ∧ wx.cell? ⟨q_b, 1, none⟩ = some (.slice A_b n_b c_b) ∧ wx.cell? ⟨q_c, 0, none⟩ = some (.bool g_c) ∧ wx.cell? ⟨q_c, 1, none⟩ = some (.slice A_c n_c c_c) ∧ wx.cell? ⟨q_t, 0, none⟩ = some (.bool (sg z_a)) ∧ wx.cell? ⟨q_t, 1, none⟩ = some (.slice A_t n_t c_t) ∧ Below wS.heap.size wS wx) → Row2 wx q_c 25 (.bool g_c) (.slice A_c n_c c_c)) := fun wx hS => h_rc.below hS.2.2.2.2.2.2.2.2
        have KR_t : RowKit.Hid (∀ wx, (wx.cell? ⟨q_a, 0, none⟩ = some (.bool g_a) ∧ wx.cell? ⟨q_a, 1, none⟩ = some (.slice A_a n_a c_a) ∧ wx.cell? ⟨q_b, 0, none⟩ = some (.bool g_b) ∧ wx.cell? ⟨q_b, 1, none⟩ = some (.slice A_b n_b c_b) ∧ wx.cell? ⟨q_c, 0, none⟩ = some (.bool g_c) ∧ wx.cell? ⟨q_c, 1, none⟩ = some (.slice A_c n_c c_c) ∧ wx.cell? ⟨q_t, 0, none⟩ = some (.bool (sg z_a)) ∧ wx.cell? ⟨q_t, 1, none⟩ = some (.slice A_t n_t c_t) ∧ Below wS.heap.size wS wx) → Row2 wx q_t 25 (.bool (sg z_a)) (.slice A_t n_t c_t)) := fun wx hS => h_rt.below hS.2.2.2.2.2.2.2.2
        have KT : RowKit.Hid (∀ wx, (wx.cell? ⟨q_a, 0, none⟩ = some (.bool g_a) ∧ wx.cell? ⟨q_a, 1, none⟩ = some (.slice A_a n_a c_a) ∧ wx.cell? ⟨q_b, 0, none⟩ = some (.bool g_b) ∧ wx.cell? ⟨q_b, 1, none⟩ = some (.slice A_b n_b c_b) ∧ wx.cell? ⟨q_c, 0, none⟩ = some (.bool g_c) ∧ wx.cell? ⟨q_c, 1, none⟩ = some (.slice A_c n_c c_c) ∧ wx.cell? ⟨q_t, 0, none⟩ = some (.bool (sg z_a)) ∧ wx.cell? ⟨q_t, 1, none⟩ = some (.slice A_t n_t c_t) ∧ Below wS.heap.size wS wx) → Tab wx) := fun wx hS => HTab.out.below hS.2.2.2.2.2.2.2.2
        have HF := Lib.hid bw
        have KF : RowKit.Hid (∀ wx, (wx.cell? ⟨q_a, 0, none⟩ = some (.bool g_a) ∧ wx.cell? ⟨q_a, 1, none⟩ = some (.slice A_a n_a c_a) ∧ wx.cell? ⟨q_b, 0, none⟩ = some (.bool g_b) ∧ wx.cell? ⟨q_b, 1, none⟩ = some (.slice A_b n_b c_b) ∧ wx.cell? ⟨q_c, 0, none⟩ = some (.bool g_c) ∧ wx.cell? ⟨q_c, 1, none⟩ = some (.slice A_c n_c c_c) ∧ wx.cell? ⟨q_t, 0, none⟩ = some (.bool (sg z_a)) ∧ wx.cell? ⟨q_t, 1, none⟩ = some (.slice A_t n_t c_t) ∧ Below wS.heap.size wS wx) → Below w.heap.size w wx) := fun wx hS => below_two HF.out hS.2.2.2.2.2.2.2.2
        obtain ⟨d_a0, d_a1, d_b0, d_b1, d_c0, d_c1, d_t0, d_t1, _⟩ := KA.out _ (Below.refl _ _)
        clear h_a h_b h_c h_ra h_rb h_rc h_t h_rt HTab bw
        clear HF
        try dsimp only [List.append]
        go_region_held3 (fun wx => wx.cell? ⟨q_a, 0, none⟩ = some (.bool g_a) ∧ wx.cell? ⟨q_a, 1, none⟩ = some (.slice A_a n_a c_a) ∧ wx.cell? ⟨q_b, 0, none⟩ = some (.bool g_b) ∧ wx.cell? ⟨q_b, 1, none⟩ = some (.slice A_b n_b c_b) ∧ wx.cell? ⟨q_c, 0, none⟩ = some (.bool g_c) ∧ wx.cell? ⟨q_c, 1, none⟩ = some (.slice A_c n_c c_c) ∧ wx.cell? ⟨q_t, 0, none⟩ = some (.bool (sg z_a)) ∧ wx.cell? ⟨q_t, 1, none⟩ = some (.slice A_t n_t c_t) ∧ Below wS.heap.size wS wx) (first | assumption | exact KA.out _ ((Below.refl _ _).drew) | (with_reducible refine KS.out _ _ ?_ (below_new _ _); assumption)) (first
          | (go_at_call 7; (have mk := bn_k1; clear mk); (with_reducible refine (wakes_any _ (KT.out _ (by assumption))).mono ?_); rintro e w2 ⟨rfl, bn_k⟩; have hS2 := KS.out _ _ (by assumption) bn_k)
          | (go_at_call 10; (have mk := bn_ta; clear mk); (with_reducible refine (keepInt_c (K_t.out _ (by assumption)) h_ta (by decide) (by decide) true (zsame rfl)).mono ?_); rintro e w2 ⟨rfl, bn_k1⟩; have hS2 := KS.out _ _ (by assumption) bn_k1)
          | (go_at_call 13; (with_reducible refine (wTrim_c (K_a.out _ (by assumption)) (by decide)).mono ?_); rintro e w2 ⟨A_ta, n_ta, c_ta, rfl, h_ta, bn_ta⟩; have hS2 := KS.out _ _ (by assumption) bn_ta))
        all_goals (go_wp2; go_ret; exact ⟨rfl, KF.out _ (by assumption)⟩)

theorem tab_of {W : World} (h : laidMet Tryd.prog Rows.wholeOrderRow.laid W) : Tab W := by
  refine ⟨?_, ?_⟩
  · first | exact powers_tab (laidMet_drop 0 h) (by decide +kernel) | exact powers_tab (laidMet_drop 1 h) (by decide +kernel) | exact powers_tab (laidMet_drop 2 h) (by decide +kernel) | exact powers_tab (laidMet_drop 3 h) (by decide +kernel) | exact powers_tab (laidMet_drop 4 h) (by decide +kernel) | exact powers_tab (laidMet_drop 5 h) (by decide +kernel) | exact powers_tab (laidMet_drop 6 h) (by decide +kernel) | exact powers_tab (laidMet_drop 7 h) (by decide +kernel) | exact powers_tab (laidMet_drop 8 h) (by decide +kernel) | exact powers_tab (laidMet_drop 9 h) (by decide +kernel) | exact powers_tab (laidMet_drop 10 h) (by decide +kernel) | exact powers_tab (laidMet_drop 11 h) (by decide +kernel) | exact powers_tab (laidMet_drop 12 h) (by decide +kernel) | exact powers_tab (laidMet_drop 13 h) (by decide +kernel)
  · first | exact err_tab (laidMet_drop 0 h) (by decide +kernel) | exact err_tab (laidMet_drop 1 h) (by decide +kernel) | exact err_tab (laidMet_drop 2 h) (by decide +kernel) | exact err_tab (laidMet_drop 3 h) (by decide +kernel) | exact err_tab (laidMet_drop 4 h) (by decide +kernel) | exact err_tab (laidMet_drop 5 h) (by decide +kernel) | exact err_tab (laidMet_drop 6 h) (by decide +kernel) | exact err_tab (laidMet_drop 7 h) (by decide +kernel) | exact err_tab (laidMet_drop 8 h) (by decide +kernel) | exact err_tab (laidMet_drop 9 h) (by decide +kernel) | exact err_tab (laidMet_drop 10 h) (by decide +kernel) | exact err_tab (laidMet_drop 11 h) (by decide +kernel) | exact err_tab (laidMet_drop 12 h) (by decide +kernel) | exact err_tab (laidMet_drop 13 h) (by decide +kernel)

set_option maxRecDepth 100000 in
theorem lifted (os : Os) (started : os.Started) (H : Type) (enc : TypeId × Value → H) :
    ReturnsInHanded {} Tryd.checked os 4 .any (fun w args => (Rows.wholeOrderSpec.pre enc Tryd.prog Tryd.f4 [] false w args ∧ laidMetH Tryd.prog Rows.wholeOrderRow.laid w) ∧ sizedMet enc Tryd.prog Tryd.f4 (OpenSpec.ofChange Rows.wholeOrderSpec) false w args)
      (Rows.wholeOrderSpec.post enc Tryd.prog Tryd.f4 false true false false) := by
  refine returnsInHanded_of_change_and (C := Tryd.checked) (X := fun w _ => laidMetH Tryd.prog Rows.wholeOrderRow.laid w) (fun _ _ _ hh h => h.of_heap hh) own started (by kernel_rfl) Tryd.func4
    (ChangeSpec.witness_shaped (enc := enc) (C := Tryd.checked) (os := os) (X := fun w _ => laidMetH Tryd.prog Rows.wholeOrderRow.laid w) false (World.laidAll Tryd.prog os Rows.wholeOrderRow.laid) #[.agg #[.bool false, .slice none 0 0], .agg #[.bool false, .slice none 0 0], .agg #[.bool false, .slice none 0 0]] 8 (World.laidAll_os _ _ _)
      (World.shaped_of_ZipB (by kernel_rfl) (by kernel_rfl)) (by kernel_rfl) (by kernel_rfl) (by kernel_rfl)
      (by rw [MakeChecks.laidMetH_plain _ _ _ (by kernel_rfl)]; exact laidMet_laidAll _ (by kernel_rfl) (by kernel_rfl))) ?_
  intro W base args ds gs before hval0 hW _ _ hL _
  have hval : ∀ (j : Nat) t v, Tryd.f4.params[j]? = some t → args[j]? = some v → Value.okWide Tryd.prog W .any base t v := hval0
  have hW' := hW
  obtain ⟨p, q, hA0, hV, rfl, hfz, hnd⟩ := hW
  have hA : DataW.TrodAll enc Tryd.prog W 0 (fun _ => true) true Tryd.f4.params.toList args.toList ds p := hA0
  rw [Tryd.params4] at hA hval
  obtain ⟨v0, vs0, d0, ds0, p0, q0, hargs, rfl, rfl, h0, r0⟩ := trodAll_cons hA
  obtain ⟨v1, vs1, d1, ds1, p1, q1, rfl, rfl, rfl, h1, r1⟩ := trodAll_cons r0
  obtain ⟨v2, vs2, d2, ds2, p2, q2, rfl, rfl, rfl, h2, r2⟩ := trodAll_cons r1
  obtain ⟨rfl, rfl, rfl⟩ := trodAll_nil r2
  obtain rfl : args = #[v0, v1, v2] := by cases args; simp_all
  obtain ⟨rfl, rfl⟩ := trodVars_none hV
  obtain ⟨b0, a0, len0, cap0, z0, rfl, i0, hc0, hm0⟩ := open_zint (hval 0 25 v0 rfl rfl) h0
  obtain ⟨b1, a1, len1, cap1, z1, rfl, i1, hc1, hm1⟩ := open_zint (hval 1 25 v1 rfl rfl) h1
  obtain ⟨b2, a2, len2, cap2, z2, rfl, i2, hc2, hm2⟩ := open_zint (hval 2 25 v2 rfl rfl) h2
  clear hA0 hval0
  simp only [List.append_nil] at hW'
  rw [MakeChecks.laidMetH_plain _ _ _ (by kernel_rfl)] at hL
  refine (walk b0 a0 len0 cap0 z0 b1 a1 len1 cap1 z1 b2 a2 len2 cap2 z2 W i0 hc0 hm0 i1 hc1 hm1 i2 hc2 hm2 (tab_of hL)).mono fun e W' ⟨he, bel⟩ => ?_
  subst he
  exact ⟨_, rfl, _, _, _, [], _, [], hW', trodAll_mk1 (shut_bool Tryd.underlying4 _), (trodAll_cons_mk (Below.trod laidOut (by kernel_rfl) (of_decide_eq_true (by kernel_rfl)) h0 bel (places_lt h0)) (trodAll_cons_mk (Below.trod laidOut (by kernel_rfl) (of_decide_eq_true (by kernel_rfl)) h1 bel (places_lt h1)) (trodAll_cons_mk (Below.trod laidOut (by kernel_rfl) (of_decide_eq_true (by kernel_rfl)) h2 bel (places_lt h2)) trodAll_mk0))), rfl, bel.frame _, fun h => by cases h⟩

theorem over : Rows.wholeOrderRow.holds Tryd.pinned (OpenSpec.ofChange Rows.wholeOrderSpec) :=
  OpenClaim.holds_of_wide 4 Tryd.f4 rfl rfl rfl rfl rfl rfl rfl ⟨rfl, rfl, rfl, rfl, rfl⟩ rfl rfl rfl rfl rfl (by kernel_rfl) Tryd.func4 (by kernel_rfl)
    (of_decide_eq_true (by kernel_rfl)) (by unfold Func.isWrapper; first | (rw [if_pos (by decide +kernel)]; kernel_rfl) | (rw [if_neg (by decide +kernel)]; exact ⟨rfl, rfl⟩))
    (fun os started H enc _ => lifted os started H enc)

theorem proved : Rows.WholeOrderCardSaid :=
  Claim7.holds_tied_plain_at .later [] Rows.wholeOrderCard.laidKinds true Rows.wholeOrderCard.stood.harness Rows.wholeOrderCard.stood.looks
    over (fun _ h => by cases h) (by kernel_rfl) (fun _ h => by cases h) wholeOrder_row_tie rfl ⟨rfl, rfl⟩ (by kernel_rfl) rfl
    (fun f fn hf hfn => by
      obtain rfl : f = 4 := Option.some.inj ((show Tryd.prog.funcNamed Rows.wholeOrderRow.func = some 4 by kernel_rfl).symm.trans hf) |>.symm
      obtain rfl : fn = Tryd.f4 := (Option.some.inj (Tryd.func4.symm.trans hfn)).symm
      exact ⟨by kernel_rfl, fun j t ht => by
        have hm : t ∈ Tryd.f4.params.toList := by simpa using Array.mem_of_getElem? ht
        have hall : (Tryd.f4.params.toList.all fun u => !Tryd.prog.wantsStandIn u) = true := by kernel_rfl
        exact (show Tryd.prog.wantsStandIn t = false by simpa using List.all_eq_true.1 hall t hm)⟩)
    (by kernel_rfl)

end Go.Proofs.YtgdchljbjnhchaaDoor.lawWholeOrder
