/- Of any top and any bottom: the number, made plain, or why there is none. No condition. -/
import Derived.Test.YtohciicocaoagaaM8
import Derived.ChangeMaps5
/- What the reference's Of of layer 7 answers, as a contract over memory. Conditions: sizes of at most so many limbs. -/
namespace Go.Proofs.Ytohciicocaoagaa
open Go.RowKit Limb
set_option linter.unusedVariables false
section
variable {w : World} {s s' : Bool} {A B A' B' : Option Addr} {n c m d n' c' m' d' : Nat} {xs ys xs' ys' : List Nat} {x y : Int} {a b L L' : Nat}
set_option maxHeartbeats 4000000 in
set_option maxRecDepth 100000 in
theorem refQOf_c (hx : ZZ w s A n c xs x L) (hy : NN w B m d ys b L') (h1 : L ≤ 10000) (h2 : L' ≤ 10000) (r : Option Rat) (e : Int) (hR : ofR x b = (r, e)) :
    Calls Try.prog 12 #[.agg #[.bool s, .slice A n c], .slice B m d] w fun ee w' => ∃ A2 n2 c2 B2 m2 d2, ee = .returned (.agg #[.bool (sg (oTop r)), .slice A2 n2 c2, .slice B2 m2 d2, .int .i64 e]) ∧ QT w' A2 n2 c2 B2 m2 d2 r ∧ Below w.heap.size w w' := by
  have b0 := below_new w (.cells #[Value.bool s, Value.slice A n c] 25)
  have b1 := below_new (w.alloc (.cells #[Value.bool s, Value.slice A n c] 25)) (.cells #[Value.bool false, Value.slice none 0 0, Value.slice none 0 0, Value.int IntKind.i64 0] 35)
  have HW := Lib.hid (below_two b0 b1)
  have HX := Lib.hid (hx.below HW.out)
  have HY := Lib.hid (hy.below HW.out)
  have r0 := (row2_new w 25 (.bool s) (.slice A n c)).below b1
  have rz := row4_new (w.alloc (.cells #[Value.bool s, Value.slice A n c] 25)) 35 (.bool false) (.slice none 0 0) (.slice none 0 0) (.int .i64 0)
  simp only [World.size_alloc] at rz
  have Hq : RowKit.Hid (w.heap.size ≤ w.heap.size + 1) := Nat.le_succ _
  clear b0 b1 hx hy
  by_cases hb : b = 0
  · obtain ⟨rfl, rfl⟩ := ofR_zero hb hR
    clear hR
    have HB0 : RowKit.Hid (((blen b : Nat) : Int) = 0) := by show _ = _; rw [hb]; rfl
    clear hb
    go_enter Try.func12, Try.ntmps12
    go_wp2_with fail
    generalize (w.alloc (.cells #[Value.bool s, Value.slice A n c] 25)).alloc (.cells #[Value.bool false, Value.slice none 0 0, Value.slice none 0 0, Value.int IntKind.i64 0] 35) = w1 at *
    have HR0 := Lib.hid r0
    have HZ := Lib.hid rz
    clear r0 rz
    refine (refBits_c HY.out (by omega) 0 HB0.out).mono ?_
    rintro e w2 ⟨rfl, rfl⟩
    have e0 := HZ.out.c0
    have e1 := HZ.out.c1
    have e2 := HZ.out.c2
    have e3 := HZ.out.c3
    have f0 := HZ.out.free 0
    have f1 := HZ.out.free 1
    have f2 := HZ.out.free 2
    have f3 := HZ.out.free 3
    have HF := Lib.hid (HZ.out.fill (.bool false) (.slice none 0 0) (.slice none 0 0) (.int .i64 3))
    have HB := Lib.hid (below_fill4 HW.out Hq.out (.bool false) (.slice none 0 0) (.slice none 0 0) (.int .i64 3))
    go_wp2
    refine bodyPost_ret (results_cell_row rfl _ _ _ 35 #[.bool false, .slice none 0 0, .slice none 0 0, .int .i64 3] (0, 0) _ rfl HF.out Try.underlying35 rfl got7_size) rfl ?_
    exact ⟨none, 0, 0, none, 0, 0, rfl, qt_none _ 0 0, HB.out⟩
  · have hL := ofR_yes hb hR
    clear hR
    obtain ⟨z, hz⟩ : ∃ z, mkRat x b = z := ⟨_, rfl⟩
    rw [hz] at hL
    have hL2 : (limQ z, limE z) = (r, e) := hL
    cases hL2
    clear hL
    have HM := Lib.hid hz
    have HB := Lib.hid hb
    obtain ⟨u, hu⟩ : ∃ u : Int, ((blen b : Nat) : Int) = u := ⟨_, rfl⟩
    have hu0 : (u == 0) = false := by
      rw [beq_eq_false_iff_ne, ← hu]
      have := mt blen_eq_zero.1 hb
      omega
    have HB0 := Lib.hid hu
    clear hz hb hu
    go_enter Try.func12, Try.ntmps12
    go_wp2_with fail
    generalize (w.alloc (.cells #[Value.bool s, Value.slice A n c] 25)).alloc (.cells #[Value.bool false, Value.slice none 0 0, Value.slice none 0 0, Value.int IntKind.i64 0] 35) = w1 at *
    have HR0 := Lib.hid r0
    have HZ := Lib.hid rz
    clear r0 rz
    refine (refBits_c HY.out (by omega) u HB0.out).mono ?_
    rintro e w2 ⟨rfl, rfl⟩
    have c00 := HR0.out.c0
    have c01 := HR0.out.c1
    go_wp2_with fail
    clear c00 c01
    refine (refWide_c HX.out HY.out (by omega) (by omega) HB.out z HM.out).mono ?_
    rintro ee w3 ⟨A8, n8, c8, B8, m8, d8, rfl, h7, h8, bn⟩
    have H7 := Lib.hid h7
    have H8 := Lib.hid h8
    replace HZ := Lib.hid (HZ.out.below bn)
    replace HW := Lib.hid (below_two HW.out bn)
    clear bn h7 h8
    go_wp2_with fail
    refine (refLimit_c H7.out H8.out).mono ?_
    rintro ee w4 ⟨A9, n9, c9, B9, m9, d9, rfl, h9, bn⟩
    have hZ3 := HZ.out.below bn
    have hNo := hZ3.noLimb (by intro v e; cases e) (by intro v e; cases e) (by intro v e; cases e) (by intro v e; cases e)
    have e0 := hZ3.c0
    have e1 := hZ3.c1
    have e2 := hZ3.c2
    have e3 := hZ3.c3
    have f0 := hZ3.free 0
    have f1 := hZ3.free 1
    have f2 := hZ3.free 2
    have f3 := hZ3.free 3
    have HF := Lib.hid (hZ3.fill (.bool (sg (oTop (limQ z)))) (.slice A9 n9 c9) (.slice B9 m9 d9) (.int .i64 (limE z)))
    have HP := Lib.hid (QQ.fillR4 h9 hNo (.bool (sg (oTop (limQ z)))) (.slice A9 n9 c9) (.slice B9 m9 d9) (.int .i64 (limE z)))
    have HB := Lib.hid (below_fill4 (below_two HW.out bn) Hq.out (.bool (sg (oTop (limQ z)))) (.slice A9 n9 c9) (.slice B9 m9 d9) (.int .i64 (limE z)))
    clear hNo bn h9 hZ3
    go_wp2
    refine bodyPost_ret (results_cell_row rfl _ _ _ 35 #[.bool (sg (oTop (limQ z))), .slice A9 n9 c9, .slice B9 m9 d9, .int .i64 (limE z)] (0, 0) _ rfl HF.out Try.underlying35 rfl got7_size) rfl ?_
    exact ⟨A9, n9, c9, B9, m9, d9, rfl, HP.out, HB.out⟩

end
end Go.Proofs.Ytohciicocaoagaa

/- Of any top and any bottom: the number, made plain, or why there is none. No condition. -/
namespace Go.Proofs.Ytohciicocaoagaa.lawRatMakes
open Go.ChangeShapes Go.WideShapes Go.ChangeAt Go.RowKit Limb
set_option linter.unusedVariables false

set_option maxHeartbeats 400000000 in
set_option maxRecDepth 100000 in
theorem walk (g_t : Bool) (A_t : Option Addr) (n_t c_t : Nat) (xs_t : List Nat) (A_b : Option Addr) (n_b c_b : Nat) (xs_b : List Nat) (A_y : Option Addr) (n_y c_y : Nat) (xs_y : List Nat) (w : World) (i_t : IsN w A_t n_t xs_t) (hc_t : n_t ≤ c_t) (hm_t : c_t ≤ maxLen) (i_b : IsN w A_b n_b xs_b) (hc_b : n_b ≤ c_b) (hm_b : c_b ≤ maxLen) (i_y : IsN w A_y n_y xs_y) (hc_y : n_y ≤ c_y) (hm_y : c_y ≤ maxLen) :
    Calls Try.prog 3 #[.agg #[.bool g_t, .slice A_t n_t c_t], .slice A_b n_b c_b, .slice A_y n_y c_y] w fun e w' => e = .returned (.bool true) ∧ Below w.heap.size w w' := by
  by_cases l_t : 80 < n_t
  case pos =>
    have L_t : (80 : Int) < n_t := by omega
    have bw := bel_refl w
    have h_rt := row2_new w 25 (.bool g_t) (.slice A_t n_t c_t)
    have bn := below_new w (.cells #[Value.bool g_t, Value.slice A_t n_t c_t] 25)
    replace bw := below_two bw bn
    clear bn
    go_enter Try.func3, Try.ntmps3
    go_wp2_with fail
    generalize w.alloc (.cells #[Value.bool g_t, Value.slice A_t n_t c_t] 25) = wP at *
    obtain ⟨q_t, eg⟩ : ∃ g, g = w.heap.size := ⟨_, rfl⟩
    rw [← eg] at h_rt ⊢
    clear eg
    refine (wakes_any _).mono ?_
    rintro e w1 ⟨rfl, bn⟩
    replace h_rt := h_rt.below bn
    replace bw := below_two bw bn
    clear bn
    go_wp2
    go_ret
    exact ⟨rfl, bw⟩
  by_cases l_b : 80 < n_b
  case pos =>
    have L_t : (n_t : Int) ≤ 80 := by omega
    have L_b : (80 : Int) < n_b := by omega
    have bw := bel_refl w
    have h_rt := row2_new w 25 (.bool g_t) (.slice A_t n_t c_t)
    have bn := below_new w (.cells #[Value.bool g_t, Value.slice A_t n_t c_t] 25)
    replace bw := below_two bw bn
    clear bn
    go_enter Try.func3, Try.ntmps3
    go_wp2_with fail
    generalize w.alloc (.cells #[Value.bool g_t, Value.slice A_t n_t c_t] 25) = wP at *
    obtain ⟨q_t, eg⟩ : ∃ g, g = w.heap.size := ⟨_, rfl⟩
    rw [← eg] at h_rt ⊢
    clear eg
    refine (wakes_any _).mono ?_
    rintro e w2 ⟨rfl, bn⟩
    replace h_rt := h_rt.below bn
    replace bw := below_two bw bn
    clear bn
    go_wp2
    go_ret
    exact ⟨rfl, bw⟩
  by_cases l_y : 20 < n_y
  case pos =>
    have L_t : (n_t : Int) ≤ 80 := by omega
    have L_b : (n_b : Int) ≤ 80 := by omega
    have L_y : (20 : Int) < n_y := by omega
    have bw := bel_refl w
    have h_rt := row2_new w 25 (.bool g_t) (.slice A_t n_t c_t)
    have bn := below_new w (.cells #[Value.bool g_t, Value.slice A_t n_t c_t] 25)
    replace bw := below_two bw bn
    clear bn
    go_enter Try.func3, Try.ntmps3
    go_wp2_with fail
    generalize w.alloc (.cells #[Value.bool g_t, Value.slice A_t n_t c_t] 25) = wP at *
    obtain ⟨q_t, eg⟩ : ∃ g, g = w.heap.size := ⟨_, rfl⟩
    rw [← eg] at h_rt ⊢
    clear eg
    refine (wakes_any _).mono ?_
    rintro e w3 ⟨rfl, bn⟩
    replace h_rt := h_rt.below bn
    replace bw := below_two bw bn
    clear bn
    go_wp2
    go_ret
    exact ⟨rfl, bw⟩
  have h_t : ZZ w g_t A_t n_t c_t xs_t (zOf g_t (Limb.val xs_t)) 80 := ZZ.of ⟨i_t, rfl, hc_t, by omega⟩
  generalize zOf g_t (Limb.val xs_t) = x at h_t
  have h_b : NN w A_b n_b c_b xs_b (Limb.val xs_b) 80 := ⟨i_b, rfl, hc_b, by omega⟩
  generalize Limb.val xs_b = b at h_b
  obtain ⟨r, e0, hR⟩ : ∃ r e, ofR x b = (r, e) := ⟨_, _, rfl⟩
  rcases ofR_cases hR with ⟨rfl, rfl⟩ | ⟨rfl, rfl⟩ | ⟨q, rfl, rfl⟩
  · have HR := Lib.hid hR
    clear hR
    have L_t : (n_t : Int) ≤ 80 := by omega
    have L_b : (n_b : Int) ≤ 80 := by omega
    have L_y : (n_y : Int) ≤ 20 := by omega
    have bw := bel_refl w
    have h_rt := row2_new w 25 (.bool g_t) (.slice A_t n_t c_t)
    have bn := below_new w (.cells #[Value.bool g_t, Value.slice A_t n_t c_t] 25)
    replace h_t := h_t.below bn
    replace h_b := h_b.below bn
    replace bw := below_two bw bn
    clear bn
    go_enter Try.func3, Try.ntmps3
    go_wp2_with fail
    generalize w.alloc (.cells #[Value.bool g_t, Value.slice A_t n_t c_t] 25) = wP at *
    obtain ⟨q_t, eg⟩ : ∃ g, g = w.heap.size := ⟨_, rfl⟩
    rw [← eg] at h_rt ⊢
    clear eg
    refine (ownInt_c h_t (by decide)).mono ?_
    rintro e w4 ⟨A_o, n_o, c_o, rfl, h_o, bn⟩
    replace h_t := h_t.below bn
    replace h_b := h_b.below bn
    replace h_rt := h_rt.below bn
    replace bw := below_two bw bn
    clear bn
    go_wp2_with fail
    refine (own_any _ _ _ _ _ _ _ h_b (by decide)).mono ?_
    rintro e w5 ⟨A_k, n_k, c_k, rfl, h_k, bn⟩
    replace h_t := h_t.below bn
    replace h_b := h_b.below bn
    replace h_rt := h_rt.below bn
    replace h_o := h_o.below bn
    replace bw := below_two bw bn
    clear bn
    go_wp2_with fail
    refine (rOf_c h_o h_k (by decide) (by decide) _ _ HR.out).mono ?_
    rintro e w6 ⟨A_a, n_a, c_a, B_a, m_a, d_a, rfl, h_a, bn⟩
    replace h_t := h_t.below bn
    replace h_b := h_b.below bn
    replace h_rt := h_rt.below bn
    replace h_o := h_o.below bn
    replace h_k := h_k.below bn
    replace bw := below_two bw bn
    clear bn
    have h_ra := row3_new w6 28 (.bool (sg (oTop none))) (.slice A_a n_a c_a) (.slice B_a m_a d_a)
    have bn := below_new w6 (.cells #[Value.bool (sg (oTop none)), Value.slice A_a n_a c_a, Value.slice B_a m_a d_a] 28)
    replace h_t := h_t.below bn
    replace h_b := h_b.below bn
    replace h_rt := h_rt.below bn
    replace h_o := h_o.below bn
    replace h_k := h_k.below bn
    replace h_a := h_a.below bn
    replace bw := below_two bw bn
    clear bn
    have c_t0 := h_rt.c0
    have c_t1 := h_rt.c1
    go_wp2_with fail
    clear c_t0 c_t1
    generalize w6.alloc (.cells #[Value.bool (sg (oTop none)), Value.slice A_a n_a c_a, Value.slice B_a m_a d_a] 28) = w7 at *
    obtain ⟨q_a, eg⟩ : ∃ g, g = w6.heap.size := ⟨_, rfl⟩
    rw [← eg] at h_ra ⊢
    clear eg
    refine (refQOf_c h_t h_b (by decide) (by decide) _ _ HR.out).mono ?_
    rintro e w8 ⟨A_g, n_g, c_g, B_g, m_g, d_g, rfl, h_g, bn⟩
    replace h_t := h_t.below bn
    replace h_b := h_b.below bn
    replace h_rt := h_rt.below bn
    replace h_o := h_o.below bn
    replace h_k := h_k.below bn
    replace h_a := h_a.below bn
    replace h_ra := h_ra.below bn
    replace bw := below_two bw bn
    clear bn
    have h_rgg := row4_new w8 35 (.bool (sg (oTop none))) (.slice A_g n_g c_g) (.slice B_g m_g d_g) (.int .i64 3)
    have bn := below_new w8 (.cells #[Value.bool (sg (oTop none)), Value.slice A_g n_g c_g, Value.slice B_g m_g d_g, Value.int .i64 3] 35)
    replace h_t := h_t.below bn
    replace h_b := h_b.below bn
    replace h_rt := h_rt.below bn
    replace h_o := h_o.below bn
    replace h_k := h_k.below bn
    replace h_a := h_a.below bn
    replace h_ra := h_ra.below bn
    replace h_g := h_g.below bn
    replace bw := below_two bw bn
    clear bn
    have c_a0 := h_ra.c0
    have c_a1 := h_ra.c1
    have c_a2 := h_ra.c2
    have c_gg0 := h_rgg.c0
    have c_gg1 := h_rgg.c1
    have c_gg2 := h_rgg.c2
    have c_gg3 := h_rgg.c3
    go_wp2_with fail
    clear c_a0 c_a1 c_a2 c_gg0 c_gg1 c_gg2 c_gg3
    generalize w8.alloc (.cells #[Value.bool (sg (oTop none)), Value.slice A_g n_g c_g, Value.slice B_g m_g d_g, Value.int .i64 3] 35) = w9 at *
    obtain ⟨q_gg, eg⟩ : ∃ g, g = w8.heap.size := ⟨_, rfl⟩
    rw [← eg] at h_rgg ⊢
    clear eg
    refine (keepRat_c h_a h_g (by decide) (by decide) true (keepQ rfl)).mono ?_
    rintro e w10 ⟨rfl, bn⟩
    replace h_t := h_t.below bn
    replace h_b := h_b.below bn
    replace h_rt := h_rt.below bn
    replace h_o := h_o.below bn
    replace h_k := h_k.below bn
    replace h_a := h_a.below bn
    replace h_ra := h_ra.below bn
    replace h_g := h_g.below bn
    replace h_rgg := h_rgg.below bn
    replace bw := below_two bw bn
    clear bn
    have c_gg0 := h_rgg.c0
    have c_gg1 := h_rgg.c1
    have c_gg2 := h_rgg.c2
    have c_gg3 := h_rgg.c3
    go_wp2_with fail
    clear c_gg0 c_gg1 c_gg2 c_gg3
    refine (wakes_any _).mono ?_
    rintro e w11 ⟨rfl, bn⟩
    replace h_t := h_t.below bn
    replace h_b := h_b.below bn
    replace h_rt := h_rt.below bn
    replace h_o := h_o.below bn
    replace h_k := h_k.below bn
    replace h_a := h_a.below bn
    replace h_ra := h_ra.below bn
    replace h_g := h_g.below bn
    replace h_rgg := h_rgg.below bn
    replace bw := below_two bw bn
    clear bn
    go_wp2
    go_ret
    exact ⟨rfl, bw⟩
  · have HR := Lib.hid hR
    clear hR
    have L_t : (n_t : Int) ≤ 80 := by omega
    have L_b : (n_b : Int) ≤ 80 := by omega
    have L_y : (n_y : Int) ≤ 20 := by omega
    have bw := bel_refl w
    have h_rt := row2_new w 25 (.bool g_t) (.slice A_t n_t c_t)
    have bn := below_new w (.cells #[Value.bool g_t, Value.slice A_t n_t c_t] 25)
    replace h_t := h_t.below bn
    replace h_b := h_b.below bn
    replace bw := below_two bw bn
    clear bn
    go_enter Try.func3, Try.ntmps3
    go_wp2_with fail
    generalize w.alloc (.cells #[Value.bool g_t, Value.slice A_t n_t c_t] 25) = wP at *
    obtain ⟨q_t, eg⟩ : ∃ g, g = w.heap.size := ⟨_, rfl⟩
    rw [← eg] at h_rt ⊢
    clear eg
    refine (ownInt_c h_t (by decide)).mono ?_
    rintro e w12 ⟨A_o, n_o, c_o, rfl, h_o, bn⟩
    replace h_t := h_t.below bn
    replace h_b := h_b.below bn
    replace h_rt := h_rt.below bn
    replace bw := below_two bw bn
    clear bn
    go_wp2_with fail
    refine (own_any _ _ _ _ _ _ _ h_b (by decide)).mono ?_
    rintro e w13 ⟨A_k, n_k, c_k, rfl, h_k, bn⟩
    replace h_t := h_t.below bn
    replace h_b := h_b.below bn
    replace h_rt := h_rt.below bn
    replace h_o := h_o.below bn
    replace bw := below_two bw bn
    clear bn
    go_wp2_with fail
    refine (rOf_c h_o h_k (by decide) (by decide) _ _ HR.out).mono ?_
    rintro e w14 ⟨A_a, n_a, c_a, B_a, m_a, d_a, rfl, h_a, bn⟩
    replace h_t := h_t.below bn
    replace h_b := h_b.below bn
    replace h_rt := h_rt.below bn
    replace h_o := h_o.below bn
    replace h_k := h_k.below bn
    replace bw := below_two bw bn
    clear bn
    have h_ra := row3_new w14 28 (.bool (sg (oTop none))) (.slice A_a n_a c_a) (.slice B_a m_a d_a)
    have bn := below_new w14 (.cells #[Value.bool (sg (oTop none)), Value.slice A_a n_a c_a, Value.slice B_a m_a d_a] 28)
    replace h_t := h_t.below bn
    replace h_b := h_b.below bn
    replace h_rt := h_rt.below bn
    replace h_o := h_o.below bn
    replace h_k := h_k.below bn
    replace h_a := h_a.below bn
    replace bw := below_two bw bn
    clear bn
    have c_t0 := h_rt.c0
    have c_t1 := h_rt.c1
    go_wp2_with fail
    clear c_t0 c_t1
    generalize w14.alloc (.cells #[Value.bool (sg (oTop none)), Value.slice A_a n_a c_a, Value.slice B_a m_a d_a] 28) = w15 at *
    obtain ⟨q_a, eg⟩ : ∃ g, g = w14.heap.size := ⟨_, rfl⟩
    rw [← eg] at h_ra ⊢
    clear eg
    refine (refQOf_c h_t h_b (by decide) (by decide) _ _ HR.out).mono ?_
    rintro e w16 ⟨A_g, n_g, c_g, B_g, m_g, d_g, rfl, h_g, bn⟩
    replace h_t := h_t.below bn
    replace h_b := h_b.below bn
    replace h_rt := h_rt.below bn
    replace h_o := h_o.below bn
    replace h_k := h_k.below bn
    replace h_a := h_a.below bn
    replace h_ra := h_ra.below bn
    replace bw := below_two bw bn
    clear bn
    have h_rgg := row4_new w16 35 (.bool (sg (oTop none))) (.slice A_g n_g c_g) (.slice B_g m_g d_g) (.int .i64 2)
    have bn := below_new w16 (.cells #[Value.bool (sg (oTop none)), Value.slice A_g n_g c_g, Value.slice B_g m_g d_g, Value.int .i64 2] 35)
    replace h_t := h_t.below bn
    replace h_b := h_b.below bn
    replace h_rt := h_rt.below bn
    replace h_o := h_o.below bn
    replace h_k := h_k.below bn
    replace h_a := h_a.below bn
    replace h_ra := h_ra.below bn
    replace h_g := h_g.below bn
    replace bw := below_two bw bn
    clear bn
    have c_a0 := h_ra.c0
    have c_a1 := h_ra.c1
    have c_a2 := h_ra.c2
    have c_gg0 := h_rgg.c0
    have c_gg1 := h_rgg.c1
    have c_gg2 := h_rgg.c2
    have c_gg3 := h_rgg.c3
    go_wp2_with fail
    clear c_a0 c_a1 c_a2 c_gg0 c_gg1 c_gg2 c_gg3
    generalize w16.alloc (.cells #[Value.bool (sg (oTop none)), Value.slice A_g n_g c_g, Value.slice B_g m_g d_g, Value.int .i64 2] 35) = w17 at *
    obtain ⟨q_gg, eg⟩ : ∃ g, g = w16.heap.size := ⟨_, rfl⟩
    rw [← eg] at h_rgg ⊢
    clear eg
    refine (keepRat_c h_a h_g (by decide) (by decide) true (keepQ rfl)).mono ?_
    rintro e w18 ⟨rfl, bn⟩
    replace h_t := h_t.below bn
    replace h_b := h_b.below bn
    replace h_rt := h_rt.below bn
    replace h_o := h_o.below bn
    replace h_k := h_k.below bn
    replace h_a := h_a.below bn
    replace h_ra := h_ra.below bn
    replace h_g := h_g.below bn
    replace h_rgg := h_rgg.below bn
    replace bw := below_two bw bn
    clear bn
    have c_gg0 := h_rgg.c0
    have c_gg1 := h_rgg.c1
    have c_gg2 := h_rgg.c2
    have c_gg3 := h_rgg.c3
    go_wp2_with fail
    clear c_gg0 c_gg1 c_gg2 c_gg3
    refine (wakes_any _).mono ?_
    rintro e w19 ⟨rfl, bn⟩
    replace h_t := h_t.below bn
    replace h_b := h_b.below bn
    replace h_rt := h_rt.below bn
    replace h_o := h_o.below bn
    replace h_k := h_k.below bn
    replace h_a := h_a.below bn
    replace h_ra := h_ra.below bn
    replace h_g := h_g.below bn
    replace h_rgg := h_rgg.below bn
    replace bw := below_two bw bn
    clear bn
    go_wp2
    go_ret
    exact ⟨rfl, bw⟩
  · have HR := Lib.hid hR
    clear hR
    have L_t : (n_t : Int) ≤ 80 := by omega
    have L_b : (n_b : Int) ≤ 80 := by omega
    have L_y : (n_y : Int) ≤ 20 := by omega
    have bw := bel_refl w
    have h_rt := row2_new w 25 (.bool g_t) (.slice A_t n_t c_t)
    have bn := below_new w (.cells #[Value.bool g_t, Value.slice A_t n_t c_t] 25)
    replace h_t := h_t.below bn
    replace h_b := h_b.below bn
    replace bw := below_two bw bn
    clear bn
    go_enter Try.func3, Try.ntmps3
    go_wp2_with fail
    generalize w.alloc (.cells #[Value.bool g_t, Value.slice A_t n_t c_t] 25) = wP at *
    obtain ⟨q_t, eg⟩ : ∃ g, g = w.heap.size := ⟨_, rfl⟩
    rw [← eg] at h_rt ⊢
    clear eg
    refine (ownInt_c h_t (by decide)).mono ?_
    rintro e w20 ⟨A_o, n_o, c_o, rfl, h_o, bn⟩
    replace h_t := h_t.below bn
    replace h_b := h_b.below bn
    replace h_rt := h_rt.below bn
    replace bw := below_two bw bn
    clear bn
    go_wp2_with fail
    refine (own_any _ _ _ _ _ _ _ h_b (by decide)).mono ?_
    rintro e w21 ⟨A_k, n_k, c_k, rfl, h_k, bn⟩
    replace h_t := h_t.below bn
    replace h_b := h_b.below bn
    replace h_rt := h_rt.below bn
    replace h_o := h_o.below bn
    replace bw := below_two bw bn
    clear bn
    go_wp2_with fail
    refine (rOf_c h_o h_k (by decide) (by decide) _ _ HR.out).mono ?_
    rintro e w22 ⟨A_a, n_a, c_a, B_a, m_a, d_a, rfl, h_a, bn⟩
    replace h_t := h_t.below bn
    replace h_b := h_b.below bn
    replace h_rt := h_rt.below bn
    replace h_o := h_o.below bn
    replace h_k := h_k.below bn
    replace bw := below_two bw bn
    clear bn
    have h_ra := row3_new w22 28 (.bool (sg (oTop (some q)))) (.slice A_a n_a c_a) (.slice B_a m_a d_a)
    have bn := below_new w22 (.cells #[Value.bool (sg (oTop (some q))), Value.slice A_a n_a c_a, Value.slice B_a m_a d_a] 28)
    replace h_t := h_t.below bn
    replace h_b := h_b.below bn
    replace h_rt := h_rt.below bn
    replace h_o := h_o.below bn
    replace h_k := h_k.below bn
    replace h_a := h_a.below bn
    replace bw := below_two bw bn
    clear bn
    have c_t0 := h_rt.c0
    have c_t1 := h_rt.c1
    go_wp2_with fail
    clear c_t0 c_t1
    generalize w22.alloc (.cells #[Value.bool (sg (oTop (some q))), Value.slice A_a n_a c_a, Value.slice B_a m_a d_a] 28) = w23 at *
    obtain ⟨q_a, eg⟩ : ∃ g, g = w22.heap.size := ⟨_, rfl⟩
    rw [← eg] at h_ra ⊢
    clear eg
    refine (refQOf_c h_t h_b (by decide) (by decide) _ _ HR.out).mono ?_
    rintro e w24 ⟨A_g, n_g, c_g, B_g, m_g, d_g, rfl, h_g, bn⟩
    replace h_t := h_t.below bn
    replace h_b := h_b.below bn
    replace h_rt := h_rt.below bn
    replace h_o := h_o.below bn
    replace h_k := h_k.below bn
    replace h_a := h_a.below bn
    replace h_ra := h_ra.below bn
    replace bw := below_two bw bn
    clear bn
    have h_rgg := row4_new w24 35 (.bool (sg (oTop (some q)))) (.slice A_g n_g c_g) (.slice B_g m_g d_g) (.int .i64 0)
    have bn := below_new w24 (.cells #[Value.bool (sg (oTop (some q))), Value.slice A_g n_g c_g, Value.slice B_g m_g d_g, Value.int .i64 0] 35)
    replace h_t := h_t.below bn
    replace h_b := h_b.below bn
    replace h_rt := h_rt.below bn
    replace h_o := h_o.below bn
    replace h_k := h_k.below bn
    replace h_a := h_a.below bn
    replace h_ra := h_ra.below bn
    replace h_g := h_g.below bn
    replace bw := below_two bw bn
    clear bn
    have c_a0 := h_ra.c0
    have c_a1 := h_ra.c1
    have c_a2 := h_ra.c2
    have c_gg0 := h_rgg.c0
    have c_gg1 := h_rgg.c1
    have c_gg2 := h_rgg.c2
    have c_gg3 := h_rgg.c3
    go_wp2_with fail
    clear c_a0 c_a1 c_a2 c_gg0 c_gg1 c_gg2 c_gg3
    generalize w24.alloc (.cells #[Value.bool (sg (oTop (some q))), Value.slice A_g n_g c_g, Value.slice B_g m_g d_g, Value.int .i64 0] 35) = w25 at *
    obtain ⟨q_gg, eg⟩ : ∃ g, g = w24.heap.size := ⟨_, rfl⟩
    rw [← eg] at h_rgg ⊢
    clear eg
    refine (keepRat_c h_a h_g (by decide) (by decide) true (keepQ rfl)).mono ?_
    rintro e w26 ⟨rfl, bn⟩
    replace h_t := h_t.below bn
    replace h_b := h_b.below bn
    replace h_rt := h_rt.below bn
    replace h_o := h_o.below bn
    replace h_k := h_k.below bn
    replace h_a := h_a.below bn
    replace h_ra := h_ra.below bn
    replace h_g := h_g.below bn
    replace h_rgg := h_rgg.below bn
    replace bw := below_two bw bn
    clear bn
    have c_gg0 := h_rgg.c0
    have c_gg1 := h_rgg.c1
    have c_gg2 := h_rgg.c2
    have c_gg3 := h_rgg.c3
    have c_a0 := h_ra.c0
    have c_a1 := h_ra.c1
    have c_a2 := h_ra.c2
    go_wp2_with fail
    clear c_gg0 c_gg1 c_gg2 c_gg3 c_a0 c_a1 c_a2
    refine (rGood_c h_a (by decide) true rfl).mono ?_
    rintro e w27 ⟨rfl, bn⟩
    replace h_t := h_t.below bn
    replace h_b := h_b.below bn
    replace h_rt := h_rt.below bn
    replace h_o := h_o.below bn
    replace h_k := h_k.below bn
    replace h_a := h_a.below bn
    replace h_ra := h_ra.below bn
    replace h_g := h_g.below bn
    replace h_rgg := h_rgg.below bn
    replace bw := below_two bw bn
    clear bn
    go_wp2_with fail
    refine (wakes_any _).mono ?_
    rintro e w28 ⟨rfl, bn⟩
    replace h_t := h_t.below bn
    replace h_b := h_b.below bn
    replace h_rt := h_rt.below bn
    replace h_o := h_o.below bn
    replace h_k := h_k.below bn
    replace h_a := h_a.below bn
    replace h_ra := h_ra.below bn
    replace h_g := h_g.below bn
    replace h_rgg := h_rgg.below bn
    replace bw := below_two bw bn
    clear bn
    go_wp2
    go_ret
    exact ⟨rfl, bw⟩

set_option maxRecDepth 100000 in
theorem lifted (os : Os) (started : os.Started) (H : Type) (enc : TypeId × Value → H) :
    ReturnsInHanded {} Try.checked os 3 .any (Rows.ratMakesSpec.pre6 enc Try.prog Try.f3 Rows.ratMakesRow.domain false) (Rows.ratMakesSpec.post enc Try.prog Try.f3 false true false false) := by
  refine returnsInHanded_of_change (C := Try.checked) own started (by kernel_rfl) Try.func3
    (ChangeSpec.witness6 (enc := enc) (C := Try.checked) false ⟨#[], #[.agg #[.bool false, .slice none 0 0], .slice none 0 0, .slice none 0 0], []⟩ 8 (by kernel_rfl) (by kernel_rfl) (by kernel_rfl) (by kernel_rfl)) ?_
  intro W base args ds gs before hval0 hW hcnd _
  have hval : ∀ (j : Nat) t v, Try.f3.params[j]? = some t → args[j]? = some v → Value.okWide Try.prog W .any base t v := hval0
  have hW' := hW
  obtain ⟨p, q, hA0, hV, rfl, hfz, hnd⟩ := hW
  have hA : DataW.TrodAll enc Try.prog W 0 (fun _ => true) true Try.f3.params.toList args.toList ds p := hA0
  rw [Try.params3] at hA hval
  obtain ⟨v0, vs0, d0, ds0, p0, q0, hargs, rfl, rfl, h0, r0⟩ := trodAll_cons hA
  obtain ⟨v1, vs1, d1, ds1, p1, q1, rfl, rfl, rfl, h1, r1⟩ := trodAll_cons r0
  obtain ⟨v2, vs2, d2, ds2, p2, q2, rfl, rfl, rfl, h2, r2⟩ := trodAll_cons r1
  obtain ⟨rfl, rfl, rfl⟩ := trodAll_nil r2
  obtain rfl : args = #[v0, v1, v2] := by cases args; simp_all
  obtain ⟨rfl, rfl⟩ := trodVars_none hV
  obtain ⟨b0, a0, len0, cap0, z0, rfl, i0, hc0, hm0⟩ := open_zint (hval 0 25 v0 rfl rfl) h0
  obtain ⟨a1, len1, cap1, rfl⟩ := okWide_slice Try.underlying23 (hval 1 23 v1 rfl rfl)
  obtain ⟨z1, i1, hc1, hm1, _⟩ := open_nat h1
  obtain ⟨a2, len2, cap2, rfl⟩ := okWide_slice Try.underlying23 (hval 2 23 v2 rfl rfl)
  obtain ⟨z2, i2, hc2, hm2, _⟩ := open_nat h2
  clear hA0 hval0
  refine (walk b0 a0 len0 cap0 z0 a1 len1 cap1 z1 a2 len2 cap2 z2 W i0 hc0 hm0 i1 hc1 hm1 i2 hc2 hm2).mono fun e W' ⟨he, bel⟩ => ?_
  subst he
  exact ⟨_, rfl, _, _, _, [], _, [], hW', trodAll_mk1 (shut_bool Try.underlying4 _), (trodAll_cons_mk (Below.trod laidOut (by kernel_rfl) (of_decide_eq_true (by kernel_rfl)) h0 bel (places_lt h0)) (trodAll_cons_mk (Below.trod laidOut (by kernel_rfl) (of_decide_eq_true (by kernel_rfl)) h1 bel (places_lt h1)) (trodAll_cons_mk (Below.trod laidOut (by kernel_rfl) (of_decide_eq_true (by kernel_rfl)) h2 bel (places_lt h2)) trodAll_mk0))), rfl, bel.frame _, fun h => by cases h⟩

theorem over : Rows.ratMakesRow.holds Try.pinned (OpenSpec.ofChange Rows.ratMakesSpec) :=
  OpenClaim.holds_of_wide 3 Try.f3 rfl rfl rfl rfl rfl rfl rfl ⟨rfl, rfl, rfl, rfl, rfl⟩ rfl rfl rfl rfl rfl (by kernel_rfl) Try.func3 (by kernel_rfl)
    (of_decide_eq_true (by kernel_rfl)) (by unfold Func.isWrapper; first | (rw [if_pos (by decide +kernel)]; kernel_rfl) | (rw [if_neg (by decide +kernel)]; exact ⟨rfl, rfl⟩))
    (fun os started H enc _ => lifted os started H enc)

theorem proved : Rows.RatMakesSaid := over

end Go.Proofs.Ytohciicocaoagaa.lawRatMakes
