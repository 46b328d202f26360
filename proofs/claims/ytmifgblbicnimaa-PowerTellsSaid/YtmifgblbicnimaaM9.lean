/- Part 9 of the texts that the statements of this seat lean on: mathematics, and what functions answer, as contracts over memory; each part says its own conditions. -/
import Derived.Test.YtmifgblbicnimaaM8
/- The statements' check that package power is there (wakes) answers true, whatever the memory is. No condition. -/
namespace Go.Proofs.Ytmifgblbicnimaa
open Go.RowKit Limb
set_option linter.unusedVariables false
/-- The numbers that wakes speaks of. -/
def gwT : Rat := mkRat 2 3
def gwA : Rat := mkRat 9 4
def gwH : Rat := mkRat 5 2
def gwC : Rat := mkRat 1 400
theorem gW1 : divR (some ((2 : Int) : Rat)) (some ((3 : Int) : Rat)) = (some gwT, 0) := by decide +kernel
theorem gW2 : powR (some gwT) (-2) = (some gwA, 0) := by decide +kernel
theorem gW3 : powR (some 0) (-1) = (none, 3) := by decide +kernel
theorem gW4 : powR (some 0) 0 = (some 1, 0) := rfl
theorem gW5 : powR (some 2) 129 = (none, 2) := rfl
theorem gW6 : divR (some ((5 : Int) : Rat)) (some ((2 : Int) : Rat)) = (some gwH, 0) := by decide +kernel
theorem gW7 : scaleR (some gwH) (-3) = (some gwC, 0) := by decide +kernel
theorem gW8 : divR (some ((9 : Int) : Rat)) (some ((4 : Int) : Rat)) = (some gwA, 0) := by decide +kernel
theorem gW9 : divR (some ((1 : Int) : Rat)) (some ((400 : Int) : Rat)) = (some gwC, 0) := by decide +kernel
theorem zero_cast : ((0 : Int) : Rat) = 0 := rfl
theorem one_cast : ((1 : Int) : Rat) = 1 := rfl
theorem two_cast : ((2 : Int) : Rat) = 2 := rfl

set_option maxHeartbeats 4000000 in
set_option maxRecDepth 100000 in
theorem wakes_any (w : World) : Calls Try.prog 9 #[] w fun e w' => e = .returned (.bool true) ∧ Below w.heap.size w w' := by
  go_enter Try.func9, Try.ntmps9
  have bw := bel_refl w
  go_wp2_with fail
  refine (by_c 2 3 (by decide) (by decide) (by decide) (by decide) _ gW1 _).mono ?_
  rintro e w1 ⟨A_y, n_y, c_y, B_y, m_y, d_y, rfl, h_y, bn⟩
  replace bw := below_two bw bn
  clear bn
  go_wp2_with fail
  refine (pOf_c h_y (by decide) (-2) _ _ gW2).mono ?_
  rintro e w2 ⟨A_a, n_a, c_a, B_a, m_a, d_a, rfl, h_a, bn⟩
  replace h_y := h_y.below bn
  replace bw := below_two bw bn
  clear bn
  have h_ra := row3_new w2 27 (.bool (sg (oTop (some gwA)))) (.slice A_a n_a c_a) (.slice B_a m_a d_a)
  have bn := below_new w2 (.cells #[Value.bool (sg (oTop (some gwA))), Value.slice A_a n_a c_a, Value.slice B_a m_a d_a] 27)
  replace h_y := h_y.below bn
  replace h_a := h_a.below bn
  replace bw := below_two bw bn
  clear bn
  go_wp2_with fail
  generalize w2.alloc (.cells #[Value.bool (sg (oTop (some gwA))), Value.slice A_a n_a c_a, Value.slice B_a m_a d_a] 27) = w3 at *
  obtain ⟨q_a, eg⟩ : ∃ g, g = w2.heap.size := ⟨_, rfl⟩
  rw [← eg] at h_ra ⊢
  clear eg
  refine (rWhole_is 0 (by decide) (by decide) _ zero_cast _).mono ?_
  rintro e w4 ⟨A_z, n_z, c_z, B_z, m_z, d_z, rfl, h_z, bn⟩
  replace h_y := h_y.below bn
  replace h_a := h_a.below bn
  replace h_ra := h_ra.below bn
  replace bw := below_two bw bn
  clear bn
  go_wp2_with fail
  refine (pOf_c h_z (by decide) (-1) _ _ gW3).mono ?_
  rintro e w5 ⟨A_f0, n_f0, c_f0, B_f0, m_f0, d_f0, rfl, h_f0, bn⟩
  replace h_y := h_y.below bn
  replace h_a := h_a.below bn
  replace h_ra := h_ra.below bn
  replace h_z := h_z.below bn
  replace bw := below_two bw bn
  clear bn
  have h_rf0 := row3_new w5 27 (.bool (sg (oTop none))) (.slice A_f0 n_f0 c_f0) (.slice B_f0 m_f0 d_f0)
  have bn := below_new w5 (.cells #[Value.bool (sg (oTop none)), Value.slice A_f0 n_f0 c_f0, Value.slice B_f0 m_f0 d_f0] 27)
  replace h_y := h_y.below bn
  replace h_a := h_a.below bn
  replace h_ra := h_ra.below bn
  replace h_z := h_z.below bn
  replace h_f0 := h_f0.below bn
  replace bw := below_two bw bn
  clear bn
  go_wp2_with fail
  generalize w5.alloc (.cells #[Value.bool (sg (oTop none)), Value.slice A_f0 n_f0 c_f0, Value.slice B_f0 m_f0 d_f0] 27) = w6 at *
  obtain ⟨q_f0, eg⟩ : ∃ g, g = w5.heap.size := ⟨_, rfl⟩
  rw [← eg] at h_rf0 ⊢
  clear eg
  refine (rWhole_is 0 (by decide) (by decide) _ zero_cast _).mono ?_
  rintro e w7 ⟨A_z1, n_z1, c_z1, B_z1, m_z1, d_z1, rfl, h_z1, bn⟩
  replace h_y := h_y.below bn
  replace h_a := h_a.below bn
  replace h_ra := h_ra.below bn
  replace h_z := h_z.below bn
  replace h_f0 := h_f0.below bn
  replace h_rf0 := h_rf0.below bn
  replace bw := below_two bw bn
  clear bn
  go_wp2_with fail
  refine (pOf_c h_z1 (by decide) 0 _ _ gW4).mono ?_
  rintro e w8 ⟨A_b, n_b, c_b, B_b, m_b, d_b, rfl, h_b, bn⟩
  replace h_y := h_y.below bn
  replace h_a := h_a.below bn
  replace h_ra := h_ra.below bn
  replace h_z := h_z.below bn
  replace h_f0 := h_f0.below bn
  replace h_rf0 := h_rf0.below bn
  replace h_z1 := h_z1.below bn
  replace bw := below_two bw bn
  clear bn
  have h_rb := row3_new w8 27 (.bool (sg (oTop (some 1)))) (.slice A_b n_b c_b) (.slice B_b m_b d_b)
  have bn := below_new w8 (.cells #[Value.bool (sg (oTop (some 1))), Value.slice A_b n_b c_b, Value.slice B_b m_b d_b] 27)
  replace h_y := h_y.below bn
  replace h_a := h_a.below bn
  replace h_ra := h_ra.below bn
  replace h_z := h_z.below bn
  replace h_f0 := h_f0.below bn
  replace h_rf0 := h_rf0.below bn
  replace h_z1 := h_z1.below bn
  replace h_b := h_b.below bn
  replace bw := below_two bw bn
  clear bn
  go_wp2_with fail
  generalize w8.alloc (.cells #[Value.bool (sg (oTop (some 1))), Value.slice A_b n_b c_b, Value.slice B_b m_b d_b] 27) = w9 at *
  obtain ⟨q_b, eg⟩ : ∃ g, g = w8.heap.size := ⟨_, rfl⟩
  rw [← eg] at h_rb ⊢
  clear eg
  refine (rWhole_is 2 (by decide) (by decide) _ two_cast _).mono ?_
  rintro e w10 ⟨A_z2, n_z2, c_z2, B_z2, m_z2, d_z2, rfl, h_z2, bn⟩
  replace h_y := h_y.below bn
  replace h_a := h_a.below bn
  replace h_ra := h_ra.below bn
  replace h_z := h_z.below bn
  replace h_f0 := h_f0.below bn
  replace h_rf0 := h_rf0.below bn
  replace h_z1 := h_z1.below bn
  replace h_b := h_b.below bn
  replace h_rb := h_rb.below bn
  replace bw := below_two bw bn
  clear bn
  go_wp2_with fail
  refine (pOf_c h_z2 (by decide) 129 _ _ gW5).mono ?_
  rintro e w11 ⟨A_j0, n_j0, c_j0, B_j0, m_j0, d_j0, rfl, h_j0, bn⟩
  replace h_y := h_y.below bn
  replace h_a := h_a.below bn
  replace h_ra := h_ra.below bn
  replace h_z := h_z.below bn
  replace h_f0 := h_f0.below bn
  replace h_rf0 := h_rf0.below bn
  replace h_z1 := h_z1.below bn
  replace h_b := h_b.below bn
  replace h_rb := h_rb.below bn
  replace h_z2 := h_z2.below bn
  replace bw := below_two bw bn
  clear bn
  have h_rj0 := row3_new w11 27 (.bool (sg (oTop none))) (.slice A_j0 n_j0 c_j0) (.slice B_j0 m_j0 d_j0)
  have bn := below_new w11 (.cells #[Value.bool (sg (oTop none)), Value.slice A_j0 n_j0 c_j0, Value.slice B_j0 m_j0 d_j0] 27)
  replace h_y := h_y.below bn
  replace h_a := h_a.below bn
  replace h_ra := h_ra.below bn
  replace h_z := h_z.below bn
  replace h_f0 := h_f0.below bn
  replace h_rf0 := h_rf0.below bn
  replace h_z1 := h_z1.below bn
  replace h_b := h_b.below bn
  replace h_rb := h_rb.below bn
  replace h_z2 := h_z2.below bn
  replace h_j0 := h_j0.below bn
  replace bw := below_two bw bn
  clear bn
  go_wp2_with fail
  generalize w11.alloc (.cells #[Value.bool (sg (oTop none)), Value.slice A_j0 n_j0 c_j0, Value.slice B_j0 m_j0 d_j0] 27) = w12 at *
  obtain ⟨q_j0, eg⟩ : ∃ g, g = w11.heap.size := ⟨_, rfl⟩
  rw [← eg] at h_rj0 ⊢
  clear eg
  refine (by_c 5 2 (by decide) (by decide) (by decide) (by decide) _ gW6 _).mono ?_
  rintro e w13 ⟨A_z3, n_z3, c_z3, B_z3, m_z3, d_z3, rfl, h_z3, bn⟩
  replace h_y := h_y.below bn
  replace h_a := h_a.below bn
  replace h_ra := h_ra.below bn
  replace h_z := h_z.below bn
  replace h_f0 := h_f0.below bn
  replace h_rf0 := h_rf0.below bn
  replace h_z1 := h_z1.below bn
  replace h_b := h_b.below bn
  replace h_rb := h_rb.below bn
  replace h_z2 := h_z2.below bn
  replace h_j0 := h_j0.below bn
  replace h_rj0 := h_rj0.below bn
  replace bw := below_two bw bn
  clear bn
  go_wp2_with fail
  refine (pScale_c h_z3 (by decide) (-3) _ _ gW7).mono ?_
  rintro e w14 ⟨A_c, n_c, c_c, B_c, m_c, d_c, rfl, h_c, bn⟩
  replace h_y := h_y.below bn
  replace h_a := h_a.below bn
  replace h_ra := h_ra.below bn
  replace h_z := h_z.below bn
  replace h_f0 := h_f0.below bn
  replace h_rf0 := h_rf0.below bn
  replace h_z1 := h_z1.below bn
  replace h_b := h_b.below bn
  replace h_rb := h_rb.below bn
  replace h_z2 := h_z2.below bn
  replace h_j0 := h_j0.below bn
  replace h_rj0 := h_rj0.below bn
  replace h_z3 := h_z3.below bn
  replace bw := below_two bw bn
  clear bn
  have h_rc := row3_new w14 27 (.bool (sg (oTop (some gwC)))) (.slice A_c n_c c_c) (.slice B_c m_c d_c)
  have bn := below_new w14 (.cells #[Value.bool (sg (oTop (some gwC))), Value.slice A_c n_c c_c, Value.slice B_c m_c d_c] 27)
  replace h_y := h_y.below bn
  replace h_a := h_a.below bn
  replace h_ra := h_ra.below bn
  replace h_z := h_z.below bn
  replace h_f0 := h_f0.below bn
  replace h_rf0 := h_rf0.below bn
  replace h_z1 := h_z1.below bn
  replace h_b := h_b.below bn
  replace h_rb := h_rb.below bn
  replace h_z2 := h_z2.below bn
  replace h_j0 := h_j0.below bn
  replace h_rj0 := h_rj0.below bn
  replace h_z3 := h_z3.below bn
  replace h_c := h_c.below bn
  replace bw := below_two bw bn
  clear bn
  go_wp2
  generalize w14.alloc (.cells #[Value.bool (sg (oTop (some gwC))), Value.slice A_c n_c c_c, Value.slice B_c m_c d_c] 27) = w15 at *
  obtain ⟨q_c, eg⟩ : ∃ g, g = w14.heap.size := ⟨_, rfl⟩
  rw [← eg] at h_rc ⊢
  clear eg
  generalize w15 = wS at *
  refine region_freeg 33 1 [36, 37, 38, 39, 40, 41, 42, 43, 44, 45, 46, 47, 48, 49, 50, 51, 52, 53, 54, 55, 56, 57, 58, 59, 60, 61, 62, 63, 64, 65, 66, 67, 68] ?aF16 (fun wx => Below wS.heap.size wS wx) (fun k vv wx => match k with
      | 0 => vv = .int .i64 0
      | 1 => vv = .bool true
      | 2 => vv = .bool true
      | 3 => vv = .agg #[.bool (sg (oTop (some gwA))), .slice A_a n_a c_a, .slice B_a m_a d_a]
      | 4 => ∃ (e0 : Option Addr) (e1 : Nat) (e2 : Nat) (e3 : Option Addr) (e4 : Nat) (e5 : Nat), vv = .agg #[.bool (sg (oTop (some gwA))), .slice e0 e1 e2, .slice e3 e4 e5] ∧ QT wx e0 e1 e2 e3 e4 e5 (some gwA)
      | 5 => vv = .bool true
      | 6 => vv = .bool true
      | 7 => vv = .bool true
      | 8 => vv = .int .i64 3
      | 9 => vv = .bool true
      | 10 => vv = .bool true
      | 11 => vv = .bool true
      | 12 => vv = .int .i64 0
      | 13 => vv = .bool true
      | 14 => vv = .bool true
      | 15 => vv = .bool true
      | 16 => vv = .agg #[.bool (sg (oTop (some 1))), .slice A_b n_b c_b, .slice B_b m_b d_b]
      | 17 => ∃ (e0 : Option Addr) (e1 : Nat) (e2 : Nat) (e3 : Option Addr) (e4 : Nat) (e5 : Nat), vv = .agg #[.bool (sg (oTop (some 1))), .slice e0 e1 e2, .slice e3 e4 e5] ∧ QT wx e0 e1 e2 e3 e4 e5 (some 1)
      | 18 => vv = .bool true
      | 19 => vv = .bool true
      | 20 => vv = .bool true
      | 21 => vv = .int .i64 2
      | 22 => vv = .bool true
      | 23 => vv = .bool true
      | 24 => vv = .bool true
      | 25 => vv = .int .i64 0
      | 26 => vv = .bool true
      | 27 => vv = .bool true
      | 28 => vv = .bool true
      | 29 => vv = .agg #[.bool (sg (oTop (some gwC))), .slice A_c n_c c_c, .slice B_c m_c d_c]
      | 30 => ∃ (e0 : Option Addr) (e1 : Nat) (e2 : Nat) (e3 : Option Addr) (e4 : Nat) (e5 : Nat), vv = .agg #[.bool (sg (oTop (some gwC))), .slice e0 e1 e2, .slice e3 e4 e5] ∧ QT wx e0 e1 e2 e3 e4 e5 (some gwC)
      | 31 => vv = .bool true
      | _ => vv = .bool true)
    (fun k => false) (by kernel_rfl) ?haF16 rfl (by kernel_rfl) (by kernel_rfl) (fun _ _ _ _ _ h => h) ?hSb16 ?hPb16 ?hS16 ?hop16 ?hfin16
  case haF16 =>
    intro vals
    simp only [fillAll, List.getElem?_cons_zero, List.getElem?_cons_succ, Act.put, List.setIfInBounds_toArray, List.set_cons_zero, List.set_cons_succ]
    exact rfl
  case hSb16 => exact fun wx w2 hb hS => below_two hS hb
  case hPb16 =>
    intro k v wa wb hb h
    match k, h with
    | 0, h => exact h
    | 1, h => exact h
    | 2, h => exact h
    | 3, h => exact h
    | 4, ⟨e0, e1, e2, e3, e4, e5, h1, g0⟩ => exact ⟨e0, e1, e2, e3, e4, e5, h1, g0.below hb⟩
    | 5, h => exact h
    | 6, h => exact h
    | 7, h => exact h
    | 8, h => exact h
    | 9, h => exact h
    | 10, h => exact h
    | 11, h => exact h
    | 12, h => exact h
    | 13, h => exact h
    | 14, h => exact h
    | 15, h => exact h
    | 16, h => exact h
    | 17, ⟨e0, e1, e2, e3, e4, e5, h1, g0⟩ => exact ⟨e0, e1, e2, e3, e4, e5, h1, g0.below hb⟩
    | 18, h => exact h
    | 19, h => exact h
    | 20, h => exact h
    | 21, h => exact h
    | 22, h => exact h
    | 23, h => exact h
    | 24, h => exact h
    | 25, h => exact h
    | 26, h => exact h
    | 27, h => exact h
    | 28, h => exact h
    | 29, h => exact h
    | 30, ⟨e0, e1, e2, e3, e4, e5, h1, g0⟩ => exact ⟨e0, e1, e2, e3, e4, e5, h1, g0.below hb⟩
    | 31, h => exact h
    | _ + 32, h => exact h
  case hS16 => exact (Below.refl _ _).drew
  case hop16 =>
    refine .cons (k := 0) (.plain rfl ?_) (.cons (k := 1) (.plain rfl ?_) (.cons (k := 2) (.plain rfl ?_) (.cons (k := 3) (.yes (fun vals wr hS hd g b e => by cases e; exact hd 2 (by decide +kernel)) ?_) (.cons (k := 4) (.yes (fun vals wr hS hd g b e => by cases e; exact hd 2 (by decide +kernel)) ?_) (.cons (k := 5) (.yes (fun vals wr hS hd g b e => by cases e; exact hd 2 (by decide +kernel)) ?_) (.cons (k := 6) (.plain rfl ?_) (.cons (k := 7) (.plain rfl ?_) (.cons (k := 8) (.yes (fun vals wr hS hd g b e => by cases e; exact hd 7 (by decide +kernel)) ?_) (.cons (k := 9) (.yes (fun vals wr hS hd g b e => by cases e; exact hd 7 (by decide +kernel)) ?_) (.cons (k := 10) (.plain rfl ?_) (.cons (k := 11) (.plain rfl ?_) (.cons (k := 12) (.yes (fun vals wr hS hd g b e => by cases e; exact hd 11 (by decide +kernel)) ?_) (.cons (k := 13) (.yes (fun vals wr hS hd g b e => by cases e; exact hd 11 (by decide +kernel)) ?_) (.cons (k := 14) (.plain rfl ?_) (.cons (k := 15) (.plain rfl ?_) (.cons (k := 16) (.yes (fun vals wr hS hd g b e => by cases e; exact hd 15 (by decide +kernel)) ?_) (.cons (k := 17) (.yes (fun vals wr hS hd g b e => by cases e; exact hd 15 (by decide +kernel)) ?_) (.cons (k := 18) (.yes (fun vals wr hS hd g b e => by cases e; exact hd 15 (by decide +kernel)) ?_) (.cons (k := 19) (.plain rfl ?_) (.cons (k := 20) (.plain rfl ?_) (.cons (k := 21) (.yes (fun vals wr hS hd g b e => by cases e; exact hd 20 (by decide +kernel)) ?_) (.cons (k := 22) (.yes (fun vals wr hS hd g b e => by cases e; exact hd 20 (by decide +kernel)) ?_) (.cons (k := 23) (.plain rfl ?_) (.cons (k := 24) (.plain rfl ?_) (.cons (k := 25) (.yes (fun vals wr hS hd g b e => by cases e; exact hd 24 (by decide +kernel)) ?_) (.cons (k := 26) (.yes (fun vals wr hS hd g b e => by cases e; exact hd 24 (by decide +kernel)) ?_) (.cons (k := 27) (.plain rfl ?_) (.cons (k := 28) (.plain rfl ?_) (.cons (k := 29) (.yes (fun vals wr hS hd g b e => by cases e; exact hd 28 (by decide +kernel)) ?_) (.cons (k := 30) (.yes (fun vals wr hS hd g b e => by cases e; exact hd 28 (by decide +kernel)) ?_) (.cons (k := 31) (.yes (fun vals wr hS hd g b e => by cases e; exact hd 28 (by decide +kernel)) ?_) (.cons (k := 32) (.plain rfl ?_) (.nil)))))))))))))))))))))))))))))))))
    all_goals intro vals wr hS hd KC hK
    all_goals (show Oper.wp _ _ _ _ _ _; dsimp only)
    · go_simp
      refine hK _ _ rfl (Below.refl _ _) (by first | rfl | simp) (fun h => by cases h)
    · have d0 : vals 0 = _ := hd 0 (by decide +kernel)
      rw [d0]
      go_simp
      refine hK _ _ rfl (Below.refl _ _) (by first | rfl | simp) (fun h => by cases h)
    · have d1 : vals 1 = _ := hd 1 (by decide +kernel)
      rw [d1]
      go_simp
      refine hK _ _ rfl (Below.refl _ _) (by first | rfl | simp) (fun h => by cases h)
    · have z0 := (h_ra.below hS).c0
      have z1 := (h_ra.below hS).c1
      have z2 := (h_ra.below hS).c2
      go_simp
      refine hK _ _ rfl (Below.refl _ _) (by first | rfl | simp) (fun h => by cases h)
    · go_simp
      go_at_call 21
      with_reducible refine (by_c 9 4 (by decide) (by decide) (by decide) (by decide) _ gW8 _).mono ?_
      rintro e w2 ⟨r0, r1, r2, r3, r4, r5, rfl, f0, bn_r⟩
      refine hK _ _ rfl bn_r ⟨_, _, _, _, _, _, rfl, f0⟩ (fun h => by cases h)
    · have d3 : vals 3 = _ := hd 3 (by decide +kernel)
      obtain ⟨A_4_0, n_4_1, n_4_2, A_4_3, n_4_4, n_4_5, d4, h_4_0⟩ := hd 4 (by decide +kernel)
      rw [d3, d4]
      go_simp
      go_at_call 15
      with_reducible refine (keepRat_c (h_a.below hS) h_4_0 (by decide) (by decide) true (keepQ rfl)).mono ?_
      rintro e w2 ⟨rfl, bn_r⟩
      refine hK _ _ rfl bn_r rfl (fun h => by cases h)
    · have d2 : vals 2 = _ := hd 2 (by decide +kernel)
      have d5 : vals 5 = _ := hd 5 (by decide +kernel)
      rw [d2, d5]
      go_simp
      refine hK _ _ rfl (Below.refl _ _) (by first | rfl | simp) (fun h => by cases h)
    · have d6 : vals 6 = _ := hd 6 (by decide +kernel)
      rw [d6]
      go_simp
      refine hK _ _ rfl (Below.refl _ _) (by first | rfl | simp) (fun h => by cases h)
    · go_simp
      refine hK _ _ rfl (Below.refl _ _) (by first | rfl | simp) (fun h => by cases h)
    · have d8 : vals 8 = _ := hd 8 (by decide +kernel)
      rw [d8]
      go_simp
      refine hK _ _ rfl (Below.refl _ _) (by first | rfl | simp) (fun h => by cases h)
    · have d7 : vals 7 = _ := hd 7 (by decide +kernel)
      have d9 : vals 9 = _ := hd 9 (by decide +kernel)
      rw [d7, d9]
      go_simp
      refine hK _ _ rfl (Below.refl _ _) (by first | rfl | simp) (fun h => by cases h)
    · have d10 : vals 10 = _ := hd 10 (by decide +kernel)
      rw [d10]
      go_simp
      refine hK _ _ rfl (Below.refl _ _) (by first | rfl | simp) (fun h => by cases h)
    · go_simp
      refine hK _ _ rfl (Below.refl _ _) (by first | rfl | simp) (fun h => by cases h)
    · have d12 : vals 12 = _ := hd 12 (by decide +kernel)
      rw [d12]
      go_simp
      refine hK _ _ rfl (Below.refl _ _) (by first | rfl | simp) (fun h => by cases h)
    · have d11 : vals 11 = _ := hd 11 (by decide +kernel)
      have d13 : vals 13 = _ := hd 13 (by decide +kernel)
      rw [d11, d13]
      go_simp
      refine hK _ _ rfl (Below.refl _ _) (by first | rfl | simp) (fun h => by cases h)
    · have d14 : vals 14 = _ := hd 14 (by decide +kernel)
      rw [d14]
      go_simp
      refine hK _ _ rfl (Below.refl _ _) (by first | rfl | simp) (fun h => by cases h)
    · have z0 := (h_rb.below hS).c0
      have z1 := (h_rb.below hS).c1
      have z2 := (h_rb.below hS).c2
      go_simp
      refine hK _ _ rfl (Below.refl _ _) (by first | rfl | simp) (fun h => by cases h)
    · go_simp
      go_at_call 18
      with_reducible refine (rWhole_is 1 (by decide) (by decide) _ one_cast _).mono ?_
      rintro e w2 ⟨r0, r1, r2, r3, r4, r5, rfl, f0, bn_r⟩
      refine hK _ _ rfl bn_r ⟨_, _, _, _, _, _, rfl, f0⟩ (fun h => by cases h)
    · have d16 : vals 16 = _ := hd 16 (by decide +kernel)
      obtain ⟨A_17_0, n_17_1, n_17_2, A_17_3, n_17_4, n_17_5, d17, h_17_0⟩ := hd 17 (by decide +kernel)
      rw [d16, d17]
      go_simp
      go_at_call 15
      with_reducible refine (keepRat_c (h_b.below hS) h_17_0 (by decide) (by decide) true (keepQ rfl)).mono ?_
      rintro e w2 ⟨rfl, bn_r⟩
      refine hK _ _ rfl bn_r rfl (fun h => by cases h)
    · have d15 : vals 15 = _ := hd 15 (by decide +kernel)
      have d18 : vals 18 = _ := hd 18 (by decide +kernel)
      rw [d15, d18]
      go_simp
      refine hK _ _ rfl (Below.refl _ _) (by first | rfl | simp) (fun h => by cases h)
    · have d19 : vals 19 = _ := hd 19 (by decide +kernel)
      rw [d19]
      go_simp
      refine hK _ _ rfl (Below.refl _ _) (by first | rfl | simp) (fun h => by cases h)
    · go_simp
      refine hK _ _ rfl (Below.refl _ _) (by first | rfl | simp) (fun h => by cases h)
    · have d21 : vals 21 = _ := hd 21 (by decide +kernel)
      rw [d21]
      go_simp
      refine hK _ _ rfl (Below.refl _ _) (by first | rfl | simp) (fun h => by cases h)
    · have d20 : vals 20 = _ := hd 20 (by decide +kernel)
      have d22 : vals 22 = _ := hd 22 (by decide +kernel)
      rw [d20, d22]
      go_simp
      refine hK _ _ rfl (Below.refl _ _) (by first | rfl | simp) (fun h => by cases h)
    · have d23 : vals 23 = _ := hd 23 (by decide +kernel)
      rw [d23]
      go_simp
      refine hK _ _ rfl (Below.refl _ _) (by first | rfl | simp) (fun h => by cases h)
    · go_simp
      refine hK _ _ rfl (Below.refl _ _) (by first | rfl | simp) (fun h => by cases h)
    · have d25 : vals 25 = _ := hd 25 (by decide +kernel)
      rw [d25]
      go_simp
      refine hK _ _ rfl (Below.refl _ _) (by first | rfl | simp) (fun h => by cases h)
    · have d24 : vals 24 = _ := hd 24 (by decide +kernel)
      have d26 : vals 26 = _ := hd 26 (by decide +kernel)
      rw [d24, d26]
      go_simp
      refine hK _ _ rfl (Below.refl _ _) (by first | rfl | simp) (fun h => by cases h)
    · have d27 : vals 27 = _ := hd 27 (by decide +kernel)
      rw [d27]
      go_simp
      refine hK _ _ rfl (Below.refl _ _) (by first | rfl | simp) (fun h => by cases h)
    · have z0 := (h_rc.below hS).c0
      have z1 := (h_rc.below hS).c1
      have z2 := (h_rc.below hS).c2
      go_simp
      refine hK _ _ rfl (Below.refl _ _) (by first | rfl | simp) (fun h => by cases h)
    · go_simp
      go_at_call 21
      with_reducible refine (by_c 1 400 (by decide) (by decide) (by decide) (by decide) _ gW9 _).mono ?_
      rintro e w2 ⟨r0, r1, r2, r3, r4, r5, rfl, f0, bn_r⟩
      refine hK _ _ rfl bn_r ⟨_, _, _, _, _, _, rfl, f0⟩ (fun h => by cases h)
    · have d29 : vals 29 = _ := hd 29 (by decide +kernel)
      obtain ⟨A_30_0, n_30_1, n_30_2, A_30_3, n_30_4, n_30_5, d30, h_30_0⟩ := hd 30 (by decide +kernel)
      rw [d29, d30]
      go_simp
      go_at_call 15
      with_reducible refine (keepRat_c (h_c.below hS) h_30_0 (by decide) (by decide) true (keepQ rfl)).mono ?_
      rintro e w2 ⟨rfl, bn_r⟩
      refine hK _ _ rfl bn_r rfl (fun h => by cases h)
    · have d28 : vals 28 = _ := hd 28 (by decide +kernel)
      have d31 : vals 31 = _ := hd 31 (by decide +kernel)
      rw [d28, d31]
      go_simp
      refine hK _ _ rfl (Below.refl _ _) (by first | rfl | simp) (fun h => by cases h)
  case hfin16 =>
    intro vals wr hS hP hne
    have ez_32 : vals 32 = _ := hP 32 (by decide)
    have HB := Lib.hid (below_two bw hS)
    try dsimp only
    rw [ez_32]
    refine wpAny_ready (rs := [33]) (by kernel_rfl) (by simp) (AllReady.cons rfl (fun KC hK => ?_) AllReady.nil)
    go_simp
    refine hK _ _ ?_
    clear hK KC
    refine wpAny_done (by kernel_rfl) ?_ _
    go_wp2
    go_ret
    exact ⟨rfl, HB.out⟩

end Go.Proofs.Ytmifgblbicnimaa
