/- Part 8 of the texts that the statements of this seat lean on: mathematics, and what functions answer, as contracts over memory; each part says its own conditions. -/
import Derived.Test.YtohciicocaoagaaGreatM7
/- What package rat's Good answers, as a contract over memory. Conditions: sizes of at most so many limbs. -/
namespace Go.Proofs.YtohciicocaoagaaGreat
open Go.RowKit Limb
set_option linter.unusedVariables false
section
variable {w : World} {s s' : Bool} {A B A' B' : Option Addr} {n c m d n' c' m' d' : Nat} {xs ys xs' ys' : List Nat} {x y : Int} {a b L L' : Nat}
set_option maxHeartbeats 40000000 in
set_option maxRecDepth 100000 in
theorem rGood_c {o : Option Rat} (hx : QQ w s A n c xs B m d ys o L) (h1 : L ≤ 10000) (v : Bool) (hv : o.isSome = v) :
    Calls Tryz.prog 16 #[.agg #[.bool s, .slice A n c, .slice B m d]] w fun e w' => e = .returned (.bool v) ∧ Below w.heap.size w w' := by
  have hg := hx.good
  rw [hv] at hg
  have hlx := hx.bot.isN.len
  have hlt := hx.top.nn.isN.len
  have hsx := hx.top.nn.isN.small
  have hsy := hx.bot.isN.small
  have b0 := below_new w (.cells #[Value.bool s, Value.slice A n c, Value.slice B m d] 27)
  have HW := Lib.hid b0
  have HX : RowKit.Hid (NN (w.alloc (.cells #[Value.bool s, Value.slice A n c, Value.slice B m d] 27)) A n c xs (Limb.val xs) L) := by
    have h := hx.top.nn.below b0
    rw [zOf_abs] at h
    exact h
  have HY := Lib.hid (hx.bot.below b0)
  have HR0 := Lib.hid (row3_new w 27 (.bool s) (.slice A n c) (.slice B m d))
  clear b0 hx hv
  by_cases k1 : xs = limbs (Limb.val xs)
  · by_cases k2 : ys = limbs (Limb.val ys)
    · by_cases k5 : n ≤ 64 ∧ m ≤ 64
      · by_cases k3 : m = 0
        · have hgf : goodV s xs ys = false := by
            rw [Bool.eq_false_iff]
            intro h
            obtain ⟨g1, g2, g3, g4, g5, g6, g7⟩ := goodV_iff.1 h
            exact g3 (by rw [List.eq_nil_of_length_eq_zero (hlx.trans k3)]; rfl)
          obtain rfl : v = false := hg.symm.trans hgf
          clear hg hgf hlx hlt hsx hsy
          have m0 : ((m : Int) == 0) = true := by rw [beq_iff_eq]; omega
          have K1 : RowKit.Hid (decide (xs = limbs (Limb.val xs)) = true) := by show _ = _; simpa using k1
          have K2 : RowKit.Hid (decide (ys = limbs (Limb.val ys)) = true) := by show _ = _; simpa using k2
          have K5 : RowKit.Hid ((decide (n ≤ 64) && decide (m ≤ 64)) = true) := by show _ = _; simpa using k5
          clear k1 k2 k5 k3
          go_enter Tryz.func16, Tryz.ntmps16
          go_wp2_with fail
          generalize w.alloc (.cells #[Value.bool s, Value.slice A n c, Value.slice B m d] 27) = w1 at *
          refine (rTrimmed_c HX.out (by omega) true K1.out).mono ?_
          rintro e w2 ⟨rfl, rfl⟩
          have c00 := HR0.out.c0
          have c01 := HR0.out.c1
          have c02 := HR0.out.c2
          go_wp2_with fail
          clear c00 c01 c02
          refine (rTrimmed_c HY.out (by omega) true K2.out).mono ?_
          rintro e w2 ⟨rfl, rfl⟩
          have c00 := HR0.out.c0
          have c01 := HR0.out.c1
          have c02 := HR0.out.c2
          go_wp2_with fail
          clear c00 c01 c02
          refine (rFits_c s A B n c m d _ true K5.out).mono ?_
          rintro e w3 ⟨rfl, bn⟩
          replace HX := Lib.hid (HX.out.below bn)
          replace HY := Lib.hid (HY.out.below bn)
          replace HR0 := Lib.hid (HR0.out.below bn)
          replace HW := Lib.hid (below_two HW.out bn)
          clear bn
          have c00 := HR0.out.c0
          have c01 := HR0.out.c1
          have c02 := HR0.out.c2
          go_wp2
          go_ret
          exact ⟨rfl, HW.out⟩
        · by_cases k4 : s = true ∧ n = 0
          · obtain ⟨k4s, k4n⟩ := k4
            have hgf : goodV s xs ys = false := by
              rw [Bool.eq_false_iff]
              intro h
              obtain ⟨g1, g2, g3, g4, g5, g6, g7⟩ := goodV_iff.1 h
              exact g4 ⟨k4s, by rw [List.eq_nil_of_length_eq_zero (hlt.trans k4n)]; rfl⟩
            obtain rfl : v = false := hg.symm.trans hgf
            clear hg hgf hlx hlt hsx hsy
            have m0 : ((m : Int) == 0) = false := by rw [beq_eq_false_iff_ne]; omega
            have n0 : ((n : Int) == 0) = true := by rw [beq_iff_eq]; omega
            subst k4s
            have K1 : RowKit.Hid (decide (xs = limbs (Limb.val xs)) = true) := by show _ = _; simpa using k1
            have K2 : RowKit.Hid (decide (ys = limbs (Limb.val ys)) = true) := by show _ = _; simpa using k2
            have K5 : RowKit.Hid ((decide (n ≤ 64) && decide (m ≤ 64)) = true) := by show _ = _; simpa using k5
            clear k1 k2 k5 k3 k4n
            go_enter Tryz.func16, Tryz.ntmps16
            go_wp2_with fail
            generalize w.alloc (.cells #[Value.bool true, Value.slice A n c, Value.slice B m d] 27) = w1 at *
            refine (rTrimmed_c HX.out (by omega) true K1.out).mono ?_
            rintro e w2 ⟨rfl, rfl⟩
            have c00 := HR0.out.c0
            have c01 := HR0.out.c1
            have c02 := HR0.out.c2
            go_wp2_with fail
            clear c00 c01 c02
            refine (rTrimmed_c HY.out (by omega) true K2.out).mono ?_
            rintro e w2 ⟨rfl, rfl⟩
            have c00 := HR0.out.c0
            have c01 := HR0.out.c1
            have c02 := HR0.out.c2
            go_wp2_with fail
            clear c00 c01 c02
            refine (rFits_c true A B n c m d _ true K5.out).mono ?_
            rintro e w3 ⟨rfl, bn⟩
            replace HX := Lib.hid (HX.out.below bn)
            replace HY := Lib.hid (HY.out.below bn)
            replace HR0 := Lib.hid (HR0.out.below bn)
            replace HW := Lib.hid (below_two HW.out bn)
            clear bn
            have c00 := HR0.out.c0
            have c01 := HR0.out.c1
            have c02 := HR0.out.c2
            go_wp2
            go_ret
            exact ⟨rfl, HW.out⟩
          · by_cases hgcd : Nat.gcd (Limb.val xs) (Limb.val ys) = 1
            · have hgt : goodV s xs ys = true := by
                rw [goodV_iff]
                refine ⟨k1, k2, ?_, ?_, by omega, by omega, hgcd⟩
                · intro h; rw [h, limbs_zero] at k2; rw [k2] at hlx; simp at hlx; omega
                · rintro ⟨h1, h2⟩
                  rw [h2, limbs_zero] at k1; rw [k1] at hlt; simp at hlt
                  exact k4 ⟨h1, by omega⟩
              obtain rfl : v = true := hg.symm.trans hgt
              have hl2 := Lib.hid hlx
              clear hg hgt hlx hlt hsx hsy
              obtain ⟨z, hz0⟩ : ∃ z : Int, z = 0 := ⟨_, rfl⟩
              have HZ : RowKit.Hid (cmpI (gcdN (Limb.val xs) (Limb.val ys)) 1 = z) := by show _ = _; rw [hz0]; exact cmpI_same hgcd
              have hzz : (z == 0) = true := by rw [hz0]; rfl
              clear hgcd hz0
              have m0 : ((m : Int) == 0) = false := by rw [beq_eq_false_iff_ne]; omega
              have HG : RowKit.Hid (gcdN (Limb.val xs) (Limb.val ys) < 4294967296 ^ L) := Nat.lt_of_le_of_lt (Nat.gcd_le_right _ (Nat.pos_of_ne_zero fun h0 => k3 (by rw [← hl2.out, k2, h0]; rfl))) (lt_pow HY.out)
              by_cases ks : s = true
              · have n0 : ((n : Int) == 0) = false := by
                  rw [beq_eq_false_iff_ne]
                  have hn0 : n ≠ 0 := fun h => k4 ⟨ks, h⟩
                  omega
                subst ks
                have K1 : RowKit.Hid (decide (xs = limbs (Limb.val xs)) = true) := by show _ = _; simpa using k1
                have K2 : RowKit.Hid (decide (ys = limbs (Limb.val ys)) = true) := by show _ = _; simpa using k2
                have K5 : RowKit.Hid ((decide (n ≤ 64) && decide (m ≤ 64)) = true) := by show _ = _; simpa using k5
                clear k1 k2 k5 k3 k4 hl2
                go_enter Tryz.func16, Tryz.ntmps16
                go_wp2_with fail
                generalize w.alloc (.cells #[Value.bool true, Value.slice A n c, Value.slice B m d] 27) = w1 at *
                refine (rTrimmed_c HX.out (by omega) true K1.out).mono ?_
                rintro e w2 ⟨rfl, rfl⟩
                have c00 := HR0.out.c0
                have c01 := HR0.out.c1
                have c02 := HR0.out.c2
                go_wp2_with fail
                clear c00 c01 c02
                refine (rTrimmed_c HY.out (by omega) true K2.out).mono ?_
                rintro e w2 ⟨rfl, rfl⟩
                have c00 := HR0.out.c0
                have c01 := HR0.out.c1
                have c02 := HR0.out.c2
                go_wp2_with fail
                clear c00 c01 c02
                refine (rFits_c true A B n c m d _ true K5.out).mono ?_
                rintro e w3 ⟨rfl, bn⟩
                replace HX := Lib.hid (HX.out.below bn)
                replace HY := Lib.hid (HY.out.below bn)
                replace HR0 := Lib.hid (HR0.out.below bn)
                replace HW := Lib.hid (below_two HW.out bn)
                clear bn
                have c00 := HR0.out.c0
                have c01 := HR0.out.c1
                have c02 := HR0.out.c2
                go_wp2_with fail
                refine (quoGcd_c HX.out HY.out (by omega) (by omega) L HG.out).mono ?_
                rintro e w4 ⟨A3, n3, c3, rfl, h3, bn⟩
                have H3 := Lib.hid h3
                replace HW := Lib.hid (below_two HW.out bn)
                clear bn h3
                clear c00 c01 c02
                go_wp2_with fail
                refine (of_c 1 1 rfl (by decide) _).mono ?_
                rintro e w5 ⟨A4, n4, c4, rfl, h4, bn⟩
                have H4 := Lib.hid h4
                replace H3 := Lib.hid (H3.out.below bn)
                replace HW := Lib.hid (below_two HW.out bn)
                clear bn h4
                go_wp2_with fail
                refine (cmp_c H3.out H4.out (by omega) (by decide) z HZ.out).mono ?_
                rintro e w6 ⟨rfl, bn⟩
                replace HW := Lib.hid (below_two HW.out bn)
                clear bn
                go_wp2
                go_ret
                exact ⟨rfl, HW.out⟩
              · have ks2 : s = false := by simpa using ks
                subst ks2
                have K1 : RowKit.Hid (decide (xs = limbs (Limb.val xs)) = true) := by show _ = _; simpa using k1
                have K2 : RowKit.Hid (decide (ys = limbs (Limb.val ys)) = true) := by show _ = _; simpa using k2
                have K5 : RowKit.Hid ((decide (n ≤ 64) && decide (m ≤ 64)) = true) := by show _ = _; simpa using k5
                clear k1 k2 k5 k3 k4 hl2
                go_enter Tryz.func16, Tryz.ntmps16
                go_wp2_with fail
                generalize w.alloc (.cells #[Value.bool false, Value.slice A n c, Value.slice B m d] 27) = w1 at *
                refine (rTrimmed_c HX.out (by omega) true K1.out).mono ?_
                rintro e w2 ⟨rfl, rfl⟩
                have c00 := HR0.out.c0
                have c01 := HR0.out.c1
                have c02 := HR0.out.c2
                go_wp2_with fail
                clear c00 c01 c02
                refine (rTrimmed_c HY.out (by omega) true K2.out).mono ?_
                rintro e w2 ⟨rfl, rfl⟩
                have c00 := HR0.out.c0
                have c01 := HR0.out.c1
                have c02 := HR0.out.c2
                go_wp2_with fail
                clear c00 c01 c02
                refine (rFits_c false A B n c m d _ true K5.out).mono ?_
                rintro e w3 ⟨rfl, bn⟩
                replace HX := Lib.hid (HX.out.below bn)
                replace HY := Lib.hid (HY.out.below bn)
                replace HR0 := Lib.hid (HR0.out.below bn)
                replace HW := Lib.hid (below_two HW.out bn)
                clear bn
                have c00 := HR0.out.c0
                have c01 := HR0.out.c1
                have c02 := HR0.out.c2
                go_wp2_with fail
                refine (quoGcd_c HX.out HY.out (by omega) (by omega) L HG.out).mono ?_
                rintro e w4 ⟨A3, n3, c3, rfl, h3, bn⟩
                have H3 := Lib.hid h3
                replace HW := Lib.hid (below_two HW.out bn)
                clear bn h3
                clear c00 c01 c02
                go_wp2_with fail
                refine (of_c 1 1 rfl (by decide) _).mono ?_
                rintro e w5 ⟨A4, n4, c4, rfl, h4, bn⟩
                have H4 := Lib.hid h4
                replace H3 := Lib.hid (H3.out.below bn)
                replace HW := Lib.hid (below_two HW.out bn)
                clear bn h4
                go_wp2_with fail
                refine (cmp_c H3.out H4.out (by omega) (by decide) z HZ.out).mono ?_
                rintro e w6 ⟨rfl, bn⟩
                replace HW := Lib.hid (below_two HW.out bn)
                clear bn
                go_wp2
                go_ret
                exact ⟨rfl, HW.out⟩
            · have hgf : goodV s xs ys = false := by
                rw [Bool.eq_false_iff]
                intro h
                obtain ⟨g1, g2, g3, g4, g5, g6, g7⟩ := goodV_iff.1 h
                exact hgcd g7
              obtain rfl : v = false := hg.symm.trans hgf
              have hl2 := Lib.hid hlx
              clear hg hgf hlx hlt hsx hsy
              obtain ⟨z, hz0, hz1⟩ : ∃ z : Int, cmpI (gcdN (Limb.val xs) (Limb.val ys)) 1 = z ∧ z ≠ 0 := by
                rcases Nat.lt_trichotomy (gcdN (Limb.val xs) (Limb.val ys)) 1 with h | h | h
                · exact ⟨-1, cmpI_lt h, by decide⟩
                · exact absurd h hgcd
                · exact ⟨1, cmpI_gt h, by decide⟩
              have HZ := Lib.hid hz0
              have hzz : (z == 0) = false := by rw [beq_eq_false_iff_ne]; exact hz1
              clear hgcd hz0 hz1
              have m0 : ((m : Int) == 0) = false := by rw [beq_eq_false_iff_ne]; omega
              have HG : RowKit.Hid (gcdN (Limb.val xs) (Limb.val ys) < 4294967296 ^ L) := Nat.lt_of_le_of_lt (Nat.gcd_le_right _ (Nat.pos_of_ne_zero fun h0 => k3 (by rw [← hl2.out, k2, h0]; rfl))) (lt_pow HY.out)
              by_cases ks : s = true
              · have n0 : ((n : Int) == 0) = false := by
                  rw [beq_eq_false_iff_ne]
                  have hn0 : n ≠ 0 := fun h => k4 ⟨ks, h⟩
                  omega
                subst ks
                have K1 : RowKit.Hid (decide (xs = limbs (Limb.val xs)) = true) := by show _ = _; simpa using k1
                have K2 : RowKit.Hid (decide (ys = limbs (Limb.val ys)) = true) := by show _ = _; simpa using k2
                have K5 : RowKit.Hid ((decide (n ≤ 64) && decide (m ≤ 64)) = true) := by show _ = _; simpa using k5
                clear k1 k2 k5 k3 k4 hl2
                go_enter Tryz.func16, Tryz.ntmps16
                go_wp2_with fail
                generalize w.alloc (.cells #[Value.bool true, Value.slice A n c, Value.slice B m d] 27) = w1 at *
                refine (rTrimmed_c HX.out (by omega) true K1.out).mono ?_
                rintro e w2 ⟨rfl, rfl⟩
                have c00 := HR0.out.c0
                have c01 := HR0.out.c1
                have c02 := HR0.out.c2
                go_wp2_with fail
                clear c00 c01 c02
                refine (rTrimmed_c HY.out (by omega) true K2.out).mono ?_
                rintro e w2 ⟨rfl, rfl⟩
                have c00 := HR0.out.c0
                have c01 := HR0.out.c1
                have c02 := HR0.out.c2
                go_wp2_with fail
                clear c00 c01 c02
                refine (rFits_c true A B n c m d _ true K5.out).mono ?_
                rintro e w3 ⟨rfl, bn⟩
                replace HX := Lib.hid (HX.out.below bn)
                replace HY := Lib.hid (HY.out.below bn)
                replace HR0 := Lib.hid (HR0.out.below bn)
                replace HW := Lib.hid (below_two HW.out bn)
                clear bn
                have c00 := HR0.out.c0
                have c01 := HR0.out.c1
                have c02 := HR0.out.c2
                go_wp2_with fail
                refine (quoGcd_c HX.out HY.out (by omega) (by omega) L HG.out).mono ?_
                rintro e w4 ⟨A3, n3, c3, rfl, h3, bn⟩
                have H3 := Lib.hid h3
                replace HW := Lib.hid (below_two HW.out bn)
                clear bn h3
                clear c00 c01 c02
                go_wp2_with fail
                refine (of_c 1 1 rfl (by decide) _).mono ?_
                rintro e w5 ⟨A4, n4, c4, rfl, h4, bn⟩
                have H4 := Lib.hid h4
                replace H3 := Lib.hid (H3.out.below bn)
                replace HW := Lib.hid (below_two HW.out bn)
                clear bn h4
                go_wp2_with fail
                refine (cmp_c H3.out H4.out (by omega) (by decide) z HZ.out).mono ?_
                rintro e w6 ⟨rfl, bn⟩
                replace HW := Lib.hid (below_two HW.out bn)
                clear bn
                go_wp2
                go_ret
                exact ⟨rfl, HW.out⟩
              · have ks2 : s = false := by simpa using ks
                subst ks2
                have K1 : RowKit.Hid (decide (xs = limbs (Limb.val xs)) = true) := by show _ = _; simpa using k1
                have K2 : RowKit.Hid (decide (ys = limbs (Limb.val ys)) = true) := by show _ = _; simpa using k2
                have K5 : RowKit.Hid ((decide (n ≤ 64) && decide (m ≤ 64)) = true) := by show _ = _; simpa using k5
                clear k1 k2 k5 k3 k4 hl2
                go_enter Tryz.func16, Tryz.ntmps16
                go_wp2_with fail
                generalize w.alloc (.cells #[Value.bool false, Value.slice A n c, Value.slice B m d] 27) = w1 at *
                refine (rTrimmed_c HX.out (by omega) true K1.out).mono ?_
                rintro e w2 ⟨rfl, rfl⟩
                have c00 := HR0.out.c0
                have c01 := HR0.out.c1
                have c02 := HR0.out.c2
                go_wp2_with fail
                clear c00 c01 c02
                refine (rTrimmed_c HY.out (by omega) true K2.out).mono ?_
                rintro e w2 ⟨rfl, rfl⟩
                have c00 := HR0.out.c0
                have c01 := HR0.out.c1
                have c02 := HR0.out.c2
                go_wp2_with fail
                clear c00 c01 c02
                refine (rFits_c false A B n c m d _ true K5.out).mono ?_
                rintro e w3 ⟨rfl, bn⟩
                replace HX := Lib.hid (HX.out.below bn)
                replace HY := Lib.hid (HY.out.below bn)
                replace HR0 := Lib.hid (HR0.out.below bn)
                replace HW := Lib.hid (below_two HW.out bn)
                clear bn
                have c00 := HR0.out.c0
                have c01 := HR0.out.c1
                have c02 := HR0.out.c2
                go_wp2_with fail
                refine (quoGcd_c HX.out HY.out (by omega) (by omega) L HG.out).mono ?_
                rintro e w4 ⟨A3, n3, c3, rfl, h3, bn⟩
                have H3 := Lib.hid h3
                replace HW := Lib.hid (below_two HW.out bn)
                clear bn h3
                clear c00 c01 c02
                go_wp2_with fail
                refine (of_c 1 1 rfl (by decide) _).mono ?_
                rintro e w5 ⟨A4, n4, c4, rfl, h4, bn⟩
                have H4 := Lib.hid h4
                replace H3 := Lib.hid (H3.out.below bn)
                replace HW := Lib.hid (below_two HW.out bn)
                clear bn h4
                go_wp2_with fail
                refine (cmp_c H3.out H4.out (by omega) (by decide) z HZ.out).mono ?_
                rintro e w6 ⟨rfl, bn⟩
                replace HW := Lib.hid (below_two HW.out bn)
                clear bn
                go_wp2
                go_ret
                exact ⟨rfl, HW.out⟩
      · have hgf : goodV s xs ys = false := by
          rw [Bool.eq_false_iff]
          intro h
          obtain ⟨g1, g2, g3, g4, g5, g6, g7⟩ := goodV_iff.1 h
          exact k5 ⟨by omega, by omega⟩
        obtain rfl : v = false := hg.symm.trans hgf
        clear hg hgf hlx hlt hsx hsy
        have K1 : RowKit.Hid (decide (xs = limbs (Limb.val xs)) = true) := by show _ = _; simpa using k1
        have K2 : RowKit.Hid (decide (ys = limbs (Limb.val ys)) = true) := by show _ = _; simpa using k2
        have K5 : RowKit.Hid ((decide (n ≤ 64) && decide (m ≤ 64)) = false) := by show _ = _; rw [Bool.eq_false_iff]; simpa using k5
        clear k1 k2 k5 
        go_enter Tryz.func16, Tryz.ntmps16
        go_wp2_with fail
        generalize w.alloc (.cells #[Value.bool s, Value.slice A n c, Value.slice B m d] 27) = w1 at *
        refine (rTrimmed_c HX.out (by omega) true K1.out).mono ?_
        rintro e w2 ⟨rfl, rfl⟩
        have c00 := HR0.out.c0
        have c01 := HR0.out.c1
        have c02 := HR0.out.c2
        go_wp2_with fail
        clear c00 c01 c02
        refine (rTrimmed_c HY.out (by omega) true K2.out).mono ?_
        rintro e w2 ⟨rfl, rfl⟩
        have c00 := HR0.out.c0
        have c01 := HR0.out.c1
        have c02 := HR0.out.c2
        go_wp2_with fail
        clear c00 c01 c02
        refine (rFits_c s A B n c m d _ false K5.out).mono ?_
        rintro e w3 ⟨rfl, bn⟩
        replace HX := Lib.hid (HX.out.below bn)
        replace HY := Lib.hid (HY.out.below bn)
        replace HR0 := Lib.hid (HR0.out.below bn)
        replace HW := Lib.hid (below_two HW.out bn)
        clear bn
        go_wp2
        go_ret
        exact ⟨rfl, HW.out⟩
    · have hgf : goodV s xs ys = false := by
        rw [Bool.eq_false_iff]
        intro h
        obtain ⟨g1, g2, g3, g4, g5, g6, g7⟩ := goodV_iff.1 h
        exact k2 g2
      obtain rfl : v = false := hg.symm.trans hgf
      clear hg hgf hlx hlt hsx hsy
      have K1 : RowKit.Hid (decide (xs = limbs (Limb.val xs)) = true) := by show _ = _; simpa using k1
      have K2 : RowKit.Hid (decide (ys = limbs (Limb.val ys)) = false) := by show _ = _; simpa using k2
      clear k1 k2
      go_enter Tryz.func16, Tryz.ntmps16
      go_wp2_with fail
      generalize w.alloc (.cells #[Value.bool s, Value.slice A n c, Value.slice B m d] 27) = w1 at *
      refine (rTrimmed_c HX.out (by omega) true K1.out).mono ?_
      rintro e w2 ⟨rfl, rfl⟩
      have c00 := HR0.out.c0
      have c01 := HR0.out.c1
      have c02 := HR0.out.c2
      go_wp2_with fail
      clear c00 c01 c02
      refine (rTrimmed_c HY.out (by omega) false K2.out).mono ?_
      rintro e w2 ⟨rfl, rfl⟩
      go_wp2
      go_ret
      exact ⟨rfl, HW.out⟩
  · have hgf : goodV s xs ys = false := by
      rw [Bool.eq_false_iff]
      intro h
      obtain ⟨g1, g2, g3, g4, g5, g6, g7⟩ := goodV_iff.1 h
      exact k1 g1
    obtain rfl : v = false := hg.symm.trans hgf
    clear hg hgf hlx hlt hsx hsy
    have K1 : RowKit.Hid (decide (xs = limbs (Limb.val xs)) = false) := by show _ = _; simpa using k1
    clear k1
    go_enter Tryz.func16, Tryz.ntmps16
    go_wp2_with fail
    generalize w.alloc (.cells #[Value.bool s, Value.slice A n c, Value.slice B m d] 27) = w1 at *
    refine (rTrimmed_c HX.out (by omega) false K1.out).mono ?_
    rintro e w2 ⟨rfl, rfl⟩
    go_wp2
    go_ret
    exact ⟨rfl, HW.out⟩

end
end Go.Proofs.YtohciicocaoagaaGreat

/- What package whole's Cmp answers, as a contract over memory: whole numbers in the shortest limbs, 0 not below 0. Conditions: sizes of at most so many limbs; the table of powers of ten where texts are made or read. -/
namespace Go.Proofs.YtohciicocaoagaaGreat
open Go.RowKit Limb
set_option linter.unusedVariables false
section
variable {w : World} {s s' : Bool} {A A' : Option Addr} {n c n' c' : Nat} {xs ys : List Nat} {x y : Int} {L L' : Nat}
set_option maxHeartbeats 4000000 in
set_option maxRecDepth 100000 in
theorem wCmp_c (hx : ZZ w s A n c xs x L) (hy : ZZ w s' A' n' c' ys y L') (h1 : L ≤ 100000) (h2 : L' ≤ 100000) (v : Int) (hv : cmpZ x y = v) :
    Calls Tryz.prog 50 #[.agg #[.bool s, .slice A n c], .agg #[.bool s', .slice A' n' c']] w fun e w' => e = .returned (.int .i64 v) ∧ Below w.heap.size w w' := by
  have b0 := below_new w (.cells #[Value.bool s, Value.slice A n c] 25)
  have b1 := below_new (w.alloc (.cells #[Value.bool s, Value.slice A n c] 25)) (.cells #[Value.bool s', Value.slice A' n' c'] 25)
  have HW := Lib.hid (below_two b0 b1)
  have HN := Lib.hid (hx.below HW.out)
  have HM := Lib.hid (hy.below HW.out)
  have r0 := (row2_new w 25 (.bool s) (.slice A n c)).below b1
  have r1 := row2_new (w.alloc (.cells #[Value.bool s, Value.slice A n c] 25)) 25 (.bool s') (.slice A' n' c')
  simp only [World.size_alloc] at r1
  clear b0 b1 hx hy
  by_cases hx0 : x < 0
  · by_cases hy0 : y < 0
    · have hx2 : sg x = true := sg_neg hx0
      have hy2 : sg y = true := sg_neg hy0
      have HX2 := Lib.hid hx2
      have HY2 := Lib.hid hy2
      clear hx2 hy2
      have HV : RowKit.Hid (cmpI y.natAbs x.natAbs = v) := by
        show _ = _
        rw [← hv]; exact cmp_abs_neg hx0 hy0
      clear hv hx0 hy0
      go_enter Tryz.func50, Tryz.ntmps50
      go_wp2_with fail
      generalize (w.alloc (.cells #[Value.bool s, Value.slice A n c] 25)).alloc (.cells #[Value.bool s', Value.slice A' n' c'] 25) = w1 at *
      have HR0 := Lib.hid r0
      have HR1 := Lib.hid r1
      have c00 := r0.c0
      have c01 := r0.c1
      have c10 := r1.c0
      have c11 := r1.c1
      clear r0 r1
      refine (isBelow_c HN.out (by omega) true HX2.out).mono ?_
      rintro e w2 ⟨rfl, bn⟩
      replace HN := Lib.hid (HN.out.below bn)
      replace HM := Lib.hid (HM.out.below bn)
      replace HW := Lib.hid (below_two HW.out bn)
      replace HR0 := Lib.hid (HR0.out.below bn)
      replace HR1 := Lib.hid (HR1.out.below bn)
      clear bn c00 c01 c10 c11
      have c00 := HR0.out.c0
      have c01 := HR0.out.c1
      have c10 := HR1.out.c0
      have c11 := HR1.out.c1
      go_wp2_with fail
      refine (isBelow_c HM.out (by omega) true HY2.out).mono ?_
      rintro e w3 ⟨rfl, bn⟩
      replace HN := Lib.hid (HN.out.below bn)
      replace HM := Lib.hid (HM.out.below bn)
      replace HW := Lib.hid (below_two HW.out bn)
      replace HR0 := Lib.hid (HR0.out.below bn)
      replace HR1 := Lib.hid (HR1.out.below bn)
      clear bn c00 c01 c10 c11
      have c00 := HR0.out.c0
      have c01 := HR0.out.c1
      have c10 := HR1.out.c0
      have c11 := HR1.out.c1
      go_wp2_with fail
      refine (cmp_c HM.out.nn HN.out.nn (by omega) (by omega) v HV.out).mono ?_
      rintro e w9 ⟨rfl, bn⟩
      replace HW := Lib.hid (below_two HW.out bn)
      clear bn c00 c01 c10 c11
      go_wp2
      go_ret
      exact ⟨rfl, HW.out⟩
    · have hx2 : sg x = true := sg_neg hx0
      have hy2 : sg y = false := sg_pos (by omega)
      have HX2 := Lib.hid hx2
      have HY2 := Lib.hid hy2
      clear hx2 hy2
      obtain rfl : v = -1 := by rw [← hv]; exact cmpZ_lt (by omega)
      clear hv hx0 hy0
      go_enter Tryz.func50, Tryz.ntmps50
      go_wp2_with fail
      generalize (w.alloc (.cells #[Value.bool s, Value.slice A n c] 25)).alloc (.cells #[Value.bool s', Value.slice A' n' c'] 25) = w1 at *
      have HR0 := Lib.hid r0
      have HR1 := Lib.hid r1
      have c00 := r0.c0
      have c01 := r0.c1
      have c10 := r1.c0
      have c11 := r1.c1
      clear r0 r1
      refine (isBelow_c HN.out (by omega) true HX2.out).mono ?_
      rintro e w2 ⟨rfl, bn⟩
      replace HN := Lib.hid (HN.out.below bn)
      replace HM := Lib.hid (HM.out.below bn)
      replace HW := Lib.hid (below_two HW.out bn)
      replace HR0 := Lib.hid (HR0.out.below bn)
      replace HR1 := Lib.hid (HR1.out.below bn)
      clear bn c00 c01 c10 c11
      have c00 := HR0.out.c0
      have c01 := HR0.out.c1
      have c10 := HR1.out.c0
      have c11 := HR1.out.c1
      go_wp2_with fail
      refine (isBelow_c HM.out (by omega) false HY2.out).mono ?_
      rintro e w3 ⟨rfl, bn⟩
      replace HN := Lib.hid (HN.out.below bn)
      replace HM := Lib.hid (HM.out.below bn)
      replace HW := Lib.hid (below_two HW.out bn)
      replace HR0 := Lib.hid (HR0.out.below bn)
      replace HR1 := Lib.hid (HR1.out.below bn)
      clear bn c00 c01 c10 c11
      have c00 := HR0.out.c0
      have c01 := HR0.out.c1
      have c10 := HR1.out.c0
      have c11 := HR1.out.c1
      go_wp2_with fail
      refine (isBelow_c HN.out (by omega) true HX2.out).mono ?_
      rintro e w4 ⟨rfl, bn⟩
      replace HN := Lib.hid (HN.out.below bn)
      replace HM := Lib.hid (HM.out.below bn)
      replace HW := Lib.hid (below_two HW.out bn)
      replace HR0 := Lib.hid (HR0.out.below bn)
      replace HR1 := Lib.hid (HR1.out.below bn)
      clear bn c00 c01 c10 c11
      have c00 := HR0.out.c0
      have c01 := HR0.out.c1
      have c10 := HR1.out.c0
      have c11 := HR1.out.c1
      go_wp2
      go_ret
      exact ⟨rfl, HW.out⟩
  · by_cases hy0 : y < 0
    · have hx2 : sg x = false := sg_pos (by omega)
      have hy2 : sg y = true := sg_neg hy0
      have HX2 := Lib.hid hx2
      have HY2 := Lib.hid hy2
      clear hx2 hy2
      obtain rfl : v = 1 := by rw [← hv]; exact cmpZ_gt (by omega)
      clear hv hx0 hy0
      go_enter Tryz.func50, Tryz.ntmps50
      go_wp2_with fail
      generalize (w.alloc (.cells #[Value.bool s, Value.slice A n c] 25)).alloc (.cells #[Value.bool s', Value.slice A' n' c'] 25) = w1 at *
      have HR0 := Lib.hid r0
      have HR1 := Lib.hid r1
      have c00 := r0.c0
      have c01 := r0.c1
      have c10 := r1.c0
      have c11 := r1.c1
      clear r0 r1
      refine (isBelow_c HN.out (by omega) false HX2.out).mono ?_
      rintro e w2 ⟨rfl, bn⟩
      replace HN := Lib.hid (HN.out.below bn)
      replace HM := Lib.hid (HM.out.below bn)
      replace HW := Lib.hid (below_two HW.out bn)
      replace HR0 := Lib.hid (HR0.out.below bn)
      replace HR1 := Lib.hid (HR1.out.below bn)
      clear bn c00 c01 c10 c11
      have c00 := HR0.out.c0
      have c01 := HR0.out.c1
      have c10 := HR1.out.c0
      have c11 := HR1.out.c1
      go_wp2_with fail
      refine (isBelow_c HN.out (by omega) false HX2.out).mono ?_
      rintro e w3 ⟨rfl, bn⟩
      replace HN := Lib.hid (HN.out.below bn)
      replace HM := Lib.hid (HM.out.below bn)
      replace HW := Lib.hid (below_two HW.out bn)
      replace HR0 := Lib.hid (HR0.out.below bn)
      replace HR1 := Lib.hid (HR1.out.below bn)
      clear bn c00 c01 c10 c11
      have c00 := HR0.out.c0
      have c01 := HR0.out.c1
      have c10 := HR1.out.c0
      have c11 := HR1.out.c1
      go_wp2_with fail
      refine (isBelow_c HM.out (by omega) true HY2.out).mono ?_
      rintro e w4 ⟨rfl, bn⟩
      replace HN := Lib.hid (HN.out.below bn)
      replace HM := Lib.hid (HM.out.below bn)
      replace HW := Lib.hid (below_two HW.out bn)
      replace HR0 := Lib.hid (HR0.out.below bn)
      replace HR1 := Lib.hid (HR1.out.below bn)
      clear bn c00 c01 c10 c11
      have c00 := HR0.out.c0
      have c01 := HR0.out.c1
      have c10 := HR1.out.c0
      have c11 := HR1.out.c1
      go_wp2
      go_ret
      exact ⟨rfl, HW.out⟩
    · have hx2 : sg x = false := sg_pos (by omega)
      have hy2 : sg y = false := sg_pos (by omega)
      have HX2 := Lib.hid hx2
      have HY2 := Lib.hid hy2
      clear hx2 hy2
      have HV : RowKit.Hid (cmpI x.natAbs y.natAbs = v) := by
        show _ = _
        rw [← hv]; exact cmp_abs_pos (by omega) (by omega)
      clear hv hx0 hy0
      go_enter Tryz.func50, Tryz.ntmps50
      go_wp2_with fail
      generalize (w.alloc (.cells #[Value.bool s, Value.slice A n c] 25)).alloc (.cells #[Value.bool s', Value.slice A' n' c'] 25) = w1 at *
      have HR0 := Lib.hid r0
      have HR1 := Lib.hid r1
      have c00 := r0.c0
      have c01 := r0.c1
      have c10 := r1.c0
      have c11 := r1.c1
      clear r0 r1
      refine (isBelow_c HN.out (by omega) false HX2.out).mono ?_
      rintro e w2 ⟨rfl, bn⟩
      replace HN := Lib.hid (HN.out.below bn)
      replace HM := Lib.hid (HM.out.below bn)
      replace HW := Lib.hid (below_two HW.out bn)
      replace HR0 := Lib.hid (HR0.out.below bn)
      replace HR1 := Lib.hid (HR1.out.below bn)
      clear bn c00 c01 c10 c11
      have c00 := HR0.out.c0
      have c01 := HR0.out.c1
      have c10 := HR1.out.c0
      have c11 := HR1.out.c1
      go_wp2_with fail
      refine (isBelow_c HN.out (by omega) false HX2.out).mono ?_
      rintro e w3 ⟨rfl, bn⟩
      replace HN := Lib.hid (HN.out.below bn)
      replace HM := Lib.hid (HM.out.below bn)
      replace HW := Lib.hid (below_two HW.out bn)
      replace HR0 := Lib.hid (HR0.out.below bn)
      replace HR1 := Lib.hid (HR1.out.below bn)
      clear bn c00 c01 c10 c11
      have c00 := HR0.out.c0
      have c01 := HR0.out.c1
      have c10 := HR1.out.c0
      have c11 := HR1.out.c1
      go_wp2_with fail
      refine (isBelow_c HM.out (by omega) false HY2.out).mono ?_
      rintro e w4 ⟨rfl, bn⟩
      replace HN := Lib.hid (HN.out.below bn)
      replace HM := Lib.hid (HM.out.below bn)
      replace HW := Lib.hid (below_two HW.out bn)
      replace HR0 := Lib.hid (HR0.out.below bn)
      replace HR1 := Lib.hid (HR1.out.below bn)
      clear bn c00 c01 c10 c11
      have c00 := HR0.out.c0
      have c01 := HR0.out.c1
      have c10 := HR1.out.c0
      have c11 := HR1.out.c1
      go_wp2_with fail
      refine (cmp_c HN.out.nn HM.out.nn (by omega) (by omega) v HV.out).mono ?_
      rintro e w9 ⟨rfl, bn⟩
      replace HW := Lib.hid (below_two HW.out bn)
      clear bn c00 c01 c10 c11
      go_wp2
      go_ret
      exact ⟨rfl, HW.out⟩
end

end Go.Proofs.YtohciicocaoagaaGreat

/- What package whole's Neg answers, as a contract over memory: whole numbers in the shortest limbs, 0 not below 0. Conditions: sizes of at most so many limbs; the table of powers of ten where texts are made or read. -/
namespace Go.Proofs.YtohciicocaoagaaGreat
open Go.RowKit Limb
set_option linter.unusedVariables false
section
variable {w : World} {s s' : Bool} {A A' : Option Addr} {n c n' c' : Nat} {xs ys : List Nat} {x y : Int} {L L' : Nat}
set_option maxHeartbeats 4000000 in
set_option maxRecDepth 100000 in
theorem wNeg_c (hx : ZZ w s A n c xs x L) (h1 : L ≤ 100000) (z : Int) (hz : -x = z) :
    Calls Tryz.prog 35 #[.agg #[.bool s, .slice A n c]] w fun e w' => ∃ A2 n2 c2, e = .returned (.agg #[.bool (sg z), .slice A2 n2 c2]) ∧ ZZ w' (sg z) A2 n2 c2 (limbs z.natAbs) z L ∧ Below w.heap.size w w' := by
  have HS : RowKit.Hid (zOf (!s) x.natAbs = z) := (zOf_not hx.zof).trans hz
  clear hz
  have b0 := below_new w (.cells #[Value.bool s, Value.slice A n c] 25)
  have bz := below_new (w.alloc (.cells #[Value.bool s, Value.slice A n c] 25)) zbox
  have HW := Lib.hid (below_two b0 bz)
  have HN := Lib.hid (hx.nn.below HW.out)
  have r0 := (row2_new w 25 (.bool s) (.slice A n c)).below bz
  have rz : ZB ((w.alloc (.cells #[Value.bool s, Value.slice A n c] 25)).alloc zbox) (w.alloc (.cells #[Value.bool s, Value.slice A n c] 25)).heap.size := row2_new (w.alloc (.cells #[Value.bool s, Value.slice A n c] 25)) _ _ _
  simp only [World.size_alloc] at rz
  clear b0 bz hx
  go_enter Tryz.func35, Tryz.ntmps35
  go_wp2
  generalize (w.alloc (.cells #[Value.bool s, Value.slice A n c] 25)).alloc zbox = w1 at *
  have HR0 := Lib.hid r0
  have c00 := r0.c0
  have c01 := r0.c1
  have HZ := Lib.hid rz
  clear r0 rz
  clear c00 c01
  refine region_free 7 1 [3, 4, 5, 6, 7, 8, 9] ?aF (fun wx => Below w1.heap.size w1 wx) (fun k v wx => match k with
      | 0 => v = .pointer (some ⟨w.heap.size, 0, none⟩)
      | 1 => v = .bool s
      | 2 => v = .bool (!s)
      | 3 => v = .pointer (some ⟨w.heap.size, 1, none⟩)
      | 4 => v = .slice A n c
      | 5 => ∃ A2 n2 c2, v = .slice A2 n2 c2 ∧ NN wx A2 n2 c2 (limbs x.natAbs) x.natAbs L
      | _ => ∃ A2 n2 c2, v = .agg #[.bool (sg z), .slice A2 n2 c2] ∧ ZZ wx (sg z) A2 n2 c2 (limbs z.natAbs) z L)
    (fun _ => false) (by kernel_rfl) ?haF rfl (by kernel_rfl) (by kernel_rfl) (fun _ _ _ _ _ h => h) ?hSb ?hPb ?hS ?hop ?hfin
  case haF =>
    intro vals
    simp only [fillAll, List.getElem?_cons_zero, List.getElem?_cons_succ, Act.put, List.setIfInBounds_toArray, List.set_cons_zero, List.set_cons_succ]
    exact rfl
  case hSb => exact fun wx w2 hb hS => below_two hS hb
  case hPb =>
    intro k v wa wb hb h
    match k, h with
    | 0, h => exact h
    | 1, h => exact h
    | 2, h => exact h
    | 3, h => exact h
    | 4, h => exact h
    | 5, ⟨A2, n2, c2, h1, h2⟩ => exact ⟨A2, n2, c2, h1, h2.below hb⟩
    | _ + 6, ⟨A2, n2, c2, h1, h2⟩ => exact ⟨A2, n2, c2, h1, h2.below hb⟩
  case hS => exact (Below.refl _ _).drew
  case hop =>
    refine .cons (k := 0) ?_ (.cons (k := 1) ?_ (.cons (k := 2) ?_ (.cons (k := 3) ?_ (.cons (k := 4) ?_ (.cons (k := 5) ?_ (.cons (k := 6) ?_ (.nil)))))))
    all_goals intro vals wr hS hd KC hK
    all_goals (show Oper.wp _ _ _ _ _ _; dsimp only)
    · go_simp
      refine hK _ _ rfl (Below.refl _ _) rfl (fun h => by cases h)
    · have d0 : vals 0 = _ := hd 0 (by decide +kernel)
      rw [d0]
      have c0 := (HR0.out.below hS).c0
      go_simp
      refine hK _ _ rfl (Below.refl _ _) rfl (fun h => by cases h)
    · have d1 : vals 1 = _ := hd 1 (by decide +kernel)
      rw [d1]
      go_simp
      refine hK _ _ rfl (Below.refl _ _) (by first | rfl | (simp)) (fun h => by cases h)
    · go_simp
      refine hK _ _ rfl (Below.refl _ _) rfl (fun h => by cases h)
    · have d3 : vals 3 = _ := hd 3 (by decide +kernel)
      rw [d3]
      have c0 := (HR0.out.below hS).c1
      go_simp
      refine hK _ _ rfl (Below.refl _ _) rfl (fun h => by cases h)
    · have d4 : vals 4 = _ := hd 4 (by decide +kernel)
      rw [d4]
      go_simp
      go_at_call 66
      with_reducible refine (trim_c (HN.out.below hS) (by omega)).mono ?_
      rintro e w2 ⟨A_r, n_r, c_r, rfl, h_r, bn_r⟩
      refine hK _ _ rfl bn_r ⟨_, _, _, rfl, h_r⟩ (fun h => by cases h)
    · have d2 : vals 2 = _ := hd 2 (by decide +kernel)
      obtain ⟨A_m, n_m, c_m, d5, h_m⟩ := hd 5 (by decide +kernel)
      rw [d2, d5]
      go_simp
      go_at_call 61
      with_reducible refine (signed_c h_m _ z (by first | exact HS.out | simpa using HS.out)).mono ?_
      rintro e w2 ⟨rfl, h_r, bn_r⟩
      refine hK _ _ rfl bn_r ⟨_, _, _, rfl, h_r⟩ (fun h => by cases h)
  case hfin =>
    intro vals wr hS hP hne
    obtain ⟨A2, n2, c2, ez, h3⟩ := hP 6 (by decide)
    have hZ3 := HZ.out.below hS
    obtain ⟨e0, e1, f0, f1⟩ := hZ3.cells
    try dsimp only
    rw [ez]
    have HF := Lib.hid (hZ3.fill (.bool (sg z)) (.slice A2 n2 c2))
    have HP := Lib.hid (h3.put hZ3 (.bool (sg z)) (.slice A2 n2 c2))
    have HB := Lib.hid (below_fill (g := w.heap.size + 1) (below_two HW.out hS) (by omega) (.bool (sg z)) (.slice A2 n2 c2))
    refine wpAny_ready (rs := [7]) (by kernel_rfl) (by simp) (AllReady.cons rfl (fun KC hK => ?_) AllReady.nil)
    go_simp
    refine hK _ _ ?_
    clear hK KC
    refine wpAny_done (by kernel_rfl) ?_ _
    go_wp2
    refine bodyPost_ret (results_cell_row rfl _ _ (w.heap.size + 1) 25 #[.bool (sg z), .slice A2 n2 c2] (0, 0) _ rfl HF.out Tryz.underlying25 rfl int_size) rfl ?_
    exact ⟨A2, n2, c2, rfl, HP.out, HB.out⟩
end

end Go.Proofs.YtohciicocaoagaaGreat

/- What package whole's Of answers, as a contract over memory: whole numbers in the shortest limbs, 0 not below 0. Conditions: sizes of at most so many limbs; the table of powers of ten where texts are made or read. -/
namespace Go.Proofs.YtohciicocaoagaaGreat
open Go.RowKit Limb
set_option linter.unusedVariables false
set_option maxHeartbeats 4000000 in
set_option maxRecDepth 100000 in
theorem wOf_c (v : Int) (h0 : -9223372036854775808 ≤ v) (h1 : v ≤ 9223372036854775807) (w : World) :
    Calls Tryz.prog 56 #[.int .i64 v] w fun e w' => ∃ A2 n2 c2, e = .returned (.agg #[.bool (sg v), .slice A2 n2 c2]) ∧ ZZ w' (sg v) A2 n2 c2 (limbs v.natAbs) v 2 ∧ Below w.heap.size w w' := by
  have HW := Lib.hid (below_new w zbox)
  have HZ : RowKit.Hid (ZB (w.alloc zbox) w.heap.size) := row2_new w _ _ _
  by_cases hv0 : v < 0
  · obtain ⟨u, hu⟩ : ∃ u, u = v.natAbs := ⟨_, rfl⟩
    have hlt : u < 18446744073709551616 := by omega
    have ec : IntKind.u64.wrap v = v + 18446744073709551616 := by rw [conv_u64 h0 h1, if_pos hv0]
    have en : IntKind.u64.wrap (-(v + 18446744073709551616)) = (u : Int) := by rw [IntKind.wrap_u64]; omega
    have HS : RowKit.Hid (zOf true u = v) := by
      show _ = _
      rw [hu]; unfold zOf; simp; omega
    have HSd : RowKit.Hid (zOf (decide (v < 0)) u = v) := by
      show _ = _
      rw [hu]; exact zz_zof
    have HC := Lib.hid (of_c u _ rfl hlt (w.alloc zbox))
    clear hu h0 h1
    go_enter Tryz.func56, Tryz.ntmps56
    go_wp2_with fail
    refine HC.out.mono ?_
    rintro e w2 ⟨A2, n2, c2, rfl, h2, bn⟩
    have BN2 := Lib.hid bn
    clear bn
    go_wp2_with fail
    refine (signed_c h2 _ v (by first | exact HS.out | simpa using HS.out | exact HSd.out)).mono ?_
    rintro e w4 ⟨rfl, h4, bm⟩
    have BN4 := Lib.hid (below_two BN2.out bm)
    obtain ⟨e0, e1, f0, f1⟩ := (HZ.out.below BN4.out).cells
    have HF := Lib.hid ((HZ.out.below BN4.out).fill (.bool (sg v)) (.slice A2 n2 c2))
    have HP := Lib.hid (h4.put (HZ.out.below BN4.out) (.bool (sg v)) (.slice A2 n2 c2))
    have HB := Lib.hid (below_fill (g := w.heap.size) (below_two HW.out BN4.out) (by omega) (.bool (sg v)) (.slice A2 n2 c2))
    clear bm
    go_wp2
    refine bodyPost_ret (results_cell_row rfl _ _ (w.heap.size) 25 #[.bool (sg v), .slice A2 n2 c2] (0, 0) _ rfl HF.out Tryz.underlying25 rfl int_size) rfl ?_
    exact ⟨A2, n2, c2, rfl, HP.out, HB.out⟩
  · obtain ⟨u, hu⟩ : ∃ u, u = v.natAbs := ⟨_, rfl⟩
    have hlt : u < 18446744073709551616 := by omega
    have ec : IntKind.u64.wrap v = (u : Int) := by rw [conv_u64 h0 h1, if_neg hv0]; omega
    have hv1 : 0 ≤ v := by omega
    have HS : RowKit.Hid (zOf false u = v) := by
      show _ = _
      rw [hu]; unfold zOf; simp; omega
    have HSd : RowKit.Hid (zOf (decide (v < 0)) u = v) := by
      show _ = _
      rw [hu]; exact zz_zof
    have HC := Lib.hid (of_c u _ rfl hlt (w.alloc zbox))
    clear hu h0 h1 hv0
    go_enter Tryz.func56, Tryz.ntmps56
    go_wp2_with fail
    refine HC.out.mono ?_
    rintro e w2 ⟨A2, n2, c2, rfl, h2, bn⟩
    have BN2 := Lib.hid bn
    clear bn
    go_wp2_with fail
    refine (signed_c h2 _ v (by first | exact HS.out | simpa using HS.out | exact HSd.out)).mono ?_
    rintro e w4 ⟨rfl, h4, bm⟩
    have BN4 := Lib.hid (below_two BN2.out bm)
    obtain ⟨e0, e1, f0, f1⟩ := (HZ.out.below BN4.out).cells
    have HF := Lib.hid ((HZ.out.below BN4.out).fill (.bool (sg v)) (.slice A2 n2 c2))
    have HP := Lib.hid (h4.put (HZ.out.below BN4.out) (.bool (sg v)) (.slice A2 n2 c2))
    have HB := Lib.hid (below_fill (g := w.heap.size) (below_two HW.out BN4.out) (by omega) (.bool (sg v)) (.slice A2 n2 c2))
    clear bm
    go_wp2
    refine bodyPost_ret (results_cell_row rfl _ _ (w.heap.size) 25 #[.bool (sg v), .slice A2 n2 c2] (0, 0) _ rfl HF.out Tryz.underlying25 rfl int_size) rfl ?_
    exact ⟨A2, n2, c2, rfl, HP.out, HB.out⟩

end Go.Proofs.YtohciicocaoagaaGreat

/- What package rat's Cmp, Sign, Neg, Same and Whole answer, as contracts over memory. Conditions: sizes of at most so many limbs. -/
namespace Go.Proofs.YtohciicocaoagaaGreat
open Go.RowKit Limb
set_option linter.unusedVariables false
section
variable {w : World} {s s' : Bool} {A B A' B' : Option Addr} {n c m d n' c' m' d' : Nat} {xs ys xs' ys' : List Nat} {x y : Int} {o o' : Option Rat} {a b L L' : Nat}
set_option maxHeartbeats 4000000 in
set_option maxRecDepth 100000 in
theorem rCmp_c (hx : QQ w s A n c xs B m d ys o L) (hx' : QQ w s' A' n' c' xs' B' m' d' ys' o' L') (h1 : L ≤ 1000) (h2 : L' ≤ 1000) (v : Int) (hv : cmpR o o' = v) :
    Calls Tryz.prog 18 #[.agg #[.bool s, .slice A n c, .slice B m d], .agg #[.bool s', .slice A' n' c', .slice B' m' d']] w fun e w' => e = .returned (.int .i64 v) ∧ Below w.heap.size w w' := by
  cases o with
  | none =>
    obtain rfl : v = 0 := hv.symm
    clear hv
    have b0 := below_new w (.cells #[Value.bool s, Value.slice A n c, Value.slice B m d] 27)
    have b1 := below_new (w.alloc (.cells #[Value.bool s, Value.slice A n c, Value.slice B m d] 27)) (.cells #[Value.bool s', Value.slice A' n' c', Value.slice B' m' d'] 27)
    have HW := Lib.hid (below_two b0 b1)
    have HQ0 := Lib.hid (hx.below HW.out)
    have HQ1 := Lib.hid (hx'.below HW.out)
    have r0 := ((row3_new w 27 (.bool s) (.slice A n c) (.slice B m d)).below b1)
    have r1 := (row3_new (w.alloc (.cells #[Value.bool s, Value.slice A n c, Value.slice B m d] 27)) 27 (.bool s') (.slice A' n' c') (.slice B' m' d'))
    simp only [World.size_alloc] at r1
    clear b0 b1 hx hx'
    go_enter Tryz.func18, Tryz.ntmps18
    go_wp2_with fail
    generalize (w.alloc (.cells #[Value.bool s, Value.slice A n c, Value.slice B m d] 27)).alloc (.cells #[Value.bool s', Value.slice A' n' c', Value.slice B' m' d'] 27) = w1 at *
    have HR0 := Lib.hid r0
    have HR1 := Lib.hid r1
    clear r0 r1
    refine (rGood_c HQ0.out (by omega) false rfl).mono ?_
    rintro e w2 ⟨rfl, bn⟩
    replace HQ0 := Lib.hid (HQ0.out.below bn)
    replace HR0 := Lib.hid (HR0.out.below bn)
    replace HQ1 := Lib.hid (HQ1.out.below bn)
    replace HR1 := Lib.hid (HR1.out.below bn)
    replace HW := Lib.hid (below_two HW.out bn)
    clear bn
    go_wp2
    go_ret
    exact ⟨rfl, HW.out⟩
  | some p =>
    cases o' with
    | none =>
      obtain rfl : v = 0 := hv.symm
      clear hv
      have b0 := below_new w (.cells #[Value.bool s, Value.slice A n c, Value.slice B m d] 27)
      have b1 := below_new (w.alloc (.cells #[Value.bool s, Value.slice A n c, Value.slice B m d] 27)) (.cells #[Value.bool s', Value.slice A' n' c', Value.slice B' m' d'] 27)
      have HW := Lib.hid (below_two b0 b1)
      have HQ0 := Lib.hid (hx.below HW.out)
      have HQ1 := Lib.hid (hx'.below HW.out)
      have r0 := ((row3_new w 27 (.bool s) (.slice A n c) (.slice B m d)).below b1)
      have r1 := (row3_new (w.alloc (.cells #[Value.bool s, Value.slice A n c, Value.slice B m d] 27)) 27 (.bool s') (.slice A' n' c') (.slice B' m' d'))
      simp only [World.size_alloc] at r1
      clear b0 b1 hx hx'
      go_enter Tryz.func18, Tryz.ntmps18
      go_wp2_with fail
      generalize (w.alloc (.cells #[Value.bool s, Value.slice A n c, Value.slice B m d] 27)).alloc (.cells #[Value.bool s', Value.slice A' n' c', Value.slice B' m' d'] 27) = w1 at *
      have HR0 := Lib.hid r0
      have HR1 := Lib.hid r1
      clear r0 r1
      refine (rGood_c HQ0.out (by omega) true rfl).mono ?_
      rintro e w2 ⟨rfl, bn⟩
      replace HQ0 := Lib.hid (HQ0.out.below bn)
      replace HR0 := Lib.hid (HR0.out.below bn)
      replace HQ1 := Lib.hid (HQ1.out.below bn)
      replace HR1 := Lib.hid (HR1.out.below bn)
      replace HW := Lib.hid (below_two HW.out bn)
      clear bn
      have c10 := HR1.out.c0
      have c11 := HR1.out.c1
      have c12 := HR1.out.c2
      go_wp2_with fail
      clear c10 c11 c12
      refine (rGood_c HQ1.out (by omega) false rfl).mono ?_
      rintro e w2 ⟨rfl, bn⟩
      replace HQ0 := Lib.hid (HQ0.out.below bn)
      replace HR0 := Lib.hid (HR0.out.below bn)
      replace HQ1 := Lib.hid (HQ1.out.below bn)
      replace HR1 := Lib.hid (HR1.out.below bn)
      replace HW := Lib.hid (below_two HW.out bn)
      clear bn
      go_wp2
      go_ret
      exact ⟨rfl, HW.out⟩
    | some q =>
      have HV : RowKit.Hid (cmpZ (p.num * (q.den : Int)) (q.num * (p.den : Int)) = v) := hv
      clear hv
      have b0 := below_new w (.cells #[Value.bool s, Value.slice A n c, Value.slice B m d] 27)
      have b1 := below_new (w.alloc (.cells #[Value.bool s, Value.slice A n c, Value.slice B m d] 27)) (.cells #[Value.bool s', Value.slice A' n' c', Value.slice B' m' d'] 27)
      have HW := Lib.hid (below_two b0 b1)
      have HQ0 := Lib.hid (hx.below HW.out)
      have HQ1 := Lib.hid (hx'.below HW.out)
      have r0 := ((row3_new w 27 (.bool s) (.slice A n c) (.slice B m d)).below b1)
      have r1 := (row3_new (w.alloc (.cells #[Value.bool s, Value.slice A n c, Value.slice B m d] 27)) 27 (.bool s') (.slice A' n' c') (.slice B' m' d'))
      simp only [World.size_alloc] at r1
      clear b0 b1 hx hx'
      go_enter Tryz.func18, Tryz.ntmps18
      go_wp2_with fail
      generalize (w.alloc (.cells #[Value.bool s, Value.slice A n c, Value.slice B m d] 27)).alloc (.cells #[Value.bool s', Value.slice A' n' c', Value.slice B' m' d'] 27) = w1 at *
      have HR0 := Lib.hid r0
      have HR1 := Lib.hid r1
      clear r0 r1
      refine (rGood_c HQ0.out (by omega) true rfl).mono ?_
      rintro e w2 ⟨rfl, bn⟩
      replace HQ0 := Lib.hid (HQ0.out.below bn)
      replace HR0 := Lib.hid (HR0.out.below bn)
      replace HQ1 := Lib.hid (HQ1.out.below bn)
      replace HR1 := Lib.hid (HR1.out.below bn)
      replace HW := Lib.hid (below_two HW.out bn)
      clear bn
      have c10 := HR1.out.c0
      have c11 := HR1.out.c1
      have c12 := HR1.out.c2
      go_wp2_with fail
      clear c10 c11 c12
      refine (rGood_c HQ1.out (by omega) true rfl).mono ?_
      rintro e wS ⟨rfl, bn⟩
      replace HQ0 := Lib.hid (HQ0.out.below bn)
      replace HR0 := Lib.hid (HR0.out.below bn)
      replace HQ1 := Lib.hid (HQ1.out.below bn)
      replace HR1 := Lib.hid (HR1.out.below bn)
      replace HW := Lib.hid (below_two HW.out bn)
      clear bn
      have HX := Lib.hid HQ0.out.some.2.2.2.2.1
      have HY := Lib.hid HQ0.out.some.2.2.2.2.2.1
      have HX1 := Lib.hid HQ1.out.some.2.2.2.2.1
      have HY1 := Lib.hid HQ1.out.some.2.2.2.2.2.1
      go_wp2_with fail
      refine region_free 7 1 [13, 14, 15, 16, 17, 18, 19] ?aF10 (fun wx => Below wS.heap.size wS wx) (fun k vv wx => match k with
          | 0 => vv = .agg #[.bool s, .slice A n c, .slice B m d]
          | 1 => vv = .agg #[.bool s', .slice A' n' c', .slice B' m' d']
          | 2 => ∃ (e0 : Option Addr) (e1 : Nat) (e2 : Nat), vv = .agg #[.bool (sg (p.num * (q.den : Int))), .slice e0 e1 e2] ∧ ZZ wx (sg (p.num * (q.den : Int))) e0 e1 e2 (limbs (p.num * (q.den : Int)).natAbs) (p.num * (q.den : Int)) 128
          | 3 => vv = .agg #[.bool s', .slice A' n' c', .slice B' m' d']
          | 4 => vv = .agg #[.bool s, .slice A n c, .slice B m d]
          | 5 => ∃ (e0 : Option Addr) (e1 : Nat) (e2 : Nat), vv = .agg #[.bool (sg (q.num * (p.den : Int))), .slice e0 e1 e2] ∧ ZZ wx (sg (q.num * (p.den : Int))) e0 e1 e2 (limbs (q.num * (p.den : Int)).natAbs) (q.num * (p.den : Int)) 128
          | _ => vv = .int .i64 v)
        (fun k => false) (by kernel_rfl) ?haF10 rfl (by kernel_rfl) (by kernel_rfl) (fun _ _ _ _ _ h => h) ?hSb10 ?hPb10 ?hS10 ?hop10 ?hfin10
      case haF10 =>
        intro vals
        simp only [fillAll, List.getElem?_cons_zero, List.getElem?_cons_succ, Act.put, List.setIfInBounds_toArray, List.set_cons_zero, List.set_cons_succ]
        exact rfl
      case hSb10 => exact fun wx w2 hb hS => below_two hS hb
      case hPb10 =>
        intro k v wa wb hb h
        match k, h with
        | 0, h => exact h
        | 1, h => exact h
        | 2, ⟨e0, e1, e2, h1, g0⟩ => exact ⟨e0, e1, e2, h1, g0.below hb⟩
        | 3, h => exact h
        | 4, h => exact h
        | 5, ⟨e0, e1, e2, h1, g0⟩ => exact ⟨e0, e1, e2, h1, g0.below hb⟩
        | _ + 6, h => exact h
      case hS10 => exact (Below.refl _ _).drew
      case hop10 =>
        refine .cons (k := 0) ?_ (.cons (k := 1) ?_ (.cons (k := 2) ?_ (.cons (k := 3) ?_ (.cons (k := 4) ?_ (.cons (k := 5) ?_ (.cons (k := 6) ?_ (.nil)))))))
        all_goals intro vals wr hS hd KC hK
        all_goals (show Oper.wp _ _ _ _ _ _; dsimp only)
        · have z0 := (HR0.out.below hS).c0
          have z1 := (HR0.out.below hS).c1
          have z2 := (HR0.out.below hS).c2
          go_simp
          refine hK _ _ rfl (Below.refl _ _) (by first | rfl | simp) (fun h => by cases h)
        · have z0 := (HR1.out.below hS).c0
          have z1 := (HR1.out.below hS).c1
          have z2 := (HR1.out.below hS).c2
          go_simp
          refine hK _ _ rfl (Below.refl _ _) (by first | rfl | simp) (fun h => by cases h)
        · have d0 : vals 0 = _ := hd 0 (by decide +kernel)
          have d1 : vals 1 = _ := hd 1 (by decide +kernel)
          rw [d0, d1]
          go_simp
          go_at_call 33
          with_reducible refine (rCross_c (HX.out.below hS) (HY1.out.below hS) (by decide) (by decide) (p.num * (q.den : Int)) rfl).mono ?_
          rintro e w2 ⟨r0, r1, r2, rfl, f0, bn_r⟩
          refine hK _ _ rfl bn_r ⟨_, _, _, rfl, f0⟩ (fun h => by cases h)
        · have z0 := (HR1.out.below hS).c0
          have z1 := (HR1.out.below hS).c1
          have z2 := (HR1.out.below hS).c2
          go_simp
          refine hK _ _ rfl (Below.refl _ _) (by first | rfl | simp) (fun h => by cases h)
        · have z0 := (HR0.out.below hS).c0
          have z1 := (HR0.out.below hS).c1
          have z2 := (HR0.out.below hS).c2
          go_simp
          refine hK _ _ rfl (Below.refl _ _) (by first | rfl | simp) (fun h => by cases h)
        · have d3 : vals 3 = _ := hd 3 (by decide +kernel)
          have d4 : vals 4 = _ := hd 4 (by decide +kernel)
          rw [d3, d4]
          go_simp
          go_at_call 33
          with_reducible refine (rCross_c (HX1.out.below hS) (HY.out.below hS) (by decide) (by decide) (q.num * (p.den : Int)) rfl).mono ?_
          rintro e w2 ⟨r0, r1, r2, rfl, f0, bn_r⟩
          refine hK _ _ rfl bn_r ⟨_, _, _, rfl, f0⟩ (fun h => by cases h)
        · obtain ⟨A_2_0, n_2_1, n_2_2, d2, h_2_0⟩ := hd 2 (by decide +kernel)
          obtain ⟨A_5_0, n_5_1, n_5_2, d5, h_5_0⟩ := hd 5 (by decide +kernel)
          rw [d2, d5]
          go_simp
          go_at_call 50
          with_reducible refine (wCmp_c h_2_0 h_5_0 (by decide) (by decide) v HV.out).mono ?_
          rintro e w2 ⟨rfl, bn_r⟩
          refine hK _ _ rfl bn_r rfl (fun h => by cases h)
      case hfin10 =>
        intro vals wr hS hP hne
        have ez_6 : vals 6 = _ := hP 6 (by decide)
        have HB := Lib.hid (below_two HW.out hS)
        try dsimp only
        rw [ez_6]
        refine wpAny_ready (rs := [7]) (by kernel_rfl) (by simp) (AllReady.cons rfl (fun KC hK => ?_) AllReady.nil)
        go_simp
        refine hK _ _ ?_
        clear hK KC
        refine wpAny_done (by kernel_rfl) ?_ _
        go_wp2
        go_ret
        exact ⟨rfl, HB.out⟩

set_option maxHeartbeats 4000000 in
set_option maxRecDepth 100000 in
theorem rSign_c (hx : QQ w s A n c xs B m d ys o L) (h1 : L ≤ 1000) (v : Int) (hv : cmpR o (some 0) = v) :
    Calls Tryz.prog 20 #[.agg #[.bool s, .slice A n c, .slice B m d]] w fun e w' => e = .returned (.int .i64 v) ∧ Below w.heap.size w w' := by
  cases o with
  | none =>
    obtain rfl : v = 0 := hv.symm
    clear hv
    have b0 := below_new w (.cells #[Value.bool s, Value.slice A n c, Value.slice B m d] 27)
    have HW := Lib.hid b0
    have HQ0 := Lib.hid (hx.below HW.out)
    have r0 := ((row3_new w 27 (.bool s) (.slice A n c) (.slice B m d)))
    clear b0 hx
    go_enter Tryz.func20, Tryz.ntmps20
    go_wp2_with fail
    generalize w.alloc (.cells #[Value.bool s, Value.slice A n c, Value.slice B m d] 27) = w1 at *
    have HR0 := Lib.hid r0
    clear r0
    refine (rGood_c HQ0.out (by omega) false rfl).mono ?_
    rintro e w2 ⟨rfl, bn⟩
    replace HQ0 := Lib.hid (HQ0.out.below bn)
    replace HR0 := Lib.hid (HR0.out.below bn)
    replace HW := Lib.hid (below_two HW.out bn)
    clear bn
    go_wp2
    go_ret
    exact ⟨rfl, HW.out⟩
  | some p =>
    have HV : RowKit.Hid (cmpZ p.num 0 = v) := by
      show _ = _
      rw [← cmpQ_top]; exact hv
    clear hv
    have b0 := below_new w (.cells #[Value.bool s, Value.slice A n c, Value.slice B m d] 27)
    have HW := Lib.hid b0
    have HQ0 := Lib.hid (hx.below HW.out)
    have r0 := ((row3_new w 27 (.bool s) (.slice A n c) (.slice B m d)))
    clear b0 hx
    go_enter Tryz.func20, Tryz.ntmps20
    go_wp2_with fail
    generalize w.alloc (.cells #[Value.bool s, Value.slice A n c, Value.slice B m d] 27) = w1 at *
    have HR0 := Lib.hid r0
    clear r0
    refine (rGood_c HQ0.out (by omega) true rfl).mono ?_
    rintro e wS ⟨rfl, bn⟩
    replace HQ0 := Lib.hid (HQ0.out.below bn)
    replace HR0 := Lib.hid (HR0.out.below bn)
    replace HW := Lib.hid (below_two HW.out bn)
    clear bn
    have HX := Lib.hid HQ0.out.some.2.2.2.2.1
    have HY := Lib.hid HQ0.out.some.2.2.2.2.2.1
    have Hf := Lib.hid HQ0.out.some.2.2.2.1
    have c00 := HR0.out.c0
    have c01 := HR0.out.c1
    have c02 := HR0.out.c2
    go_wp2_with fail
    clear c00 c01 c02
    refine (wCmp_c HX.out (zz_none _) (by decide) (by decide) v HV.out).mono ?_
    rintro e w3 ⟨rfl, bn⟩
    replace HW := Lib.hid (below_two HW.out bn)
    clear bn
    go_wp2
    go_ret
    exact ⟨rfl, HW.out⟩

set_option maxHeartbeats 4000000 in
set_option maxRecDepth 100000 in
theorem rNeg_c (hx : QQ w s A n c xs B m d ys o L) (h1 : L ≤ 1000) :
    Calls Tryz.prog 22 #[.agg #[.bool s, .slice A n c, .slice B m d]] w fun e w' => ∃ A2 n2 c2 B2 m2 d2, e = .returned (.agg #[.bool (sg (oTop (o.map fun q => -q))), .slice A2 n2 c2, .slice B2 m2 d2]) ∧ QT w' A2 n2 c2 B2 m2 d2 (o.map fun q => -q) ∧ Below w.heap.size w w' := by
  cases o with
  | none =>
    have b0 := below_new w (.cells #[Value.bool s, Value.slice A n c, Value.slice B m d] 27)
    have b2 := below_new (w.alloc (.cells #[Value.bool s, Value.slice A n c, Value.slice B m d] 27)) (.cells #[Value.bool false, Value.slice none 0 0, Value.slice none 0 0] 27)
    have HW := Lib.hid (below_two b0 b2)
    have HQ0 := Lib.hid (hx.below HW.out)
    have r0 := ((row3_new w 27 (.bool s) (.slice A n c) (.slice B m d))).below b2
    have rz := row3_new (w.alloc (.cells #[Value.bool s, Value.slice A n c, Value.slice B m d] 27)) 27 (.bool false) (.slice none 0 0) (.slice none 0 0)
    simp only [World.size_alloc] at rz
    clear b0 b2 hx
    go_enter Tryz.func22, Tryz.ntmps22
    go_wp2_with fail
    generalize (w.alloc (.cells #[Value.bool s, Value.slice A n c, Value.slice B m d] 27)).alloc (.cells #[Value.bool false, Value.slice none 0 0, Value.slice none 0 0] 27) = w1 at *
    have HR0 := Lib.hid r0
    have HZ := Lib.hid rz
    have Hq : RowKit.Hid (w.heap.size ≤ w.heap.size + 1) := by show _ ≤ _; omega
    clear r0 rz
    refine (rGood_c HQ0.out (by omega) false rfl).mono ?_
    rintro e w2 ⟨rfl, bn⟩
    replace HQ0 := Lib.hid (HQ0.out.below bn)
    replace HR0 := Lib.hid (HR0.out.below bn)
    replace HZ := Lib.hid (HZ.out.below bn)
    replace HW := Lib.hid (below_two HW.out bn)
    clear bn
    have e0 := HZ.out.c0
    have e1 := HZ.out.c1
    have e2 := HZ.out.c2
    have f0 := HZ.out.free 0
    have f1 := HZ.out.free 1
    have f2 := HZ.out.free 2
    have HF := Lib.hid (HZ.out.fill (.bool false) (.slice none 0 0) (.slice none 0 0))
    have HB := Lib.hid (below_fill3' HW.out Hq.out (.bool false) (.slice none 0 0) (.slice none 0 0))
    go_wp2
    refine bodyPost_ret (results_cell_row rfl _ _ _ 27 #[.bool false, .slice none 0 0, .slice none 0 0] (0, 0) _ rfl HF.out Tryz.underlying27 rfl rat_size) rfl ?_
    exact ⟨none, 0, 0, none, 0, 0, rfl, qt_none _ 0 0, HB.out⟩
  | some p =>
    have b0 := below_new w (.cells #[Value.bool s, Value.slice A n c, Value.slice B m d] 27)
    have b2 := below_new (w.alloc (.cells #[Value.bool s, Value.slice A n c, Value.slice B m d] 27)) (.cells #[Value.bool false, Value.slice none 0 0, Value.slice none 0 0] 27)
    have HW := Lib.hid (below_two b0 b2)
    have HQ0 := Lib.hid (hx.below HW.out)
    have r0 := ((row3_new w 27 (.bool s) (.slice A n c) (.slice B m d))).below b2
    have rz := row3_new (w.alloc (.cells #[Value.bool s, Value.slice A n c, Value.slice B m d] 27)) 27 (.bool false) (.slice none 0 0) (.slice none 0 0)
    simp only [World.size_alloc] at rz
    clear b0 b2 hx
    go_enter Tryz.func22, Tryz.ntmps22
    go_wp2_with fail
    generalize (w.alloc (.cells #[Value.bool s, Value.slice A n c, Value.slice B m d] 27)).alloc (.cells #[Value.bool false, Value.slice none 0 0, Value.slice none 0 0] 27) = w1 at *
    have HR0 := Lib.hid r0
    have HZ := Lib.hid rz
    have Hq : RowKit.Hid (w.heap.size ≤ w.heap.size + 1) := by show _ ≤ _; omega
    clear r0 rz
    refine (rGood_c HQ0.out (by omega) true rfl).mono ?_
    rintro e wS ⟨rfl, bn⟩
    replace HQ0 := Lib.hid (HQ0.out.below bn)
    replace HR0 := Lib.hid (HR0.out.below bn)
    replace HZ := Lib.hid (HZ.out.below bn)
    replace HW := Lib.hid (below_two HW.out bn)
    clear bn
    have HX := Lib.hid HQ0.out.some.2.2.2.2.1
    have HY := Lib.hid HQ0.out.some.2.2.2.2.2.1
    have Hf := Lib.hid HQ0.out.some.2.2.2.1
    have HYL : RowKit.Hid (NN wS B m d (limbs (-p).den) (-p).den 64) := by
      show NN _ _ _ _ _ _ _
      have e1 := HQ0.out.some.2.2.1
      have e2 := HY.out
      rw [e1] at e2
      exact e2
    go_wp2_with fail
    refine region_free 7 1 [7, 8, 9, 10, 11, 12, 13] ?aF11 (fun wx => Below wS.heap.size wS wx) (fun k vv wx => match k with
        | 0 => vv = .pointer (some ⟨w.heap.size, 0, none⟩)
        | 1 => vv = .agg #[.bool s, .slice A n c]
        | 2 => ∃ (e0 : Option Addr) (e1 : Nat) (e2 : Nat), vv = .agg #[.bool (sg (-p).num), .slice e0 e1 e2] ∧ ZZ wx (sg (-p).num) e0 e1 e2 (limbs (-p).num.natAbs) (-p).num 64
        | 3 => vv = .pointer (some ⟨w.heap.size, 2, none⟩)
        | 4 => vv = .slice B m d
        | 5 => ∃ (e0 : Option Addr) (e1 : Nat) (e2 : Nat), vv = .slice e0 e1 e2 ∧ NN wx e0 e1 e2 (limbs (-p).den) (-p).den 64
        | _ => ∃ (e0 : Option Addr) (e1 : Nat) (e2 : Nat) (e3 : Option Addr) (e4 : Nat) (e5 : Nat), vv = .agg #[.bool (sg (-p).num), .slice e0 e1 e2, .slice e3 e4 e5] ∧ ZZ wx (sg (-p).num) e0 e1 e2 (limbs (-p).num.natAbs) (-p).num 64 ∧ NN wx e3 e4 e5 (limbs (-p).den) (-p).den 64)
      (fun k => false) (by kernel_rfl) ?haF11 rfl (by kernel_rfl) (by kernel_rfl) (fun _ _ _ _ _ h => h) ?hSb11 ?hPb11 ?hS11 ?hop11 ?hfin11
    case haF11 =>
      intro vals
      simp only [fillAll, List.getElem?_cons_zero, List.getElem?_cons_succ, Act.put, List.setIfInBounds_toArray, List.set_cons_zero, List.set_cons_succ]
      exact rfl
    case hSb11 => exact fun wx w2 hb hS => below_two hS hb
    case hPb11 =>
      intro k v wa wb hb h
      match k, h with
      | 0, h => exact h
      | 1, h => exact h
      | 2, ⟨e0, e1, e2, h1, g0⟩ => exact ⟨e0, e1, e2, h1, g0.below hb⟩
      | 3, h => exact h
      | 4, h => exact h
      | 5, ⟨e0, e1, e2, h1, g0⟩ => exact ⟨e0, e1, e2, h1, g0.below hb⟩
      | _ + 6, ⟨e0, e1, e2, e3, e4, e5, h1, g0, g1⟩ => exact ⟨e0, e1, e2, e3, e4, e5, h1, g0.below hb, g1.below hb⟩
    case hS11 => exact (Below.refl _ _).drew
    case hop11 =>
      refine .cons (k := 0) ?_ (.cons (k := 1) ?_ (.cons (k := 2) ?_ (.cons (k := 3) ?_ (.cons (k := 4) ?_ (.cons (k := 5) ?_ (.cons (k := 6) ?_ (.nil)))))))
      all_goals intro vals wr hS hd KC hK
      all_goals (show Oper.wp _ _ _ _ _ _; dsimp only)
      · go_simp
        refine hK _ _ rfl (Below.refl _ _) (by first | rfl | simp) (fun h => by cases h)
      · have d0 : vals 0 = _ := hd 0 (by decide +kernel)
        rw [d0]
        have z0 := (HR0.out.below hS).c0
        have z1 := (HR0.out.below hS).c1
        go_simp
        refine hK _ _ rfl (Below.refl _ _) (by first | rfl | simp) (fun h => by cases h)
      · have d1 : vals 1 = _ := hd 1 (by decide +kernel)
        rw [d1]
        go_simp
        go_at_call 35
        with_reducible refine (wNeg_c (HX.out.below hS) (by decide) (-p).num rfl).mono ?_
        rintro e w2 ⟨r0, r1, r2, rfl, f0, bn_r⟩
        refine hK _ _ rfl bn_r ⟨_, _, _, rfl, f0⟩ (fun h => by cases h)
      · go_simp
        refine hK _ _ rfl (Below.refl _ _) (by first | rfl | simp) (fun h => by cases h)
      · have d3 : vals 3 = _ := hd 3 (by decide +kernel)
        rw [d3]
        have z0 := (HR0.out.below hS).c2
        go_simp
        refine hK _ _ rfl (Below.refl _ _) (by first | rfl | simp) (fun h => by cases h)
      · have d4 : vals 4 = _ := hd 4 (by decide +kernel)
        rw [d4]
        go_simp
        go_at_call 52
        with_reducible refine (rClone_c (HYL.out.below hS) (by decide)).mono ?_
        rintro e w2 ⟨r0, r1, r2, rfl, f0, bn_r⟩
        refine hK _ _ rfl bn_r ⟨_, _, _, rfl, f0⟩ (fun h => by cases h)
      · obtain ⟨A_2_0, n_2_1, n_2_2, d2, h_2_0⟩ := hd 2 (by decide +kernel)
        obtain ⟨A_5_0, n_5_1, n_5_2, d5, h_5_0⟩ := hd 5 (by decide +kernel)
        rw [d2, d5]
        go_simp
        refine hK _ _ rfl (Below.refl _ _) ⟨_, _, _, _, _, _, rfl, h_2_0, h_5_0⟩ (fun h => by cases h)
    case hfin11 =>
      intro vals wr hS hP hne
      obtain ⟨y0, y1, y2, y3, y4, y5, ez, h3_0, h3_1⟩ := hP 6 (by decide)
      have hZ3 := HZ.out.below hS
      have hNo := hZ3.noLimb (by intro v e; cases e) (by intro v e; cases e) (by intro v e; cases e)
      have e0 := hZ3.c0
      have e1 := hZ3.c1
      have e2 := hZ3.c2
      have f0 := hZ3.free 0
      have f1 := hZ3.free 1
      have f2 := hZ3.free 2
      have HF := Lib.hid (hZ3.fill (.bool (sg (-p).num)) (.slice y0 y1 y2) (.slice y3 y4 y5))
      have HP1 := Lib.hid (h3_0.fillR3 hNo (.bool (sg (-p).num)) (.slice y0 y1 y2) (.slice y3 y4 y5))
      have HP2 := Lib.hid (h3_1.fillR3 hNo (.bool (sg (-p).num)) (.slice y0 y1 y2) (.slice y3 y4 y5))
      have HB := Lib.hid (below_fill3' (below_two HW.out hS) Hq.out (.bool (sg (-p).num)) (.slice y0 y1 y2) (.slice y3 y4 y5))
      try dsimp only
      rw [ez]
      refine wpAny_ready (rs := [7]) (by kernel_rfl) (by simp) (AllReady.cons rfl (fun KC hK => ?_) AllReady.nil)
      go_simp
      refine hK _ _ ?_
      clear hK KC
      refine wpAny_done (by kernel_rfl) ?_ _
      go_wp2
      refine bodyPost_ret (results_cell_row rfl _ _ _ 27 #[.bool (sg (-p).num), .slice y0 y1 y2, .slice y3 y4 y5] (0, 0) _ rfl HF.out Tryz.underlying27 rfl rat_size) rfl ?_
      exact ⟨y0, y1, y2, y3, y4, y5, rfl, qt_some (q := -p) HP1.out HP2.out (neg_fits Hf.out), HB.out⟩

theorem rEqual_c (hx : NN w A n c xs a L) (hy : NN w A' n' c' ys b L') (h1 : L ≤ 1000000000) (h2 : L' ≤ 1000000000) (v : Bool) (hv : decide (xs = ys) = v) :
    Calls Tryz.prog 55 #[.slice A n c, .slice A' n' c'] w fun e w' => e = .returned (.bool v) ∧ Below w.heap.size w w' := by
  have := rEqual_any A n c xs A' n' c' ys w hx.isN hy.isN (by have := hx.le; omega) (by have := hy.le; omega)
  have e : same xs ys = v := hv
  rwa [e] at this

set_option maxHeartbeats 4000000 in
set_option maxRecDepth 100000 in
theorem rSame_c (hx : QQ w s A n c xs B m d ys o L) (hx' : QQ w s' A' n' c' xs' B' m' d' ys' o' L') (h1 : L ≤ 1000) (h2 : L' ≤ 1000) (v : Bool) (hv : sameR o o' = v) :
    Calls Tryz.prog 24 #[.agg #[.bool s, .slice A n c, .slice B m d], .agg #[.bool s', .slice A' n' c', .slice B' m' d']] w fun e w' => e = .returned (.bool v) ∧ Below w.heap.size w w' := by
  cases o with
  | none =>
    obtain rfl : v = false := hv.symm
    clear hv
    have b0 := below_new w (.cells #[Value.bool s, Value.slice A n c, Value.slice B m d] 27)
    have b1 := below_new (w.alloc (.cells #[Value.bool s, Value.slice A n c, Value.slice B m d] 27)) (.cells #[Value.bool s', Value.slice A' n' c', Value.slice B' m' d'] 27)
    have HW := Lib.hid (below_two b0 b1)
    have HQ0 := Lib.hid (hx.below HW.out)
    have HQ1 := Lib.hid (hx'.below HW.out)
    have r0 := ((row3_new w 27 (.bool s) (.slice A n c) (.slice B m d)).below b1)
    have r1 := (row3_new (w.alloc (.cells #[Value.bool s, Value.slice A n c, Value.slice B m d] 27)) 27 (.bool s') (.slice A' n' c') (.slice B' m' d'))
    simp only [World.size_alloc] at r1
    clear b0 b1 hx hx'
    go_enter Tryz.func24, Tryz.ntmps24
    go_wp2_with fail
    generalize (w.alloc (.cells #[Value.bool s, Value.slice A n c, Value.slice B m d] 27)).alloc (.cells #[Value.bool s', Value.slice A' n' c', Value.slice B' m' d'] 27) = w1 at *
    have HR0 := Lib.hid r0
    have HR1 := Lib.hid r1
    clear r0 r1
    refine (rGood_c HQ0.out (by omega) false rfl).mono ?_
    rintro e w2 ⟨rfl, bn⟩
    replace HQ0 := Lib.hid (HQ0.out.below bn)
    replace HR0 := Lib.hid (HR0.out.below bn)
    replace HQ1 := Lib.hid (HQ1.out.below bn)
    replace HR1 := Lib.hid (HR1.out.below bn)
    replace HW := Lib.hid (below_two HW.out bn)
    clear bn
    go_wp2
    go_ret
    exact ⟨rfl, HW.out⟩
  | some p =>
    have hv2 : decide (some p = o') = v := hv
    rw [← same_read hx.rd hx'.rd] at hv2
    clear hv
    by_cases hs : s = s'
    · subst hs
      by_cases hxs : xs = xs'
      · have K : RowKit.Hid (decide (xs = xs') = true) := by show _ = _; simpa using hxs
        have K2 : RowKit.Hid (decide (ys = ys') = v) := by
          show _ = _
          rw [← hv2]; simp [hxs]
        clear hv2 hxs
        have b0 := below_new w (.cells #[Value.bool s, Value.slice A n c, Value.slice B m d] 27)
        have b1 := below_new (w.alloc (.cells #[Value.bool s, Value.slice A n c, Value.slice B m d] 27)) (.cells #[Value.bool s, Value.slice A' n' c', Value.slice B' m' d'] 27)
        have HW := Lib.hid (below_two b0 b1)
        have HQ0 := Lib.hid (hx.below HW.out)
        have HQ1 := Lib.hid (hx'.below HW.out)
        have r0 := ((row3_new w 27 (.bool s) (.slice A n c) (.slice B m d)).below b1)
        have r1 := (row3_new (w.alloc (.cells #[Value.bool s, Value.slice A n c, Value.slice B m d] 27)) 27 (.bool s) (.slice A' n' c') (.slice B' m' d'))
        simp only [World.size_alloc] at r1
        clear b0 b1 hx hx'
        go_enter Tryz.func24, Tryz.ntmps24
        go_wp2_with fail
        generalize (w.alloc (.cells #[Value.bool s, Value.slice A n c, Value.slice B m d] 27)).alloc (.cells #[Value.bool s, Value.slice A' n' c', Value.slice B' m' d'] 27) = w1 at *
        have HR0 := Lib.hid r0
        have HR1 := Lib.hid r1
        clear r0 r1
        refine (rGood_c HQ0.out (by omega) true rfl).mono ?_
        rintro e w2 ⟨rfl, bn⟩
        replace HQ0 := Lib.hid (HQ0.out.below bn)
        replace HR0 := Lib.hid (HR0.out.below bn)
        replace HQ1 := Lib.hid (HQ1.out.below bn)
        replace HR1 := Lib.hid (HR1.out.below bn)
        replace HW := Lib.hid (below_two HW.out bn)
        clear bn
        have HX : RowKit.Hid (NN w2 A n c xs (Limb.val xs) L) := by
          have h := HQ0.out.top.nn
          rw [zOf_abs] at h
          exact h
        have HX1 : RowKit.Hid (NN w2 A' n' c' xs' (Limb.val xs') L') := by
          have h := HQ1.out.top.nn
          rw [zOf_abs] at h
          exact h
        have HY := Lib.hid HQ0.out.bot
        have HY1 := Lib.hid HQ1.out.bot
        have c00 := HR0.out.c0
        have c01 := HR0.out.c1
        have c02 := HR0.out.c2
        have c10 := HR1.out.c0
        have c11 := HR1.out.c1
        have c12 := HR1.out.c2
        go_wp2_with fail
        clear c00 c01 c02
        clear c10 c11 c12
        refine (rEqual_c HX.out HX1.out (by omega) (by omega) true K.out).mono ?_
        rintro e w3 ⟨rfl, bn⟩
        replace HX := Lib.hid (HX.out.below bn)
        replace HX1 := Lib.hid (HX1.out.below bn)
        replace HY := Lib.hid (HY.out.below bn)
        replace HY1 := Lib.hid (HY1.out.below bn)
        replace HR0 := Lib.hid (HR0.out.below bn)
        replace HR1 := Lib.hid (HR1.out.below bn)
        replace HW := Lib.hid (below_two HW.out bn)
        clear bn
        have c00 := HR0.out.c0
        have c01 := HR0.out.c1
        have c02 := HR0.out.c2
        have c10 := HR1.out.c0
        have c11 := HR1.out.c1
        have c12 := HR1.out.c2
        go_wp2_with fail
        clear c00 c01 c02
        clear c10 c11 c12
        refine (rEqual_c HY.out HY1.out (by omega) (by omega) v K2.out).mono ?_
        rintro e w3 ⟨rfl, bn⟩
        replace HX := Lib.hid (HX.out.below bn)
        replace HX1 := Lib.hid (HX1.out.below bn)
        replace HY := Lib.hid (HY.out.below bn)
        replace HY1 := Lib.hid (HY1.out.below bn)
        replace HR0 := Lib.hid (HR0.out.below bn)
        replace HR1 := Lib.hid (HR1.out.below bn)
        replace HW := Lib.hid (below_two HW.out bn)
        clear bn
        go_wp2
        go_ret
        exact ⟨rfl, HW.out⟩
      · have K : RowKit.Hid (decide (xs = xs') = false) := by show _ = _; simpa using hxs
        obtain rfl : v = false := by rw [← hv2]; simp [hxs]
        clear hv2 hxs
        have b0 := below_new w (.cells #[Value.bool s, Value.slice A n c, Value.slice B m d] 27)
        have b1 := below_new (w.alloc (.cells #[Value.bool s, Value.slice A n c, Value.slice B m d] 27)) (.cells #[Value.bool s, Value.slice A' n' c', Value.slice B' m' d'] 27)
        have HW := Lib.hid (below_two b0 b1)
        have HQ0 := Lib.hid (hx.below HW.out)
        have HQ1 := Lib.hid (hx'.below HW.out)
        have r0 := ((row3_new w 27 (.bool s) (.slice A n c) (.slice B m d)).below b1)
        have r1 := (row3_new (w.alloc (.cells #[Value.bool s, Value.slice A n c, Value.slice B m d] 27)) 27 (.bool s) (.slice A' n' c') (.slice B' m' d'))
        simp only [World.size_alloc] at r1
        clear b0 b1 hx hx'
        go_enter Tryz.func24, Tryz.ntmps24
        go_wp2_with fail
        generalize (w.alloc (.cells #[Value.bool s, Value.slice A n c, Value.slice B m d] 27)).alloc (.cells #[Value.bool s, Value.slice A' n' c', Value.slice B' m' d'] 27) = w1 at *
        have HR0 := Lib.hid r0
        have HR1 := Lib.hid r1
        clear r0 r1
        refine (rGood_c HQ0.out (by omega) true rfl).mono ?_
        rintro e w2 ⟨rfl, bn⟩
        replace HQ0 := Lib.hid (HQ0.out.below bn)
        replace HR0 := Lib.hid (HR0.out.below bn)
        replace HQ1 := Lib.hid (HQ1.out.below bn)
        replace HR1 := Lib.hid (HR1.out.below bn)
        replace HW := Lib.hid (below_two HW.out bn)
        clear bn
        have HX : RowKit.Hid (NN w2 A n c xs (Limb.val xs) L) := by
          have h := HQ0.out.top.nn
          rw [zOf_abs] at h
          exact h
        have HX1 : RowKit.Hid (NN w2 A' n' c' xs' (Limb.val xs') L') := by
          have h := HQ1.out.top.nn
          rw [zOf_abs] at h
          exact h
        have HY := Lib.hid HQ0.out.bot
        have HY1 := Lib.hid HQ1.out.bot
        have c00 := HR0.out.c0
        have c01 := HR0.out.c1
        have c02 := HR0.out.c2
        have c10 := HR1.out.c0
        have c11 := HR1.out.c1
        have c12 := HR1.out.c2
        go_wp2_with fail
        clear c00 c01 c02
        clear c10 c11 c12
        refine (rEqual_c HX.out HX1.out (by omega) (by omega) false K.out).mono ?_
        rintro e w3 ⟨rfl, bn⟩
        replace HX := Lib.hid (HX.out.below bn)
        replace HX1 := Lib.hid (HX1.out.below bn)
        replace HY := Lib.hid (HY.out.below bn)
        replace HY1 := Lib.hid (HY1.out.below bn)
        replace HR0 := Lib.hid (HR0.out.below bn)
        replace HR1 := Lib.hid (HR1.out.below bn)
        replace HW := Lib.hid (below_two HW.out bn)
        clear bn
        go_wp2
        go_ret
        exact ⟨rfl, HW.out⟩
    · have hs2 : (s == s') = false := by simpa using hs
      obtain rfl : v = false := by rw [← hv2]; simp [hs]
      clear hv2 hs
      have b0 := below_new w (.cells #[Value.bool s, Value.slice A n c, Value.slice B m d] 27)
      have b1 := below_new (w.alloc (.cells #[Value.bool s, Value.slice A n c, Value.slice B m d] 27)) (.cells #[Value.bool s', Value.slice A' n' c', Value.slice B' m' d'] 27)
      have HW := Lib.hid (below_two b0 b1)
      have HQ0 := Lib.hid (hx.below HW.out)
      have HQ1 := Lib.hid (hx'.below HW.out)
      have r0 := ((row3_new w 27 (.bool s) (.slice A n c) (.slice B m d)).below b1)
      have r1 := (row3_new (w.alloc (.cells #[Value.bool s, Value.slice A n c, Value.slice B m d] 27)) 27 (.bool s') (.slice A' n' c') (.slice B' m' d'))
      simp only [World.size_alloc] at r1
      clear b0 b1 hx hx'
      go_enter Tryz.func24, Tryz.ntmps24
      go_wp2_with fail
      generalize (w.alloc (.cells #[Value.bool s, Value.slice A n c, Value.slice B m d] 27)).alloc (.cells #[Value.bool s', Value.slice A' n' c', Value.slice B' m' d'] 27) = w1 at *
      have HR0 := Lib.hid r0
      have HR1 := Lib.hid r1
      clear r0 r1
      refine (rGood_c HQ0.out (by omega) true rfl).mono ?_
      rintro e w2 ⟨rfl, bn⟩
      replace HQ0 := Lib.hid (HQ0.out.below bn)
      replace HR0 := Lib.hid (HR0.out.below bn)
      replace HQ1 := Lib.hid (HQ1.out.below bn)
      replace HR1 := Lib.hid (HR1.out.below bn)
      replace HW := Lib.hid (below_two HW.out bn)
      clear bn
      have HX : RowKit.Hid (NN w2 A n c xs (Limb.val xs) L) := by
        have h := HQ0.out.top.nn
        rw [zOf_abs] at h
        exact h
      have HX1 : RowKit.Hid (NN w2 A' n' c' xs' (Limb.val xs') L') := by
        have h := HQ1.out.top.nn
        rw [zOf_abs] at h
        exact h
      have HY := Lib.hid HQ0.out.bot
      have HY1 := Lib.hid HQ1.out.bot
      have c00 := HR0.out.c0
      have c01 := HR0.out.c1
      have c02 := HR0.out.c2
      have c10 := HR1.out.c0
      have c11 := HR1.out.c1
      have c12 := HR1.out.c2
      go_wp2
      go_ret
      exact ⟨rfl, HW.out⟩

end
set_option maxHeartbeats 4000000 in
set_option maxRecDepth 100000 in
theorem rWhole_c (v : Int) (h0 : -9223372036854775808 ≤ v) (h1 : v ≤ 9223372036854775807) (w : World) :
    Calls Tryz.prog 26 #[.int .i64 v] w fun e w' => ∃ A2 n2 c2 B2 m2 d2, e = .returned (.agg #[.bool (sg (oTop (some (v : Rat)))), .slice A2 n2 c2, .slice B2 m2 d2]) ∧ QT w' A2 n2 c2 B2 m2 d2 (some (v : Rat)) ∧ Below w.heap.size w w' := by
  have HW := Lib.hid (below_new w (.cells #[Value.bool false, Value.slice none 0 0, Value.slice none 0 0] 27))
  have HZ := Lib.hid (row3_new w 27 (.bool false) (.slice none 0 0) (.slice none 0 0))
  go_enter Tryz.func26, Tryz.ntmps26
  go_wp2_with fail
  refine (wOf_c v h0 h1 _).mono ?_
  rintro e w2 ⟨A2, n2, c2, rfl, h2, bn⟩
  have H2 := Lib.hid h2
  replace HZ := Lib.hid (HZ.out.below bn)
  replace HW := Lib.hid (below_two HW.out bn)
  clear h2 bn
  go_wp2_with fail
  refine (of_c 1 1 rfl (by decide) _).mono ?_
  rintro e w3 ⟨A4, n4, c4, rfl, h4, bn⟩
  replace H2 := Lib.hid (H2.out.below bn)
  replace HZ := Lib.hid (HZ.out.below bn)
  replace HW := Lib.hid (below_two HW.out bn)
  have HL := Lib.hid h4
  clear h4 bn
  have hNo := HZ.out.noLimb (by intro v e; cases e) (by intro v e; cases e) (by intro v e; cases e)
  have e0 := HZ.out.c0
  have e1 := HZ.out.c1
  have e2 := HZ.out.c2
  have f0 := HZ.out.free 0
  have f1 := HZ.out.free 1
  have f2 := HZ.out.free 2
  have HF := Lib.hid (HZ.out.fill (.bool (sg v)) (.slice A2 n2 c2) (.slice A4 n4 c4))
  have HP1 := Lib.hid (H2.out.fillR3 hNo (.bool (sg v)) (.slice A2 n2 c2) (.slice A4 n4 c4))
  have HP2 := Lib.hid (HL.out.fillR3 hNo (.bool (sg v)) (.slice A2 n2 c2) (.slice A4 n4 c4))
  have HB := Lib.hid (below_fill3' HW.out (Nat.le_refl _) (.bool (sg v)) (.slice A2 n2 c2) (.slice A4 n4 c4))
  clear hNo H2 HL
  go_wp2
  refine bodyPost_ret (results_cell_row rfl _ _ w.heap.size 27 #[.bool (sg v), .slice A2 n2 c2, .slice A4 n4 c4] (0, 0) _ rfl HF.out Tryz.underlying27 rfl rat_size) rfl ?_
  exact ⟨A2, n2, c2, _, _, _, rfl, qt_some (q := (v : Rat)) HP1.out HP2.out (whole_fits h0 h1), HB.out⟩

end Go.Proofs.YtohciicocaoagaaGreat

/- What the statements' helper By of layer 7 answers, as a contract over memory. Conditions: two numbers of a machine whose quotient has room. -/
namespace Go.Proofs.YtohciicocaoagaaGreat
open Go.RowKit Limb
set_option linter.unusedVariables false
theorem refQWhole_is (v : Int) (h0 : -9223372036854775808 ≤ v) (h1 : v ≤ 9223372036854775807) (q : Rat) (hq : (v : Rat) = q) (w : World) : Calls Tryz.prog 27 #[.int .i64 v] w fun e w' => ∃ A2 n2 c2 B2 m2 d2, e = .returned (.agg #[.bool (sg (oTop (some q))), .slice A2 n2 c2, .slice B2 m2 d2]) ∧ QT w' A2 n2 c2 B2 m2 d2 (some q) ∧ Below w.heap.size w w' := by
  subst hq; exact refQWhole_c v h0 h1 w
theorem rWhole_is (v : Int) (h0 : -9223372036854775808 ≤ v) (h1 : v ≤ 9223372036854775807) (q : Rat) (hq : (v : Rat) = q) (w : World) : Calls Tryz.prog 26 #[.int .i64 v] w fun e w' => ∃ A2 n2 c2 B2 m2 d2, e = .returned (.agg #[.bool (sg (oTop (some q))), .slice A2 n2 c2, .slice B2 m2 d2]) ∧ QT w' A2 n2 c2 B2 m2 d2 (some q) ∧ Below w.heap.size w w' := by
  subst hq; exact rWhole_c v h0 h1 w

set_option maxHeartbeats 4000000 in
set_option maxRecDepth 100000 in
theorem by_c (a b : Int) (a0 : -9223372036854775808 ≤ a) (a1 : a ≤ 9223372036854775807) (b0 : -9223372036854775808 ≤ b) (b1 : b ≤ 9223372036854775807) (q : Rat) (hq : divR (some (a : Rat)) (some (b : Rat)) = (some q, 0)) (w : World) :
    Calls Tryz.prog 29 #[.int .i64 a, .int .i64 b] w fun e w' => ∃ A2 n2 c2 B2 m2 d2, e = .returned (.agg #[.bool (sg (oTop (some q))), .slice A2 n2 c2, .slice B2 m2 d2]) ∧ QT w' A2 n2 c2 B2 m2 d2 (some q) ∧ Below w.heap.size w w' := by
  have bw := below_new w (.cells #[Value.bool false, Value.slice none 0 0, Value.slice none 0 0] 27)
  have h_rz := row3_new w 27 (.bool false) (.slice none 0 0) (.slice none 0 0)
  obtain ⟨p, ep⟩ : ∃ p : Rat, (a : Rat) = p := ⟨_, rfl⟩
  obtain ⟨r, er⟩ : ∃ r : Rat, (b : Rat) = r := ⟨_, rfl⟩
  rw [ep, er] at hq
  have ep := Lib.hid ep
  have er := Lib.hid er
  have hq := Lib.hid hq
  have a0 := Lib.hid a0
  have a1 := Lib.hid a1
  have b0 := Lib.hid b0
  have b1 := Lib.hid b1
  go_enter Tryz.func29, Tryz.ntmps29
  go_wp2_with fail
  generalize w.alloc (.cells #[Value.bool false, Value.slice none 0 0, Value.slice none 0 0] 27) = w1 at *
  obtain ⟨q_z, eg⟩ : ∃ g, g = w.heap.size := ⟨_, rfl⟩
  have hqz : RowKit.Hid (w.heap.size ≤ q_z) := by show _ ≤ _; omega
  rw [← eg] at h_rz ⊢
  clear eg
  refine (refQWhole_is a a0.out a1.out _ ep.out _).mono ?_
  rintro e w1 ⟨A_a, n_a, c_a, B_a, m_a, d_a, rfl, h_a, bn⟩
  replace h_rz := h_rz.below bn
  replace bw := below_two bw bn
  clear bn
  go_wp2_with fail
  refine (refQWhole_is b b0.out b1.out _ er.out _).mono ?_
  rintro e w2 ⟨A_b, n_b, c_b, B_b, m_b, d_b, rfl, h_b, bn⟩
  replace h_rz := h_rz.below bn
  replace h_a := h_a.below bn
  replace bw := below_two bw bn
  clear bn
  go_wp2_with fail
  refine (refQDiv_c h_a h_b (by decide) (by decide) _ _ hq.out).mono ?_
  rintro e w3 ⟨A_g, n_g, c_g, B_g, m_g, d_g, rfl, h_g, bn⟩
  replace h_rz := h_rz.below bn
  replace h_a := h_a.below bn
  replace h_b := h_b.below bn
  replace bw := below_two bw bn
  clear bn
  have h_rgg := row4_new w3 35 (.bool (sg (oTop (some q)))) (.slice A_g n_g c_g) (.slice B_g m_g d_g) (.int .i64 0)
  have bn := below_new w3 (.cells #[Value.bool (sg (oTop (some q))), Value.slice A_g n_g c_g, Value.slice B_g m_g d_g, Value.int .i64 0] 35)
  replace h_rz := h_rz.below bn
  replace h_a := h_a.below bn
  replace h_b := h_b.below bn
  replace h_g := h_g.below bn
  replace bw := below_two bw bn
  clear bn
  have hNo := h_rz.noLimb (by intro v e; cases e) (by intro v e; cases e) (by intro v e; cases e)
  have e0 := h_rz.c0
  have f0 := h_rz.free 0
  have e1 := h_rz.c1
  have f1 := h_rz.free 1
  have e2 := h_rz.c2
  have f2 := h_rz.free 2
  have y0 := h_rgg.c0
  have y1 := h_rgg.c1
  have y2 := h_rgg.c2
  have y3 := h_rgg.c3
  have HF := Lib.hid (h_rz.fill (.bool (sg (oTop (some q)))) (.slice A_g n_g c_g) (.slice B_g m_g d_g))
  have HP := Lib.hid (QQ.fillR3 h_g hNo (.bool (sg (oTop (some q)))) (.slice A_g n_g c_g) (.slice B_g m_g d_g))
  have HB := Lib.hid (below_fill3' bw hqz.out (.bool (sg (oTop (some q)))) (.slice A_g n_g c_g) (.slice B_g m_g d_g))
  clear hNo
  go_wp2
  refine bodyPost_ret (results_cell_row rfl _ _ _ 27 #[.bool (sg (oTop (some q))), .slice A_g n_g c_g, .slice B_g m_g d_g] (0, 0) _ rfl HF.out Tryz.underlying27 rfl rat_size) rfl ?_
  exact ⟨A_g, n_g, c_g, B_g, m_g, d_g, rfl, HP.out, HB.out⟩

end Go.Proofs.YtohciicocaoagaaGreat

/- What the statements' helpers keep.Rat and keep.OwnRat answer, as contracts over memory. Conditions: sizes of at most so many limbs. -/
namespace Go.Proofs.YtohciicocaoagaaGreat
open Go.RowKit Limb
set_option linter.unusedVariables false
section
variable {w : World} {s s' : Bool} {A B A' B' : Option Addr} {n c m d n' c' m' d' : Nat} {xs ys xs' ys' : List Nat} {x y : Int} {o o' : Option Rat} {a b L L' : Nat}
set_option maxHeartbeats 4000000 in
set_option maxRecDepth 100000 in
theorem keepRat_c (hx : QQ w s A n c xs B m d ys o L) (hx' : QQ w s' A' n' c' xs' B' m' d' ys' o' L') (h1 : L ≤ 100000) (h2 : L' ≤ 100000) (v : Bool) (hv : (decide (s = s') && same xs xs' && same ys ys') = v) :
    Calls Tryz.prog 15 #[.agg #[.bool s, .slice A n c, .slice B m d], .agg #[.bool s', .slice A' n' c', .slice B' m' d']] w fun e w' => e = .returned (.bool v) ∧ Below w.heap.size w w' := by
  have b0 := below_new w (.cells #[Value.bool s, Value.slice A n c, Value.slice B m d] 27)
  have b1 := below_new (w.alloc (.cells #[Value.bool s, Value.slice A n c, Value.slice B m d] 27)) (.cells #[Value.bool s', Value.slice A' n' c', Value.slice B' m' d'] 27)
  have HW := Lib.hid (below_two b0 b1)
  have HQ0 := Lib.hid (hx.below HW.out)
  have HQ1 := Lib.hid (hx'.below HW.out)
  have r0 := (row3_new w 27 (.bool s) (.slice A n c) (.slice B m d)).below b1
  have r1 := row3_new (w.alloc (.cells #[Value.bool s, Value.slice A n c, Value.slice B m d] 27)) 27 (.bool s') (.slice A' n' c') (.slice B' m' d')
  simp only [World.size_alloc] at r1
  clear b0 b1 hx hx'
  cases ht : decide (s = s') && same xs xs' with
  | true =>
    have K2 : RowKit.Hid (same ys ys' = v) := by
      show _ = _
      rw [← hv, ht, Bool.true_and]
    have K := Lib.hid ht
    clear ht hv
    go_enter Tryz.func15, Tryz.ntmps15
    go_wp2_with fail
    generalize (w.alloc (.cells #[Value.bool s, Value.slice A n c, Value.slice B m d] 27)).alloc (.cells #[Value.bool s', Value.slice A' n' c', Value.slice B' m' d'] 27) = w1 at *
    have HR0 := Lib.hid r0
    have HR1 := Lib.hid r1
    clear r0 r1
    refine (keepInt_c HQ0.out.top HQ1.out.top (by omega) (by omega) true K.out).mono ?_
    rintro e w2 ⟨rfl, bn⟩
    replace HQ0 := Lib.hid (HQ0.out.below bn)
    replace HQ1 := Lib.hid (HQ1.out.below bn)
    replace HR0 := Lib.hid (HR0.out.below bn)
    replace HR1 := Lib.hid (HR1.out.below bn)
    replace HW := Lib.hid (below_two HW.out bn)
    clear bn
    have c00 := HR0.out.c0
    have c01 := HR0.out.c1
    have c02 := HR0.out.c2
    have c10 := HR1.out.c0
    have c11 := HR1.out.c1
    have c12 := HR1.out.c2
    go_wp2_with fail
    clear c00 c01 c02
    clear c10 c11 c12
    refine (keep_c HQ0.out.bot HQ1.out.bot (by omega) (by omega) v K2.out).mono ?_
    rintro e w3 ⟨rfl, bn⟩
    replace HW := Lib.hid (below_two HW.out bn)
    clear bn
    go_wp2
    go_ret
    exact ⟨rfl, HW.out⟩
  | false =>
    obtain rfl : v = false := by rw [← hv, ht]; rfl
    have K := Lib.hid ht
    clear ht hv
    go_enter Tryz.func15, Tryz.ntmps15
    go_wp2_with fail
    generalize (w.alloc (.cells #[Value.bool s, Value.slice A n c, Value.slice B m d] 27)).alloc (.cells #[Value.bool s', Value.slice A' n' c', Value.slice B' m' d'] 27) = w1 at *
    have HR0 := Lib.hid r0
    have HR1 := Lib.hid r1
    clear r0 r1
    refine (keepInt_c HQ0.out.top HQ1.out.top (by omega) (by omega) false K.out).mono ?_
    rintro e w2 ⟨rfl, bn⟩
    replace HQ0 := Lib.hid (HQ0.out.below bn)
    replace HQ1 := Lib.hid (HQ1.out.below bn)
    replace HR0 := Lib.hid (HR0.out.below bn)
    replace HR1 := Lib.hid (HR1.out.below bn)
    replace HW := Lib.hid (below_two HW.out bn)
    clear bn
    go_wp2
    go_ret
    exact ⟨rfl, HW.out⟩

set_option maxHeartbeats 4000000 in
set_option maxRecDepth 100000 in
theorem ownRat_c (hx : QQ w s A n c xs B m d ys o L) (h1 : L ≤ 100000) :
    Calls Tryz.prog 6 #[.agg #[.bool s, .slice A n c, .slice B m d]] w fun e w' => ∃ A2 n2 c2 B2 m2 d2, e = .returned (.agg #[.bool s, .slice A2 n2 c2, .slice B2 m2 d2]) ∧ QQ w' s A2 n2 c2 xs B2 m2 d2 ys o L ∧ Below w.heap.size w w' := by
  have b0 := below_new w (.cells #[Value.bool s, Value.slice A n c, Value.slice B m d] 27)
  have b1 := below_new (w.alloc (.cells #[Value.bool s, Value.slice A n c, Value.slice B m d] 27)) (.cells #[Value.bool false, Value.slice none 0 0, Value.slice none 0 0] 27)
  have HW := Lib.hid (below_two b0 b1)
  have HX := Lib.hid (hx.top.below HW.out)
  have HY := Lib.hid (hx.bot.below HW.out)
  have Hrd := Lib.hid hx.rd
  have r0 := (row3_new w 27 (.bool s) (.slice A n c) (.slice B m d)).below b1
  have rz := row3_new (w.alloc (.cells #[Value.bool s, Value.slice A n c, Value.slice B m d] 27)) 27 (.bool false) (.slice none 0 0) (.slice none 0 0)
  simp only [World.size_alloc] at rz
  have Hq : RowKit.Hid (w.heap.size ≤ w.heap.size + 1) := Nat.le_succ _
  clear b0 b1 hx
  go_enter Tryz.func6, Tryz.ntmps6
  go_wp2_with fail
  generalize (w.alloc (.cells #[Value.bool s, Value.slice A n c, Value.slice B m d] 27)).alloc (.cells #[Value.bool false, Value.slice none 0 0, Value.slice none 0 0] 27) = wS at *
  have HR0 := Lib.hid r0
  have HZ := Lib.hid rz
  clear r0 rz
  refine region_free 7 1 [3, 4, 5, 6, 7, 8, 9] ?aF12 (fun wx => Below wS.heap.size wS wx) (fun k vv wx => match k with
      | 0 => vv = .pointer (some ⟨w.heap.size, 0, none⟩)
      | 1 => vv = .agg #[.bool s, .slice A n c]
      | 2 => ∃ (e0 : Option Addr) (e1 : Nat) (e2 : Nat), vv = .agg #[.bool s, .slice e0 e1 e2] ∧ ZZ wx s e0 e1 e2 xs (zOf s (Limb.val xs)) L
      | 3 => vv = .pointer (some ⟨w.heap.size, 2, none⟩)
      | 4 => vv = .slice B m d
      | 5 => ∃ (e0 : Option Addr) (e1 : Nat) (e2 : Nat), vv = .slice e0 e1 e2 ∧ NN wx e0 e1 e2 ys (Limb.val ys) L
      | _ => ∃ (e0 : Option Addr) (e1 : Nat) (e2 : Nat) (e3 : Option Addr) (e4 : Nat) (e5 : Nat), vv = .agg #[.bool s, .slice e0 e1 e2, .slice e3 e4 e5] ∧ ZZ wx s e0 e1 e2 xs (zOf s (Limb.val xs)) L ∧ NN wx e3 e4 e5 ys (Limb.val ys) L)
    (fun k => false) (by kernel_rfl) ?haF12 rfl (by kernel_rfl) (by kernel_rfl) (fun _ _ _ _ _ h => h) ?hSb12 ?hPb12 ?hS12 ?hop12 ?hfin12
  case haF12 =>
    intro vals
    simp only [fillAll, List.getElem?_cons_zero, List.getElem?_cons_succ, Act.put, List.setIfInBounds_toArray, List.set_cons_zero, List.set_cons_succ]
    exact rfl
  case hSb12 => exact fun wx w2 hb hS => below_two hS hb
  case hPb12 =>
    intro k v wa wb hb h
    match k, h with
    | 0, h => exact h
    | 1, h => exact h
    | 2, ⟨e0, e1, e2, h1, g0⟩ => exact ⟨e0, e1, e2, h1, g0.below hb⟩
    | 3, h => exact h
    | 4, h => exact h
    | 5, ⟨e0, e1, e2, h1, g0⟩ => exact ⟨e0, e1, e2, h1, g0.below hb⟩
    | _ + 6, ⟨e0, e1, e2, e3, e4, e5, h1, g0, g1⟩ => exact ⟨e0, e1, e2, e3, e4, e5, h1, g0.below hb, g1.below hb⟩
  case hS12 => exact (Below.refl _ _).drew
  case hop12 =>
    refine .cons (k := 0) ?_ (.cons (k := 1) ?_ (.cons (k := 2) ?_ (.cons (k := 3) ?_ (.cons (k := 4) ?_ (.cons (k := 5) ?_ (.cons (k := 6) ?_ (.nil)))))))
    all_goals intro vals wr hS hd KC hK
    all_goals (show Oper.wp _ _ _ _ _ _; dsimp only)
    · go_simp
      refine hK _ _ rfl (Below.refl _ _) (by first | rfl | simp) (fun h => by cases h)
    · have d0 : vals 0 = _ := hd 0 (by decide +kernel)
      rw [d0]
      have z0 := (HR0.out.below hS).c0
      have z1 := (HR0.out.below hS).c1
      go_simp
      refine hK _ _ rfl (Below.refl _ _) (by first | rfl | simp) (fun h => by cases h)
    · have d1 : vals 1 = _ := hd 1 (by decide +kernel)
      rw [d1]
      go_simp
      go_at_call 30
      with_reducible refine (ownInt_c (HX.out.below hS) (by omega)).mono ?_
      rintro e w2 ⟨r0, r1, r2, rfl, f0, bn_r⟩
      refine hK _ _ rfl bn_r ⟨_, _, _, rfl, f0⟩ (fun h => by cases h)
    · go_simp
      refine hK _ _ rfl (Below.refl _ _) (by first | rfl | simp) (fun h => by cases h)
    · have d3 : vals 3 = _ := hd 3 (by decide +kernel)
      rw [d3]
      have z0 := (HR0.out.below hS).c2
      go_simp
      refine hK _ _ rfl (Below.refl _ _) (by first | rfl | simp) (fun h => by cases h)
    · have d4 : vals 4 = _ := hd 4 (by decide +kernel)
      rw [d4]
      go_simp
      go_at_call 31
      with_reducible refine (own_any _ _ _ _ _ _ _ (HY.out.below hS) (by omega)).mono ?_
      rintro e w2 ⟨r0, r1, r2, rfl, f0, bn_r⟩
      refine hK _ _ rfl bn_r ⟨_, _, _, rfl, f0⟩ (fun h => by cases h)
    · obtain ⟨A_2_0, n_2_1, n_2_2, d2, h_2_0⟩ := hd 2 (by decide +kernel)
      obtain ⟨A_5_0, n_5_1, n_5_2, d5, h_5_0⟩ := hd 5 (by decide +kernel)
      rw [d2, d5]
      go_simp
      refine hK _ _ rfl (Below.refl _ _) ⟨_, _, _, _, _, _, rfl, h_2_0, h_5_0⟩ (fun h => by cases h)
  case hfin12 =>
    intro vals wr hS hP hne
    obtain ⟨A_6_0, n_6_1, n_6_2, A_6_3, n_6_4, n_6_5, ez_6, h_6_0, h_6_1⟩ := hP 6 (by decide)
    have hZ3 := HZ.out.below hS
    have hNo := hZ3.noLimb (by intro v e; cases e) (by intro v e; cases e) (by intro v e; cases e)
    have e0 := hZ3.c0
    have e1 := hZ3.c1
    have e2 := hZ3.c2
    have f0 := hZ3.free 0
    have f1 := hZ3.free 1
    have f2 := hZ3.free 2
    have HF := Lib.hid (hZ3.fill (.bool s) (.slice A_6_0 n_6_1 n_6_2) (.slice A_6_3 n_6_4 n_6_5))
    have HP := Lib.hid (QQ.fillR3 ⟨h_6_0, h_6_1, Hrd.out⟩ hNo (.bool s) (.slice A_6_0 n_6_1 n_6_2) (.slice A_6_3 n_6_4 n_6_5))
    have HB := Lib.hid (below_fill3' (below_two HW.out hS) Hq.out (.bool s) (.slice A_6_0 n_6_1 n_6_2) (.slice A_6_3 n_6_4 n_6_5))
    try dsimp only
    rw [ez_6]
    refine wpAny_ready (rs := [7]) (by kernel_rfl) (by simp) (AllReady.cons rfl (fun KC hK => ?_) AllReady.nil)
    go_simp
    refine hK _ _ ?_
    clear hK KC
    refine wpAny_done (by kernel_rfl) ?_ _
    go_wp2
    refine bodyPost_ret (results_cell_row rfl _ _ _ 27 #[.bool s, .slice A_6_0 n_6_1 n_6_2, .slice A_6_3 n_6_4 n_6_5] (0, 0) _ rfl HF.out Tryz.underlying27 rfl rat_size) rfl ?_
    exact ⟨A_6_0, n_6_1, n_6_2, A_6_3, n_6_4, n_6_5, rfl, HP.out, HB.out⟩

end
end Go.Proofs.YtohciicocaoagaaGreat

/- What package whole's Trim answers, as a contract over memory: whole numbers in the shortest limbs, 0 not below 0. Conditions: sizes of at most so many limbs; the table of powers of ten where texts are made or read. -/
namespace Go.Proofs.YtohciicocaoagaaGreat
open Go.RowKit Limb
set_option linter.unusedVariables false
section
variable {w : World} {s s' : Bool} {A A' : Option Addr} {n c n' c' : Nat} {xs ys : List Nat} {x y : Int} {L L' : Nat}
set_option maxHeartbeats 4000000 in
set_option maxRecDepth 100000 in
theorem wTrim_c (hx : ZZ w s A n c xs x L) (h1 : L ≤ 100000) :
    Calls Tryz.prog 60 #[.agg #[.bool s, .slice A n c]] w fun e w' => ∃ A2 n2 c2, e = .returned (.agg #[.bool (sg x), .slice A2 n2 c2]) ∧ ZZ w' (sg x) A2 n2 c2 (limbs x.natAbs) x L ∧ Below w.heap.size w w' := by
  have HS := Lib.hid hx.zof
  have b0 := below_new w (.cells #[Value.bool s, Value.slice A n c] 25)
  have bz := below_new (w.alloc (.cells #[Value.bool s, Value.slice A n c] 25)) zbox
  have HW := Lib.hid (below_two b0 bz)
  have HN := Lib.hid (hx.nn.below HW.out)
  have r0 := (row2_new w 25 (.bool s) (.slice A n c)).below bz
  have rz : ZB ((w.alloc (.cells #[Value.bool s, Value.slice A n c] 25)).alloc zbox) (w.alloc (.cells #[Value.bool s, Value.slice A n c] 25)).heap.size := row2_new (w.alloc (.cells #[Value.bool s, Value.slice A n c] 25)) _ _ _
  simp only [World.size_alloc] at rz
  clear b0 bz hx
  go_enter Tryz.func60, Tryz.ntmps60
  go_wp2
  generalize (w.alloc (.cells #[Value.bool s, Value.slice A n c] 25)).alloc zbox = w1 at *
  have HR0 := Lib.hid r0
  have c00 := r0.c0
  have c01 := r0.c1
  have HZ := Lib.hid rz
  clear r0 rz
  clear c00 c01
  refine region_free 6 1 [3, 4, 5, 6, 7, 8] ?aF (fun wx => Below w1.heap.size w1 wx) (fun k v wx => match k with
      | 0 => v = .pointer (some ⟨w.heap.size, 0, none⟩)
      | 1 => v = .bool s
      | 2 => v = .pointer (some ⟨w.heap.size, 1, none⟩)
      | 3 => v = .slice A n c
      | 4 => ∃ A2 n2 c2, v = .slice A2 n2 c2 ∧ NN wx A2 n2 c2 (limbs x.natAbs) x.natAbs L
      | _ => ∃ A2 n2 c2, v = .agg #[.bool (sg x), .slice A2 n2 c2] ∧ ZZ wx (sg x) A2 n2 c2 (limbs x.natAbs) x L)
    (fun _ => false) (by kernel_rfl) ?haF rfl (by kernel_rfl) (by kernel_rfl) (fun _ _ _ _ _ h => h) ?hSb ?hPb ?hS ?hop ?hfin
  case haF =>
    intro vals
    simp only [fillAll, List.getElem?_cons_zero, List.getElem?_cons_succ, Act.put, List.setIfInBounds_toArray, List.set_cons_zero, List.set_cons_succ]
    exact rfl
  case hSb => exact fun wx w2 hb hS => below_two hS hb
  case hPb =>
    intro k v wa wb hb h
    match k, h with
    | 0, h => exact h
    | 1, h => exact h
    | 2, h => exact h
    | 3, h => exact h
    | 4, ⟨A2, n2, c2, h1, h2⟩ => exact ⟨A2, n2, c2, h1, h2.below hb⟩
    | _ + 5, ⟨A2, n2, c2, h1, h2⟩ => exact ⟨A2, n2, c2, h1, h2.below hb⟩
  case hS => exact (Below.refl _ _).drew
  case hop =>
    refine .cons (k := 0) ?_ (.cons (k := 1) ?_ (.cons (k := 2) ?_ (.cons (k := 3) ?_ (.cons (k := 4) ?_ (.cons (k := 5) ?_ (.nil))))))
    all_goals intro vals wr hS hd KC hK
    all_goals (show Oper.wp _ _ _ _ _ _; dsimp only)
    · go_simp
      refine hK _ _ rfl (Below.refl _ _) rfl (fun h => by cases h)
    · have d0 : vals 0 = _ := hd 0 (by decide +kernel)
      rw [d0]
      have c0 := (HR0.out.below hS).c0
      go_simp
      refine hK _ _ rfl (Below.refl _ _) rfl (fun h => by cases h)
    · go_simp
      refine hK _ _ rfl (Below.refl _ _) rfl (fun h => by cases h)
    · have d2 : vals 2 = _ := hd 2 (by decide +kernel)
      rw [d2]
      have c0 := (HR0.out.below hS).c1
      go_simp
      refine hK _ _ rfl (Below.refl _ _) rfl (fun h => by cases h)
    · have d3 : vals 3 = _ := hd 3 (by decide +kernel)
      rw [d3]
      go_simp
      go_at_call 66
      with_reducible refine (trim_c (HN.out.below hS) (by omega)).mono ?_
      rintro e w2 ⟨A_r, n_r, c_r, rfl, h_r, bn_r⟩
      refine hK _ _ rfl bn_r ⟨_, _, _, rfl, h_r⟩ (fun h => by cases h)
    · have d1 : vals 1 = _ := hd 1 (by decide +kernel)
      obtain ⟨A_m, n_m, c_m, d4, h_m⟩ := hd 4 (by decide +kernel)
      rw [d1, d4]
      go_simp
      go_at_call 61
      with_reducible refine (signed_c h_m _ x (by first | exact HS.out | simpa using HS.out)).mono ?_
      rintro e w2 ⟨rfl, h_r, bn_r⟩
      refine hK _ _ rfl bn_r ⟨_, _, _, rfl, h_r⟩ (fun h => by cases h)
  case hfin =>
    intro vals wr hS hP hne
    obtain ⟨A2, n2, c2, ez, h3⟩ := hP 5 (by decide)
    have hZ3 := HZ.out.below hS
    obtain ⟨e0, e1, f0, f1⟩ := hZ3.cells
    try dsimp only
    rw [ez]
    have HF := Lib.hid (hZ3.fill (.bool (sg x)) (.slice A2 n2 c2))
    have HP := Lib.hid (h3.put hZ3 (.bool (sg x)) (.slice A2 n2 c2))
    have HB := Lib.hid (below_fill (g := w.heap.size + 1) (below_two HW.out hS) (by omega) (.bool (sg x)) (.slice A2 n2 c2))
    refine wpAny_ready (rs := [6]) (by kernel_rfl) (by simp) (AllReady.cons rfl (fun KC hK => ?_) AllReady.nil)
    go_simp
    refine hK _ _ ?_
    clear hK KC
    refine wpAny_done (by kernel_rfl) ?_ _
    go_wp2
    refine bodyPost_ret (results_cell_row rfl _ _ (w.heap.size + 1) 25 #[.bool (sg x), .slice A2 n2 c2] (0, 0) _ rfl HF.out Tryz.underlying25 rfl int_size) rfl ?_
    exact ⟨A2, n2, c2, rfl, HP.out, HB.out⟩
end

end Go.Proofs.YtohciicocaoagaaGreat

/- What package rat's Of answers, as a contract over memory. Conditions: sizes of at most so many limbs. -/
namespace Go.Proofs.YtohciicocaoagaaGreat
open Go.RowKit Limb
set_option linter.unusedVariables false
section
variable {w : World} {s s' : Bool} {A B A' B' : Option Addr} {n c m d n' c' m' d' : Nat} {xs ys xs' ys' : List Nat} {x y : Int} {a b L L' : Nat}
set_option maxHeartbeats 4000000 in
set_option maxRecDepth 100000 in
theorem rOf_c (hx : ZZ w s A n c xs x L) (hy : NN w B m d ys b L') (h1 : L ≤ 10000) (h2 : L' ≤ 10000) (r : Option Rat) (e : Int) (hR : ofR x b = (r, e)) :
    Calls Tryz.prog 28 #[.agg #[.bool s, .slice A n c], .slice B m d] w fun ee w' => ∃ A2 n2 c2 B2 m2 d2, ee = .returned (.tuple #[.agg #[.bool (sg (oTop r)), .slice A2 n2 c2, .slice B2 m2 d2], .int .i64 e]) ∧ QT w' A2 n2 c2 B2 m2 d2 r ∧ Below w.heap.size w w' := by
  have b0 := below_new w (.cells #[Value.bool s, Value.slice A n c] 25)
  have b1 := below_new (w.alloc (.cells #[Value.bool s, Value.slice A n c] 25)) (.cells #[Value.bool false, Value.slice none 0 0, Value.slice none 0 0] 27)
  have HW := Lib.hid (below_two b0 b1)
  have HX := Lib.hid (hx.below HW.out)
  have HY := Lib.hid (hy.below HW.out)
  have r0 := (row2_new w 25 (.bool s) (.slice A n c)).below b1
  have rz := row3_new (w.alloc (.cells #[Value.bool s, Value.slice A n c] 25)) 27 (.bool false) (.slice none 0 0) (.slice none 0 0)
  simp only [World.size_alloc] at rz
  have Hq : RowKit.Hid (w.heap.size ≤ w.heap.size + 1) := Nat.le_succ _
  clear b0 b1 hx hy
  by_cases hb : b = 0
  · obtain ⟨rfl, rfl⟩ := ofR_zero hb hR
    clear hR
    have HB0 : RowKit.Hid (((blen b : Nat) : Int) = 0) := by show _ = _; rw [hb]; rfl
    clear hb
    go_enter Tryz.func28, Tryz.ntmps28
    go_wp2_with fail
    generalize (w.alloc (.cells #[Value.bool s, Value.slice A n c] 25)).alloc (.cells #[Value.bool false, Value.slice none 0 0, Value.slice none 0 0] 27) = w1 at *
    have HR0 := Lib.hid r0
    have HZ := Lib.hid rz
    clear r0 rz
    refine (bits_c HY.out (by omega) 0 HB0.out).mono ?_
    rintro e w2 ⟨rfl, rfl⟩
    have e0 := HZ.out.c0
    have e1 := HZ.out.c1
    have e2 := HZ.out.c2
    have f0 := HZ.out.free 0
    have f1 := HZ.out.free 1
    have f2 := HZ.out.free 2
    have HF := Lib.hid (HZ.out.fill (.bool false) (.slice none 0 0) (.slice none 0 0))
    have HB := Lib.hid (below_fill3' HW.out Hq.out (.bool false) (.slice none 0 0) (.slice none 0 0))
    go_wp2
    refine bodyPost_ret (results_mixed rfl _ _ _ 27 #[.bool false, .slice none 0 0, .slice none 0 0] (0, 0) _ (.int .i64 3) rfl rfl HF.out Tryz.underlying27 rfl rat_size) rfl ?_
    exact ⟨none, 0, 0, none, 0, 0, rfl, qt_none _ 0 0, HB.out⟩
  · have hL := ofR_yes hb hR
    clear hR
    obtain ⟨q, hq⟩ : ∃ q, mkRat x b = q := ⟨_, rfl⟩
    rw [hq] at hL
    obtain ⟨g, hg⟩ : ∃ g, gcdN x.natAbs b = g := ⟨_, rfl⟩
    have hg2 : Nat.gcd x.natAbs b = g := hg
    have hg0 : g ≠ 0 := by rw [← hg2]; exact Nat.pos_iff_ne_zero.1 (Nat.gcd_pos_of_pos_right _ (Nat.pos_of_ne_zero hb))
    have m3 := mk_den (x := x) hb
    rw [hq, hg2] at m3
    have HS : RowKit.Hid (zOf s (x.natAbs / g) = q.num) := by
      show _ = _
      rw [← hg2, ← hq]; exact zz_div HX.out.zo hb
    have HD : RowKit.Hid (b / g = q.den) := m3.symm
    have Hg := Lib.hid hg
    have HG : RowKit.Hid (gcdN x.natAbs b < 4294967296 ^ L') := Nat.lt_of_le_of_lt (Nat.gcd_le_right _ (Nat.pos_of_ne_zero hb)) (lt_pow HY.out)
    obtain ⟨z, hz⟩ : ∃ z : Int, ((blen b : Nat) : Int) = z := ⟨_, rfl⟩
    have hz0 : (z == 0) = false := by
      rw [beq_eq_false_iff_ne, ← hz]
      have := mt blen_eq_zero.1 hb
      omega
    have HB0 := Lib.hid hz
    have Hg0 := Lib.hid hg0
    clear hz hb hg hg2 hg0 m3 hq
    go_enter Tryz.func28, Tryz.ntmps28
    go_wp2_with fail
    generalize (w.alloc (.cells #[Value.bool s, Value.slice A n c] 25)).alloc (.cells #[Value.bool false, Value.slice none 0 0, Value.slice none 0 0] 27) = w1 at *
    have HR0 := Lib.hid r0
    have HZ := Lib.hid rz
    clear r0 rz
    refine (bits_c HY.out (by omega) z HB0.out).mono ?_
    rintro e w2 ⟨rfl, rfl⟩
    have c0 := HR0.out.c0
    have c1 := HR0.out.c1
    go_wp2_with fail
    clear c0 c1
    refine (quoGcd_c HX.out.nn HY.out (by omega) (by omega) L' HG.out).mono ?_
    rw [Hg.out]
    rintro e w2 ⟨A3, n3, c3, rfl, h3, bn⟩
    replace HX := Lib.hid (HX.out.below bn)
    replace HY := Lib.hid (HY.out.below bn)
    replace HR0 := Lib.hid (HR0.out.below bn)
    replace HZ := Lib.hid (HZ.out.below bn)
    replace HW := Lib.hid (below_two HW.out bn)
    clear bn
    have H3 := Lib.hid h3
    clear h3
    have c0 := HR0.out.c0
    have c1 := HR0.out.c1
    go_wp2_with fail
    clear c0 c1
    refine (quoRem_yes HX.out.nn H3.out (by omega) (by omega) Hg0.out).mono ?_
    rintro e w2 ⟨A4, n4, c4, A5, n5, c5, rfl, h4, h5, bn⟩
    replace HX := Lib.hid (HX.out.below bn)
    replace HY := Lib.hid (HY.out.below bn)
    replace HR0 := Lib.hid (HR0.out.below bn)
    replace HZ := Lib.hid (HZ.out.below bn)
    replace H3 := Lib.hid (H3.out.below bn)
    replace HW := Lib.hid (below_two HW.out bn)
    clear bn
    have H4 := Lib.hid h4
    clear h4 h5
    have c0 := HR0.out.c0
    have c1 := HR0.out.c1
    go_wp2_with fail
    clear c0 c1
    refine (quoRem_yes HY.out H3.out (by omega) (by omega) Hg0.out).mono ?_
    rintro e w2 ⟨A6, n6, c6, A7, n7, c7, rfl, h6, h7, bn⟩
    replace HX := Lib.hid (HX.out.below bn)
    replace HY := Lib.hid (HY.out.below bn)
    replace HR0 := Lib.hid (HR0.out.below bn)
    replace HZ := Lib.hid (HZ.out.below bn)
    replace H3 := Lib.hid (H3.out.below bn)
    replace H4 := Lib.hid (H4.out.below bn)
    replace HW := Lib.hid (below_two HW.out bn)
    clear bn
    have H6 : RowKit.Hid (NN w2 A6 n6 c6 (limbs q.den) q.den L') := by show NN _ _ _ _ _ _ _; rw [← HD.out]; exact h6
    clear h6 h7
    have c0 := HR0.out.c0
    have c1 := HR0.out.c1
    go_wp2_with fail
    clear c0 c1
    refine (wTrim_c (show ZZ _ s _ _ _ _ q.num L from by rw [← HS.out]; exact ZZ.of H4.out) (by omega)).mono ?_
    rintro e w2 ⟨A8, n8, c8, rfl, h8, bn⟩
    replace HX := Lib.hid (HX.out.below bn)
    replace HY := Lib.hid (HY.out.below bn)
    replace HR0 := Lib.hid (HR0.out.below bn)
    replace HZ := Lib.hid (HZ.out.below bn)
    replace H3 := Lib.hid (H3.out.below bn)
    replace H4 := Lib.hid (H4.out.below bn)
    replace H6 := Lib.hid (H6.out.below bn)
    replace HW := Lib.hid (below_two HW.out bn)
    clear bn
    have H8 := Lib.hid h8
    clear h8 HX HY H3 H4
    cases hf : fitsQ q with
    | true =>
      rw [limR_yes hf] at hL
      cases hL
      have HK : RowKit.Hid ((decide (n8 ≤ 64) && decide (n6 ≤ 64)) = true) := by show _ = _; rw [fits_len q H8.out.nn.isN.len H6.out.isN.len, hf]
      have Hf := Lib.hid hf
      clear hf
      have bx := below_new w2 (.cells #[Value.bool (sg q.num), Value.slice A8 n8 c8, Value.slice A6 n6 c6] 27)
      have HR8 := Lib.hid (row3_new w2 27 (.bool (sg q.num)) (.slice A8 n8 c8) (.slice A6 n6 c6))
      replace H8 := Lib.hid (H8.out.below bx)
      replace H6 := Lib.hid (H6.out.below bx)
      replace HZ := Lib.hid (HZ.out.below bx)
      replace HW := Lib.hid (below_two HW.out bx)
      clear bx HR0
      have e0 := HZ.out.c0
      have e1 := HZ.out.c1
      have e2 := HZ.out.c2
      have y0 := HR8.out.c0
      have y1 := HR8.out.c1
      have y2 := HR8.out.c2
      go_wp2_with fail
      clear y0 y1 y2 e0 e1 e2
      generalize w2.alloc (.cells #[Value.bool (sg q.num), Value.slice A8 n8 c8, Value.slice A6 n6 c6] 27) = w3 at *
      obtain ⟨q8, eg⟩ : ∃ g, g = w2.heap.size := ⟨_, rfl⟩
      rw [← eg] at HR8 ⊢
      clear eg
      refine (rFits_c (sg q.num) A8 A6 n8 c8 n6 c6 _ true HK.out).mono ?_
      rintro e w4 ⟨rfl, bn⟩
      replace H8 := Lib.hid (H8.out.below bn)
      replace H6 := Lib.hid (H6.out.below bn)
      replace HZ := Lib.hid (HZ.out.below bn)
      replace HR8 := Lib.hid (HR8.out.below bn)
      replace HW := Lib.hid (below_two HW.out bn)
      clear bn
      have y0 := HR8.out.c0
      have y1 := HR8.out.c1
      have y2 := HR8.out.c2
      have e0 := HZ.out.c0
      have e1 := HZ.out.c1
      have e2 := HZ.out.c2
      have f0 := HZ.out.free 0
      have f1 := HZ.out.free 1
      have f2 := HZ.out.free 2
      have hNo := HZ.out.noLimb (by intro v e; cases e) (by intro v e; cases e) (by intro v e; cases e)
      have HF := Lib.hid (HZ.out.fill (.bool (sg q.num)) (.slice A8 n8 c8) (.slice A6 n6 c6))
      have HP := Lib.hid ((qt_some H8.out H6.out Hf.out).fillR3 hNo (.bool (sg q.num)) (.slice A8 n8 c8) (.slice A6 n6 c6))
      have HB := Lib.hid (below_fill3' HW.out Hq.out (.bool (sg q.num)) (.slice A8 n8 c8) (.slice A6 n6 c6))
      clear hNo
      go_wp2
      refine bodyPost_ret (results_mixed rfl _ _ _ 27 #[.bool (sg q.num), .slice A8 n8 c8, .slice A6 n6 c6] (0, 0) _ (.int .i64 0) rfl rfl HF.out Tryz.underlying27 rfl rat_size) rfl ?_
      exact ⟨A8, n8, c8, A6, n6, c6, rfl, HP.out, HB.out⟩
    | false =>
      rw [limR_no hf] at hL
      cases hL
      have HK : RowKit.Hid ((decide (n8 ≤ 64) && decide (n6 ≤ 64)) = false) := by show _ = _; rw [fits_len q H8.out.nn.isN.len H6.out.isN.len, hf]
      have Hf := Lib.hid hf
      clear hf
      have bx := below_new w2 (.cells #[Value.bool (sg q.num), Value.slice A8 n8 c8, Value.slice A6 n6 c6] 27)
      have HR8 := Lib.hid (row3_new w2 27 (.bool (sg q.num)) (.slice A8 n8 c8) (.slice A6 n6 c6))
      replace H8 := Lib.hid (H8.out.below bx)
      replace H6 := Lib.hid (H6.out.below bx)
      replace HZ := Lib.hid (HZ.out.below bx)
      replace HW := Lib.hid (below_two HW.out bx)
      clear bx HR0
      have e0 := HZ.out.c0
      have e1 := HZ.out.c1
      have e2 := HZ.out.c2
      have y0 := HR8.out.c0
      have y1 := HR8.out.c1
      have y2 := HR8.out.c2
      go_wp2_with fail
      clear y0 y1 y2 e0 e1 e2
      generalize w2.alloc (.cells #[Value.bool (sg q.num), Value.slice A8 n8 c8, Value.slice A6 n6 c6] 27) = w3 at *
      obtain ⟨q8, eg⟩ : ∃ g, g = w2.heap.size := ⟨_, rfl⟩
      rw [← eg] at HR8 ⊢
      clear eg
      refine (rFits_c (sg q.num) A8 A6 n8 c8 n6 c6 _ false HK.out).mono ?_
      rintro e w4 ⟨rfl, bn⟩
      replace H8 := Lib.hid (H8.out.below bn)
      replace H6 := Lib.hid (H6.out.below bn)
      replace HZ := Lib.hid (HZ.out.below bn)
      replace HR8 := Lib.hid (HR8.out.below bn)
      replace HW := Lib.hid (below_two HW.out bn)
      clear bn
      have e0 := HZ.out.c0
      have e1 := HZ.out.c1
      have e2 := HZ.out.c2
      have f0 := HZ.out.free 0
      have f1 := HZ.out.free 1
      have f2 := HZ.out.free 2
      have HF := Lib.hid (HZ.out.fill (.bool false) (.slice none 0 0) (.slice none 0 0))
      have HB := Lib.hid (below_fill3' HW.out Hq.out (.bool false) (.slice none 0 0) (.slice none 0 0))
      go_wp2
      refine bodyPost_ret (results_mixed rfl _ _ _ 27 #[.bool false, .slice none 0 0, .slice none 0 0] (0, 0) _ (.int .i64 2) rfl rfl HF.out Tryz.underlying27 rfl rat_size) rfl ?_
      exact ⟨none, 0, 0, none, 0, 0, rfl, qt_none _ 0 0, HB.out⟩

end
end Go.Proofs.YtohciicocaoagaaGreat
