/- Part 5 of the texts that the statements of this seat lean on: mathematics, and what functions answer, as contracts over memory; each part says its own conditions. -/
import Derived.Test.YtohciicocaoagaaGreatM4
/- What the reference of layer 7 answers (Limit, Whole), as contracts over memory. Conditions: sizes of at most so many limbs. -/
namespace Go.Proofs.YtohciicocaoagaaGreat
open Go.RowKit Limb
set_option linter.unusedVariables false
theorem got7_size : (Tryz.prog.info? 35).map (·.size) = some 4 := by kernel_rfl

section
variable {w : World} {s s' : Bool} {A B A' B' : Option Addr} {n c m d n' c' m' d' : Nat} {xs ys xs' ys' : List Nat} {x y : Int} {a b L L' : Nat}
set_option maxHeartbeats 4000000 in
set_option maxRecDepth 100000 in
theorem refLimit_c {q : Rat} (hz : ZZ w (sg q.num) A n c (limbs q.num.natAbs) q.num L) (hn : NN w B m d (limbs q.den) q.den L') :
    Calls Tryz.prog 37 #[.agg #[.bool (sg q.num), .slice A n c, .slice B m d]] w fun e w' => ∃ A2 n2 c2 B2 m2 d2, e = .returned (.agg #[.bool (sg (oTop (limQ q))), .slice A2 n2 c2, .slice B2 m2 d2, .int .i64 (limE q)]) ∧ QT w' A2 n2 c2 B2 m2 d2 (limQ q) ∧ Below w.heap.size w w' := by
  have hf1 := hz.nn.isN.len
  have hf2 := hn.isN.len
  have HX := Lib.hid hz
  have HY := Lib.hid hn
  clear hz hn
  by_cases h5 : 64 < n
  · have hf : RowKit.Hid (fitsQ q = false) := by
      show _ = _
      rw [Bool.eq_false_iff]
      intro h
      simp only [fitsQ, Bool.and_eq_true, decide_eq_true_eq] at h
      have := length_limbs_le h.1
      omega
    have n5 : decide ((64 : Int) < (n : Int)) = true := by rw [decide_eq_true_eq]; omega
    clear h5
    clear hf1 hf2
    go_enter Tryz.func37, Tryz.ntmps37
    go_wp2
    refine bodyPost_ret (results_cell_row rfl _ _ (w.heap.size + 1) 35 #[.bool false, .slice none 0 0, .slice none 0 0, .int .i64 2] (0, 0) _ rfl (heap_alloc2_new _ _ _) Tryz.underlying35 rfl got7_size) rfl ?_
    exact ⟨none, 0, 0, none, 0, 0, by rw [limQ_no hf.out, limE_no hf.out]; rfl, by rw [limQ_no hf.out]; exact qt_none _ 0 0, below_two (below_new _ _) (below_new _ _)⟩
  · by_cases h6 : 64 < m
    · have hf : RowKit.Hid (fitsQ q = false) := by
        show _ = _
        rw [Bool.eq_false_iff]
        intro h
        simp only [fitsQ, Bool.and_eq_true, decide_eq_true_eq] at h
        have := length_limbs_le h.2
        omega
      have n5 : decide ((64 : Int) < (n : Int)) = false := by rw [decide_eq_false_iff_not]; omega
      have n6 : decide ((64 : Int) < (m : Int)) = true := by rw [decide_eq_true_eq]; omega
      clear h5 h6
      clear hf1 hf2
      go_enter Tryz.func37, Tryz.ntmps37
      go_wp2
      refine bodyPost_ret (results_cell_row rfl _ _ (w.heap.size + 1) 35 #[.bool false, .slice none 0 0, .slice none 0 0, .int .i64 2] (0, 0) _ rfl (heap_alloc2_new _ _ _) Tryz.underlying35 rfl got7_size) rfl ?_
      exact ⟨none, 0, 0, none, 0, 0, by rw [limQ_no hf.out, limE_no hf.out]; rfl, by rw [limQ_no hf.out]; exact qt_none _ 0 0, below_two (below_new _ _) (below_new _ _)⟩
    · have hf : RowKit.Hid (fitsQ q = true) := by
        show _ = _
        simp only [fitsQ, Bool.and_eq_true, decide_eq_true_eq]
        refine ⟨?_, ?_⟩
        · rcases Nat.lt_or_ge q.num.natAbs (4294967296 ^ 64) with h | h
          · exact h
          · have := lt_length_limbs h; omega
        · rcases Nat.lt_or_ge q.den (4294967296 ^ 64) with h | h
          · exact h
          · have := lt_length_limbs h; omega
      have n5 : decide ((64 : Int) < (n : Int)) = false := by rw [decide_eq_false_iff_not]; omega
      have n6 : decide ((64 : Int) < (m : Int)) = false := by rw [decide_eq_false_iff_not]; omega
      clear h5 h6 hf1 hf2
      go_enter Tryz.func37, Tryz.ntmps37
      go_wp2
      refine bodyPost_ret (results_cell_row rfl _ _ (w.heap.size + 1) 35 #[.bool (sg q.num), .slice A n c, .slice B m d, .int .i64 0] (0, 0) _ rfl (heap_alloc2_new _ _ _) Tryz.underlying35 rfl got7_size) rfl ?_
      exact ⟨A, n, c, B, m, d, by rw [limQ_yes hf.out, limE_yes hf.out]; rfl, by rw [limQ_yes hf.out]; exact qt_some (HX.out.below (below_two (below_new _ _) (below_new _ _))) (HY.out.below (below_two (below_new _ _) (below_new _ _))) hf.out, below_two (below_new _ _) (below_new _ _)⟩

end
set_option maxHeartbeats 4000000 in
set_option maxRecDepth 100000 in
theorem refQWhole_c (v : Int) (h0 : -9223372036854775808 ≤ v) (h1 : v ≤ 9223372036854775807) (w : World) :
    Calls Tryz.prog 27 #[.int .i64 v] w fun e w' => ∃ A2 n2 c2 B2 m2 d2, e = .returned (.agg #[.bool (sg (oTop (some (v : Rat)))), .slice A2 n2 c2, .slice B2 m2 d2]) ∧ QT w' A2 n2 c2 B2 m2 d2 (some (v : Rat)) ∧ Below w.heap.size w w' := by
  have HW := Lib.hid (below_new w (.cells #[Value.bool false, Value.slice none 0 0, Value.slice none 0 0] 27))
  have HZ := Lib.hid (row3_new w 27 (.bool false) (.slice none 0 0) (.slice none 0 0))
  go_enter Tryz.func27, Tryz.ntmps27
  go_wp2_with fail
  refine (refIOf_c v h0 h1 _).mono ?_
  rintro e w2 ⟨A2, n2, c2, rfl, h2, bn⟩
  have bl := below_new w2 (.cells #[Value.int IntKind.u32 1] 43)
  have HL : RowKit.Hid (NN (w2.alloc (.cells #[Value.int IntKind.u32 1] 43)) (some ⟨w2.heap.size, 0, none⟩) 1 1 (limbs 1) 1 1) := by
    show NN _ _ _ _ _ _ _
    have h := lit_c w2 [1] (by intro x hx; simp at hx; omega) 1 rfl
    have e1 : limbs 1 = [1] := by simp [limbs, limbsTo]
    rw [e1]; exact h
  have hZ3 := (HZ.out.below bn).below bl
  have hNo := hZ3.noLimb (by intro v e; cases e) (by intro v e; cases e) (by intro v e; cases e)
  have H2 := Lib.hid (h2.below bl)
  have e0 := hZ3.c0
  have e1 := hZ3.c1
  have e2 := hZ3.c2
  have f0 := hZ3.free 0
  have f1 := hZ3.free 1
  have f2 := hZ3.free 2
  have HF := Lib.hid (hZ3.fill (.bool (sg v)) (.slice A2 n2 c2) (.slice (some ⟨w2.heap.size, 0, none⟩) 1 1))
  have HP1 := Lib.hid (H2.out.fillR3 hNo (.bool (sg v)) (.slice A2 n2 c2) (.slice (some ⟨w2.heap.size, 0, none⟩) 1 1))
  have HP2 := Lib.hid (HL.out.fillR3 hNo (.bool (sg v)) (.slice A2 n2 c2) (.slice (some ⟨w2.heap.size, 0, none⟩) 1 1))
  have HB := Lib.hid (below_fill3' (below_two (below_two HW.out bn) bl) (Nat.le_refl _) (.bool (sg v)) (.slice A2 n2 c2) (.slice (some ⟨w2.heap.size, 0, none⟩) 1 1))
  clear h2 bn bl hZ3 hNo H2 HL
  go_wp2
  refine bodyPost_ret (results_cell_row rfl _ _ w.heap.size 27 #[.bool (sg v), .slice A2 n2 c2, .slice (some ⟨w2.heap.size, 0, none⟩) 1 1] (0, 0) _ rfl HF.out Tryz.underlying27 rfl rat_size) rfl ?_
  exact ⟨A2, n2, c2, _, 1, 1, rfl, qt_some (q := (v : Rat)) HP1.out HP2.out (whole_fits h0 h1), HB.out⟩

end Go.Proofs.YtohciicocaoagaaGreat

/- What the reference of layer 7 answers (Good), as a contract over memory. Conditions: sizes of at most so many limbs. -/
namespace Go.Proofs.YtohciicocaoagaaGreat
open Go.RowKit Limb
set_option linter.unusedVariables false
section
variable {w : World} {s s' : Bool} {A B A' B' : Option Addr} {n c m d n' c' m' d' : Nat} {xs ys xs' ys' : List Nat} {x y : Int} {a b L L' : Nat}
set_option maxHeartbeats 40000000 in
set_option maxRecDepth 100000 in
theorem refGood_c {o : Option Rat} (hx : QQ w s A n c xs B m d ys o L) (h1 : L ≤ 9223372036854775807) (v : Bool) (hv : o.isSome = v) :
    Calls Tryz.prog 17 #[.agg #[.bool s, .slice A n c, .slice B m d]] w fun e w' => e = .returned (.bool v) ∧ Below w.heap.size w w' := by
  have hg := hx.good
  rw [hv] at hg
  have hlx := hx.bot.isN.len
  have hlt := hx.top.nn.isN.len
  have hsx := hx.top.nn.isN.small
  have hsy := hx.bot.isN.small
  have b0 := below_new w (.cells #[Value.bool s, Value.slice A n c, Value.slice B m d] 27)
  have HW := Lib.hid b0
  have HX : RowKit.Hid (NN (w.alloc (.cells #[Value.bool s, Value.slice A n c, Value.slice B m d] 27)) A n c xs (Limb.val xs) L) := by
    have h := hx.top.nn.below b0
    rw [zOf_abs] at h
    exact h
  have HY := Lib.hid (hx.bot.below b0)
  have r0 := row3_new w 27 (.bool s) (.slice A n c) (.slice B m d)
  have c0 := r0.c0
  have c1 := r0.c1
  have c2 := r0.c2
  clear b0 r0 hx hv
  by_cases k1 : xs = limbs (Limb.val xs)
  · by_cases k2 : ys = limbs (Limb.val ys)
    · by_cases k3 : m = 0
      · have hgf : goodV s xs ys = false := by
          rw [Bool.eq_false_iff]
          intro h
          obtain ⟨g1, g2, g3, g4, g5, g6, g7⟩ := goodV_iff.1 h
          exact g3 (by rw [List.eq_nil_of_length_eq_zero (hlx.trans k3)]; rfl)
        obtain rfl : v = false := hg.symm.trans hgf
        clear hg hgf hlx hlt hsx hsy
        have m0 : ((m : Int) == 0) = true := by rw [beq_iff_eq]; omega
        have K1 : RowKit.Hid (decide (xs = limbs (Limb.val xs)) = true) := by show _ = _; simpa using k1
        have K2 : RowKit.Hid (decide (ys = limbs (Limb.val ys)) = true) := by show _ = _; simpa using k2
        clear k1 k2 k3
        go_enter Tryz.func17, Tryz.ntmps17
        go_wp2_with fail
        refine (refTrimmed_c HX.out (by omega) true K1.out).mono ?_
        rintro e w2 ⟨rfl, rfl⟩
        go_wp2_with fail
        refine (refTrimmed_c HY.out (by omega) true K2.out).mono ?_
        rintro e w2 ⟨rfl, rfl⟩
        go_wp2
        go_ret
        exact ⟨rfl, HW.out⟩
      · by_cases k4 : s = true ∧ n = 0
        · obtain ⟨k4s, k4n⟩ := k4
          have hgf : goodV s xs ys = false := by
            rw [Bool.eq_false_iff]
            intro h
            obtain ⟨g1, g2, g3, g4, g5, g6, g7⟩ := goodV_iff.1 h
            exact g4 ⟨k4s, by rw [List.eq_nil_of_length_eq_zero (hlt.trans k4n)]; rfl⟩
          obtain rfl : v = false := hg.symm.trans hgf
          clear hg hgf hlx hlt hsx hsy
          have m0 : ((m : Int) == 0) = false := by rw [beq_eq_false_iff_ne]; omega
          have n0 : ((n : Int) == 0) = true := by rw [beq_iff_eq]; omega
          subst k4s
          have K1 : RowKit.Hid (decide (xs = limbs (Limb.val xs)) = true) := by show _ = _; simpa using k1
          have K2 : RowKit.Hid (decide (ys = limbs (Limb.val ys)) = true) := by show _ = _; simpa using k2
          clear k1 k2 k3 k4n
          go_enter Tryz.func17, Tryz.ntmps17
          go_wp2_with fail
          refine (refTrimmed_c HX.out (by omega) true K1.out).mono ?_
          rintro e w2 ⟨rfl, rfl⟩
          go_wp2_with fail
          refine (refTrimmed_c HY.out (by omega) true K2.out).mono ?_
          rintro e w2 ⟨rfl, rfl⟩
          go_wp2
          go_ret
          exact ⟨rfl, HW.out⟩
        · by_cases k5 : 64 < n
          · have hgf : goodV s xs ys = false := by
              rw [Bool.eq_false_iff]
              intro h
              obtain ⟨g1, g2, g3, g4, g5, g6, g7⟩ := goodV_iff.1 h
              omega
            obtain rfl : v = false := hg.symm.trans hgf
            clear hg hgf hlx hlt hsx hsy
            have m0 : ((m : Int) == 0) = false := by rw [beq_eq_false_iff_ne]; omega
            by_cases ks : s = true
            · have n0 : ((n : Int) == 0) = false := by
                rw [beq_eq_false_iff_ne]
                have hn0 : n ≠ 0 := fun h => k4 ⟨ks, h⟩
                omega
              subst ks
              have n5 : decide ((64 : Int) < (n : Int)) = true := by rw [decide_eq_true_eq]; omega
              have K1 : RowKit.Hid (decide (xs = limbs (Limb.val xs)) = true) := by show _ = _; simpa using k1
              have K2 : RowKit.Hid (decide (ys = limbs (Limb.val ys)) = true) := by show _ = _; simpa using k2
              clear k1 k2 k3 k4 k5
              go_enter Tryz.func17, Tryz.ntmps17
              go_wp2_with fail
              refine (refTrimmed_c HX.out (by omega) true K1.out).mono ?_
              rintro e w2 ⟨rfl, rfl⟩
              go_wp2_with fail
              refine (refTrimmed_c HY.out (by omega) true K2.out).mono ?_
              rintro e w2 ⟨rfl, rfl⟩
              go_wp2
              go_ret
              exact ⟨rfl, HW.out⟩
            · have ks2 : s = false := by simpa using ks
              subst ks2
              have n5 : decide ((64 : Int) < (n : Int)) = true := by rw [decide_eq_true_eq]; omega
              have K1 : RowKit.Hid (decide (xs = limbs (Limb.val xs)) = true) := by show _ = _; simpa using k1
              have K2 : RowKit.Hid (decide (ys = limbs (Limb.val ys)) = true) := by show _ = _; simpa using k2
              clear k1 k2 k3 k4 k5
              go_enter Tryz.func17, Tryz.ntmps17
              go_wp2_with fail
              refine (refTrimmed_c HX.out (by omega) true K1.out).mono ?_
              rintro e w2 ⟨rfl, rfl⟩
              go_wp2_with fail
              refine (refTrimmed_c HY.out (by omega) true K2.out).mono ?_
              rintro e w2 ⟨rfl, rfl⟩
              go_wp2
              go_ret
              exact ⟨rfl, HW.out⟩
          · by_cases k6 : 64 < m
            · have hgf : goodV s xs ys = false := by
                rw [Bool.eq_false_iff]
                intro h
                obtain ⟨g1, g2, g3, g4, g5, g6, g7⟩ := goodV_iff.1 h
                omega
              obtain rfl : v = false := hg.symm.trans hgf
              clear hg hgf hlx hlt hsx hsy
              have m0 : ((m : Int) == 0) = false := by rw [beq_eq_false_iff_ne]; omega
              by_cases ks : s = true
              · have n0 : ((n : Int) == 0) = false := by
                  rw [beq_eq_false_iff_ne]
                  have hn0 : n ≠ 0 := fun h => k4 ⟨ks, h⟩
                  omega
                subst ks
                have n5 : decide ((64 : Int) < (n : Int)) = false := by rw [decide_eq_false_iff_not]; omega
                have n6 : decide ((64 : Int) < (m : Int)) = true := by rw [decide_eq_true_eq]; omega
                have K1 : RowKit.Hid (decide (xs = limbs (Limb.val xs)) = true) := by show _ = _; simpa using k1
                have K2 : RowKit.Hid (decide (ys = limbs (Limb.val ys)) = true) := by show _ = _; simpa using k2
                clear k1 k2 k3 k4 k5 k6
                go_enter Tryz.func17, Tryz.ntmps17
                go_wp2_with fail
                refine (refTrimmed_c HX.out (by omega) true K1.out).mono ?_
                rintro e w2 ⟨rfl, rfl⟩
                go_wp2_with fail
                refine (refTrimmed_c HY.out (by omega) true K2.out).mono ?_
                rintro e w2 ⟨rfl, rfl⟩
                go_wp2
                go_ret
                exact ⟨rfl, HW.out⟩
              · have ks2 : s = false := by simpa using ks
                subst ks2
                have n5 : decide ((64 : Int) < (n : Int)) = false := by rw [decide_eq_false_iff_not]; omega
                have n6 : decide ((64 : Int) < (m : Int)) = true := by rw [decide_eq_true_eq]; omega
                have K1 : RowKit.Hid (decide (xs = limbs (Limb.val xs)) = true) := by show _ = _; simpa using k1
                have K2 : RowKit.Hid (decide (ys = limbs (Limb.val ys)) = true) := by show _ = _; simpa using k2
                clear k1 k2 k3 k4 k5 k6
                go_enter Tryz.func17, Tryz.ntmps17
                go_wp2_with fail
                refine (refTrimmed_c HX.out (by omega) true K1.out).mono ?_
                rintro e w2 ⟨rfl, rfl⟩
                go_wp2_with fail
                refine (refTrimmed_c HY.out (by omega) true K2.out).mono ?_
                rintro e w2 ⟨rfl, rfl⟩
                go_wp2
                go_ret
                exact ⟨rfl, HW.out⟩
            · by_cases hgcd : Nat.gcd (Limb.val xs) (Limb.val ys) = 1
              · have hgt : goodV s xs ys = true := by
                  rw [goodV_iff]
                  refine ⟨k1, k2, ?_, ?_, by omega, by omega, hgcd⟩
                  · intro h; rw [h, limbs_zero] at k2; rw [k2] at hlx; simp at hlx; omega
                  · rintro ⟨h1, h2⟩
                    rw [h2, limbs_zero] at k1; rw [k1] at hlt; simp at hlt
                    exact k4 ⟨h1, by omega⟩
                obtain rfl : v = true := hg.symm.trans hgt
                clear hg hgt
                have m0 : ((m : Int) == 0) = false := by rw [beq_eq_false_iff_ne]; omega
                by_cases ks : s = true
                · have n0 : ((n : Int) == 0) = false := by
                    rw [beq_eq_false_iff_ne]
                    have hn0 : n ≠ 0 := fun h => k4 ⟨ks, h⟩
                    omega
                  subst ks
                  have n5 : decide ((64 : Int) < (n : Int)) = false := by rw [decide_eq_false_iff_not]; omega
                  have n6 : decide ((64 : Int) < (m : Int)) = false := by rw [decide_eq_false_iff_not]; omega
                  have HGC := Lib.hid hgcd
                  have HN : RowKit.Hid (n ≤ 64 ∧ m ≤ 64) := ⟨by omega, by omega⟩
                  have K1 : RowKit.Hid (decide (xs = limbs (Limb.val xs)) = true) := by show _ = _; simpa using k1
                  have K2 : RowKit.Hid (decide (ys = limbs (Limb.val ys)) = true) := by show _ = _; simpa using k2
                  clear k1 k2 k3 k4 k5 k6 hgcd
                  go_enter Tryz.func17, Tryz.ntmps17
                  go_wp2_with fail
                  refine (refTrimmed_c HX.out (by omega) true K1.out).mono ?_
                  rintro e w2 ⟨rfl, rfl⟩
                  go_wp2_with fail
                  refine (refTrimmed_c HY.out (by omega) true K2.out).mono ?_
                  rintro e w2 ⟨rfl, rfl⟩
                  go_wp2_with fail
                  refine (refGcd_c (HX.out.short HN.out.1) (HY.out.short HN.out.2) (by decide) (by decide)).mono ?_
                  rintro e w3 ⟨A3, n3, c3, rfl, h3, bn⟩
                  replace HW := Lib.hid (below_two HW.out bn)
                  clear bn c0 c1 c2
                  have hgcd := HGC.out
                  have e1 : gcdN (Limb.val xs) (Limb.val ys) = 1 := hgcd
                  rw [e1] at h3
                  have el : limbs 1 = [1] := by simp [limbs, limbsTo]
                  rw [el] at h3
                  have hn3 := h3.isN.len
                  obtain ⟨g, o, eA, _, hc⟩ := h3.isN.2.2 (by rw [← hn3]; decide)
                  have hc0 := hc 0 (by rw [← hn3]; decide)
                  have n1 : n3 = 1 := by rw [← hn3]; rfl
                  subst n1
                  subst eA
                  have hcc : w3.cell? ⟨g, o, none⟩ = some (.int .u32 1) := hc0
                  clear h3 hn3 hc hc0 e1 el hgcd
                  go_wp2
                  go_ret
                  exact ⟨rfl, HW.out⟩
                · have ks2 : s = false := by simpa using ks
                  subst ks2
                  have n5 : decide ((64 : Int) < (n : Int)) = false := by rw [decide_eq_false_iff_not]; omega
                  have n6 : decide ((64 : Int) < (m : Int)) = false := by rw [decide_eq_false_iff_not]; omega
                  have HGC := Lib.hid hgcd
                  have HN : RowKit.Hid (n ≤ 64 ∧ m ≤ 64) := ⟨by omega, by omega⟩
                  have K1 : RowKit.Hid (decide (xs = limbs (Limb.val xs)) = true) := by show _ = _; simpa using k1
                  have K2 : RowKit.Hid (decide (ys = limbs (Limb.val ys)) = true) := by show _ = _; simpa using k2
                  clear k1 k2 k3 k4 k5 k6 hgcd
                  go_enter Tryz.func17, Tryz.ntmps17
                  go_wp2_with fail
                  refine (refTrimmed_c HX.out (by omega) true K1.out).mono ?_
                  rintro e w2 ⟨rfl, rfl⟩
                  go_wp2_with fail
                  refine (refTrimmed_c HY.out (by omega) true K2.out).mono ?_
                  rintro e w2 ⟨rfl, rfl⟩
                  go_wp2_with fail
                  refine (refGcd_c (HX.out.short HN.out.1) (HY.out.short HN.out.2) (by decide) (by decide)).mono ?_
                  rintro e w3 ⟨A3, n3, c3, rfl, h3, bn⟩
                  replace HW := Lib.hid (below_two HW.out bn)
                  clear bn c0 c1 c2
                  have hgcd := HGC.out
                  have e1 : gcdN (Limb.val xs) (Limb.val ys) = 1 := hgcd
                  rw [e1] at h3
                  have el : limbs 1 = [1] := by simp [limbs, limbsTo]
                  rw [el] at h3
                  have hn3 := h3.isN.len
                  obtain ⟨g, o, eA, _, hc⟩ := h3.isN.2.2 (by rw [← hn3]; decide)
                  have hc0 := hc 0 (by rw [← hn3]; decide)
                  have n1 : n3 = 1 := by rw [← hn3]; rfl
                  subst n1
                  subst eA
                  have hcc : w3.cell? ⟨g, o, none⟩ = some (.int .u32 1) := hc0
                  clear h3 hn3 hc hc0 e1 el hgcd
                  go_wp2
                  go_ret
                  exact ⟨rfl, HW.out⟩
              · have hgf : goodV s xs ys = false := by
                  rw [Bool.eq_false_iff]
                  intro h
                  obtain ⟨g1, g2, g3, g4, g5, g6, g7⟩ := goodV_iff.1 h
                  exact hgcd g7
                obtain rfl : v = false := hg.symm.trans hgf
                clear hg hgf hlx hlt hsx hsy
                have m0 : ((m : Int) == 0) = false := by rw [beq_eq_false_iff_ne]; omega
                by_cases ks : s = true
                · have n0 : ((n : Int) == 0) = false := by
                    rw [beq_eq_false_iff_ne]
                    have hn0 : n ≠ 0 := fun h => k4 ⟨ks, h⟩
                    omega
                  subst ks
                  have n5 : decide ((64 : Int) < (n : Int)) = false := by rw [decide_eq_false_iff_not]; omega
                  have n6 : decide ((64 : Int) < (m : Int)) = false := by rw [decide_eq_false_iff_not]; omega
                  have HGC := Lib.hid hgcd
                  have HN : RowKit.Hid (n ≤ 64 ∧ m ≤ 64) := ⟨by omega, by omega⟩
                  have K1 : RowKit.Hid (decide (xs = limbs (Limb.val xs)) = true) := by show _ = _; simpa using k1
                  have K2 : RowKit.Hid (decide (ys = limbs (Limb.val ys)) = true) := by show _ = _; simpa using k2
                  clear k1 k2 k3 k4 k5 k6 hgcd
                  go_enter Tryz.func17, Tryz.ntmps17
                  go_wp2_with fail
                  refine (refTrimmed_c HX.out (by omega) true K1.out).mono ?_
                  rintro e w2 ⟨rfl, rfl⟩
                  go_wp2_with fail
                  refine (refTrimmed_c HY.out (by omega) true K2.out).mono ?_
                  rintro e w2 ⟨rfl, rfl⟩
                  go_wp2_with fail
                  refine (refGcd_c (HX.out.short HN.out.1) (HY.out.short HN.out.2) (by decide) (by decide)).mono ?_
                  rintro e w3 ⟨A3, n3, c3, rfl, h3, bn⟩
                  replace HW := Lib.hid (below_two HW.out bn)
                  clear bn c0 c1 c2
                  have hgcd := HGC.out
                  have hn3 := h3.isN.len
                  have hG : gcdN (Limb.val xs) (Limb.val ys) ≠ 1 := hgcd
                  by_cases h31 : n3 = 1
                  · subst h31
                    obtain ⟨g, o, eA, _, hc⟩ := h3.isN.2.2 (by decide)
                    have hc0 := hc 0 (by decide)
                    obtain ⟨u, hu⟩ : ∃ u, lim (limbs (gcdN (Limb.val xs) (Limb.val ys))) 0 = u := ⟨_, rfl⟩
                    have hu1 : u ≠ 1 := by
                      intro e
                      apply hG
                      have hv := h3.val
                      obtain ⟨y, hy⟩ : ∃ y, limbs (gcdN (Limb.val xs) (Limb.val ys)) = [y] := List.length_eq_one_iff.1 hn3
                      rw [hy] at hu hv
                      have hu2 : y = u := hu
                      rw [← hv, hu2, e]; rfl
                    rw [hu] at hc0
                    subst eA
                    have hcc : w3.cell? ⟨g, o, none⟩ = some (.int .u32 (u : Int)) := hc0
                    have hu0 : ((u : Int) == 1) = false := by rw [beq_eq_false_iff_ne]; omega
                    clear h3 hn3 hc hc0 hG hgcd hu hu1
                    go_wp2
                    go_ret
                    exact ⟨rfl, HW.out⟩
                  · have n31 : ((n3 : Int) == 1) = false := by rw [beq_eq_false_iff_ne]; omega
                    clear h3 hn3 hG hgcd h31
                    go_wp2
                    go_ret
                    exact ⟨rfl, HW.out⟩
                · have ks2 : s = false := by simpa using ks
                  subst ks2
                  have n5 : decide ((64 : Int) < (n : Int)) = false := by rw [decide_eq_false_iff_not]; omega
                  have n6 : decide ((64 : Int) < (m : Int)) = false := by rw [decide_eq_false_iff_not]; omega
                  have HGC := Lib.hid hgcd
                  have HN : RowKit.Hid (n ≤ 64 ∧ m ≤ 64) := ⟨by omega, by omega⟩
                  have K1 : RowKit.Hid (decide (xs = limbs (Limb.val xs)) = true) := by show _ = _; simpa using k1
                  have K2 : RowKit.Hid (decide (ys = limbs (Limb.val ys)) = true) := by show _ = _; simpa using k2
                  clear k1 k2 k3 k4 k5 k6 hgcd
                  go_enter Tryz.func17, Tryz.ntmps17
                  go_wp2_with fail
                  refine (refTrimmed_c HX.out (by omega) true K1.out).mono ?_
                  rintro e w2 ⟨rfl, rfl⟩
                  go_wp2_with fail
                  refine (refTrimmed_c HY.out (by omega) true K2.out).mono ?_
                  rintro e w2 ⟨rfl, rfl⟩
                  go_wp2_with fail
                  refine (refGcd_c (HX.out.short HN.out.1) (HY.out.short HN.out.2) (by decide) (by decide)).mono ?_
                  rintro e w3 ⟨A3, n3, c3, rfl, h3, bn⟩
                  replace HW := Lib.hid (below_two HW.out bn)
                  clear bn c0 c1 c2
                  have hgcd := HGC.out
                  have hn3 := h3.isN.len
                  have hG : gcdN (Limb.val xs) (Limb.val ys) ≠ 1 := hgcd
                  by_cases h31 : n3 = 1
                  · subst h31
                    obtain ⟨g, o, eA, _, hc⟩ := h3.isN.2.2 (by decide)
                    have hc0 := hc 0 (by decide)
                    obtain ⟨u, hu⟩ : ∃ u, lim (limbs (gcdN (Limb.val xs) (Limb.val ys))) 0 = u := ⟨_, rfl⟩
                    have hu1 : u ≠ 1 := by
                      intro e
                      apply hG
                      have hv := h3.val
                      obtain ⟨y, hy⟩ : ∃ y, limbs (gcdN (Limb.val xs) (Limb.val ys)) = [y] := List.length_eq_one_iff.1 hn3
                      rw [hy] at hu hv
                      have hu2 : y = u := hu
                      rw [← hv, hu2, e]; rfl
                    rw [hu] at hc0
                    subst eA
                    have hcc : w3.cell? ⟨g, o, none⟩ = some (.int .u32 (u : Int)) := hc0
                    have hu0 : ((u : Int) == 1) = false := by rw [beq_eq_false_iff_ne]; omega
                    clear h3 hn3 hc hc0 hG hgcd hu hu1
                    go_wp2
                    go_ret
                    exact ⟨rfl, HW.out⟩
                  · have n31 : ((n3 : Int) == 1) = false := by rw [beq_eq_false_iff_ne]; omega
                    clear h3 hn3 hG hgcd h31
                    go_wp2
                    go_ret
                    exact ⟨rfl, HW.out⟩
    · have hgf : goodV s xs ys = false := by
        rw [Bool.eq_false_iff]
        intro h
        obtain ⟨g1, g2, g3, g4, g5, g6, g7⟩ := goodV_iff.1 h
        exact k2 g2
      obtain rfl : v = false := hg.symm.trans hgf
      clear hg hgf hlx hlt hsx hsy
      have K1 : RowKit.Hid (decide (xs = limbs (Limb.val xs)) = true) := by show _ = _; simpa using k1
      have K2 : RowKit.Hid (decide (ys = limbs (Limb.val ys)) = false) := by show _ = _; simpa using k2
      clear k1 k2
      go_enter Tryz.func17, Tryz.ntmps17
      go_wp2_with fail
      refine (refTrimmed_c HX.out (by omega) true K1.out).mono ?_
      rintro e w2 ⟨rfl, rfl⟩
      go_wp2_with fail
      refine (refTrimmed_c HY.out (by omega) false K2.out).mono ?_
      rintro e w2 ⟨rfl, rfl⟩
      go_wp2
      go_ret
      exact ⟨rfl, HW.out⟩
  · have hgf : goodV s xs ys = false := by
      rw [Bool.eq_false_iff]
      intro h
      obtain ⟨g1, g2, g3, g4, g5, g6, g7⟩ := goodV_iff.1 h
      exact k1 g1
    obtain rfl : v = false := hg.symm.trans hgf
    clear hg hgf hlx hlt hsx hsy
    have K1 : RowKit.Hid (decide (xs = limbs (Limb.val xs)) = false) := by show _ = _; simpa using k1
    clear k1
    go_enter Tryz.func17, Tryz.ntmps17
    go_wp2_with fail
    refine (refTrimmed_c HX.out (by omega) false K1.out).mono ?_
    rintro e w2 ⟨rfl, rfl⟩
    go_wp2
    go_ret
    exact ⟨rfl, HW.out⟩

end
end Go.Proofs.YtohciicocaoagaaGreat

/- What the reference of layer 7 answers (Less, Neg), as contracts over memory. Conditions: sizes of at most so many limbs. -/
namespace Go.Proofs.YtohciicocaoagaaGreat
open Go.RowKit Limb
set_option linter.unusedVariables false
section
variable {w : World} {s s' : Bool} {A B A' B' : Option Addr} {n c m d n' c' m' d' : Nat} {xs ys xs' ys' : List Nat} {x y : Int} {a b L L' : Nat}
set_option maxHeartbeats 4000000 in
set_option maxRecDepth 100000 in
theorem refLess_c (hx : ZZ w s A n c xs x L) (hy : NN w B m d ys a L) (hx' : ZZ w s' A' n' c' xs' y L') (hy' : NN w B' m' d' ys' b L') (h1 : L ≤ 1000) (h2 : L' ≤ 1000) (v : Int) (hv : cmpZ (x * (b : Int)) (y * (a : Int)) = v) :
    Calls Tryz.prog 51 #[.agg #[.bool s, .slice A n c, .slice B m d], .agg #[.bool s', .slice A' n' c', .slice B' m' d']] w fun e w' => e = .returned (.int .i64 v) ∧ Below w.heap.size w w' := by
  have b0 := below_new w (.cells #[Value.bool s, Value.slice A n c, Value.slice B m d] 27)
  have b1 := below_new (w.alloc (.cells #[Value.bool s, Value.slice A n c, Value.slice B m d] 27)) (.cells #[Value.bool s', Value.slice A' n' c', Value.slice B' m' d'] 27)
  have HW := Lib.hid (below_two b0 b1)
  have HX := Lib.hid (hx.below HW.out)
  have HY := Lib.hid (hy.below HW.out)
  have HX1 := Lib.hid (hx'.below HW.out)
  have HY1 := Lib.hid (hy'.below HW.out)
  have r0 := ((row3_new w 27 (.bool s) (.slice A n c) (.slice B m d)).below b1)
  have r1 := (row3_new (w.alloc (.cells #[Value.bool s, Value.slice A n c, Value.slice B m d] 27)) 27 (.bool s') (.slice A' n' c') (.slice B' m' d'))
  simp only [World.size_alloc] at r1
  clear b0 b1 hx hy hx' hy'
  go_enter Tryz.func51, Tryz.ntmps51
  go_wp2
  generalize (w.alloc (.cells #[Value.bool s, Value.slice A n c, Value.slice B m d] 27)).alloc (.cells #[Value.bool s', Value.slice A' n' c', Value.slice B' m' d'] 27) = wS at *
  have HR0 := Lib.hid r0
  have HR1 := Lib.hid r1
  clear r0 r1
  refine region_free 13 1 [5, 6, 7, 8, 9, 10, 11, 12, 13, 14, 15, 16, 17] ?aF4 (fun wx => Below wS.heap.size wS wx) (fun k vv wx => match k with
      | 0 => vv = .pointer (some ⟨w.heap.size, 0, none⟩)
      | 1 => vv = .agg #[.bool s, .slice A n c]
      | 2 => vv = .pointer (some ⟨w.heap.size + 1, 2, none⟩)
      | 3 => vv = .slice B' m' d'
      | 4 => ∃ (e0 : Option Addr) (e1 : Nat) (e2 : Nat), vv = .agg #[.bool (sg (b : Int)), .slice e0 e1 e2] ∧ ZZ wx (sg (b : Int)) e0 e1 e2 (limbs (b : Int).natAbs) (b : Int) L'
      | 5 => ∃ (e0 : Option Addr) (e1 : Nat) (e2 : Nat), vv = .agg #[.bool (sg (x * (b : Int))), .slice e0 e1 e2] ∧ ZZ wx (sg (x * (b : Int))) e0 e1 e2 (limbs (x * (b : Int)).natAbs) (x * (b : Int)) (L + L')
      | 6 => vv = .pointer (some ⟨w.heap.size + 1, 0, none⟩)
      | 7 => vv = .agg #[.bool s', .slice A' n' c']
      | 8 => vv = .pointer (some ⟨w.heap.size, 2, none⟩)
      | 9 => vv = .slice B m d
      | 10 => ∃ (e0 : Option Addr) (e1 : Nat) (e2 : Nat), vv = .agg #[.bool (sg (a : Int)), .slice e0 e1 e2] ∧ ZZ wx (sg (a : Int)) e0 e1 e2 (limbs (a : Int).natAbs) (a : Int) L
      | 11 => ∃ (e0 : Option Addr) (e1 : Nat) (e2 : Nat), vv = .agg #[.bool (sg (y * (a : Int))), .slice e0 e1 e2] ∧ ZZ wx (sg (y * (a : Int))) e0 e1 e2 (limbs (y * (a : Int)).natAbs) (y * (a : Int)) (L' + L)
      | _ => vv = .int .i64 v)
    (fun k => false) (by kernel_rfl) ?haF4 rfl (by kernel_rfl) (by kernel_rfl) (fun _ _ _ _ _ h => h) ?hSb4 ?hPb4 ?hS4 ?hop4 ?hfin4
  case haF4 =>
    intro vals
    simp only [fillAll, List.getElem?_cons_zero, List.getElem?_cons_succ, Act.put, List.setIfInBounds_toArray, List.set_cons_zero, List.set_cons_succ]
    exact rfl
  case hSb4 => exact fun wx w2 hb hS => below_two hS hb
  case hPb4 =>
    intro k v wa wb hb h
    match k, h with
    | 0, h => exact h
    | 1, h => exact h
    | 2, h => exact h
    | 3, h => exact h
    | 4, ⟨e0, e1, e2, h1, g0⟩ => exact ⟨e0, e1, e2, h1, g0.below hb⟩
    | 5, ⟨e0, e1, e2, h1, g0⟩ => exact ⟨e0, e1, e2, h1, g0.below hb⟩
    | 6, h => exact h
    | 7, h => exact h
    | 8, h => exact h
    | 9, h => exact h
    | 10, ⟨e0, e1, e2, h1, g0⟩ => exact ⟨e0, e1, e2, h1, g0.below hb⟩
    | 11, ⟨e0, e1, e2, h1, g0⟩ => exact ⟨e0, e1, e2, h1, g0.below hb⟩
    | _ + 12, h => exact h
  case hS4 => exact (Below.refl _ _).drew
  case hop4 =>
    refine .cons (k := 0) ?_ (.cons (k := 1) ?_ (.cons (k := 2) ?_ (.cons (k := 3) ?_ (.cons (k := 4) ?_ (.cons (k := 5) ?_ (.cons (k := 6) ?_ (.cons (k := 7) ?_ (.cons (k := 8) ?_ (.cons (k := 9) ?_ (.cons (k := 10) ?_ (.cons (k := 11) ?_ (.cons (k := 12) ?_ (.nil)))))))))))))
    all_goals intro vals wr hS hd KC hK
    all_goals (show Oper.wp _ _ _ _ _ _; dsimp only)
    · go_simp
      refine hK _ _ rfl (Below.refl _ _) (by first | rfl | simp) (fun h => by cases h)
    · have d0 : vals 0 = _ := hd 0 (by decide +kernel)
      rw [d0]
      have z0 := (HR0.out.below hS).c0
      have z1 := (HR0.out.below hS).c1
      go_simp
      refine hK _ _ rfl (Below.refl _ _) (by first | rfl | simp) (fun h => by cases h)
    · go_simp
      refine hK _ _ rfl (Below.refl _ _) (by first | rfl | simp) (fun h => by cases h)
    · have d2 : vals 2 = _ := hd 2 (by decide +kernel)
      rw [d2]
      have z0 := (HR1.out.below hS).c2
      go_simp
      refine hK _ _ rfl (Below.refl _ _) (by first | rfl | simp) (fun h => by cases h)
    · have d3 : vals 3 = _ := hd 3 (by decide +kernel)
      rw [d3]
      go_simp
      go_at_call 70
      with_reducible refine (refPos_c (HY1.out.below hS) (by omega)).mono ?_
      rintro e w2 ⟨r0, r1, r2, rfl, f0, bn_r⟩
      refine hK _ _ rfl bn_r ⟨_, _, _, rfl, f0⟩ (fun h => by cases h)
    · have d1 : vals 1 = _ := hd 1 (by decide +kernel)
      obtain ⟨A_4_0, n_4_1, n_4_2, d4, h_4_0⟩ := hd 4 (by decide +kernel)
      rw [d1, d4]
      go_simp
      go_at_call 69
      with_reducible refine (refIMul_c (HX.out.below hS) h_4_0 (by omega) (by omega) (x * (b : Int)) rfl).mono ?_
      rintro e w2 ⟨r0, r1, r2, rfl, f0, bn_r⟩
      refine hK _ _ rfl bn_r ⟨_, _, _, rfl, f0⟩ (fun h => by cases h)
    · go_simp
      refine hK _ _ rfl (Below.refl _ _) (by first | rfl | simp) (fun h => by cases h)
    · have d6 : vals 6 = _ := hd 6 (by decide +kernel)
      rw [d6]
      have z0 := (HR1.out.below hS).c0
      have z1 := (HR1.out.below hS).c1
      go_simp
      refine hK _ _ rfl (Below.refl _ _) (by first | rfl | simp) (fun h => by cases h)
    · go_simp
      refine hK _ _ rfl (Below.refl _ _) (by first | rfl | simp) (fun h => by cases h)
    · have d8 : vals 8 = _ := hd 8 (by decide +kernel)
      rw [d8]
      have z0 := (HR0.out.below hS).c2
      go_simp
      refine hK _ _ rfl (Below.refl _ _) (by first | rfl | simp) (fun h => by cases h)
    · have d9 : vals 9 = _ := hd 9 (by decide +kernel)
      rw [d9]
      go_simp
      go_at_call 70
      with_reducible refine (refPos_c (HY.out.below hS) (by omega)).mono ?_
      rintro e w2 ⟨r0, r1, r2, rfl, f0, bn_r⟩
      refine hK _ _ rfl bn_r ⟨_, _, _, rfl, f0⟩ (fun h => by cases h)
    · have d7 : vals 7 = _ := hd 7 (by decide +kernel)
      obtain ⟨A_10_0, n_10_1, n_10_2, d10, h_10_0⟩ := hd 10 (by decide +kernel)
      rw [d7, d10]
      go_simp
      go_at_call 69
      with_reducible refine (refIMul_c (HX1.out.below hS) h_10_0 (by omega) (by omega) (y * (a : Int)) rfl).mono ?_
      rintro e w2 ⟨r0, r1, r2, rfl, f0, bn_r⟩
      refine hK _ _ rfl bn_r ⟨_, _, _, rfl, f0⟩ (fun h => by cases h)
    · obtain ⟨A_5_0, n_5_1, n_5_2, d5, h_5_0⟩ := hd 5 (by decide +kernel)
      obtain ⟨A_11_0, n_11_1, n_11_2, d11, h_11_0⟩ := hd 11 (by decide +kernel)
      rw [d5, d11]
      go_simp
      go_at_call 79
      with_reducible refine (refICmp_c h_5_0 h_11_0 (by omega) (by omega) v hv).mono ?_
      rintro e w2 ⟨rfl, bn_r⟩
      refine hK _ _ rfl bn_r rfl (fun h => by cases h)
  case hfin4 =>
    intro vals wr hS hP hne
    have ez : vals 12 = _ := hP 12 (by decide)
    have HB := Lib.hid (below_two HW.out hS)
    try dsimp only
    rw [ez]
    refine wpAny_ready (rs := [13]) (by kernel_rfl) (by simp) (AllReady.cons rfl (fun KC hK => ?_) AllReady.nil)
    go_simp
    refine hK _ _ ?_
    clear hK KC
    refine wpAny_done (by kernel_rfl) ?_ _
    go_wp2
    go_ret
    exact ⟨rfl, HB.out⟩

set_option maxHeartbeats 4000000 in
set_option maxRecDepth 100000 in
theorem refQNeg_c {o : Option Rat} (hx : QQ w s A n c xs B m d ys o L) (h1 : L ≤ 10000) :
    Calls Tryz.prog 23 #[.agg #[.bool s, .slice A n c, .slice B m d]] w fun e w' => ∃ A2 n2 c2 B2 m2 d2, e = .returned (.agg #[.bool (sg (oTop (o.map fun q => -q))), .slice A2 n2 c2, .slice B2 m2 d2]) ∧ QT w' A2 n2 c2 B2 m2 d2 (o.map fun q => -q) ∧ Below w.heap.size w w' := by
  have b0 := below_new w (.cells #[Value.bool s, Value.slice A n c, Value.slice B m d] 27)
  have b1 := below_new (w.alloc (.cells #[Value.bool s, Value.slice A n c, Value.slice B m d] 27)) (.cells #[Value.bool false, Value.slice none 0 0, Value.slice none 0 0] 27)
  have HW := Lib.hid (below_two b0 b1)
  have HQ := Lib.hid (hx.below HW.out)
  have r0 := (row3_new w 27 (.bool s) (.slice A n c) (.slice B m d)).below b1
  have rz := row3_new (w.alloc (.cells #[Value.bool s, Value.slice A n c, Value.slice B m d] 27)) 27 (.bool false) (.slice none 0 0) (.slice none 0 0)
  simp only [World.size_alloc] at rz
  clear b0 b1 hx
  cases o with
  | none =>
    go_enter Tryz.func23, Tryz.ntmps23
    go_wp2_with fail
    generalize (w.alloc (.cells #[Value.bool s, Value.slice A n c, Value.slice B m d] 27)).alloc (.cells #[Value.bool false, Value.slice none 0 0, Value.slice none 0 0] 27) = w1 at *
    refine (refGood_c HQ.out (by omega) false rfl).mono ?_
    rintro e wS ⟨rfl, bn⟩
    have HZ := Lib.hid (rz.below bn)
    have HR0 := Lib.hid (r0.below bn)
    replace HW := Lib.hid (below_two HW.out bn)
    replace HQ := Lib.hid (HQ.out.below bn)
    have Hq : RowKit.Hid (w.heap.size ≤ w.heap.size + 1) := Nat.le_succ _
    clear rz r0 bn
    have e0 := HZ.out.c0
    have e1 := HZ.out.c1
    have e2 := HZ.out.c2
    have f0 := HZ.out.free 0
    have f1 := HZ.out.free 1
    have f2 := HZ.out.free 2
    have HF := Lib.hid (HZ.out.fill (.bool false) (.slice none 0 0) (.slice none 0 0))
    have HB := Lib.hid (below_fill3' HW.out Hq.out (.bool false) (.slice none 0 0) (.slice none 0 0))
    go_wp2
    refine bodyPost_ret (results_cell_row rfl _ _ _ 27 #[.bool false, .slice none 0 0, .slice none 0 0] (0, 0) _ rfl HF.out Tryz.underlying27 rfl rat_size) rfl ?_
    exact ⟨none, 0, 0, none, 0, 0, rfl, qt_none _ 0 0, HB.out⟩
  | some q =>
    go_enter Tryz.func23, Tryz.ntmps23
    go_wp2_with fail
    generalize (w.alloc (.cells #[Value.bool s, Value.slice A n c, Value.slice B m d] 27)).alloc (.cells #[Value.bool false, Value.slice none 0 0, Value.slice none 0 0] 27) = w1 at *
    refine (refGood_c HQ.out (by omega) true rfl).mono ?_
    rintro e wS ⟨rfl, bn⟩
    have HZ := Lib.hid (rz.below bn)
    have HR0 := Lib.hid (r0.below bn)
    replace HW := Lib.hid (below_two HW.out bn)
    replace HQ := Lib.hid (HQ.out.below bn)
    have Hq : RowKit.Hid (w.heap.size ≤ w.heap.size + 1) := Nat.le_succ _
    clear rz r0 bn
    have HX := Lib.hid HQ.out.some.2.2.2.2.1
    have HY := Lib.hid HQ.out.some.2.2.2.2.2.1
    have Hf := Lib.hid HQ.out.some.2.2.2.1
    go_wp2_with fail
    refine region_free 7 1 [7, 8, 9, 10, 11, 12, 13] ?aF5 (fun wx => Below wS.heap.size wS wx) (fun k vv wx => match k with
        | 0 => vv = .pointer (some ⟨w.heap.size, 0, none⟩)
        | 1 => vv = .agg #[.bool s, .slice A n c]
        | 2 => ∃ (e0 : Option Addr) (e1 : Nat) (e2 : Nat), vv = .agg #[.bool (sg (-q).num), .slice e0 e1 e2] ∧ ZZ wx (sg (-q).num) e0 e1 e2 (limbs (-q).num.natAbs) (-q).num 64
        | 3 => vv = .pointer (some ⟨w.heap.size, 2, none⟩)
        | 4 => vv = .slice B m d
        | 5 => ∃ (e0 : Option Addr) (e1 : Nat) (e2 : Nat), vv = .slice e0 e1 e2 ∧ NN wx e0 e1 e2 (limbs (-q).den) (-q).den 64
        | _ => ∃ (e0 : Option Addr) (e1 : Nat) (e2 : Nat) (e3 : Option Addr) (e4 : Nat) (e5 : Nat), vv = .agg #[.bool (sg (-q).num), .slice e0 e1 e2, .slice e3 e4 e5] ∧ ZZ wx (sg (-q).num) e0 e1 e2 (limbs (-q).num.natAbs) (-q).num 64 ∧ NN wx e3 e4 e5 (limbs (-q).den) (-q).den 64)
      (fun k => false) (by kernel_rfl) ?haF5 rfl (by kernel_rfl) (by kernel_rfl) (fun _ _ _ _ _ h => h) ?hSb5 ?hPb5 ?hS5 ?hop5 ?hfin5
    case haF5 =>
      intro vals
      simp only [fillAll, List.getElem?_cons_zero, List.getElem?_cons_succ, Act.put, List.setIfInBounds_toArray, List.set_cons_zero, List.set_cons_succ]
      exact rfl
    case hSb5 => exact fun wx w2 hb hS => below_two hS hb
    case hPb5 =>
      intro k v wa wb hb h
      match k, h with
      | 0, h => exact h
      | 1, h => exact h
      | 2, ⟨e0, e1, e2, h1, g0⟩ => exact ⟨e0, e1, e2, h1, g0.below hb⟩
      | 3, h => exact h
      | 4, h => exact h
      | 5, ⟨e0, e1, e2, h1, g0⟩ => exact ⟨e0, e1, e2, h1, g0.below hb⟩
      | _ + 6, ⟨e0, e1, e2, e3, e4, e5, h1, g0, g1⟩ => exact ⟨e0, e1, e2, e3, e4, e5, h1, g0.below hb, g1.below hb⟩
    case hS5 => exact (Below.refl _ _).drew
    case hop5 =>
      refine .cons (k := 0) ?_ (.cons (k := 1) ?_ (.cons (k := 2) ?_ (.cons (k := 3) ?_ (.cons (k := 4) ?_ (.cons (k := 5) ?_ (.cons (k := 6) ?_ (.nil)))))))
      all_goals intro vals wr hS hd KC hK
      all_goals (show Oper.wp _ _ _ _ _ _; dsimp only)
      · go_simp
        refine hK _ _ rfl (Below.refl _ _) (by first | rfl | simp) (fun h => by cases h)
      · have d0 : vals 0 = _ := hd 0 (by decide +kernel)
        rw [d0]
        have z0 := (HR0.out.below hS).c0
        have z1 := (HR0.out.below hS).c1
        go_simp
        refine hK _ _ rfl (Below.refl _ _) (by first | rfl | simp) (fun h => by cases h)
      · have d1 : vals 1 = _ := hd 1 (by decide +kernel)
        rw [d1]
        go_simp
        go_at_call 53
        with_reducible refine (refINeg_c (HX.out.below hS) (by decide) (-q).num rfl).mono ?_
        rintro e w2 ⟨r0, r1, r2, rfl, f0, bn_r⟩
        refine hK _ _ rfl bn_r ⟨_, _, _, rfl, f0⟩ (fun h => by cases h)
      · go_simp
        refine hK _ _ rfl (Below.refl _ _) (by first | rfl | simp) (fun h => by cases h)
      · have d3 : vals 3 = _ := hd 3 (by decide +kernel)
        rw [d3]
        have z0 := (HR0.out.below hS).c2
        go_simp
        refine hK _ _ rfl (Below.refl _ _) (by first | rfl | simp) (fun h => by cases h)
      · have d4 : vals 4 = _ := hd 4 (by decide +kernel)
        rw [d4]
        go_simp
        go_at_call 54
        with_reducible refine (refTrim_c (HY.out.below hS) (by decide)).mono ?_
        rintro e w2 ⟨r0, r1, r2, rfl, f0, bn_r⟩
        refine hK _ _ rfl bn_r ⟨_, _, _, rfl, f0⟩ (fun h => by cases h)
      · obtain ⟨A_2_0, n_2_1, n_2_2, d2, h_2_0⟩ := hd 2 (by decide +kernel)
        obtain ⟨A_5_0, n_5_1, n_5_2, d5, h_5_0⟩ := hd 5 (by decide +kernel)
        rw [d2, d5]
        go_simp
        refine hK _ _ rfl (Below.refl _ _) ⟨_, _, _, _, _, _, rfl, h_2_0, h_5_0⟩ (fun h => by cases h)
    case hfin5 =>
      intro vals wr hS hP hne
      obtain ⟨y0, y1, y2, y3, y4, y5, ez, h3_0, h3_1⟩ := hP 6 (by decide)
      have hZ3 := HZ.out.below hS
      have hNo := hZ3.noLimb (by intro v e; cases e) (by intro v e; cases e) (by intro v e; cases e)
      have e0 := hZ3.c0
      have e1 := hZ3.c1
      have e2 := hZ3.c2
      have f0 := hZ3.free 0
      have f1 := hZ3.free 1
      have f2 := hZ3.free 2
      have HF := Lib.hid (hZ3.fill (.bool (sg (-q).num)) (.slice y0 y1 y2) (.slice y3 y4 y5))
      have HP1 := Lib.hid (h3_0.fillR3 hNo (.bool (sg (-q).num)) (.slice y0 y1 y2) (.slice y3 y4 y5))
      have HP2 := Lib.hid (h3_1.fillR3 hNo (.bool (sg (-q).num)) (.slice y0 y1 y2) (.slice y3 y4 y5))
      have HB := Lib.hid (below_fill3' (below_two HW.out hS) Hq.out (.bool (sg (-q).num)) (.slice y0 y1 y2) (.slice y3 y4 y5))
      try dsimp only
      rw [ez]
      refine wpAny_ready (rs := [7]) (by kernel_rfl) (by simp) (AllReady.cons rfl (fun KC hK => ?_) AllReady.nil)
      go_simp
      refine hK _ _ ?_
      clear hK KC
      refine wpAny_done (by kernel_rfl) ?_ _
      go_wp2
      refine bodyPost_ret (results_cell_row rfl _ _ _ 27 #[.bool (sg (-q).num), .slice y0 y1 y2, .slice y3 y4 y5] (0, 0) _ rfl HF.out Tryz.underlying27 rfl rat_size) rfl ?_
      exact ⟨y0, y1, y2, y3, y4, y5, rfl, qt_some (q := -q) HP1.out HP2.out (neg_fits Hf.out), HB.out⟩

end
end Go.Proofs.YtohciicocaoagaaGreat
