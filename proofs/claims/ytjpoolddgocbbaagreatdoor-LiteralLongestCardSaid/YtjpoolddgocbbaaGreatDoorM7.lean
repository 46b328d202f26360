/- Part 7 of the texts that the statements of this seat lean on: mathematics, and what functions answer, as contracts over memory; each part says its own conditions. -/
import Derived.Test.YtjpoolddgocbbaaGreatDoorM6
import Derived.Deep.RegionHeld3
import Derived.Deep.CutRange
import Derived.LoopIn
/- What the reference of layer 7 answers (Limit, Whole), as contracts over memory. Conditions: sizes of at most so many limbs. -/
namespace Go.Proofs.YtjpoolddgocbbaaGreatDoor
open Go.RowKit Limb
set_option linter.unusedVariables false
theorem got7_size : (Tryz.prog.info? 33).map (·.size) = some 4 := by kernel_rfl

section
variable {w : World} {s s' : Bool} {A B A' B' : Option Addr} {n c m d n' c' m' d' : Nat} {xs ys xs' ys' : List Nat} {x y : Int} {a b L L' : Nat}
set_option maxHeartbeats 4000000 in
set_option maxRecDepth 100000 in
theorem refLimit_c {q : Rat} (hz : ZZ w (sg q.num) A n c (limbs q.num.natAbs) q.num L) (hn : NN w B m d (limbs q.den) q.den L') :
    Calls Tryz.prog 57 #[.agg #[.bool (sg q.num), .slice A n c, .slice B m d]] w fun e w' => ∃ A2 n2 c2 B2 m2 d2, e = .returned (.agg #[.bool (sg (oTop (limQ q))), .slice A2 n2 c2, .slice B2 m2 d2, .int .i64 (limE q)]) ∧ QT w' A2 n2 c2 B2 m2 d2 (limQ q) ∧ Below w.heap.size w w' := by
  have hf1 := hz.nn.isN.len
  have hf2 := hn.isN.len
  have HX := Lib.hid hz
  have HY := Lib.hid hn
  clear hz hn
  by_cases h5 : 64 < n
  · have hf : RowKit.Hid (fitsQ q = false) := by
      show _ = _
      rw [Bool.eq_false_iff]
      intro h
      simp only [fitsQ, Bool.and_eq_true, decide_eq_true_eq] at h
      have := length_limbs_le h.1
      omega
    have n5 : decide ((64 : Int) < (n : Int)) = true := by rw [decide_eq_true_eq]; omega
    clear h5
    clear hf1 hf2
    go_enter Tryz.func57, Tryz.ntmps57
    go_wp2
    refine bodyPost_ret (results_cell_row rfl _ _ (w.heap.size + 1) 33 #[.bool false, .slice none 0 0, .slice none 0 0, .int .i64 2] (0, 0) _ rfl (heap_alloc2_new _ _ _) Tryz.underlying33 rfl got7_size) rfl ?_
    exact ⟨none, 0, 0, none, 0, 0, by rw [limQ_no hf.out, limE_no hf.out]; rfl, by rw [limQ_no hf.out]; exact qt_none _ 0 0, below_two (below_new _ _) (below_new _ _)⟩
  · by_cases h6 : 64 < m
    · have hf : RowKit.Hid (fitsQ q = false) := by
        show _ = _
        rw [Bool.eq_false_iff]
        intro h
        simp only [fitsQ, Bool.and_eq_true, decide_eq_true_eq] at h
        have := length_limbs_le h.2
        omega
      have n5 : decide ((64 : Int) < (n : Int)) = false := by rw [decide_eq_false_iff_not]; omega
      have n6 : decide ((64 : Int) < (m : Int)) = true := by rw [decide_eq_true_eq]; omega
      clear h5 h6
      clear hf1 hf2
      go_enter Tryz.func57, Tryz.ntmps57
      go_wp2
      refine bodyPost_ret (results_cell_row rfl _ _ (w.heap.size + 1) 33 #[.bool false, .slice none 0 0, .slice none 0 0, .int .i64 2] (0, 0) _ rfl (heap_alloc2_new _ _ _) Tryz.underlying33 rfl got7_size) rfl ?_
      exact ⟨none, 0, 0, none, 0, 0, by rw [limQ_no hf.out, limE_no hf.out]; rfl, by rw [limQ_no hf.out]; exact qt_none _ 0 0, below_two (below_new _ _) (below_new _ _)⟩
    · have hf : RowKit.Hid (fitsQ q = true) := by
        show _ = _
        simp only [fitsQ, Bool.and_eq_true, decide_eq_true_eq]
        refine ⟨?_, ?_⟩
        · rcases Nat.lt_or_ge q.num.natAbs (4294967296 ^ 64) with h | h
          · exact h
          · have := lt_length_limbs h; omega
        · rcases Nat.lt_or_ge q.den (4294967296 ^ 64) with h | h
          · exact h
          · have := lt_length_limbs h; omega
      have n5 : decide ((64 : Int) < (n : Int)) = false := by rw [decide_eq_false_iff_not]; omega
      have n6 : decide ((64 : Int) < (m : Int)) = false := by rw [decide_eq_false_iff_not]; omega
      clear h5 h6 hf1 hf2
      go_enter Tryz.func57, Tryz.ntmps57
      go_wp2
      refine bodyPost_ret (results_cell_row rfl _ _ (w.heap.size + 1) 33 #[.bool (sg q.num), .slice A n c, .slice B m d, .int .i64 0] (0, 0) _ rfl (heap_alloc2_new _ _ _) Tryz.underlying33 rfl got7_size) rfl ?_
      exact ⟨A, n, c, B, m, d, by rw [limQ_yes hf.out, limE_yes hf.out]; rfl, by rw [limQ_yes hf.out]; exact qt_some (HX.out.below (below_two (below_new _ _) (below_new _ _))) (HY.out.below (below_two (below_new _ _) (below_new _ _))) hf.out, below_two (below_new _ _) (below_new _ _)⟩

end
set_option maxHeartbeats 4000000 in
set_option maxRecDepth 100000 in
theorem refQWhole_c (v : Int) (h0 : -9223372036854775808 ≤ v) (h1 : v ≤ 9223372036854775807) (w : World) :
    Calls Tryz.prog 45 #[.int .i64 v] w fun e w' => ∃ A2 n2 c2 B2 m2 d2, e = .returned (.agg #[.bool (sg (oTop (some (v : Rat)))), .slice A2 n2 c2, .slice B2 m2 d2]) ∧ QT w' A2 n2 c2 B2 m2 d2 (some (v : Rat)) ∧ Below w.heap.size w w' := by
  have HW := Lib.hid (below_new w (.cells #[Value.bool false, Value.slice none 0 0, Value.slice none 0 0] 28))
  have HZ := Lib.hid (row3_new w 28 (.bool false) (.slice none 0 0) (.slice none 0 0))
  go_enter Tryz.func45, Tryz.ntmps45
  go_wp2_with fail
  refine (refIOf_c v h0 h1 _).mono ?_
  rintro e w2 ⟨A2, n2, c2, rfl, h2, bn⟩
  have bl := below_new w2 (.cells #[Value.int IntKind.u32 1] 38)
  have HL : RowKit.Hid (NN (w2.alloc (.cells #[Value.int IntKind.u32 1] 38)) (some ⟨w2.heap.size, 0, none⟩) 1 1 (limbs 1) 1 1) := by
    show NN _ _ _ _ _ _ _
    have h := lit_c w2 [1] (by intro x hx; simp at hx; omega) 1 rfl
    have e1 : limbs 1 = [1] := by simp [limbs, limbsTo]
    rw [e1]; exact h
  have hZ3 := (HZ.out.below bn).below bl
  have hNo := hZ3.noLimb (by intro v e; cases e) (by intro v e; cases e) (by intro v e; cases e)
  have H2 := Lib.hid (h2.below bl)
  have e0 := hZ3.c0
  have e1 := hZ3.c1
  have e2 := hZ3.c2
  have f0 := hZ3.free 0
  have f1 := hZ3.free 1
  have f2 := hZ3.free 2
  have HF := Lib.hid (hZ3.fill (.bool (sg v)) (.slice A2 n2 c2) (.slice (some ⟨w2.heap.size, 0, none⟩) 1 1))
  have HP1 := Lib.hid (H2.out.fillR3 hNo (.bool (sg v)) (.slice A2 n2 c2) (.slice (some ⟨w2.heap.size, 0, none⟩) 1 1))
  have HP2 := Lib.hid (HL.out.fillR3 hNo (.bool (sg v)) (.slice A2 n2 c2) (.slice (some ⟨w2.heap.size, 0, none⟩) 1 1))
  have HB := Lib.hid (below_fill3' (below_two (below_two HW.out bn) bl) (Nat.le_refl _) (.bool (sg v)) (.slice A2 n2 c2) (.slice (some ⟨w2.heap.size, 0, none⟩) 1 1))
  clear h2 bn bl hZ3 hNo H2 HL
  go_wp2
  refine bodyPost_ret (results_cell_row rfl _ _ w.heap.size 28 #[.bool (sg v), .slice A2 n2 c2, .slice (some ⟨w2.heap.size, 0, none⟩) 1 1] (0, 0) _ rfl HF.out Tryz.underlying28 rfl rat_size) rfl ?_
  exact ⟨A2, n2, c2, _, 1, 1, rfl, qt_some (q := (v : Rat)) HP1.out HP2.out (whole_fits h0 h1), HB.out⟩

end Go.Proofs.YtjpoolddgocbbaaGreatDoor

/- What the reference of layer 7 answers (Good), as a contract over memory. Conditions: sizes of at most so many limbs. -/
namespace Go.Proofs.YtjpoolddgocbbaaGreatDoor
open Go.RowKit Limb
set_option linter.unusedVariables false
section
variable {w : World} {s s' : Bool} {A B A' B' : Option Addr} {n c m d n' c' m' d' : Nat} {xs ys xs' ys' : List Nat} {x y : Int} {a b L L' : Nat}
set_option maxHeartbeats 40000000 in
set_option maxRecDepth 100000 in
theorem refGood_c {o : Option Rat} (hx : QQ w s A n c xs B m d ys o L) (h1 : L ≤ 9223372036854775807) (v : Bool) (hv : o.isSome = v) :
    Calls Tryz.prog 74 #[.agg #[.bool s, .slice A n c, .slice B m d]] w fun e w' => e = .returned (.bool v) ∧ Below w.heap.size w w' := by
  have hg := hx.good
  rw [hv] at hg
  have hlx := hx.bot.isN.len
  have hlt := hx.top.nn.isN.len
  have hsx := hx.top.nn.isN.small
  have hsy := hx.bot.isN.small
  have b0 := below_new w (.cells #[Value.bool s, Value.slice A n c, Value.slice B m d] 28)
  have HW := Lib.hid b0
  have HX : RowKit.Hid (NN (w.alloc (.cells #[Value.bool s, Value.slice A n c, Value.slice B m d] 28)) A n c xs (Limb.val xs) L) := by
    have h := hx.top.nn.below b0
    rw [zOf_abs] at h
    exact h
  have HY := Lib.hid (hx.bot.below b0)
  have r0 := row3_new w 28 (.bool s) (.slice A n c) (.slice B m d)
  have c0 := r0.c0
  have c1 := r0.c1
  have c2 := r0.c2
  clear b0 r0 hx hv
  by_cases k1 : xs = limbs (Limb.val xs)
  · by_cases k2 : ys = limbs (Limb.val ys)
    · by_cases k3 : m = 0
      · have hgf : goodV s xs ys = false := by
          rw [Bool.eq_false_iff]
          intro h
          obtain ⟨g1, g2, g3, g4, g5, g6, g7⟩ := goodV_iff.1 h
          exact g3 (by rw [List.eq_nil_of_length_eq_zero (hlx.trans k3)]; rfl)
        obtain rfl : v = false := hg.symm.trans hgf
        clear hg hgf hlx hlt hsx hsy
        have m0 : ((m : Int) == 0) = true := by rw [beq_iff_eq]; omega
        have K1 : RowKit.Hid (decide (xs = limbs (Limb.val xs)) = true) := by show _ = _; simpa using k1
        have K2 : RowKit.Hid (decide (ys = limbs (Limb.val ys)) = true) := by show _ = _; simpa using k2
        clear k1 k2 k3
        go_enter Tryz.func74, Tryz.ntmps74
        go_wp2_with fail
        refine (refTrimmed_c HX.out (by omega) true K1.out).mono ?_
        rintro e w2 ⟨rfl, rfl⟩
        go_wp2_with fail
        refine (refTrimmed_c HY.out (by omega) true K2.out).mono ?_
        rintro e w2 ⟨rfl, rfl⟩
        go_wp2
        go_ret
        exact ⟨rfl, HW.out⟩
      · by_cases k4 : s = true ∧ n = 0
        · obtain ⟨k4s, k4n⟩ := k4
          have hgf : goodV s xs ys = false := by
            rw [Bool.eq_false_iff]
            intro h
            obtain ⟨g1, g2, g3, g4, g5, g6, g7⟩ := goodV_iff.1 h
            exact g4 ⟨k4s, by rw [List.eq_nil_of_length_eq_zero (hlt.trans k4n)]; rfl⟩
          obtain rfl : v = false := hg.symm.trans hgf
          clear hg hgf hlx hlt hsx hsy
          have m0 : ((m : Int) == 0) = false := by rw [beq_eq_false_iff_ne]; omega
          have n0 : ((n : Int) == 0) = true := by rw [beq_iff_eq]; omega
          subst k4s
          have K1 : RowKit.Hid (decide (xs = limbs (Limb.val xs)) = true) := by show _ = _; simpa using k1
          have K2 : RowKit.Hid (decide (ys = limbs (Limb.val ys)) = true) := by show _ = _; simpa using k2
          clear k1 k2 k3 k4n
          go_enter Tryz.func74, Tryz.ntmps74
          go_wp2_with fail
          refine (refTrimmed_c HX.out (by omega) true K1.out).mono ?_
          rintro e w2 ⟨rfl, rfl⟩
          go_wp2_with fail
          refine (refTrimmed_c HY.out (by omega) true K2.out).mono ?_
          rintro e w2 ⟨rfl, rfl⟩
          go_wp2
          go_ret
          exact ⟨rfl, HW.out⟩
        · by_cases k5 : 64 < n
          · have hgf : goodV s xs ys = false := by
              rw [Bool.eq_false_iff]
              intro h
              obtain ⟨g1, g2, g3, g4, g5, g6, g7⟩ := goodV_iff.1 h
              omega
            obtain rfl : v = false := hg.symm.trans hgf
            clear hg hgf hlx hlt hsx hsy
            have m0 : ((m : Int) == 0) = false := by rw [beq_eq_false_iff_ne]; omega
            by_cases ks : s = true
            · have n0 : ((n : Int) == 0) = false := by
                rw [beq_eq_false_iff_ne]
                have hn0 : n ≠ 0 := fun h => k4 ⟨ks, h⟩
                omega
              subst ks
              have n5 : decide ((64 : Int) < (n : Int)) = true := by rw [decide_eq_true_eq]; omega
              have K1 : RowKit.Hid (decide (xs = limbs (Limb.val xs)) = true) := by show _ = _; simpa using k1
              have K2 : RowKit.Hid (decide (ys = limbs (Limb.val ys)) = true) := by show _ = _; simpa using k2
              clear k1 k2 k3 k4 k5
              go_enter Tryz.func74, Tryz.ntmps74
              go_wp2_with fail
              refine (refTrimmed_c HX.out (by omega) true K1.out).mono ?_
              rintro e w2 ⟨rfl, rfl⟩
              go_wp2_with fail
              refine (refTrimmed_c HY.out (by omega) true K2.out).mono ?_
              rintro e w2 ⟨rfl, rfl⟩
              go_wp2
              go_ret
              exact ⟨rfl, HW.out⟩
            · have ks2 : s = false := by simpa using ks
              subst ks2
              have n5 : decide ((64 : Int) < (n : Int)) = true := by rw [decide_eq_true_eq]; omega
              have K1 : RowKit.Hid (decide (xs = limbs (Limb.val xs)) = true) := by show _ = _; simpa using k1
              have K2 : RowKit.Hid (decide (ys = limbs (Limb.val ys)) = true) := by show _ = _; simpa using k2
              clear k1 k2 k3 k4 k5
              go_enter Tryz.func74, Tryz.ntmps74
              go_wp2_with fail
              refine (refTrimmed_c HX.out (by omega) true K1.out).mono ?_
              rintro e w2 ⟨rfl, rfl⟩
              go_wp2_with fail
              refine (refTrimmed_c HY.out (by omega) true K2.out).mono ?_
              rintro e w2 ⟨rfl, rfl⟩
              go_wp2
              go_ret
              exact ⟨rfl, HW.out⟩
          · by_cases k6 : 64 < m
            · have hgf : goodV s xs ys = false := by
                rw [Bool.eq_false_iff]
                intro h
                obtain ⟨g1, g2, g3, g4, g5, g6, g7⟩ := goodV_iff.1 h
                omega
              obtain rfl : v = false := hg.symm.trans hgf
              clear hg hgf hlx hlt hsx hsy
              have m0 : ((m : Int) == 0) = false := by rw [beq_eq_false_iff_ne]; omega
              by_cases ks : s = true
              · have n0 : ((n : Int) == 0) = false := by
                  rw [beq_eq_false_iff_ne]
                  have hn0 : n ≠ 0 := fun h => k4 ⟨ks, h⟩
                  omega
                subst ks
                have n5 : decide ((64 : Int) < (n : Int)) = false := by rw [decide_eq_false_iff_not]; omega
                have n6 : decide ((64 : Int) < (m : Int)) = true := by rw [decide_eq_true_eq]; omega
                have K1 : RowKit.Hid (decide (xs = limbs (Limb.val xs)) = true) := by show _ = _; simpa using k1
                have K2 : RowKit.Hid (decide (ys = limbs (Limb.val ys)) = true) := by show _ = _; simpa using k2
                clear k1 k2 k3 k4 k5 k6
                go_enter Tryz.func74, Tryz.ntmps74
                go_wp2_with fail
                refine (refTrimmed_c HX.out (by omega) true K1.out).mono ?_
                rintro e w2 ⟨rfl, rfl⟩
                go_wp2_with fail
                refine (refTrimmed_c HY.out (by omega) true K2.out).mono ?_
                rintro e w2 ⟨rfl, rfl⟩
                go_wp2
                go_ret
                exact ⟨rfl, HW.out⟩
              · have ks2 : s = false := by simpa using ks
                subst ks2
                have n5 : decide ((64 : Int) < (n : Int)) = false := by rw [decide_eq_false_iff_not]; omega
                have n6 : decide ((64 : Int) < (m : Int)) = true := by rw [decide_eq_true_eq]; omega
                have K1 : RowKit.Hid (decide (xs = limbs (Limb.val xs)) = true) := by show _ = _; simpa using k1
                have K2 : RowKit.Hid (decide (ys = limbs (Limb.val ys)) = true) := by show _ = _; simpa using k2
                clear k1 k2 k3 k4 k5 k6
                go_enter Tryz.func74, Tryz.ntmps74
                go_wp2_with fail
                refine (refTrimmed_c HX.out (by omega) true K1.out).mono ?_
                rintro e w2 ⟨rfl, rfl⟩
                go_wp2_with fail
                refine (refTrimmed_c HY.out (by omega) true K2.out).mono ?_
                rintro e w2 ⟨rfl, rfl⟩
                go_wp2
                go_ret
                exact ⟨rfl, HW.out⟩
            · by_cases hgcd : Nat.gcd (Limb.val xs) (Limb.val ys) = 1
              · have hgt : goodV s xs ys = true := by
                  rw [goodV_iff]
                  refine ⟨k1, k2, ?_, ?_, by omega, by omega, hgcd⟩
                  · intro h; rw [h, limbs_zero] at k2; rw [k2] at hlx; simp at hlx; omega
                  · rintro ⟨h1, h2⟩
                    rw [h2, limbs_zero] at k1; rw [k1] at hlt; simp at hlt
                    exact k4 ⟨h1, by omega⟩
                obtain rfl : v = true := hg.symm.trans hgt
                clear hg hgt
                have m0 : ((m : Int) == 0) = false := by rw [beq_eq_false_iff_ne]; omega
                by_cases ks : s = true
                · have n0 : ((n : Int) == 0) = false := by
                    rw [beq_eq_false_iff_ne]
                    have hn0 : n ≠ 0 := fun h => k4 ⟨ks, h⟩
                    omega
                  subst ks
                  have n5 : decide ((64 : Int) < (n : Int)) = false := by rw [decide_eq_false_iff_not]; omega
                  have n6 : decide ((64 : Int) < (m : Int)) = false := by rw [decide_eq_false_iff_not]; omega
                  have HGC := Lib.hid hgcd
                  have HN : RowKit.Hid (n ≤ 64 ∧ m ≤ 64) := ⟨by omega, by omega⟩
                  have K1 : RowKit.Hid (decide (xs = limbs (Limb.val xs)) = true) := by show _ = _; simpa using k1
                  have K2 : RowKit.Hid (decide (ys = limbs (Limb.val ys)) = true) := by show _ = _; simpa using k2
                  clear k1 k2 k3 k4 k5 k6 hgcd
                  go_enter Tryz.func74, Tryz.ntmps74
                  go_wp2_with fail
                  refine (refTrimmed_c HX.out (by omega) true K1.out).mono ?_
                  rintro e w2 ⟨rfl, rfl⟩
                  go_wp2_with fail
                  refine (refTrimmed_c HY.out (by omega) true K2.out).mono ?_
                  rintro e w2 ⟨rfl, rfl⟩
                  go_wp2_with fail
                  refine (refGcd_c (HX.out.short HN.out.1) (HY.out.short HN.out.2) (by decide) (by decide)).mono ?_
                  rintro e w3 ⟨A3, n3, c3, rfl, h3, bn⟩
                  replace HW := Lib.hid (below_two HW.out bn)
                  clear bn c0 c1 c2
                  have hgcd := HGC.out
                  have e1 : gcdN (Limb.val xs) (Limb.val ys) = 1 := hgcd
                  rw [e1] at h3
                  have el : limbs 1 = [1] := by simp [limbs, limbsTo]
                  rw [el] at h3
                  have hn3 := h3.isN.len
                  obtain ⟨g, o, eA, _, hc⟩ := h3.isN.2.2 (by rw [← hn3]; decide)
                  have hc0 := hc 0 (by rw [← hn3]; decide)
                  have n1 : n3 = 1 := by rw [← hn3]; rfl
                  subst n1
                  subst eA
                  have hcc : w3.cell? ⟨g, o, none⟩ = some (.int .u32 1) := hc0
                  clear h3 hn3 hc hc0 e1 el hgcd
                  go_wp2
                  go_ret
                  exact ⟨rfl, HW.out⟩
                · have ks2 : s = false := by simpa using ks
                  subst ks2
                  have n5 : decide ((64 : Int) < (n : Int)) = false := by rw [decide_eq_false_iff_not]; omega
                  have n6 : decide ((64 : Int) < (m : Int)) = false := by rw [decide_eq_false_iff_not]; omega
                  have HGC := Lib.hid hgcd
                  have HN : RowKit.Hid (n ≤ 64 ∧ m ≤ 64) := ⟨by omega, by omega⟩
                  have K1 : RowKit.Hid (decide (xs = limbs (Limb.val xs)) = true) := by show _ = _; simpa using k1
                  have K2 : RowKit.Hid (decide (ys = limbs (Limb.val ys)) = true) := by show _ = _; simpa using k2
                  clear k1 k2 k3 k4 k5 k6 hgcd
                  go_enter Tryz.func74, Tryz.ntmps74
                  go_wp2_with fail
                  refine (refTrimmed_c HX.out (by omega) true K1.out).mono ?_
                  rintro e w2 ⟨rfl, rfl⟩
                  go_wp2_with fail
                  refine (refTrimmed_c HY.out (by omega) true K2.out).mono ?_
                  rintro e w2 ⟨rfl, rfl⟩
                  go_wp2_with fail
                  refine (refGcd_c (HX.out.short HN.out.1) (HY.out.short HN.out.2) (by decide) (by decide)).mono ?_
                  rintro e w3 ⟨A3, n3, c3, rfl, h3, bn⟩
                  replace HW := Lib.hid (below_two HW.out bn)
                  clear bn c0 c1 c2
                  have hgcd := HGC.out
                  have e1 : gcdN (Limb.val xs) (Limb.val ys) = 1 := hgcd
                  rw [e1] at h3
                  have el : limbs 1 = [1] := by simp [limbs, limbsTo]
                  rw [el] at h3
                  have hn3 := h3.isN.len
                  obtain ⟨g, o, eA, _, hc⟩ := h3.isN.2.2 (by rw [← hn3]; decide)
                  have hc0 := hc 0 (by rw [← hn3]; decide)
                  have n1 : n3 = 1 := by rw [← hn3]; rfl
                  subst n1
                  subst eA
                  have hcc : w3.cell? ⟨g, o, none⟩ = some (.int .u32 1) := hc0
                  clear h3 hn3 hc hc0 e1 el hgcd
                  go_wp2
                  go_ret
                  exact ⟨rfl, HW.out⟩
              · have hgf : goodV s xs ys = false := by
                  rw [Bool.eq_false_iff]
                  intro h
                  obtain ⟨g1, g2, g3, g4, g5, g6, g7⟩ := goodV_iff.1 h
                  exact hgcd g7
                obtain rfl : v = false := hg.symm.trans hgf
                clear hg hgf hlx hlt hsx hsy
                have m0 : ((m : Int) == 0) = false := by rw [beq_eq_false_iff_ne]; omega
                by_cases ks : s = true
                · have n0 : ((n : Int) == 0) = false := by
                    rw [beq_eq_false_iff_ne]
                    have hn0 : n ≠ 0 := fun h => k4 ⟨ks, h⟩
                    omega
                  subst ks
                  have n5 : decide ((64 : Int) < (n : Int)) = false := by rw [decide_eq_false_iff_not]; omega
                  have n6 : decide ((64 : Int) < (m : Int)) = false := by rw [decide_eq_false_iff_not]; omega
                  have HGC := Lib.hid hgcd
                  have HN : RowKit.Hid (n ≤ 64 ∧ m ≤ 64) := ⟨by omega, by omega⟩
                  have K1 : RowKit.Hid (decide (xs = limbs (Limb.val xs)) = true) := by show _ = _; simpa using k1
                  have K2 : RowKit.Hid (decide (ys = limbs (Limb.val ys)) = true) := by show _ = _; simpa using k2
                  clear k1 k2 k3 k4 k5 k6 hgcd
                  go_enter Tryz.func74, Tryz.ntmps74
                  go_wp2_with fail
                  refine (refTrimmed_c HX.out (by omega) true K1.out).mono ?_
                  rintro e w2 ⟨rfl, rfl⟩
                  go_wp2_with fail
                  refine (refTrimmed_c HY.out (by omega) true K2.out).mono ?_
                  rintro e w2 ⟨rfl, rfl⟩
                  go_wp2_with fail
                  refine (refGcd_c (HX.out.short HN.out.1) (HY.out.short HN.out.2) (by decide) (by decide)).mono ?_
                  rintro e w3 ⟨A3, n3, c3, rfl, h3, bn⟩
                  replace HW := Lib.hid (below_two HW.out bn)
                  clear bn c0 c1 c2
                  have hgcd := HGC.out
                  have hn3 := h3.isN.len
                  have hG : gcdN (Limb.val xs) (Limb.val ys) ≠ 1 := hgcd
                  by_cases h31 : n3 = 1
                  · subst h31
                    obtain ⟨g, o, eA, _, hc⟩ := h3.isN.2.2 (by decide)
                    have hc0 := hc 0 (by decide)
                    obtain ⟨u, hu⟩ : ∃ u, lim (limbs (gcdN (Limb.val xs) (Limb.val ys))) 0 = u := ⟨_, rfl⟩
                    have hu1 : u ≠ 1 := by
                      intro e
                      apply hG
                      have hv := h3.val
                      obtain ⟨y, hy⟩ : ∃ y, limbs (gcdN (Limb.val xs) (Limb.val ys)) = [y] := List.length_eq_one_iff.1 hn3
                      rw [hy] at hu hv
                      have hu2 : y = u := hu
                      rw [← hv, hu2, e]; rfl
                    rw [hu] at hc0
                    subst eA
                    have hcc : w3.cell? ⟨g, o, none⟩ = some (.int .u32 (u : Int)) := hc0
                    have hu0 : ((u : Int) == 1) = false := by rw [beq_eq_false_iff_ne]; omega
                    clear h3 hn3 hc hc0 hG hgcd hu hu1
                    go_wp2
                    go_ret
                    exact ⟨rfl, HW.out⟩
                  · have n31 : ((n3 : Int) == 1) = false := by rw [beq_eq_false_iff_ne]; omega
                    clear h3 hn3 hG hgcd h31
                    go_wp2
                    go_ret
                    exact ⟨rfl, HW.out⟩
                · have ks2 : s = false := by simpa using ks
                  subst ks2
                  have n5 : decide ((64 : Int) < (n : Int)) = false := by rw [decide_eq_false_iff_not]; omega
                  have n6 : decide ((64 : Int) < (m : Int)) = false := by rw [decide_eq_false_iff_not]; omega
                  have HGC := Lib.hid hgcd
                  have HN : RowKit.Hid (n ≤ 64 ∧ m ≤ 64) := ⟨by omega, by omega⟩
                  have K1 : RowKit.Hid (decide (xs = limbs (Limb.val xs)) = true) := by show _ = _; simpa using k1
                  have K2 : RowKit.Hid (decide (ys = limbs (Limb.val ys)) = true) := by show _ = _; simpa using k2
                  clear k1 k2 k3 k4 k5 k6 hgcd
                  go_enter Tryz.func74, Tryz.ntmps74
                  go_wp2_with fail
                  refine (refTrimmed_c HX.out (by omega) true K1.out).mono ?_
                  rintro e w2 ⟨rfl, rfl⟩
                  go_wp2_with fail
                  refine (refTrimmed_c HY.out (by omega) true K2.out).mono ?_
                  rintro e w2 ⟨rfl, rfl⟩
                  go_wp2_with fail
                  refine (refGcd_c (HX.out.short HN.out.1) (HY.out.short HN.out.2) (by decide) (by decide)).mono ?_
                  rintro e w3 ⟨A3, n3, c3, rfl, h3, bn⟩
                  replace HW := Lib.hid (below_two HW.out bn)
                  clear bn c0 c1 c2
                  have hgcd := HGC.out
                  have hn3 := h3.isN.len
                  have hG : gcdN (Limb.val xs) (Limb.val ys) ≠ 1 := hgcd
                  by_cases h31 : n3 = 1
                  · subst h31
                    obtain ⟨g, o, eA, _, hc⟩ := h3.isN.2.2 (by decide)
                    have hc0 := hc 0 (by decide)
                    obtain ⟨u, hu⟩ : ∃ u, lim (limbs (gcdN (Limb.val xs) (Limb.val ys))) 0 = u := ⟨_, rfl⟩
                    have hu1 : u ≠ 1 := by
                      intro e
                      apply hG
                      have hv := h3.val
                      obtain ⟨y, hy⟩ : ∃ y, limbs (gcdN (Limb.val xs) (Limb.val ys)) = [y] := List.length_eq_one_iff.1 hn3
                      rw [hy] at hu hv
                      have hu2 : y = u := hu
                      rw [← hv, hu2, e]; rfl
                    rw [hu] at hc0
                    subst eA
                    have hcc : w3.cell? ⟨g, o, none⟩ = some (.int .u32 (u : Int)) := hc0
                    have hu0 : ((u : Int) == 1) = false := by rw [beq_eq_false_iff_ne]; omega
                    clear h3 hn3 hc hc0 hG hgcd hu hu1
                    go_wp2
                    go_ret
                    exact ⟨rfl, HW.out⟩
                  · have n31 : ((n3 : Int) == 1) = false := by rw [beq_eq_false_iff_ne]; omega
                    clear h3 hn3 hG hgcd h31
                    go_wp2
                    go_ret
                    exact ⟨rfl, HW.out⟩
    · have hgf : goodV s xs ys = false := by
        rw [Bool.eq_false_iff]
        intro h
        obtain ⟨g1, g2, g3, g4, g5, g6, g7⟩ := goodV_iff.1 h
        exact k2 g2
      obtain rfl : v = false := hg.symm.trans hgf
      clear hg hgf hlx hlt hsx hsy
      have K1 : RowKit.Hid (decide (xs = limbs (Limb.val xs)) = true) := by show _ = _; simpa using k1
      have K2 : RowKit.Hid (decide (ys = limbs (Limb.val ys)) = false) := by show _ = _; simpa using k2
      clear k1 k2
      go_enter Tryz.func74, Tryz.ntmps74
      go_wp2_with fail
      refine (refTrimmed_c HX.out (by omega) true K1.out).mono ?_
      rintro e w2 ⟨rfl, rfl⟩
      go_wp2_with fail
      refine (refTrimmed_c HY.out (by omega) false K2.out).mono ?_
      rintro e w2 ⟨rfl, rfl⟩
      go_wp2
      go_ret
      exact ⟨rfl, HW.out⟩
  · have hgf : goodV s xs ys = false := by
      rw [Bool.eq_false_iff]
      intro h
      obtain ⟨g1, g2, g3, g4, g5, g6, g7⟩ := goodV_iff.1 h
      exact k1 g1
    obtain rfl : v = false := hg.symm.trans hgf
    clear hg hgf hlx hlt hsx hsy
    have K1 : RowKit.Hid (decide (xs = limbs (Limb.val xs)) = false) := by show _ = _; simpa using k1
    clear k1
    go_enter Tryz.func74, Tryz.ntmps74
    go_wp2_with fail
    refine (refTrimmed_c HX.out (by omega) false K1.out).mono ?_
    rintro e w2 ⟨rfl, rfl⟩
    go_wp2
    go_ret
    exact ⟨rfl, HW.out⟩

end
end Go.Proofs.YtjpoolddgocbbaaGreatDoor

/- What the reference of layer 7 answers (Add, Mul, Sub, Div), as contracts over memory. Conditions: sizes of at most so many limbs. -/
namespace Go.Proofs.YtjpoolddgocbbaaGreatDoor
open Go.RowKit Limb
set_option linter.unusedVariables false
section
variable {w : World} {s s' : Bool} {A B A' B' : Option Addr} {n c m d n' c' m' d' : Nat} {xs ys xs' ys' : List Nat} {x y : Int} {o o' : Option Rat} {a b L L' : Nat}
set_option maxHeartbeats 4000000 in
set_option maxRecDepth 100000 in
theorem refQDiv_c (hx : QQ w s A n c xs B m d ys o L) (hx' : QQ w s' A' n' c' xs' B' m' d' ys' o' L') (h1 : L ≤ 1000) (h2 : L' ≤ 1000) (r : Option Rat) (e : Int) (hR : divR o o' = (r, e)) :
    Calls Tryz.prog 44 #[.agg #[.bool s, .slice A n c, .slice B m d], .agg #[.bool s', .slice A' n' c', .slice B' m' d']] w fun ee w' => ∃ A2 n2 c2 B2 m2 d2, ee = .returned (.agg #[.bool (sg (oTop r)), .slice A2 n2 c2, .slice B2 m2 d2, .int .i64 e]) ∧ QT w' A2 n2 c2 B2 m2 d2 r ∧ Below w.heap.size w w' := by
  cases o with
  | none =>
    have hR2 : ((none : Option Rat), (1 : Int)) = (r, e) := hR
    cases hR2
    clear hR
    have b0 := below_new w (.cells #[Value.bool s, Value.slice A n c, Value.slice B m d] 28)
    have b1 := below_new (w.alloc (.cells #[Value.bool s, Value.slice A n c, Value.slice B m d] 28)) (.cells #[Value.bool s', Value.slice A' n' c', Value.slice B' m' d'] 28)
    have b2 := below_new ((w.alloc (.cells #[Value.bool s, Value.slice A n c, Value.slice B m d] 28)).alloc (.cells #[Value.bool s', Value.slice A' n' c', Value.slice B' m' d'] 28)) (.cells #[Value.bool false, Value.slice none 0 0, Value.slice none 0 0, Value.int IntKind.i64 0] 33)
    have HW := Lib.hid (below_two (below_two b0 b1) b2)
    have HQ0 := Lib.hid (hx.below HW.out)
    have HQ1 := Lib.hid (hx'.below HW.out)
    have r0 := ((row3_new w 28 (.bool s) (.slice A n c) (.slice B m d)).below b1).below b2
    have r1 := (row3_new (w.alloc (.cells #[Value.bool s, Value.slice A n c, Value.slice B m d] 28)) 28 (.bool s') (.slice A' n' c') (.slice B' m' d')).below b2
    have rz := row4_new ((w.alloc (.cells #[Value.bool s, Value.slice A n c, Value.slice B m d] 28)).alloc (.cells #[Value.bool s', Value.slice A' n' c', Value.slice B' m' d'] 28)) 33 (.bool false) (.slice none 0 0) (.slice none 0 0) (.int .i64 0)
    simp only [World.size_alloc] at r1 rz
    clear b0 b1 b2 hx hx'
    go_enter Tryz.func44, Tryz.ntmps44
    go_wp2_with fail
    generalize ((w.alloc (.cells #[Value.bool s, Value.slice A n c, Value.slice B m d] 28)).alloc (.cells #[Value.bool s', Value.slice A' n' c', Value.slice B' m' d'] 28)).alloc (.cells #[Value.bool false, Value.slice none 0 0, Value.slice none 0 0, Value.int IntKind.i64 0] 33) = w1 at *
    have HR0 := Lib.hid r0
    have HR1 := Lib.hid r1
    have HZ := Lib.hid rz
    have Hq : RowKit.Hid (w.heap.size ≤ w.heap.size + 1 + 1) := by show _ ≤ _; omega
    clear r0 r1 rz
    refine (refGood_c HQ0.out (by omega) false rfl).mono ?_
    rintro e w2 ⟨rfl, bn⟩
    replace HQ0 := Lib.hid (HQ0.out.below bn)
    replace HR0 := Lib.hid (HR0.out.below bn)
    replace HQ1 := Lib.hid (HQ1.out.below bn)
    replace HR1 := Lib.hid (HR1.out.below bn)
    replace HZ := Lib.hid (HZ.out.below bn)
    replace HW := Lib.hid (below_two HW.out bn)
    clear bn
    have e0 := HZ.out.c0
    have e1 := HZ.out.c1
    have e2 := HZ.out.c2
    have e3 := HZ.out.c3
    have f0 := HZ.out.free 0
    have f1 := HZ.out.free 1
    have f2 := HZ.out.free 2
    have f3 := HZ.out.free 3
    have HF := Lib.hid (HZ.out.fill (.bool false) (.slice none 0 0) (.slice none 0 0) (.int .i64 1))
    have HB := Lib.hid (below_fill4 HW.out Hq.out (.bool false) (.slice none 0 0) (.slice none 0 0) (.int .i64 1))
    go_wp2
    refine bodyPost_ret (results_cell_row rfl _ _ _ 33 #[.bool false, .slice none 0 0, .slice none 0 0, .int .i64 1] (0, 0) _ rfl HF.out Tryz.underlying33 rfl got7_size) rfl ?_
    exact ⟨none, 0, 0, none, 0, 0, rfl, qt_none _ 0 0, HB.out⟩
  | some p =>
    cases o' with
    | none =>
      have hR2 : ((none : Option Rat), (1 : Int)) = (r, e) := hR
      cases hR2
      clear hR
      have b0 := below_new w (.cells #[Value.bool s, Value.slice A n c, Value.slice B m d] 28)
      have b1 := below_new (w.alloc (.cells #[Value.bool s, Value.slice A n c, Value.slice B m d] 28)) (.cells #[Value.bool s', Value.slice A' n' c', Value.slice B' m' d'] 28)
      have b2 := below_new ((w.alloc (.cells #[Value.bool s, Value.slice A n c, Value.slice B m d] 28)).alloc (.cells #[Value.bool s', Value.slice A' n' c', Value.slice B' m' d'] 28)) (.cells #[Value.bool false, Value.slice none 0 0, Value.slice none 0 0, Value.int IntKind.i64 0] 33)
      have HW := Lib.hid (below_two (below_two b0 b1) b2)
      have HQ0 := Lib.hid (hx.below HW.out)
      have HQ1 := Lib.hid (hx'.below HW.out)
      have r0 := ((row3_new w 28 (.bool s) (.slice A n c) (.slice B m d)).below b1).below b2
      have r1 := (row3_new (w.alloc (.cells #[Value.bool s, Value.slice A n c, Value.slice B m d] 28)) 28 (.bool s') (.slice A' n' c') (.slice B' m' d')).below b2
      have rz := row4_new ((w.alloc (.cells #[Value.bool s, Value.slice A n c, Value.slice B m d] 28)).alloc (.cells #[Value.bool s', Value.slice A' n' c', Value.slice B' m' d'] 28)) 33 (.bool false) (.slice none 0 0) (.slice none 0 0) (.int .i64 0)
      simp only [World.size_alloc] at r1 rz
      clear b0 b1 b2 hx hx'
      go_enter Tryz.func44, Tryz.ntmps44
      go_wp2_with fail
      generalize ((w.alloc (.cells #[Value.bool s, Value.slice A n c, Value.slice B m d] 28)).alloc (.cells #[Value.bool s', Value.slice A' n' c', Value.slice B' m' d'] 28)).alloc (.cells #[Value.bool false, Value.slice none 0 0, Value.slice none 0 0, Value.int IntKind.i64 0] 33) = w1 at *
      have HR0 := Lib.hid r0
      have HR1 := Lib.hid r1
      have HZ := Lib.hid rz
      have Hq : RowKit.Hid (w.heap.size ≤ w.heap.size + 1 + 1) := by show _ ≤ _; omega
      clear r0 r1 rz
      refine (refGood_c HQ0.out (by omega) true rfl).mono ?_
      rintro e w2 ⟨rfl, bn⟩
      replace HQ0 := Lib.hid (HQ0.out.below bn)
      replace HR0 := Lib.hid (HR0.out.below bn)
      replace HQ1 := Lib.hid (HQ1.out.below bn)
      replace HR1 := Lib.hid (HR1.out.below bn)
      replace HZ := Lib.hid (HZ.out.below bn)
      replace HW := Lib.hid (below_two HW.out bn)
      clear bn
      have c10 := HR1.out.c0
      have c11 := HR1.out.c1
      have c12 := HR1.out.c2
      go_wp2_with fail
      clear c10 c11 c12
      refine (refGood_c HQ1.out (by omega) false rfl).mono ?_
      rintro e w2 ⟨rfl, bn⟩
      replace HQ0 := Lib.hid (HQ0.out.below bn)
      replace HR0 := Lib.hid (HR0.out.below bn)
      replace HQ1 := Lib.hid (HQ1.out.below bn)
      replace HR1 := Lib.hid (HR1.out.below bn)
      replace HZ := Lib.hid (HZ.out.below bn)
      replace HW := Lib.hid (below_two HW.out bn)
      clear bn
      have e0 := HZ.out.c0
      have e1 := HZ.out.c1
      have e2 := HZ.out.c2
      have e3 := HZ.out.c3
      have f0 := HZ.out.free 0
      have f1 := HZ.out.free 1
      have f2 := HZ.out.free 2
      have f3 := HZ.out.free 3
      have HF := Lib.hid (HZ.out.fill (.bool false) (.slice none 0 0) (.slice none 0 0) (.int .i64 1))
      have HB := Lib.hid (below_fill4 HW.out Hq.out (.bool false) (.slice none 0 0) (.slice none 0 0) (.int .i64 1))
      go_wp2
      refine bodyPost_ret (results_cell_row rfl _ _ _ 33 #[.bool false, .slice none 0 0, .slice none 0 0, .int .i64 1] (0, 0) _ rfl HF.out Tryz.underlying33 rfl got7_size) rfl ?_
      exact ⟨none, 0, 0, none, 0, 0, rfl, qt_none _ 0 0, HB.out⟩
    | some q =>
      by_cases h0 : q.num = 0
      · obtain ⟨rfl, rfl⟩ : r = none ∧ e = 3 := by
          have h2 : (if q.num = 0 then ((none : Option Rat), (3 : Int)) else limR (p / q)) = (r, e) := hR
          rw [if_pos h0] at h2
          cases h2; exact ⟨rfl, rfl⟩
        clear hR
        have n0 : ((n' : Int) == 0) = true := by
          rw [beq_iff_eq]
          have hl := hx'.some.2.2.2.2.1.nn.isN.len
          rw [hx'.some.2.1, h0] at hl
          have hl2 : (limbs (0 : Int).natAbs).length = 0 := by rw [show (0 : Int).natAbs = 0 from rfl, limbs_zero]; rfl
          omega
        clear h0
        have b0 := below_new w (.cells #[Value.bool s, Value.slice A n c, Value.slice B m d] 28)
        have b1 := below_new (w.alloc (.cells #[Value.bool s, Value.slice A n c, Value.slice B m d] 28)) (.cells #[Value.bool s', Value.slice A' n' c', Value.slice B' m' d'] 28)
        have b2 := below_new ((w.alloc (.cells #[Value.bool s, Value.slice A n c, Value.slice B m d] 28)).alloc (.cells #[Value.bool s', Value.slice A' n' c', Value.slice B' m' d'] 28)) (.cells #[Value.bool false, Value.slice none 0 0, Value.slice none 0 0, Value.int IntKind.i64 0] 33)
        have HW := Lib.hid (below_two (below_two b0 b1) b2)
        have HQ0 := Lib.hid (hx.below HW.out)
        have HQ1 := Lib.hid (hx'.below HW.out)
        have r0 := ((row3_new w 28 (.bool s) (.slice A n c) (.slice B m d)).below b1).below b2
        have r1 := (row3_new (w.alloc (.cells #[Value.bool s, Value.slice A n c, Value.slice B m d] 28)) 28 (.bool s') (.slice A' n' c') (.slice B' m' d')).below b2
        have rz := row4_new ((w.alloc (.cells #[Value.bool s, Value.slice A n c, Value.slice B m d] 28)).alloc (.cells #[Value.bool s', Value.slice A' n' c', Value.slice B' m' d'] 28)) 33 (.bool false) (.slice none 0 0) (.slice none 0 0) (.int .i64 0)
        simp only [World.size_alloc] at r1 rz
        clear b0 b1 b2 hx hx'
        go_enter Tryz.func44, Tryz.ntmps44
        go_wp2_with fail
        generalize ((w.alloc (.cells #[Value.bool s, Value.slice A n c, Value.slice B m d] 28)).alloc (.cells #[Value.bool s', Value.slice A' n' c', Value.slice B' m' d'] 28)).alloc (.cells #[Value.bool false, Value.slice none 0 0, Value.slice none 0 0, Value.int IntKind.i64 0] 33) = w1 at *
        have HR0 := Lib.hid r0
        have HR1 := Lib.hid r1
        have HZ := Lib.hid rz
        have Hq : RowKit.Hid (w.heap.size ≤ w.heap.size + 1 + 1) := by show _ ≤ _; omega
        clear r0 r1 rz
        refine (refGood_c HQ0.out (by omega) true rfl).mono ?_
        rintro e w2 ⟨rfl, bn⟩
        replace HQ0 := Lib.hid (HQ0.out.below bn)
        replace HR0 := Lib.hid (HR0.out.below bn)
        replace HQ1 := Lib.hid (HQ1.out.below bn)
        replace HR1 := Lib.hid (HR1.out.below bn)
        replace HZ := Lib.hid (HZ.out.below bn)
        replace HW := Lib.hid (below_two HW.out bn)
        clear bn
        have c10 := HR1.out.c0
        have c11 := HR1.out.c1
        have c12 := HR1.out.c2
        go_wp2_with fail
        clear c10 c11 c12
        refine (refGood_c HQ1.out (by omega) true rfl).mono ?_
        rintro e w2 ⟨rfl, bn⟩
        replace HQ0 := Lib.hid (HQ0.out.below bn)
        replace HR0 := Lib.hid (HR0.out.below bn)
        replace HQ1 := Lib.hid (HQ1.out.below bn)
        replace HR1 := Lib.hid (HR1.out.below bn)
        replace HZ := Lib.hid (HZ.out.below bn)
        replace HW := Lib.hid (below_two HW.out bn)
        clear bn
        have c10 := HR1.out.c0
        have c11 := HR1.out.c1
        have c12 := HR1.out.c2
        have e0 := HZ.out.c0
        have e1 := HZ.out.c1
        have e2 := HZ.out.c2
        have e3 := HZ.out.c3
        have f0 := HZ.out.free 0
        have f1 := HZ.out.free 1
        have f2 := HZ.out.free 2
        have f3 := HZ.out.free 3
        have HF := Lib.hid (HZ.out.fill (.bool false) (.slice none 0 0) (.slice none 0 0) (.int .i64 3))
        have HB := Lib.hid (below_fill4 HW.out Hq.out (.bool false) (.slice none 0 0) (.slice none 0 0) (.int .i64 3))
        go_wp2
        refine bodyPost_ret (results_cell_row rfl _ _ _ 33 #[.bool false, .slice none 0 0, .slice none 0 0, .int .i64 3] (0, 0) _ rfl HF.out Tryz.underlying33 rfl got7_size) rfl ?_
        exact ⟨none, 0, 0, none, 0, 0, rfl, qt_none _ 0 0, HB.out⟩
      · have hR0 : limR (p / q) = (r, e) := by
          have h2 : (if q.num = 0 then ((none : Option Rat), (3 : Int)) else limR (p / q)) = (r, e) := hR
          rwa [if_neg h0] at h2
        clear hR
        have hR := hR0
        clear hR0
        obtain ⟨z, hz⟩ : ∃ z : Rat, p / q = z := ⟨_, rfl⟩
        have hL : limR z = (r, e) := by rw [← hz]; exact hR
        clear hR
        have hL2 : (limQ z, limE z) = (r, e) := hL
        cases hL2
        clear hL
        have HM : RowKit.Hid (mkRat (p.num * zOf (sg q.num) q.den) (p.den * q.num.natAbs) = z) := by
          show _ = _
          rw [← hz]; exact (div_mk h0).symm
        clear hz
        have n0 : ((n' : Int) == 0) = false := by
          rw [beq_eq_false_iff_ne]
          intro h
          have hl := hx'.some.2.2.2.2.1.nn.isN.len
          rw [hx'.some.2.1] at hl
          have hl2 := len_limbs_zero.1 (hl.trans (by omega))
          omega
        have HN0 : RowKit.Hid (q.num.natAbs ≠ 0) := by show _ ≠ _; omega
        have HSG := Lib.hid hx'.some.1
        clear h0
        have b0 := below_new w (.cells #[Value.bool s, Value.slice A n c, Value.slice B m d] 28)
        have b1 := below_new (w.alloc (.cells #[Value.bool s, Value.slice A n c, Value.slice B m d] 28)) (.cells #[Value.bool s', Value.slice A' n' c', Value.slice B' m' d'] 28)
        have b2 := below_new ((w.alloc (.cells #[Value.bool s, Value.slice A n c, Value.slice B m d] 28)).alloc (.cells #[Value.bool s', Value.slice A' n' c', Value.slice B' m' d'] 28)) (.cells #[Value.bool false, Value.slice none 0 0, Value.slice none 0 0, Value.int IntKind.i64 0] 33)
        have HW := Lib.hid (below_two (below_two b0 b1) b2)
        have HQ0 := Lib.hid (hx.below HW.out)
        have HQ1 := Lib.hid (hx'.below HW.out)
        have r0 := ((row3_new w 28 (.bool s) (.slice A n c) (.slice B m d)).below b1).below b2
        have r1 := (row3_new (w.alloc (.cells #[Value.bool s, Value.slice A n c, Value.slice B m d] 28)) 28 (.bool s') (.slice A' n' c') (.slice B' m' d')).below b2
        have rz := row4_new ((w.alloc (.cells #[Value.bool s, Value.slice A n c, Value.slice B m d] 28)).alloc (.cells #[Value.bool s', Value.slice A' n' c', Value.slice B' m' d'] 28)) 33 (.bool false) (.slice none 0 0) (.slice none 0 0) (.int .i64 0)
        simp only [World.size_alloc] at r1 rz
        clear b0 b1 b2 hx hx'
        go_enter Tryz.func44, Tryz.ntmps44
        go_wp2_with fail
        generalize ((w.alloc (.cells #[Value.bool s, Value.slice A n c, Value.slice B m d] 28)).alloc (.cells #[Value.bool s', Value.slice A' n' c', Value.slice B' m' d'] 28)).alloc (.cells #[Value.bool false, Value.slice none 0 0, Value.slice none 0 0, Value.int IntKind.i64 0] 33) = w1 at *
        have HR0 := Lib.hid r0
        have HR1 := Lib.hid r1
        have HZ := Lib.hid rz
        have Hq : RowKit.Hid (w.heap.size ≤ w.heap.size + 1 + 1) := by show _ ≤ _; omega
        clear r0 r1 rz
        refine (refGood_c HQ0.out (by omega) true rfl).mono ?_
        rintro e w2 ⟨rfl, bn⟩
        replace HQ0 := Lib.hid (HQ0.out.below bn)
        replace HR0 := Lib.hid (HR0.out.below bn)
        replace HQ1 := Lib.hid (HQ1.out.below bn)
        replace HR1 := Lib.hid (HR1.out.below bn)
        replace HZ := Lib.hid (HZ.out.below bn)
        replace HW := Lib.hid (below_two HW.out bn)
        clear bn
        have c10 := HR1.out.c0
        have c11 := HR1.out.c1
        have c12 := HR1.out.c2
        go_wp2_with fail
        clear c10 c11 c12
        refine (refGood_c HQ1.out (by omega) true rfl).mono ?_
        rintro e wS ⟨rfl, bn⟩
        replace HQ0 := Lib.hid (HQ0.out.below bn)
        replace HR0 := Lib.hid (HR0.out.below bn)
        replace HQ1 := Lib.hid (HQ1.out.below bn)
        replace HR1 := Lib.hid (HR1.out.below bn)
        replace HZ := Lib.hid (HZ.out.below bn)
        replace HW := Lib.hid (below_two HW.out bn)
        clear bn
        have HX := Lib.hid HQ0.out.some.2.2.2.2.1
        have HY := Lib.hid HQ0.out.some.2.2.2.2.2.1
        have HX1 := Lib.hid HQ1.out.some.2.2.2.2.1
        have HY1 := Lib.hid HQ1.out.some.2.2.2.2.2.1
        have c10 := HR1.out.c0
        have c11 := HR1.out.c1
        have c12 := HR1.out.c2
        go_wp2_with fail
        clear c10 c11 c12
        refine region_free 13 1 [20, 21, 22, 23, 24, 25, 26, 27, 28, 29, 30, 31, 32] ?aF14 (fun wx => Below wS.heap.size wS wx) (fun k vv wx => match k with
            | 0 => vv = .agg #[.bool s, .slice A n c, .slice B m d]
            | 1 => vv = .pointer (some ⟨w.heap.size + 1, 0, none⟩)
            | 2 => vv = .pointer (some ⟨w.heap.size + 1, 0, none⟩)
            | 3 => vv = .bool s'
            | 4 => vv = .pointer (some ⟨w.heap.size + 1, 2, none⟩)
            | 5 => vv = .slice B' m' d'
            | 6 => ∃ (e0 : Option Addr) (e1 : Nat) (e2 : Nat), vv = .agg #[.bool (sg (zOf (sg q.num) q.den)), .slice e0 e1 e2] ∧ ZZ wx (sg (zOf (sg q.num) q.den)) e0 e1 e2 (limbs (zOf (sg q.num) q.den).natAbs) (zOf (sg q.num) q.den) 64
            | 7 => vv = .pointer (some ⟨w.heap.size + 1, 0, none⟩)
            | 8 => vv = .pointer (some ⟨w.heap.size + 1, 1, none⟩)
            | 9 => vv = .slice A' n' c'
            | 10 => ∃ (e0 : Option Addr) (e1 : Nat) (e2 : Nat), vv = .agg #[.bool (sg (zOf (sg q.num) q.den)), .slice e0 e1 e2, .slice A' n' c'] ∧ ZZ wx (sg (zOf (sg q.num) q.den)) e0 e1 e2 (limbs (zOf (sg q.num) q.den).natAbs) (zOf (sg q.num) q.den) 64
            | 11 => ∃ (e0 : Option Addr) (e1 : Nat) (e2 : Nat) (e3 : Option Addr) (e4 : Nat) (e5 : Nat), vv = .agg #[.bool (sg z.num), .slice e0 e1 e2, .slice e3 e4 e5] ∧ ZZ wx (sg z.num) e0 e1 e2 (limbs z.num.natAbs) z.num (64 + 64) ∧ NN wx e3 e4 e5 (limbs z.den) z.den (64 + 64)
            | _ => ∃ (e0 : Option Addr) (e1 : Nat) (e2 : Nat) (e3 : Option Addr) (e4 : Nat) (e5 : Nat), vv = .agg #[.bool (sg (oTop (limQ z))), .slice e0 e1 e2, .slice e3 e4 e5, .int .i64 (limE z)] ∧ QT wx e0 e1 e2 e3 e4 e5 (limQ z))
          (fun k => false) (by kernel_rfl) ?haF14 rfl (by kernel_rfl) (by kernel_rfl) (fun _ _ _ _ _ h => h) ?hSb14 ?hPb14 ?hS14 ?hop14 ?hfin14
        case haF14 =>
          intro vals
          simp only [fillAll, List.getElem?_cons_zero, List.getElem?_cons_succ, Act.put, List.setIfInBounds_toArray, List.set_cons_zero, List.set_cons_succ]
          exact rfl
        case hSb14 => exact fun wx w2 hb hS => below_two hS hb
        case hPb14 =>
          intro k v wa wb hb h
          match k, h with
          | 0, h => exact h
          | 1, h => exact h
          | 2, h => exact h
          | 3, h => exact h
          | 4, h => exact h
          | 5, h => exact h
          | 6, ⟨e0, e1, e2, h1, g0⟩ => exact ⟨e0, e1, e2, h1, g0.below hb⟩
          | 7, h => exact h
          | 8, h => exact h
          | 9, h => exact h
          | 10, ⟨e0, e1, e2, h1, g0⟩ => exact ⟨e0, e1, e2, h1, g0.below hb⟩
          | 11, ⟨e0, e1, e2, e3, e4, e5, h1, g0, g1⟩ => exact ⟨e0, e1, e2, e3, e4, e5, h1, g0.below hb, g1.below hb⟩
          | _ + 12, ⟨e0, e1, e2, e3, e4, e5, h1, g0⟩ => exact ⟨e0, e1, e2, e3, e4, e5, h1, g0.below hb⟩
        case hS14 => exact (Below.refl _ _).drew
        case hop14 =>
          refine .cons (k := 0) ?_ (.cons (k := 1) ?_ (.cons (k := 2) ?_ (.cons (k := 3) ?_ (.cons (k := 4) ?_ (.cons (k := 5) ?_ (.cons (k := 6) ?_ (.cons (k := 7) ?_ (.cons (k := 8) ?_ (.cons (k := 9) ?_ (.cons (k := 10) ?_ (.cons (k := 11) ?_ (.cons (k := 12) ?_ (.nil)))))))))))))
          all_goals intro vals wr hS hd KC hK
          all_goals (show Oper.wp _ _ _ _ _ _; dsimp only)
          · have z0 := (HR0.out.below hS).c0
            have z1 := (HR0.out.below hS).c1
            have z2 := (HR0.out.below hS).c2
            go_simp
            refine hK _ _ rfl (Below.refl _ _) (by first | rfl | simp) (fun h => by cases h)
          · go_simp
            refine hK _ _ rfl (Below.refl _ _) (by first | rfl | simp) (fun h => by cases h)
          · have d1 : vals 1 = _ := hd 1 (by decide +kernel)
            rw [d1]
            go_simp
            refine hK _ _ rfl (Below.refl _ _) (by first | rfl | simp) (fun h => by cases h)
          · have d2 : vals 2 = _ := hd 2 (by decide +kernel)
            rw [d2]
            have z0 := (HR1.out.below hS).c0
            go_simp
            refine hK _ _ rfl (Below.refl _ _) (by first | rfl | simp) (fun h => by cases h)
          · go_simp
            refine hK _ _ rfl (Below.refl _ _) (by first | rfl | simp) (fun h => by cases h)
          · have d4 : vals 4 = _ := hd 4 (by decide +kernel)
            rw [d4]
            have z0 := (HR1.out.below hS).c2
            go_simp
            refine hK _ _ rfl (Below.refl _ _) (by first | rfl | simp) (fun h => by cases h)
          · have d3 : vals 3 = _ := hd 3 (by decide +kernel)
            have d5 : vals 5 = _ := hd 5 (by decide +kernel)
            rw [d3, d5]
            go_simp
            go_at_call 25
            with_reducible refine (refMake_c (HY1.out.below hS) (by decide) (zOf (sg q.num) q.den) (by rw [HSG.out])).mono ?_
            rintro e w2 ⟨r0, r1, r2, rfl, f0, bn_r⟩
            refine hK _ _ rfl bn_r ⟨_, _, _, rfl, f0⟩ (fun h => by cases h)
          · go_simp
            refine hK _ _ rfl (Below.refl _ _) (by first | rfl | simp) (fun h => by cases h)
          · have d7 : vals 7 = _ := hd 7 (by decide +kernel)
            rw [d7]
            go_simp
            refine hK _ _ rfl (Below.refl _ _) (by first | rfl | simp) (fun h => by cases h)
          · have d8 : vals 8 = _ := hd 8 (by decide +kernel)
            rw [d8]
            have z0 := (HR1.out.below hS).c1
            go_simp
            refine hK _ _ rfl (Below.refl _ _) (by first | rfl | simp) (fun h => by cases h)
          · obtain ⟨A_6_0, n_6_1, n_6_2, d6, h_6_0⟩ := hd 6 (by decide +kernel)
            have d9 : vals 9 = _ := hd 9 (by decide +kernel)
            rw [d6, d9]
            go_simp
            refine hK _ _ rfl (Below.refl _ _) ⟨_, _, _, rfl, h_6_0⟩ (fun h => by cases h)
          · have d0 : vals 0 = _ := hd 0 (by decide +kernel)
            obtain ⟨A_10_0, n_10_1, n_10_2, d10, h_10_0⟩ := hd 10 (by decide +kernel)
            rw [d0, d10]
            go_simp
            go_at_call 75
            with_reducible refine (refTimes_c (HX.out.below hS) (HY.out.below hS) h_10_0 (HX1.out.below hS).nn (by decide) (by decide) p.den_nz HN0.out z HM.out).mono ?_
            rintro e w2 ⟨r0, r1, r2, r3, r4, r5, rfl, f0, f1, bn_r⟩
            refine hK _ _ rfl bn_r ⟨_, _, _, _, _, _, rfl, f0, f1⟩ (fun h => by cases h)
          · obtain ⟨A_11_0, n_11_1, n_11_2, A_11_3, n_11_4, n_11_5, d11, h_11_0, h_11_1⟩ := hd 11 (by decide +kernel)
            rw [d11]
            go_simp
            go_at_call 57
            with_reducible refine (refLimit_c h_11_0 h_11_1).mono ?_
            rintro e w2 ⟨r0, r1, r2, r3, r4, r5, rfl, f0, bn_r⟩
            refine hK _ _ rfl bn_r ⟨_, _, _, _, _, _, rfl, f0⟩ (fun h => by cases h)
        case hfin14 =>
          intro vals wr hS hP hne
          obtain ⟨A_12_0, n_12_1, n_12_2, A_12_3, n_12_4, n_12_5, ez_12, h_12_0⟩ := hP 12 (by decide)
          have hZ3 := HZ.out.below hS
          have hNo := hZ3.noLimb (by intro v e; cases e) (by intro v e; cases e) (by intro v e; cases e) (by intro v e; cases e)
          have e0 := hZ3.c0
          have e1 := hZ3.c1
          have e2 := hZ3.c2
          have e3 := hZ3.c3
          have f0 := hZ3.free 0
          have f1 := hZ3.free 1
          have f2 := hZ3.free 2
          have f3 := hZ3.free 3
          have HF := Lib.hid (hZ3.fill (.bool (sg (oTop (limQ z)))) (.slice A_12_0 n_12_1 n_12_2) (.slice A_12_3 n_12_4 n_12_5) (.int .i64 (limE z)))
          have HP := Lib.hid (QQ.fillR4 h_12_0 hNo (.bool (sg (oTop (limQ z)))) (.slice A_12_0 n_12_1 n_12_2) (.slice A_12_3 n_12_4 n_12_5) (.int .i64 (limE z)))
          have HB := Lib.hid (below_fill4 (below_two HW.out hS) Hq.out (.bool (sg (oTop (limQ z)))) (.slice A_12_0 n_12_1 n_12_2) (.slice A_12_3 n_12_4 n_12_5) (.int .i64 (limE z)))
          try dsimp only
          rw [ez_12]
          refine wpAny_ready (rs := [13]) (by kernel_rfl) (by simp) (AllReady.cons rfl (fun KC hK => ?_) AllReady.nil)
          go_simp
          refine hK _ _ ?_
          clear hK KC
          refine wpAny_done (by kernel_rfl) ?_ _
          go_wp2
          refine bodyPost_ret (results_cell_row rfl _ _ _ 33 #[.bool (sg (oTop (limQ z))), .slice A_12_0 n_12_1 n_12_2, .slice A_12_3 n_12_4 n_12_5, .int .i64 (limE z)] (0, 0) _ rfl HF.out Tryz.underlying33 rfl got7_size) rfl ?_
          exact ⟨A_12_0, n_12_1, n_12_2, A_12_3, n_12_4, n_12_5, rfl, HP.out, HB.out⟩

end
end Go.Proofs.YtjpoolddgocbbaaGreatDoor

/- What package whole's Of answers, as a contract over memory: whole numbers in the shortest limbs, 0 not below 0. Conditions: sizes of at most so many limbs; the table of powers of ten where texts are made or read. -/
namespace Go.Proofs.YtjpoolddgocbbaaGreatDoor
open Go.RowKit Limb
set_option linter.unusedVariables false
set_option maxHeartbeats 4000000 in
set_option maxRecDepth 100000 in
theorem wOf_c (v : Int) (h0 : -9223372036854775808 ≤ v) (h1 : v ≤ 9223372036854775807) (w : World) :
    Calls Tryz.prog 36 #[.int .i64 v] w fun e w' => ∃ A2 n2 c2, e = .returned (.agg #[.bool (sg v), .slice A2 n2 c2]) ∧ ZZ w' (sg v) A2 n2 c2 (limbs v.natAbs) v 2 ∧ Below w.heap.size w w' := by
  have HW := Lib.hid (below_new w zbox)
  have HZ : RowKit.Hid (ZB (w.alloc zbox) w.heap.size) := row2_new w _ _ _
  by_cases hv0 : v < 0
  · obtain ⟨u, hu⟩ : ∃ u, u = v.natAbs := ⟨_, rfl⟩
    have hlt : u < 18446744073709551616 := by omega
    have ec : IntKind.u64.wrap v = v + 18446744073709551616 := by rw [conv_u64 h0 h1, if_pos hv0]
    have en : IntKind.u64.wrap (-(v + 18446744073709551616)) = (u : Int) := by rw [IntKind.wrap_u64]; omega
    have HS : RowKit.Hid (zOf true u = v) := by
      show _ = _
      rw [hu]; unfold zOf; simp; omega
    have HSd : RowKit.Hid (zOf (decide (v < 0)) u = v) := by
      show _ = _
      rw [hu]; exact zz_zof
    have HC := Lib.hid (of_c u _ rfl hlt (w.alloc zbox))
    clear hu h0 h1
    go_enter Tryz.func36, Tryz.ntmps36
    go_wp2_with fail
    refine HC.out.mono ?_
    rintro e w2 ⟨A2, n2, c2, rfl, h2, bn⟩
    have BN2 := Lib.hid bn
    clear bn
    go_wp2_with fail
    refine (signed_c h2 _ v (by first | exact HS.out | simpa using HS.out | exact HSd.out)).mono ?_
    rintro e w4 ⟨rfl, h4, bm⟩
    have BN4 := Lib.hid (below_two BN2.out bm)
    obtain ⟨e0, e1, f0, f1⟩ := (HZ.out.below BN4.out).cells
    have HF := Lib.hid ((HZ.out.below BN4.out).fill (.bool (sg v)) (.slice A2 n2 c2))
    have HP := Lib.hid (h4.put (HZ.out.below BN4.out) (.bool (sg v)) (.slice A2 n2 c2))
    have HB := Lib.hid (below_fill (g := w.heap.size) (below_two HW.out BN4.out) (by omega) (.bool (sg v)) (.slice A2 n2 c2))
    clear bm
    go_wp2
    refine bodyPost_ret (results_cell_row rfl _ _ (w.heap.size) 26 #[.bool (sg v), .slice A2 n2 c2] (0, 0) _ rfl HF.out Tryz.underlying26 rfl int_size) rfl ?_
    exact ⟨A2, n2, c2, rfl, HP.out, HB.out⟩
  · obtain ⟨u, hu⟩ : ∃ u, u = v.natAbs := ⟨_, rfl⟩
    have hlt : u < 18446744073709551616 := by omega
    have ec : IntKind.u64.wrap v = (u : Int) := by rw [conv_u64 h0 h1, if_neg hv0]; omega
    have hv1 : 0 ≤ v := by omega
    have HS : RowKit.Hid (zOf false u = v) := by
      show _ = _
      rw [hu]; unfold zOf; simp; omega
    have HSd : RowKit.Hid (zOf (decide (v < 0)) u = v) := by
      show _ = _
      rw [hu]; exact zz_zof
    have HC := Lib.hid (of_c u _ rfl hlt (w.alloc zbox))
    clear hu h0 h1 hv0
    go_enter Tryz.func36, Tryz.ntmps36
    go_wp2_with fail
    refine HC.out.mono ?_
    rintro e w2 ⟨A2, n2, c2, rfl, h2, bn⟩
    have BN2 := Lib.hid bn
    clear bn
    go_wp2_with fail
    refine (signed_c h2 _ v (by first | exact HS.out | simpa using HS.out | exact HSd.out)).mono ?_
    rintro e w4 ⟨rfl, h4, bm⟩
    have BN4 := Lib.hid (below_two BN2.out bm)
    obtain ⟨e0, e1, f0, f1⟩ := (HZ.out.below BN4.out).cells
    have HF := Lib.hid ((HZ.out.below BN4.out).fill (.bool (sg v)) (.slice A2 n2 c2))
    have HP := Lib.hid (h4.put (HZ.out.below BN4.out) (.bool (sg v)) (.slice A2 n2 c2))
    have HB := Lib.hid (below_fill (g := w.heap.size) (below_two HW.out BN4.out) (by omega) (.bool (sg v)) (.slice A2 n2 c2))
    clear bm
    go_wp2
    refine bodyPost_ret (results_cell_row rfl _ _ (w.heap.size) 26 #[.bool (sg v), .slice A2 n2 c2] (0, 0) _ rfl HF.out Tryz.underlying26 rfl int_size) rfl ?_
    exact ⟨A2, n2, c2, rfl, HP.out, HB.out⟩

end Go.Proofs.YtjpoolddgocbbaaGreatDoor

/- What the statements' helpers keep.Rat and keep.OwnRat answer, as contracts over memory. Conditions: sizes of at most so many limbs. -/
namespace Go.Proofs.YtjpoolddgocbbaaGreatDoor
open Go.RowKit Limb
set_option linter.unusedVariables false
section
variable {w : World} {s s' : Bool} {A B A' B' : Option Addr} {n c m d n' c' m' d' : Nat} {xs ys xs' ys' : List Nat} {x y : Int} {o o' : Option Rat} {a b L L' : Nat}
set_option maxHeartbeats 4000000 in
set_option maxRecDepth 100000 in
theorem keepRat_c (hx : QQ w s A n c xs B m d ys o L) (hx' : QQ w s' A' n' c' xs' B' m' d' ys' o' L') (h1 : L ≤ 100000) (h2 : L' ≤ 100000) (v : Bool) (hv : (decide (s = s') && same xs xs' && same ys ys') = v) :
    Calls Tryz.prog 14 #[.agg #[.bool s, .slice A n c, .slice B m d], .agg #[.bool s', .slice A' n' c', .slice B' m' d']] w fun e w' => e = .returned (.bool v) ∧ Below w.heap.size w w' := by
  have b0 := below_new w (.cells #[Value.bool s, Value.slice A n c, Value.slice B m d] 28)
  have b1 := below_new (w.alloc (.cells #[Value.bool s, Value.slice A n c, Value.slice B m d] 28)) (.cells #[Value.bool s', Value.slice A' n' c', Value.slice B' m' d'] 28)
  have HW := Lib.hid (below_two b0 b1)
  have HQ0 := Lib.hid (hx.below HW.out)
  have HQ1 := Lib.hid (hx'.below HW.out)
  have r0 := (row3_new w 28 (.bool s) (.slice A n c) (.slice B m d)).below b1
  have r1 := row3_new (w.alloc (.cells #[Value.bool s, Value.slice A n c, Value.slice B m d] 28)) 28 (.bool s') (.slice A' n' c') (.slice B' m' d')
  simp only [World.size_alloc] at r1
  clear b0 b1 hx hx'
  cases ht : decide (s = s') && same xs xs' with
  | true =>
    have K2 : RowKit.Hid (same ys ys' = v) := by
      show _ = _
      rw [← hv, ht, Bool.true_and]
    have K := Lib.hid ht
    clear ht hv
    go_enter Tryz.func14, Tryz.ntmps14
    go_wp2_with fail
    generalize (w.alloc (.cells #[Value.bool s, Value.slice A n c, Value.slice B m d] 28)).alloc (.cells #[Value.bool s', Value.slice A' n' c', Value.slice B' m' d'] 28) = w1 at *
    have HR0 := Lib.hid r0
    have HR1 := Lib.hid r1
    clear r0 r1
    refine (keepInt_c HQ0.out.top HQ1.out.top (by omega) (by omega) true K.out).mono ?_
    rintro e w2 ⟨rfl, bn⟩
    replace HQ0 := Lib.hid (HQ0.out.below bn)
    replace HQ1 := Lib.hid (HQ1.out.below bn)
    replace HR0 := Lib.hid (HR0.out.below bn)
    replace HR1 := Lib.hid (HR1.out.below bn)
    replace HW := Lib.hid (below_two HW.out bn)
    clear bn
    have c00 := HR0.out.c0
    have c01 := HR0.out.c1
    have c02 := HR0.out.c2
    have c10 := HR1.out.c0
    have c11 := HR1.out.c1
    have c12 := HR1.out.c2
    go_wp2_with fail
    clear c00 c01 c02
    clear c10 c11 c12
    refine (keep_c HQ0.out.bot HQ1.out.bot (by omega) (by omega) v K2.out).mono ?_
    rintro e w3 ⟨rfl, bn⟩
    replace HW := Lib.hid (below_two HW.out bn)
    clear bn
    go_wp2
    go_ret
    exact ⟨rfl, HW.out⟩
  | false =>
    obtain rfl : v = false := by rw [← hv, ht]; rfl
    have K := Lib.hid ht
    clear ht hv
    go_enter Tryz.func14, Tryz.ntmps14
    go_wp2_with fail
    generalize (w.alloc (.cells #[Value.bool s, Value.slice A n c, Value.slice B m d] 28)).alloc (.cells #[Value.bool s', Value.slice A' n' c', Value.slice B' m' d'] 28) = w1 at *
    have HR0 := Lib.hid r0
    have HR1 := Lib.hid r1
    clear r0 r1
    refine (keepInt_c HQ0.out.top HQ1.out.top (by omega) (by omega) false K.out).mono ?_
    rintro e w2 ⟨rfl, bn⟩
    replace HQ0 := Lib.hid (HQ0.out.below bn)
    replace HQ1 := Lib.hid (HQ1.out.below bn)
    replace HR0 := Lib.hid (HR0.out.below bn)
    replace HR1 := Lib.hid (HR1.out.below bn)
    replace HW := Lib.hid (below_two HW.out bn)
    clear bn
    go_wp2
    go_ret
    exact ⟨rfl, HW.out⟩

end
end Go.Proofs.YtjpoolddgocbbaaGreatDoor

/- What the reference's Of of layer 7 answers, as a contract over memory. Conditions: sizes of at most so many limbs. -/
namespace Go.Proofs.YtjpoolddgocbbaaGreatDoor
open Go.RowKit Limb
set_option linter.unusedVariables false
section
variable {w : World} {s s' : Bool} {A B A' B' : Option Addr} {n c m d n' c' m' d' : Nat} {xs ys xs' ys' : List Nat} {x y : Int} {a b L L' : Nat}
set_option maxHeartbeats 4000000 in
set_option maxRecDepth 100000 in
theorem refQOf_c (hx : ZZ w s A n c xs x L) (hy : NN w B m d ys b L') (h1 : L ≤ 10000) (h2 : L' ≤ 10000) (r : Option Rat) (e : Int) (hR : ofR x b = (r, e)) :
    Calls Tryz.prog 27 #[.agg #[.bool s, .slice A n c], .slice B m d] w fun ee w' => ∃ A2 n2 c2 B2 m2 d2, ee = .returned (.agg #[.bool (sg (oTop r)), .slice A2 n2 c2, .slice B2 m2 d2, .int .i64 e]) ∧ QT w' A2 n2 c2 B2 m2 d2 r ∧ Below w.heap.size w w' := by
  have b0 := below_new w (.cells #[Value.bool s, Value.slice A n c] 26)
  have b1 := below_new (w.alloc (.cells #[Value.bool s, Value.slice A n c] 26)) (.cells #[Value.bool false, Value.slice none 0 0, Value.slice none 0 0, Value.int IntKind.i64 0] 33)
  have HW := Lib.hid (below_two b0 b1)
  have HX := Lib.hid (hx.below HW.out)
  have HY := Lib.hid (hy.below HW.out)
  have r0 := (row2_new w 26 (.bool s) (.slice A n c)).below b1
  have rz := row4_new (w.alloc (.cells #[Value.bool s, Value.slice A n c] 26)) 33 (.bool false) (.slice none 0 0) (.slice none 0 0) (.int .i64 0)
  simp only [World.size_alloc] at rz
  have Hq : RowKit.Hid (w.heap.size ≤ w.heap.size + 1) := Nat.le_succ _
  clear b0 b1 hx hy
  by_cases hb : b = 0
  · obtain ⟨rfl, rfl⟩ := ofR_zero hb hR
    clear hR
    have HB0 : RowKit.Hid (((blen b : Nat) : Int) = 0) := by show _ = _; rw [hb]; rfl
    clear hb
    go_enter Tryz.func27, Tryz.ntmps27
    go_wp2_with fail
    generalize (w.alloc (.cells #[Value.bool s, Value.slice A n c] 26)).alloc (.cells #[Value.bool false, Value.slice none 0 0, Value.slice none 0 0, Value.int IntKind.i64 0] 33) = w1 at *
    have HR0 := Lib.hid r0
    have HZ := Lib.hid rz
    clear r0 rz
    refine (refBits_c HY.out (by omega) 0 HB0.out).mono ?_
    rintro e w2 ⟨rfl, rfl⟩
    have e0 := HZ.out.c0
    have e1 := HZ.out.c1
    have e2 := HZ.out.c2
    have e3 := HZ.out.c3
    have f0 := HZ.out.free 0
    have f1 := HZ.out.free 1
    have f2 := HZ.out.free 2
    have f3 := HZ.out.free 3
    have HF := Lib.hid (HZ.out.fill (.bool false) (.slice none 0 0) (.slice none 0 0) (.int .i64 3))
    have HB := Lib.hid (below_fill4 HW.out Hq.out (.bool false) (.slice none 0 0) (.slice none 0 0) (.int .i64 3))
    go_wp2
    refine bodyPost_ret (results_cell_row rfl _ _ _ 33 #[.bool false, .slice none 0 0, .slice none 0 0, .int .i64 3] (0, 0) _ rfl HF.out Tryz.underlying33 rfl got7_size) rfl ?_
    exact ⟨none, 0, 0, none, 0, 0, rfl, qt_none _ 0 0, HB.out⟩
  · have hL := ofR_yes hb hR
    clear hR
    obtain ⟨z, hz⟩ : ∃ z, mkRat x b = z := ⟨_, rfl⟩
    rw [hz] at hL
    have hL2 : (limQ z, limE z) = (r, e) := hL
    cases hL2
    clear hL
    have HM := Lib.hid hz
    have HB := Lib.hid hb
    obtain ⟨u, hu⟩ : ∃ u : Int, ((blen b : Nat) : Int) = u := ⟨_, rfl⟩
    have hu0 : (u == 0) = false := by
      rw [beq_eq_false_iff_ne, ← hu]
      have := mt blen_eq_zero.1 hb
      omega
    have HB0 := Lib.hid hu
    clear hz hb hu
    go_enter Tryz.func27, Tryz.ntmps27
    go_wp2_with fail
    generalize (w.alloc (.cells #[Value.bool s, Value.slice A n c] 26)).alloc (.cells #[Value.bool false, Value.slice none 0 0, Value.slice none 0 0, Value.int IntKind.i64 0] 33) = w1 at *
    have HR0 := Lib.hid r0
    have HZ := Lib.hid rz
    clear r0 rz
    refine (refBits_c HY.out (by omega) u HB0.out).mono ?_
    rintro e w2 ⟨rfl, rfl⟩
    have c00 := HR0.out.c0
    have c01 := HR0.out.c1
    go_wp2_with fail
    clear c00 c01
    refine (refWide_c HX.out HY.out (by omega) (by omega) HB.out z HM.out).mono ?_
    rintro ee w3 ⟨A8, n8, c8, B8, m8, d8, rfl, h7, h8, bn⟩
    have H7 := Lib.hid h7
    have H8 := Lib.hid h8
    replace HZ := Lib.hid (HZ.out.below bn)
    replace HW := Lib.hid (below_two HW.out bn)
    clear bn h7 h8
    go_wp2_with fail
    refine (refLimit_c H7.out H8.out).mono ?_
    rintro ee w4 ⟨A9, n9, c9, B9, m9, d9, rfl, h9, bn⟩
    have hZ3 := HZ.out.below bn
    have hNo := hZ3.noLimb (by intro v e; cases e) (by intro v e; cases e) (by intro v e; cases e) (by intro v e; cases e)
    have e0 := hZ3.c0
    have e1 := hZ3.c1
    have e2 := hZ3.c2
    have e3 := hZ3.c3
    have f0 := hZ3.free 0
    have f1 := hZ3.free 1
    have f2 := hZ3.free 2
    have f3 := hZ3.free 3
    have HF := Lib.hid (hZ3.fill (.bool (sg (oTop (limQ z)))) (.slice A9 n9 c9) (.slice B9 m9 d9) (.int .i64 (limE z)))
    have HP := Lib.hid (QQ.fillR4 h9 hNo (.bool (sg (oTop (limQ z)))) (.slice A9 n9 c9) (.slice B9 m9 d9) (.int .i64 (limE z)))
    have HB := Lib.hid (below_fill4 (below_two HW.out bn) Hq.out (.bool (sg (oTop (limQ z)))) (.slice A9 n9 c9) (.slice B9 m9 d9) (.int .i64 (limE z)))
    clear hNo bn h9 hZ3
    go_wp2
    refine bodyPost_ret (results_cell_row rfl _ _ _ 33 #[.bool (sg (oTop (limQ z))), .slice A9 n9 c9, .slice B9 m9 d9, .int .i64 (limE z)] (0, 0) _ rfl HF.out Tryz.underlying33 rfl got7_size) rfl ?_
    exact ⟨A9, n9, c9, B9, m9, d9, rfl, HP.out, HB.out⟩

end
end Go.Proofs.YtjpoolddgocbbaaGreatDoor

/- What the reference of layer 9 answers (run), as a contract over memory. Condition: texts that can be read. -/
namespace Go.Proofs.YtjpoolddgocbbaaGreatDoor
open Go.RowKit Limb
set_option linter.unusedVariables false
theorem run_le {l : List Nat} {k : Nat} (h : k ≤ litRun l) : k ≤ l.length := Nat.le_trans h (litRun_le l)
theorem lim_run {l : List Nat} {k : Nat} (h : k < litRun l) : isDig (lim l k) = true := by
  have e : lim l k = lim (l.takeWhile isDig) k := by
    rw [← take_run]
    simp [lim, List.getD_eq_getElem?_getD, h]
  have h2 : k < (l.takeWhile isDig).length := h
  rw [e]
  have h3 : lim (l.takeWhile isDig) k = (l.takeWhile isDig)[k] := by simp [lim, List.getD_eq_getElem?_getD, List.getElem?_eq_getElem h2]
  rw [h3]
  exact List.all_eq_true.1 (allDig_run l) _ (List.getElem_mem h2)
theorem lim_run_stop {l : List Nat} (h : litRun l < l.length) : isDig (lim l (litRun l)) = false := by
  have e : l.drop (litRun l) = l.dropWhile isDig := by
    conv => lhs; rw [← List.takeWhile_append_dropWhile (p := isDig) (l := l)]
    rw [show litRun (l.takeWhile isDig ++ l.dropWhile isDig) = (l.takeWhile isDig).length by rw [List.takeWhile_append_dropWhile]; rfl, List.drop_left]
  have h2 : lim l (litRun l) = lim (l.dropWhile isDig) 0 := by rw [← e, lim_drop0]
  rw [h2]
  cases hd : l.dropWhile isDig with
  | nil => rw [hd] at e; have := congrArg List.length e; rw [List.length_drop] at this; simp at this; omega
  | cons x t =>
    have h3 := List.head_dropWhile_not isDig (l := l) (by rw [hd]; simp)
    simp only [hd, List.head_cons] at h3
    simpa [lim] using h3
theorem run_step {l : List Nat} {k : Nat} (h : k ≤ litRun l) (hk : k < l.length) (hd : isDig (lim l k) = true) : k + 1 ≤ litRun l := by
  rcases Nat.lt_or_ge k (litRun l) with h2 | h2
  · exact h2
  · obtain rfl : k = litRun l := by omega
    rw [lim_run_stop hk] at hd; cases hd
theorem run_stop {l : List Nat} {k : Nat} (h : k ≤ litRun l) (hd : isDig (lim l k) = false) : litRun l = k := by
  rcases Nat.lt_or_ge k (litRun l) with h2 | h2
  · rw [lim_run h2] at hd; cases hd
  · omega
theorem run_full {l : List Nat} {k : Nat} (h : k ≤ litRun l) (hk : k = l.length) : litRun l = k := by
  have := litRun_le l
  omega

set_option maxHeartbeats 1000000 in
set_option maxRecDepth 100000 in
theorem refLRun_c (s : ByteArray) (hs : s.size ≤ 9223372036854775807) (a : Nat) (ha : a ≤ s.size) (w : World) :
    Calls Tryz.prog 33 #[.string s, .int .i64 (a : Int)] w fun e w' => e = .returned (.int .i64 (litRun ((bytesOf s).drop a) : Int)) ∧ w = w' := by
  have hl := length_bytesOf s
  have HL := Lib.hid hl
  clear hl
  go_enter Tryz.func33, Tryz.ntmps33
  go_wp2
  go_loopw [5] (fun i wr => ∃ k : Nat, i = .int .i64 (k : Int) ∧ k ≤ s.size - a ∧ RowKit.Hid (k ≤ litRun ((bytesOf s).drop a)) ∧ w = wr) (fun i _ => s.size - (intOf i).toNat)
  case atStart => exact ⟨0, rfl, Nat.zero_le _, Nat.zero_le _, rfl⟩
  case round =>
    obtain ⟨k, rfl, hk, HK, rfl⟩ := hrel
    have HLD : RowKit.Hid (((bytesOf s).drop a).length = s.size - a) := by show _ = _; rw [List.length_drop, HL.out]
    by_cases hlt : a + k < s.size
    · obtain ⟨d, hd⟩ : ∃ d, (s[a + k]'hlt).toNat = d := ⟨_, rfl⟩
      have hdl : RowKit.Hid (lim ((bytesOf s).drop a) k = d) := by show _ = _; rw [lim_drop1, ← byte_at s (a + k) hlt, hd]
      by_cases h1 : 48 ≤ d
      · by_cases h2 : d ≤ 57
        · have HK2 : RowKit.Hid (k + 1 ≤ litRun ((bytesOf s).drop a)) := run_step HK.out (by rw [HLD.out]; omega) (by rw [hdl.out]; simp [isDig, h1, h2])
          clear hdl HK
          go_wp2
          go_roundw
          case rel => exact ⟨k + 1, by go_num, by omega, HK2, by first | rfl | trivial⟩
          case measure => simp [intOf]; omega
        · have HE : RowKit.Hid (litRun ((bytesOf s).drop a) = k) := run_stop HK.out (by rw [hdl.out]; simp [isDig, h2])
          have h3 : 57 < d := by omega
          clear hdl HK h2
          go_wp2
          go_ret
          exact ⟨by rw [HE.out]; rfl, rfl⟩
      · have HE : RowKit.Hid (litRun ((bytesOf s).drop a) = k) := run_stop HK.out (by rw [hdl.out]; simp [isDig, h1])
        have h3 : d < 48 := by omega
        clear hdl HK h1
        go_wp2
        go_ret
        exact ⟨by rw [HE.out]; rfl, rfl⟩
    · have HE : RowKit.Hid (litRun ((bytesOf s).drop a) = k) := run_full HK.out (by rw [HLD.out]; omega)
      have h3 : s.size = a + k := by omega
      clear HK hlt
      go_wp2
      go_ret
      exact ⟨by rw [HE.out]; rfl, rfl⟩

theorem refLRun_at (s : ByteArray) (hs : s.size ≤ 9223372036854775807) (a : Nat) (ha : a ≤ s.size) (V : Int) (hV : V = a) (n : Nat) (hn : litRun ((bytesOf s).drop a) = n) (w : World) :
    Calls Tryz.prog 33 #[.string s, .int .i64 V] w fun e w' => e = .returned (.int .i64 (n : Int)) ∧ w = w' := by
  subst hV; subst hn; exact refLRun_c s hs a ha w

end Go.Proofs.YtjpoolddgocbbaaGreatDoor

/- What the reference of layer 9 answers (Length, Good), as contracts over memory. Condition: texts that can be read. -/
namespace Go.Proofs.YtjpoolddgocbbaaGreatDoor
open Go.RowKit Limb
set_option linter.unusedVariables false
theorem lit_at_end {l : List Nat} {n : Nat} (h : l.length ≤ n) : l.drop n = [] := List.drop_eq_nil_of_le h
theorem len_nil {l : List Nat} {n : Nat} (h : l.length ≤ n) : litPoint (l.drop n) = 0 ∧ litExp (l.drop n) = 0 := by
  rw [lit_at_end h]
  exact ⟨litPoint_none (by rw [lim_nil]; decide), litExp_none (by rw [lim_nil]; decide)⟩
theorem point_no {l : List Nat} {n : Nat} (h : lim l n ≠ 46) : litPoint (l.drop n) = 0 := litPoint_none (by rw [lim_drop0]; exact h)
theorem point_yes {l : List Nat} {n k : Nat} (h : lim l n = 46) (hk : litRun (l.drop (n + 1)) = k) : litPoint (l.drop n) = if k = 0 then 0 else 1 + k := by
  unfold litPoint
  rw [lim_drop0, List.drop_drop, hk]
  by_cases h0 : k = 0
  · rw [if_neg (fun h2 => h2.2 h0), if_pos h0]
  · rw [if_pos ⟨h, h0⟩, if_neg h0]
theorem exp_no {l : List Nat} {n : Nat} (h : lim l n ≠ 101) : litExp (l.drop n) = 0 := litExp_none (by rw [lim_drop0]; exact h)
theorem exp_yes {l : List Nat} {n a k : Nat} (h : lim l n = 101) (ha : (lim l (n + 1) = 45 ∧ a = 2) ∨ (lim l (n + 1) ≠ 45 ∧ a = 1)) (hk : litRun (l.drop (n + a)) = k) : litExp (l.drop n) = if k = 0 then 0 else a + min k 3 := by
  have e : litAt (l.drop n) = a := by
    unfold litAt
    rw [lim_drop1]
    rcases ha with ⟨h1, h2⟩ | ⟨h1, h2⟩
    · rw [if_pos h1, h2]
    · rw [if_neg h1, h2]
  unfold litExp
  rw [lim_drop0, e, List.drop_drop, hk]
  by_cases h0 : k = 0
  · rw [if_neg (fun h2 => h2.2 h0), if_pos h0]
  · rw [if_pos ⟨h, h0⟩, if_neg h0]
theorem len_sum {l : List Nat} {n m : Nat} (h0 : litRun l = n) (hn : n ≠ 0) (hm : n + litPoint (l.drop n) = m) : litLen l = m + litExp (l.drop m) := by
  unfold litLen
  rw [h0, if_neg hn, hm]
theorem lim_past {l : List Nat} {n : Nat} (h : l.length ≤ n) : lim l n = 0 := by
  simp [lim, List.getD_eq_getElem?_getD, List.getElem?_eq_none h]

set_option maxHeartbeats 1000000 in
set_option maxRecDepth 100000 in
theorem refLLen_c (s : ByteArray) (hs : s.size ≤ 9223372036854775807) (w : World) :
    Calls Tryz.prog 13 #[.string s] w fun e w' => e = .returned (.int .i64 (litLen (bytesOf s) : Int)) ∧ w = w' := by
  have hl := length_bytesOf s
  have HL := Lib.hid hl
  clear hl
  obtain ⟨n, hn⟩ : ∃ n, litRun ((bytesOf s).drop 0) = n := ⟨_, rfl⟩
  have HN := Lib.hid hn
  have hn0 : litRun (bytesOf s) = n := hn
  have HN0 := Lib.hid hn0
  have hns : n ≤ s.size := by have := litRun_le (bytesOf s); rw [hn0, HL.out] at this; exact this
  clear hn hn0
  go_enter Tryz.func13, Tryz.ntmps13
  go_wp2_with fail
  refine (refLRun_at s hs 0 (Nat.zero_le _) 0 rfl n HN.out w).mono ?_
  rintro e w1 ⟨rfl, rfl⟩
  by_cases h0 : n = 0
  · subst h0
    have HE : RowKit.Hid (litLen (bytesOf s) = 0) := if_pos HN0.out
    go_wp2
    go_ret
    exact ⟨by rw [HE.out]; rfl, rfl⟩
  · have h1 : ((n : Int) == 0) = false := by rw [beq_eq_false_iff_ne]; omega
    by_cases t0 : n < s.size
    · obtain ⟨d, hd_d⟩ : ∃ d, (s[n]'t0).toNat = d := ⟨_, rfl⟩
      have L_d : RowKit.Hid (lim (bytesOf s) (n) = d) := by show _ = _; rw [← byte_at s (n) t0, hd_d]
      by_cases g : d = 46
      · have e_d : ((d : Int) == 46) = true := by rw [beq_iff_eq]; omega
        obtain ⟨k, h_k⟩ : ∃ k, litRun ((bytesOf s).drop (n + 1)) = k := ⟨_, rfl⟩
        have H_k := Lib.hid h_k
        clear h_k
        go_wp2_with fail
        refine (refLRun_at s hs (n + 1) (by omega) ((n : Int) + 1) (by omega) k H_k.out w).mono ?_
        rintro e w1 ⟨rfl, rfl⟩
        by_cases z : k = 0
        · have z1 : ¬ (0 : Int) < (k : Int) := by omega
          have e_d2 : ((d : Int) == 101) = false := by rw [beq_eq_false_iff_ne]; omega
          have HS : RowKit.Hid (litLen (bytesOf s) = n + litExp ((bytesOf s).drop n)) := len_sum HN0.out h0 (by rw [point_yes (by rw [L_d.out]; exact g) H_k.out, if_pos z, Nat.add_zero])
          obtain ⟨m, hm⟩ : ∃ m, m = n := ⟨_, rfl⟩
          rw [← hm] at HS
          subst hm
          clear HN HN0
          have HE : RowKit.Hid (litLen (bytesOf s) = m) := by
            show _ = _
            rw [HS.out, exp_no (by rw [L_d.out, g]; decide), Nat.add_zero]
          clear HS
          go_wp2
          go_ret
          exact ⟨by rw [HE.out]; rfl, rfl⟩
        · have z1 : 0 < k := by omega
          have HS0 : RowKit.Hid (litLen (bytesOf s) = n + (1 + k) + litExp ((bytesOf s).drop (n + (1 + k)))) := len_sum HN0.out h0 (by rw [point_yes (by rw [L_d.out]; exact g) H_k.out, if_neg z])
          have hb : n + (1 + k) ≤ s.size := by
            have h9 := litRun_le ((bytesOf s).drop (n + 1))
            rw [H_k.out, List.length_drop, HL.out] at h9
            omega
          obtain ⟨m, hm⟩ : ∃ m, n + (1 + k) = m := ⟨_, rfl⟩
          rw [hm] at HS0 hb
          have HS := HS0
          have em0 : (n : Int) + (1 + (k : Int)) = (m : Int) := by omega
          clear HS0 HN HN0 z hm
          by_cases t1 : m < s.size
          · obtain ⟨d1, hd_d1⟩ : ∃ d1, (s[m]'t1).toNat = d1 := ⟨_, rfl⟩
            have L_d1 : RowKit.Hid (lim (bytesOf s) (m) = d1) := by show _ = _; rw [← byte_at s (m) t1, hd_d1]
            by_cases g1 : d1 = 101
            · have e_d1 : ((d1 : Int) == 101) = true := by rw [beq_iff_eq]; omega
              by_cases t2 : m + 1 < s.size
              · obtain ⟨d2, hd_d2⟩ : ∃ d2, (s[m + 1]'t2).toNat = d2 := ⟨_, rfl⟩
                have L_d2 : RowKit.Hid (lim (bytesOf s) (m + 1) = d2) := by show _ = _; rw [← byte_at s (m + 1) t2, hd_d2]
                by_cases g2 : d2 = 45
                · have e_d2 : ((d2 : Int) == 45) = true := by rw [beq_iff_eq]; omega
                  obtain ⟨k2, h_k2⟩ : ∃ k, litRun ((bytesOf s).drop (m + 2)) = k := ⟨_, rfl⟩
                  have H_k2 := Lib.hid h_k2
                  clear h_k2
                  go_wp2_with fail
                  refine (refLRun_at s hs (m + 2) (by omega) ((m : Int) + 1 + 1) (by omega) k2 H_k2.out w).mono ?_
                  rintro e w1 ⟨rfl, rfl⟩
                  by_cases z2 : k2 = 0
                  · subst z2
                    have HE : RowKit.Hid (litLen (bytesOf s) = m) := by
                      show _ = _
                      rw [HS.out, exp_yes (by rw [L_d1.out]; exact g1) (.inl ⟨by rw [L_d2.out]; exact g2, rfl⟩) H_k2.out, if_pos rfl, Nat.add_zero]
                    clear HS
                    go_wp2
                    go_ret
                    exact ⟨by rw [HE.out]; rfl, rfl⟩
                  · have z3 : 0 < k2 := by omega
                    by_cases z4 : k2 ≤ 3
                    · have HE : RowKit.Hid (litLen (bytesOf s) = m + (2 + k2)) := by
                        show _ = _
                        rw [HS.out, exp_yes (by rw [L_d1.out]; exact g1) (.inl ⟨by rw [L_d2.out]; exact g2, rfl⟩) H_k2.out, if_neg z2, Nat.min_eq_left z4]
                      clear HS z2
                      have hb : m + 2 + k2 ≤ s.size := by
                        have h9 := litRun_le ((bytesOf s).drop (m + 2))
                        rw [H_k2.out, List.length_drop, HL.out] at h9
                        omega
                      go_wp2
                      go_ret
                      exact ⟨by rw [HE.out]; exact congrArg (fun v => Ending.returned (Value.int IntKind.i64 v)) (by omega), rfl⟩
                    · have z5 : 3 < k2 := by omega
                      have HE : RowKit.Hid (litLen (bytesOf s) = m + (2 + 3)) := by
                        show _ = _
                        rw [HS.out, exp_yes (by rw [L_d1.out]; exact g1) (.inl ⟨by rw [L_d2.out]; exact g2, rfl⟩) H_k2.out, if_neg z2, Nat.min_eq_right (by omega)]
                      clear HS z2
                      have hb : m + 2 + k2 ≤ s.size := by
                        have h9 := litRun_le ((bytesOf s).drop (m + 2))
                        rw [H_k2.out, List.length_drop, HL.out] at h9
                        omega
                      go_wp2
                      go_ret
                      exact ⟨by rw [HE.out]; exact congrArg (fun v => Ending.returned (Value.int IntKind.i64 v)) (by omega), rfl⟩
                · have e_d2 : ((d2 : Int) == 45) = false := by rw [beq_eq_false_iff_ne]; omega
                  obtain ⟨k2, h_k2⟩ : ∃ k, litRun ((bytesOf s).drop (m + 1)) = k := ⟨_, rfl⟩
                  have H_k2 := Lib.hid h_k2
                  clear h_k2
                  go_wp2_with fail
                  refine (refLRun_at s hs (m + 1) (by omega) ((m : Int) + 1) (by omega) k2 H_k2.out w).mono ?_
                  rintro e w1 ⟨rfl, rfl⟩
                  by_cases z2 : k2 = 0
                  · subst z2
                    have HE : RowKit.Hid (litLen (bytesOf s) = m) := by
                      show _ = _
                      rw [HS.out, exp_yes (by rw [L_d1.out]; exact g1) (.inr ⟨by rw [L_d2.out]; exact g2, rfl⟩) H_k2.out, if_pos rfl, Nat.add_zero]
                    clear HS
                    go_wp2
                    go_ret
                    exact ⟨by rw [HE.out]; rfl, rfl⟩
                  · have z3 : 0 < k2 := by omega
                    by_cases z4 : k2 ≤ 3
                    · have HE : RowKit.Hid (litLen (bytesOf s) = m + (1 + k2)) := by
                        show _ = _
                        rw [HS.out, exp_yes (by rw [L_d1.out]; exact g1) (.inr ⟨by rw [L_d2.out]; exact g2, rfl⟩) H_k2.out, if_neg z2, Nat.min_eq_left z4]
                      clear HS z2
                      have hb : m + 1 + k2 ≤ s.size := by
                        have h9 := litRun_le ((bytesOf s).drop (m + 1))
                        rw [H_k2.out, List.length_drop, HL.out] at h9
                        omega
                      go_wp2
                      go_ret
                      exact ⟨by rw [HE.out]; exact congrArg (fun v => Ending.returned (Value.int IntKind.i64 v)) (by omega), rfl⟩
                    · have z5 : 3 < k2 := by omega
                      have HE : RowKit.Hid (litLen (bytesOf s) = m + (1 + 3)) := by
                        show _ = _
                        rw [HS.out, exp_yes (by rw [L_d1.out]; exact g1) (.inr ⟨by rw [L_d2.out]; exact g2, rfl⟩) H_k2.out, if_neg z2, Nat.min_eq_right (by omega)]
                      clear HS z2
                      have hb : m + 1 + k2 ≤ s.size := by
                        have h9 := litRun_le ((bytesOf s).drop (m + 1))
                        rw [H_k2.out, List.length_drop, HL.out] at h9
                        omega
                      go_wp2
                      go_ret
                      exact ⟨by rw [HE.out]; exact congrArg (fun v => Ending.returned (Value.int IntKind.i64 v)) (by omega), rfl⟩
              · have L_no : RowKit.Hid (lim (bytesOf s) (m + 1) ≠ 45) := by show _ ≠ _; rw [lim_past (by rw [HL.out]; omega)]; decide
                have t2 : ¬ ((m : Int) + 1 < (s.size : Int)) := by omega
                obtain ⟨k2, h_k2⟩ : ∃ k, litRun ((bytesOf s).drop (m + 1)) = k := ⟨_, rfl⟩
                have H_k2 := Lib.hid h_k2
                clear h_k2
                go_wp2_with fail
                refine (refLRun_at s hs (m + 1) (by omega) ((m : Int) + 1) (by omega) k2 H_k2.out w).mono ?_
                rintro e w1 ⟨rfl, rfl⟩
                by_cases z2 : k2 = 0
                · subst z2
                  have HE : RowKit.Hid (litLen (bytesOf s) = m) := by
                    show _ = _
                    rw [HS.out, exp_yes (by rw [L_d1.out]; exact g1) (.inr ⟨L_no.out, rfl⟩) H_k2.out, if_pos rfl, Nat.add_zero]
                  clear HS
                  go_wp2
                  go_ret
                  exact ⟨by rw [HE.out]; rfl, rfl⟩
                · have z3 : 0 < k2 := by omega
                  by_cases z4 : k2 ≤ 3
                  · have HE : RowKit.Hid (litLen (bytesOf s) = m + (1 + k2)) := by
                      show _ = _
                      rw [HS.out, exp_yes (by rw [L_d1.out]; exact g1) (.inr ⟨L_no.out, rfl⟩) H_k2.out, if_neg z2, Nat.min_eq_left z4]
                    clear HS z2
                    have hb : m + 1 + k2 ≤ s.size := by
                      have h9 := litRun_le ((bytesOf s).drop (m + 1))
                      rw [H_k2.out, List.length_drop, HL.out] at h9
                      omega
                    go_wp2
                    go_ret
                    exact ⟨by rw [HE.out]; exact congrArg (fun v => Ending.returned (Value.int IntKind.i64 v)) (by omega), rfl⟩
                  · have z5 : 3 < k2 := by omega
                    have HE : RowKit.Hid (litLen (bytesOf s) = m + (1 + 3)) := by
                      show _ = _
                      rw [HS.out, exp_yes (by rw [L_d1.out]; exact g1) (.inr ⟨L_no.out, rfl⟩) H_k2.out, if_neg z2, Nat.min_eq_right (by omega)]
                    clear HS z2
                    have hb : m + 1 + k2 ≤ s.size := by
                      have h9 := litRun_le ((bytesOf s).drop (m + 1))
                      rw [H_k2.out, List.length_drop, HL.out] at h9
                      omega
                    go_wp2
                    go_ret
                    exact ⟨by rw [HE.out]; exact congrArg (fun v => Ending.returned (Value.int IntKind.i64 v)) (by omega), rfl⟩
            · have e_d1 : ((d1 : Int) == 101) = false := by rw [beq_eq_false_iff_ne]; omega
              have HE : RowKit.Hid (litLen (bytesOf s) = m) := by
                show _ = _
                rw [HS.out, exp_no (by rw [L_d1.out]; exact g1), Nat.add_zero]
              clear HS
              go_wp2
              go_ret
              exact ⟨by rw [HE.out]; rfl, rfl⟩
          · have t1 : ¬ ((m : Int) < (s.size : Int)) := by omega
            have HE : RowKit.Hid (litLen (bytesOf s) = m) := by
              show _ = _
              rw [HS.out, (len_nil (by rw [HL.out]; omega)).2, Nat.add_zero]
            clear HS
            go_wp2
            go_ret
            exact ⟨by rw [HE.out]; rfl, rfl⟩
      · have e_d : ((d : Int) == 46) = false := by rw [beq_eq_false_iff_ne]; omega
        have HS : RowKit.Hid (litLen (bytesOf s) = n + litExp ((bytesOf s).drop n)) := len_sum HN0.out h0 (by rw [point_no (by rw [L_d.out]; exact g), Nat.add_zero])
        obtain ⟨m, hm⟩ : ∃ m, m = n := ⟨_, rfl⟩
        rw [← hm] at HS
        subst hm
        clear HN HN0
        by_cases g1 : d = 101
        · have e_d : ((d : Int) == 101) = true := by rw [beq_iff_eq]; omega
          by_cases t2 : m + 1 < s.size
          · obtain ⟨d2, hd_d2⟩ : ∃ d2, (s[m + 1]'t2).toNat = d2 := ⟨_, rfl⟩
            have L_d2 : RowKit.Hid (lim (bytesOf s) (m + 1) = d2) := by show _ = _; rw [← byte_at s (m + 1) t2, hd_d2]
            by_cases g2 : d2 = 45
            · have e_d2 : ((d2 : Int) == 45) = true := by rw [beq_iff_eq]; omega
              obtain ⟨k2, h_k2⟩ : ∃ k, litRun ((bytesOf s).drop (m + 2)) = k := ⟨_, rfl⟩
              have H_k2 := Lib.hid h_k2
              clear h_k2
              go_wp2_with fail
              refine (refLRun_at s hs (m + 2) (by omega) ((m : Int) + 1 + 1) (by omega) k2 H_k2.out w).mono ?_
              rintro e w1 ⟨rfl, rfl⟩
              by_cases z2 : k2 = 0
              · subst z2
                have HE : RowKit.Hid (litLen (bytesOf s) = m) := by
                  show _ = _
                  rw [HS.out, exp_yes (by rw [L_d.out]; exact g1) (.inl ⟨by rw [L_d2.out]; exact g2, rfl⟩) H_k2.out, if_pos rfl, Nat.add_zero]
                clear HS
                go_wp2
                go_ret
                exact ⟨by rw [HE.out]; rfl, rfl⟩
              · have z3 : 0 < k2 := by omega
                by_cases z4 : k2 ≤ 3
                · have HE : RowKit.Hid (litLen (bytesOf s) = m + (2 + k2)) := by
                    show _ = _
                    rw [HS.out, exp_yes (by rw [L_d.out]; exact g1) (.inl ⟨by rw [L_d2.out]; exact g2, rfl⟩) H_k2.out, if_neg z2, Nat.min_eq_left z4]
                  clear HS z2
                  have hb : m + 2 + k2 ≤ s.size := by
                    have h9 := litRun_le ((bytesOf s).drop (m + 2))
                    rw [H_k2.out, List.length_drop, HL.out] at h9
                    omega
                  go_wp2
                  go_ret
                  exact ⟨by rw [HE.out]; exact congrArg (fun v => Ending.returned (Value.int IntKind.i64 v)) (by omega), rfl⟩
                · have z5 : 3 < k2 := by omega
                  have HE : RowKit.Hid (litLen (bytesOf s) = m + (2 + 3)) := by
                    show _ = _
                    rw [HS.out, exp_yes (by rw [L_d.out]; exact g1) (.inl ⟨by rw [L_d2.out]; exact g2, rfl⟩) H_k2.out, if_neg z2, Nat.min_eq_right (by omega)]
                  clear HS z2
                  have hb : m + 2 + k2 ≤ s.size := by
                    have h9 := litRun_le ((bytesOf s).drop (m + 2))
                    rw [H_k2.out, List.length_drop, HL.out] at h9
                    omega
                  go_wp2
                  go_ret
                  exact ⟨by rw [HE.out]; exact congrArg (fun v => Ending.returned (Value.int IntKind.i64 v)) (by omega), rfl⟩
            · have e_d2 : ((d2 : Int) == 45) = false := by rw [beq_eq_false_iff_ne]; omega
              obtain ⟨k2, h_k2⟩ : ∃ k, litRun ((bytesOf s).drop (m + 1)) = k := ⟨_, rfl⟩
              have H_k2 := Lib.hid h_k2
              clear h_k2
              go_wp2_with fail
              refine (refLRun_at s hs (m + 1) (by omega) ((m : Int) + 1) (by omega) k2 H_k2.out w).mono ?_
              rintro e w1 ⟨rfl, rfl⟩
              by_cases z2 : k2 = 0
              · subst z2
                have HE : RowKit.Hid (litLen (bytesOf s) = m) := by
                  show _ = _
                  rw [HS.out, exp_yes (by rw [L_d.out]; exact g1) (.inr ⟨by rw [L_d2.out]; exact g2, rfl⟩) H_k2.out, if_pos rfl, Nat.add_zero]
                clear HS
                go_wp2
                go_ret
                exact ⟨by rw [HE.out]; rfl, rfl⟩
              · have z3 : 0 < k2 := by omega
                by_cases z4 : k2 ≤ 3
                · have HE : RowKit.Hid (litLen (bytesOf s) = m + (1 + k2)) := by
                    show _ = _
                    rw [HS.out, exp_yes (by rw [L_d.out]; exact g1) (.inr ⟨by rw [L_d2.out]; exact g2, rfl⟩) H_k2.out, if_neg z2, Nat.min_eq_left z4]
                  clear HS z2
                  have hb : m + 1 + k2 ≤ s.size := by
                    have h9 := litRun_le ((bytesOf s).drop (m + 1))
                    rw [H_k2.out, List.length_drop, HL.out] at h9
                    omega
                  go_wp2
                  go_ret
                  exact ⟨by rw [HE.out]; exact congrArg (fun v => Ending.returned (Value.int IntKind.i64 v)) (by omega), rfl⟩
                · have z5 : 3 < k2 := by omega
                  have HE : RowKit.Hid (litLen (bytesOf s) = m + (1 + 3)) := by
                    show _ = _
                    rw [HS.out, exp_yes (by rw [L_d.out]; exact g1) (.inr ⟨by rw [L_d2.out]; exact g2, rfl⟩) H_k2.out, if_neg z2, Nat.min_eq_right (by omega)]
                  clear HS z2
                  have hb : m + 1 + k2 ≤ s.size := by
                    have h9 := litRun_le ((bytesOf s).drop (m + 1))
                    rw [H_k2.out, List.length_drop, HL.out] at h9
                    omega
                  go_wp2
                  go_ret
                  exact ⟨by rw [HE.out]; exact congrArg (fun v => Ending.returned (Value.int IntKind.i64 v)) (by omega), rfl⟩
          · have L_no : RowKit.Hid (lim (bytesOf s) (m + 1) ≠ 45) := by show _ ≠ _; rw [lim_past (by rw [HL.out]; omega)]; decide
            have t2 : ¬ ((m : Int) + 1 < (s.size : Int)) := by omega
            obtain ⟨k2, h_k2⟩ : ∃ k, litRun ((bytesOf s).drop (m + 1)) = k := ⟨_, rfl⟩
            have H_k2 := Lib.hid h_k2
            clear h_k2
            go_wp2_with fail
            refine (refLRun_at s hs (m + 1) (by omega) ((m : Int) + 1) (by omega) k2 H_k2.out w).mono ?_
            rintro e w1 ⟨rfl, rfl⟩
            by_cases z2 : k2 = 0
            · subst z2
              have HE : RowKit.Hid (litLen (bytesOf s) = m) := by
                show _ = _
                rw [HS.out, exp_yes (by rw [L_d.out]; exact g1) (.inr ⟨L_no.out, rfl⟩) H_k2.out, if_pos rfl, Nat.add_zero]
              clear HS
              go_wp2
              go_ret
              exact ⟨by rw [HE.out]; rfl, rfl⟩
            · have z3 : 0 < k2 := by omega
              by_cases z4 : k2 ≤ 3
              · have HE : RowKit.Hid (litLen (bytesOf s) = m + (1 + k2)) := by
                  show _ = _
                  rw [HS.out, exp_yes (by rw [L_d.out]; exact g1) (.inr ⟨L_no.out, rfl⟩) H_k2.out, if_neg z2, Nat.min_eq_left z4]
                clear HS z2
                have hb : m + 1 + k2 ≤ s.size := by
                  have h9 := litRun_le ((bytesOf s).drop (m + 1))
                  rw [H_k2.out, List.length_drop, HL.out] at h9
                  omega
                go_wp2
                go_ret
                exact ⟨by rw [HE.out]; exact congrArg (fun v => Ending.returned (Value.int IntKind.i64 v)) (by omega), rfl⟩
              · have z5 : 3 < k2 := by omega
                have HE : RowKit.Hid (litLen (bytesOf s) = m + (1 + 3)) := by
                  show _ = _
                  rw [HS.out, exp_yes (by rw [L_d.out]; exact g1) (.inr ⟨L_no.out, rfl⟩) H_k2.out, if_neg z2, Nat.min_eq_right (by omega)]
                clear HS z2
                have hb : m + 1 + k2 ≤ s.size := by
                  have h9 := litRun_le ((bytesOf s).drop (m + 1))
                  rw [H_k2.out, List.length_drop, HL.out] at h9
                  omega
                go_wp2
                go_ret
                exact ⟨by rw [HE.out]; exact congrArg (fun v => Ending.returned (Value.int IntKind.i64 v)) (by omega), rfl⟩
        · have e_d : ((d : Int) == 101) = false := by rw [beq_eq_false_iff_ne]; omega
          have HE : RowKit.Hid (litLen (bytesOf s) = m) := by
            show _ = _
            rw [HS.out, exp_no (by rw [L_d.out]; exact g1), Nat.add_zero]
          clear HS
          go_wp2
          go_ret
          exact ⟨by rw [HE.out]; rfl, rfl⟩
    · have t0 : ¬ ((n : Int) < (s.size : Int)) := by omega
      have HS : RowKit.Hid (litLen (bytesOf s) = n + litExp ((bytesOf s).drop n)) := len_sum HN0.out h0 (by rw [(len_nil (by rw [HL.out]; omega)).1, Nat.add_zero])
      obtain ⟨m, hm⟩ : ∃ m, m = n := ⟨_, rfl⟩
      rw [← hm] at HS
      subst hm
      clear HN HN0
      have HE : RowKit.Hid (litLen (bytesOf s) = m) := by
        show _ = _
        rw [HS.out, (len_nil (by rw [HL.out]; omega)).2, Nat.add_zero]
      clear HS
      go_wp2
      go_ret
      exact ⟨by rw [HE.out]; rfl, rfl⟩

set_option maxHeartbeats 1000000 in
set_option maxRecDepth 100000 in
theorem refLGood_c (s : ByteArray) (hs : s.size ≤ 9223372036854775807) (w : World) (v : Bool) (hv : litGood (bytesOf s) = v) :
    Calls Tryz.prog 11 #[.string s] w fun e w' => e = .returned (.bool v) ∧ w = w' := by
  have hl := length_bytesOf s
  have HL := Lib.hid hl
  have Hv := Lib.hid hv
  clear hl hv
  by_cases h1 : 1 ≤ s.size
  · by_cases h2 : s.size ≤ 400
    · obtain ⟨n, hn⟩ : ∃ n, litLen (bytesOf s) = n := ⟨_, rfl⟩
      have HC := refLLen_c s hs w
      rw [hn] at HC
      have HC := Lib.hid HC
      by_cases h3 : n = s.size
      · have h5 : ((n : Int) == (s.size : Int)) = true := by rw [beq_iff_eq]; omega
        have HV : RowKit.Hid (true = v) := by
          show _ = _
          rw [← Hv.out]; unfold litGood; rw [HL.out]; rw [decide_eq_true h1, decide_eq_true h2, decide_eq_true (by omega)]; rfl
        clear Hv
        clear hn
        go_enter Tryz.func11, Tryz.ntmps11
        go_wp2_with fail
        refine HC.out.mono ?_
        rintro e w1 ⟨rfl, rfl⟩
        go_wp2
        go_ret
        exact ⟨by rw [← HV.out]; rfl, rfl⟩
      · have h5 : ((n : Int) == (s.size : Int)) = false := by rw [beq_eq_false_iff_ne]; omega
        have HV : RowKit.Hid (false = v) := by
          show _ = _
          rw [← Hv.out]; unfold litGood; rw [HL.out]; rw [decide_eq_true h1, decide_eq_true h2, decide_eq_false (by omega)]; rfl
        clear Hv
        clear hn
        go_enter Tryz.func11, Tryz.ntmps11
        go_wp2_with fail
        refine HC.out.mono ?_
        rintro e w1 ⟨rfl, rfl⟩
        go_wp2
        go_ret
        exact ⟨by rw [← HV.out]; rfl, rfl⟩
    · have HV : RowKit.Hid (false = v) := by
        show _ = _
        rw [← Hv.out]; unfold litGood; rw [HL.out]; rw [decide_eq_true h1, decide_eq_false h2]; rfl
      clear Hv
      have h3 : ¬ ((s.size : Int) ≤ 400) := by omega
      go_enter Tryz.func11, Tryz.ntmps11
      go_wp2
      go_ret
      exact ⟨by rw [← HV.out]; rfl, rfl⟩
  · have HV : RowKit.Hid (false = v) := by
      show _ = _
      rw [← Hv.out]; unfold litGood; rw [HL.out]; rw [decide_eq_false h1]; rfl
    clear Hv
    have h2 : ¬ ((1 : Int) ≤ (s.size : Int)) := by omega
    go_enter Tryz.func11, Tryz.ntmps11
    go_wp2
    go_ret
    exact ⟨by rw [← HV.out]; rfl, rfl⟩

end Go.Proofs.YtjpoolddgocbbaaGreatDoor
