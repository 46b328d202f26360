/- Part 6 of the texts that the statements of this seat lean on: mathematics, and what functions answer, as contracts over memory; each part says its own conditions. -/
import Derived.Test.YtohokfbohdoijaaGreatDoorM5
import Derived.Lib.SliceRun
/- What the reference of layer 7 answers (Good), as a contract over memory. Conditions: sizes of at most so many limbs. -/
namespace Go.Proofs.YtohokfbohdoijaaGreatDoor
open Go.RowKit Limb
set_option linter.unusedVariables false
section
variable {w : World} {s s' : Bool} {A B A' B' : Option Addr} {n c m d n' c' m' d' : Nat} {xs ys xs' ys' : List Nat} {x y : Int} {a b L L' : Nat}
set_option maxHeartbeats 40000000 in
set_option maxRecDepth 100000 in
theorem refGood_c {o : Option Rat} (hx : QQ w s A n c xs B m d ys o L) (h1 : L ≤ 9223372036854775807) (v : Bool) (hv : o.isSome = v) :
 Calls Tryz.prog 54 #[.agg #[.bool s, .slice A n c, .slice B m d]] w fun e w' => e = .returned (.bool v) ∧ Below w.heap.size w w' := by
 have hg := hx.good
 rw [hv] at hg
 have hlx := hx.bot.isN.len
 have hlt := hx.top.nn.isN.len
 have hsx := hx.top.nn.isN.small
 have hsy := hx.bot.isN.small
 have b0 := below_new w (.cells #[Value.bool s, Value.slice A n c, Value.slice B m d] 33)
 have HW := Lib.hid b0
 have HX : RowKit.Hid (NN (w.alloc (.cells #[Value.bool s, Value.slice A n c, Value.slice B m d] 33)) A n c xs (Limb.val xs) L) := by
  have h := hx.top.nn.below b0
  rw [zOf_abs] at h
  exact h
 have HY := Lib.hid (hx.bot.below b0)
 have r0 := row3_new w 33 (.bool s) (.slice A n c) (.slice B m d)
 have c0 := r0.c0
 have c1 := r0.c1
 have c2 := r0.c2
 clear b0 r0 hx hv
 by_cases k1 : xs = limbs (Limb.val xs)
 · by_cases k2 : ys = limbs (Limb.val ys)
   · by_cases k3 : m = 0
     · have hgf : goodV s xs ys = false := by
        rw [Bool.eq_false_iff]
        intro h
        obtain ⟨g1, g2, g3, g4, g5, g6, g7⟩ := goodV_iff.1 h
        exact g3 (by rw [List.eq_nil_of_length_eq_zero (hlx.trans k3)]; rfl)
       obtain rfl : v = false := hg.symm.trans hgf
       clear hg hgf hlx hlt hsx hsy
       have m0 : ((m : Int) == 0) = true := by rw [beq_iff_eq]; omega
       have K1 : RowKit.Hid (decide (xs = limbs (Limb.val xs)) = true) := by show _ = _; simpa using k1
       have K2 : RowKit.Hid (decide (ys = limbs (Limb.val ys)) = true) := by show _ = _; simpa using k2
       clear k1 k2 k3
       go_enter Tryz.func54, Tryz.ntmps54
       go_wp2_with fail
       refine (refTrimmed_c HX.out (by omega) true K1.out).mono ?_
       rintro e w2 ⟨rfl, rfl⟩
       go_wp2_with fail
       refine (refTrimmed_c HY.out (by omega) true K2.out).mono ?_
       rintro e w2 ⟨rfl, rfl⟩
       go_wp2
       go_ret
       exact ⟨rfl, HW.out⟩
     · by_cases k4 : s = true ∧ n = 0
       · obtain ⟨k4s, k4n⟩ := k4
         have hgf : goodV s xs ys = false := by
          rw [Bool.eq_false_iff]
          intro h
          obtain ⟨g1, g2, g3, g4, g5, g6, g7⟩ := goodV_iff.1 h
          exact g4 ⟨k4s, by rw [List.eq_nil_of_length_eq_zero (hlt.trans k4n)]; rfl⟩
         obtain rfl : v = false := hg.symm.trans hgf
         clear hg hgf hlx hlt hsx hsy
         have m0 : ((m : Int) == 0) = false := by rw [beq_eq_false_iff_ne]; omega
         have n0 : ((n : Int) == 0) = true := by rw [beq_iff_eq]; omega
         subst k4s
         have K1 : RowKit.Hid (decide (xs = limbs (Limb.val xs)) = true) := by show _ = _; simpa using k1
         have K2 : RowKit.Hid (decide (ys = limbs (Limb.val ys)) = true) := by show _ = _; simpa using k2
         clear k1 k2 k3 k4n
         go_enter Tryz.func54, Tryz.ntmps54
         go_wp2_with fail
         refine (refTrimmed_c HX.out (by omega) true K1.out).mono ?_
         rintro e w2 ⟨rfl, rfl⟩
         go_wp2_with fail
         refine (refTrimmed_c HY.out (by omega) true K2.out).mono ?_
         rintro e w2 ⟨rfl, rfl⟩
         go_wp2
         go_ret
         exact ⟨rfl, HW.out⟩
       · by_cases k5 : 64 < n
         · have hgf : goodV s xs ys = false := by
            rw [Bool.eq_false_iff]
            intro h
            obtain ⟨g1, g2, g3, g4, g5, g6, g7⟩ := goodV_iff.1 h
            omega
           obtain rfl : v = false := hg.symm.trans hgf
           clear hg hgf hlx hlt hsx hsy
           have m0 : ((m : Int) == 0) = false := by rw [beq_eq_false_iff_ne]; omega
           by_cases ks : s = true
           · have n0 : ((n : Int) == 0) = false := by
              rw [beq_eq_false_iff_ne]
              have hn0 : n ≠ 0 := fun h => k4 ⟨ks, h⟩
              omega
             subst ks
             have n5 : decide ((64 : Int) < (n : Int)) = true := by rw [decide_eq_true_eq]; omega
             have K1 : RowKit.Hid (decide (xs = limbs (Limb.val xs)) = true) := by show _ = _; simpa using k1
             have K2 : RowKit.Hid (decide (ys = limbs (Limb.val ys)) = true) := by show _ = _; simpa using k2
             clear k1 k2 k3 k4 k5
             go_enter Tryz.func54, Tryz.ntmps54
             go_wp2_with fail
             refine (refTrimmed_c HX.out (by omega) true K1.out).mono ?_
             rintro e w2 ⟨rfl, rfl⟩
             go_wp2_with fail
             refine (refTrimmed_c HY.out (by omega) true K2.out).mono ?_
             rintro e w2 ⟨rfl, rfl⟩
             go_wp2
             go_ret
             exact ⟨rfl, HW.out⟩
           · have ks2 : s = false := by simpa using ks
             subst ks2
             have n5 : decide ((64 : Int) < (n : Int)) = true := by rw [decide_eq_true_eq]; omega
             have K1 : RowKit.Hid (decide (xs = limbs (Limb.val xs)) = true) := by show _ = _; simpa using k1
             have K2 : RowKit.Hid (decide (ys = limbs (Limb.val ys)) = true) := by show _ = _; simpa using k2
             clear k1 k2 k3 k4 k5
             go_enter Tryz.func54, Tryz.ntmps54
             go_wp2_with fail
             refine (refTrimmed_c HX.out (by omega) true K1.out).mono ?_
             rintro e w2 ⟨rfl, rfl⟩
             go_wp2_with fail
             refine (refTrimmed_c HY.out (by omega) true K2.out).mono ?_
             rintro e w2 ⟨rfl, rfl⟩
             go_wp2
             go_ret
             exact ⟨rfl, HW.out⟩
         · by_cases k6 : 64 < m
           · have hgf : goodV s xs ys = false := by
              rw [Bool.eq_false_iff]
              intro h
              obtain ⟨g1, g2, g3, g4, g5, g6, g7⟩ := goodV_iff.1 h
              omega
             obtain rfl : v = false := hg.symm.trans hgf
             clear hg hgf hlx hlt hsx hsy
             have m0 : ((m : Int) == 0) = false := by rw [beq_eq_false_iff_ne]; omega
             by_cases ks : s = true
             · have n0 : ((n : Int) == 0) = false := by
                rw [beq_eq_false_iff_ne]
                have hn0 : n ≠ 0 := fun h => k4 ⟨ks, h⟩
                omega
               subst ks
               have n5 : decide ((64 : Int) < (n : Int)) = false := by rw [decide_eq_false_iff_not]; omega
               have n6 : decide ((64 : Int) < (m : Int)) = true := by rw [decide_eq_true_eq]; omega
               have K1 : RowKit.Hid (decide (xs = limbs (Limb.val xs)) = true) := by show _ = _; simpa using k1
               have K2 : RowKit.Hid (decide (ys = limbs (Limb.val ys)) = true) := by show _ = _; simpa using k2
               clear k1 k2 k3 k4 k5 k6
               go_enter Tryz.func54, Tryz.ntmps54
               go_wp2_with fail
               refine (refTrimmed_c HX.out (by omega) true K1.out).mono ?_
               rintro e w2 ⟨rfl, rfl⟩
               go_wp2_with fail
               refine (refTrimmed_c HY.out (by omega) true K2.out).mono ?_
               rintro e w2 ⟨rfl, rfl⟩
               go_wp2
               go_ret
               exact ⟨rfl, HW.out⟩
             · have ks2 : s = false := by simpa using ks
               subst ks2
               have n5 : decide ((64 : Int) < (n : Int)) = false := by rw [decide_eq_false_iff_not]; omega
               have n6 : decide ((64 : Int) < (m : Int)) = true := by rw [decide_eq_true_eq]; omega
               have K1 : RowKit.Hid (decide (xs = limbs (Limb.val xs)) = true) := by show _ = _; simpa using k1
               have K2 : RowKit.Hid (decide (ys = limbs (Limb.val ys)) = true) := by show _ = _; simpa using k2
               clear k1 k2 k3 k4 k5 k6
               go_enter Tryz.func54, Tryz.ntmps54
               go_wp2_with fail
               refine (refTrimmed_c HX.out (by omega) true K1.out).mono ?_
               rintro e w2 ⟨rfl, rfl⟩
               go_wp2_with fail
               refine (refTrimmed_c HY.out (by omega) true K2.out).mono ?_
               rintro e w2 ⟨rfl, rfl⟩
               go_wp2
               go_ret
               exact ⟨rfl, HW.out⟩
           · by_cases hgcd : Nat.gcd (Limb.val xs) (Limb.val ys) = 1
             · have hgt : goodV s xs ys = true := by
                rw [goodV_iff]
                refine ⟨k1, k2, ?_, ?_, by omega, by omega, hgcd⟩
                · intro h; rw [h, limbs_zero] at k2; rw [k2] at hlx; simp at hlx; omega
                · rintro ⟨h1, h2⟩
                  rw [h2, limbs_zero] at k1; rw [k1] at hlt; simp at hlt
                  exact k4 ⟨h1, by omega⟩
               obtain rfl : v = true := hg.symm.trans hgt
               clear hg hgt
               have m0 : ((m : Int) == 0) = false := by rw [beq_eq_false_iff_ne]; omega
               by_cases ks : s = true
               · have n0 : ((n : Int) == 0) = false := by
                  rw [beq_eq_false_iff_ne]
                  have hn0 : n ≠ 0 := fun h => k4 ⟨ks, h⟩
                  omega
                 subst ks
                 have n5 : decide ((64 : Int) < (n : Int)) = false := by rw [decide_eq_false_iff_not]; omega
                 have n6 : decide ((64 : Int) < (m : Int)) = false := by rw [decide_eq_false_iff_not]; omega
                 have HGC := Lib.hid hgcd
                 have HN : RowKit.Hid (n ≤ 64 ∧ m ≤ 64) := ⟨by omega, by omega⟩
                 have K1 : RowKit.Hid (decide (xs = limbs (Limb.val xs)) = true) := by show _ = _; simpa using k1
                 have K2 : RowKit.Hid (decide (ys = limbs (Limb.val ys)) = true) := by show _ = _; simpa using k2
                 clear k1 k2 k3 k4 k5 k6 hgcd
                 go_enter Tryz.func54, Tryz.ntmps54
                 go_wp2_with fail
                 refine (refTrimmed_c HX.out (by omega) true K1.out).mono ?_
                 rintro e w2 ⟨rfl, rfl⟩
                 go_wp2_with fail
                 refine (refTrimmed_c HY.out (by omega) true K2.out).mono ?_
                 rintro e w2 ⟨rfl, rfl⟩
                 go_wp2_with fail
                 refine (refGcd_c (HX.out.short HN.out.1) (HY.out.short HN.out.2) (by decide) (by decide)).mono ?_
                 rintro e w3 ⟨A3, n3, c3, rfl, h3, bn⟩
                 replace HW := Lib.hid (below_two HW.out bn)
                 clear bn c0 c1 c2
                 have hgcd := HGC.out
                 have e1 : gcdN (Limb.val xs) (Limb.val ys) = 1 := hgcd
                 rw [e1] at h3
                 have el : limbs 1 = [1] := by simp [limbs, limbsTo]
                 rw [el] at h3
                 have hn3 := h3.isN.len
                 obtain ⟨g, o, eA, _, hc⟩ := h3.isN.2.2 (by rw [← hn3]; decide)
                 have hc0 := hc 0 (by rw [← hn3]; decide)
                 have n1 : n3 = 1 := by rw [← hn3]; rfl
                 subst n1
                 subst eA
                 have hcc : w3.cell? ⟨g, o, none⟩ = some (.int .u32 1) := hc0
                 clear h3 hn3 hc hc0 e1 el hgcd
                 go_wp2
                 go_ret
                 exact ⟨rfl, HW.out⟩
               · have ks2 : s = false := by simpa using ks
                 subst ks2
                 have n5 : decide ((64 : Int) < (n : Int)) = false := by rw [decide_eq_false_iff_not]; omega
                 have n6 : decide ((64 : Int) < (m : Int)) = false := by rw [decide_eq_false_iff_not]; omega
                 have HGC := Lib.hid hgcd
                 have HN : RowKit.Hid (n ≤ 64 ∧ m ≤ 64) := ⟨by omega, by omega⟩
                 have K1 : RowKit.Hid (decide (xs = limbs (Limb.val xs)) = true) := by show _ = _; simpa using k1
                 have K2 : RowKit.Hid (decide (ys = limbs (Limb.val ys)) = true) := by show _ = _; simpa using k2
                 clear k1 k2 k3 k4 k5 k6 hgcd
                 go_enter Tryz.func54, Tryz.ntmps54
                 go_wp2_with fail
                 refine (refTrimmed_c HX.out (by omega) true K1.out).mono ?_
                 rintro e w2 ⟨rfl, rfl⟩
                 go_wp2_with fail
                 refine (refTrimmed_c HY.out (by omega) true K2.out).mono ?_
                 rintro e w2 ⟨rfl, rfl⟩
                 go_wp2_with fail
                 refine (refGcd_c (HX.out.short HN.out.1) (HY.out.short HN.out.2) (by decide) (by decide)).mono ?_
                 rintro e w3 ⟨A3, n3, c3, rfl, h3, bn⟩
                 replace HW := Lib.hid (below_two HW.out bn)
                 clear bn c0 c1 c2
                 have hgcd := HGC.out
                 have e1 : gcdN (Limb.val xs) (Limb.val ys) = 1 := hgcd
                 rw [e1] at h3
                 have el : limbs 1 = [1] := by simp [limbs, limbsTo]
                 rw [el] at h3
                 have hn3 := h3.isN.len
                 obtain ⟨g, o, eA, _, hc⟩ := h3.isN.2.2 (by rw [← hn3]; decide)
                 have hc0 := hc 0 (by rw [← hn3]; decide)
                 have n1 : n3 = 1 := by rw [← hn3]; rfl
                 subst n1
                 subst eA
                 have hcc : w3.cell? ⟨g, o, none⟩ = some (.int .u32 1) := hc0
                 clear h3 hn3 hc hc0 e1 el hgcd
                 go_wp2
                 go_ret
                 exact ⟨rfl, HW.out⟩
             · have hgf : goodV s xs ys = false := by
                rw [Bool.eq_false_iff]
                intro h
                obtain ⟨g1, g2, g3, g4, g5, g6, g7⟩ := goodV_iff.1 h
                exact hgcd g7
               obtain rfl : v = false := hg.symm.trans hgf
               clear hg hgf hlx hlt hsx hsy
               have m0 : ((m : Int) == 0) = false := by rw [beq_eq_false_iff_ne]; omega
               by_cases ks : s = true
               · have n0 : ((n : Int) == 0) = false := by
                  rw [beq_eq_false_iff_ne]
                  have hn0 : n ≠ 0 := fun h => k4 ⟨ks, h⟩
                  omega
                 subst ks
                 have n5 : decide ((64 : Int) < (n : Int)) = false := by rw [decide_eq_false_iff_not]; omega
                 have n6 : decide ((64 : Int) < (m : Int)) = false := by rw [decide_eq_false_iff_not]; omega
                 have HGC := Lib.hid hgcd
                 have HN : RowKit.Hid (n ≤ 64 ∧ m ≤ 64) := ⟨by omega, by omega⟩
                 have K1 : RowKit.Hid (decide (xs = limbs (Limb.val xs)) = true) := by show _ = _; simpa using k1
                 have K2 : RowKit.Hid (decide (ys = limbs (Limb.val ys)) = true) := by show _ = _; simpa using k2
                 clear k1 k2 k3 k4 k5 k6 hgcd
                 go_enter Tryz.func54, Tryz.ntmps54
                 go_wp2_with fail
                 refine (refTrimmed_c HX.out (by omega) true K1.out).mono ?_
                 rintro e w2 ⟨rfl, rfl⟩
                 go_wp2_with fail
                 refine (refTrimmed_c HY.out (by omega) true K2.out).mono ?_
                 rintro e w2 ⟨rfl, rfl⟩
                 go_wp2_with fail
                 refine (refGcd_c (HX.out.short HN.out.1) (HY.out.short HN.out.2) (by decide) (by decide)).mono ?_
                 rintro e w3 ⟨A3, n3, c3, rfl, h3, bn⟩
                 replace HW := Lib.hid (below_two HW.out bn)
                 clear bn c0 c1 c2
                 have hgcd := HGC.out
                 have hn3 := h3.isN.len
                 have hG : gcdN (Limb.val xs) (Limb.val ys) ≠ 1 := hgcd
                 by_cases h31 : n3 = 1
                 · subst h31
                   obtain ⟨g, o, eA, _, hc⟩ := h3.isN.2.2 (by decide)
                   have hc0 := hc 0 (by decide)
                   obtain ⟨u, hu⟩ : ∃ u, lim (limbs (gcdN (Limb.val xs) (Limb.val ys))) 0 = u := ⟨_, rfl⟩
                   have hu1 : u ≠ 1 := by
                    intro e
                    apply hG
                    have hv := h3.val
                    obtain ⟨y, hy⟩ : ∃ y, limbs (gcdN (Limb.val xs) (Limb.val ys)) = [y] := List.length_eq_one_iff.1 hn3
                    rw [hy] at hu hv
                    have hu2 : y = u := hu
                    rw [← hv, hu2, e]; rfl
                   rw [hu] at hc0
                   subst eA
                   have hcc : w3.cell? ⟨g, o, none⟩ = some (.int .u32 (u : Int)) := hc0
                   have hu0 : ((u : Int) == 1) = false := by rw [beq_eq_false_iff_ne]; omega
                   clear h3 hn3 hc hc0 hG hgcd hu hu1
                   go_wp2
                   go_ret
                   exact ⟨rfl, HW.out⟩
                 · have n31 : ((n3 : Int) == 1) = false := by rw [beq_eq_false_iff_ne]; omega
                   clear h3 hn3 hG hgcd h31
                   go_wp2
                   go_ret
                   exact ⟨rfl, HW.out⟩
               · have ks2 : s = false := by simpa using ks
                 subst ks2
                 have n5 : decide ((64 : Int) < (n : Int)) = false := by rw [decide_eq_false_iff_not]; omega
                 have n6 : decide ((64 : Int) < (m : Int)) = false := by rw [decide_eq_false_iff_not]; omega
                 have HGC := Lib.hid hgcd
                 have HN : RowKit.Hid (n ≤ 64 ∧ m ≤ 64) := ⟨by omega, by omega⟩
                 have K1 : RowKit.Hid (decide (xs = limbs (Limb.val xs)) = true) := by show _ = _; simpa using k1
                 have K2 : RowKit.Hid (decide (ys = limbs (Limb.val ys)) = true) := by show _ = _; simpa using k2
                 clear k1 k2 k3 k4 k5 k6 hgcd
                 go_enter Tryz.func54, Tryz.ntmps54
                 go_wp2_with fail
                 refine (refTrimmed_c HX.out (by omega) true K1.out).mono ?_
                 rintro e w2 ⟨rfl, rfl⟩
                 go_wp2_with fail
                 refine (refTrimmed_c HY.out (by omega) true K2.out).mono ?_
                 rintro e w2 ⟨rfl, rfl⟩
                 go_wp2_with fail
                 refine (refGcd_c (HX.out.short HN.out.1) (HY.out.short HN.out.2) (by decide) (by decide)).mono ?_
                 rintro e w3 ⟨A3, n3, c3, rfl, h3, bn⟩
                 replace HW := Lib.hid (below_two HW.out bn)
                 clear bn c0 c1 c2
                 have hgcd := HGC.out
                 have hn3 := h3.isN.len
                 have hG : gcdN (Limb.val xs) (Limb.val ys) ≠ 1 := hgcd
                 by_cases h31 : n3 = 1
                 · subst h31
                   obtain ⟨g, o, eA, _, hc⟩ := h3.isN.2.2 (by decide)
                   have hc0 := hc 0 (by decide)
                   obtain ⟨u, hu⟩ : ∃ u, lim (limbs (gcdN (Limb.val xs) (Limb.val ys))) 0 = u := ⟨_, rfl⟩
                   have hu1 : u ≠ 1 := by
                    intro e
                    apply hG
                    have hv := h3.val
                    obtain ⟨y, hy⟩ : ∃ y, limbs (gcdN (Limb.val xs) (Limb.val ys)) = [y] := List.length_eq_one_iff.1 hn3
                    rw [hy] at hu hv
                    have hu2 : y = u := hu
                    rw [← hv, hu2, e]; rfl
                   rw [hu] at hc0
                   subst eA
                   have hcc : w3.cell? ⟨g, o, none⟩ = some (.int .u32 (u : Int)) := hc0
                   have hu0 : ((u : Int) == 1) = false := by rw [beq_eq_false_iff_ne]; omega
                   clear h3 hn3 hc hc0 hG hgcd hu hu1
                   go_wp2
                   go_ret
                   exact ⟨rfl, HW.out⟩
                 · have n31 : ((n3 : Int) == 1) = false := by rw [beq_eq_false_iff_ne]; omega
                   clear h3 hn3 hG hgcd h31
                   go_wp2
                   go_ret
                   exact ⟨rfl, HW.out⟩
   · have hgf : goodV s xs ys = false := by
      rw [Bool.eq_false_iff]
      intro h
      obtain ⟨g1, g2, g3, g4, g5, g6, g7⟩ := goodV_iff.1 h
      exact k2 g2
     obtain rfl : v = false := hg.symm.trans hgf
     clear hg hgf hlx hlt hsx hsy
     have K1 : RowKit.Hid (decide (xs = limbs (Limb.val xs)) = true) := by show _ = _; simpa using k1
     have K2 : RowKit.Hid (decide (ys = limbs (Limb.val ys)) = false) := by show _ = _; simpa using k2
     clear k1 k2
     go_enter Tryz.func54, Tryz.ntmps54
     go_wp2_with fail
     refine (refTrimmed_c HX.out (by omega) true K1.out).mono ?_
     rintro e w2 ⟨rfl, rfl⟩
     go_wp2_with fail
     refine (refTrimmed_c HY.out (by omega) false K2.out).mono ?_
     rintro e w2 ⟨rfl, rfl⟩
     go_wp2
     go_ret
     exact ⟨rfl, HW.out⟩
 · have hgf : goodV s xs ys = false := by
    rw [Bool.eq_false_iff]
    intro h
    obtain ⟨g1, g2, g3, g4, g5, g6, g7⟩ := goodV_iff.1 h
    exact k1 g1
   obtain rfl : v = false := hg.symm.trans hgf
   clear hg hgf hlx hlt hsx hsy
   have K1 : RowKit.Hid (decide (xs = limbs (Limb.val xs)) = false) := by show _ = _; simpa using k1
   clear k1
   go_enter Tryz.func54, Tryz.ntmps54
   go_wp2_with fail
   refine (refTrimmed_c HX.out (by omega) false K1.out).mono ?_
   rintro e w2 ⟨rfl, rfl⟩
   go_wp2
   go_ret
   exact ⟨rfl, HW.out⟩
end
end Go.Proofs.YtohokfbohdoijaaGreatDoor

/- What the reference of layer 7 answers (Less, Neg), as contracts over memory. Conditions: sizes of at most so many limbs. -/
namespace Go.Proofs.YtohokfbohdoijaaGreatDoor
open Go.RowKit Limb
set_option linter.unusedVariables false
section
variable {w : World} {s s' : Bool} {A B A' B' : Option Addr} {n c m d n' c' m' d' : Nat} {xs ys xs' ys' : List Nat} {x y : Int} {a b L L' : Nat}
set_option maxHeartbeats 4000000 in
set_option maxRecDepth 100000 in
theorem refLess_c (hx : ZZ w s A n c xs x L) (hy : NN w B m d ys a L) (hx' : ZZ w s' A' n' c' xs' y L') (hy' : NN w B' m' d' ys' b L') (h1 : L ≤ 1000) (h2 : L' ≤ 1000) (v : Int) (hv : cmpZ (x * (b : Int)) (y * (a : Int)) = v) :
 Calls Tryz.prog 123 #[.agg #[.bool s, .slice A n c, .slice B m d], .agg #[.bool s', .slice A' n' c', .slice B' m' d']] w fun e w' => e = .returned (.int .i64 v) ∧ Below w.heap.size w w' := by
 have b0 := below_new w (.cells #[Value.bool s, Value.slice A n c, Value.slice B m d] 33)
 have b1 := below_new (w.alloc (.cells #[Value.bool s, Value.slice A n c, Value.slice B m d] 33)) (.cells #[Value.bool s', Value.slice A' n' c', Value.slice B' m' d'] 33)
 have HW := Lib.hid (below_two b0 b1)
 have HX := Lib.hid (hx.below HW.out)
 have HY := Lib.hid (hy.below HW.out)
 have HX1 := Lib.hid (hx'.below HW.out)
 have HY1 := Lib.hid (hy'.below HW.out)
 have r0 := ((row3_new w 33 (.bool s) (.slice A n c) (.slice B m d)).below b1)
 have r1 := (row3_new (w.alloc (.cells #[Value.bool s, Value.slice A n c, Value.slice B m d] 33)) 33 (.bool s') (.slice A' n' c') (.slice B' m' d'))
 simp only [World.size_alloc] at r1
 clear b0 b1 hx hy hx' hy'
 go_enter Tryz.func123, Tryz.ntmps123
 go_wp2
 generalize (w.alloc (.cells #[Value.bool s, Value.slice A n c, Value.slice B m d] 33)).alloc (.cells #[Value.bool s', Value.slice A' n' c', Value.slice B' m' d'] 33) = wS at *
 have HR0 := Lib.hid r0
 have HR1 := Lib.hid r1
 clear r0 r1
 refine region_free 13 1 [5, 6, 7, 8, 9, 10, 11, 12, 13, 14, 15, 16, 17] ?aF4 (fun wx => Below wS.heap.size wS wx) (fun k vv wx => match k with
  | 0 => vv = .pointer (some ⟨w.heap.size, 0, none⟩)
  | 1 => vv = .agg #[.bool s, .slice A n c]
  | 2 => vv = .pointer (some ⟨w.heap.size + 1, 2, none⟩)
  | 3 => vv = .slice B' m' d'
  | 4 => ∃ (e0 : Option Addr) (e1 : Nat) (e2 : Nat), vv = .agg #[.bool (sg (b : Int)), .slice e0 e1 e2] ∧ ZZ wx (sg (b : Int)) e0 e1 e2 (limbs (b : Int).natAbs) (b : Int) L'
  | 5 => ∃ (e0 : Option Addr) (e1 : Nat) (e2 : Nat), vv = .agg #[.bool (sg (x * (b : Int))), .slice e0 e1 e2] ∧ ZZ wx (sg (x * (b : Int))) e0 e1 e2 (limbs (x * (b : Int)).natAbs) (x * (b : Int)) (L + L')
  | 6 => vv = .pointer (some ⟨w.heap.size + 1, 0, none⟩)
  | 7 => vv = .agg #[.bool s', .slice A' n' c']
  | 8 => vv = .pointer (some ⟨w.heap.size, 2, none⟩)
  | 9 => vv = .slice B m d
  | 10 => ∃ (e0 : Option Addr) (e1 : Nat) (e2 : Nat), vv = .agg #[.bool (sg (a : Int)), .slice e0 e1 e2] ∧ ZZ wx (sg (a : Int)) e0 e1 e2 (limbs (a : Int).natAbs) (a : Int) L
  | 11 => ∃ (e0 : Option Addr) (e1 : Nat) (e2 : Nat), vv = .agg #[.bool (sg (y * (a : Int))), .slice e0 e1 e2] ∧ ZZ wx (sg (y * (a : Int))) e0 e1 e2 (limbs (y * (a : Int)).natAbs) (y * (a : Int)) (L' + L)
  | _ => vv = .int .i64 v)
  (fun k => false) (by kernel_rfl) ?haF4 rfl (by kernel_rfl) (by kernel_rfl) (fun _ _ _ _ _ h => h) ?hSb4 ?hPb4 ?hS4 ?hop4 ?hfin4
 case haF4 =>
  intro vals
  simp only [fillAll, List.getElem?_cons_zero, List.getElem?_cons_succ, Act.put, List.setIfInBounds_toArray, List.set_cons_zero, List.set_cons_succ]
  exact rfl
 case hSb4 => exact fun wx w2 hb hS => below_two hS hb
 case hPb4 =>
  intro k v wa wb hb h
  match k, h with
  | 0, h => exact h
  | 1, h => exact h
  | 2, h => exact h
  | 3, h => exact h
  | 4, ⟨e0, e1, e2, h1, g0⟩ => exact ⟨e0, e1, e2, h1, g0.below hb⟩
  | 5, ⟨e0, e1, e2, h1, g0⟩ => exact ⟨e0, e1, e2, h1, g0.below hb⟩
  | 6, h => exact h
  | 7, h => exact h
  | 8, h => exact h
  | 9, h => exact h
  | 10, ⟨e0, e1, e2, h1, g0⟩ => exact ⟨e0, e1, e2, h1, g0.below hb⟩
  | 11, ⟨e0, e1, e2, h1, g0⟩ => exact ⟨e0, e1, e2, h1, g0.below hb⟩
  | _ + 12, h => exact h
 case hS4 => exact (Below.refl _ _).drew
 case hop4 =>
  refine .cons (k := 0) ?_ (.cons (k := 1) ?_ (.cons (k := 2) ?_ (.cons (k := 3) ?_ (.cons (k := 4) ?_ (.cons (k := 5) ?_ (.cons (k := 6) ?_ (.cons (k := 7) ?_ (.cons (k := 8) ?_ (.cons (k := 9) ?_ (.cons (k := 10) ?_ (.cons (k := 11) ?_ (.cons (k := 12) ?_ (.nil)))))))))))))
  all_goals intro vals wr hS hd KC hK
  all_goals (show Oper.wp _ _ _ _ _ _; dsimp only)
  · go_simp
    refine hK _ _ rfl (Below.refl _ _) (by first | rfl | simp) (fun h => by cases h)
  · have d0 : vals 0 = _ := hd 0 (by decide +kernel)
    rw [d0]
    have z0 := (HR0.out.below hS).c0
    have z1 := (HR0.out.below hS).c1
    go_simp
    refine hK _ _ rfl (Below.refl _ _) (by first | rfl | simp) (fun h => by cases h)
  · go_simp
    refine hK _ _ rfl (Below.refl _ _) (by first | rfl | simp) (fun h => by cases h)
  · have d2 : vals 2 = _ := hd 2 (by decide +kernel)
    rw [d2]
    have z0 := (HR1.out.below hS).c2
    go_simp
    refine hK _ _ rfl (Below.refl _ _) (by first | rfl | simp) (fun h => by cases h)
  · have d3 : vals 3 = _ := hd 3 (by decide +kernel)
    rw [d3]
    go_simp
    go_at_call 162
    with_reducible refine (refPos_c (HY1.out.below hS) (by omega)).mono ?_
    rintro e w2 ⟨r0, r1, r2, rfl, f0, bn_r⟩
    refine hK _ _ rfl bn_r ⟨_, _, _, rfl, f0⟩ (fun h => by cases h)
  · have d1 : vals 1 = _ := hd 1 (by decide +kernel)
    obtain ⟨A_4_0, n_4_1, n_4_2, d4, h_4_0⟩ := hd 4 (by decide +kernel)
    rw [d1, d4]
    go_simp
    go_at_call 104
    with_reducible refine (refIMul_c (HX.out.below hS) h_4_0 (by omega) (by omega) (x * (b : Int)) rfl).mono ?_
    rintro e w2 ⟨r0, r1, r2, rfl, f0, bn_r⟩
    refine hK _ _ rfl bn_r ⟨_, _, _, rfl, f0⟩ (fun h => by cases h)
  · go_simp
    refine hK _ _ rfl (Below.refl _ _) (by first | rfl | simp) (fun h => by cases h)
  · have d6 : vals 6 = _ := hd 6 (by decide +kernel)
    rw [d6]
    have z0 := (HR1.out.below hS).c0
    have z1 := (HR1.out.below hS).c1
    go_simp
    refine hK _ _ rfl (Below.refl _ _) (by first | rfl | simp) (fun h => by cases h)
  · go_simp
    refine hK _ _ rfl (Below.refl _ _) (by first | rfl | simp) (fun h => by cases h)
  · have d8 : vals 8 = _ := hd 8 (by decide +kernel)
    rw [d8]
    have z0 := (HR0.out.below hS).c2
    go_simp
    refine hK _ _ rfl (Below.refl _ _) (by first | rfl | simp) (fun h => by cases h)
  · have d9 : vals 9 = _ := hd 9 (by decide +kernel)
    rw [d9]
    go_simp
    go_at_call 162
    with_reducible refine (refPos_c (HY.out.below hS) (by omega)).mono ?_
    rintro e w2 ⟨r0, r1, r2, rfl, f0, bn_r⟩
    refine hK _ _ rfl bn_r ⟨_, _, _, rfl, f0⟩ (fun h => by cases h)
  · have d7 : vals 7 = _ := hd 7 (by decide +kernel)
    obtain ⟨A_10_0, n_10_1, n_10_2, d10, h_10_0⟩ := hd 10 (by decide +kernel)
    rw [d7, d10]
    go_simp
    go_at_call 104
    with_reducible refine (refIMul_c (HX1.out.below hS) h_10_0 (by omega) (by omega) (y * (a : Int)) rfl).mono ?_
    rintro e w2 ⟨r0, r1, r2, rfl, f0, bn_r⟩
    refine hK _ _ rfl bn_r ⟨_, _, _, rfl, f0⟩ (fun h => by cases h)
  · obtain ⟨A_5_0, n_5_1, n_5_2, d5, h_5_0⟩ := hd 5 (by decide +kernel)
    obtain ⟨A_11_0, n_11_1, n_11_2, d11, h_11_0⟩ := hd 11 (by decide +kernel)
    rw [d5, d11]
    go_simp
    go_at_call 161
    with_reducible refine (refICmp_c h_5_0 h_11_0 (by omega) (by omega) v hv).mono ?_
    rintro e w2 ⟨rfl, bn_r⟩
    refine hK _ _ rfl bn_r rfl (fun h => by cases h)
 case hfin4 =>
  intro vals wr hS hP hne
  have ez : vals 12 = _ := hP 12 (by decide)
  have HB := Lib.hid (below_two HW.out hS)
  try dsimp only
  rw [ez]
  refine wpAny_ready (rs := [13]) (by kernel_rfl) (by simp) (AllReady.cons rfl (fun KC hK => ?_) AllReady.nil)
  go_simp
  refine hK _ _ ?_
  clear hK KC
  refine wpAny_done (by kernel_rfl) ?_ _
  go_wp2
  go_ret
  exact ⟨rfl, HB.out⟩
end
end Go.Proofs.YtohokfbohdoijaaGreatDoor

/- What the reference of layer 7 answers (Add, Mul, Sub, Div), as contracts over memory. Conditions: sizes of at most so many limbs. -/
namespace Go.Proofs.YtohokfbohdoijaaGreatDoor
open Go.RowKit Limb
set_option linter.unusedVariables false
section
variable {w : World} {s s' : Bool} {A B A' B' : Option Addr} {n c m d n' c' m' d' : Nat} {xs ys xs' ys' : List Nat} {x y : Int} {o o' : Option Rat} {a b L L' : Nat}
set_option maxHeartbeats 4000000 in
set_option maxRecDepth 100000 in
theorem refQDiv_c (hx : QQ w s A n c xs B m d ys o L) (hx' : QQ w s' A' n' c' xs' B' m' d' ys' o' L') (h1 : L ≤ 1000) (h2 : L' ≤ 1000) (r : Option Rat) (e : Int) (hR : divR o o' = (r, e)) :
 Calls Tryz.prog 51 #[.agg #[.bool s, .slice A n c, .slice B m d], .agg #[.bool s', .slice A' n' c', .slice B' m' d']] w fun ee w' => ∃ A2 n2 c2 B2 m2 d2, ee = .returned (.agg #[.bool (sg (oTop r)), .slice A2 n2 c2, .slice B2 m2 d2, .int .i64 e]) ∧ QT w' A2 n2 c2 B2 m2 d2 r ∧ Below w.heap.size w w' := by
 cases o with
 | none =>
  have hR2 : ((none : Option Rat), (1 : Int)) = (r, e) := hR
  cases hR2
  clear hR
  have b0 := below_new w (.cells #[Value.bool s, Value.slice A n c, Value.slice B m d] 33)
  have b1 := below_new (w.alloc (.cells #[Value.bool s, Value.slice A n c, Value.slice B m d] 33)) (.cells #[Value.bool s', Value.slice A' n' c', Value.slice B' m' d'] 33)
  have b2 := below_new ((w.alloc (.cells #[Value.bool s, Value.slice A n c, Value.slice B m d] 33)).alloc (.cells #[Value.bool s', Value.slice A' n' c', Value.slice B' m' d'] 33)) (.cells #[Value.bool false, Value.slice none 0 0, Value.slice none 0 0, Value.int IntKind.i64 0] 98)
  have HW := Lib.hid (below_two (below_two b0 b1) b2)
  have HQ0 := Lib.hid (hx.below HW.out)
  have HQ1 := Lib.hid (hx'.below HW.out)
  have r0 := ((row3_new w 33 (.bool s) (.slice A n c) (.slice B m d)).below b1).below b2
  have r1 := (row3_new (w.alloc (.cells #[Value.bool s, Value.slice A n c, Value.slice B m d] 33)) 33 (.bool s') (.slice A' n' c') (.slice B' m' d')).below b2
  have rz := row4_new ((w.alloc (.cells #[Value.bool s, Value.slice A n c, Value.slice B m d] 33)).alloc (.cells #[Value.bool s', Value.slice A' n' c', Value.slice B' m' d'] 33)) 98 (.bool false) (.slice none 0 0) (.slice none 0 0) (.int .i64 0)
  simp only [World.size_alloc] at r1 rz
  clear b0 b1 b2 hx hx'
  go_enter Tryz.func51, Tryz.ntmps51
  go_wp2_with fail
  generalize ((w.alloc (.cells #[Value.bool s, Value.slice A n c, Value.slice B m d] 33)).alloc (.cells #[Value.bool s', Value.slice A' n' c', Value.slice B' m' d'] 33)).alloc (.cells #[Value.bool false, Value.slice none 0 0, Value.slice none 0 0, Value.int IntKind.i64 0] 98) = w1 at *
  have HR0 := Lib.hid r0
  have HR1 := Lib.hid r1
  have HZ := Lib.hid rz
  have Hq : RowKit.Hid (w.heap.size ≤ w.heap.size + 1 + 1) := by show _ ≤ _; omega
  clear r0 r1 rz
  refine (refGood_c HQ0.out (by omega) false rfl).mono ?_
  rintro e w2 ⟨rfl, bn⟩
  replace HQ0 := Lib.hid (HQ0.out.below bn)
  replace HR0 := Lib.hid (HR0.out.below bn)
  replace HQ1 := Lib.hid (HQ1.out.below bn)
  replace HR1 := Lib.hid (HR1.out.below bn)
  replace HZ := Lib.hid (HZ.out.below bn)
  replace HW := Lib.hid (below_two HW.out bn)
  clear bn
  have e0 := HZ.out.c0
  have e1 := HZ.out.c1
  have e2 := HZ.out.c2
  have e3 := HZ.out.c3
  have f0 := HZ.out.free 0
  have f1 := HZ.out.free 1
  have f2 := HZ.out.free 2
  have f3 := HZ.out.free 3
  have HF := Lib.hid (HZ.out.fill (.bool false) (.slice none 0 0) (.slice none 0 0) (.int .i64 1))
  have HB := Lib.hid (below_fill4 HW.out Hq.out (.bool false) (.slice none 0 0) (.slice none 0 0) (.int .i64 1))
  go_wp2
  refine bodyPost_ret (results_cell_row rfl _ _ _ 98 #[.bool false, .slice none 0 0, .slice none 0 0, .int .i64 1] (0, 0) _ rfl HF.out Tryz.underlying98 rfl got7_size) rfl ?_
  exact ⟨none, 0, 0, none, 0, 0, rfl, qt_none _ 0 0, HB.out⟩
 | some p =>
  cases o' with
  | none =>
   have hR2 : ((none : Option Rat), (1 : Int)) = (r, e) := hR
   cases hR2
   clear hR
   have b0 := below_new w (.cells #[Value.bool s, Value.slice A n c, Value.slice B m d] 33)
   have b1 := below_new (w.alloc (.cells #[Value.bool s, Value.slice A n c, Value.slice B m d] 33)) (.cells #[Value.bool s', Value.slice A' n' c', Value.slice B' m' d'] 33)
   have b2 := below_new ((w.alloc (.cells #[Value.bool s, Value.slice A n c, Value.slice B m d] 33)).alloc (.cells #[Value.bool s', Value.slice A' n' c', Value.slice B' m' d'] 33)) (.cells #[Value.bool false, Value.slice none 0 0, Value.slice none 0 0, Value.int IntKind.i64 0] 98)
   have HW := Lib.hid (below_two (below_two b0 b1) b2)
   have HQ0 := Lib.hid (hx.below HW.out)
   have HQ1 := Lib.hid (hx'.below HW.out)
   have r0 := ((row3_new w 33 (.bool s) (.slice A n c) (.slice B m d)).below b1).below b2
   have r1 := (row3_new (w.alloc (.cells #[Value.bool s, Value.slice A n c, Value.slice B m d] 33)) 33 (.bool s') (.slice A' n' c') (.slice B' m' d')).below b2
   have rz := row4_new ((w.alloc (.cells #[Value.bool s, Value.slice A n c, Value.slice B m d] 33)).alloc (.cells #[Value.bool s', Value.slice A' n' c', Value.slice B' m' d'] 33)) 98 (.bool false) (.slice none 0 0) (.slice none 0 0) (.int .i64 0)
   simp only [World.size_alloc] at r1 rz
   clear b0 b1 b2 hx hx'
   go_enter Tryz.func51, Tryz.ntmps51
   go_wp2_with fail
   generalize ((w.alloc (.cells #[Value.bool s, Value.slice A n c, Value.slice B m d] 33)).alloc (.cells #[Value.bool s', Value.slice A' n' c', Value.slice B' m' d'] 33)).alloc (.cells #[Value.bool false, Value.slice none 0 0, Value.slice none 0 0, Value.int IntKind.i64 0] 98) = w1 at *
   have HR0 := Lib.hid r0
   have HR1 := Lib.hid r1
   have HZ := Lib.hid rz
   have Hq : RowKit.Hid (w.heap.size ≤ w.heap.size + 1 + 1) := by show _ ≤ _; omega
   clear r0 r1 rz
   refine (refGood_c HQ0.out (by omega) true rfl).mono ?_
   rintro e w2 ⟨rfl, bn⟩
   replace HQ0 := Lib.hid (HQ0.out.below bn)
   replace HR0 := Lib.hid (HR0.out.below bn)
   replace HQ1 := Lib.hid (HQ1.out.below bn)
   replace HR1 := Lib.hid (HR1.out.below bn)
   replace HZ := Lib.hid (HZ.out.below bn)
   replace HW := Lib.hid (below_two HW.out bn)
   clear bn
   have c10 := HR1.out.c0
   have c11 := HR1.out.c1
   have c12 := HR1.out.c2
   go_wp2_with fail
   clear c10 c11 c12
   refine (refGood_c HQ1.out (by omega) false rfl).mono ?_
   rintro e w2 ⟨rfl, bn⟩
   replace HQ0 := Lib.hid (HQ0.out.below bn)
   replace HR0 := Lib.hid (HR0.out.below bn)
   replace HQ1 := Lib.hid (HQ1.out.below bn)
   replace HR1 := Lib.hid (HR1.out.below bn)
   replace HZ := Lib.hid (HZ.out.below bn)
   replace HW := Lib.hid (below_two HW.out bn)
   clear bn
   have e0 := HZ.out.c0
   have e1 := HZ.out.c1
   have e2 := HZ.out.c2
   have e3 := HZ.out.c3
   have f0 := HZ.out.free 0
   have f1 := HZ.out.free 1
   have f2 := HZ.out.free 2
   have f3 := HZ.out.free 3
   have HF := Lib.hid (HZ.out.fill (.bool false) (.slice none 0 0) (.slice none 0 0) (.int .i64 1))
   have HB := Lib.hid (below_fill4 HW.out Hq.out (.bool false) (.slice none 0 0) (.slice none 0 0) (.int .i64 1))
   go_wp2
   refine bodyPost_ret (results_cell_row rfl _ _ _ 98 #[.bool false, .slice none 0 0, .slice none 0 0, .int .i64 1] (0, 0) _ rfl HF.out Tryz.underlying98 rfl got7_size) rfl ?_
   exact ⟨none, 0, 0, none, 0, 0, rfl, qt_none _ 0 0, HB.out⟩
  | some q =>
   by_cases h0 : q.num = 0
   · obtain ⟨rfl, rfl⟩ : r = none ∧ e = 3 := by
      have h2 : (if q.num = 0 then ((none : Option Rat), (3 : Int)) else limR (p / q)) = (r, e) := hR
      rw [if_pos h0] at h2
      cases h2; exact ⟨rfl, rfl⟩
     clear hR
     have n0 : ((n' : Int) == 0) = true := by
      rw [beq_iff_eq]
      have hl := hx'.some.2.2.2.2.1.nn.isN.len
      rw [hx'.some.2.1, h0] at hl
      have hl2 : (limbs (0 : Int).natAbs).length = 0 := by rw [show (0 : Int).natAbs = 0 from rfl, limbs_zero]; rfl
      omega
     clear h0
     have b0 := below_new w (.cells #[Value.bool s, Value.slice A n c, Value.slice B m d] 33)
     have b1 := below_new (w.alloc (.cells #[Value.bool s, Value.slice A n c, Value.slice B m d] 33)) (.cells #[Value.bool s', Value.slice A' n' c', Value.slice B' m' d'] 33)
     have b2 := below_new ((w.alloc (.cells #[Value.bool s, Value.slice A n c, Value.slice B m d] 33)).alloc (.cells #[Value.bool s', Value.slice A' n' c', Value.slice B' m' d'] 33)) (.cells #[Value.bool false, Value.slice none 0 0, Value.slice none 0 0, Value.int IntKind.i64 0] 98)
     have HW := Lib.hid (below_two (below_two b0 b1) b2)
     have HQ0 := Lib.hid (hx.below HW.out)
     have HQ1 := Lib.hid (hx'.below HW.out)
     have r0 := ((row3_new w 33 (.bool s) (.slice A n c) (.slice B m d)).below b1).below b2
     have r1 := (row3_new (w.alloc (.cells #[Value.bool s, Value.slice A n c, Value.slice B m d] 33)) 33 (.bool s') (.slice A' n' c') (.slice B' m' d')).below b2
     have rz := row4_new ((w.alloc (.cells #[Value.bool s, Value.slice A n c, Value.slice B m d] 33)).alloc (.cells #[Value.bool s', Value.slice A' n' c', Value.slice B' m' d'] 33)) 98 (.bool false) (.slice none 0 0) (.slice none 0 0) (.int .i64 0)
     simp only [World.size_alloc] at r1 rz
     clear b0 b1 b2 hx hx'
     go_enter Tryz.func51, Tryz.ntmps51
     go_wp2_with fail
     generalize ((w.alloc (.cells #[Value.bool s, Value.slice A n c, Value.slice B m d] 33)).alloc (.cells #[Value.bool s', Value.slice A' n' c', Value.slice B' m' d'] 33)).alloc (.cells #[Value.bool false, Value.slice none 0 0, Value.slice none 0 0, Value.int IntKind.i64 0] 98) = w1 at *
     have HR0 := Lib.hid r0
     have HR1 := Lib.hid r1
     have HZ := Lib.hid rz
     have Hq : RowKit.Hid (w.heap.size ≤ w.heap.size + 1 + 1) := by show _ ≤ _; omega
     clear r0 r1 rz
     refine (refGood_c HQ0.out (by omega) true rfl).mono ?_
     rintro e w2 ⟨rfl, bn⟩
     replace HQ0 := Lib.hid (HQ0.out.below bn)
     replace HR0 := Lib.hid (HR0.out.below bn)
     replace HQ1 := Lib.hid (HQ1.out.below bn)
     replace HR1 := Lib.hid (HR1.out.below bn)
     replace HZ := Lib.hid (HZ.out.below bn)
     replace HW := Lib.hid (below_two HW.out bn)
     clear bn
     have c10 := HR1.out.c0
     have c11 := HR1.out.c1
     have c12 := HR1.out.c2
     go_wp2_with fail
     clear c10 c11 c12
     refine (refGood_c HQ1.out (by omega) true rfl).mono ?_
     rintro e w2 ⟨rfl, bn⟩
     replace HQ0 := Lib.hid (HQ0.out.below bn)
     replace HR0 := Lib.hid (HR0.out.below bn)
     replace HQ1 := Lib.hid (HQ1.out.below bn)
     replace HR1 := Lib.hid (HR1.out.below bn)
     replace HZ := Lib.hid (HZ.out.below bn)
     replace HW := Lib.hid (below_two HW.out bn)
     clear bn
     have c10 := HR1.out.c0
     have c11 := HR1.out.c1
     have c12 := HR1.out.c2
     have e0 := HZ.out.c0
     have e1 := HZ.out.c1
     have e2 := HZ.out.c2
     have e3 := HZ.out.c3
     have f0 := HZ.out.free 0
     have f1 := HZ.out.free 1
     have f2 := HZ.out.free 2
     have f3 := HZ.out.free 3
     have HF := Lib.hid (HZ.out.fill (.bool false) (.slice none 0 0) (.slice none 0 0) (.int .i64 3))
     have HB := Lib.hid (below_fill4 HW.out Hq.out (.bool false) (.slice none 0 0) (.slice none 0 0) (.int .i64 3))
     go_wp2
     refine bodyPost_ret (results_cell_row rfl _ _ _ 98 #[.bool false, .slice none 0 0, .slice none 0 0, .int .i64 3] (0, 0) _ rfl HF.out Tryz.underlying98 rfl got7_size) rfl ?_
     exact ⟨none, 0, 0, none, 0, 0, rfl, qt_none _ 0 0, HB.out⟩
   · have hR0 : limR (p / q) = (r, e) := by
      have h2 : (if q.num = 0 then ((none : Option Rat), (3 : Int)) else limR (p / q)) = (r, e) := hR
      rwa [if_neg h0] at h2
     clear hR
     have hR := hR0
     clear hR0
     obtain ⟨z, hz⟩ : ∃ z : Rat, p / q = z := ⟨_, rfl⟩
     have hL : limR z = (r, e) := by rw [← hz]; exact hR
     clear hR
     have hL2 : (limQ z, limE z) = (r, e) := hL
     cases hL2
     clear hL
     have HM : RowKit.Hid (mkRat (p.num * zOf (sg q.num) q.den) (p.den * q.num.natAbs) = z) := by
      show _ = _
      rw [← hz]; exact (div_mk h0).symm
     clear hz
     have n0 : ((n' : Int) == 0) = false := by
      rw [beq_eq_false_iff_ne]
      intro h
      have hl := hx'.some.2.2.2.2.1.nn.isN.len
      rw [hx'.some.2.1] at hl
      have hl2 := len_limbs_zero.1 (hl.trans (by omega))
      omega
     have HN0 : RowKit.Hid (q.num.natAbs ≠ 0) := by show _ ≠ _; omega
     have HSG := Lib.hid hx'.some.1
     clear h0
     have b0 := below_new w (.cells #[Value.bool s, Value.slice A n c, Value.slice B m d] 33)
     have b1 := below_new (w.alloc (.cells #[Value.bool s, Value.slice A n c, Value.slice B m d] 33)) (.cells #[Value.bool s', Value.slice A' n' c', Value.slice B' m' d'] 33)
     have b2 := below_new ((w.alloc (.cells #[Value.bool s, Value.slice A n c, Value.slice B m d] 33)).alloc (.cells #[Value.bool s', Value.slice A' n' c', Value.slice B' m' d'] 33)) (.cells #[Value.bool false, Value.slice none 0 0, Value.slice none 0 0, Value.int IntKind.i64 0] 98)
     have HW := Lib.hid (below_two (below_two b0 b1) b2)
     have HQ0 := Lib.hid (hx.below HW.out)
     have HQ1 := Lib.hid (hx'.below HW.out)
     have r0 := ((row3_new w 33 (.bool s) (.slice A n c) (.slice B m d)).below b1).below b2
     have r1 := (row3_new (w.alloc (.cells #[Value.bool s, Value.slice A n c, Value.slice B m d] 33)) 33 (.bool s') (.slice A' n' c') (.slice B' m' d')).below b2
     have rz := row4_new ((w.alloc (.cells #[Value.bool s, Value.slice A n c, Value.slice B m d] 33)).alloc (.cells #[Value.bool s', Value.slice A' n' c', Value.slice B' m' d'] 33)) 98 (.bool false) (.slice none 0 0) (.slice none 0 0) (.int .i64 0)
     simp only [World.size_alloc] at r1 rz
     clear b0 b1 b2 hx hx'
     go_enter Tryz.func51, Tryz.ntmps51
     go_wp2_with fail
     generalize ((w.alloc (.cells #[Value.bool s, Value.slice A n c, Value.slice B m d] 33)).alloc (.cells #[Value.bool s', Value.slice A' n' c', Value.slice B' m' d'] 33)).alloc (.cells #[Value.bool false, Value.slice none 0 0, Value.slice none 0 0, Value.int IntKind.i64 0] 98) = w1 at *
     have HR0 := Lib.hid r0
     have HR1 := Lib.hid r1
     have HZ := Lib.hid rz
     have Hq : RowKit.Hid (w.heap.size ≤ w.heap.size + 1 + 1) := by show _ ≤ _; omega
     clear r0 r1 rz
     refine (refGood_c HQ0.out (by omega) true rfl).mono ?_
     rintro e w2 ⟨rfl, bn⟩
     replace HQ0 := Lib.hid (HQ0.out.below bn)
     replace HR0 := Lib.hid (HR0.out.below bn)
     replace HQ1 := Lib.hid (HQ1.out.below bn)
     replace HR1 := Lib.hid (HR1.out.below bn)
     replace HZ := Lib.hid (HZ.out.below bn)
     replace HW := Lib.hid (below_two HW.out bn)
     clear bn
     have c10 := HR1.out.c0
     have c11 := HR1.out.c1
     have c12 := HR1.out.c2
     go_wp2_with fail
     clear c10 c11 c12
     refine (refGood_c HQ1.out (by omega) true rfl).mono ?_
     rintro e wS ⟨rfl, bn⟩
     replace HQ0 := Lib.hid (HQ0.out.below bn)
     replace HR0 := Lib.hid (HR0.out.below bn)
     replace HQ1 := Lib.hid (HQ1.out.below bn)
     replace HR1 := Lib.hid (HR1.out.below bn)
     replace HZ := Lib.hid (HZ.out.below bn)
     replace HW := Lib.hid (below_two HW.out bn)
     clear bn
     have HX := Lib.hid HQ0.out.some.2.2.2.2.1
     have HY := Lib.hid HQ0.out.some.2.2.2.2.2.1
     have HX1 := Lib.hid HQ1.out.some.2.2.2.2.1
     have HY1 := Lib.hid HQ1.out.some.2.2.2.2.2.1
     have c10 := HR1.out.c0
     have c11 := HR1.out.c1
     have c12 := HR1.out.c2
     go_wp2_with fail
     clear c10 c11 c12
     refine region_free 13 1 [20, 21, 22, 23, 24, 25, 26, 27, 28, 29, 30, 31, 32] ?aF14 (fun wx => Below wS.heap.size wS wx) (fun k vv wx => match k with
      | 0 => vv = .agg #[.bool s, .slice A n c, .slice B m d]
      | 1 => vv = .pointer (some ⟨w.heap.size + 1, 0, none⟩)
      | 2 => vv = .pointer (some ⟨w.heap.size + 1, 0, none⟩)
      | 3 => vv = .bool s'
      | 4 => vv = .pointer (some ⟨w.heap.size + 1, 2, none⟩)
      | 5 => vv = .slice B' m' d'
      | 6 => ∃ (e0 : Option Addr) (e1 : Nat) (e2 : Nat), vv = .agg #[.bool (sg (zOf (sg q.num) q.den)), .slice e0 e1 e2] ∧ ZZ wx (sg (zOf (sg q.num) q.den)) e0 e1 e2 (limbs (zOf (sg q.num) q.den).natAbs) (zOf (sg q.num) q.den) 64
      | 7 => vv = .pointer (some ⟨w.heap.size + 1, 0, none⟩)
      | 8 => vv = .pointer (some ⟨w.heap.size + 1, 1, none⟩)
      | 9 => vv = .slice A' n' c'
      | 10 => ∃ (e0 : Option Addr) (e1 : Nat) (e2 : Nat), vv = .agg #[.bool (sg (zOf (sg q.num) q.den)), .slice e0 e1 e2, .slice A' n' c'] ∧ ZZ wx (sg (zOf (sg q.num) q.den)) e0 e1 e2 (limbs (zOf (sg q.num) q.den).natAbs) (zOf (sg q.num) q.den) 64
      | 11 => ∃ (e0 : Option Addr) (e1 : Nat) (e2 : Nat) (e3 : Option Addr) (e4 : Nat) (e5 : Nat), vv = .agg #[.bool (sg z.num), .slice e0 e1 e2, .slice e3 e4 e5] ∧ ZZ wx (sg z.num) e0 e1 e2 (limbs z.num.natAbs) z.num (64 + 64) ∧ NN wx e3 e4 e5 (limbs z.den) z.den (64 + 64)
      | _ => ∃ (e0 : Option Addr) (e1 : Nat) (e2 : Nat) (e3 : Option Addr) (e4 : Nat) (e5 : Nat), vv = .agg #[.bool (sg (oTop (limQ z))), .slice e0 e1 e2, .slice e3 e4 e5, .int .i64 (limE z)] ∧ QT wx e0 e1 e2 e3 e4 e5 (limQ z))
      (fun k => false) (by kernel_rfl) ?haF14 rfl (by kernel_rfl) (by kernel_rfl) (fun _ _ _ _ _ h => h) ?hSb14 ?hPb14 ?hS14 ?hop14 ?hfin14
     case haF14 =>
      intro vals
      simp only [fillAll, List.getElem?_cons_zero, List.getElem?_cons_succ, Act.put, List.setIfInBounds_toArray, List.set_cons_zero, List.set_cons_succ]
      exact rfl
     case hSb14 => exact fun wx w2 hb hS => below_two hS hb
     case hPb14 =>
      intro k v wa wb hb h
      match k, h with
      | 0, h => exact h
      | 1, h => exact h
      | 2, h => exact h
      | 3, h => exact h
      | 4, h => exact h
      | 5, h => exact h
      | 6, ⟨e0, e1, e2, h1, g0⟩ => exact ⟨e0, e1, e2, h1, g0.below hb⟩
      | 7, h => exact h
      | 8, h => exact h
      | 9, h => exact h
      | 10, ⟨e0, e1, e2, h1, g0⟩ => exact ⟨e0, e1, e2, h1, g0.below hb⟩
      | 11, ⟨e0, e1, e2, e3, e4, e5, h1, g0, g1⟩ => exact ⟨e0, e1, e2, e3, e4, e5, h1, g0.below hb, g1.below hb⟩
      | _ + 12, ⟨e0, e1, e2, e3, e4, e5, h1, g0⟩ => exact ⟨e0, e1, e2, e3, e4, e5, h1, g0.below hb⟩
     case hS14 => exact (Below.refl _ _).drew
     case hop14 =>
      refine .cons (k := 0) ?_ (.cons (k := 1) ?_ (.cons (k := 2) ?_ (.cons (k := 3) ?_ (.cons (k := 4) ?_ (.cons (k := 5) ?_ (.cons (k := 6) ?_ (.cons (k := 7) ?_ (.cons (k := 8) ?_ (.cons (k := 9) ?_ (.cons (k := 10) ?_ (.cons (k := 11) ?_ (.cons (k := 12) ?_ (.nil)))))))))))))
      all_goals intro vals wr hS hd KC hK
      all_goals (show Oper.wp _ _ _ _ _ _; dsimp only)
      · have z0 := (HR0.out.below hS).c0
        have z1 := (HR0.out.below hS).c1
        have z2 := (HR0.out.below hS).c2
        go_simp
        refine hK _ _ rfl (Below.refl _ _) (by first | rfl | simp) (fun h => by cases h)
      · go_simp
        refine hK _ _ rfl (Below.refl _ _) (by first | rfl | simp) (fun h => by cases h)
      · have d1 : vals 1 = _ := hd 1 (by decide +kernel)
        rw [d1]
        go_simp
        refine hK _ _ rfl (Below.refl _ _) (by first | rfl | simp) (fun h => by cases h)
      · have d2 : vals 2 = _ := hd 2 (by decide +kernel)
        rw [d2]
        have z0 := (HR1.out.below hS).c0
        go_simp
        refine hK _ _ rfl (Below.refl _ _) (by first | rfl | simp) (fun h => by cases h)
      · go_simp
        refine hK _ _ rfl (Below.refl _ _) (by first | rfl | simp) (fun h => by cases h)
      · have d4 : vals 4 = _ := hd 4 (by decide +kernel)
        rw [d4]
        have z0 := (HR1.out.below hS).c2
        go_simp
        refine hK _ _ rfl (Below.refl _ _) (by first | rfl | simp) (fun h => by cases h)
      · have d3 : vals 3 = _ := hd 3 (by decide +kernel)
        have d5 : vals 5 = _ := hd 5 (by decide +kernel)
        rw [d3, d5]
        go_simp
        go_at_call 85
        with_reducible refine (refMake_c (HY1.out.below hS) (by decide) (zOf (sg q.num) q.den) (by rw [HSG.out])).mono ?_
        rintro e w2 ⟨r0, r1, r2, rfl, f0, bn_r⟩
        refine hK _ _ rfl bn_r ⟨_, _, _, rfl, f0⟩ (fun h => by cases h)
      · go_simp
        refine hK _ _ rfl (Below.refl _ _) (by first | rfl | simp) (fun h => by cases h)
      · have d7 : vals 7 = _ := hd 7 (by decide +kernel)
        rw [d7]
        go_simp
        refine hK _ _ rfl (Below.refl _ _) (by first | rfl | simp) (fun h => by cases h)
      · have d8 : vals 8 = _ := hd 8 (by decide +kernel)
        rw [d8]
        have z0 := (HR1.out.below hS).c1
        go_simp
        refine hK _ _ rfl (Below.refl _ _) (by first | rfl | simp) (fun h => by cases h)
      · obtain ⟨A_6_0, n_6_1, n_6_2, d6, h_6_0⟩ := hd 6 (by decide +kernel)
        have d9 : vals 9 = _ := hd 9 (by decide +kernel)
        rw [d6, d9]
        go_simp
        refine hK _ _ rfl (Below.refl _ _) ⟨_, _, _, rfl, h_6_0⟩ (fun h => by cases h)
      · have d0 : vals 0 = _ := hd 0 (by decide +kernel)
        obtain ⟨A_10_0, n_10_1, n_10_2, d10, h_10_0⟩ := hd 10 (by decide +kernel)
        rw [d0, d10]
        go_simp
        go_at_call 68
        with_reducible refine (refTimes_c (HX.out.below hS) (HY.out.below hS) h_10_0 (HX1.out.below hS).nn (by decide) (by decide) p.den_nz HN0.out z HM.out).mono ?_
        rintro e w2 ⟨r0, r1, r2, r3, r4, r5, rfl, f0, f1, bn_r⟩
        refine hK _ _ rfl bn_r ⟨_, _, _, _, _, _, rfl, f0, f1⟩ (fun h => by cases h)
      · obtain ⟨A_11_0, n_11_1, n_11_2, A_11_3, n_11_4, n_11_5, d11, h_11_0, h_11_1⟩ := hd 11 (by decide +kernel)
        rw [d11]
        go_simp
        go_at_call 67
        with_reducible refine (refLimit_c h_11_0 h_11_1).mono ?_
        rintro e w2 ⟨r0, r1, r2, r3, r4, r5, rfl, f0, bn_r⟩
        refine hK _ _ rfl bn_r ⟨_, _, _, _, _, _, rfl, f0⟩ (fun h => by cases h)
     case hfin14 =>
      intro vals wr hS hP hne
      obtain ⟨A_12_0, n_12_1, n_12_2, A_12_3, n_12_4, n_12_5, ez_12, h_12_0⟩ := hP 12 (by decide)
      have hZ3 := HZ.out.below hS
      have hNo := hZ3.noLimb (by intro v e; cases e) (by intro v e; cases e) (by intro v e; cases e) (by intro v e; cases e)
      have e0 := hZ3.c0
      have e1 := hZ3.c1
      have e2 := hZ3.c2
      have e3 := hZ3.c3
      have f0 := hZ3.free 0
      have f1 := hZ3.free 1
      have f2 := hZ3.free 2
      have f3 := hZ3.free 3
      have HF := Lib.hid (hZ3.fill (.bool (sg (oTop (limQ z)))) (.slice A_12_0 n_12_1 n_12_2) (.slice A_12_3 n_12_4 n_12_5) (.int .i64 (limE z)))
      have HP := Lib.hid (QQ.fillR4 h_12_0 hNo (.bool (sg (oTop (limQ z)))) (.slice A_12_0 n_12_1 n_12_2) (.slice A_12_3 n_12_4 n_12_5) (.int .i64 (limE z)))
      have HB := Lib.hid (below_fill4 (below_two HW.out hS) Hq.out (.bool (sg (oTop (limQ z)))) (.slice A_12_0 n_12_1 n_12_2) (.slice A_12_3 n_12_4 n_12_5) (.int .i64 (limE z)))
      try dsimp only
      rw [ez_12]
      refine wpAny_ready (rs := [13]) (by kernel_rfl) (by simp) (AllReady.cons rfl (fun KC hK => ?_) AllReady.nil)
      go_simp
      refine hK _ _ ?_
      clear hK KC
      refine wpAny_done (by kernel_rfl) ?_ _
      go_wp2
      refine bodyPost_ret (results_cell_row rfl _ _ _ 98 #[.bool (sg (oTop (limQ z))), .slice A_12_0 n_12_1 n_12_2, .slice A_12_3 n_12_4 n_12_5, .int .i64 (limE z)] (0, 0) _ rfl HF.out Tryz.underlying98 rfl got7_size) rfl ?_
      exact ⟨A_12_0, n_12_1, n_12_2, A_12_3, n_12_4, n_12_5, rfl, HP.out, HB.out⟩
end
end Go.Proofs.YtohokfbohdoijaaGreatDoor

/- What the reference of layer 7 answers (Cmp, Sign, Same), as contracts over memory. Conditions: sizes of at most so many limbs. -/
namespace Go.Proofs.YtohokfbohdoijaaGreatDoor
open Go.RowKit Limb
set_option linter.unusedVariables false
section
variable {w : World} {s s' : Bool} {A B A' B' : Option Addr} {n c m d n' c' m' d' : Nat} {xs ys xs' ys' : List Nat} {x y : Int} {o o' : Option Rat} {a b L L' : Nat}
set_option maxHeartbeats 4000000 in
set_option maxRecDepth 100000 in
theorem refQCmp_c (hx : QQ w s A n c xs B m d ys o L) (hx' : QQ w s' A' n' c' xs' B' m' d' ys' o' L') (h1 : L ≤ 1000) (h2 : L' ≤ 1000) (v : Int) (hv : cmpR o o' = v) :
 Calls Tryz.prog 91 #[.agg #[.bool s, .slice A n c, .slice B m d], .agg #[.bool s', .slice A' n' c', .slice B' m' d']] w fun e w' => e = .returned (.int .i64 v) ∧ Below w.heap.size w w' := by
 cases o with
 | none =>
  obtain rfl : v = 0 := hv.symm
  clear hv
  have b0 := below_new w (.cells #[Value.bool s, Value.slice A n c, Value.slice B m d] 33)
  have b1 := below_new (w.alloc (.cells #[Value.bool s, Value.slice A n c, Value.slice B m d] 33)) (.cells #[Value.bool s', Value.slice A' n' c', Value.slice B' m' d'] 33)
  have HW := Lib.hid (below_two b0 b1)
  have HQ0 := Lib.hid (hx.below HW.out)
  have HQ1 := Lib.hid (hx'.below HW.out)
  have r0 := ((row3_new w 33 (.bool s) (.slice A n c) (.slice B m d)).below b1)
  have r1 := (row3_new (w.alloc (.cells #[Value.bool s, Value.slice A n c, Value.slice B m d] 33)) 33 (.bool s') (.slice A' n' c') (.slice B' m' d'))
  simp only [World.size_alloc] at r1
  clear b0 b1 hx hx'
  go_enter Tryz.func91, Tryz.ntmps91
  go_wp2_with fail
  generalize (w.alloc (.cells #[Value.bool s, Value.slice A n c, Value.slice B m d] 33)).alloc (.cells #[Value.bool s', Value.slice A' n' c', Value.slice B' m' d'] 33) = w1 at *
  have HR0 := Lib.hid r0
  have HR1 := Lib.hid r1
  clear r0 r1
  refine (refGood_c HQ0.out (by omega) false rfl).mono ?_
  rintro e w2 ⟨rfl, bn⟩
  replace HQ0 := Lib.hid (HQ0.out.below bn)
  replace HR0 := Lib.hid (HR0.out.below bn)
  replace HQ1 := Lib.hid (HQ1.out.below bn)
  replace HR1 := Lib.hid (HR1.out.below bn)
  replace HW := Lib.hid (below_two HW.out bn)
  clear bn
  go_wp2
  go_ret
  exact ⟨rfl, HW.out⟩
 | some p =>
  cases o' with
  | none =>
   obtain rfl : v = 0 := hv.symm
   clear hv
   have b0 := below_new w (.cells #[Value.bool s, Value.slice A n c, Value.slice B m d] 33)
   have b1 := below_new (w.alloc (.cells #[Value.bool s, Value.slice A n c, Value.slice B m d] 33)) (.cells #[Value.bool s', Value.slice A' n' c', Value.slice B' m' d'] 33)
   have HW := Lib.hid (below_two b0 b1)
   have HQ0 := Lib.hid (hx.below HW.out)
   have HQ1 := Lib.hid (hx'.below HW.out)
   have r0 := ((row3_new w 33 (.bool s) (.slice A n c) (.slice B m d)).below b1)
   have r1 := (row3_new (w.alloc (.cells #[Value.bool s, Value.slice A n c, Value.slice B m d] 33)) 33 (.bool s') (.slice A' n' c') (.slice B' m' d'))
   simp only [World.size_alloc] at r1
   clear b0 b1 hx hx'
   go_enter Tryz.func91, Tryz.ntmps91
   go_wp2_with fail
   generalize (w.alloc (.cells #[Value.bool s, Value.slice A n c, Value.slice B m d] 33)).alloc (.cells #[Value.bool s', Value.slice A' n' c', Value.slice B' m' d'] 33) = w1 at *
   have HR0 := Lib.hid r0
   have HR1 := Lib.hid r1
   clear r0 r1
   refine (refGood_c HQ0.out (by omega) true rfl).mono ?_
   rintro e w2 ⟨rfl, bn⟩
   replace HQ0 := Lib.hid (HQ0.out.below bn)
   replace HR0 := Lib.hid (HR0.out.below bn)
   replace HQ1 := Lib.hid (HQ1.out.below bn)
   replace HR1 := Lib.hid (HR1.out.below bn)
   replace HW := Lib.hid (below_two HW.out bn)
   clear bn
   have c10 := HR1.out.c0
   have c11 := HR1.out.c1
   have c12 := HR1.out.c2
   go_wp2_with fail
   clear c10 c11 c12
   refine (refGood_c HQ1.out (by omega) false rfl).mono ?_
   rintro e w2 ⟨rfl, bn⟩
   replace HQ0 := Lib.hid (HQ0.out.below bn)
   replace HR0 := Lib.hid (HR0.out.below bn)
   replace HQ1 := Lib.hid (HQ1.out.below bn)
   replace HR1 := Lib.hid (HR1.out.below bn)
   replace HW := Lib.hid (below_two HW.out bn)
   clear bn
   go_wp2
   go_ret
   exact ⟨rfl, HW.out⟩
  | some q =>
   have HV : RowKit.Hid (cmpZ (p.num * (q.den : Int)) (q.num * (p.den : Int)) = v) := hv
   clear hv
   have b0 := below_new w (.cells #[Value.bool s, Value.slice A n c, Value.slice B m d] 33)
   have b1 := below_new (w.alloc (.cells #[Value.bool s, Value.slice A n c, Value.slice B m d] 33)) (.cells #[Value.bool s', Value.slice A' n' c', Value.slice B' m' d'] 33)
   have HW := Lib.hid (below_two b0 b1)
   have HQ0 := Lib.hid (hx.below HW.out)
   have HQ1 := Lib.hid (hx'.below HW.out)
   have r0 := ((row3_new w 33 (.bool s) (.slice A n c) (.slice B m d)).below b1)
   have r1 := (row3_new (w.alloc (.cells #[Value.bool s, Value.slice A n c, Value.slice B m d] 33)) 33 (.bool s') (.slice A' n' c') (.slice B' m' d'))
   simp only [World.size_alloc] at r1
   clear b0 b1 hx hx'
   go_enter Tryz.func91, Tryz.ntmps91
   go_wp2_with fail
   generalize (w.alloc (.cells #[Value.bool s, Value.slice A n c, Value.slice B m d] 33)).alloc (.cells #[Value.bool s', Value.slice A' n' c', Value.slice B' m' d'] 33) = w1 at *
   have HR0 := Lib.hid r0
   have HR1 := Lib.hid r1
   clear r0 r1
   refine (refGood_c HQ0.out (by omega) true rfl).mono ?_
   rintro e w2 ⟨rfl, bn⟩
   replace HQ0 := Lib.hid (HQ0.out.below bn)
   replace HR0 := Lib.hid (HR0.out.below bn)
   replace HQ1 := Lib.hid (HQ1.out.below bn)
   replace HR1 := Lib.hid (HR1.out.below bn)
   replace HW := Lib.hid (below_two HW.out bn)
   clear bn
   have c10 := HR1.out.c0
   have c11 := HR1.out.c1
   have c12 := HR1.out.c2
   go_wp2_with fail
   clear c10 c11 c12
   refine (refGood_c HQ1.out (by omega) true rfl).mono ?_
   rintro e wS ⟨rfl, bn⟩
   replace HQ0 := Lib.hid (HQ0.out.below bn)
   replace HR0 := Lib.hid (HR0.out.below bn)
   replace HQ1 := Lib.hid (HQ1.out.below bn)
   replace HR1 := Lib.hid (HR1.out.below bn)
   replace HW := Lib.hid (below_two HW.out bn)
   clear bn
   have HX := Lib.hid HQ0.out.some.2.2.2.2.1
   have HY := Lib.hid HQ0.out.some.2.2.2.2.2.1
   have HX1 := Lib.hid HQ1.out.some.2.2.2.2.1
   have HY1 := Lib.hid HQ1.out.some.2.2.2.2.2.1
   have c00 := HR0.out.c0
   have c01 := HR0.out.c1
   have c02 := HR0.out.c2
   have c10 := HR1.out.c0
   have c11 := HR1.out.c1
   have c12 := HR1.out.c2
   go_wp2_with fail
   clear c00 c01 c02
   clear c10 c11 c12
   refine (refLess_c HX.out HY.out HX1.out HY1.out (by decide) (by decide) v HV.out).mono ?_
   rintro e w3 ⟨rfl, bn⟩
   replace HW := Lib.hid (below_two HW.out bn)
   clear bn
   go_wp2
   go_ret
   exact ⟨rfl, HW.out⟩
theorem refQWhole0_c (w : World) : Calls Tryz.prog 45 #[.int .i64 0] w fun e w' => ∃ A2 n2 c2 B2 m2 d2, e = .returned (.agg #[.bool (sg (oTop (some 0))), .slice A2 n2 c2, .slice B2 m2 d2]) ∧ QT w' A2 n2 c2 B2 m2 d2 (some 0) ∧ Below w.heap.size w w' := refQWhole_c 0 (by decide) (by decide) w
set_option maxHeartbeats 4000000 in
set_option maxRecDepth 100000 in
theorem refQSign_c (hx : QQ w s A n c xs B m d ys o L) (h1 : L ≤ 1000) (v : Int) (hv : cmpR o (some 0) = v) :
 Calls Tryz.prog 55 #[.agg #[.bool s, .slice A n c, .slice B m d]] w fun e w' => e = .returned (.int .i64 v) ∧ Below w.heap.size w w' := by
 have b0 := below_new w (.cells #[Value.bool s, Value.slice A n c, Value.slice B m d] 33)
 have HW := Lib.hid b0
 have HQ0 := Lib.hid (hx.below HW.out)
 have r0 := row3_new w 33 (.bool s) (.slice A n c) (.slice B m d)
 have HV := Lib.hid hv
 clear b0 hx hv
 go_enter Tryz.func55, Tryz.ntmps55
 go_wp2_with fail
 generalize w.alloc (.cells #[Value.bool s, Value.slice A n c, Value.slice B m d] 33) = wS at *
 have HR0 := Lib.hid r0
 clear r0
 refine region_free 3 1 [3, 4, 5] ?aF15 (fun wx => Below wS.heap.size wS wx) (fun k vv wx => match k with
  | 0 => vv = .agg #[.bool s, .slice A n c, .slice B m d]
  | 1 => ∃ (e0 : Option Addr) (e1 : Nat) (e2 : Nat) (e3 : Option Addr) (e4 : Nat) (e5 : Nat), vv = .agg #[.bool (sg (oTop (some 0))), .slice e0 e1 e2, .slice e3 e4 e5] ∧ QT wx e0 e1 e2 e3 e4 e5 (some 0)
  | _ => vv = .int .i64 v)
  (fun k => false) (by kernel_rfl) ?haF15 rfl (by kernel_rfl) (by kernel_rfl) (fun _ _ _ _ _ h => h) ?hSb15 ?hPb15 ?hS15 ?hop15 ?hfin15
 case haF15 =>
  intro vals
  simp only [fillAll, List.getElem?_cons_zero, List.getElem?_cons_succ, Act.put, List.setIfInBounds_toArray, List.set_cons_zero, List.set_cons_succ]
  exact rfl
 case hSb15 => exact fun wx w2 hb hS => below_two hS hb
 case hPb15 =>
  intro k v wa wb hb h
  match k, h with
  | 0, h => exact h
  | 1, ⟨e0, e1, e2, e3, e4, e5, h1, g0⟩ => exact ⟨e0, e1, e2, e3, e4, e5, h1, g0.below hb⟩
  | _ + 2, h => exact h
 case hS15 => exact (Below.refl _ _).drew
 case hop15 =>
  refine .cons (k := 0) ?_ (.cons (k := 1) ?_ (.cons (k := 2) ?_ (.nil)))
  all_goals intro vals wr hS hd KC hK
  all_goals (show Oper.wp _ _ _ _ _ _; dsimp only)
  · have z0 := (HR0.out.below hS).c0
    have z1 := (HR0.out.below hS).c1
    have z2 := (HR0.out.below hS).c2
    go_simp
    refine hK _ _ rfl (Below.refl _ _) (by first | rfl | simp) (fun h => by cases h)
  · go_simp
    go_at_call 45
    with_reducible refine (refQWhole0_c _).mono ?_
    rintro e w2 ⟨r0, r1, r2, r3, r4, r5, rfl, f0, bn_r⟩
    refine hK _ _ rfl bn_r ⟨_, _, _, _, _, _, rfl, f0⟩ (fun h => by cases h)
  · have d0 : vals 0 = _ := hd 0 (by decide +kernel)
    obtain ⟨A_1_0, n_1_1, n_1_2, A_1_3, n_1_4, n_1_5, d1, h_1_0⟩ := hd 1 (by decide +kernel)
    rw [d0, d1]
    go_simp
    go_at_call 91
    with_reducible refine (refQCmp_c (HQ0.out.below hS) h_1_0 h1 (by decide) v HV.out).mono ?_
    rintro e w2 ⟨rfl, bn_r⟩
    refine hK _ _ rfl bn_r rfl (fun h => by cases h)
 case hfin15 =>
  intro vals wr hS hP hne
  have ez_2 : vals 2 = _ := hP 2 (by decide)
  have HB := Lib.hid (below_two HW.out hS)
  try dsimp only
  rw [ez_2]
  refine wpAny_ready (rs := [3]) (by kernel_rfl) (by simp) (AllReady.cons rfl (fun KC hK => ?_) AllReady.nil)
  go_simp
  refine hK _ _ ?_
  clear hK KC
  refine wpAny_done (by kernel_rfl) ?_ _
  go_wp2
  go_ret
  exact ⟨rfl, HB.out⟩
end
end Go.Proofs.YtohokfbohdoijaaGreatDoor

/- What package rat's own helpers answer (isTrimmed, fits, cross), and slices.Equal, slices.Clone of limbs, as contracts over memory. Conditions: sizes of at most so many limbs. -/
namespace Go.Proofs.YtohokfbohdoijaaGreatDoor
open Go.RowKit Limb
set_option linter.unusedVariables false
section
variable {w : World} {s s' : Bool} {A B A' B' : Option Addr} {n c m d n' c' m' d' : Nat} {xs ys xs' ys' : List Nat} {x y : Int} {a b L L' : Nat}
set_option maxHeartbeats 4000000 in
set_option maxRecDepth 100000 in
theorem rTrimmed_c (hx : NN w A n c xs a L) (h1 : L ≤ 9223372036854775807) (v : Bool) (hv : decide (xs = limbs a) = v) :
 Calls Tryz.prog 92 #[.slice A n c] w fun e w' => e = .returned (.bool v) ∧ w = w' := by
 have Hv := Lib.hid hv
 have Hx := Lib.hid hx
 have hsm := hx.isN.small
 have hlen := hx.isN.len
 have hle := hx.le
 have htr := trimmed_iff hsm
 rw [hx.val] at htr
 clear hx hv
 by_cases h0 : n = 0
 · have hB : RowKit.Hid (v = true) := by
    show _ = _
    rw [← Hv.out, decide_eq_true_eq, htr]
    exact .inl (List.eq_nil_of_length_eq_zero (by omega))
   subst h0
   clear hlen htr
   go_enter Tryz.func92, Tryz.ntmps92
   go_wp2
   go_ret
   exact ⟨by rw [hB.out]; rfl, rfl⟩
 · obtain ⟨g, o, eA, hlt, hc⟩ := Hx.out.isN.2.2 (by omega)
   obtain ⟨k, hk⟩ : ∃ k, n = k + 1 := ⟨n - 1, by omega⟩
   have hcell := hc k (by omega)
   obtain ⟨u, hu⟩ : ∃ u, lim xs k = u := ⟨_, rfl⟩
   rw [hu] at hcell
   have h00 : ((n : Int) == 0) = false := by rw [beq_eq_false_iff_ne]; omega
   have h0k : (n : Int) - 1 = (k : Int) := by omega
   have hB : RowKit.Hid (decide (u ≠ 0) = v) := by
    show _ = _
    rw [← Hv.out, decide_eq_decide, htr, ← hu, show xs.length - 1 = k by omega]
    constructor
    · exact fun h => .inr h
    · rintro (h | h)
      · rw [h] at hlen; simp at hlen; omega
      · exact h
   subst eA
   clear htr hc hu hsm
   subst hk
   go_enter Tryz.func92, Tryz.ntmps92
   go_wp2
   go_ret
   refine ⟨?_, rfl⟩
   rw [← hB.out]
   show Ending.returned (Value.bool (((k : Int) + 1 == 0) || ((u : Int) != 0))) = _
   rw [show ((k : Int) + 1 == 0) = false by rw [beq_eq_false_iff_ne]; omega, Bool.false_or]
   congr 2
   rw [Bool.eq_iff_iff]
   simp
set_option maxHeartbeats 4000000 in
set_option maxRecDepth 100000 in
theorem rFits_c (s : Bool) (A B : Option Addr) (n c m d : Nat) (w : World) (v : Bool) (hv : (decide (n ≤ 64) && decide (m ≤ 64)) = v) :
 Calls Tryz.prog 93 #[.agg #[.bool s, .slice A n c, .slice B m d]] w fun e w' => e = .returned (.bool v) ∧ Below w.heap.size w w' := by
 have HW := Lib.hid (below_new w (.cells #[Value.bool s, Value.slice A n c, Value.slice B m d] 33))
 have Hv := Lib.hid hv
 clear hv
 by_cases h1 : n ≤ 64
 · have e1 : decide ((n : Int) ≤ 64) = true := by rw [decide_eq_true_eq]; omega
   have HV : RowKit.Hid (decide ((m : Int) ≤ 64) = v) := by
    show _ = _
    rw [← Hv.out, decide_eq_true h1, Bool.true_and, decide_eq_decide]; omega
   clear h1 Hv
   go_enter Tryz.func93, Tryz.ntmps93
   go_wp2
   go_ret
   exact ⟨by rw [← HV.out]; rfl, HW.out⟩
 · have e1 : decide ((n : Int) ≤ 64) = false := by rw [decide_eq_false_iff_not]; omega
   have HV : RowKit.Hid (false = v) := by
    show _ = _
    rw [← Hv.out, decide_eq_false h1]; rfl
   clear h1 Hv
   go_enter Tryz.func93, Tryz.ntmps93
   go_wp2
   go_ret
   exact ⟨by rw [← HV.out]; rfl, HW.out⟩
end
set_option maxHeartbeats 4000000 in
set_option maxRecDepth 100000 in
theorem rClone_c {w : World} {A : Option Addr} {n c : Nat} {xs : List Nat} {a L : Nat} (hx : NN w A n c xs a L) (h1 : L ≤ 1000000000) :
 Calls Tryz.prog 72 #[.slice A n c] w fun e w' => ∃ A2 n2 c2, e = .returned (.slice A2 n2 c2) ∧ NN w' A2 n2 c2 xs a L ∧ Below w.heap.size w w' := by
 have qT : ∀ (w : World) (a : Option Addr) (n c n' c' : Nat), (binOp .eql 29 (.slice a n c) (.slice none n' c')).run Tryz.prog w = .ok (.bool a.isNone) w := fun w a n c n' c' => Lib.run_eql_slice_nil w _ _ a n c n' c' Tryz.underlying29
 have hle := hx.le
 have Hx := Lib.hid (hx.below (below_new w (.cells #[] 84)))
 have Hn := Lib.hid hx
 clear hx
 have Hown : RowKit.Hid ((w.alloc (.cells #[] 84)).ownsRow w.heap.size 84 1 (.slice (some ⟨w.heap.size, 0, none⟩) 0 0) 0 (([] : List Nat).map limV)) := own_lit w [] 0 rfl (by omega)
 have Hb : RowKit.Hid (0 ≤ 1000000000 ∧ L ≤ 1000000000 ∧ w.heap.size ≤ (w.alloc (.cells #[] 84)).heap.size ∧ Small []) := ⟨by omega, h1, by simp, small_nil⟩
 cases A with
 | none =>
  clear Hx Hown Hb
  go_enter Tryz.func72, Tryz.ntmps72
  go_wp2
  go_ret
  have hn : n = 0 := by
   rcases Nat.eq_zero_or_pos n with h | h
   · exact h
   · obtain ⟨g, o, e, _⟩ := Hn.out.isN.2.2 h
     cases e
  have hl := Hn.out.isN.len
  rw [hn] at hl
  have hxs := List.eq_nil_of_length_eq_zero hl
  have hv := Hn.out.val
  subst hxs
  exact ⟨none, 0, 0, rfl, ⟨IsN.nil _ _, hv, Nat.le_refl _, Nat.zero_le _⟩, Below.refl _ _⟩
 | some p =>
  go_enter Tryz.func72, Tryz.ntmps72
  go_wp2_with (at_builtin; refine wpList_append_nat rfl _ _ rfl w.heap.size _ 0 [] rfl Hown (some p) n c xs a L rfl Hx Hb ?_)
  intro A2 c2 w' how hgrow
  have hb2 := below_lit hgrow.out (Nat.le_refl _)
  have hn : NN w' A2 n c2 xs a L := by
   have h := how.out
   exact ⟨h.isN, Hn.out.val, h.caps.1, Hn.out.le⟩
  clear how hgrow Hown Hb Hx Hn
  go_wp2
  go_ret
  exact ⟨_, _, _, rfl, hn, hb2⟩
end Go.Proofs.YtohokfbohdoijaaGreatDoor

/- What package rat's Of answers, as a contract over memory. Conditions: sizes of at most so many limbs. -/
namespace Go.Proofs.YtohokfbohdoijaaGreatDoor
open Go.RowKit Limb
set_option linter.unusedVariables false
section
variable {w : World} {s s' : Bool} {A B A' B' : Option Addr} {n c m d n' c' m' d' : Nat} {xs ys xs' ys' : List Nat} {x y : Int} {a b L L' : Nat}
set_option maxHeartbeats 4000000 in
set_option maxRecDepth 100000 in
theorem rOf_c (hx : ZZ w s A n c xs x L) (hy : NN w B m d ys b L') (h1 : L ≤ 10000) (h2 : L' ≤ 10000) (r : Option Rat) (e : Int) (hR : ofR x b = (r, e)) :
 Calls Tryz.prog 59 #[.agg #[.bool s, .slice A n c], .slice B m d] w fun ee w' => ∃ A2 n2 c2 B2 m2 d2, ee = .returned (.tuple #[.agg #[.bool (sg (oTop r)), .slice A2 n2 c2, .slice B2 m2 d2], .int .i64 e]) ∧ QT w' A2 n2 c2 B2 m2 d2 r ∧ Below w.heap.size w w' := by
 have b0 := below_new w (.cells #[Value.bool s, Value.slice A n c] 31)
 have b1 := below_new (w.alloc (.cells #[Value.bool s, Value.slice A n c] 31)) (.cells #[Value.bool false, Value.slice none 0 0, Value.slice none 0 0] 33)
 have HW := Lib.hid (below_two b0 b1)
 have HX := Lib.hid (hx.below HW.out)
 have HY := Lib.hid (hy.below HW.out)
 have r0 := (row2_new w 31 (.bool s) (.slice A n c)).below b1
 have rz := row3_new (w.alloc (.cells #[Value.bool s, Value.slice A n c] 31)) 33 (.bool false) (.slice none 0 0) (.slice none 0 0)
 simp only [World.size_alloc] at rz
 have Hq : RowKit.Hid (w.heap.size ≤ w.heap.size + 1) := Nat.le_succ _
 clear b0 b1 hx hy
 by_cases hb : b = 0
 · obtain ⟨rfl, rfl⟩ := ofR_zero hb hR
   clear hR
   have HB0 : RowKit.Hid (((blen b : Nat) : Int) = 0) := by show _ = _; rw [hb]; rfl
   clear hb
   go_enter Tryz.func59, Tryz.ntmps59
   go_wp2_with fail
   generalize (w.alloc (.cells #[Value.bool s, Value.slice A n c] 31)).alloc (.cells #[Value.bool false, Value.slice none 0 0, Value.slice none 0 0] 33) = w1 at *
   have HR0 := Lib.hid r0
   have HZ := Lib.hid rz
   clear r0 rz
   refine (bits_c HY.out (by omega) 0 HB0.out).mono ?_
   rintro e w2 ⟨rfl, rfl⟩
   have e0 := HZ.out.c0
   have e1 := HZ.out.c1
   have e2 := HZ.out.c2
   have f0 := HZ.out.free 0
   have f1 := HZ.out.free 1
   have f2 := HZ.out.free 2
   have HF := Lib.hid (HZ.out.fill (.bool false) (.slice none 0 0) (.slice none 0 0))
   have HB := Lib.hid (below_fill3' HW.out Hq.out (.bool false) (.slice none 0 0) (.slice none 0 0))
   go_wp2
   refine bodyPost_ret (results_mixed rfl _ _ _ 33 #[.bool false, .slice none 0 0, .slice none 0 0] (0, 0) _ (.int .i64 3) rfl rfl HF.out Tryz.underlying33 rfl rat_size) rfl ?_
   exact ⟨none, 0, 0, none, 0, 0, rfl, qt_none _ 0 0, HB.out⟩
 · have hL := ofR_yes hb hR
   clear hR
   obtain ⟨q, hq⟩ : ∃ q, mkRat x b = q := ⟨_, rfl⟩
   rw [hq] at hL
   obtain ⟨g, hg⟩ : ∃ g, gcdN x.natAbs b = g := ⟨_, rfl⟩
   have hg2 : Nat.gcd x.natAbs b = g := hg
   have hg0 : g ≠ 0 := by rw [← hg2]; exact Nat.pos_iff_ne_zero.1 (Nat.gcd_pos_of_pos_right _ (Nat.pos_of_ne_zero hb))
   have m3 := mk_den (x := x) hb
   rw [hq, hg2] at m3
   have HS : RowKit.Hid (zOf s (x.natAbs / g) = q.num) := by
    show _ = _
    rw [← hg2, ← hq]; exact zz_div HX.out.zo hb
   have HD : RowKit.Hid (b / g = q.den) := m3.symm
   have Hg := Lib.hid hg
   have HG : RowKit.Hid (gcdN x.natAbs b < 4294967296 ^ L') := Nat.lt_of_le_of_lt (Nat.gcd_le_right _ (Nat.pos_of_ne_zero hb)) (lt_pow HY.out)
   obtain ⟨z, hz⟩ : ∃ z : Int, ((blen b : Nat) : Int) = z := ⟨_, rfl⟩
   have hz0 : (z == 0) = false := by
    rw [beq_eq_false_iff_ne, ← hz]
    have := mt blen_eq_zero.1 hb
    omega
   have HB0 := Lib.hid hz
   have Hg0 := Lib.hid hg0
   clear hz hb hg hg2 hg0 m3 hq
   go_enter Tryz.func59, Tryz.ntmps59
   go_wp2_with fail
   generalize (w.alloc (.cells #[Value.bool s, Value.slice A n c] 31)).alloc (.cells #[Value.bool false, Value.slice none 0 0, Value.slice none 0 0] 33) = w1 at *
   have HR0 := Lib.hid r0
   have HZ := Lib.hid rz
   clear r0 rz
   refine (bits_c HY.out (by omega) z HB0.out).mono ?_
   rintro e w2 ⟨rfl, rfl⟩
   have c0 := HR0.out.c0
   have c1 := HR0.out.c1
   go_wp2_with fail
   clear c0 c1
   refine (quoGcd_c HX.out.nn HY.out (by omega) (by omega) L' HG.out).mono ?_
   rw [Hg.out]
   rintro e w2 ⟨A3, n3, c3, rfl, h3, bn⟩
   replace HX := Lib.hid (HX.out.below bn)
   replace HY := Lib.hid (HY.out.below bn)
   replace HR0 := Lib.hid (HR0.out.below bn)
   replace HZ := Lib.hid (HZ.out.below bn)
   replace HW := Lib.hid (below_two HW.out bn)
   clear bn
   have H3 := Lib.hid h3
   clear h3
   have c0 := HR0.out.c0
   have c1 := HR0.out.c1
   go_wp2_with fail
   clear c0 c1
   refine (quoRem_yes HX.out.nn H3.out (by omega) (by omega) Hg0.out).mono ?_
   rintro e w2 ⟨A4, n4, c4, A5, n5, c5, rfl, h4, h5, bn⟩
   replace HX := Lib.hid (HX.out.below bn)
   replace HY := Lib.hid (HY.out.below bn)
   replace HR0 := Lib.hid (HR0.out.below bn)
   replace HZ := Lib.hid (HZ.out.below bn)
   replace H3 := Lib.hid (H3.out.below bn)
   replace HW := Lib.hid (below_two HW.out bn)
   clear bn
   have H4 := Lib.hid h4
   clear h4 h5
   have c0 := HR0.out.c0
   have c1 := HR0.out.c1
   go_wp2_with fail
   clear c0 c1
   refine (quoRem_yes HY.out H3.out (by omega) (by omega) Hg0.out).mono ?_
   rintro e w2 ⟨A6, n6, c6, A7, n7, c7, rfl, h6, h7, bn⟩
   replace HX := Lib.hid (HX.out.below bn)
   replace HY := Lib.hid (HY.out.below bn)
   replace HR0 := Lib.hid (HR0.out.below bn)
   replace HZ := Lib.hid (HZ.out.below bn)
   replace H3 := Lib.hid (H3.out.below bn)
   replace H4 := Lib.hid (H4.out.below bn)
   replace HW := Lib.hid (below_two HW.out bn)
   clear bn
   have H6 : RowKit.Hid (NN w2 A6 n6 c6 (limbs q.den) q.den L') := by show NN _ _ _ _ _ _ _; rw [← HD.out]; exact h6
   clear h6 h7
   have c0 := HR0.out.c0
   have c1 := HR0.out.c1
   go_wp2_with fail
   clear c0 c1
   refine (wTrim_c (show ZZ _ s _ _ _ _ q.num L from by rw [← HS.out]; exact ZZ.of H4.out) (by omega)).mono ?_
   rintro e w2 ⟨A8, n8, c8, rfl, h8, bn⟩
   replace HX := Lib.hid (HX.out.below bn)
   replace HY := Lib.hid (HY.out.below bn)
   replace HR0 := Lib.hid (HR0.out.below bn)
   replace HZ := Lib.hid (HZ.out.below bn)
   replace H3 := Lib.hid (H3.out.below bn)
   replace H4 := Lib.hid (H4.out.below bn)
   replace H6 := Lib.hid (H6.out.below bn)
   replace HW := Lib.hid (below_two HW.out bn)
   clear bn
   have H8 := Lib.hid h8
   clear h8 HX HY H3 H4
   cases hf : fitsQ q with
   | true =>
    rw [limR_yes hf] at hL
    cases hL
    have HK : RowKit.Hid ((decide (n8 ≤ 64) && decide (n6 ≤ 64)) = true) := by show _ = _; rw [fits_len q H8.out.nn.isN.len H6.out.isN.len, hf]
    have Hf := Lib.hid hf
    clear hf
    have bx := below_new w2 (.cells #[Value.bool (sg q.num), Value.slice A8 n8 c8, Value.slice A6 n6 c6] 33)
    have HR8 := Lib.hid (row3_new w2 33 (.bool (sg q.num)) (.slice A8 n8 c8) (.slice A6 n6 c6))
    replace H8 := Lib.hid (H8.out.below bx)
    replace H6 := Lib.hid (H6.out.below bx)
    replace HZ := Lib.hid (HZ.out.below bx)
    replace HW := Lib.hid (below_two HW.out bx)
    clear bx HR0
    have e0 := HZ.out.c0
    have e1 := HZ.out.c1
    have e2 := HZ.out.c2
    have y0 := HR8.out.c0
    have y1 := HR8.out.c1
    have y2 := HR8.out.c2
    go_wp2_with fail
    clear y0 y1 y2 e0 e1 e2
    generalize w2.alloc (.cells #[Value.bool (sg q.num), Value.slice A8 n8 c8, Value.slice A6 n6 c6] 33) = w3 at *
    obtain ⟨q8, eg⟩ : ∃ g, g = w2.heap.size := ⟨_, rfl⟩
    rw [← eg] at HR8 ⊢
    clear eg
    refine (rFits_c (sg q.num) A8 A6 n8 c8 n6 c6 _ true HK.out).mono ?_
    rintro e w4 ⟨rfl, bn⟩
    replace H8 := Lib.hid (H8.out.below bn)
    replace H6 := Lib.hid (H6.out.below bn)
    replace HZ := Lib.hid (HZ.out.below bn)
    replace HR8 := Lib.hid (HR8.out.below bn)
    replace HW := Lib.hid (below_two HW.out bn)
    clear bn
    have y0 := HR8.out.c0
    have y1 := HR8.out.c1
    have y2 := HR8.out.c2
    have e0 := HZ.out.c0
    have e1 := HZ.out.c1
    have e2 := HZ.out.c2
    have f0 := HZ.out.free 0
    have f1 := HZ.out.free 1
    have f2 := HZ.out.free 2
    have hNo := HZ.out.noLimb (by intro v e; cases e) (by intro v e; cases e) (by intro v e; cases e)
    have HF := Lib.hid (HZ.out.fill (.bool (sg q.num)) (.slice A8 n8 c8) (.slice A6 n6 c6))
    have HP := Lib.hid ((qt_some H8.out H6.out Hf.out).fillR3 hNo (.bool (sg q.num)) (.slice A8 n8 c8) (.slice A6 n6 c6))
    have HB := Lib.hid (below_fill3' HW.out Hq.out (.bool (sg q.num)) (.slice A8 n8 c8) (.slice A6 n6 c6))
    clear hNo
    go_wp2
    refine bodyPost_ret (results_mixed rfl _ _ _ 33 #[.bool (sg q.num), .slice A8 n8 c8, .slice A6 n6 c6] (0, 0) _ (.int .i64 0) rfl rfl HF.out Tryz.underlying33 rfl rat_size) rfl ?_
    exact ⟨A8, n8, c8, A6, n6, c6, rfl, HP.out, HB.out⟩
   | false =>
    rw [limR_no hf] at hL
    cases hL
    have HK : RowKit.Hid ((decide (n8 ≤ 64) && decide (n6 ≤ 64)) = false) := by show _ = _; rw [fits_len q H8.out.nn.isN.len H6.out.isN.len, hf]
    have Hf := Lib.hid hf
    clear hf
    have bx := below_new w2 (.cells #[Value.bool (sg q.num), Value.slice A8 n8 c8, Value.slice A6 n6 c6] 33)
    have HR8 := Lib.hid (row3_new w2 33 (.bool (sg q.num)) (.slice A8 n8 c8) (.slice A6 n6 c6))
    replace H8 := Lib.hid (H8.out.below bx)
    replace H6 := Lib.hid (H6.out.below bx)
    replace HZ := Lib.hid (HZ.out.below bx)
    replace HW := Lib.hid (below_two HW.out bx)
    clear bx HR0
    have e0 := HZ.out.c0
    have e1 := HZ.out.c1
    have e2 := HZ.out.c2
    have y0 := HR8.out.c0
    have y1 := HR8.out.c1
    have y2 := HR8.out.c2
    go_wp2_with fail
    clear y0 y1 y2 e0 e1 e2
    generalize w2.alloc (.cells #[Value.bool (sg q.num), Value.slice A8 n8 c8, Value.slice A6 n6 c6] 33) = w3 at *
    obtain ⟨q8, eg⟩ : ∃ g, g = w2.heap.size := ⟨_, rfl⟩
    rw [← eg] at HR8 ⊢
    clear eg
    refine (rFits_c (sg q.num) A8 A6 n8 c8 n6 c6 _ false HK.out).mono ?_
    rintro e w4 ⟨rfl, bn⟩
    replace H8 := Lib.hid (H8.out.below bn)
    replace H6 := Lib.hid (H6.out.below bn)
    replace HZ := Lib.hid (HZ.out.below bn)
    replace HR8 := Lib.hid (HR8.out.below bn)
    replace HW := Lib.hid (below_two HW.out bn)
    clear bn
    have e0 := HZ.out.c0
    have e1 := HZ.out.c1
    have e2 := HZ.out.c2
    have f0 := HZ.out.free 0
    have f1 := HZ.out.free 1
    have f2 := HZ.out.free 2
    have HF := Lib.hid (HZ.out.fill (.bool false) (.slice none 0 0) (.slice none 0 0))
    have HB := Lib.hid (below_fill3' HW.out Hq.out (.bool false) (.slice none 0 0) (.slice none 0 0))
    go_wp2
    refine bodyPost_ret (results_mixed rfl _ _ _ 33 #[.bool false, .slice none 0 0, .slice none 0 0] (0, 0) _ (.int .i64 2) rfl rfl HF.out Tryz.underlying33 rfl rat_size) rfl ?_
    exact ⟨none, 0, 0, none, 0, 0, rfl, qt_none _ 0 0, HB.out⟩
end
end Go.Proofs.YtohokfbohdoijaaGreatDoor
