/- Part 8 of the texts that the statements of this seat lean on: mathematics, and what functions answer, as contracts over memory; each part says its own conditions. -/
import Derived.Test.YtjikaojffgjndaaGreatDoorM7
import Derived.Lib.SliceRun
/- What package rat's own helpers answer (isTrimmed, fits, cross), and slices.Equal, slices.Clone of limbs, as contracts over memory. Conditions: sizes of at most so many limbs. -/
namespace Go.Proofs.YtjikaojffgjndaaGreatDoor
open Go.RowKit Limb
set_option linter.unusedVariables false
section
variable {w : World} {s s' : Bool} {A B A' B' : Option Addr} {n c m d n' c' m' d' : Nat} {xs ys xs' ys' : List Nat} {x y : Int} {a b L L' : Nat}
set_option maxHeartbeats 4000000 in
set_option maxRecDepth 100000 in
theorem rTrimmed_c (hx : NN w A n c xs a L) (h1 : L ≤ 9223372036854775807) (v : Bool) (hv : decide (xs = limbs a) = v) :
 Calls Tryz.prog 109 #[.slice A n c] w fun e w' => e = .returned (.bool v) ∧ w = w' := by
 have Hv := Lib.hid hv
 have Hx := Lib.hid hx
 have hsm := hx.isN.small
 have hlen := hx.isN.len
 have hle := hx.le
 have htr := trimmed_iff hsm
 rw [hx.val] at htr
 clear hx hv
 by_cases h0 : n = 0
 · have hB : RowKit.Hid (v = true) := by
    show _ = _
    rw [← Hv.out, decide_eq_true_eq, htr]
    exact .inl (List.eq_nil_of_length_eq_zero (by omega))
   subst h0
   clear hlen htr
   go_enter Tryz.func109, Tryz.ntmps109
   go_wp2
   go_ret
   exact ⟨by rw [hB.out]; rfl, rfl⟩
 · obtain ⟨g, o, eA, hlt, hc⟩ := Hx.out.isN.2.2 (by omega)
   obtain ⟨k, hk⟩ : ∃ k, n = k + 1 := ⟨n - 1, by omega⟩
   have hcell := hc k (by omega)
   obtain ⟨u, hu⟩ : ∃ u, lim xs k = u := ⟨_, rfl⟩
   rw [hu] at hcell
   have h00 : ((n : Int) == 0) = false := by rw [beq_eq_false_iff_ne]; omega
   have h0k : (n : Int) - 1 = (k : Int) := by omega
   have hB : RowKit.Hid (decide (u ≠ 0) = v) := by
    show _ = _
    rw [← Hv.out, decide_eq_decide, htr, ← hu, show xs.length - 1 = k by omega]
    constructor
    · exact fun h => .inr h
    · rintro (h | h)
      · rw [h] at hlen; simp at hlen; omega
      · exact h
   subst eA
   clear htr hc hu hsm
   subst hk
   go_enter Tryz.func109, Tryz.ntmps109
   go_wp2
   go_ret
   refine ⟨?_, rfl⟩
   rw [← hB.out]
   show Ending.returned (Value.bool (((k : Int) + 1 == 0) || ((u : Int) != 0))) = _
   rw [show ((k : Int) + 1 == 0) = false by rw [beq_eq_false_iff_ne]; omega, Bool.false_or]
   congr 2
   rw [Bool.eq_iff_iff]
   simp
set_option maxHeartbeats 4000000 in
set_option maxRecDepth 100000 in
theorem rFits_c (s : Bool) (A B : Option Addr) (n c m d : Nat) (w : World) (v : Bool) (hv : (decide (n ≤ 64) && decide (m ≤ 64)) = v) :
 Calls Tryz.prog 87 #[.agg #[.bool s, .slice A n c, .slice B m d]] w fun e w' => e = .returned (.bool v) ∧ Below w.heap.size w w' := by
 have HW := Lib.hid (below_new w (.cells #[Value.bool s, Value.slice A n c, Value.slice B m d] 27))
 have Hv := Lib.hid hv
 clear hv
 by_cases h1 : n ≤ 64
 · have e1 : decide ((n : Int) ≤ 64) = true := by rw [decide_eq_true_eq]; omega
   have HV : RowKit.Hid (decide ((m : Int) ≤ 64) = v) := by
    show _ = _
    rw [← Hv.out, decide_eq_true h1, Bool.true_and, decide_eq_decide]; omega
   clear h1 Hv
   go_enter Tryz.func87, Tryz.ntmps87
   go_wp2
   go_ret
   exact ⟨by rw [← HV.out]; rfl, HW.out⟩
 · have e1 : decide ((n : Int) ≤ 64) = false := by rw [decide_eq_false_iff_not]; omega
   have HV : RowKit.Hid (false = v) := by
    show _ = _
    rw [← Hv.out, decide_eq_false h1]; rfl
   clear h1 Hv
   go_enter Tryz.func87, Tryz.ntmps87
   go_wp2
   go_ret
   exact ⟨by rw [← HV.out]; rfl, HW.out⟩
set_option maxHeartbeats 4000000 in
set_option maxRecDepth 100000 in
theorem rCross_c (hx : ZZ w s A n c xs x L) (hy' : NN w B' m' d' ys' b L') (h1 : L ≤ 1000) (h2 : L' ≤ 1000) (z : Int) (hz : x * (b : Int) = z) :
 Calls Tryz.prog 77 #[.agg #[.bool s, .slice A n c, .slice B m d], .agg #[.bool s', .slice A' n' c', .slice B' m' d']] w fun e w' => ∃ A2 n2 c2, e = .returned (.agg #[.bool (sg z), .slice A2 n2 c2]) ∧ ZZ w' (sg z) A2 n2 c2 (limbs z.natAbs) z (L + L') ∧ Below w.heap.size w w' := by
 have b0 := below_new w (.cells #[Value.bool s, Value.slice A n c, Value.slice B m d] 27)
 have b1 := below_new (w.alloc (.cells #[Value.bool s, Value.slice A n c, Value.slice B m d] 27)) (.cells #[Value.bool s', Value.slice A' n' c', Value.slice B' m' d'] 27)
 have b2 := below_new ((w.alloc (.cells #[Value.bool s, Value.slice A n c, Value.slice B m d] 27)).alloc (.cells #[Value.bool s', Value.slice A' n' c', Value.slice B' m' d'] 27)) zbox
 have HW := Lib.hid (below_two (below_two b0 b1) b2)
 have HX := Lib.hid (hx.below HW.out)
 have HY := Lib.hid (zz_pos (hy'.below HW.out))
 have rz : ZB (((w.alloc (.cells #[Value.bool s, Value.slice A n c, Value.slice B m d] 27)).alloc (.cells #[Value.bool s', Value.slice A' n' c', Value.slice B' m' d'] 27)).alloc zbox) ((w.alloc (.cells #[Value.bool s, Value.slice A n c, Value.slice B m d] 27)).alloc (.cells #[Value.bool s', Value.slice A' n' c', Value.slice B' m' d'] 27)).heap.size := row2_new ((w.alloc (.cells #[Value.bool s, Value.slice A n c, Value.slice B m d] 27)).alloc (.cells #[Value.bool s', Value.slice A' n' c', Value.slice B' m' d'] 27)) _ _ _
 simp only [World.size_alloc] at rz
 clear b0 b1 b2 hx hy'
 go_enter Tryz.func77, Tryz.ntmps77
 go_wp2_with fail
 generalize ((w.alloc (.cells #[Value.bool s, Value.slice A n c, Value.slice B m d] 27)).alloc (.cells #[Value.bool s', Value.slice A' n' c', Value.slice B' m' d'] 27)).alloc zbox = w1 at *
 have HZ := Lib.hid rz
 clear rz
 refine (wMul_c HX.out HY.out (L + L') (by omega) (by omega) (Nat.le_refl _) z hz).mono ?_
 rintro e w2 ⟨A2, n2, c2, rfl, h4, bm⟩
 have BN4 := Lib.hid bm
 obtain ⟨e0, e1, f0, f1⟩ := (HZ.out.below BN4.out).cells
 have HF := Lib.hid ((HZ.out.below BN4.out).fill (.bool (sg z)) (.slice A2 n2 c2))
 have HP := Lib.hid (h4.put (HZ.out.below BN4.out) (.bool (sg z)) (.slice A2 n2 c2))
 have HB := Lib.hid (below_fill (g := w.heap.size + 1 + 1) (below_two HW.out BN4.out) (by omega) (.bool (sg z)) (.slice A2 n2 c2))
 clear bm h4
 go_wp2
 refine bodyPost_ret (results_cell_row rfl _ _ (w.heap.size + 1 + 1) 25 #[.bool (sg z), .slice A2 n2 c2] (0, 0) _ rfl HF.out Tryz.underlying25 rfl int_size) rfl ?_
 exact ⟨A2, n2, c2, rfl, HP.out, HB.out⟩
end
set_option maxHeartbeats 4000000 in
set_option maxRecDepth 100000 in
theorem rClone_c {w : World} {A : Option Addr} {n c : Nat} {xs : List Nat} {a L : Nat} (hx : NN w A n c xs a L) (h1 : L ≤ 1000000000) :
 Calls Tryz.prog 90 #[.slice A n c] w fun e w' => ∃ A2 n2 c2, e = .returned (.slice A2 n2 c2) ∧ NN w' A2 n2 c2 xs a L ∧ Below w.heap.size w w' := by
 have qT : ∀ (w : World) (a : Option Addr) (n c n' c' : Nat), (binOp .eql 23 (.slice a n c) (.slice none n' c')).run Tryz.prog w = .ok (.bool a.isNone) w := fun w a n c n' c' => Lib.run_eql_slice_nil w _ _ a n c n' c' Tryz.underlying23
 have hle := hx.le
 have Hx := Lib.hid (hx.below (below_new w (.cells #[] 74)))
 have Hn := Lib.hid hx
 clear hx
 have Hown : RowKit.Hid ((w.alloc (.cells #[] 74)).ownsRow w.heap.size 74 1 (.slice (some ⟨w.heap.size, 0, none⟩) 0 0) 0 (([] : List Nat).map limV)) := own_lit w [] 0 rfl (by omega)
 have Hb : RowKit.Hid (0 ≤ 1000000000 ∧ L ≤ 1000000000 ∧ w.heap.size ≤ (w.alloc (.cells #[] 74)).heap.size ∧ Small []) := ⟨by omega, h1, by simp, small_nil⟩
 cases A with
 | none =>
  clear Hx Hown Hb
  go_enter Tryz.func90, Tryz.ntmps90
  go_wp2
  go_ret
  have hn : n = 0 := by
   rcases Nat.eq_zero_or_pos n with h | h
   · exact h
   · obtain ⟨g, o, e, _⟩ := Hn.out.isN.2.2 h
     cases e
  have hl := Hn.out.isN.len
  rw [hn] at hl
  have hxs := List.eq_nil_of_length_eq_zero hl
  have hv := Hn.out.val
  subst hxs
  exact ⟨none, 0, 0, rfl, ⟨IsN.nil _ _, hv, Nat.le_refl _, Nat.zero_le _⟩, Below.refl _ _⟩
 | some p =>
  go_enter Tryz.func90, Tryz.ntmps90
  go_wp2_with (at_builtin; refine wpList_append_nat rfl _ _ rfl w.heap.size _ 0 [] rfl Hown (some p) n c xs a L rfl Hx Hb ?_)
  intro A2 c2 w' how hgrow
  have hb2 := below_lit hgrow.out (Nat.le_refl _)
  have hn : NN w' A2 n c2 xs a L := by
   have h := how.out
   exact ⟨h.isN, Hn.out.val, h.caps.1, Hn.out.le⟩
  clear how hgrow Hown Hb Hx Hn
  go_wp2
  go_ret
  exact ⟨_, _, _, rfl, hn, hb2⟩
end Go.Proofs.YtjikaojffgjndaaGreatDoor

/- What package rat's Good answers, as a contract over memory. Conditions: sizes of at most so many limbs. -/
namespace Go.Proofs.YtjikaojffgjndaaGreatDoor
open Go.RowKit Limb
set_option linter.unusedVariables false
section
variable {w : World} {s s' : Bool} {A B A' B' : Option Addr} {n c m d n' c' m' d' : Nat} {xs ys xs' ys' : List Nat} {x y : Int} {a b L L' : Nat}
set_option maxHeartbeats 40000000 in
set_option maxRecDepth 100000 in
theorem rGood_c {o : Option Rat} (hx : QQ w s A n c xs B m d ys o L) (h1 : L ≤ 10000) (v : Bool) (hv : o.isSome = v) :
 Calls Tryz.prog 54 #[.agg #[.bool s, .slice A n c, .slice B m d]] w fun e w' => e = .returned (.bool v) ∧ Below w.heap.size w w' := by
 have hg := hx.good
 rw [hv] at hg
 have hlx := hx.bot.isN.len
 have hlt := hx.top.nn.isN.len
 have hsx := hx.top.nn.isN.small
 have hsy := hx.bot.isN.small
 have b0 := below_new w (.cells #[Value.bool s, Value.slice A n c, Value.slice B m d] 27)
 have HW := Lib.hid b0
 have HX : RowKit.Hid (NN (w.alloc (.cells #[Value.bool s, Value.slice A n c, Value.slice B m d] 27)) A n c xs (Limb.val xs) L) := by
  have h := hx.top.nn.below b0
  rw [zOf_abs] at h
  exact h
 have HY := Lib.hid (hx.bot.below b0)
 have HR0 := Lib.hid (row3_new w 27 (.bool s) (.slice A n c) (.slice B m d))
 clear b0 hx hv
 by_cases k1 : xs = limbs (Limb.val xs)
 · by_cases k2 : ys = limbs (Limb.val ys)
   · by_cases k5 : n ≤ 64 ∧ m ≤ 64
     · by_cases k3 : m = 0
       · have hgf : goodV s xs ys = false := by
          rw [Bool.eq_false_iff]
          intro h
          obtain ⟨g1, g2, g3, g4, g5, g6, g7⟩ := goodV_iff.1 h
          exact g3 (by rw [List.eq_nil_of_length_eq_zero (hlx.trans k3)]; rfl)
         obtain rfl : v = false := hg.symm.trans hgf
         clear hg hgf hlx hlt hsx hsy
         have m0 : ((m : Int) == 0) = true := by rw [beq_iff_eq]; omega
         have K1 : RowKit.Hid (decide (xs = limbs (Limb.val xs)) = true) := by show _ = _; simpa using k1
         have K2 : RowKit.Hid (decide (ys = limbs (Limb.val ys)) = true) := by show _ = _; simpa using k2
         have K5 : RowKit.Hid ((decide (n ≤ 64) && decide (m ≤ 64)) = true) := by show _ = _; simpa using k5
         clear k1 k2 k5 k3
         go_enter Tryz.func54, Tryz.ntmps54
         go_wp2_with fail
         generalize w.alloc (.cells #[Value.bool s, Value.slice A n c, Value.slice B m d] 27) = w1 at *
         refine (rTrimmed_c HX.out (by omega) true K1.out).mono ?_
         rintro e w2 ⟨rfl, rfl⟩
         have c00 := HR0.out.c0
         have c01 := HR0.out.c1
         have c02 := HR0.out.c2
         go_wp2_with fail
         clear c00 c01 c02
         refine (rTrimmed_c HY.out (by omega) true K2.out).mono ?_
         rintro e w2 ⟨rfl, rfl⟩
         have c00 := HR0.out.c0
         have c01 := HR0.out.c1
         have c02 := HR0.out.c2
         go_wp2_with fail
         clear c00 c01 c02
         refine (rFits_c s A B n c m d _ true K5.out).mono ?_
         rintro e w3 ⟨rfl, bn⟩
         replace HX := Lib.hid (HX.out.below bn)
         replace HY := Lib.hid (HY.out.below bn)
         replace HR0 := Lib.hid (HR0.out.below bn)
         replace HW := Lib.hid (below_two HW.out bn)
         clear bn
         have c00 := HR0.out.c0
         have c01 := HR0.out.c1
         have c02 := HR0.out.c2
         go_wp2
         go_ret
         exact ⟨rfl, HW.out⟩
       · by_cases k4 : s = true ∧ n = 0
         · obtain ⟨k4s, k4n⟩ := k4
           have hgf : goodV s xs ys = false := by
            rw [Bool.eq_false_iff]
            intro h
            obtain ⟨g1, g2, g3, g4, g5, g6, g7⟩ := goodV_iff.1 h
            exact g4 ⟨k4s, by rw [List.eq_nil_of_length_eq_zero (hlt.trans k4n)]; rfl⟩
           obtain rfl : v = false := hg.symm.trans hgf
           clear hg hgf hlx hlt hsx hsy
           have m0 : ((m : Int) == 0) = false := by rw [beq_eq_false_iff_ne]; omega
           have n0 : ((n : Int) == 0) = true := by rw [beq_iff_eq]; omega
           subst k4s
           have K1 : RowKit.Hid (decide (xs = limbs (Limb.val xs)) = true) := by show _ = _; simpa using k1
           have K2 : RowKit.Hid (decide (ys = limbs (Limb.val ys)) = true) := by show _ = _; simpa using k2
           have K5 : RowKit.Hid ((decide (n ≤ 64) && decide (m ≤ 64)) = true) := by show _ = _; simpa using k5
           clear k1 k2 k5 k3 k4n
           go_enter Tryz.func54, Tryz.ntmps54
           go_wp2_with fail
           generalize w.alloc (.cells #[Value.bool true, Value.slice A n c, Value.slice B m d] 27) = w1 at *
           refine (rTrimmed_c HX.out (by omega) true K1.out).mono ?_
           rintro e w2 ⟨rfl, rfl⟩
           have c00 := HR0.out.c0
           have c01 := HR0.out.c1
           have c02 := HR0.out.c2
           go_wp2_with fail
           clear c00 c01 c02
           refine (rTrimmed_c HY.out (by omega) true K2.out).mono ?_
           rintro e w2 ⟨rfl, rfl⟩
           have c00 := HR0.out.c0
           have c01 := HR0.out.c1
           have c02 := HR0.out.c2
           go_wp2_with fail
           clear c00 c01 c02
           refine (rFits_c true A B n c m d _ true K5.out).mono ?_
           rintro e w3 ⟨rfl, bn⟩
           replace HX := Lib.hid (HX.out.below bn)
           replace HY := Lib.hid (HY.out.below bn)
           replace HR0 := Lib.hid (HR0.out.below bn)
           replace HW := Lib.hid (below_two HW.out bn)
           clear bn
           have c00 := HR0.out.c0
           have c01 := HR0.out.c1
           have c02 := HR0.out.c2
           go_wp2
           go_ret
           exact ⟨rfl, HW.out⟩
         · by_cases hgcd : Nat.gcd (Limb.val xs) (Limb.val ys) = 1
           · have hgt : goodV s xs ys = true := by
              rw [goodV_iff]
              refine ⟨k1, k2, ?_, ?_, by omega, by omega, hgcd⟩
              · intro h; rw [h, limbs_zero] at k2; rw [k2] at hlx; simp at hlx; omega
              · rintro ⟨h1, h2⟩
                rw [h2, limbs_zero] at k1; rw [k1] at hlt; simp at hlt
                exact k4 ⟨h1, by omega⟩
             obtain rfl : v = true := hg.symm.trans hgt
             have hl2 := Lib.hid hlx
             clear hg hgt hlx hlt hsx hsy
             obtain ⟨z, hz0⟩ : ∃ z : Int, z = 0 := ⟨_, rfl⟩
             have HZ : RowKit.Hid (cmpI (gcdN (Limb.val xs) (Limb.val ys)) 1 = z) := by show _ = _; rw [hz0]; exact cmpI_same hgcd
             have hzz : (z == 0) = true := by rw [hz0]; rfl
             clear hgcd hz0
             have m0 : ((m : Int) == 0) = false := by rw [beq_eq_false_iff_ne]; omega
             have HG : RowKit.Hid (gcdN (Limb.val xs) (Limb.val ys) < 4294967296 ^ L) := Nat.lt_of_le_of_lt (Nat.gcd_le_right _ (Nat.pos_of_ne_zero fun h0 => k3 (by rw [← hl2.out, k2, h0]; rfl))) (lt_pow HY.out)
             by_cases ks : s = true
             · have n0 : ((n : Int) == 0) = false := by
                rw [beq_eq_false_iff_ne]
                have hn0 : n ≠ 0 := fun h => k4 ⟨ks, h⟩
                omega
               subst ks
               have K1 : RowKit.Hid (decide (xs = limbs (Limb.val xs)) = true) := by show _ = _; simpa using k1
               have K2 : RowKit.Hid (decide (ys = limbs (Limb.val ys)) = true) := by show _ = _; simpa using k2
               have K5 : RowKit.Hid ((decide (n ≤ 64) && decide (m ≤ 64)) = true) := by show _ = _; simpa using k5
               clear k1 k2 k5 k3 k4 hl2
               go_enter Tryz.func54, Tryz.ntmps54
               go_wp2_with fail
               generalize w.alloc (.cells #[Value.bool true, Value.slice A n c, Value.slice B m d] 27) = w1 at *
               refine (rTrimmed_c HX.out (by omega) true K1.out).mono ?_
               rintro e w2 ⟨rfl, rfl⟩
               have c00 := HR0.out.c0
               have c01 := HR0.out.c1
               have c02 := HR0.out.c2
               go_wp2_with fail
               clear c00 c01 c02
               refine (rTrimmed_c HY.out (by omega) true K2.out).mono ?_
               rintro e w2 ⟨rfl, rfl⟩
               have c00 := HR0.out.c0
               have c01 := HR0.out.c1
               have c02 := HR0.out.c2
               go_wp2_with fail
               clear c00 c01 c02
               refine (rFits_c true A B n c m d _ true K5.out).mono ?_
               rintro e w3 ⟨rfl, bn⟩
               replace HX := Lib.hid (HX.out.below bn)
               replace HY := Lib.hid (HY.out.below bn)
               replace HR0 := Lib.hid (HR0.out.below bn)
               replace HW := Lib.hid (below_two HW.out bn)
               clear bn
               have c00 := HR0.out.c0
               have c01 := HR0.out.c1
               have c02 := HR0.out.c2
               go_wp2_with fail
               refine (quoGcd_c HX.out HY.out (by omega) (by omega) L HG.out).mono ?_
               rintro e w4 ⟨A3, n3, c3, rfl, h3, bn⟩
               have H3 := Lib.hid h3
               replace HW := Lib.hid (below_two HW.out bn)
               clear bn h3
               clear c00 c01 c02
               go_wp2_with fail
               refine (of_c 1 1 rfl (by decide) _).mono ?_
               rintro e w5 ⟨A4, n4, c4, rfl, h4, bn⟩
               have H4 := Lib.hid h4
               replace H3 := Lib.hid (H3.out.below bn)
               replace HW := Lib.hid (below_two HW.out bn)
               clear bn h4
               go_wp2_with fail
               refine (cmp_c H3.out H4.out (by omega) (by decide) z HZ.out).mono ?_
               rintro e w6 ⟨rfl, bn⟩
               replace HW := Lib.hid (below_two HW.out bn)
               clear bn
               go_wp2
               go_ret
               exact ⟨rfl, HW.out⟩
             · have ks2 : s = false := by simpa using ks
               subst ks2
               have K1 : RowKit.Hid (decide (xs = limbs (Limb.val xs)) = true) := by show _ = _; simpa using k1
               have K2 : RowKit.Hid (decide (ys = limbs (Limb.val ys)) = true) := by show _ = _; simpa using k2
               have K5 : RowKit.Hid ((decide (n ≤ 64) && decide (m ≤ 64)) = true) := by show _ = _; simpa using k5
               clear k1 k2 k5 k3 k4 hl2
               go_enter Tryz.func54, Tryz.ntmps54
               go_wp2_with fail
               generalize w.alloc (.cells #[Value.bool false, Value.slice A n c, Value.slice B m d] 27) = w1 at *
               refine (rTrimmed_c HX.out (by omega) true K1.out).mono ?_
               rintro e w2 ⟨rfl, rfl⟩
               have c00 := HR0.out.c0
               have c01 := HR0.out.c1
               have c02 := HR0.out.c2
               go_wp2_with fail
               clear c00 c01 c02
               refine (rTrimmed_c HY.out (by omega) true K2.out).mono ?_
               rintro e w2 ⟨rfl, rfl⟩
               have c00 := HR0.out.c0
               have c01 := HR0.out.c1
               have c02 := HR0.out.c2
               go_wp2_with fail
               clear c00 c01 c02
               refine (rFits_c false A B n c m d _ true K5.out).mono ?_
               rintro e w3 ⟨rfl, bn⟩
               replace HX := Lib.hid (HX.out.below bn)
               replace HY := Lib.hid (HY.out.below bn)
               replace HR0 := Lib.hid (HR0.out.below bn)
               replace HW := Lib.hid (below_two HW.out bn)
               clear bn
               have c00 := HR0.out.c0
               have c01 := HR0.out.c1
               have c02 := HR0.out.c2
               go_wp2_with fail
               refine (quoGcd_c HX.out HY.out (by omega) (by omega) L HG.out).mono ?_
               rintro e w4 ⟨A3, n3, c3, rfl, h3, bn⟩
               have H3 := Lib.hid h3
               replace HW := Lib.hid (below_two HW.out bn)
               clear bn h3
               clear c00 c01 c02
               go_wp2_with fail
               refine (of_c 1 1 rfl (by decide) _).mono ?_
               rintro e w5 ⟨A4, n4, c4, rfl, h4, bn⟩
               have H4 := Lib.hid h4
               replace H3 := Lib.hid (H3.out.below bn)
               replace HW := Lib.hid (below_two HW.out bn)
               clear bn h4
               go_wp2_with fail
               refine (cmp_c H3.out H4.out (by omega) (by decide) z HZ.out).mono ?_
               rintro e w6 ⟨rfl, bn⟩
               replace HW := Lib.hid (below_two HW.out bn)
               clear bn
               go_wp2
               go_ret
               exact ⟨rfl, HW.out⟩
           · have hgf : goodV s xs ys = false := by
              rw [Bool.eq_false_iff]
              intro h
              obtain ⟨g1, g2, g3, g4, g5, g6, g7⟩ := goodV_iff.1 h
              exact hgcd g7
             obtain rfl : v = false := hg.symm.trans hgf
             have hl2 := Lib.hid hlx
             clear hg hgf hlx hlt hsx hsy
             obtain ⟨z, hz0, hz1⟩ : ∃ z : Int, cmpI (gcdN (Limb.val xs) (Limb.val ys)) 1 = z ∧ z ≠ 0 := by
              rcases Nat.lt_trichotomy (gcdN (Limb.val xs) (Limb.val ys)) 1 with h | h | h
              · exact ⟨-1, cmpI_lt h, by decide⟩
              · exact absurd h hgcd
              · exact ⟨1, cmpI_gt h, by decide⟩
             have HZ := Lib.hid hz0
             have hzz : (z == 0) = false := by rw [beq_eq_false_iff_ne]; exact hz1
             clear hgcd hz0 hz1
             have m0 : ((m : Int) == 0) = false := by rw [beq_eq_false_iff_ne]; omega
             have HG : RowKit.Hid (gcdN (Limb.val xs) (Limb.val ys) < 4294967296 ^ L) := Nat.lt_of_le_of_lt (Nat.gcd_le_right _ (Nat.pos_of_ne_zero fun h0 => k3 (by rw [← hl2.out, k2, h0]; rfl))) (lt_pow HY.out)
             by_cases ks : s = true
             · have n0 : ((n : Int) == 0) = false := by
                rw [beq_eq_false_iff_ne]
                have hn0 : n ≠ 0 := fun h => k4 ⟨ks, h⟩
                omega
               subst ks
               have K1 : RowKit.Hid (decide (xs = limbs (Limb.val xs)) = true) := by show _ = _; simpa using k1
               have K2 : RowKit.Hid (decide (ys = limbs (Limb.val ys)) = true) := by show _ = _; simpa using k2
               have K5 : RowKit.Hid ((decide (n ≤ 64) && decide (m ≤ 64)) = true) := by show _ = _; simpa using k5
               clear k1 k2 k5 k3 k4 hl2
               go_enter Tryz.func54, Tryz.ntmps54
               go_wp2_with fail
               generalize w.alloc (.cells #[Value.bool true, Value.slice A n c, Value.slice B m d] 27) = w1 at *
               refine (rTrimmed_c HX.out (by omega) true K1.out).mono ?_
               rintro e w2 ⟨rfl, rfl⟩
               have c00 := HR0.out.c0
               have c01 := HR0.out.c1
               have c02 := HR0.out.c2
               go_wp2_with fail
               clear c00 c01 c02
               refine (rTrimmed_c HY.out (by omega) true K2.out).mono ?_
               rintro e w2 ⟨rfl, rfl⟩
               have c00 := HR0.out.c0
               have c01 := HR0.out.c1
               have c02 := HR0.out.c2
               go_wp2_with fail
               clear c00 c01 c02
               refine (rFits_c true A B n c m d _ true K5.out).mono ?_
               rintro e w3 ⟨rfl, bn⟩
               replace HX := Lib.hid (HX.out.below bn)
               replace HY := Lib.hid (HY.out.below bn)
               replace HR0 := Lib.hid (HR0.out.below bn)
               replace HW := Lib.hid (below_two HW.out bn)
               clear bn
               have c00 := HR0.out.c0
               have c01 := HR0.out.c1
               have c02 := HR0.out.c2
               go_wp2_with fail
               refine (quoGcd_c HX.out HY.out (by omega) (by omega) L HG.out).mono ?_
               rintro e w4 ⟨A3, n3, c3, rfl, h3, bn⟩
               have H3 := Lib.hid h3
               replace HW := Lib.hid (below_two HW.out bn)
               clear bn h3
               clear c00 c01 c02
               go_wp2_with fail
               refine (of_c 1 1 rfl (by decide) _).mono ?_
               rintro e w5 ⟨A4, n4, c4, rfl, h4, bn⟩
               have H4 := Lib.hid h4
               replace H3 := Lib.hid (H3.out.below bn)
               replace HW := Lib.hid (below_two HW.out bn)
               clear bn h4
               go_wp2_with fail
               refine (cmp_c H3.out H4.out (by omega) (by decide) z HZ.out).mono ?_
               rintro e w6 ⟨rfl, bn⟩
               replace HW := Lib.hid (below_two HW.out bn)
               clear bn
               go_wp2
               go_ret
               exact ⟨rfl, HW.out⟩
             · have ks2 : s = false := by simpa using ks
               subst ks2
               have K1 : RowKit.Hid (decide (xs = limbs (Limb.val xs)) = true) := by show _ = _; simpa using k1
               have K2 : RowKit.Hid (decide (ys = limbs (Limb.val ys)) = true) := by show _ = _; simpa using k2
               have K5 : RowKit.Hid ((decide (n ≤ 64) && decide (m ≤ 64)) = true) := by show _ = _; simpa using k5
               clear k1 k2 k5 k3 k4 hl2
               go_enter Tryz.func54, Tryz.ntmps54
               go_wp2_with fail
               generalize w.alloc (.cells #[Value.bool false, Value.slice A n c, Value.slice B m d] 27) = w1 at *
               refine (rTrimmed_c HX.out (by omega) true K1.out).mono ?_
               rintro e w2 ⟨rfl, rfl⟩
               have c00 := HR0.out.c0
               have c01 := HR0.out.c1
               have c02 := HR0.out.c2
               go_wp2_with fail
               clear c00 c01 c02
               refine (rTrimmed_c HY.out (by omega) true K2.out).mono ?_
               rintro e w2 ⟨rfl, rfl⟩
               have c00 := HR0.out.c0
               have c01 := HR0.out.c1
               have c02 := HR0.out.c2
               go_wp2_with fail
               clear c00 c01 c02
               refine (rFits_c false A B n c m d _ true K5.out).mono ?_
               rintro e w3 ⟨rfl, bn⟩
               replace HX := Lib.hid (HX.out.below bn)
               replace HY := Lib.hid (HY.out.below bn)
               replace HR0 := Lib.hid (HR0.out.below bn)
               replace HW := Lib.hid (below_two HW.out bn)
               clear bn
               have c00 := HR0.out.c0
               have c01 := HR0.out.c1
               have c02 := HR0.out.c2
               go_wp2_with fail
               refine (quoGcd_c HX.out HY.out (by omega) (by omega) L HG.out).mono ?_
               rintro e w4 ⟨A3, n3, c3, rfl, h3, bn⟩
               have H3 := Lib.hid h3
               replace HW := Lib.hid (below_two HW.out bn)
               clear bn h3
               clear c00 c01 c02
               go_wp2_with fail
               refine (of_c 1 1 rfl (by decide) _).mono ?_
               rintro e w5 ⟨A4, n4, c4, rfl, h4, bn⟩
               have H4 := Lib.hid h4
               replace H3 := Lib.hid (H3.out.below bn)
               replace HW := Lib.hid (below_two HW.out bn)
               clear bn h4
               go_wp2_with fail
               refine (cmp_c H3.out H4.out (by omega) (by decide) z HZ.out).mono ?_
               rintro e w6 ⟨rfl, bn⟩
               replace HW := Lib.hid (below_two HW.out bn)
               clear bn
               go_wp2
               go_ret
               exact ⟨rfl, HW.out⟩
     · have hgf : goodV s xs ys = false := by
        rw [Bool.eq_false_iff]
        intro h
        obtain ⟨g1, g2, g3, g4, g5, g6, g7⟩ := goodV_iff.1 h
        exact k5 ⟨by omega, by omega⟩
       obtain rfl : v = false := hg.symm.trans hgf
       clear hg hgf hlx hlt hsx hsy
       have K1 : RowKit.Hid (decide (xs = limbs (Limb.val xs)) = true) := by show _ = _; simpa using k1
       have K2 : RowKit.Hid (decide (ys = limbs (Limb.val ys)) = true) := by show _ = _; simpa using k2
       have K5 : RowKit.Hid ((decide (n ≤ 64) && decide (m ≤ 64)) = false) := by show _ = _; rw [Bool.eq_false_iff]; simpa using k5
       clear k1 k2 k5 
       go_enter Tryz.func54, Tryz.ntmps54
       go_wp2_with fail
       generalize w.alloc (.cells #[Value.bool s, Value.slice A n c, Value.slice B m d] 27) = w1 at *
       refine (rTrimmed_c HX.out (by omega) true K1.out).mono ?_
       rintro e w2 ⟨rfl, rfl⟩
       have c00 := HR0.out.c0
       have c01 := HR0.out.c1
       have c02 := HR0.out.c2
       go_wp2_with fail
       clear c00 c01 c02
       refine (rTrimmed_c HY.out (by omega) true K2.out).mono ?_
       rintro e w2 ⟨rfl, rfl⟩
       have c00 := HR0.out.c0
       have c01 := HR0.out.c1
       have c02 := HR0.out.c2
       go_wp2_with fail
       clear c00 c01 c02
       refine (rFits_c s A B n c m d _ false K5.out).mono ?_
       rintro e w3 ⟨rfl, bn⟩
       replace HX := Lib.hid (HX.out.below bn)
       replace HY := Lib.hid (HY.out.below bn)
       replace HR0 := Lib.hid (HR0.out.below bn)
       replace HW := Lib.hid (below_two HW.out bn)
       clear bn
       go_wp2
       go_ret
       exact ⟨rfl, HW.out⟩
   · have hgf : goodV s xs ys = false := by
      rw [Bool.eq_false_iff]
      intro h
      obtain ⟨g1, g2, g3, g4, g5, g6, g7⟩ := goodV_iff.1 h
      exact k2 g2
     obtain rfl : v = false := hg.symm.trans hgf
     clear hg hgf hlx hlt hsx hsy
     have K1 : RowKit.Hid (decide (xs = limbs (Limb.val xs)) = true) := by show _ = _; simpa using k1
     have K2 : RowKit.Hid (decide (ys = limbs (Limb.val ys)) = false) := by show _ = _; simpa using k2
     clear k1 k2
     go_enter Tryz.func54, Tryz.ntmps54
     go_wp2_with fail
     generalize w.alloc (.cells #[Value.bool s, Value.slice A n c, Value.slice B m d] 27) = w1 at *
     refine (rTrimmed_c HX.out (by omega) true K1.out).mono ?_
     rintro e w2 ⟨rfl, rfl⟩
     have c00 := HR0.out.c0
     have c01 := HR0.out.c1
     have c02 := HR0.out.c2
     go_wp2_with fail
     clear c00 c01 c02
     refine (rTrimmed_c HY.out (by omega) false K2.out).mono ?_
     rintro e w2 ⟨rfl, rfl⟩
     go_wp2
     go_ret
     exact ⟨rfl, HW.out⟩
 · have hgf : goodV s xs ys = false := by
    rw [Bool.eq_false_iff]
    intro h
    obtain ⟨g1, g2, g3, g4, g5, g6, g7⟩ := goodV_iff.1 h
    exact k1 g1
   obtain rfl : v = false := hg.symm.trans hgf
   clear hg hgf hlx hlt hsx hsy
   have K1 : RowKit.Hid (decide (xs = limbs (Limb.val xs)) = false) := by show _ = _; simpa using k1
   clear k1
   go_enter Tryz.func54, Tryz.ntmps54
   go_wp2_with fail
   generalize w.alloc (.cells #[Value.bool s, Value.slice A n c, Value.slice B m d] 27) = w1 at *
   refine (rTrimmed_c HX.out (by omega) false K1.out).mono ?_
   rintro e w2 ⟨rfl, rfl⟩
   go_wp2
   go_ret
   exact ⟨rfl, HW.out⟩
end
end Go.Proofs.YtjikaojffgjndaaGreatDoor

/- What package rat's Of answers, as a contract over memory. Conditions: sizes of at most so many limbs. -/
namespace Go.Proofs.YtjikaojffgjndaaGreatDoor
open Go.RowKit Limb
set_option linter.unusedVariables false
section
variable {w : World} {s s' : Bool} {A B A' B' : Option Addr} {n c m d n' c' m' d' : Nat} {xs ys xs' ys' : List Nat} {x y : Int} {a b L L' : Nat}
set_option maxHeartbeats 4000000 in
set_option maxRecDepth 100000 in
theorem rOf_c (hx : ZZ w s A n c xs x L) (hy : NN w B m d ys b L') (h1 : L ≤ 10000) (h2 : L' ≤ 10000) (r : Option Rat) (e : Int) (hR : ofR x b = (r, e)) :
 Calls Tryz.prog 31 #[.agg #[.bool s, .slice A n c], .slice B m d] w fun ee w' => ∃ A2 n2 c2 B2 m2 d2, ee = .returned (.tuple #[.agg #[.bool (sg (oTop r)), .slice A2 n2 c2, .slice B2 m2 d2], .int .i64 e]) ∧ QT w' A2 n2 c2 B2 m2 d2 r ∧ Below w.heap.size w w' := by
 have b0 := below_new w (.cells #[Value.bool s, Value.slice A n c] 25)
 have b1 := below_new (w.alloc (.cells #[Value.bool s, Value.slice A n c] 25)) (.cells #[Value.bool false, Value.slice none 0 0, Value.slice none 0 0] 27)
 have HW := Lib.hid (below_two b0 b1)
 have HX := Lib.hid (hx.below HW.out)
 have HY := Lib.hid (hy.below HW.out)
 have r0 := (row2_new w 25 (.bool s) (.slice A n c)).below b1
 have rz := row3_new (w.alloc (.cells #[Value.bool s, Value.slice A n c] 25)) 27 (.bool false) (.slice none 0 0) (.slice none 0 0)
 simp only [World.size_alloc] at rz
 have Hq : RowKit.Hid (w.heap.size ≤ w.heap.size + 1) := Nat.le_succ _
 clear b0 b1 hx hy
 by_cases hb : b = 0
 · obtain ⟨rfl, rfl⟩ := ofR_zero hb hR
   clear hR
   have HB0 : RowKit.Hid (((blen b : Nat) : Int) = 0) := by show _ = _; rw [hb]; rfl
   clear hb
   go_enter Tryz.func31, Tryz.ntmps31
   go_wp2_with fail
   generalize (w.alloc (.cells #[Value.bool s, Value.slice A n c] 25)).alloc (.cells #[Value.bool false, Value.slice none 0 0, Value.slice none 0 0] 27) = w1 at *
   have HR0 := Lib.hid r0
   have HZ := Lib.hid rz
   clear r0 rz
   refine (bits_c HY.out (by omega) 0 HB0.out).mono ?_
   rintro e w2 ⟨rfl, rfl⟩
   have e0 := HZ.out.c0
   have e1 := HZ.out.c1
   have e2 := HZ.out.c2
   have f0 := HZ.out.free 0
   have f1 := HZ.out.free 1
   have f2 := HZ.out.free 2
   have HF := Lib.hid (HZ.out.fill (.bool false) (.slice none 0 0) (.slice none 0 0))
   have HB := Lib.hid (below_fill3' HW.out Hq.out (.bool false) (.slice none 0 0) (.slice none 0 0))
   go_wp2
   refine bodyPost_ret (results_mixed rfl _ _ _ 27 #[.bool false, .slice none 0 0, .slice none 0 0] (0, 0) _ (.int .i64 3) rfl rfl HF.out Tryz.underlying27 rfl rat_size) rfl ?_
   exact ⟨none, 0, 0, none, 0, 0, rfl, qt_none _ 0 0, HB.out⟩
 · have hL := ofR_yes hb hR
   clear hR
   obtain ⟨q, hq⟩ : ∃ q, mkRat x b = q := ⟨_, rfl⟩
   rw [hq] at hL
   obtain ⟨g, hg⟩ : ∃ g, gcdN x.natAbs b = g := ⟨_, rfl⟩
   have hg2 : Nat.gcd x.natAbs b = g := hg
   have hg0 : g ≠ 0 := by rw [← hg2]; exact Nat.pos_iff_ne_zero.1 (Nat.gcd_pos_of_pos_right _ (Nat.pos_of_ne_zero hb))
   have m3 := mk_den (x := x) hb
   rw [hq, hg2] at m3
   have HS : RowKit.Hid (zOf s (x.natAbs / g) = q.num) := by
    show _ = _
    rw [← hg2, ← hq]; exact zz_div HX.out.zo hb
   have HD : RowKit.Hid (b / g = q.den) := m3.symm
   have Hg := Lib.hid hg
   have HG : RowKit.Hid (gcdN x.natAbs b < 4294967296 ^ L') := Nat.lt_of_le_of_lt (Nat.gcd_le_right _ (Nat.pos_of_ne_zero hb)) (lt_pow HY.out)
   obtain ⟨z, hz⟩ : ∃ z : Int, ((blen b : Nat) : Int) = z := ⟨_, rfl⟩
   have hz0 : (z == 0) = false := by
    rw [beq_eq_false_iff_ne, ← hz]
    have := mt blen_eq_zero.1 hb
    omega
   have HB0 := Lib.hid hz
   have Hg0 := Lib.hid hg0
   clear hz hb hg hg2 hg0 m3 hq
   go_enter Tryz.func31, Tryz.ntmps31
   go_wp2_with fail
   generalize (w.alloc (.cells #[Value.bool s, Value.slice A n c] 25)).alloc (.cells #[Value.bool false, Value.slice none 0 0, Value.slice none 0 0] 27) = w1 at *
   have HR0 := Lib.hid r0
   have HZ := Lib.hid rz
   clear r0 rz
   refine (bits_c HY.out (by omega) z HB0.out).mono ?_
   rintro e w2 ⟨rfl, rfl⟩
   have c0 := HR0.out.c0
   have c1 := HR0.out.c1
   go_wp2_with fail
   clear c0 c1
   refine (quoGcd_c HX.out.nn HY.out (by omega) (by omega) L' HG.out).mono ?_
   rw [Hg.out]
   rintro e w2 ⟨A3, n3, c3, rfl, h3, bn⟩
   replace HX := Lib.hid (HX.out.below bn)
   replace HY := Lib.hid (HY.out.below bn)
   replace HR0 := Lib.hid (HR0.out.below bn)
   replace HZ := Lib.hid (HZ.out.below bn)
   replace HW := Lib.hid (below_two HW.out bn)
   clear bn
   have H3 := Lib.hid h3
   clear h3
   have c0 := HR0.out.c0
   have c1 := HR0.out.c1
   go_wp2_with fail
   clear c0 c1
   refine (quoRem_yes HX.out.nn H3.out (by omega) (by omega) Hg0.out).mono ?_
   rintro e w2 ⟨A4, n4, c4, A5, n5, c5, rfl, h4, h5, bn⟩
   replace HX := Lib.hid (HX.out.below bn)
   replace HY := Lib.hid (HY.out.below bn)
   replace HR0 := Lib.hid (HR0.out.below bn)
   replace HZ := Lib.hid (HZ.out.below bn)
   replace H3 := Lib.hid (H3.out.below bn)
   replace HW := Lib.hid (below_two HW.out bn)
   clear bn
   have H4 := Lib.hid h4
   clear h4 h5
   have c0 := HR0.out.c0
   have c1 := HR0.out.c1
   go_wp2_with fail
   clear c0 c1
   refine (quoRem_yes HY.out H3.out (by omega) (by omega) Hg0.out).mono ?_
   rintro e w2 ⟨A6, n6, c6, A7, n7, c7, rfl, h6, h7, bn⟩
   replace HX := Lib.hid (HX.out.below bn)
   replace HY := Lib.hid (HY.out.below bn)
   replace HR0 := Lib.hid (HR0.out.below bn)
   replace HZ := Lib.hid (HZ.out.below bn)
   replace H3 := Lib.hid (H3.out.below bn)
   replace H4 := Lib.hid (H4.out.below bn)
   replace HW := Lib.hid (below_two HW.out bn)
   clear bn
   have H6 : RowKit.Hid (NN w2 A6 n6 c6 (limbs q.den) q.den L') := by show NN _ _ _ _ _ _ _; rw [← HD.out]; exact h6
   clear h6 h7
   have c0 := HR0.out.c0
   have c1 := HR0.out.c1
   go_wp2_with fail
   clear c0 c1
   refine (wTrim_c (show ZZ _ s _ _ _ _ q.num L from by rw [← HS.out]; exact ZZ.of H4.out) (by omega)).mono ?_
   rintro e w2 ⟨A8, n8, c8, rfl, h8, bn⟩
   replace HX := Lib.hid (HX.out.below bn)
   replace HY := Lib.hid (HY.out.below bn)
   replace HR0 := Lib.hid (HR0.out.below bn)
   replace HZ := Lib.hid (HZ.out.below bn)
   replace H3 := Lib.hid (H3.out.below bn)
   replace H4 := Lib.hid (H4.out.below bn)
   replace H6 := Lib.hid (H6.out.below bn)
   replace HW := Lib.hid (below_two HW.out bn)
   clear bn
   have H8 := Lib.hid h8
   clear h8 HX HY H3 H4
   cases hf : fitsQ q with
   | true =>
    rw [limR_yes hf] at hL
    cases hL
    have HK : RowKit.Hid ((decide (n8 ≤ 64) && decide (n6 ≤ 64)) = true) := by show _ = _; rw [fits_len q H8.out.nn.isN.len H6.out.isN.len, hf]
    have Hf := Lib.hid hf
    clear hf
    have bx := below_new w2 (.cells #[Value.bool (sg q.num), Value.slice A8 n8 c8, Value.slice A6 n6 c6] 27)
    have HR8 := Lib.hid (row3_new w2 27 (.bool (sg q.num)) (.slice A8 n8 c8) (.slice A6 n6 c6))
    replace H8 := Lib.hid (H8.out.below bx)
    replace H6 := Lib.hid (H6.out.below bx)
    replace HZ := Lib.hid (HZ.out.below bx)
    replace HW := Lib.hid (below_two HW.out bx)
    clear bx HR0
    have e0 := HZ.out.c0
    have e1 := HZ.out.c1
    have e2 := HZ.out.c2
    have y0 := HR8.out.c0
    have y1 := HR8.out.c1
    have y2 := HR8.out.c2
    go_wp2_with fail
    clear y0 y1 y2 e0 e1 e2
    generalize w2.alloc (.cells #[Value.bool (sg q.num), Value.slice A8 n8 c8, Value.slice A6 n6 c6] 27) = w3 at *
    obtain ⟨q8, eg⟩ : ∃ g, g = w2.heap.size := ⟨_, rfl⟩
    rw [← eg] at HR8 ⊢
    clear eg
    refine (rFits_c (sg q.num) A8 A6 n8 c8 n6 c6 _ true HK.out).mono ?_
    rintro e w4 ⟨rfl, bn⟩
    replace H8 := Lib.hid (H8.out.below bn)
    replace H6 := Lib.hid (H6.out.below bn)
    replace HZ := Lib.hid (HZ.out.below bn)
    replace HR8 := Lib.hid (HR8.out.below bn)
    replace HW := Lib.hid (below_two HW.out bn)
    clear bn
    have y0 := HR8.out.c0
    have y1 := HR8.out.c1
    have y2 := HR8.out.c2
    have e0 := HZ.out.c0
    have e1 := HZ.out.c1
    have e2 := HZ.out.c2
    have f0 := HZ.out.free 0
    have f1 := HZ.out.free 1
    have f2 := HZ.out.free 2
    have hNo := HZ.out.noLimb (by intro v e; cases e) (by intro v e; cases e) (by intro v e; cases e)
    have HF := Lib.hid (HZ.out.fill (.bool (sg q.num)) (.slice A8 n8 c8) (.slice A6 n6 c6))
    have HP := Lib.hid ((qt_some H8.out H6.out Hf.out).fillR3 hNo (.bool (sg q.num)) (.slice A8 n8 c8) (.slice A6 n6 c6))
    have HB := Lib.hid (below_fill3' HW.out Hq.out (.bool (sg q.num)) (.slice A8 n8 c8) (.slice A6 n6 c6))
    clear hNo
    go_wp2
    refine bodyPost_ret (results_mixed rfl _ _ _ 27 #[.bool (sg q.num), .slice A8 n8 c8, .slice A6 n6 c6] (0, 0) _ (.int .i64 0) rfl rfl HF.out Tryz.underlying27 rfl rat_size) rfl ?_
    exact ⟨A8, n8, c8, A6, n6, c6, rfl, HP.out, HB.out⟩
   | false =>
    rw [limR_no hf] at hL
    cases hL
    have HK : RowKit.Hid ((decide (n8 ≤ 64) && decide (n6 ≤ 64)) = false) := by show _ = _; rw [fits_len q H8.out.nn.isN.len H6.out.isN.len, hf]
    have Hf := Lib.hid hf
    clear hf
    have bx := below_new w2 (.cells #[Value.bool (sg q.num), Value.slice A8 n8 c8, Value.slice A6 n6 c6] 27)
    have HR8 := Lib.hid (row3_new w2 27 (.bool (sg q.num)) (.slice A8 n8 c8) (.slice A6 n6 c6))
    replace H8 := Lib.hid (H8.out.below bx)
    replace H6 := Lib.hid (H6.out.below bx)
    replace HZ := Lib.hid (HZ.out.below bx)
    replace HW := Lib.hid (below_two HW.out bx)
    clear bx HR0
    have e0 := HZ.out.c0
    have e1 := HZ.out.c1
    have e2 := HZ.out.c2
    have y0 := HR8.out.c0
    have y1 := HR8.out.c1
    have y2 := HR8.out.c2
    go_wp2_with fail
    clear y0 y1 y2 e0 e1 e2
    generalize w2.alloc (.cells #[Value.bool (sg q.num), Value.slice A8 n8 c8, Value.slice A6 n6 c6] 27) = w3 at *
    obtain ⟨q8, eg⟩ : ∃ g, g = w2.heap.size := ⟨_, rfl⟩
    rw [← eg] at HR8 ⊢
    clear eg
    refine (rFits_c (sg q.num) A8 A6 n8 c8 n6 c6 _ false HK.out).mono ?_
    rintro e w4 ⟨rfl, bn⟩
    replace H8 := Lib.hid (H8.out.below bn)
    replace H6 := Lib.hid (H6.out.below bn)
    replace HZ := Lib.hid (HZ.out.below bn)
    replace HR8 := Lib.hid (HR8.out.below bn)
    replace HW := Lib.hid (below_two HW.out bn)
    clear bn
    have e0 := HZ.out.c0
    have e1 := HZ.out.c1
    have e2 := HZ.out.c2
    have f0 := HZ.out.free 0
    have f1 := HZ.out.free 1
    have f2 := HZ.out.free 2
    have HF := Lib.hid (HZ.out.fill (.bool false) (.slice none 0 0) (.slice none 0 0))
    have HB := Lib.hid (below_fill3' HW.out Hq.out (.bool false) (.slice none 0 0) (.slice none 0 0))
    go_wp2
    refine bodyPost_ret (results_mixed rfl _ _ _ 27 #[.bool false, .slice none 0 0, .slice none 0 0] (0, 0) _ (.int .i64 2) rfl rfl HF.out Tryz.underlying27 rfl rat_size) rfl ?_
    exact ⟨none, 0, 0, none, 0, 0, rfl, qt_none _ 0 0, HB.out⟩
end
end Go.Proofs.YtjikaojffgjndaaGreatDoor

/- What package rat's Cmp, Sign, Neg, Same and Whole answer, as contracts over memory. Conditions: sizes of at most so many limbs. -/
namespace Go.Proofs.YtjikaojffgjndaaGreatDoor
open Go.RowKit Limb
set_option linter.unusedVariables false
section
variable {w : World} {s s' : Bool} {A B A' B' : Option Addr} {n c m d n' c' m' d' : Nat} {xs ys xs' ys' : List Nat} {x y : Int} {o o' : Option Rat} {a b L L' : Nat}
set_option maxHeartbeats 4000000 in
set_option maxRecDepth 100000 in
theorem rCmp_c (hx : QQ w s A n c xs B m d ys o L) (hx' : QQ w s' A' n' c' xs' B' m' d' ys' o' L') (h1 : L ≤ 1000) (h2 : L' ≤ 1000) (v : Int) (hv : cmpR o o' = v) :
 Calls Tryz.prog 33 #[.agg #[.bool s, .slice A n c, .slice B m d], .agg #[.bool s', .slice A' n' c', .slice B' m' d']] w fun e w' => e = .returned (.int .i64 v) ∧ Below w.heap.size w w' := by
 cases o with
 | none =>
  obtain rfl : v = 0 := hv.symm
  clear hv
  have b0 := below_new w (.cells #[Value.bool s, Value.slice A n c, Value.slice B m d] 27)
  have b1 := below_new (w.alloc (.cells #[Value.bool s, Value.slice A n c, Value.slice B m d] 27)) (.cells #[Value.bool s', Value.slice A' n' c', Value.slice B' m' d'] 27)
  have HW := Lib.hid (below_two b0 b1)
  have HQ0 := Lib.hid (hx.below HW.out)
  have HQ1 := Lib.hid (hx'.below HW.out)
  have r0 := ((row3_new w 27 (.bool s) (.slice A n c) (.slice B m d)).below b1)
  have r1 := (row3_new (w.alloc (.cells #[Value.bool s, Value.slice A n c, Value.slice B m d] 27)) 27 (.bool s') (.slice A' n' c') (.slice B' m' d'))
  simp only [World.size_alloc] at r1
  clear b0 b1 hx hx'
  go_enter Tryz.func33, Tryz.ntmps33
  go_wp2_with fail
  generalize (w.alloc (.cells #[Value.bool s, Value.slice A n c, Value.slice B m d] 27)).alloc (.cells #[Value.bool s', Value.slice A' n' c', Value.slice B' m' d'] 27) = w1 at *
  have HR0 := Lib.hid r0
  have HR1 := Lib.hid r1
  clear r0 r1
  refine (rGood_c HQ0.out (by omega) false rfl).mono ?_
  rintro e w2 ⟨rfl, bn⟩
  replace HQ0 := Lib.hid (HQ0.out.below bn)
  replace HR0 := Lib.hid (HR0.out.below bn)
  replace HQ1 := Lib.hid (HQ1.out.below bn)
  replace HR1 := Lib.hid (HR1.out.below bn)
  replace HW := Lib.hid (below_two HW.out bn)
  clear bn
  go_wp2
  go_ret
  exact ⟨rfl, HW.out⟩
 | some p =>
  cases o' with
  | none =>
   obtain rfl : v = 0 := hv.symm
   clear hv
   have b0 := below_new w (.cells #[Value.bool s, Value.slice A n c, Value.slice B m d] 27)
   have b1 := below_new (w.alloc (.cells #[Value.bool s, Value.slice A n c, Value.slice B m d] 27)) (.cells #[Value.bool s', Value.slice A' n' c', Value.slice B' m' d'] 27)
   have HW := Lib.hid (below_two b0 b1)
   have HQ0 := Lib.hid (hx.below HW.out)
   have HQ1 := Lib.hid (hx'.below HW.out)
   have r0 := ((row3_new w 27 (.bool s) (.slice A n c) (.slice B m d)).below b1)
   have r1 := (row3_new (w.alloc (.cells #[Value.bool s, Value.slice A n c, Value.slice B m d] 27)) 27 (.bool s') (.slice A' n' c') (.slice B' m' d'))
   simp only [World.size_alloc] at r1
   clear b0 b1 hx hx'
   go_enter Tryz.func33, Tryz.ntmps33
   go_wp2_with fail
   generalize (w.alloc (.cells #[Value.bool s, Value.slice A n c, Value.slice B m d] 27)).alloc (.cells #[Value.bool s', Value.slice A' n' c', Value.slice B' m' d'] 27) = w1 at *
   have HR0 := Lib.hid r0
   have HR1 := Lib.hid r1
   clear r0 r1
   refine (rGood_c HQ0.out (by omega) true rfl).mono ?_
   rintro e w2 ⟨rfl, bn⟩
   replace HQ0 := Lib.hid (HQ0.out.below bn)
   replace HR0 := Lib.hid (HR0.out.below bn)
   replace HQ1 := Lib.hid (HQ1.out.below bn)
   replace HR1 := Lib.hid (HR1.out.below bn)
   replace HW := Lib.hid (below_two HW.out bn)
   clear bn
   have c10 := HR1.out.c0
   have c11 := HR1.out.c1
   have c12 := HR1.out.c2
   go_wp2_with fail
   clear c10 c11 c12
   refine (rGood_c HQ1.out (by omega) false rfl).mono ?_
   rintro e w2 ⟨rfl, bn⟩
   replace HQ0 := Lib.hid (HQ0.out.below bn)
   replace HR0 := Lib.hid (HR0.out.below bn)
   replace HQ1 := Lib.hid (HQ1.out.below bn)
   replace HR1 := Lib.hid (HR1.out.below bn)
   replace HW := Lib.hid (below_two HW.out bn)
   clear bn
   go_wp2
   go_ret
   exact ⟨rfl, HW.out⟩
  | some q =>
   have HV : RowKit.Hid (cmpZ (p.num * (q.den : Int)) (q.num * (p.den : Int)) = v) := hv
   clear hv
   have b0 := below_new w (.cells #[Value.bool s, Value.slice A n c, Value.slice B m d] 27)
   have b1 := below_new (w.alloc (.cells #[Value.bool s, Value.slice A n c, Value.slice B m d] 27)) (.cells #[Value.bool s', Value.slice A' n' c', Value.slice B' m' d'] 27)
   have HW := Lib.hid (below_two b0 b1)
   have HQ0 := Lib.hid (hx.below HW.out)
   have HQ1 := Lib.hid (hx'.below HW.out)
   have r0 := ((row3_new w 27 (.bool s) (.slice A n c) (.slice B m d)).below b1)
   have r1 := (row3_new (w.alloc (.cells #[Value.bool s, Value.slice A n c, Value.slice B m d] 27)) 27 (.bool s') (.slice A' n' c') (.slice B' m' d'))
   simp only [World.size_alloc] at r1
   clear b0 b1 hx hx'
   go_enter Tryz.func33, Tryz.ntmps33
   go_wp2_with fail
   generalize (w.alloc (.cells #[Value.bool s, Value.slice A n c, Value.slice B m d] 27)).alloc (.cells #[Value.bool s', Value.slice A' n' c', Value.slice B' m' d'] 27) = w1 at *
   have HR0 := Lib.hid r0
   have HR1 := Lib.hid r1
   clear r0 r1
   refine (rGood_c HQ0.out (by omega) true rfl).mono ?_
   rintro e w2 ⟨rfl, bn⟩
   replace HQ0 := Lib.hid (HQ0.out.below bn)
   replace HR0 := Lib.hid (HR0.out.below bn)
   replace HQ1 := Lib.hid (HQ1.out.below bn)
   replace HR1 := Lib.hid (HR1.out.below bn)
   replace HW := Lib.hid (below_two HW.out bn)
   clear bn
   have c10 := HR1.out.c0
   have c11 := HR1.out.c1
   have c12 := HR1.out.c2
   go_wp2_with fail
   clear c10 c11 c12
   refine (rGood_c HQ1.out (by omega) true rfl).mono ?_
   rintro e wS ⟨rfl, bn⟩
   replace HQ0 := Lib.hid (HQ0.out.below bn)
   replace HR0 := Lib.hid (HR0.out.below bn)
   replace HQ1 := Lib.hid (HQ1.out.below bn)
   replace HR1 := Lib.hid (HR1.out.below bn)
   replace HW := Lib.hid (below_two HW.out bn)
   clear bn
   have HX := Lib.hid HQ0.out.some.2.2.2.2.1
   have HY := Lib.hid HQ0.out.some.2.2.2.2.2.1
   have HX1 := Lib.hid HQ1.out.some.2.2.2.2.1
   have HY1 := Lib.hid HQ1.out.some.2.2.2.2.2.1
   go_wp2_with fail
   refine region_free 7 1 [13, 14, 15, 16, 17, 18, 19] ?aF10 (fun wx => Below wS.heap.size wS wx) (fun k vv wx => match k with
    | 0 => vv = .agg #[.bool s, .slice A n c, .slice B m d]
    | 1 => vv = .agg #[.bool s', .slice A' n' c', .slice B' m' d']
    | 2 => ∃ (e0 : Option Addr) (e1 : Nat) (e2 : Nat), vv = .agg #[.bool (sg (p.num * (q.den : Int))), .slice e0 e1 e2] ∧ ZZ wx (sg (p.num * (q.den : Int))) e0 e1 e2 (limbs (p.num * (q.den : Int)).natAbs) (p.num * (q.den : Int)) 128
    | 3 => vv = .agg #[.bool s', .slice A' n' c', .slice B' m' d']
    | 4 => vv = .agg #[.bool s, .slice A n c, .slice B m d]
    | 5 => ∃ (e0 : Option Addr) (e1 : Nat) (e2 : Nat), vv = .agg #[.bool (sg (q.num * (p.den : Int))), .slice e0 e1 e2] ∧ ZZ wx (sg (q.num * (p.den : Int))) e0 e1 e2 (limbs (q.num * (p.den : Int)).natAbs) (q.num * (p.den : Int)) 128
    | _ => vv = .int .i64 v)
    (fun k => false) (by kernel_rfl) ?haF10 rfl (by kernel_rfl) (by kernel_rfl) (fun _ _ _ _ _ h => h) ?hSb10 ?hPb10 ?hS10 ?hop10 ?hfin10
   case haF10 =>
    intro vals
    simp only [fillAll, List.getElem?_cons_zero, List.getElem?_cons_succ, Act.put, List.setIfInBounds_toArray, List.set_cons_zero, List.set_cons_succ]
    exact rfl
   case hSb10 => exact fun wx w2 hb hS => below_two hS hb
   case hPb10 =>
    intro k v wa wb hb h
    match k, h with
    | 0, h => exact h
    | 1, h => exact h
    | 2, ⟨e0, e1, e2, h1, g0⟩ => exact ⟨e0, e1, e2, h1, g0.below hb⟩
    | 3, h => exact h
    | 4, h => exact h
    | 5, ⟨e0, e1, e2, h1, g0⟩ => exact ⟨e0, e1, e2, h1, g0.below hb⟩
    | _ + 6, h => exact h
   case hS10 => exact (Below.refl _ _).drew
   case hop10 =>
    refine .cons (k := 0) ?_ (.cons (k := 1) ?_ (.cons (k := 2) ?_ (.cons (k := 3) ?_ (.cons (k := 4) ?_ (.cons (k := 5) ?_ (.cons (k := 6) ?_ (.nil)))))))
    all_goals intro vals wr hS hd KC hK
    all_goals (show Oper.wp _ _ _ _ _ _; dsimp only)
    · have z0 := (HR0.out.below hS).c0
      have z1 := (HR0.out.below hS).c1
      have z2 := (HR0.out.below hS).c2
      go_simp
      refine hK _ _ rfl (Below.refl _ _) (by first | rfl | simp) (fun h => by cases h)
    · have z0 := (HR1.out.below hS).c0
      have z1 := (HR1.out.below hS).c1
      have z2 := (HR1.out.below hS).c2
      go_simp
      refine hK _ _ rfl (Below.refl _ _) (by first | rfl | simp) (fun h => by cases h)
    · have d0 : vals 0 = _ := hd 0 (by decide +kernel)
      have d1 : vals 1 = _ := hd 1 (by decide +kernel)
      rw [d0, d1]
      go_simp
      go_at_call 77
      with_reducible refine (rCross_c (HX.out.below hS) (HY1.out.below hS) (by decide) (by decide) (p.num * (q.den : Int)) rfl).mono ?_
      rintro e w2 ⟨r0, r1, r2, rfl, f0, bn_r⟩
      refine hK _ _ rfl bn_r ⟨_, _, _, rfl, f0⟩ (fun h => by cases h)
    · have z0 := (HR1.out.below hS).c0
      have z1 := (HR1.out.below hS).c1
      have z2 := (HR1.out.below hS).c2
      go_simp
      refine hK _ _ rfl (Below.refl _ _) (by first | rfl | simp) (fun h => by cases h)
    · have z0 := (HR0.out.below hS).c0
      have z1 := (HR0.out.below hS).c1
      have z2 := (HR0.out.below hS).c2
      go_simp
      refine hK _ _ rfl (Below.refl _ _) (by first | rfl | simp) (fun h => by cases h)
    · have d3 : vals 3 = _ := hd 3 (by decide +kernel)
      have d4 : vals 4 = _ := hd 4 (by decide +kernel)
      rw [d3, d4]
      go_simp
      go_at_call 77
      with_reducible refine (rCross_c (HX1.out.below hS) (HY.out.below hS) (by decide) (by decide) (q.num * (p.den : Int)) rfl).mono ?_
      rintro e w2 ⟨r0, r1, r2, rfl, f0, bn_r⟩
      refine hK _ _ rfl bn_r ⟨_, _, _, rfl, f0⟩ (fun h => by cases h)
    · obtain ⟨A_2_0, n_2_1, n_2_2, d2, h_2_0⟩ := hd 2 (by decide +kernel)
      obtain ⟨A_5_0, n_5_1, n_5_2, d5, h_5_0⟩ := hd 5 (by decide +kernel)
      rw [d2, d5]
      go_simp
      go_at_call 89
      with_reducible refine (wCmp_c h_2_0 h_5_0 (by decide) (by decide) v HV.out).mono ?_
      rintro e w2 ⟨rfl, bn_r⟩
      refine hK _ _ rfl bn_r rfl (fun h => by cases h)
   case hfin10 =>
    intro vals wr hS hP hne
    have ez_6 : vals 6 = _ := hP 6 (by decide)
    have HB := Lib.hid (below_two HW.out hS)
    try dsimp only
    rw [ez_6]
    refine wpAny_ready (rs := [7]) (by kernel_rfl) (by simp) (AllReady.cons rfl (fun KC hK => ?_) AllReady.nil)
    go_simp
    refine hK _ _ ?_
    clear hK KC
    refine wpAny_done (by kernel_rfl) ?_ _
    go_wp2
    go_ret
    exact ⟨rfl, HB.out⟩
set_option maxHeartbeats 4000000 in
set_option maxRecDepth 100000 in
theorem rSign_c (hx : QQ w s A n c xs B m d ys o L) (h1 : L ≤ 1000) (v : Int) (hv : cmpR o (some 0) = v) :
 Calls Tryz.prog 34 #[.agg #[.bool s, .slice A n c, .slice B m d]] w fun e w' => e = .returned (.int .i64 v) ∧ Below w.heap.size w w' := by
 cases o with
 | none =>
  obtain rfl : v = 0 := hv.symm
  clear hv
  have b0 := below_new w (.cells #[Value.bool s, Value.slice A n c, Value.slice B m d] 27)
  have HW := Lib.hid b0
  have HQ0 := Lib.hid (hx.below HW.out)
  have r0 := ((row3_new w 27 (.bool s) (.slice A n c) (.slice B m d)))
  clear b0 hx
  go_enter Tryz.func34, Tryz.ntmps34
  go_wp2_with fail
  generalize w.alloc (.cells #[Value.bool s, Value.slice A n c, Value.slice B m d] 27) = w1 at *
  have HR0 := Lib.hid r0
  clear r0
  refine (rGood_c HQ0.out (by omega) false rfl).mono ?_
  rintro e w2 ⟨rfl, bn⟩
  replace HQ0 := Lib.hid (HQ0.out.below bn)
  replace HR0 := Lib.hid (HR0.out.below bn)
  replace HW := Lib.hid (below_two HW.out bn)
  clear bn
  go_wp2
  go_ret
  exact ⟨rfl, HW.out⟩
 | some p =>
  have HV : RowKit.Hid (cmpZ p.num 0 = v) := by
   show _ = _
   rw [← cmpQ_top]; exact hv
  clear hv
  have b0 := below_new w (.cells #[Value.bool s, Value.slice A n c, Value.slice B m d] 27)
  have HW := Lib.hid b0
  have HQ0 := Lib.hid (hx.below HW.out)
  have r0 := ((row3_new w 27 (.bool s) (.slice A n c) (.slice B m d)))
  clear b0 hx
  go_enter Tryz.func34, Tryz.ntmps34
  go_wp2_with fail
  generalize w.alloc (.cells #[Value.bool s, Value.slice A n c, Value.slice B m d] 27) = w1 at *
  have HR0 := Lib.hid r0
  clear r0
  refine (rGood_c HQ0.out (by omega) true rfl).mono ?_
  rintro e wS ⟨rfl, bn⟩
  replace HQ0 := Lib.hid (HQ0.out.below bn)
  replace HR0 := Lib.hid (HR0.out.below bn)
  replace HW := Lib.hid (below_two HW.out bn)
  clear bn
  have HX := Lib.hid HQ0.out.some.2.2.2.2.1
  have HY := Lib.hid HQ0.out.some.2.2.2.2.2.1
  have Hf := Lib.hid HQ0.out.some.2.2.2.1
  have c00 := HR0.out.c0
  have c01 := HR0.out.c1
  have c02 := HR0.out.c2
  go_wp2_with fail
  clear c00 c01 c02
  refine (wCmp_c HX.out (zz_none _) (by decide) (by decide) v HV.out).mono ?_
  rintro e w3 ⟨rfl, bn⟩
  replace HW := Lib.hid (below_two HW.out bn)
  clear bn
  go_wp2
  go_ret
  exact ⟨rfl, HW.out⟩
set_option maxHeartbeats 4000000 in
set_option maxRecDepth 100000 in
theorem rNeg_c (hx : QQ w s A n c xs B m d ys o L) (h1 : L ≤ 1000) :
 Calls Tryz.prog 36 #[.agg #[.bool s, .slice A n c, .slice B m d]] w fun e w' => ∃ A2 n2 c2 B2 m2 d2, e = .returned (.agg #[.bool (sg (oTop (o.map fun q => -q))), .slice A2 n2 c2, .slice B2 m2 d2]) ∧ QT w' A2 n2 c2 B2 m2 d2 (o.map fun q => -q) ∧ Below w.heap.size w w' := by
 cases o with
 | none =>
  have b0 := below_new w (.cells #[Value.bool s, Value.slice A n c, Value.slice B m d] 27)
  have b2 := below_new (w.alloc (.cells #[Value.bool s, Value.slice A n c, Value.slice B m d] 27)) (.cells #[Value.bool false, Value.slice none 0 0, Value.slice none 0 0] 27)
  have HW := Lib.hid (below_two b0 b2)
  have HQ0 := Lib.hid (hx.below HW.out)
  have r0 := ((row3_new w 27 (.bool s) (.slice A n c) (.slice B m d))).below b2
  have rz := row3_new (w.alloc (.cells #[Value.bool s, Value.slice A n c, Value.slice B m d] 27)) 27 (.bool false) (.slice none 0 0) (.slice none 0 0)
  simp only [World.size_alloc] at rz
  clear b0 b2 hx
  go_enter Tryz.func36, Tryz.ntmps36
  go_wp2_with fail
  generalize (w.alloc (.cells #[Value.bool s, Value.slice A n c, Value.slice B m d] 27)).alloc (.cells #[Value.bool false, Value.slice none 0 0, Value.slice none 0 0] 27) = w1 at *
  have HR0 := Lib.hid r0
  have HZ := Lib.hid rz
  have Hq : RowKit.Hid (w.heap.size ≤ w.heap.size + 1) := by show _ ≤ _; omega
  clear r0 rz
  refine (rGood_c HQ0.out (by omega) false rfl).mono ?_
  rintro e w2 ⟨rfl, bn⟩
  replace HQ0 := Lib.hid (HQ0.out.below bn)
  replace HR0 := Lib.hid (HR0.out.below bn)
  replace HZ := Lib.hid (HZ.out.below bn)
  replace HW := Lib.hid (below_two HW.out bn)
  clear bn
  have e0 := HZ.out.c0
  have e1 := HZ.out.c1
  have e2 := HZ.out.c2
  have f0 := HZ.out.free 0
  have f1 := HZ.out.free 1
  have f2 := HZ.out.free 2
  have HF := Lib.hid (HZ.out.fill (.bool false) (.slice none 0 0) (.slice none 0 0))
  have HB := Lib.hid (below_fill3' HW.out Hq.out (.bool false) (.slice none 0 0) (.slice none 0 0))
  go_wp2
  refine bodyPost_ret (results_cell_row rfl _ _ _ 27 #[.bool false, .slice none 0 0, .slice none 0 0] (0, 0) _ rfl HF.out Tryz.underlying27 rfl rat_size) rfl ?_
  exact ⟨none, 0, 0, none, 0, 0, rfl, qt_none _ 0 0, HB.out⟩
 | some p =>
  have b0 := below_new w (.cells #[Value.bool s, Value.slice A n c, Value.slice B m d] 27)
  have b2 := below_new (w.alloc (.cells #[Value.bool s, Value.slice A n c, Value.slice B m d] 27)) (.cells #[Value.bool false, Value.slice none 0 0, Value.slice none 0 0] 27)
  have HW := Lib.hid (below_two b0 b2)
  have HQ0 := Lib.hid (hx.below HW.out)
  have r0 := ((row3_new w 27 (.bool s) (.slice A n c) (.slice B m d))).below b2
  have rz := row3_new (w.alloc (.cells #[Value.bool s, Value.slice A n c, Value.slice B m d] 27)) 27 (.bool false) (.slice none 0 0) (.slice none 0 0)
  simp only [World.size_alloc] at rz
  clear b0 b2 hx
  go_enter Tryz.func36, Tryz.ntmps36
  go_wp2_with fail
  generalize (w.alloc (.cells #[Value.bool s, Value.slice A n c, Value.slice B m d] 27)).alloc (.cells #[Value.bool false, Value.slice none 0 0, Value.slice none 0 0] 27) = w1 at *
  have HR0 := Lib.hid r0
  have HZ := Lib.hid rz
  have Hq : RowKit.Hid (w.heap.size ≤ w.heap.size + 1) := by show _ ≤ _; omega
  clear r0 rz
  refine (rGood_c HQ0.out (by omega) true rfl).mono ?_
  rintro e wS ⟨rfl, bn⟩
  replace HQ0 := Lib.hid (HQ0.out.below bn)
  replace HR0 := Lib.hid (HR0.out.below bn)
  replace HZ := Lib.hid (HZ.out.below bn)
  replace HW := Lib.hid (below_two HW.out bn)
  clear bn
  have HX := Lib.hid HQ0.out.some.2.2.2.2.1
  have HY := Lib.hid HQ0.out.some.2.2.2.2.2.1
  have Hf := Lib.hid HQ0.out.some.2.2.2.1
  have HYL : RowKit.Hid (NN wS B m d (limbs (-p).den) (-p).den 64) := by
   show NN _ _ _ _ _ _ _
   have e1 := HQ0.out.some.2.2.1
   have e2 := HY.out
   rw [e1] at e2
   exact e2
  go_wp2_with fail
  refine region_free 7 1 [7, 8, 9, 10, 11, 12, 13] ?aF11 (fun wx => Below wS.heap.size wS wx) (fun k vv wx => match k with
   | 0 => vv = .pointer (some ⟨w.heap.size, 0, none⟩)
   | 1 => vv = .agg #[.bool s, .slice A n c]
   | 2 => ∃ (e0 : Option Addr) (e1 : Nat) (e2 : Nat), vv = .agg #[.bool (sg (-p).num), .slice e0 e1 e2] ∧ ZZ wx (sg (-p).num) e0 e1 e2 (limbs (-p).num.natAbs) (-p).num 64
   | 3 => vv = .pointer (some ⟨w.heap.size, 2, none⟩)
   | 4 => vv = .slice B m d
   | 5 => ∃ (e0 : Option Addr) (e1 : Nat) (e2 : Nat), vv = .slice e0 e1 e2 ∧ NN wx e0 e1 e2 (limbs (-p).den) (-p).den 64
   | _ => ∃ (e0 : Option Addr) (e1 : Nat) (e2 : Nat) (e3 : Option Addr) (e4 : Nat) (e5 : Nat), vv = .agg #[.bool (sg (-p).num), .slice e0 e1 e2, .slice e3 e4 e5] ∧ ZZ wx (sg (-p).num) e0 e1 e2 (limbs (-p).num.natAbs) (-p).num 64 ∧ NN wx e3 e4 e5 (limbs (-p).den) (-p).den 64)
   (fun k => false) (by kernel_rfl) ?haF11 rfl (by kernel_rfl) (by kernel_rfl) (fun _ _ _ _ _ h => h) ?hSb11 ?hPb11 ?hS11 ?hop11 ?hfin11
  case haF11 =>
   intro vals
   simp only [fillAll, List.getElem?_cons_zero, List.getElem?_cons_succ, Act.put, List.setIfInBounds_toArray, List.set_cons_zero, List.set_cons_succ]
   exact rfl
  case hSb11 => exact fun wx w2 hb hS => below_two hS hb
  case hPb11 =>
   intro k v wa wb hb h
   match k, h with
   | 0, h => exact h
   | 1, h => exact h
   | 2, ⟨e0, e1, e2, h1, g0⟩ => exact ⟨e0, e1, e2, h1, g0.below hb⟩
   | 3, h => exact h
   | 4, h => exact h
   | 5, ⟨e0, e1, e2, h1, g0⟩ => exact ⟨e0, e1, e2, h1, g0.below hb⟩
   | _ + 6, ⟨e0, e1, e2, e3, e4, e5, h1, g0, g1⟩ => exact ⟨e0, e1, e2, e3, e4, e5, h1, g0.below hb, g1.below hb⟩
  case hS11 => exact (Below.refl _ _).drew
  case hop11 =>
   refine .cons (k := 0) ?_ (.cons (k := 1) ?_ (.cons (k := 2) ?_ (.cons (k := 3) ?_ (.cons (k := 4) ?_ (.cons (k := 5) ?_ (.cons (k := 6) ?_ (.nil)))))))
   all_goals intro vals wr hS hd KC hK
   all_goals (show Oper.wp _ _ _ _ _ _; dsimp only)
   · go_simp
     refine hK _ _ rfl (Below.refl _ _) (by first | rfl | simp) (fun h => by cases h)
   · have d0 : vals 0 = _ := hd 0 (by decide +kernel)
     rw [d0]
     have z0 := (HR0.out.below hS).c0
     have z1 := (HR0.out.below hS).c1
     go_simp
     refine hK _ _ rfl (Below.refl _ _) (by first | rfl | simp) (fun h => by cases h)
   · have d1 : vals 1 = _ := hd 1 (by decide +kernel)
     rw [d1]
     go_simp
     go_at_call 78
     with_reducible refine (wNeg_c (HX.out.below hS) (by decide) (-p).num rfl).mono ?_
     rintro e w2 ⟨r0, r1, r2, rfl, f0, bn_r⟩
     refine hK _ _ rfl bn_r ⟨_, _, _, rfl, f0⟩ (fun h => by cases h)
   · go_simp
     refine hK _ _ rfl (Below.refl _ _) (by first | rfl | simp) (fun h => by cases h)
   · have d3 : vals 3 = _ := hd 3 (by decide +kernel)
     rw [d3]
     have z0 := (HR0.out.below hS).c2
     go_simp
     refine hK _ _ rfl (Below.refl _ _) (by first | rfl | simp) (fun h => by cases h)
   · have d4 : vals 4 = _ := hd 4 (by decide +kernel)
     rw [d4]
     go_simp
     go_at_call 90
     with_reducible refine (rClone_c (HYL.out.below hS) (by decide)).mono ?_
     rintro e w2 ⟨r0, r1, r2, rfl, f0, bn_r⟩
     refine hK _ _ rfl bn_r ⟨_, _, _, rfl, f0⟩ (fun h => by cases h)
   · obtain ⟨A_2_0, n_2_1, n_2_2, d2, h_2_0⟩ := hd 2 (by decide +kernel)
     obtain ⟨A_5_0, n_5_1, n_5_2, d5, h_5_0⟩ := hd 5 (by decide +kernel)
     rw [d2, d5]
     go_simp
     refine hK _ _ rfl (Below.refl _ _) ⟨_, _, _, _, _, _, rfl, h_2_0, h_5_0⟩ (fun h => by cases h)
  case hfin11 =>
   intro vals wr hS hP hne
   obtain ⟨y0, y1, y2, y3, y4, y5, ez, h3_0, h3_1⟩ := hP 6 (by decide)
   have hZ3 := HZ.out.below hS
   have hNo := hZ3.noLimb (by intro v e; cases e) (by intro v e; cases e) (by intro v e; cases e)
   have e0 := hZ3.c0
   have e1 := hZ3.c1
   have e2 := hZ3.c2
   have f0 := hZ3.free 0
   have f1 := hZ3.free 1
   have f2 := hZ3.free 2
   have HF := Lib.hid (hZ3.fill (.bool (sg (-p).num)) (.slice y0 y1 y2) (.slice y3 y4 y5))
   have HP1 := Lib.hid (h3_0.fillR3 hNo (.bool (sg (-p).num)) (.slice y0 y1 y2) (.slice y3 y4 y5))
   have HP2 := Lib.hid (h3_1.fillR3 hNo (.bool (sg (-p).num)) (.slice y0 y1 y2) (.slice y3 y4 y5))
   have HB := Lib.hid (below_fill3' (below_two HW.out hS) Hq.out (.bool (sg (-p).num)) (.slice y0 y1 y2) (.slice y3 y4 y5))
   try dsimp only
   rw [ez]
   refine wpAny_ready (rs := [7]) (by kernel_rfl) (by simp) (AllReady.cons rfl (fun KC hK => ?_) AllReady.nil)
   go_simp
   refine hK _ _ ?_
   clear hK KC
   refine wpAny_done (by kernel_rfl) ?_ _
   go_wp2
   refine bodyPost_ret (results_cell_row rfl _ _ _ 27 #[.bool (sg (-p).num), .slice y0 y1 y2, .slice y3 y4 y5] (0, 0) _ rfl HF.out Tryz.underlying27 rfl rat_size) rfl ?_
   exact ⟨y0, y1, y2, y3, y4, y5, rfl, qt_some (q := -p) HP1.out HP2.out (neg_fits Hf.out), HB.out⟩
end
set_option maxHeartbeats 4000000 in
set_option maxRecDepth 100000 in
theorem rWhole_c (v : Int) (h0 : -9223372036854775808 ≤ v) (h1 : v ≤ 9223372036854775807) (w : World) :
 Calls Tryz.prog 38 #[.int .i64 v] w fun e w' => ∃ A2 n2 c2 B2 m2 d2, e = .returned (.agg #[.bool (sg (oTop (some (v : Rat)))), .slice A2 n2 c2, .slice B2 m2 d2]) ∧ QT w' A2 n2 c2 B2 m2 d2 (some (v : Rat)) ∧ Below w.heap.size w w' := by
 have HW := Lib.hid (below_new w (.cells #[Value.bool false, Value.slice none 0 0, Value.slice none 0 0] 27))
 have HZ := Lib.hid (row3_new w 27 (.bool false) (.slice none 0 0) (.slice none 0 0))
 go_enter Tryz.func38, Tryz.ntmps38
 go_wp2_with fail
 refine (wOf_c v h0 h1 _).mono ?_
 rintro e w2 ⟨A2, n2, c2, rfl, h2, bn⟩
 have H2 := Lib.hid h2
 replace HZ := Lib.hid (HZ.out.below bn)
 replace HW := Lib.hid (below_two HW.out bn)
 clear h2 bn
 go_wp2_with fail
 refine (of_c 1 1 rfl (by decide) _).mono ?_
 rintro e w3 ⟨A4, n4, c4, rfl, h4, bn⟩
 replace H2 := Lib.hid (H2.out.below bn)
 replace HZ := Lib.hid (HZ.out.below bn)
 replace HW := Lib.hid (below_two HW.out bn)
 have HL := Lib.hid h4
 clear h4 bn
 have hNo := HZ.out.noLimb (by intro v e; cases e) (by intro v e; cases e) (by intro v e; cases e)
 have e0 := HZ.out.c0
 have e1 := HZ.out.c1
 have e2 := HZ.out.c2
 have f0 := HZ.out.free 0
 have f1 := HZ.out.free 1
 have f2 := HZ.out.free 2
 have HF := Lib.hid (HZ.out.fill (.bool (sg v)) (.slice A2 n2 c2) (.slice A4 n4 c4))
 have HP1 := Lib.hid (H2.out.fillR3 hNo (.bool (sg v)) (.slice A2 n2 c2) (.slice A4 n4 c4))
 have HP2 := Lib.hid (HL.out.fillR3 hNo (.bool (sg v)) (.slice A2 n2 c2) (.slice A4 n4 c4))
 have HB := Lib.hid (below_fill3' HW.out (Nat.le_refl _) (.bool (sg v)) (.slice A2 n2 c2) (.slice A4 n4 c4))
 clear hNo H2 HL
 go_wp2
 refine bodyPost_ret (results_cell_row rfl _ _ w.heap.size 27 #[.bool (sg v), .slice A2 n2 c2, .slice A4 n4 c4] (0, 0) _ rfl HF.out Tryz.underlying27 rfl rat_size) rfl ?_
 exact ⟨A2, n2, c2, _, _, _, rfl, qt_some (q := (v : Rat)) HP1.out HP2.out (whole_fits h0 h1), HB.out⟩
end Go.Proofs.YtjikaojffgjndaaGreatDoor

/- What the statements' helper By of layer 7 answers, as a contract over memory. Conditions: two numbers of a machine whose quotient has room. -/
namespace Go.Proofs.YtjikaojffgjndaaGreatDoor
open Go.RowKit Limb
set_option linter.unusedVariables false
theorem refQWhole_is (v : Int) (h0 : -9223372036854775808 ≤ v) (h1 : v ≤ 9223372036854775807) (q : Rat) (hq : (v : Rat) = q) (w : World) : Calls Tryz.prog 70 #[.int .i64 v] w fun e w' => ∃ A2 n2 c2 B2 m2 d2, e = .returned (.agg #[.bool (sg (oTop (some q))), .slice A2 n2 c2, .slice B2 m2 d2]) ∧ QT w' A2 n2 c2 B2 m2 d2 (some q) ∧ Below w.heap.size w w' := by
 subst hq; exact refQWhole_c v h0 h1 w
theorem rWhole_is (v : Int) (h0 : -9223372036854775808 ≤ v) (h1 : v ≤ 9223372036854775807) (q : Rat) (hq : (v : Rat) = q) (w : World) : Calls Tryz.prog 38 #[.int .i64 v] w fun e w' => ∃ A2 n2 c2 B2 m2 d2, e = .returned (.agg #[.bool (sg (oTop (some q))), .slice A2 n2 c2, .slice B2 m2 d2]) ∧ QT w' A2 n2 c2 B2 m2 d2 (some q) ∧ Below w.heap.size w w' := by
 subst hq; exact rWhole_c v h0 h1 w
set_option maxHeartbeats 4000000 in
set_option maxRecDepth 100000 in
theorem by_c (a b : Int) (a0 : -9223372036854775808 ≤ a) (a1 : a ≤ 9223372036854775807) (b0 : -9223372036854775808 ≤ b) (b1 : b ≤ 9223372036854775807) (q : Rat) (hq : divR (some (a : Rat)) (some (b : Rat)) = (some q, 0)) (w : World) :
 Calls Tryz.prog 40 #[.int .i64 a, .int .i64 b] w fun e w' => ∃ A2 n2 c2 B2 m2 d2, e = .returned (.agg #[.bool (sg (oTop (some q))), .slice A2 n2 c2, .slice B2 m2 d2]) ∧ QT w' A2 n2 c2 B2 m2 d2 (some q) ∧ Below w.heap.size w w' := by
 have bw := below_new w (.cells #[Value.bool false, Value.slice none 0 0, Value.slice none 0 0] 27)
 have h_rz := row3_new w 27 (.bool false) (.slice none 0 0) (.slice none 0 0)
 obtain ⟨p, ep⟩ : ∃ p : Rat, (a : Rat) = p := ⟨_, rfl⟩
 obtain ⟨r, er⟩ : ∃ r : Rat, (b : Rat) = r := ⟨_, rfl⟩
 rw [ep, er] at hq
 have ep := Lib.hid ep
 have er := Lib.hid er
 have hq := Lib.hid hq
 have a0 := Lib.hid a0
 have a1 := Lib.hid a1
 have b0 := Lib.hid b0
 have b1 := Lib.hid b1
 go_enter Tryz.func40, Tryz.ntmps40
 go_wp2_with fail
 generalize w.alloc (.cells #[Value.bool false, Value.slice none 0 0, Value.slice none 0 0] 27) = w1 at *
 obtain ⟨q_z, eg⟩ : ∃ g, g = w.heap.size := ⟨_, rfl⟩
 have hqz : RowKit.Hid (w.heap.size ≤ q_z) := by show _ ≤ _; omega
 rw [← eg] at h_rz ⊢
 clear eg
 refine (refQWhole_is a a0.out a1.out _ ep.out _).mono ?_
 rintro e w1 ⟨A_a, n_a, c_a, B_a, m_a, d_a, rfl, h_a, bn⟩
 replace h_rz := h_rz.below bn
 replace bw := below_two bw bn
 clear bn
 go_wp2_with fail
 refine (refQWhole_is b b0.out b1.out _ er.out _).mono ?_
 rintro e w2 ⟨A_b, n_b, c_b, B_b, m_b, d_b, rfl, h_b, bn⟩
 replace h_rz := h_rz.below bn
 replace h_a := h_a.below bn
 replace bw := below_two bw bn
 clear bn
 go_wp2_with fail
 refine (refQDiv_c h_a h_b (by decide) (by decide) _ _ hq.out).mono ?_
 rintro e w3 ⟨A_g, n_g, c_g, B_g, m_g, d_g, rfl, h_g, bn⟩
 replace h_rz := h_rz.below bn
 replace h_a := h_a.below bn
 replace h_b := h_b.below bn
 replace bw := below_two bw bn
 clear bn
 have h_rgg := row4_new w3 35 (.bool (sg (oTop (some q)))) (.slice A_g n_g c_g) (.slice B_g m_g d_g) (.int .i64 0)
 have bn := below_new w3 (.cells #[Value.bool (sg (oTop (some q))), Value.slice A_g n_g c_g, Value.slice B_g m_g d_g, Value.int .i64 0] 35)
 replace h_rz := h_rz.below bn
 replace h_a := h_a.below bn
 replace h_b := h_b.below bn
 replace h_g := h_g.below bn
 replace bw := below_two bw bn
 clear bn
 have hNo := h_rz.noLimb (by intro v e; cases e) (by intro v e; cases e) (by intro v e; cases e)
 have e0 := h_rz.c0
 have f0 := h_rz.free 0
 have e1 := h_rz.c1
 have f1 := h_rz.free 1
 have e2 := h_rz.c2
 have f2 := h_rz.free 2
 have y0 := h_rgg.c0
 have y1 := h_rgg.c1
 have y2 := h_rgg.c2
 have y3 := h_rgg.c3
 have HF := Lib.hid (h_rz.fill (.bool (sg (oTop (some q)))) (.slice A_g n_g c_g) (.slice B_g m_g d_g))
 have HP := Lib.hid (QQ.fillR3 h_g hNo (.bool (sg (oTop (some q)))) (.slice A_g n_g c_g) (.slice B_g m_g d_g))
 have HB := Lib.hid (below_fill3' bw hqz.out (.bool (sg (oTop (some q)))) (.slice A_g n_g c_g) (.slice B_g m_g d_g))
 clear hNo
 go_wp2
 refine bodyPost_ret (results_cell_row rfl _ _ _ 27 #[.bool (sg (oTop (some q))), .slice A_g n_g c_g, .slice B_g m_g d_g] (0, 0) _ rfl HF.out Tryz.underlying27 rfl rat_size) rfl ?_
 exact ⟨A_g, n_g, c_g, B_g, m_g, d_g, rfl, HP.out, HB.out⟩
end Go.Proofs.YtjikaojffgjndaaGreatDoor

/- What package rat's Add, Sub and Mul answer, as contracts over memory. Conditions: sizes of at most so many limbs. -/
namespace Go.Proofs.YtjikaojffgjndaaGreatDoor
open Go.RowKit Limb
set_option linter.unusedVariables false
section
variable {w : World} {s s' : Bool} {A B A' B' : Option Addr} {n c m d n' c' m' d' : Nat} {xs ys xs' ys' : List Nat} {x y : Int} {o o' : Option Rat} {a b L L' : Nat}
set_option maxHeartbeats 4000000 in
set_option maxRecDepth 100000 in
theorem rAdd_c (hx : QQ w s A n c xs B m d ys o L) (hx' : QQ w s' A' n' c' xs' B' m' d' ys' o' L') (h1 : L ≤ 1000) (h2 : L' ≤ 1000) (r : Option Rat) (e : Int) (hR : addR o o' = (r, e)) :
 Calls Tryz.prog 35 #[.agg #[.bool s, .slice A n c, .slice B m d], .agg #[.bool s', .slice A' n' c', .slice B' m' d']] w fun ee w' => ∃ A2 n2 c2 B2 m2 d2, ee = .returned (.tuple #[.agg #[.bool (sg (oTop r)), .slice A2 n2 c2, .slice B2 m2 d2], .int .i64 e]) ∧ QT w' A2 n2 c2 B2 m2 d2 r ∧ Below w.heap.size w w' := by
 cases o with
 | none =>
  have hR2 : ((none : Option Rat), (1 : Int)) = (r, e) := hR
  cases hR2
  clear hR
  have b0 := below_new w (.cells #[Value.bool s, Value.slice A n c, Value.slice B m d] 27)
  have b1 := below_new (w.alloc (.cells #[Value.bool s, Value.slice A n c, Value.slice B m d] 27)) (.cells #[Value.bool s', Value.slice A' n' c', Value.slice B' m' d'] 27)
  have b2 := below_new ((w.alloc (.cells #[Value.bool s, Value.slice A n c, Value.slice B m d] 27)).alloc (.cells #[Value.bool s', Value.slice A' n' c', Value.slice B' m' d'] 27)) (.cells #[Value.bool false, Value.slice none 0 0, Value.slice none 0 0] 27)
  have HW := Lib.hid (below_two (below_two b0 b1) b2)
  have HQ0 := Lib.hid (hx.below HW.out)
  have HQ1 := Lib.hid (hx'.below HW.out)
  have r0 := ((row3_new w 27 (.bool s) (.slice A n c) (.slice B m d)).below b1).below b2
  have r1 := (row3_new (w.alloc (.cells #[Value.bool s, Value.slice A n c, Value.slice B m d] 27)) 27 (.bool s') (.slice A' n' c') (.slice B' m' d')).below b2
  have rz := row3_new ((w.alloc (.cells #[Value.bool s, Value.slice A n c, Value.slice B m d] 27)).alloc (.cells #[Value.bool s', Value.slice A' n' c', Value.slice B' m' d'] 27)) 27 (.bool false) (.slice none 0 0) (.slice none 0 0)
  simp only [World.size_alloc] at r1 rz
  clear b0 b1 b2 hx hx'
  go_enter Tryz.func35, Tryz.ntmps35
  go_wp2_with fail
  generalize ((w.alloc (.cells #[Value.bool s, Value.slice A n c, Value.slice B m d] 27)).alloc (.cells #[Value.bool s', Value.slice A' n' c', Value.slice B' m' d'] 27)).alloc (.cells #[Value.bool false, Value.slice none 0 0, Value.slice none 0 0] 27) = w1 at *
  have HR0 := Lib.hid r0
  have HR1 := Lib.hid r1
  have HZ := Lib.hid rz
  have Hq : RowKit.Hid (w.heap.size ≤ w.heap.size + 1 + 1) := by show _ ≤ _; omega
  clear r0 r1 rz
  refine (rGood_c HQ0.out (by omega) false rfl).mono ?_
  rintro e w2 ⟨rfl, bn⟩
  replace HQ0 := Lib.hid (HQ0.out.below bn)
  replace HR0 := Lib.hid (HR0.out.below bn)
  replace HQ1 := Lib.hid (HQ1.out.below bn)
  replace HR1 := Lib.hid (HR1.out.below bn)
  replace HZ := Lib.hid (HZ.out.below bn)
  replace HW := Lib.hid (below_two HW.out bn)
  clear bn
  have e0 := HZ.out.c0
  have e1 := HZ.out.c1
  have e2 := HZ.out.c2
  have f0 := HZ.out.free 0
  have f1 := HZ.out.free 1
  have f2 := HZ.out.free 2
  have HF := Lib.hid (HZ.out.fill (.bool false) (.slice none 0 0) (.slice none 0 0))
  have HB := Lib.hid (below_fill3' HW.out Hq.out (.bool false) (.slice none 0 0) (.slice none 0 0))
  go_wp2
  refine bodyPost_ret (results_mixed rfl _ _ _ 27 #[.bool false, .slice none 0 0, .slice none 0 0] (0, 0) _ (.int .i64 1) rfl rfl HF.out Tryz.underlying27 rfl rat_size) rfl ?_
  exact ⟨none, 0, 0, none, 0, 0, rfl, qt_none _ 0 0, HB.out⟩
 | some p =>
  cases o' with
  | none =>
   have hR2 : ((none : Option Rat), (1 : Int)) = (r, e) := hR
   cases hR2
   clear hR
   have b0 := below_new w (.cells #[Value.bool s, Value.slice A n c, Value.slice B m d] 27)
   have b1 := below_new (w.alloc (.cells #[Value.bool s, Value.slice A n c, Value.slice B m d] 27)) (.cells #[Value.bool s', Value.slice A' n' c', Value.slice B' m' d'] 27)
   have b2 := below_new ((w.alloc (.cells #[Value.bool s, Value.slice A n c, Value.slice B m d] 27)).alloc (.cells #[Value.bool s', Value.slice A' n' c', Value.slice B' m' d'] 27)) (.cells #[Value.bool false, Value.slice none 0 0, Value.slice none 0 0] 27)
   have HW := Lib.hid (below_two (below_two b0 b1) b2)
   have HQ0 := Lib.hid (hx.below HW.out)
   have HQ1 := Lib.hid (hx'.below HW.out)
   have r0 := ((row3_new w 27 (.bool s) (.slice A n c) (.slice B m d)).below b1).below b2
   have r1 := (row3_new (w.alloc (.cells #[Value.bool s, Value.slice A n c, Value.slice B m d] 27)) 27 (.bool s') (.slice A' n' c') (.slice B' m' d')).below b2
   have rz := row3_new ((w.alloc (.cells #[Value.bool s, Value.slice A n c, Value.slice B m d] 27)).alloc (.cells #[Value.bool s', Value.slice A' n' c', Value.slice B' m' d'] 27)) 27 (.bool false) (.slice none 0 0) (.slice none 0 0)
   simp only [World.size_alloc] at r1 rz
   clear b0 b1 b2 hx hx'
   go_enter Tryz.func35, Tryz.ntmps35
   go_wp2_with fail
   generalize ((w.alloc (.cells #[Value.bool s, Value.slice A n c, Value.slice B m d] 27)).alloc (.cells #[Value.bool s', Value.slice A' n' c', Value.slice B' m' d'] 27)).alloc (.cells #[Value.bool false, Value.slice none 0 0, Value.slice none 0 0] 27) = w1 at *
   have HR0 := Lib.hid r0
   have HR1 := Lib.hid r1
   have HZ := Lib.hid rz
   have Hq : RowKit.Hid (w.heap.size ≤ w.heap.size + 1 + 1) := by show _ ≤ _; omega
   clear r0 r1 rz
   refine (rGood_c HQ0.out (by omega) true rfl).mono ?_
   rintro e w2 ⟨rfl, bn⟩
   replace HQ0 := Lib.hid (HQ0.out.below bn)
   replace HR0 := Lib.hid (HR0.out.below bn)
   replace HQ1 := Lib.hid (HQ1.out.below bn)
   replace HR1 := Lib.hid (HR1.out.below bn)
   replace HZ := Lib.hid (HZ.out.below bn)
   replace HW := Lib.hid (below_two HW.out bn)
   clear bn
   have c10 := HR1.out.c0
   have c11 := HR1.out.c1
   have c12 := HR1.out.c2
   go_wp2_with fail
   clear c10 c11 c12
   refine (rGood_c HQ1.out (by omega) false rfl).mono ?_
   rintro e w2 ⟨rfl, bn⟩
   replace HQ0 := Lib.hid (HQ0.out.below bn)
   replace HR0 := Lib.hid (HR0.out.below bn)
   replace HQ1 := Lib.hid (HQ1.out.below bn)
   replace HR1 := Lib.hid (HR1.out.below bn)
   replace HZ := Lib.hid (HZ.out.below bn)
   replace HW := Lib.hid (below_two HW.out bn)
   clear bn
   have e0 := HZ.out.c0
   have e1 := HZ.out.c1
   have e2 := HZ.out.c2
   have f0 := HZ.out.free 0
   have f1 := HZ.out.free 1
   have f2 := HZ.out.free 2
   have HF := Lib.hid (HZ.out.fill (.bool false) (.slice none 0 0) (.slice none 0 0))
   have HB := Lib.hid (below_fill3' HW.out Hq.out (.bool false) (.slice none 0 0) (.slice none 0 0))
   go_wp2
   refine bodyPost_ret (results_mixed rfl _ _ _ 27 #[.bool false, .slice none 0 0, .slice none 0 0] (0, 0) _ (.int .i64 1) rfl rfl HF.out Tryz.underlying27 rfl rat_size) rfl ?_
   exact ⟨none, 0, 0, none, 0, 0, rfl, qt_none _ 0 0, HB.out⟩
  | some q =>
   have HO : RowKit.Hid (ofR (p.num * (q.den : Int) + q.num * (p.den : Int)) (p.den * q.den) = (r, e)) := by
    show _ = _
    rw [← hR]; unfold ofR; rw [if_neg (Nat.mul_ne_zero p.den_nz q.den_nz)]
    show limR _ = limR _
    rw [add_mk]
   clear hR
   have b0 := below_new w (.cells #[Value.bool s, Value.slice A n c, Value.slice B m d] 27)
   have b1 := below_new (w.alloc (.cells #[Value.bool s, Value.slice A n c, Value.slice B m d] 27)) (.cells #[Value.bool s', Value.slice A' n' c', Value.slice B' m' d'] 27)
   have b2 := below_new ((w.alloc (.cells #[Value.bool s, Value.slice A n c, Value.slice B m d] 27)).alloc (.cells #[Value.bool s', Value.slice A' n' c', Value.slice B' m' d'] 27)) (.cells #[Value.bool false, Value.slice none 0 0, Value.slice none 0 0] 27)
   have HW := Lib.hid (below_two (below_two b0 b1) b2)
   have HQ0 := Lib.hid (hx.below HW.out)
   have HQ1 := Lib.hid (hx'.below HW.out)
   have r0 := ((row3_new w 27 (.bool s) (.slice A n c) (.slice B m d)).below b1).below b2
   have r1 := (row3_new (w.alloc (.cells #[Value.bool s, Value.slice A n c, Value.slice B m d] 27)) 27 (.bool s') (.slice A' n' c') (.slice B' m' d')).below b2
   have rz := row3_new ((w.alloc (.cells #[Value.bool s, Value.slice A n c, Value.slice B m d] 27)).alloc (.cells #[Value.bool s', Value.slice A' n' c', Value.slice B' m' d'] 27)) 27 (.bool false) (.slice none 0 0) (.slice none 0 0)
   simp only [World.size_alloc] at r1 rz
   clear b0 b1 b2 hx hx'
   go_enter Tryz.func35, Tryz.ntmps35
   go_wp2_with fail
   generalize ((w.alloc (.cells #[Value.bool s, Value.slice A n c, Value.slice B m d] 27)).alloc (.cells #[Value.bool s', Value.slice A' n' c', Value.slice B' m' d'] 27)).alloc (.cells #[Value.bool false, Value.slice none 0 0, Value.slice none 0 0] 27) = w1 at *
   have HR0 := Lib.hid r0
   have HR1 := Lib.hid r1
   have HZ := Lib.hid rz
   have Hq : RowKit.Hid (w.heap.size ≤ w.heap.size + 1 + 1) := by show _ ≤ _; omega
   clear r0 r1 rz
   refine (rGood_c HQ0.out (by omega) true rfl).mono ?_
   rintro e w2 ⟨rfl, bn⟩
   replace HQ0 := Lib.hid (HQ0.out.below bn)
   replace HR0 := Lib.hid (HR0.out.below bn)
   replace HQ1 := Lib.hid (HQ1.out.below bn)
   replace HR1 := Lib.hid (HR1.out.below bn)
   replace HZ := Lib.hid (HZ.out.below bn)
   replace HW := Lib.hid (below_two HW.out bn)
   clear bn
   have c10 := HR1.out.c0
   have c11 := HR1.out.c1
   have c12 := HR1.out.c2
   go_wp2_with fail
   clear c10 c11 c12
   refine (rGood_c HQ1.out (by omega) true rfl).mono ?_
   rintro e wS ⟨rfl, bn⟩
   replace HQ0 := Lib.hid (HQ0.out.below bn)
   replace HR0 := Lib.hid (HR0.out.below bn)
   replace HQ1 := Lib.hid (HQ1.out.below bn)
   replace HR1 := Lib.hid (HR1.out.below bn)
   replace HZ := Lib.hid (HZ.out.below bn)
   replace HW := Lib.hid (below_two HW.out bn)
   clear bn
   have HX := Lib.hid HQ0.out.some.2.2.2.2.1
   have HY := Lib.hid HQ0.out.some.2.2.2.2.2.1
   have HX1 := Lib.hid HQ1.out.some.2.2.2.2.1
   have HY1 := Lib.hid HQ1.out.some.2.2.2.2.2.1
   go_wp2_with fail
   refine region_free 15 2 [15, 16, 17, 18, 19, 20, 21, 22, 23, 24, 25, 26, 27, 28, 29] ?aF6 (fun wx => Below wS.heap.size wS wx) (fun k vv wx => match k with
    | 0 => vv = .agg #[.bool s, .slice A n c, .slice B m d]
    | 1 => vv = .agg #[.bool s', .slice A' n' c', .slice B' m' d']
    | 2 => ∃ (e0 : Option Addr) (e1 : Nat) (e2 : Nat), vv = .agg #[.bool (sg (p.num * (q.den : Int))), .slice e0 e1 e2] ∧ ZZ wx (sg (p.num * (q.den : Int))) e0 e1 e2 (limbs (p.num * (q.den : Int)).natAbs) (p.num * (q.den : Int)) 128
    | 3 => vv = .agg #[.bool s', .slice A' n' c', .slice B' m' d']
    | 4 => vv = .agg #[.bool s, .slice A n c, .slice B m d]
    | 5 => ∃ (e0 : Option Addr) (e1 : Nat) (e2 : Nat), vv = .agg #[.bool (sg (q.num * (p.den : Int))), .slice e0 e1 e2] ∧ ZZ wx (sg (q.num * (p.den : Int))) e0 e1 e2 (limbs (q.num * (p.den : Int)).natAbs) (q.num * (p.den : Int)) 128
    | 6 => ∃ (e0 : Option Addr) (e1 : Nat) (e2 : Nat), vv = .agg #[.bool (sg (p.num * (q.den : Int) + q.num * (p.den : Int))), .slice e0 e1 e2] ∧ ZZ wx (sg (p.num * (q.den : Int) + q.num * (p.den : Int))) e0 e1 e2 (limbs (p.num * (q.den : Int) + q.num * (p.den : Int)).natAbs) (p.num * (q.den : Int) + q.num * (p.den : Int)) 129
    | 7 => vv = .pointer (some ⟨w.heap.size, 2, none⟩)
    | 8 => vv = .slice B m d
    | 9 => vv = .pointer (some ⟨w.heap.size + 1, 2, none⟩)
    | 10 => vv = .slice B' m' d'
    | 11 => ∃ (e0 : Option Addr) (e1 : Nat) (e2 : Nat), vv = .slice e0 e1 e2 ∧ NN wx e0 e1 e2 (limbs (p.den * q.den)) (p.den * q.den) 128
    | 12 => ∃ (e0 : Option Addr) (e1 : Nat) (e2 : Nat) (e3 : Option Addr) (e4 : Nat) (e5 : Nat), vv = .tuple #[.agg #[.bool (sg (oTop r)), .slice e0 e1 e2, .slice e3 e4 e5], .int .i64 e] ∧ QT wx e0 e1 e2 e3 e4 e5 r
    | 13 => ∃ (e0 : Option Addr) (e1 : Nat) (e2 : Nat) (e3 : Option Addr) (e4 : Nat) (e5 : Nat), vv = .agg #[.bool (sg (oTop r)), .slice e0 e1 e2, .slice e3 e4 e5] ∧ QT wx e0 e1 e2 e3 e4 e5 r
    | _ => vv = .int .i64 e)
    (fun k => false) (by kernel_rfl) ?haF6 rfl (by kernel_rfl) (by kernel_rfl) (fun _ _ _ _ _ h => h) ?hSb6 ?hPb6 ?hS6 ?hop6 ?hfin6
   case haF6 =>
    intro vals
    simp only [fillAll, List.getElem?_cons_zero, List.getElem?_cons_succ, Act.put, List.setIfInBounds_toArray, List.set_cons_zero, List.set_cons_succ]
    exact rfl
   case hSb6 => exact fun wx w2 hb hS => below_two hS hb
   case hPb6 =>
    intro k v wa wb hb h
    match k, h with
    | 0, h => exact h
    | 1, h => exact h
    | 2, ⟨e0, e1, e2, h1, g0⟩ => exact ⟨e0, e1, e2, h1, g0.below hb⟩
    | 3, h => exact h
    | 4, h => exact h
    | 5, ⟨e0, e1, e2, h1, g0⟩ => exact ⟨e0, e1, e2, h1, g0.below hb⟩
    | 6, ⟨e0, e1, e2, h1, g0⟩ => exact ⟨e0, e1, e2, h1, g0.below hb⟩
    | 7, h => exact h
    | 8, h => exact h
    | 9, h => exact h
    | 10, h => exact h
    | 11, ⟨e0, e1, e2, h1, g0⟩ => exact ⟨e0, e1, e2, h1, g0.below hb⟩
    | 12, ⟨e0, e1, e2, e3, e4, e5, h1, g0⟩ => exact ⟨e0, e1, e2, e3, e4, e5, h1, g0.below hb⟩
    | 13, ⟨e0, e1, e2, e3, e4, e5, h1, g0⟩ => exact ⟨e0, e1, e2, e3, e4, e5, h1, g0.below hb⟩
    | _ + 14, h => exact h
   case hS6 => exact (Below.refl _ _).drew
   case hop6 =>
    refine .cons (k := 0) ?_ (.cons (k := 1) ?_ (.cons (k := 2) ?_ (.cons (k := 3) ?_ (.cons (k := 4) ?_ (.cons (k := 5) ?_ (.cons (k := 6) ?_ (.cons (k := 7) ?_ (.cons (k := 8) ?_ (.cons (k := 9) ?_ (.cons (k := 10) ?_ (.cons (k := 11) ?_ (.cons (k := 12) ?_ (.cons (k := 13) ?_ (.cons (k := 14) ?_ (.nil)))))))))))))))
    all_goals intro vals wr hS hd KC hK
    all_goals (show Oper.wp _ _ _ _ _ _; dsimp only)
    · have z0 := (HR0.out.below hS).c0
      have z1 := (HR0.out.below hS).c1
      have z2 := (HR0.out.below hS).c2
      go_simp
      refine hK _ _ rfl (Below.refl _ _) (by first | rfl | simp) (fun h => by cases h)
    · have z0 := (HR1.out.below hS).c0
      have z1 := (HR1.out.below hS).c1
      have z2 := (HR1.out.below hS).c2
      go_simp
      refine hK _ _ rfl (Below.refl _ _) (by first | rfl | simp) (fun h => by cases h)
    · have d0 : vals 0 = _ := hd 0 (by decide +kernel)
      have d1 : vals 1 = _ := hd 1 (by decide +kernel)
      rw [d0, d1]
      go_simp
      go_at_call 77
      with_reducible refine (rCross_c (HX.out.below hS) (HY1.out.below hS) (by decide) (by decide) (p.num * (q.den : Int)) rfl).mono ?_
      rintro e w2 ⟨r0, r1, r2, rfl, f0, bn_r⟩
      refine hK _ _ rfl bn_r ⟨_, _, _, rfl, f0⟩ (fun h => by cases h)
    · have z0 := (HR1.out.below hS).c0
      have z1 := (HR1.out.below hS).c1
      have z2 := (HR1.out.below hS).c2
      go_simp
      refine hK _ _ rfl (Below.refl _ _) (by first | rfl | simp) (fun h => by cases h)
    · have z0 := (HR0.out.below hS).c0
      have z1 := (HR0.out.below hS).c1
      have z2 := (HR0.out.below hS).c2
      go_simp
      refine hK _ _ rfl (Below.refl _ _) (by first | rfl | simp) (fun h => by cases h)
    · have d3 : vals 3 = _ := hd 3 (by decide +kernel)
      have d4 : vals 4 = _ := hd 4 (by decide +kernel)
      rw [d3, d4]
      go_simp
      go_at_call 77
      with_reducible refine (rCross_c (HX1.out.below hS) (HY.out.below hS) (by decide) (by decide) (q.num * (p.den : Int)) rfl).mono ?_
      rintro e w2 ⟨r0, r1, r2, rfl, f0, bn_r⟩
      refine hK _ _ rfl bn_r ⟨_, _, _, rfl, f0⟩ (fun h => by cases h)
    · obtain ⟨A_2_0, n_2_1, n_2_2, d2, h_2_0⟩ := hd 2 (by decide +kernel)
      obtain ⟨A_5_0, n_5_1, n_5_2, d5, h_5_0⟩ := hd 5 (by decide +kernel)
      rw [d2, d5]
      go_simp
      go_at_call 76
      with_reducible refine (wAdd_c h_2_0 h_5_0 129 (by decide) (by decide) (by decide) (p.num * (q.den : Int) + q.num * (p.den : Int)) rfl).mono ?_
      rintro e w2 ⟨r0, r1, r2, rfl, f0, bn_r⟩
      refine hK _ _ rfl bn_r ⟨_, _, _, rfl, f0⟩ (fun h => by cases h)
    · go_simp
      refine hK _ _ rfl (Below.refl _ _) (by first | rfl | simp) (fun h => by cases h)
    · have d7 : vals 7 = _ := hd 7 (by decide +kernel)
      rw [d7]
      have z0 := (HR0.out.below hS).c2
      go_simp
      refine hK _ _ rfl (Below.refl _ _) (by first | rfl | simp) (fun h => by cases h)
    · go_simp
      refine hK _ _ rfl (Below.refl _ _) (by first | rfl | simp) (fun h => by cases h)
    · have d9 : vals 9 = _ := hd 9 (by decide +kernel)
      rw [d9]
      have z0 := (HR1.out.below hS).c2
      go_simp
      refine hK _ _ rfl (Below.refl _ _) (by first | rfl | simp) (fun h => by cases h)
    · have d8 : vals 8 = _ := hd 8 (by decide +kernel)
      have d10 : vals 10 = _ := hd 10 (by decide +kernel)
      rw [d8, d10]
      go_simp
      go_at_call 79
      with_reducible refine (mulOf_c (HY.out.below hS) (HY1.out.below hS) 128 (by decide) (by decide) (by decide)).mono ?_
      rintro e w2 ⟨r0, r1, r2, rfl, f0, bn_r⟩
      refine hK _ _ rfl bn_r ⟨_, _, _, rfl, f0⟩ (fun h => by cases h)
    · obtain ⟨A_6_0, n_6_1, n_6_2, d6, h_6_0⟩ := hd 6 (by decide +kernel)
      obtain ⟨A_11_0, n_11_1, n_11_2, d11, h_11_0⟩ := hd 11 (by decide +kernel)
      rw [d6, d11]
      go_simp
      go_at_call 31
      with_reducible refine (rOf_c h_6_0 h_11_0 (by decide) (by decide) r e HO.out).mono ?_
      rintro e w2 ⟨r0, r1, r2, r3, r4, r5, rfl, f0, bn_r⟩
      refine hK _ _ rfl bn_r ⟨_, _, _, _, _, _, rfl, f0⟩ (fun h => by cases h)
    · obtain ⟨A_12_0, n_12_1, n_12_2, A_12_3, n_12_4, n_12_5, d12, h_12_0⟩ := hd 12 (by decide +kernel)
      rw [d12]
      go_simp
      refine hK _ _ rfl (Below.refl _ _) ⟨_, _, _, _, _, _, rfl, h_12_0⟩ (fun h => by cases h)
    · obtain ⟨A_12_0, n_12_1, n_12_2, A_12_3, n_12_4, n_12_5, d12, h_12_0⟩ := hd 12 (by decide +kernel)
      rw [d12]
      go_simp
      refine hK _ _ rfl (Below.refl _ _) rfl (fun h => by cases h)
   case hfin6 =>
    intro vals wr hS hP hne
    obtain ⟨A_13_0, n_13_1, n_13_2, A_13_3, n_13_4, n_13_5, ez_13, h_13_0⟩ := hP 13 (by decide)
    have ez_14 : vals 14 = _ := hP 14 (by decide)
    have hZ3 := HZ.out.below hS
    have hNo := hZ3.noLimb (by intro v e; cases e) (by intro v e; cases e) (by intro v e; cases e)
    have e0 := hZ3.c0
    have e1 := hZ3.c1
    have e2 := hZ3.c2
    have f0 := hZ3.free 0
    have f1 := hZ3.free 1
    have f2 := hZ3.free 2
    have HF := Lib.hid (hZ3.fill (.bool (sg (oTop r))) (.slice A_13_0 n_13_1 n_13_2) (.slice A_13_3 n_13_4 n_13_5))
    have HP := Lib.hid (QQ.fillR3 h_13_0 hNo (.bool (sg (oTop r))) (.slice A_13_0 n_13_1 n_13_2) (.slice A_13_3 n_13_4 n_13_5))
    have HB := Lib.hid (below_fill3' (below_two HW.out hS) Hq.out (.bool (sg (oTop r))) (.slice A_13_0 n_13_1 n_13_2) (.slice A_13_3 n_13_4 n_13_5))
    try dsimp only
    rw [ez_13, ez_14]
    refine wpAny_ready (rs := [15]) (by kernel_rfl) (by simp) (AllReady.cons rfl (fun KC hK => ?_) AllReady.nil)
    go_simp
    refine hK _ _ ?_
    clear hK KC
    refine wpAny_ready (rs := [16]) (by kernel_rfl) (by simp) (AllReady.cons rfl (fun KC hK => ?_) AllReady.nil)
    go_simp
    refine hK _ _ ?_
    clear hK KC
    refine wpAny_done (by kernel_rfl) ?_ _
    go_wp2
    refine bodyPost_ret (results_mixed rfl _ _ _ 27 #[.bool (sg (oTop r)), .slice A_13_0 n_13_1 n_13_2, .slice A_13_3 n_13_4 n_13_5] (0, 0) _ (.int .i64 e) rfl rfl HF.out Tryz.underlying27 rfl rat_size) rfl ?_
    exact ⟨A_13_0, n_13_1, n_13_2, A_13_3, n_13_4, n_13_5, rfl, HP.out, HB.out⟩
set_option maxHeartbeats 4000000 in
set_option maxRecDepth 100000 in
theorem rSub_c (hx : QQ w s A n c xs B m d ys o L) (hx' : QQ w s' A' n' c' xs' B' m' d' ys' o' L') (h1 : L ≤ 1000) (h2 : L' ≤ 1000) (r : Option Rat) (e : Int) (hR : subR o o' = (r, e)) :
 Calls Tryz.prog 29 #[.agg #[.bool s, .slice A n c, .slice B m d], .agg #[.bool s', .slice A' n' c', .slice B' m' d']] w fun ee w' => ∃ A2 n2 c2 B2 m2 d2, ee = .returned (.tuple #[.agg #[.bool (sg (oTop r)), .slice A2 n2 c2, .slice B2 m2 d2], .int .i64 e]) ∧ QT w' A2 n2 c2 B2 m2 d2 r ∧ Below w.heap.size w w' := by
 cases o with
 | none =>
  have hR2 : ((none : Option Rat), (1 : Int)) = (r, e) := hR
  cases hR2
  clear hR
  have b0 := below_new w (.cells #[Value.bool s, Value.slice A n c, Value.slice B m d] 27)
  have b1 := below_new (w.alloc (.cells #[Value.bool s, Value.slice A n c, Value.slice B m d] 27)) (.cells #[Value.bool s', Value.slice A' n' c', Value.slice B' m' d'] 27)
  have b2 := below_new ((w.alloc (.cells #[Value.bool s, Value.slice A n c, Value.slice B m d] 27)).alloc (.cells #[Value.bool s', Value.slice A' n' c', Value.slice B' m' d'] 27)) (.cells #[Value.bool false, Value.slice none 0 0, Value.slice none 0 0] 27)
  have HW := Lib.hid (below_two (below_two b0 b1) b2)
  have HQ0 := Lib.hid (hx.below HW.out)
  have HQ1 := Lib.hid (hx'.below HW.out)
  have r0 := ((row3_new w 27 (.bool s) (.slice A n c) (.slice B m d)).below b1).below b2
  have r1 := (row3_new (w.alloc (.cells #[Value.bool s, Value.slice A n c, Value.slice B m d] 27)) 27 (.bool s') (.slice A' n' c') (.slice B' m' d')).below b2
  have rz := row3_new ((w.alloc (.cells #[Value.bool s, Value.slice A n c, Value.slice B m d] 27)).alloc (.cells #[Value.bool s', Value.slice A' n' c', Value.slice B' m' d'] 27)) 27 (.bool false) (.slice none 0 0) (.slice none 0 0)
  simp only [World.size_alloc] at r1 rz
  clear b0 b1 b2 hx hx'
  go_enter Tryz.func29, Tryz.ntmps29
  go_wp2_with fail
  generalize ((w.alloc (.cells #[Value.bool s, Value.slice A n c, Value.slice B m d] 27)).alloc (.cells #[Value.bool s', Value.slice A' n' c', Value.slice B' m' d'] 27)).alloc (.cells #[Value.bool false, Value.slice none 0 0, Value.slice none 0 0] 27) = w1 at *
  have HR0 := Lib.hid r0
  have HR1 := Lib.hid r1
  have HZ := Lib.hid rz
  have Hq : RowKit.Hid (w.heap.size ≤ w.heap.size + 1 + 1) := by show _ ≤ _; omega
  clear r0 r1 rz
  refine (rGood_c HQ0.out (by omega) false rfl).mono ?_
  rintro e w2 ⟨rfl, bn⟩
  replace HQ0 := Lib.hid (HQ0.out.below bn)
  replace HR0 := Lib.hid (HR0.out.below bn)
  replace HQ1 := Lib.hid (HQ1.out.below bn)
  replace HR1 := Lib.hid (HR1.out.below bn)
  replace HZ := Lib.hid (HZ.out.below bn)
  replace HW := Lib.hid (below_two HW.out bn)
  clear bn
  have e0 := HZ.out.c0
  have e1 := HZ.out.c1
  have e2 := HZ.out.c2
  have f0 := HZ.out.free 0
  have f1 := HZ.out.free 1
  have f2 := HZ.out.free 2
  have HF := Lib.hid (HZ.out.fill (.bool false) (.slice none 0 0) (.slice none 0 0))
  have HB := Lib.hid (below_fill3' HW.out Hq.out (.bool false) (.slice none 0 0) (.slice none 0 0))
  go_wp2
  refine bodyPost_ret (results_mixed rfl _ _ _ 27 #[.bool false, .slice none 0 0, .slice none 0 0] (0, 0) _ (.int .i64 1) rfl rfl HF.out Tryz.underlying27 rfl rat_size) rfl ?_
  exact ⟨none, 0, 0, none, 0, 0, rfl, qt_none _ 0 0, HB.out⟩
 | some p =>
  cases o' with
  | none =>
   have hR2 : ((none : Option Rat), (1 : Int)) = (r, e) := hR
   cases hR2
   clear hR
   have b0 := below_new w (.cells #[Value.bool s, Value.slice A n c, Value.slice B m d] 27)
   have b1 := below_new (w.alloc (.cells #[Value.bool s, Value.slice A n c, Value.slice B m d] 27)) (.cells #[Value.bool s', Value.slice A' n' c', Value.slice B' m' d'] 27)
   have b2 := below_new ((w.alloc (.cells #[Value.bool s, Value.slice A n c, Value.slice B m d] 27)).alloc (.cells #[Value.bool s', Value.slice A' n' c', Value.slice B' m' d'] 27)) (.cells #[Value.bool false, Value.slice none 0 0, Value.slice none 0 0] 27)
   have HW := Lib.hid (below_two (below_two b0 b1) b2)
   have HQ0 := Lib.hid (hx.below HW.out)
   have HQ1 := Lib.hid (hx'.below HW.out)
   have r0 := ((row3_new w 27 (.bool s) (.slice A n c) (.slice B m d)).below b1).below b2
   have r1 := (row3_new (w.alloc (.cells #[Value.bool s, Value.slice A n c, Value.slice B m d] 27)) 27 (.bool s') (.slice A' n' c') (.slice B' m' d')).below b2
   have rz := row3_new ((w.alloc (.cells #[Value.bool s, Value.slice A n c, Value.slice B m d] 27)).alloc (.cells #[Value.bool s', Value.slice A' n' c', Value.slice B' m' d'] 27)) 27 (.bool false) (.slice none 0 0) (.slice none 0 0)
   simp only [World.size_alloc] at r1 rz
   clear b0 b1 b2 hx hx'
   go_enter Tryz.func29, Tryz.ntmps29
   go_wp2_with fail
   generalize ((w.alloc (.cells #[Value.bool s, Value.slice A n c, Value.slice B m d] 27)).alloc (.cells #[Value.bool s', Value.slice A' n' c', Value.slice B' m' d'] 27)).alloc (.cells #[Value.bool false, Value.slice none 0 0, Value.slice none 0 0] 27) = w1 at *
   have HR0 := Lib.hid r0
   have HR1 := Lib.hid r1
   have HZ := Lib.hid rz
   have Hq : RowKit.Hid (w.heap.size ≤ w.heap.size + 1 + 1) := by show _ ≤ _; omega
   clear r0 r1 rz
   refine (rGood_c HQ0.out (by omega) true rfl).mono ?_
   rintro e w2 ⟨rfl, bn⟩
   replace HQ0 := Lib.hid (HQ0.out.below bn)
   replace HR0 := Lib.hid (HR0.out.below bn)
   replace HQ1 := Lib.hid (HQ1.out.below bn)
   replace HR1 := Lib.hid (HR1.out.below bn)
   replace HZ := Lib.hid (HZ.out.below bn)
   replace HW := Lib.hid (below_two HW.out bn)
   clear bn
   have c10 := HR1.out.c0
   have c11 := HR1.out.c1
   have c12 := HR1.out.c2
   go_wp2_with fail
   clear c10 c11 c12
   refine (rGood_c HQ1.out (by omega) false rfl).mono ?_
   rintro e w2 ⟨rfl, bn⟩
   replace HQ0 := Lib.hid (HQ0.out.below bn)
   replace HR0 := Lib.hid (HR0.out.below bn)
   replace HQ1 := Lib.hid (HQ1.out.below bn)
   replace HR1 := Lib.hid (HR1.out.below bn)
   replace HZ := Lib.hid (HZ.out.below bn)
   replace HW := Lib.hid (below_two HW.out bn)
   clear bn
   have e0 := HZ.out.c0
   have e1 := HZ.out.c1
   have e2 := HZ.out.c2
   have f0 := HZ.out.free 0
   have f1 := HZ.out.free 1
   have f2 := HZ.out.free 2
   have HF := Lib.hid (HZ.out.fill (.bool false) (.slice none 0 0) (.slice none 0 0))
   have HB := Lib.hid (below_fill3' HW.out Hq.out (.bool false) (.slice none 0 0) (.slice none 0 0))
   go_wp2
   refine bodyPost_ret (results_mixed rfl _ _ _ 27 #[.bool false, .slice none 0 0, .slice none 0 0] (0, 0) _ (.int .i64 1) rfl rfl HF.out Tryz.underlying27 rfl rat_size) rfl ?_
   exact ⟨none, 0, 0, none, 0, 0, rfl, qt_none _ 0 0, HB.out⟩
  | some q =>
   have HO : RowKit.Hid (ofR (p.num * (q.den : Int) + -(q.num * (p.den : Int))) (p.den * q.den) = (r, e)) := by
    show _ = _
    rw [← hR]; unfold ofR; rw [if_neg (Nat.mul_ne_zero p.den_nz q.den_nz)]
    show limR _ = limR _
    rw [sub_mk]
   clear hR
   have b0 := below_new w (.cells #[Value.bool s, Value.slice A n c, Value.slice B m d] 27)
   have b1 := below_new (w.alloc (.cells #[Value.bool s, Value.slice A n c, Value.slice B m d] 27)) (.cells #[Value.bool s', Value.slice A' n' c', Value.slice B' m' d'] 27)
   have b2 := below_new ((w.alloc (.cells #[Value.bool s, Value.slice A n c, Value.slice B m d] 27)).alloc (.cells #[Value.bool s', Value.slice A' n' c', Value.slice B' m' d'] 27)) (.cells #[Value.bool false, Value.slice none 0 0, Value.slice none 0 0] 27)
   have HW := Lib.hid (below_two (below_two b0 b1) b2)
   have HQ0 := Lib.hid (hx.below HW.out)
   have HQ1 := Lib.hid (hx'.below HW.out)
   have r0 := ((row3_new w 27 (.bool s) (.slice A n c) (.slice B m d)).below b1).below b2
   have r1 := (row3_new (w.alloc (.cells #[Value.bool s, Value.slice A n c, Value.slice B m d] 27)) 27 (.bool s') (.slice A' n' c') (.slice B' m' d')).below b2
   have rz := row3_new ((w.alloc (.cells #[Value.bool s, Value.slice A n c, Value.slice B m d] 27)).alloc (.cells #[Value.bool s', Value.slice A' n' c', Value.slice B' m' d'] 27)) 27 (.bool false) (.slice none 0 0) (.slice none 0 0)
   simp only [World.size_alloc] at r1 rz
   clear b0 b1 b2 hx hx'
   go_enter Tryz.func29, Tryz.ntmps29
   go_wp2_with fail
   generalize ((w.alloc (.cells #[Value.bool s, Value.slice A n c, Value.slice B m d] 27)).alloc (.cells #[Value.bool s', Value.slice A' n' c', Value.slice B' m' d'] 27)).alloc (.cells #[Value.bool false, Value.slice none 0 0, Value.slice none 0 0] 27) = w1 at *
   have HR0 := Lib.hid r0
   have HR1 := Lib.hid r1
   have HZ := Lib.hid rz
   have Hq : RowKit.Hid (w.heap.size ≤ w.heap.size + 1 + 1) := by show _ ≤ _; omega
   clear r0 r1 rz
   refine (rGood_c HQ0.out (by omega) true rfl).mono ?_
   rintro e w2 ⟨rfl, bn⟩
   replace HQ0 := Lib.hid (HQ0.out.below bn)
   replace HR0 := Lib.hid (HR0.out.below bn)
   replace HQ1 := Lib.hid (HQ1.out.below bn)
   replace HR1 := Lib.hid (HR1.out.below bn)
   replace HZ := Lib.hid (HZ.out.below bn)
   replace HW := Lib.hid (below_two HW.out bn)
   clear bn
   have c10 := HR1.out.c0
   have c11 := HR1.out.c1
   have c12 := HR1.out.c2
   go_wp2_with fail
   clear c10 c11 c12
   refine (rGood_c HQ1.out (by omega) true rfl).mono ?_
   rintro e wS ⟨rfl, bn⟩
   replace HQ0 := Lib.hid (HQ0.out.below bn)
   replace HR0 := Lib.hid (HR0.out.below bn)
   replace HQ1 := Lib.hid (HQ1.out.below bn)
   replace HR1 := Lib.hid (HR1.out.below bn)
   replace HZ := Lib.hid (HZ.out.below bn)
   replace HW := Lib.hid (below_two HW.out bn)
   clear bn
   have HX := Lib.hid HQ0.out.some.2.2.2.2.1
   have HY := Lib.hid HQ0.out.some.2.2.2.2.2.1
   have HX1 := Lib.hid HQ1.out.some.2.2.2.2.1
   have HY1 := Lib.hid HQ1.out.some.2.2.2.2.2.1
   go_wp2_with fail
   refine region_free 16 2 [15, 16, 17, 18, 19, 20, 21, 22, 23, 24, 25, 26, 27, 28, 29, 30] ?aF7 (fun wx => Below wS.heap.size wS wx) (fun k vv wx => match k with
    | 0 => vv = .agg #[.bool s, .slice A n c, .slice B m d]
    | 1 => vv = .agg #[.bool s', .slice A' n' c', .slice B' m' d']
    | 2 => ∃ (e0 : Option Addr) (e1 : Nat) (e2 : Nat), vv = .agg #[.bool (sg (p.num * (q.den : Int))), .slice e0 e1 e2] ∧ ZZ wx (sg (p.num * (q.den : Int))) e0 e1 e2 (limbs (p.num * (q.den : Int)).natAbs) (p.num * (q.den : Int)) 128
    | 3 => vv = .agg #[.bool s', .slice A' n' c', .slice B' m' d']
    | 4 => vv = .agg #[.bool s, .slice A n c, .slice B m d]
    | 5 => ∃ (e0 : Option Addr) (e1 : Nat) (e2 : Nat), vv = .agg #[.bool (sg (q.num * (p.den : Int))), .slice e0 e1 e2] ∧ ZZ wx (sg (q.num * (p.den : Int))) e0 e1 e2 (limbs (q.num * (p.den : Int)).natAbs) (q.num * (p.den : Int)) 128
    | 6 => ∃ (e0 : Option Addr) (e1 : Nat) (e2 : Nat), vv = .agg #[.bool (sg (-(q.num * (p.den : Int)))), .slice e0 e1 e2] ∧ ZZ wx (sg (-(q.num * (p.den : Int)))) e0 e1 e2 (limbs (-(q.num * (p.den : Int))).natAbs) (-(q.num * (p.den : Int))) 128
    | 7 => ∃ (e0 : Option Addr) (e1 : Nat) (e2 : Nat), vv = .agg #[.bool (sg (p.num * (q.den : Int) + -(q.num * (p.den : Int)))), .slice e0 e1 e2] ∧ ZZ wx (sg (p.num * (q.den : Int) + -(q.num * (p.den : Int)))) e0 e1 e2 (limbs (p.num * (q.den : Int) + -(q.num * (p.den : Int))).natAbs) (p.num * (q.den : Int) + -(q.num * (p.den : Int))) 129
    | 8 => vv = .pointer (some ⟨w.heap.size, 2, none⟩)
    | 9 => vv = .slice B m d
    | 10 => vv = .pointer (some ⟨w.heap.size + 1, 2, none⟩)
    | 11 => vv = .slice B' m' d'
    | 12 => ∃ (e0 : Option Addr) (e1 : Nat) (e2 : Nat), vv = .slice e0 e1 e2 ∧ NN wx e0 e1 e2 (limbs (p.den * q.den)) (p.den * q.den) 128
    | 13 => ∃ (e0 : Option Addr) (e1 : Nat) (e2 : Nat) (e3 : Option Addr) (e4 : Nat) (e5 : Nat), vv = .tuple #[.agg #[.bool (sg (oTop r)), .slice e0 e1 e2, .slice e3 e4 e5], .int .i64 e] ∧ QT wx e0 e1 e2 e3 e4 e5 r
    | 14 => ∃ (e0 : Option Addr) (e1 : Nat) (e2 : Nat) (e3 : Option Addr) (e4 : Nat) (e5 : Nat), vv = .agg #[.bool (sg (oTop r)), .slice e0 e1 e2, .slice e3 e4 e5] ∧ QT wx e0 e1 e2 e3 e4 e5 r
    | _ => vv = .int .i64 e)
    (fun k => false) (by kernel_rfl) ?haF7 rfl (by kernel_rfl) (by kernel_rfl) (fun _ _ _ _ _ h => h) ?hSb7 ?hPb7 ?hS7 ?hop7 ?hfin7
   case haF7 =>
    intro vals
    simp only [fillAll, List.getElem?_cons_zero, List.getElem?_cons_succ, Act.put, List.setIfInBounds_toArray, List.set_cons_zero, List.set_cons_succ]
    exact rfl
   case hSb7 => exact fun wx w2 hb hS => below_two hS hb
   case hPb7 =>
    intro k v wa wb hb h
    match k, h with
    | 0, h => exact h
    | 1, h => exact h
    | 2, ⟨e0, e1, e2, h1, g0⟩ => exact ⟨e0, e1, e2, h1, g0.below hb⟩
    | 3, h => exact h
    | 4, h => exact h
    | 5, ⟨e0, e1, e2, h1, g0⟩ => exact ⟨e0, e1, e2, h1, g0.below hb⟩
    | 6, ⟨e0, e1, e2, h1, g0⟩ => exact ⟨e0, e1, e2, h1, g0.below hb⟩
    | 7, ⟨e0, e1, e2, h1, g0⟩ => exact ⟨e0, e1, e2, h1, g0.below hb⟩
    | 8, h => exact h
    | 9, h => exact h
    | 10, h => exact h
    | 11, h => exact h
    | 12, ⟨e0, e1, e2, h1, g0⟩ => exact ⟨e0, e1, e2, h1, g0.below hb⟩
    | 13, ⟨e0, e1, e2, e3, e4, e5, h1, g0⟩ => exact ⟨e0, e1, e2, e3, e4, e5, h1, g0.below hb⟩
    | 14, ⟨e0, e1, e2, e3, e4, e5, h1, g0⟩ => exact ⟨e0, e1, e2, e3, e4, e5, h1, g0.below hb⟩
    | _ + 15, h => exact h
   case hS7 => exact (Below.refl _ _).drew
   case hop7 =>
    refine .cons (k := 0) ?_ (.cons (k := 1) ?_ (.cons (k := 2) ?_ (.cons (k := 3) ?_ (.cons (k := 4) ?_ (.cons (k := 5) ?_ (.cons (k := 6) ?_ (.cons (k := 7) ?_ (.cons (k := 8) ?_ (.cons (k := 9) ?_ (.cons (k := 10) ?_ (.cons (k := 11) ?_ (.cons (k := 12) ?_ (.cons (k := 13) ?_ (.cons (k := 14) ?_ (.cons (k := 15) ?_ (.nil))))))))))))))))
    all_goals intro vals wr hS hd KC hK
    all_goals (show Oper.wp _ _ _ _ _ _; dsimp only)
    · have z0 := (HR0.out.below hS).c0
      have z1 := (HR0.out.below hS).c1
      have z2 := (HR0.out.below hS).c2
      go_simp
      refine hK _ _ rfl (Below.refl _ _) (by first | rfl | simp) (fun h => by cases h)
    · have z0 := (HR1.out.below hS).c0
      have z1 := (HR1.out.below hS).c1
      have z2 := (HR1.out.below hS).c2
      go_simp
      refine hK _ _ rfl (Below.refl _ _) (by first | rfl | simp) (fun h => by cases h)
    · have d0 : vals 0 = _ := hd 0 (by decide +kernel)
      have d1 : vals 1 = _ := hd 1 (by decide +kernel)
      rw [d0, d1]
      go_simp
      go_at_call 77
      with_reducible refine (rCross_c (HX.out.below hS) (HY1.out.below hS) (by decide) (by decide) (p.num * (q.den : Int)) rfl).mono ?_
      rintro e w2 ⟨r0, r1, r2, rfl, f0, bn_r⟩
      refine hK _ _ rfl bn_r ⟨_, _, _, rfl, f0⟩ (fun h => by cases h)
    · have z0 := (HR1.out.below hS).c0
      have z1 := (HR1.out.below hS).c1
      have z2 := (HR1.out.below hS).c2
      go_simp
      refine hK _ _ rfl (Below.refl _ _) (by first | rfl | simp) (fun h => by cases h)
    · have z0 := (HR0.out.below hS).c0
      have z1 := (HR0.out.below hS).c1
      have z2 := (HR0.out.below hS).c2
      go_simp
      refine hK _ _ rfl (Below.refl _ _) (by first | rfl | simp) (fun h => by cases h)
    · have d3 : vals 3 = _ := hd 3 (by decide +kernel)
      have d4 : vals 4 = _ := hd 4 (by decide +kernel)
      rw [d3, d4]
      go_simp
      go_at_call 77
      with_reducible refine (rCross_c (HX1.out.below hS) (HY.out.below hS) (by decide) (by decide) (q.num * (p.den : Int)) rfl).mono ?_
      rintro e w2 ⟨r0, r1, r2, rfl, f0, bn_r⟩
      refine hK _ _ rfl bn_r ⟨_, _, _, rfl, f0⟩ (fun h => by cases h)
    · obtain ⟨A_5_0, n_5_1, n_5_2, d5, h_5_0⟩ := hd 5 (by decide +kernel)
      rw [d5]
      go_simp
      go_at_call 78
      with_reducible refine (wNeg_c h_5_0 (by decide) (-(q.num * (p.den : Int))) rfl).mono ?_
      rintro e w2 ⟨r0, r1, r2, rfl, f0, bn_r⟩
      refine hK _ _ rfl bn_r ⟨_, _, _, rfl, f0⟩ (fun h => by cases h)
    · obtain ⟨A_2_0, n_2_1, n_2_2, d2, h_2_0⟩ := hd 2 (by decide +kernel)
      obtain ⟨A_6_0, n_6_1, n_6_2, d6, h_6_0⟩ := hd 6 (by decide +kernel)
      rw [d2, d6]
      go_simp
      go_at_call 76
      with_reducible refine (wAdd_c h_2_0 h_6_0 129 (by decide) (by decide) (by decide) (p.num * (q.den : Int) + -(q.num * (p.den : Int))) rfl).mono ?_
      rintro e w2 ⟨r0, r1, r2, rfl, f0, bn_r⟩
      refine hK _ _ rfl bn_r ⟨_, _, _, rfl, f0⟩ (fun h => by cases h)
    · go_simp
      refine hK _ _ rfl (Below.refl _ _) (by first | rfl | simp) (fun h => by cases h)
    · have d8 : vals 8 = _ := hd 8 (by decide +kernel)
      rw [d8]
      have z0 := (HR0.out.below hS).c2
      go_simp
      refine hK _ _ rfl (Below.refl _ _) (by first | rfl | simp) (fun h => by cases h)
    · go_simp
      refine hK _ _ rfl (Below.refl _ _) (by first | rfl | simp) (fun h => by cases h)
    · have d10 : vals 10 = _ := hd 10 (by decide +kernel)
      rw [d10]
      have z0 := (HR1.out.below hS).c2
      go_simp
      refine hK _ _ rfl (Below.refl _ _) (by first | rfl | simp) (fun h => by cases h)
    · have d9 : vals 9 = _ := hd 9 (by decide +kernel)
      have d11 : vals 11 = _ := hd 11 (by decide +kernel)
      rw [d9, d11]
      go_simp
      go_at_call 79
      with_reducible refine (mulOf_c (HY.out.below hS) (HY1.out.below hS) 128 (by decide) (by decide) (by decide)).mono ?_
      rintro e w2 ⟨r0, r1, r2, rfl, f0, bn_r⟩
      refine hK _ _ rfl bn_r ⟨_, _, _, rfl, f0⟩ (fun h => by cases h)
    · obtain ⟨A_7_0, n_7_1, n_7_2, d7, h_7_0⟩ := hd 7 (by decide +kernel)
      obtain ⟨A_12_0, n_12_1, n_12_2, d12, h_12_0⟩ := hd 12 (by decide +kernel)
      rw [d7, d12]
      go_simp
      go_at_call 31
      with_reducible refine (rOf_c h_7_0 h_12_0 (by decide) (by decide) r e HO.out).mono ?_
      rintro e w2 ⟨r0, r1, r2, r3, r4, r5, rfl, f0, bn_r⟩
      refine hK _ _ rfl bn_r ⟨_, _, _, _, _, _, rfl, f0⟩ (fun h => by cases h)
    · obtain ⟨A_13_0, n_13_1, n_13_2, A_13_3, n_13_4, n_13_5, d13, h_13_0⟩ := hd 13 (by decide +kernel)
      rw [d13]
      go_simp
      refine hK _ _ rfl (Below.refl _ _) ⟨_, _, _, _, _, _, rfl, h_13_0⟩ (fun h => by cases h)
    · obtain ⟨A_13_0, n_13_1, n_13_2, A_13_3, n_13_4, n_13_5, d13, h_13_0⟩ := hd 13 (by decide +kernel)
      rw [d13]
      go_simp
      refine hK _ _ rfl (Below.refl _ _) rfl (fun h => by cases h)
   case hfin7 =>
    intro vals wr hS hP hne
    obtain ⟨A_14_0, n_14_1, n_14_2, A_14_3, n_14_4, n_14_5, ez_14, h_14_0⟩ := hP 14 (by decide)
    have ez_15 : vals 15 = _ := hP 15 (by decide)
    have hZ3 := HZ.out.below hS
    have hNo := hZ3.noLimb (by intro v e; cases e) (by intro v e; cases e) (by intro v e; cases e)
    have e0 := hZ3.c0
    have e1 := hZ3.c1
    have e2 := hZ3.c2
    have f0 := hZ3.free 0
    have f1 := hZ3.free 1
    have f2 := hZ3.free 2
    have HF := Lib.hid (hZ3.fill (.bool (sg (oTop r))) (.slice A_14_0 n_14_1 n_14_2) (.slice A_14_3 n_14_4 n_14_5))
    have HP := Lib.hid (QQ.fillR3 h_14_0 hNo (.bool (sg (oTop r))) (.slice A_14_0 n_14_1 n_14_2) (.slice A_14_3 n_14_4 n_14_5))
    have HB := Lib.hid (below_fill3' (below_two HW.out hS) Hq.out (.bool (sg (oTop r))) (.slice A_14_0 n_14_1 n_14_2) (.slice A_14_3 n_14_4 n_14_5))
    try dsimp only
    rw [ez_14, ez_15]
    refine wpAny_ready (rs := [16]) (by kernel_rfl) (by simp) (AllReady.cons rfl (fun KC hK => ?_) AllReady.nil)
    go_simp
    refine hK _ _ ?_
    clear hK KC
    refine wpAny_ready (rs := [17]) (by kernel_rfl) (by simp) (AllReady.cons rfl (fun KC hK => ?_) AllReady.nil)
    go_simp
    refine hK _ _ ?_
    clear hK KC
    refine wpAny_done (by kernel_rfl) ?_ _
    go_wp2
    refine bodyPost_ret (results_mixed rfl _ _ _ 27 #[.bool (sg (oTop r)), .slice A_14_0 n_14_1 n_14_2, .slice A_14_3 n_14_4 n_14_5] (0, 0) _ (.int .i64 e) rfl rfl HF.out Tryz.underlying27 rfl rat_size) rfl ?_
    exact ⟨A_14_0, n_14_1, n_14_2, A_14_3, n_14_4, n_14_5, rfl, HP.out, HB.out⟩
end
end Go.Proofs.YtjikaojffgjndaaGreatDoor
