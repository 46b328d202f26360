/- Part 7 of the texts that the statements of this seat lean on: mathematics, and what functions answer, as contracts over memory; each part says its own conditions. -/
import Derived.Test.YtohokfbohdoijaaGreatDoorM6
/- What package power's raise answers, as a contract over memory. Conditions: sizes of at most 64 limbs, exponents of at most 600. -/
namespace Go.Proofs.YtohokfbohdoijaaGreatDoor
open Go.RowKit Limb
set_option linter.unusedVariables false
theorem sg_pow (x : Int) (n : Nat) : sg (x ^ n) = (sg x && decide (n % 2 = 1)) := by
 have h := zOf_pow (x := x) n
 cases hb : (sg x && decide (n % 2 = 1)) with
 | false =>
  rw [hb] at h
  refine sg_pos ?_
  rw [← h]; unfold zOf; rw [if_neg (by decide)]; omega
 | true =>
  rw [hb] at h
  refine sg_neg ?_
  rw [← h]; unfold zOf; rw [if_pos rfl]
  have hx : sg x = true := by cases hs : sg x with
   | true => rfl
   | false => rw [hs] at hb; simp at hb
  have hx2 : x < 0 := by simpa [sg] using hx
  have h3 : 0 < x.natAbs ^ n := Nat.pow_pos (by omega)
  omega
theorem sg_zOf {s : Bool} {a : Nat} (h : a ≠ 0) : sg (zOf s a) = s := by
 cases s with
 | true => refine sg_neg ?_; unfold zOf; rw [if_pos rfl]; omega
 | false => refine sg_pos ?_; unfold zOf; rw [if_neg (by decide)]; omega
theorem pow_up (q : Rat) (N : Nat) : (q ^ (N : Int)).num.natAbs = q.num.natAbs ^ N ∧ (q ^ (N : Int)).den = q.den ^ N ∧ sg (q ^ (N : Int)).num = (sg q.num && decide (N % 2 = 1)) := by
 rw [Rat.zpow_natCast, Rat.num_pow, Rat.den_pow, Int.natAbs_pow]
 exact ⟨rfl, rfl, sg_pow _ _⟩
theorem pow_down {q : Rat} (hq : q.num ≠ 0) (N : Nat) : (q ^ (-(N : Int))).num.natAbs = q.den ^ N ∧ (q ^ (-(N : Int))).den = q.num.natAbs ^ N ∧ sg (q ^ (-(N : Int))).num = (sg q.num && decide (N % 2 = 1)) := by
 have h0 : (q ^ N).num ≠ 0 := num_of_ne (npow_ne (num_ne hq) N)
 obtain ⟨h1, h2⟩ := inv_told h0
 rw [Rat.zpow_neg, Rat.zpow_natCast, h1, h2, zOf_abs, Rat.num_pow, Rat.den_pow, Int.natAbs_pow]
 refine ⟨rfl, rfl, ?_⟩
 rw [sg_zOf (Nat.pos_iff_ne_zero.1 (Nat.pow_pos (Nat.pos_of_ne_zero q.den_nz)))]
 exact sg_pow _ _
theorem fits_of {z : Rat} {a b : Nat} (h1 : z.num.natAbs = a) (h2 : z.den = b) : fitsQ z = (fit64 a && fit64 b) := by
 unfold fitsQ fit64; rw [h1, h2]
theorem pSizeT_c {w : World} {A : Option Addr} {n c : Nat} {xs : List Nat} {v L : Nat} (hx : NN w A n c xs v L) (h1 : L ≤ 64) (N : Nat) (hN : N ≤ 600) (V : Int) (hV : V = (N : Int)) (P : Nat) (hP : v ^ N = P) (f : Bool) (hf : fit64 P = f) :
 Calls Tryz.prog 144 #[.slice A n c, .int .i64 V] w fun e w' => ∃ A2 n2 c2, e = .returned (.tuple #[.slice A2 n2 c2, .bool f]) ∧ (f = true → NN w' A2 n2 c2 (limbs P) P 64) ∧ Below w.heap.size w w' := by
 subst hP; subst hV; exact pSize_c hx h1 N hN f hf
section
variable {w : World} {s s' : Bool} {A B A' B' : Option Addr} {n c m d n' c' m' d' : Nat} {xs ys xs' ys' : List Nat} {x y : Int} {q : Rat} {a b L L' : Nat}
set_option maxHeartbeats 1000000 in
set_option maxRecDepth 100000 in
theorem pRaise_c (hx : ZZ w (sg q.num) A n c (limbs q.num.natAbs) q.num L) (hy : NN w B m d (limbs q.den) q.den L') (h1 : L ≤ 64) (h2 : L' ≤ 64) (v : Int) (v0 : -600 ≤ v) (v1 : v ≤ 600) (hq : q.num ≠ 0 ∨ 0 ≤ v) (z : Rat) (hz : q ^ v = z) (r : Option Rat) (e : Int) (hR : limR z = (r, e)) :
 Calls Tryz.prog 113 #[.agg #[.bool (sg q.num), .slice A n c, .slice B m d], .int .i64 v] w fun ee w' => ∃ A2 n2 c2 B2 m2 d2, ee = .returned (.tuple #[.agg #[.bool (sg (oTop r)), .slice A2 n2 c2, .slice B2 m2 d2], .int .i64 e]) ∧ QT w' A2 n2 c2 B2 m2 d2 r ∧ Below w.heap.size w w' := by
 by_cases kz : v = 0
 · have kv : 0 ≤ v := by omega
   obtain ⟨N, hN⟩ : ∃ N : Nat, v = (N : Int) := ⟨v.toNat, by omega⟩
   have hk := pow_up q N
   rw [← hN, hz] at hk
   obtain ⟨P, hP⟩ : ∃ P : Nat, q.num.natAbs ^ N = P := ⟨_, rfl⟩
   obtain ⟨D, hD⟩ : ∃ D : Nat, q.den ^ N = D := ⟨_, rfl⟩
   rw [hP, hD] at hk
   obtain ⟨hk1, hk2, hk3⟩ := hk
   have HP := Lib.hid hP
   have HD := Lib.hid hD
   have HT := Lib.hid hk1
   have HBo := Lib.hid hk2
   have HSG := Lib.hid hk3
   clear hP hD hk1 hk2 hk3
   have HN : RowKit.Hid (N ≤ 600) := by show _ ≤ _; omega
   subst hN
   clear hz hq
   have kn : N = 0 := by omega
   subst kn
   clear kz kv v0 v1
   cases kp : fit64 P with
   | false =>
    have KP := Lib.hid kp
    clear kp
    cases kd : fit64 D with
    | false =>
     have KD := Lib.hid kd
     clear kd
     have hf0 : fitsQ z = false := by rw [fits_of HT.out HBo.out]; simp [KP.out, KD.out]
     rw [limR_no hf0] at hR
     cases hR
     clear hf0
     have b0 := below_new w (.cells #[Value.bool (sg q.num), Value.slice A n c, Value.slice B m d] 33)
     have b1 := below_new (w.alloc (.cells #[Value.bool (sg q.num), Value.slice A n c, Value.slice B m d] 33)) (.cells #[Value.bool false, Value.slice none 0 0, Value.slice none 0 0] 33)
     have HW := Lib.hid (below_two b0 b1)
     have HX := Lib.hid (hx.below HW.out)
     have HY := Lib.hid (hy.below HW.out)
     have r0 := (row3_new w 33 (.bool (sg q.num)) (.slice A n c) (.slice B m d)).below b1
     have rz := row3_new (w.alloc (.cells #[Value.bool (sg q.num), Value.slice A n c, Value.slice B m d] 33)) 33 (.bool false) (.slice none 0 0) (.slice none 0 0)
     simp only [World.size_alloc] at rz
     clear b0 b1 hx hy
     go_enter Tryz.func113, Tryz.ntmps113
     go_wp2_with fail
     generalize (w.alloc (.cells #[Value.bool (sg q.num), Value.slice A n c, Value.slice B m d] 33)).alloc (.cells #[Value.bool false, Value.slice none 0 0, Value.slice none 0 0] 33) = w1 at *
     have HR0 := Lib.hid r0
     have HZ := Lib.hid rz
     have Hq : RowKit.Hid (w.heap.size ≤ w.heap.size + 1) := Nat.le_succ _
     clear r0 rz
     refine (pSizeT_c HX.out.nn h1 0 HN.out 0 rfl P HP.out false KP.out).mono ?_
     rintro e w2 ⟨A3, n3, c3, rfl, h3, bn⟩
     replace HX := Lib.hid (HX.out.below bn)
     replace HY := Lib.hid (HY.out.below bn)
     replace HR0 := Lib.hid (HR0.out.below bn)
     replace HZ := Lib.hid (HZ.out.below bn)
     replace HW := Lib.hid (below_two HW.out bn)
     clear bn h3
     have c2 := HR0.out.c2
     go_wp2_with fail
     clear c2
     refine (pSizeT_c HY.out h2 0 HN.out 0 rfl D HD.out false KD.out).mono ?_
     rintro e w2 ⟨A4, n4, c4, rfl, h4, bn⟩
     replace HX := Lib.hid (HX.out.below bn)
     replace HY := Lib.hid (HY.out.below bn)
     replace HR0 := Lib.hid (HR0.out.below bn)
     replace HZ := Lib.hid (HZ.out.below bn)
     replace HW := Lib.hid (below_two HW.out bn)
     clear bn h4
     have e0 := HZ.out.c0
     have e1 := HZ.out.c1
     have e2 := HZ.out.c2
     have f0 := HZ.out.free 0
     have f1 := HZ.out.free 1
     have f2 := HZ.out.free 2
     have HF := Lib.hid (HZ.out.fill (.bool false) (.slice none 0 0) (.slice none 0 0))
     have HB := Lib.hid (below_fill3' HW.out Hq.out (.bool false) (.slice none 0 0) (.slice none 0 0))
     go_wp2
     refine bodyPost_ret (results_mixed rfl _ _ _ 33 #[.bool false, .slice none 0 0, .slice none 0 0] (0, 0) _ (.int .i64 2) rfl rfl HF.out Tryz.underlying33 rfl rat_size) rfl ?_
     exact ⟨none, 0, 0, none, 0, 0, rfl, qt_none _ 0 0, HB.out⟩
    | true =>
     have KD := Lib.hid kd
     clear kd
     have hf0 : fitsQ z = false := by rw [fits_of HT.out HBo.out]; simp [KP.out, KD.out]
     rw [limR_no hf0] at hR
     cases hR
     clear hf0
     have b0 := below_new w (.cells #[Value.bool (sg q.num), Value.slice A n c, Value.slice B m d] 33)
     have b1 := below_new (w.alloc (.cells #[Value.bool (sg q.num), Value.slice A n c, Value.slice B m d] 33)) (.cells #[Value.bool false, Value.slice none 0 0, Value.slice none 0 0] 33)
     have HW := Lib.hid (below_two b0 b1)
     have HX := Lib.hid (hx.below HW.out)
     have HY := Lib.hid (hy.below HW.out)
     have r0 := (row3_new w 33 (.bool (sg q.num)) (.slice A n c) (.slice B m d)).below b1
     have rz := row3_new (w.alloc (.cells #[Value.bool (sg q.num), Value.slice A n c, Value.slice B m d] 33)) 33 (.bool false) (.slice none 0 0) (.slice none 0 0)
     simp only [World.size_alloc] at rz
     clear b0 b1 hx hy
     go_enter Tryz.func113, Tryz.ntmps113
     go_wp2_with fail
     generalize (w.alloc (.cells #[Value.bool (sg q.num), Value.slice A n c, Value.slice B m d] 33)).alloc (.cells #[Value.bool false, Value.slice none 0 0, Value.slice none 0 0] 33) = w1 at *
     have HR0 := Lib.hid r0
     have HZ := Lib.hid rz
     have Hq : RowKit.Hid (w.heap.size ≤ w.heap.size + 1) := Nat.le_succ _
     clear r0 rz
     refine (pSizeT_c HX.out.nn h1 0 HN.out 0 rfl P HP.out false KP.out).mono ?_
     rintro e w2 ⟨A3, n3, c3, rfl, h3, bn⟩
     replace HX := Lib.hid (HX.out.below bn)
     replace HY := Lib.hid (HY.out.below bn)
     replace HR0 := Lib.hid (HR0.out.below bn)
     replace HZ := Lib.hid (HZ.out.below bn)
     replace HW := Lib.hid (below_two HW.out bn)
     clear bn h3
     have c2 := HR0.out.c2
     go_wp2_with fail
     clear c2
     refine (pSizeT_c HY.out h2 0 HN.out 0 rfl D HD.out true KD.out).mono ?_
     rintro e w2 ⟨A4, n4, c4, rfl, h4, bn⟩
     have H4 := Lib.hid (h4 rfl)
     replace HX := Lib.hid (HX.out.below bn)
     replace HY := Lib.hid (HY.out.below bn)
     replace HR0 := Lib.hid (HR0.out.below bn)
     replace HZ := Lib.hid (HZ.out.below bn)
     replace HW := Lib.hid (below_two HW.out bn)
     clear bn h4
     have e0 := HZ.out.c0
     have e1 := HZ.out.c1
     have e2 := HZ.out.c2
     have f0 := HZ.out.free 0
     have f1 := HZ.out.free 1
     have f2 := HZ.out.free 2
     have HF := Lib.hid (HZ.out.fill (.bool false) (.slice none 0 0) (.slice none 0 0))
     have HB := Lib.hid (below_fill3' HW.out Hq.out (.bool false) (.slice none 0 0) (.slice none 0 0))
     go_wp2
     refine bodyPost_ret (results_mixed rfl _ _ _ 33 #[.bool false, .slice none 0 0, .slice none 0 0] (0, 0) _ (.int .i64 2) rfl rfl HF.out Tryz.underlying33 rfl rat_size) rfl ?_
     exact ⟨none, 0, 0, none, 0, 0, rfl, qt_none _ 0 0, HB.out⟩
   | true =>
    have KP := Lib.hid kp
    clear kp
    cases kd : fit64 D with
    | false =>
     have KD := Lib.hid kd
     clear kd
     have hf0 : fitsQ z = false := by rw [fits_of HT.out HBo.out]; simp [KP.out, KD.out]
     rw [limR_no hf0] at hR
     cases hR
     clear hf0
     have b0 := below_new w (.cells #[Value.bool (sg q.num), Value.slice A n c, Value.slice B m d] 33)
     have b1 := below_new (w.alloc (.cells #[Value.bool (sg q.num), Value.slice A n c, Value.slice B m d] 33)) (.cells #[Value.bool false, Value.slice none 0 0, Value.slice none 0 0] 33)
     have HW := Lib.hid (below_two b0 b1)
     have HX := Lib.hid (hx.below HW.out)
     have HY := Lib.hid (hy.below HW.out)
     have r0 := (row3_new w 33 (.bool (sg q.num)) (.slice A n c) (.slice B m d)).below b1
     have rz := row3_new (w.alloc (.cells #[Value.bool (sg q.num), Value.slice A n c, Value.slice B m d] 33)) 33 (.bool false) (.slice none 0 0) (.slice none 0 0)
     simp only [World.size_alloc] at rz
     clear b0 b1 hx hy
     go_enter Tryz.func113, Tryz.ntmps113
     go_wp2_with fail
     generalize (w.alloc (.cells #[Value.bool (sg q.num), Value.slice A n c, Value.slice B m d] 33)).alloc (.cells #[Value.bool false, Value.slice none 0 0, Value.slice none 0 0] 33) = w1 at *
     have HR0 := Lib.hid r0
     have HZ := Lib.hid rz
     have Hq : RowKit.Hid (w.heap.size ≤ w.heap.size + 1) := Nat.le_succ _
     clear r0 rz
     refine (pSizeT_c HX.out.nn h1 0 HN.out 0 rfl P HP.out true KP.out).mono ?_
     rintro e w2 ⟨A3, n3, c3, rfl, h3, bn⟩
     have H3 := Lib.hid (h3 rfl)
     replace HX := Lib.hid (HX.out.below bn)
     replace HY := Lib.hid (HY.out.below bn)
     replace HR0 := Lib.hid (HR0.out.below bn)
     replace HZ := Lib.hid (HZ.out.below bn)
     replace HW := Lib.hid (below_two HW.out bn)
     clear bn h3
     have c2 := HR0.out.c2
     go_wp2_with fail
     clear c2
     refine (pSizeT_c HY.out h2 0 HN.out 0 rfl D HD.out false KD.out).mono ?_
     rintro e w2 ⟨A4, n4, c4, rfl, h4, bn⟩
     replace HX := Lib.hid (HX.out.below bn)
     replace HY := Lib.hid (HY.out.below bn)
     replace HR0 := Lib.hid (HR0.out.below bn)
     replace HZ := Lib.hid (HZ.out.below bn)
     replace H3 := Lib.hid (H3.out.below bn)
     replace HW := Lib.hid (below_two HW.out bn)
     clear bn h4
     have e0 := HZ.out.c0
     have e1 := HZ.out.c1
     have e2 := HZ.out.c2
     have f0 := HZ.out.free 0
     have f1 := HZ.out.free 1
     have f2 := HZ.out.free 2
     have HF := Lib.hid (HZ.out.fill (.bool false) (.slice none 0 0) (.slice none 0 0))
     have HB := Lib.hid (below_fill3' HW.out Hq.out (.bool false) (.slice none 0 0) (.slice none 0 0))
     go_wp2
     refine bodyPost_ret (results_mixed rfl _ _ _ 33 #[.bool false, .slice none 0 0, .slice none 0 0] (0, 0) _ (.int .i64 2) rfl rfl HF.out Tryz.underlying33 rfl rat_size) rfl ?_
     exact ⟨none, 0, 0, none, 0, 0, rfl, qt_none _ 0 0, HB.out⟩
    | true =>
     have KD := Lib.hid kd
     clear kd
     have hf0 : fitsQ z = true := by rw [fits_of HT.out HBo.out]; simp [KP.out, KD.out]
     rw [limR_yes hf0] at hR
     cases hR
     have Hf := Lib.hid hf0
     clear hf0
     cases ks : sg q.num with
     | false =>
      have b0 := below_new w (.cells #[Value.bool false, Value.slice A n c, Value.slice B m d] 33)
      have b1 := below_new (w.alloc (.cells #[Value.bool false, Value.slice A n c, Value.slice B m d] 33)) (.cells #[Value.bool false, Value.slice none 0 0, Value.slice none 0 0] 33)
      have HW := Lib.hid (below_two b0 b1)
      have HX := Lib.hid (hx.below HW.out)
      have HY := Lib.hid (hy.below HW.out)
      have r0 := (row3_new w 33 (.bool false) (.slice A n c) (.slice B m d)).below b1
      have rz := row3_new (w.alloc (.cells #[Value.bool false, Value.slice A n c, Value.slice B m d] 33)) 33 (.bool false) (.slice none 0 0) (.slice none 0 0)
      simp only [World.size_alloc] at rz
      clear b0 b1 hx hy
      go_enter Tryz.func113, Tryz.ntmps113
      go_wp2_with fail
      generalize (w.alloc (.cells #[Value.bool false, Value.slice A n c, Value.slice B m d] 33)).alloc (.cells #[Value.bool false, Value.slice none 0 0, Value.slice none 0 0] 33) = w1 at *
      have HR0 := Lib.hid r0
      have HZ := Lib.hid rz
      have Hq : RowKit.Hid (w.heap.size ≤ w.heap.size + 1) := Nat.le_succ _
      clear r0 rz
      refine (pSizeT_c HX.out.nn h1 0 HN.out 0 rfl P HP.out true KP.out).mono ?_
      rintro e w2 ⟨A3, n3, c3, rfl, h3, bn⟩
      have H3 := Lib.hid (h3 rfl)
      replace HX := Lib.hid (HX.out.below bn)
      replace HY := Lib.hid (HY.out.below bn)
      replace HR0 := Lib.hid (HR0.out.below bn)
      replace HZ := Lib.hid (HZ.out.below bn)
      replace HW := Lib.hid (below_two HW.out bn)
      clear bn h3
      have c2 := HR0.out.c2
      go_wp2_with fail
      clear c2
      refine (pSizeT_c HY.out h2 0 HN.out 0 rfl D HD.out true KD.out).mono ?_
      rintro e w2 ⟨A4, n4, c4, rfl, h4, bn⟩
      have H4 := Lib.hid (h4 rfl)
      replace HX := Lib.hid (HX.out.below bn)
      replace HY := Lib.hid (HY.out.below bn)
      replace HR0 := Lib.hid (HR0.out.below bn)
      replace HZ := Lib.hid (HZ.out.below bn)
      replace H3 := Lib.hid (H3.out.below bn)
      replace HW := Lib.hid (below_two HW.out bn)
      clear bn h4
      have HB1 : RowKit.Hid (sg z.num = false) := by show _ = _; rw [HSG.out, ks]; rfl
      have Z5 : RowKit.Hid (ZZ w2 (sg z.num) A3 n3 c3 (limbs z.num.natAbs) z.num 64) := by
       have h := ZZ.of (s := sg z.num) H3.out
       rw [← HT.out, zz_sg] at h
       exact h
      have Z6 : RowKit.Hid (NN w2 A4 n4 c4 (limbs z.den) z.den 64) := by
       have h := H4.out
       rw [← HBo.out] at h
       exact h
      clear H3 H4
      have c0 := HR0.out.c0
      have e0 := HZ.out.c0
      have e1 := HZ.out.c1
      have e2 := HZ.out.c2
      have f0 := HZ.out.free 0
      have f1 := HZ.out.free 1
      have f2 := HZ.out.free 2
      have hNo := HZ.out.noLimb (by intro v e; cases e) (by intro v e; cases e) (by intro v e; cases e)
      have HF := Lib.hid (HZ.out.fill (.bool (sg z.num)) (.slice A3 n3 c3) (.slice A4 n4 c4))
      have HPn := Lib.hid ((qt_some Z5.out Z6.out Hf.out).fillR3 hNo (.bool (sg z.num)) (.slice A3 n3 c3) (.slice A4 n4 c4))
      have HB := Lib.hid (below_fill3' HW.out Hq.out (.bool (sg z.num)) (.slice A3 n3 c3) (.slice A4 n4 c4))
      rw [HB1.out] at HF HPn HB
      clear hNo
      go_wp2
      refine bodyPost_ret (results_mixed rfl _ _ _ 33 #[.bool false, .slice A3 n3 c3, .slice A4 n4 c4] (0, 0) _ (.int .i64 0) rfl rfl HF.out Tryz.underlying33 rfl rat_size) rfl ?_
      exact ⟨A3, n3, c3, A4, n4, c4, by rw [← HB1.out]; rfl, HPn.out, HB.out⟩
     | true =>
      by_cases hodd : 0 % 2 = 1
      · exact absurd hodd (by decide)
      · have b0 := below_new w (.cells #[Value.bool true, Value.slice A n c, Value.slice B m d] 33)
        have b1 := below_new (w.alloc (.cells #[Value.bool true, Value.slice A n c, Value.slice B m d] 33)) (.cells #[Value.bool false, Value.slice none 0 0, Value.slice none 0 0] 33)
        have HW := Lib.hid (below_two b0 b1)
        have HX := Lib.hid (hx.below HW.out)
        have HY := Lib.hid (hy.below HW.out)
        have r0 := (row3_new w 33 (.bool true) (.slice A n c) (.slice B m d)).below b1
        have rz := row3_new (w.alloc (.cells #[Value.bool true, Value.slice A n c, Value.slice B m d] 33)) 33 (.bool false) (.slice none 0 0) (.slice none 0 0)
        simp only [World.size_alloc] at rz
        clear b0 b1 hx hy
        go_enter Tryz.func113, Tryz.ntmps113
        go_wp2_with fail
        generalize (w.alloc (.cells #[Value.bool true, Value.slice A n c, Value.slice B m d] 33)).alloc (.cells #[Value.bool false, Value.slice none 0 0, Value.slice none 0 0] 33) = w1 at *
        have HR0 := Lib.hid r0
        have HZ := Lib.hid rz
        have Hq : RowKit.Hid (w.heap.size ≤ w.heap.size + 1) := Nat.le_succ _
        clear r0 rz
        refine (pSizeT_c HX.out.nn h1 0 HN.out 0 rfl P HP.out true KP.out).mono ?_
        rintro e w2 ⟨A3, n3, c3, rfl, h3, bn⟩
        have H3 := Lib.hid (h3 rfl)
        replace HX := Lib.hid (HX.out.below bn)
        replace HY := Lib.hid (HY.out.below bn)
        replace HR0 := Lib.hid (HR0.out.below bn)
        replace HZ := Lib.hid (HZ.out.below bn)
        replace HW := Lib.hid (below_two HW.out bn)
        clear bn h3
        have c2 := HR0.out.c2
        go_wp2_with fail
        clear c2
        refine (pSizeT_c HY.out h2 0 HN.out 0 rfl D HD.out true KD.out).mono ?_
        rintro e w2 ⟨A4, n4, c4, rfl, h4, bn⟩
        have H4 := Lib.hid (h4 rfl)
        replace HX := Lib.hid (HX.out.below bn)
        replace HY := Lib.hid (HY.out.below bn)
        replace HR0 := Lib.hid (HR0.out.below bn)
        replace HZ := Lib.hid (HZ.out.below bn)
        replace H3 := Lib.hid (H3.out.below bn)
        replace HW := Lib.hid (below_two HW.out bn)
        clear bn h4
        have HB1 : RowKit.Hid (sg z.num = false) := by show _ = _; rw [HSG.out, ks]; rw [decide_eq_false hodd]; rfl
        have Z5 : RowKit.Hid (ZZ w2 (sg z.num) A3 n3 c3 (limbs z.num.natAbs) z.num 64) := by
         have h := ZZ.of (s := sg z.num) H3.out
         rw [← HT.out, zz_sg] at h
         exact h
        have Z6 : RowKit.Hid (NN w2 A4 n4 c4 (limbs z.den) z.den 64) := by
         have h := H4.out
         rw [← HBo.out] at h
         exact h
        clear H3 H4
        have c0 := HR0.out.c0
        have e0 := HZ.out.c0
        have e1 := HZ.out.c1
        have e2 := HZ.out.c2
        have f0 := HZ.out.free 0
        have f1 := HZ.out.free 1
        have f2 := HZ.out.free 2
        have hNo := HZ.out.noLimb (by intro v e; cases e) (by intro v e; cases e) (by intro v e; cases e)
        have HF := Lib.hid (HZ.out.fill (.bool (sg z.num)) (.slice A3 n3 c3) (.slice A4 n4 c4))
        have HPn := Lib.hid ((qt_some Z5.out Z6.out Hf.out).fillR3 hNo (.bool (sg z.num)) (.slice A3 n3 c3) (.slice A4 n4 c4))
        have HB := Lib.hid (below_fill3' HW.out Hq.out (.bool (sg z.num)) (.slice A3 n3 c3) (.slice A4 n4 c4))
        rw [HB1.out] at HF HPn HB
        clear hNo
        go_wp2
        refine bodyPost_ret (results_mixed rfl _ _ _ 33 #[.bool false, .slice A3 n3 c3, .slice A4 n4 c4] (0, 0) _ (.int .i64 0) rfl rfl HF.out Tryz.underlying33 rfl rat_size) rfl ?_
        exact ⟨A3, n3, c3, A4, n4, c4, by rw [← HB1.out]; rfl, HPn.out, HB.out⟩
 · by_cases kv : 0 ≤ v
   · obtain ⟨N, hN⟩ : ∃ N : Nat, v = (N : Int) := ⟨v.toNat, by omega⟩
     have hk := pow_up q N
     rw [← hN, hz] at hk
     obtain ⟨P, hP⟩ : ∃ P : Nat, q.num.natAbs ^ N = P := ⟨_, rfl⟩
     obtain ⟨D, hD⟩ : ∃ D : Nat, q.den ^ N = D := ⟨_, rfl⟩
     rw [hP, hD] at hk
     obtain ⟨hk1, hk2, hk3⟩ := hk
     have HP := Lib.hid hP
     have HD := Lib.hid hD
     have HT := Lib.hid hk1
     have HBo := Lib.hid hk2
     have HSG := Lib.hid hk3
     clear hP hD hk1 hk2 hk3
     have HN : RowKit.Hid (N ≤ 600) := by show _ ≤ _; omega
     subst hN
     clear hz hq
     have kn : 0 < N := by omega
     have kx : -(N : Int) < (N : Int) := by omega
     clear kz kv
     cases kp : fit64 P with
     | false =>
      have KP := Lib.hid kp
      clear kp
      cases kd : fit64 D with
      | false =>
       have KD := Lib.hid kd
       clear kd
       have hf0 : fitsQ z = false := by rw [fits_of HT.out HBo.out]; simp [KP.out, KD.out]
       rw [limR_no hf0] at hR
       cases hR
       clear hf0
       have b0 := below_new w (.cells #[Value.bool (sg q.num), Value.slice A n c, Value.slice B m d] 33)
       have b1 := below_new (w.alloc (.cells #[Value.bool (sg q.num), Value.slice A n c, Value.slice B m d] 33)) (.cells #[Value.bool false, Value.slice none 0 0, Value.slice none 0 0] 33)
       have HW := Lib.hid (below_two b0 b1)
       have HX := Lib.hid (hx.below HW.out)
       have HY := Lib.hid (hy.below HW.out)
       have r0 := (row3_new w 33 (.bool (sg q.num)) (.slice A n c) (.slice B m d)).below b1
       have rz := row3_new (w.alloc (.cells #[Value.bool (sg q.num), Value.slice A n c, Value.slice B m d] 33)) 33 (.bool false) (.slice none 0 0) (.slice none 0 0)
       simp only [World.size_alloc] at rz
       clear b0 b1 hx hy
       go_enter Tryz.func113, Tryz.ntmps113
       go_wp2_with fail
       generalize (w.alloc (.cells #[Value.bool (sg q.num), Value.slice A n c, Value.slice B m d] 33)).alloc (.cells #[Value.bool false, Value.slice none 0 0, Value.slice none 0 0] 33) = w1 at *
       have HR0 := Lib.hid r0
       have HZ := Lib.hid rz
       have Hq : RowKit.Hid (w.heap.size ≤ w.heap.size + 1) := Nat.le_succ _
       clear r0 rz
       refine (pSizeT_c HX.out.nn h1 N HN.out (N : Int) rfl P HP.out false KP.out).mono ?_
       rintro e w2 ⟨A3, n3, c3, rfl, h3, bn⟩
       replace HX := Lib.hid (HX.out.below bn)
       replace HY := Lib.hid (HY.out.below bn)
       replace HR0 := Lib.hid (HR0.out.below bn)
       replace HZ := Lib.hid (HZ.out.below bn)
       replace HW := Lib.hid (below_two HW.out bn)
       clear bn h3
       have c2 := HR0.out.c2
       go_wp2_with fail
       clear c2
       refine (pSizeT_c HY.out h2 N HN.out (N : Int) rfl D HD.out false KD.out).mono ?_
       rintro e w2 ⟨A4, n4, c4, rfl, h4, bn⟩
       replace HX := Lib.hid (HX.out.below bn)
       replace HY := Lib.hid (HY.out.below bn)
       replace HR0 := Lib.hid (HR0.out.below bn)
       replace HZ := Lib.hid (HZ.out.below bn)
       replace HW := Lib.hid (below_two HW.out bn)
       clear bn h4
       have e0 := HZ.out.c0
       have e1 := HZ.out.c1
       have e2 := HZ.out.c2
       have f0 := HZ.out.free 0
       have f1 := HZ.out.free 1
       have f2 := HZ.out.free 2
       have HF := Lib.hid (HZ.out.fill (.bool false) (.slice none 0 0) (.slice none 0 0))
       have HB := Lib.hid (below_fill3' HW.out Hq.out (.bool false) (.slice none 0 0) (.slice none 0 0))
       go_wp2
       refine bodyPost_ret (results_mixed rfl _ _ _ 33 #[.bool false, .slice none 0 0, .slice none 0 0] (0, 0) _ (.int .i64 2) rfl rfl HF.out Tryz.underlying33 rfl rat_size) rfl ?_
       exact ⟨none, 0, 0, none, 0, 0, rfl, qt_none _ 0 0, HB.out⟩
      | true =>
       have KD := Lib.hid kd
       clear kd
       have hf0 : fitsQ z = false := by rw [fits_of HT.out HBo.out]; simp [KP.out, KD.out]
       rw [limR_no hf0] at hR
       cases hR
       clear hf0
       have b0 := below_new w (.cells #[Value.bool (sg q.num), Value.slice A n c, Value.slice B m d] 33)
       have b1 := below_new (w.alloc (.cells #[Value.bool (sg q.num), Value.slice A n c, Value.slice B m d] 33)) (.cells #[Value.bool false, Value.slice none 0 0, Value.slice none 0 0] 33)
       have HW := Lib.hid (below_two b0 b1)
       have HX := Lib.hid (hx.below HW.out)
       have HY := Lib.hid (hy.below HW.out)
       have r0 := (row3_new w 33 (.bool (sg q.num)) (.slice A n c) (.slice B m d)).below b1
       have rz := row3_new (w.alloc (.cells #[Value.bool (sg q.num), Value.slice A n c, Value.slice B m d] 33)) 33 (.bool false) (.slice none 0 0) (.slice none 0 0)
       simp only [World.size_alloc] at rz
       clear b0 b1 hx hy
       go_enter Tryz.func113, Tryz.ntmps113
       go_wp2_with fail
       generalize (w.alloc (.cells #[Value.bool (sg q.num), Value.slice A n c, Value.slice B m d] 33)).alloc (.cells #[Value.bool false, Value.slice none 0 0, Value.slice none 0 0] 33) = w1 at *
       have HR0 := Lib.hid r0
       have HZ := Lib.hid rz
       have Hq : RowKit.Hid (w.heap.size ≤ w.heap.size + 1) := Nat.le_succ _
       clear r0 rz
       refine (pSizeT_c HX.out.nn h1 N HN.out (N : Int) rfl P HP.out false KP.out).mono ?_
       rintro e w2 ⟨A3, n3, c3, rfl, h3, bn⟩
       replace HX := Lib.hid (HX.out.below bn)
       replace HY := Lib.hid (HY.out.below bn)
       replace HR0 := Lib.hid (HR0.out.below bn)
       replace HZ := Lib.hid (HZ.out.below bn)
       replace HW := Lib.hid (below_two HW.out bn)
       clear bn h3
       have c2 := HR0.out.c2
       go_wp2_with fail
       clear c2
       refine (pSizeT_c HY.out h2 N HN.out (N : Int) rfl D HD.out true KD.out).mono ?_
       rintro e w2 ⟨A4, n4, c4, rfl, h4, bn⟩
       have H4 := Lib.hid (h4 rfl)
       replace HX := Lib.hid (HX.out.below bn)
       replace HY := Lib.hid (HY.out.below bn)
       replace HR0 := Lib.hid (HR0.out.below bn)
       replace HZ := Lib.hid (HZ.out.below bn)
       replace HW := Lib.hid (below_two HW.out bn)
       clear bn h4
       have e0 := HZ.out.c0
       have e1 := HZ.out.c1
       have e2 := HZ.out.c2
       have f0 := HZ.out.free 0
       have f1 := HZ.out.free 1
       have f2 := HZ.out.free 2
       have HF := Lib.hid (HZ.out.fill (.bool false) (.slice none 0 0) (.slice none 0 0))
       have HB := Lib.hid (below_fill3' HW.out Hq.out (.bool false) (.slice none 0 0) (.slice none 0 0))
       go_wp2
       refine bodyPost_ret (results_mixed rfl _ _ _ 33 #[.bool false, .slice none 0 0, .slice none 0 0] (0, 0) _ (.int .i64 2) rfl rfl HF.out Tryz.underlying33 rfl rat_size) rfl ?_
       exact ⟨none, 0, 0, none, 0, 0, rfl, qt_none _ 0 0, HB.out⟩
     | true =>
      have KP := Lib.hid kp
      clear kp
      cases kd : fit64 D with
      | false =>
       have KD := Lib.hid kd
       clear kd
       have hf0 : fitsQ z = false := by rw [fits_of HT.out HBo.out]; simp [KP.out, KD.out]
       rw [limR_no hf0] at hR
       cases hR
       clear hf0
       have b0 := below_new w (.cells #[Value.bool (sg q.num), Value.slice A n c, Value.slice B m d] 33)
       have b1 := below_new (w.alloc (.cells #[Value.bool (sg q.num), Value.slice A n c, Value.slice B m d] 33)) (.cells #[Value.bool false, Value.slice none 0 0, Value.slice none 0 0] 33)
       have HW := Lib.hid (below_two b0 b1)
       have HX := Lib.hid (hx.below HW.out)
       have HY := Lib.hid (hy.below HW.out)
       have r0 := (row3_new w 33 (.bool (sg q.num)) (.slice A n c) (.slice B m d)).below b1
       have rz := row3_new (w.alloc (.cells #[Value.bool (sg q.num), Value.slice A n c, Value.slice B m d] 33)) 33 (.bool false) (.slice none 0 0) (.slice none 0 0)
       simp only [World.size_alloc] at rz
       clear b0 b1 hx hy
       go_enter Tryz.func113, Tryz.ntmps113
       go_wp2_with fail
       generalize (w.alloc (.cells #[Value.bool (sg q.num), Value.slice A n c, Value.slice B m d] 33)).alloc (.cells #[Value.bool false, Value.slice none 0 0, Value.slice none 0 0] 33) = w1 at *
       have HR0 := Lib.hid r0
       have HZ := Lib.hid rz
       have Hq : RowKit.Hid (w.heap.size ≤ w.heap.size + 1) := Nat.le_succ _
       clear r0 rz
       refine (pSizeT_c HX.out.nn h1 N HN.out (N : Int) rfl P HP.out true KP.out).mono ?_
       rintro e w2 ⟨A3, n3, c3, rfl, h3, bn⟩
       have H3 := Lib.hid (h3 rfl)
       replace HX := Lib.hid (HX.out.below bn)
       replace HY := Lib.hid (HY.out.below bn)
       replace HR0 := Lib.hid (HR0.out.below bn)
       replace HZ := Lib.hid (HZ.out.below bn)
       replace HW := Lib.hid (below_two HW.out bn)
       clear bn h3
       have c2 := HR0.out.c2
       go_wp2_with fail
       clear c2
       refine (pSizeT_c HY.out h2 N HN.out (N : Int) rfl D HD.out false KD.out).mono ?_
       rintro e w2 ⟨A4, n4, c4, rfl, h4, bn⟩
       replace HX := Lib.hid (HX.out.below bn)
       replace HY := Lib.hid (HY.out.below bn)
       replace HR0 := Lib.hid (HR0.out.below bn)
       replace HZ := Lib.hid (HZ.out.below bn)
       replace H3 := Lib.hid (H3.out.below bn)
       replace HW := Lib.hid (below_two HW.out bn)
       clear bn h4
       have e0 := HZ.out.c0
       have e1 := HZ.out.c1
       have e2 := HZ.out.c2
       have f0 := HZ.out.free 0
       have f1 := HZ.out.free 1
       have f2 := HZ.out.free 2
       have HF := Lib.hid (HZ.out.fill (.bool false) (.slice none 0 0) (.slice none 0 0))
       have HB := Lib.hid (below_fill3' HW.out Hq.out (.bool false) (.slice none 0 0) (.slice none 0 0))
       go_wp2
       refine bodyPost_ret (results_mixed rfl _ _ _ 33 #[.bool false, .slice none 0 0, .slice none 0 0] (0, 0) _ (.int .i64 2) rfl rfl HF.out Tryz.underlying33 rfl rat_size) rfl ?_
       exact ⟨none, 0, 0, none, 0, 0, rfl, qt_none _ 0 0, HB.out⟩
      | true =>
       have KD := Lib.hid kd
       clear kd
       have hf0 : fitsQ z = true := by rw [fits_of HT.out HBo.out]; simp [KP.out, KD.out]
       rw [limR_yes hf0] at hR
       cases hR
       have Hf := Lib.hid hf0
       clear hf0
       cases ks : sg q.num with
       | false =>
        have b0 := below_new w (.cells #[Value.bool false, Value.slice A n c, Value.slice B m d] 33)
        have b1 := below_new (w.alloc (.cells #[Value.bool false, Value.slice A n c, Value.slice B m d] 33)) (.cells #[Value.bool false, Value.slice none 0 0, Value.slice none 0 0] 33)
        have HW := Lib.hid (below_two b0 b1)
        have HX := Lib.hid (hx.below HW.out)
        have HY := Lib.hid (hy.below HW.out)
        have r0 := (row3_new w 33 (.bool false) (.slice A n c) (.slice B m d)).below b1
        have rz := row3_new (w.alloc (.cells #[Value.bool false, Value.slice A n c, Value.slice B m d] 33)) 33 (.bool false) (.slice none 0 0) (.slice none 0 0)
        simp only [World.size_alloc] at rz
        clear b0 b1 hx hy
        go_enter Tryz.func113, Tryz.ntmps113
        go_wp2_with fail
        generalize (w.alloc (.cells #[Value.bool false, Value.slice A n c, Value.slice B m d] 33)).alloc (.cells #[Value.bool false, Value.slice none 0 0, Value.slice none 0 0] 33) = w1 at *
        have HR0 := Lib.hid r0
        have HZ := Lib.hid rz
        have Hq : RowKit.Hid (w.heap.size ≤ w.heap.size + 1) := Nat.le_succ _
        clear r0 rz
        refine (pSizeT_c HX.out.nn h1 N HN.out (N : Int) rfl P HP.out true KP.out).mono ?_
        rintro e w2 ⟨A3, n3, c3, rfl, h3, bn⟩
        have H3 := Lib.hid (h3 rfl)
        replace HX := Lib.hid (HX.out.below bn)
        replace HY := Lib.hid (HY.out.below bn)
        replace HR0 := Lib.hid (HR0.out.below bn)
        replace HZ := Lib.hid (HZ.out.below bn)
        replace HW := Lib.hid (below_two HW.out bn)
        clear bn h3
        have c2 := HR0.out.c2
        go_wp2_with fail
        clear c2
        refine (pSizeT_c HY.out h2 N HN.out (N : Int) rfl D HD.out true KD.out).mono ?_
        rintro e w2 ⟨A4, n4, c4, rfl, h4, bn⟩
        have H4 := Lib.hid (h4 rfl)
        replace HX := Lib.hid (HX.out.below bn)
        replace HY := Lib.hid (HY.out.below bn)
        replace HR0 := Lib.hid (HR0.out.below bn)
        replace HZ := Lib.hid (HZ.out.below bn)
        replace H3 := Lib.hid (H3.out.below bn)
        replace HW := Lib.hid (below_two HW.out bn)
        clear bn h4
        have HB1 : RowKit.Hid (sg z.num = false) := by show _ = _; rw [HSG.out, ks]; rfl
        have Z5 : RowKit.Hid (ZZ w2 (sg z.num) A3 n3 c3 (limbs z.num.natAbs) z.num 64) := by
         have h := ZZ.of (s := sg z.num) H3.out
         rw [← HT.out, zz_sg] at h
         exact h
        have Z6 : RowKit.Hid (NN w2 A4 n4 c4 (limbs z.den) z.den 64) := by
         have h := H4.out
         rw [← HBo.out] at h
         exact h
        clear H3 H4
        have c0 := HR0.out.c0
        have e0 := HZ.out.c0
        have e1 := HZ.out.c1
        have e2 := HZ.out.c2
        have f0 := HZ.out.free 0
        have f1 := HZ.out.free 1
        have f2 := HZ.out.free 2
        have hNo := HZ.out.noLimb (by intro v e; cases e) (by intro v e; cases e) (by intro v e; cases e)
        have HF := Lib.hid (HZ.out.fill (.bool (sg z.num)) (.slice A3 n3 c3) (.slice A4 n4 c4))
        have HPn := Lib.hid ((qt_some Z5.out Z6.out Hf.out).fillR3 hNo (.bool (sg z.num)) (.slice A3 n3 c3) (.slice A4 n4 c4))
        have HB := Lib.hid (below_fill3' HW.out Hq.out (.bool (sg z.num)) (.slice A3 n3 c3) (.slice A4 n4 c4))
        rw [HB1.out] at HF HPn HB
        clear hNo
        go_wp2
        refine bodyPost_ret (results_mixed rfl _ _ _ 33 #[.bool false, .slice A3 n3 c3, .slice A4 n4 c4] (0, 0) _ (.int .i64 0) rfl rfl HF.out Tryz.underlying33 rfl rat_size) rfl ?_
        exact ⟨A3, n3, c3, A4, n4, c4, by rw [← HB1.out]; rfl, HPn.out, HB.out⟩
       | true =>
        by_cases hodd : N % 2 = 1
        · have b0 := below_new w (.cells #[Value.bool true, Value.slice A n c, Value.slice B m d] 33)
          have b1 := below_new (w.alloc (.cells #[Value.bool true, Value.slice A n c, Value.slice B m d] 33)) (.cells #[Value.bool false, Value.slice none 0 0, Value.slice none 0 0] 33)
          have HW := Lib.hid (below_two b0 b1)
          have HX := Lib.hid (hx.below HW.out)
          have HY := Lib.hid (hy.below HW.out)
          have r0 := (row3_new w 33 (.bool true) (.slice A n c) (.slice B m d)).below b1
          have rz := row3_new (w.alloc (.cells #[Value.bool true, Value.slice A n c, Value.slice B m d] 33)) 33 (.bool false) (.slice none 0 0) (.slice none 0 0)
          simp only [World.size_alloc] at rz
          clear b0 b1 hx hy
          go_enter Tryz.func113, Tryz.ntmps113
          go_wp2_with fail
          generalize (w.alloc (.cells #[Value.bool true, Value.slice A n c, Value.slice B m d] 33)).alloc (.cells #[Value.bool false, Value.slice none 0 0, Value.slice none 0 0] 33) = w1 at *
          have HR0 := Lib.hid r0
          have HZ := Lib.hid rz
          have Hq : RowKit.Hid (w.heap.size ≤ w.heap.size + 1) := Nat.le_succ _
          clear r0 rz
          refine (pSizeT_c HX.out.nn h1 N HN.out (N : Int) rfl P HP.out true KP.out).mono ?_
          rintro e w2 ⟨A3, n3, c3, rfl, h3, bn⟩
          have H3 := Lib.hid (h3 rfl)
          replace HX := Lib.hid (HX.out.below bn)
          replace HY := Lib.hid (HY.out.below bn)
          replace HR0 := Lib.hid (HR0.out.below bn)
          replace HZ := Lib.hid (HZ.out.below bn)
          replace HW := Lib.hid (below_two HW.out bn)
          clear bn h3
          have c2 := HR0.out.c2
          go_wp2_with fail
          clear c2
          refine (pSizeT_c HY.out h2 N HN.out (N : Int) rfl D HD.out true KD.out).mono ?_
          rintro e w2 ⟨A4, n4, c4, rfl, h4, bn⟩
          have H4 := Lib.hid (h4 rfl)
          replace HX := Lib.hid (HX.out.below bn)
          replace HY := Lib.hid (HY.out.below bn)
          replace HR0 := Lib.hid (HR0.out.below bn)
          replace HZ := Lib.hid (HZ.out.below bn)
          replace H3 := Lib.hid (H3.out.below bn)
          replace HW := Lib.hid (below_two HW.out bn)
          clear bn h4
          have HB1 : RowKit.Hid (sg z.num = true) := by show _ = _; rw [HSG.out, ks]; rw [decide_eq_true hodd]; rfl
          have hr1 : (((N : Int) % 2) != 0) = true := by rw [bne_iff_ne]; omega
          have Z5 : RowKit.Hid (ZZ w2 (sg z.num) A3 n3 c3 (limbs z.num.natAbs) z.num 64) := by
           have h := ZZ.of (s := sg z.num) H3.out
           rw [← HT.out, zz_sg] at h
           exact h
          have Z6 : RowKit.Hid (NN w2 A4 n4 c4 (limbs z.den) z.den 64) := by
           have h := H4.out
           rw [← HBo.out] at h
           exact h
          clear H3 H4
          have c0 := HR0.out.c0
          have e0 := HZ.out.c0
          have e1 := HZ.out.c1
          have e2 := HZ.out.c2
          have f0 := HZ.out.free 0
          have f1 := HZ.out.free 1
          have f2 := HZ.out.free 2
          have hNo := HZ.out.noLimb (by intro v e; cases e) (by intro v e; cases e) (by intro v e; cases e)
          have HF := Lib.hid (HZ.out.fill (.bool (sg z.num)) (.slice A3 n3 c3) (.slice A4 n4 c4))
          have HPn := Lib.hid ((qt_some Z5.out Z6.out Hf.out).fillR3 hNo (.bool (sg z.num)) (.slice A3 n3 c3) (.slice A4 n4 c4))
          have HB := Lib.hid (below_fill3' HW.out Hq.out (.bool (sg z.num)) (.slice A3 n3 c3) (.slice A4 n4 c4))
          rw [HB1.out] at HF HPn HB
          clear hNo
          go_wp2
          refine bodyPost_ret (results_mixed rfl _ _ _ 33 #[.bool true, .slice A3 n3 c3, .slice A4 n4 c4] (0, 0) _ (.int .i64 0) rfl rfl HF.out Tryz.underlying33 rfl rat_size) rfl ?_
          exact ⟨A3, n3, c3, A4, n4, c4, by rw [← HB1.out]; rfl, HPn.out, HB.out⟩
        · have b0 := below_new w (.cells #[Value.bool true, Value.slice A n c, Value.slice B m d] 33)
          have b1 := below_new (w.alloc (.cells #[Value.bool true, Value.slice A n c, Value.slice B m d] 33)) (.cells #[Value.bool false, Value.slice none 0 0, Value.slice none 0 0] 33)
          have HW := Lib.hid (below_two b0 b1)
          have HX := Lib.hid (hx.below HW.out)
          have HY := Lib.hid (hy.below HW.out)
          have r0 := (row3_new w 33 (.bool true) (.slice A n c) (.slice B m d)).below b1
          have rz := row3_new (w.alloc (.cells #[Value.bool true, Value.slice A n c, Value.slice B m d] 33)) 33 (.bool false) (.slice none 0 0) (.slice none 0 0)
          simp only [World.size_alloc] at rz
          clear b0 b1 hx hy
          go_enter Tryz.func113, Tryz.ntmps113
          go_wp2_with fail
          generalize (w.alloc (.cells #[Value.bool true, Value.slice A n c, Value.slice B m d] 33)).alloc (.cells #[Value.bool false, Value.slice none 0 0, Value.slice none 0 0] 33) = w1 at *
          have HR0 := Lib.hid r0
          have HZ := Lib.hid rz
          have Hq : RowKit.Hid (w.heap.size ≤ w.heap.size + 1) := Nat.le_succ _
          clear r0 rz
          refine (pSizeT_c HX.out.nn h1 N HN.out (N : Int) rfl P HP.out true KP.out).mono ?_
          rintro e w2 ⟨A3, n3, c3, rfl, h3, bn⟩
          have H3 := Lib.hid (h3 rfl)
          replace HX := Lib.hid (HX.out.below bn)
          replace HY := Lib.hid (HY.out.below bn)
          replace HR0 := Lib.hid (HR0.out.below bn)
          replace HZ := Lib.hid (HZ.out.below bn)
          replace HW := Lib.hid (below_two HW.out bn)
          clear bn h3
          have c2 := HR0.out.c2
          go_wp2_with fail
          clear c2
          refine (pSizeT_c HY.out h2 N HN.out (N : Int) rfl D HD.out true KD.out).mono ?_
          rintro e w2 ⟨A4, n4, c4, rfl, h4, bn⟩
          have H4 := Lib.hid (h4 rfl)
          replace HX := Lib.hid (HX.out.below bn)
          replace HY := Lib.hid (HY.out.below bn)
          replace HR0 := Lib.hid (HR0.out.below bn)
          replace HZ := Lib.hid (HZ.out.below bn)
          replace H3 := Lib.hid (H3.out.below bn)
          replace HW := Lib.hid (below_two HW.out bn)
          clear bn h4
          have HB1 : RowKit.Hid (sg z.num = false) := by show _ = _; rw [HSG.out, ks]; rw [decide_eq_false hodd]; rfl
          have hr1 : (((N : Int) % 2) != 0) = false := by rw [bne_eq_false_iff_eq]; omega
          have Z5 : RowKit.Hid (ZZ w2 (sg z.num) A3 n3 c3 (limbs z.num.natAbs) z.num 64) := by
           have h := ZZ.of (s := sg z.num) H3.out
           rw [← HT.out, zz_sg] at h
           exact h
          have Z6 : RowKit.Hid (NN w2 A4 n4 c4 (limbs z.den) z.den 64) := by
           have h := H4.out
           rw [← HBo.out] at h
           exact h
          clear H3 H4
          have c0 := HR0.out.c0
          have e0 := HZ.out.c0
          have e1 := HZ.out.c1
          have e2 := HZ.out.c2
          have f0 := HZ.out.free 0
          have f1 := HZ.out.free 1
          have f2 := HZ.out.free 2
          have hNo := HZ.out.noLimb (by intro v e; cases e) (by intro v e; cases e) (by intro v e; cases e)
          have HF := Lib.hid (HZ.out.fill (.bool (sg z.num)) (.slice A3 n3 c3) (.slice A4 n4 c4))
          have HPn := Lib.hid ((qt_some Z5.out Z6.out Hf.out).fillR3 hNo (.bool (sg z.num)) (.slice A3 n3 c3) (.slice A4 n4 c4))
          have HB := Lib.hid (below_fill3' HW.out Hq.out (.bool (sg z.num)) (.slice A3 n3 c3) (.slice A4 n4 c4))
          rw [HB1.out] at HF HPn HB
          clear hNo
          go_wp2
          refine bodyPost_ret (results_mixed rfl _ _ _ 33 #[.bool false, .slice A3 n3 c3, .slice A4 n4 c4] (0, 0) _ (.int .i64 0) rfl rfl HF.out Tryz.underlying33 rfl rat_size) rfl ?_
          exact ⟨A3, n3, c3, A4, n4, c4, by rw [← HB1.out]; rfl, HPn.out, HB.out⟩
   · obtain ⟨N, hN⟩ : ∃ N : Nat, v = -(N : Int) := ⟨(-v).toNat, by omega⟩
     have hk := pow_down (show q.num ≠ 0 by omega) N
     rw [← hN, hz] at hk
     obtain ⟨P, hP⟩ : ∃ P : Nat, q.num.natAbs ^ N = P := ⟨_, rfl⟩
     obtain ⟨D, hD⟩ : ∃ D : Nat, q.den ^ N = D := ⟨_, rfl⟩
     rw [hP, hD] at hk
     obtain ⟨hk1, hk2, hk3⟩ := hk
     have HP := Lib.hid hP
     have HD := Lib.hid hD
     have HT := Lib.hid hk1
     have HBo := Lib.hid hk2
     have HSG := Lib.hid hk3
     clear hP hD hk1 hk2 hk3
     have HN : RowKit.Hid (N ≤ 600) := by show _ ≤ _; omega
     have hN0 : 0 < N := by omega
     subst hN
     clear hz hq
     have kx : -(N : Int) < (N : Int) := by omega
     clear kz kv
     cases kp : fit64 P with
     | false =>
      have KP := Lib.hid kp
      clear kp
      cases kd : fit64 D with
      | false =>
       have KD := Lib.hid kd
       clear kd
       have hf0 : fitsQ z = false := by rw [fits_of HT.out HBo.out]; simp [KP.out, KD.out]
       rw [limR_no hf0] at hR
       cases hR
       clear hf0
       have b0 := below_new w (.cells #[Value.bool (sg q.num), Value.slice A n c, Value.slice B m d] 33)
       have b1 := below_new (w.alloc (.cells #[Value.bool (sg q.num), Value.slice A n c, Value.slice B m d] 33)) (.cells #[Value.bool false, Value.slice none 0 0, Value.slice none 0 0] 33)
       have HW := Lib.hid (below_two b0 b1)
       have HX := Lib.hid (hx.below HW.out)
       have HY := Lib.hid (hy.below HW.out)
       have r0 := (row3_new w 33 (.bool (sg q.num)) (.slice A n c) (.slice B m d)).below b1
       have rz := row3_new (w.alloc (.cells #[Value.bool (sg q.num), Value.slice A n c, Value.slice B m d] 33)) 33 (.bool false) (.slice none 0 0) (.slice none 0 0)
       simp only [World.size_alloc] at rz
       clear b0 b1 hx hy
       go_enter Tryz.func113, Tryz.ntmps113
       go_wp2_with fail
       generalize (w.alloc (.cells #[Value.bool (sg q.num), Value.slice A n c, Value.slice B m d] 33)).alloc (.cells #[Value.bool false, Value.slice none 0 0, Value.slice none 0 0] 33) = w1 at *
       have HR0 := Lib.hid r0
       have HZ := Lib.hid rz
       have Hq : RowKit.Hid (w.heap.size ≤ w.heap.size + 1) := Nat.le_succ _
       clear r0 rz
       refine (pSizeT_c HX.out.nn h1 N HN.out (N : Int) rfl P HP.out false KP.out).mono ?_
       rintro e w2 ⟨A3, n3, c3, rfl, h3, bn⟩
       replace HX := Lib.hid (HX.out.below bn)
       replace HY := Lib.hid (HY.out.below bn)
       replace HR0 := Lib.hid (HR0.out.below bn)
       replace HZ := Lib.hid (HZ.out.below bn)
       replace HW := Lib.hid (below_two HW.out bn)
       clear bn h3
       have c2 := HR0.out.c2
       go_wp2_with fail
       clear c2
       refine (pSizeT_c HY.out h2 N HN.out (N : Int) rfl D HD.out false KD.out).mono ?_
       rintro e w2 ⟨A4, n4, c4, rfl, h4, bn⟩
       replace HX := Lib.hid (HX.out.below bn)
       replace HY := Lib.hid (HY.out.below bn)
       replace HR0 := Lib.hid (HR0.out.below bn)
       replace HZ := Lib.hid (HZ.out.below bn)
       replace HW := Lib.hid (below_two HW.out bn)
       clear bn h4
       have e0 := HZ.out.c0
       have e1 := HZ.out.c1
       have e2 := HZ.out.c2
       have f0 := HZ.out.free 0
       have f1 := HZ.out.free 1
       have f2 := HZ.out.free 2
       have HF := Lib.hid (HZ.out.fill (.bool false) (.slice none 0 0) (.slice none 0 0))
       have HB := Lib.hid (below_fill3' HW.out Hq.out (.bool false) (.slice none 0 0) (.slice none 0 0))
       go_wp2
       refine bodyPost_ret (results_mixed rfl _ _ _ 33 #[.bool false, .slice none 0 0, .slice none 0 0] (0, 0) _ (.int .i64 2) rfl rfl HF.out Tryz.underlying33 rfl rat_size) rfl ?_
       exact ⟨none, 0, 0, none, 0, 0, rfl, qt_none _ 0 0, HB.out⟩
      | true =>
       have KD := Lib.hid kd
       clear kd
       have hf0 : fitsQ z = false := by rw [fits_of HT.out HBo.out]; simp [KP.out, KD.out]
       rw [limR_no hf0] at hR
       cases hR
       clear hf0
       have b0 := below_new w (.cells #[Value.bool (sg q.num), Value.slice A n c, Value.slice B m d] 33)
       have b1 := below_new (w.alloc (.cells #[Value.bool (sg q.num), Value.slice A n c, Value.slice B m d] 33)) (.cells #[Value.bool false, Value.slice none 0 0, Value.slice none 0 0] 33)
       have HW := Lib.hid (below_two b0 b1)
       have HX := Lib.hid (hx.below HW.out)
       have HY := Lib.hid (hy.below HW.out)
       have r0 := (row3_new w 33 (.bool (sg q.num)) (.slice A n c) (.slice B m d)).below b1
       have rz := row3_new (w.alloc (.cells #[Value.bool (sg q.num), Value.slice A n c, Value.slice B m d] 33)) 33 (.bool false) (.slice none 0 0) (.slice none 0 0)
       simp only [World.size_alloc] at rz
       clear b0 b1 hx hy
       go_enter Tryz.func113, Tryz.ntmps113
       go_wp2_with fail
       generalize (w.alloc (.cells #[Value.bool (sg q.num), Value.slice A n c, Value.slice B m d] 33)).alloc (.cells #[Value.bool false, Value.slice none 0 0, Value.slice none 0 0] 33) = w1 at *
       have HR0 := Lib.hid r0
       have HZ := Lib.hid rz
       have Hq : RowKit.Hid (w.heap.size ≤ w.heap.size + 1) := Nat.le_succ _
       clear r0 rz
       refine (pSizeT_c HX.out.nn h1 N HN.out (N : Int) rfl P HP.out false KP.out).mono ?_
       rintro e w2 ⟨A3, n3, c3, rfl, h3, bn⟩
       replace HX := Lib.hid (HX.out.below bn)
       replace HY := Lib.hid (HY.out.below bn)
       replace HR0 := Lib.hid (HR0.out.below bn)
       replace HZ := Lib.hid (HZ.out.below bn)
       replace HW := Lib.hid (below_two HW.out bn)
       clear bn h3
       have c2 := HR0.out.c2
       go_wp2_with fail
       clear c2
       refine (pSizeT_c HY.out h2 N HN.out (N : Int) rfl D HD.out true KD.out).mono ?_
       rintro e w2 ⟨A4, n4, c4, rfl, h4, bn⟩
       have H4 := Lib.hid (h4 rfl)
       replace HX := Lib.hid (HX.out.below bn)
       replace HY := Lib.hid (HY.out.below bn)
       replace HR0 := Lib.hid (HR0.out.below bn)
       replace HZ := Lib.hid (HZ.out.below bn)
       replace HW := Lib.hid (below_two HW.out bn)
       clear bn h4
       have e0 := HZ.out.c0
       have e1 := HZ.out.c1
       have e2 := HZ.out.c2
       have f0 := HZ.out.free 0
       have f1 := HZ.out.free 1
       have f2 := HZ.out.free 2
       have HF := Lib.hid (HZ.out.fill (.bool false) (.slice none 0 0) (.slice none 0 0))
       have HB := Lib.hid (below_fill3' HW.out Hq.out (.bool false) (.slice none 0 0) (.slice none 0 0))
       go_wp2
       refine bodyPost_ret (results_mixed rfl _ _ _ 33 #[.bool false, .slice none 0 0, .slice none 0 0] (0, 0) _ (.int .i64 2) rfl rfl HF.out Tryz.underlying33 rfl rat_size) rfl ?_
       exact ⟨none, 0, 0, none, 0, 0, rfl, qt_none _ 0 0, HB.out⟩
     | true =>
      have KP := Lib.hid kp
      clear kp
      cases kd : fit64 D with
      | false =>
       have KD := Lib.hid kd
       clear kd
       have hf0 : fitsQ z = false := by rw [fits_of HT.out HBo.out]; simp [KP.out, KD.out]
       rw [limR_no hf0] at hR
       cases hR
       clear hf0
       have b0 := below_new w (.cells #[Value.bool (sg q.num), Value.slice A n c, Value.slice B m d] 33)
       have b1 := below_new (w.alloc (.cells #[Value.bool (sg q.num), Value.slice A n c, Value.slice B m d] 33)) (.cells #[Value.bool false, Value.slice none 0 0, Value.slice none 0 0] 33)
       have HW := Lib.hid (below_two b0 b1)
       have HX := Lib.hid (hx.below HW.out)
       have HY := Lib.hid (hy.below HW.out)
       have r0 := (row3_new w 33 (.bool (sg q.num)) (.slice A n c) (.slice B m d)).below b1
       have rz := row3_new (w.alloc (.cells #[Value.bool (sg q.num), Value.slice A n c, Value.slice B m d] 33)) 33 (.bool false) (.slice none 0 0) (.slice none 0 0)
       simp only [World.size_alloc] at rz
       clear b0 b1 hx hy
       go_enter Tryz.func113, Tryz.ntmps113
       go_wp2_with fail
       generalize (w.alloc (.cells #[Value.bool (sg q.num), Value.slice A n c, Value.slice B m d] 33)).alloc (.cells #[Value.bool false, Value.slice none 0 0, Value.slice none 0 0] 33) = w1 at *
       have HR0 := Lib.hid r0
       have HZ := Lib.hid rz
       have Hq : RowKit.Hid (w.heap.size ≤ w.heap.size + 1) := Nat.le_succ _
       clear r0 rz
       refine (pSizeT_c HX.out.nn h1 N HN.out (N : Int) rfl P HP.out true KP.out).mono ?_
       rintro e w2 ⟨A3, n3, c3, rfl, h3, bn⟩
       have H3 := Lib.hid (h3 rfl)
       replace HX := Lib.hid (HX.out.below bn)
       replace HY := Lib.hid (HY.out.below bn)
       replace HR0 := Lib.hid (HR0.out.below bn)
       replace HZ := Lib.hid (HZ.out.below bn)
       replace HW := Lib.hid (below_two HW.out bn)
       clear bn h3
       have c2 := HR0.out.c2
       go_wp2_with fail
       clear c2
       refine (pSizeT_c HY.out h2 N HN.out (N : Int) rfl D HD.out false KD.out).mono ?_
       rintro e w2 ⟨A4, n4, c4, rfl, h4, bn⟩
       replace HX := Lib.hid (HX.out.below bn)
       replace HY := Lib.hid (HY.out.below bn)
       replace HR0 := Lib.hid (HR0.out.below bn)
       replace HZ := Lib.hid (HZ.out.below bn)
       replace H3 := Lib.hid (H3.out.below bn)
       replace HW := Lib.hid (below_two HW.out bn)
       clear bn h4
       have e0 := HZ.out.c0
       have e1 := HZ.out.c1
       have e2 := HZ.out.c2
       have f0 := HZ.out.free 0
       have f1 := HZ.out.free 1
       have f2 := HZ.out.free 2
       have HF := Lib.hid (HZ.out.fill (.bool false) (.slice none 0 0) (.slice none 0 0))
       have HB := Lib.hid (below_fill3' HW.out Hq.out (.bool false) (.slice none 0 0) (.slice none 0 0))
       go_wp2
       refine bodyPost_ret (results_mixed rfl _ _ _ 33 #[.bool false, .slice none 0 0, .slice none 0 0] (0, 0) _ (.int .i64 2) rfl rfl HF.out Tryz.underlying33 rfl rat_size) rfl ?_
       exact ⟨none, 0, 0, none, 0, 0, rfl, qt_none _ 0 0, HB.out⟩
      | true =>
       have KD := Lib.hid kd
       clear kd
       have hf0 : fitsQ z = true := by rw [fits_of HT.out HBo.out]; simp [KP.out, KD.out]
       rw [limR_yes hf0] at hR
       cases hR
       have Hf := Lib.hid hf0
       clear hf0
       cases ks : sg q.num with
       | false =>
        have b0 := below_new w (.cells #[Value.bool false, Value.slice A n c, Value.slice B m d] 33)
        have b1 := below_new (w.alloc (.cells #[Value.bool false, Value.slice A n c, Value.slice B m d] 33)) (.cells #[Value.bool false, Value.slice none 0 0, Value.slice none 0 0] 33)
        have HW := Lib.hid (below_two b0 b1)
        have HX := Lib.hid (hx.below HW.out)
        have HY := Lib.hid (hy.below HW.out)
        have r0 := (row3_new w 33 (.bool false) (.slice A n c) (.slice B m d)).below b1
        have rz := row3_new (w.alloc (.cells #[Value.bool false, Value.slice A n c, Value.slice B m d] 33)) 33 (.bool false) (.slice none 0 0) (.slice none 0 0)
        simp only [World.size_alloc] at rz
        clear b0 b1 hx hy
        go_enter Tryz.func113, Tryz.ntmps113
        go_wp2_with fail
        generalize (w.alloc (.cells #[Value.bool false, Value.slice A n c, Value.slice B m d] 33)).alloc (.cells #[Value.bool false, Value.slice none 0 0, Value.slice none 0 0] 33) = w1 at *
        have HR0 := Lib.hid r0
        have HZ := Lib.hid rz
        have Hq : RowKit.Hid (w.heap.size ≤ w.heap.size + 1) := Nat.le_succ _
        clear r0 rz
        refine (pSizeT_c HX.out.nn h1 N HN.out (N : Int) rfl P HP.out true KP.out).mono ?_
        rintro e w2 ⟨A3, n3, c3, rfl, h3, bn⟩
        have H3 := Lib.hid (h3 rfl)
        replace HX := Lib.hid (HX.out.below bn)
        replace HY := Lib.hid (HY.out.below bn)
        replace HR0 := Lib.hid (HR0.out.below bn)
        replace HZ := Lib.hid (HZ.out.below bn)
        replace HW := Lib.hid (below_two HW.out bn)
        clear bn h3
        have c2 := HR0.out.c2
        go_wp2_with fail
        clear c2
        refine (pSizeT_c HY.out h2 N HN.out (N : Int) rfl D HD.out true KD.out).mono ?_
        rintro e w2 ⟨A4, n4, c4, rfl, h4, bn⟩
        have H4 := Lib.hid (h4 rfl)
        replace HX := Lib.hid (HX.out.below bn)
        replace HY := Lib.hid (HY.out.below bn)
        replace HR0 := Lib.hid (HR0.out.below bn)
        replace HZ := Lib.hid (HZ.out.below bn)
        replace H3 := Lib.hid (H3.out.below bn)
        replace HW := Lib.hid (below_two HW.out bn)
        clear bn h4
        have HB1 : RowKit.Hid (sg z.num = false) := by show _ = _; rw [HSG.out, ks]; rfl
        have Z5 : RowKit.Hid (ZZ w2 (sg z.num) A4 n4 c4 (limbs z.num.natAbs) z.num 64) := by
         have h := ZZ.of (s := sg z.num) H4.out
         rw [← HT.out, zz_sg] at h
         exact h
        have Z6 : RowKit.Hid (NN w2 A3 n3 c3 (limbs z.den) z.den 64) := by
         have h := H3.out
         rw [← HBo.out] at h
         exact h
        clear H3 H4
        have c0 := HR0.out.c0
        have e0 := HZ.out.c0
        have e1 := HZ.out.c1
        have e2 := HZ.out.c2
        have f0 := HZ.out.free 0
        have f1 := HZ.out.free 1
        have f2 := HZ.out.free 2
        have hNo := HZ.out.noLimb (by intro v e; cases e) (by intro v e; cases e) (by intro v e; cases e)
        have HF := Lib.hid (HZ.out.fill (.bool (sg z.num)) (.slice A4 n4 c4) (.slice A3 n3 c3))
        have HPn := Lib.hid ((qt_some Z5.out Z6.out Hf.out).fillR3 hNo (.bool (sg z.num)) (.slice A4 n4 c4) (.slice A3 n3 c3))
        have HB := Lib.hid (below_fill3' HW.out Hq.out (.bool (sg z.num)) (.slice A4 n4 c4) (.slice A3 n3 c3))
        rw [HB1.out] at HF HPn HB
        clear hNo
        go_wp2
        refine bodyPost_ret (results_mixed rfl _ _ _ 33 #[.bool false, .slice A4 n4 c4, .slice A3 n3 c3] (0, 0) _ (.int .i64 0) rfl rfl HF.out Tryz.underlying33 rfl rat_size) rfl ?_
        exact ⟨A4, n4, c4, A3, n3, c3, by rw [← HB1.out]; rfl, HPn.out, HB.out⟩
       | true =>
        by_cases hodd : N % 2 = 1
        · have b0 := below_new w (.cells #[Value.bool true, Value.slice A n c, Value.slice B m d] 33)
          have b1 := below_new (w.alloc (.cells #[Value.bool true, Value.slice A n c, Value.slice B m d] 33)) (.cells #[Value.bool false, Value.slice none 0 0, Value.slice none 0 0] 33)
          have HW := Lib.hid (below_two b0 b1)
          have HX := Lib.hid (hx.below HW.out)
          have HY := Lib.hid (hy.below HW.out)
          have r0 := (row3_new w 33 (.bool true) (.slice A n c) (.slice B m d)).below b1
          have rz := row3_new (w.alloc (.cells #[Value.bool true, Value.slice A n c, Value.slice B m d] 33)) 33 (.bool false) (.slice none 0 0) (.slice none 0 0)
          simp only [World.size_alloc] at rz
          clear b0 b1 hx hy
          go_enter Tryz.func113, Tryz.ntmps113
          go_wp2_with fail
          generalize (w.alloc (.cells #[Value.bool true, Value.slice A n c, Value.slice B m d] 33)).alloc (.cells #[Value.bool false, Value.slice none 0 0, Value.slice none 0 0] 33) = w1 at *
          have HR0 := Lib.hid r0
          have HZ := Lib.hid rz
          have Hq : RowKit.Hid (w.heap.size ≤ w.heap.size + 1) := Nat.le_succ _
          clear r0 rz
          refine (pSizeT_c HX.out.nn h1 N HN.out (N : Int) rfl P HP.out true KP.out).mono ?_
          rintro e w2 ⟨A3, n3, c3, rfl, h3, bn⟩
          have H3 := Lib.hid (h3 rfl)
          replace HX := Lib.hid (HX.out.below bn)
          replace HY := Lib.hid (HY.out.below bn)
          replace HR0 := Lib.hid (HR0.out.below bn)
          replace HZ := Lib.hid (HZ.out.below bn)
          replace HW := Lib.hid (below_two HW.out bn)
          clear bn h3
          have c2 := HR0.out.c2
          go_wp2_with fail
          clear c2
          refine (pSizeT_c HY.out h2 N HN.out (N : Int) rfl D HD.out true KD.out).mono ?_
          rintro e w2 ⟨A4, n4, c4, rfl, h4, bn⟩
          have H4 := Lib.hid (h4 rfl)
          replace HX := Lib.hid (HX.out.below bn)
          replace HY := Lib.hid (HY.out.below bn)
          replace HR0 := Lib.hid (HR0.out.below bn)
          replace HZ := Lib.hid (HZ.out.below bn)
          replace H3 := Lib.hid (H3.out.below bn)
          replace HW := Lib.hid (below_two HW.out bn)
          clear bn h4
          have HB1 : RowKit.Hid (sg z.num = true) := by show _ = _; rw [HSG.out, ks]; rw [decide_eq_true hodd]; rfl
          have hr1 : ((-((N : Int) % 2)) != 0) = true := by rw [bne_iff_ne]; omega
          have Z5 : RowKit.Hid (ZZ w2 (sg z.num) A4 n4 c4 (limbs z.num.natAbs) z.num 64) := by
           have h := ZZ.of (s := sg z.num) H4.out
           rw [← HT.out, zz_sg] at h
           exact h
          have Z6 : RowKit.Hid (NN w2 A3 n3 c3 (limbs z.den) z.den 64) := by
           have h := H3.out
           rw [← HBo.out] at h
           exact h
          clear H3 H4
          have c0 := HR0.out.c0
          have e0 := HZ.out.c0
          have e1 := HZ.out.c1
          have e2 := HZ.out.c2
          have f0 := HZ.out.free 0
          have f1 := HZ.out.free 1
          have f2 := HZ.out.free 2
          have hNo := HZ.out.noLimb (by intro v e; cases e) (by intro v e; cases e) (by intro v e; cases e)
          have HF := Lib.hid (HZ.out.fill (.bool (sg z.num)) (.slice A4 n4 c4) (.slice A3 n3 c3))
          have HPn := Lib.hid ((qt_some Z5.out Z6.out Hf.out).fillR3 hNo (.bool (sg z.num)) (.slice A4 n4 c4) (.slice A3 n3 c3))
          have HB := Lib.hid (below_fill3' HW.out Hq.out (.bool (sg z.num)) (.slice A4 n4 c4) (.slice A3 n3 c3))
          rw [HB1.out] at HF HPn HB
          clear hNo
          go_wp2
          refine bodyPost_ret (results_mixed rfl _ _ _ 33 #[.bool true, .slice A4 n4 c4, .slice A3 n3 c3] (0, 0) _ (.int .i64 0) rfl rfl HF.out Tryz.underlying33 rfl rat_size) rfl ?_
          exact ⟨A4, n4, c4, A3, n3, c3, by rw [← HB1.out]; rfl, HPn.out, HB.out⟩
        · have b0 := below_new w (.cells #[Value.bool true, Value.slice A n c, Value.slice B m d] 33)
          have b1 := below_new (w.alloc (.cells #[Value.bool true, Value.slice A n c, Value.slice B m d] 33)) (.cells #[Value.bool false, Value.slice none 0 0, Value.slice none 0 0] 33)
          have HW := Lib.hid (below_two b0 b1)
          have HX := Lib.hid (hx.below HW.out)
          have HY := Lib.hid (hy.below HW.out)
          have r0 := (row3_new w 33 (.bool true) (.slice A n c) (.slice B m d)).below b1
          have rz := row3_new (w.alloc (.cells #[Value.bool true, Value.slice A n c, Value.slice B m d] 33)) 33 (.bool false) (.slice none 0 0) (.slice none 0 0)
          simp only [World.size_alloc] at rz
          clear b0 b1 hx hy
          go_enter Tryz.func113, Tryz.ntmps113
          go_wp2_with fail
          generalize (w.alloc (.cells #[Value.bool true, Value.slice A n c, Value.slice B m d] 33)).alloc (.cells #[Value.bool false, Value.slice none 0 0, Value.slice none 0 0] 33) = w1 at *
          have HR0 := Lib.hid r0
          have HZ := Lib.hid rz
          have Hq : RowKit.Hid (w.heap.size ≤ w.heap.size + 1) := Nat.le_succ _
          clear r0 rz
          refine (pSizeT_c HX.out.nn h1 N HN.out (N : Int) rfl P HP.out true KP.out).mono ?_
          rintro e w2 ⟨A3, n3, c3, rfl, h3, bn⟩
          have H3 := Lib.hid (h3 rfl)
          replace HX := Lib.hid (HX.out.below bn)
          replace HY := Lib.hid (HY.out.below bn)
          replace HR0 := Lib.hid (HR0.out.below bn)
          replace HZ := Lib.hid (HZ.out.below bn)
          replace HW := Lib.hid (below_two HW.out bn)
          clear bn h3
          have c2 := HR0.out.c2
          go_wp2_with fail
          clear c2
          refine (pSizeT_c HY.out h2 N HN.out (N : Int) rfl D HD.out true KD.out).mono ?_
          rintro e w2 ⟨A4, n4, c4, rfl, h4, bn⟩
          have H4 := Lib.hid (h4 rfl)
          replace HX := Lib.hid (HX.out.below bn)
          replace HY := Lib.hid (HY.out.below bn)
          replace HR0 := Lib.hid (HR0.out.below bn)
          replace HZ := Lib.hid (HZ.out.below bn)
          replace H3 := Lib.hid (H3.out.below bn)
          replace HW := Lib.hid (below_two HW.out bn)
          clear bn h4
          have HB1 : RowKit.Hid (sg z.num = false) := by show _ = _; rw [HSG.out, ks]; rw [decide_eq_false hodd]; rfl
          have hr1 : ((-((N : Int) % 2)) != 0) = false := by rw [bne_eq_false_iff_eq]; omega
          have Z5 : RowKit.Hid (ZZ w2 (sg z.num) A4 n4 c4 (limbs z.num.natAbs) z.num 64) := by
           have h := ZZ.of (s := sg z.num) H4.out
           rw [← HT.out, zz_sg] at h
           exact h
          have Z6 : RowKit.Hid (NN w2 A3 n3 c3 (limbs z.den) z.den 64) := by
           have h := H3.out
           rw [← HBo.out] at h
           exact h
          clear H3 H4
          have c0 := HR0.out.c0
          have e0 := HZ.out.c0
          have e1 := HZ.out.c1
          have e2 := HZ.out.c2
          have f0 := HZ.out.free 0
          have f1 := HZ.out.free 1
          have f2 := HZ.out.free 2
          have hNo := HZ.out.noLimb (by intro v e; cases e) (by intro v e; cases e) (by intro v e; cases e)
          have HF := Lib.hid (HZ.out.fill (.bool (sg z.num)) (.slice A4 n4 c4) (.slice A3 n3 c3))
          have HPn := Lib.hid ((qt_some Z5.out Z6.out Hf.out).fillR3 hNo (.bool (sg z.num)) (.slice A4 n4 c4) (.slice A3 n3 c3))
          have HB := Lib.hid (below_fill3' HW.out Hq.out (.bool (sg z.num)) (.slice A4 n4 c4) (.slice A3 n3 c3))
          rw [HB1.out] at HF HPn HB
          clear hNo
          go_wp2
          refine bodyPost_ret (results_mixed rfl _ _ _ 33 #[.bool false, .slice A4 n4 c4, .slice A3 n3 c3] (0, 0) _ (.int .i64 0) rfl rfl HF.out Tryz.underlying33 rfl rat_size) rfl ?_
          exact ⟨A4, n4, c4, A3, n3, c3, by rw [← HB1.out]; rfl, HPn.out, HB.out⟩
end
end Go.Proofs.YtohokfbohdoijaaGreatDoor

/- What package rat's Good answers, as a contract over memory. Conditions: sizes of at most so many limbs. -/
namespace Go.Proofs.YtohokfbohdoijaaGreatDoor
open Go.RowKit Limb
set_option linter.unusedVariables false
section
variable {w : World} {s s' : Bool} {A B A' B' : Option Addr} {n c m d n' c' m' d' : Nat} {xs ys xs' ys' : List Nat} {x y : Int} {a b L L' : Nat}
set_option maxHeartbeats 40000000 in
set_option maxRecDepth 100000 in
theorem rGood_c {o : Option Rat} (hx : QQ w s A n c xs B m d ys o L) (h1 : L ≤ 10000) (v : Bool) (hv : o.isSome = v) :
 Calls Tryz.prog 58 #[.agg #[.bool s, .slice A n c, .slice B m d]] w fun e w' => e = .returned (.bool v) ∧ Below w.heap.size w w' := by
 have hg := hx.good
 rw [hv] at hg
 have hlx := hx.bot.isN.len
 have hlt := hx.top.nn.isN.len
 have hsx := hx.top.nn.isN.small
 have hsy := hx.bot.isN.small
 have b0 := below_new w (.cells #[Value.bool s, Value.slice A n c, Value.slice B m d] 33)
 have HW := Lib.hid b0
 have HX : RowKit.Hid (NN (w.alloc (.cells #[Value.bool s, Value.slice A n c, Value.slice B m d] 33)) A n c xs (Limb.val xs) L) := by
  have h := hx.top.nn.below b0
  rw [zOf_abs] at h
  exact h
 have HY := Lib.hid (hx.bot.below b0)
 have HR0 := Lib.hid (row3_new w 33 (.bool s) (.slice A n c) (.slice B m d))
 clear b0 hx hv
 by_cases k1 : xs = limbs (Limb.val xs)
 · by_cases k2 : ys = limbs (Limb.val ys)
   · by_cases k5 : n ≤ 64 ∧ m ≤ 64
     · by_cases k3 : m = 0
       · have hgf : goodV s xs ys = false := by
          rw [Bool.eq_false_iff]
          intro h
          obtain ⟨g1, g2, g3, g4, g5, g6, g7⟩ := goodV_iff.1 h
          exact g3 (by rw [List.eq_nil_of_length_eq_zero (hlx.trans k3)]; rfl)
         obtain rfl : v = false := hg.symm.trans hgf
         clear hg hgf hlx hlt hsx hsy
         have m0 : ((m : Int) == 0) = true := by rw [beq_iff_eq]; omega
         have K1 : RowKit.Hid (decide (xs = limbs (Limb.val xs)) = true) := by show _ = _; simpa using k1
         have K2 : RowKit.Hid (decide (ys = limbs (Limb.val ys)) = true) := by show _ = _; simpa using k2
         have K5 : RowKit.Hid ((decide (n ≤ 64) && decide (m ≤ 64)) = true) := by show _ = _; simpa using k5
         clear k1 k2 k5 k3
         go_enter Tryz.func58, Tryz.ntmps58
         go_wp2_with fail
         generalize w.alloc (.cells #[Value.bool s, Value.slice A n c, Value.slice B m d] 33) = w1 at *
         refine (rTrimmed_c HX.out (by omega) true K1.out).mono ?_
         rintro e w2 ⟨rfl, rfl⟩
         have c00 := HR0.out.c0
         have c01 := HR0.out.c1
         have c02 := HR0.out.c2
         go_wp2_with fail
         clear c00 c01 c02
         refine (rTrimmed_c HY.out (by omega) true K2.out).mono ?_
         rintro e w2 ⟨rfl, rfl⟩
         have c00 := HR0.out.c0
         have c01 := HR0.out.c1
         have c02 := HR0.out.c2
         go_wp2_with fail
         clear c00 c01 c02
         refine (rFits_c s A B n c m d _ true K5.out).mono ?_
         rintro e w3 ⟨rfl, bn⟩
         replace HX := Lib.hid (HX.out.below bn)
         replace HY := Lib.hid (HY.out.below bn)
         replace HR0 := Lib.hid (HR0.out.below bn)
         replace HW := Lib.hid (below_two HW.out bn)
         clear bn
         have c00 := HR0.out.c0
         have c01 := HR0.out.c1
         have c02 := HR0.out.c2
         go_wp2
         go_ret
         exact ⟨rfl, HW.out⟩
       · by_cases k4 : s = true ∧ n = 0
         · obtain ⟨k4s, k4n⟩ := k4
           have hgf : goodV s xs ys = false := by
            rw [Bool.eq_false_iff]
            intro h
            obtain ⟨g1, g2, g3, g4, g5, g6, g7⟩ := goodV_iff.1 h
            exact g4 ⟨k4s, by rw [List.eq_nil_of_length_eq_zero (hlt.trans k4n)]; rfl⟩
           obtain rfl : v = false := hg.symm.trans hgf
           clear hg hgf hlx hlt hsx hsy
           have m0 : ((m : Int) == 0) = false := by rw [beq_eq_false_iff_ne]; omega
           have n0 : ((n : Int) == 0) = true := by rw [beq_iff_eq]; omega
           subst k4s
           have K1 : RowKit.Hid (decide (xs = limbs (Limb.val xs)) = true) := by show _ = _; simpa using k1
           have K2 : RowKit.Hid (decide (ys = limbs (Limb.val ys)) = true) := by show _ = _; simpa using k2
           have K5 : RowKit.Hid ((decide (n ≤ 64) && decide (m ≤ 64)) = true) := by show _ = _; simpa using k5
           clear k1 k2 k5 k3 k4n
           go_enter Tryz.func58, Tryz.ntmps58
           go_wp2_with fail
           generalize w.alloc (.cells #[Value.bool true, Value.slice A n c, Value.slice B m d] 33) = w1 at *
           refine (rTrimmed_c HX.out (by omega) true K1.out).mono ?_
           rintro e w2 ⟨rfl, rfl⟩
           have c00 := HR0.out.c0
           have c01 := HR0.out.c1
           have c02 := HR0.out.c2
           go_wp2_with fail
           clear c00 c01 c02
           refine (rTrimmed_c HY.out (by omega) true K2.out).mono ?_
           rintro e w2 ⟨rfl, rfl⟩
           have c00 := HR0.out.c0
           have c01 := HR0.out.c1
           have c02 := HR0.out.c2
           go_wp2_with fail
           clear c00 c01 c02
           refine (rFits_c true A B n c m d _ true K5.out).mono ?_
           rintro e w3 ⟨rfl, bn⟩
           replace HX := Lib.hid (HX.out.below bn)
           replace HY := Lib.hid (HY.out.below bn)
           replace HR0 := Lib.hid (HR0.out.below bn)
           replace HW := Lib.hid (below_two HW.out bn)
           clear bn
           have c00 := HR0.out.c0
           have c01 := HR0.out.c1
           have c02 := HR0.out.c2
           go_wp2
           go_ret
           exact ⟨rfl, HW.out⟩
         · by_cases hgcd : Nat.gcd (Limb.val xs) (Limb.val ys) = 1
           · have hgt : goodV s xs ys = true := by
              rw [goodV_iff]
              refine ⟨k1, k2, ?_, ?_, by omega, by omega, hgcd⟩
              · intro h; rw [h, limbs_zero] at k2; rw [k2] at hlx; simp at hlx; omega
              · rintro ⟨h1, h2⟩
                rw [h2, limbs_zero] at k1; rw [k1] at hlt; simp at hlt
                exact k4 ⟨h1, by omega⟩
             obtain rfl : v = true := hg.symm.trans hgt
             have hl2 := Lib.hid hlx
             clear hg hgt hlx hlt hsx hsy
             obtain ⟨z, hz0⟩ : ∃ z : Int, z = 0 := ⟨_, rfl⟩
             have HZ : RowKit.Hid (cmpI (gcdN (Limb.val xs) (Limb.val ys)) 1 = z) := by show _ = _; rw [hz0]; exact cmpI_same hgcd
             have hzz : (z == 0) = true := by rw [hz0]; rfl
             clear hgcd hz0
             have m0 : ((m : Int) == 0) = false := by rw [beq_eq_false_iff_ne]; omega
             have HG : RowKit.Hid (gcdN (Limb.val xs) (Limb.val ys) < 4294967296 ^ L) := Nat.lt_of_le_of_lt (Nat.gcd_le_right _ (Nat.pos_of_ne_zero fun h0 => k3 (by rw [← hl2.out, k2, h0]; rfl))) (lt_pow HY.out)
             by_cases ks : s = true
             · have n0 : ((n : Int) == 0) = false := by
                rw [beq_eq_false_iff_ne]
                have hn0 : n ≠ 0 := fun h => k4 ⟨ks, h⟩
                omega
               subst ks
               have K1 : RowKit.Hid (decide (xs = limbs (Limb.val xs)) = true) := by show _ = _; simpa using k1
               have K2 : RowKit.Hid (decide (ys = limbs (Limb.val ys)) = true) := by show _ = _; simpa using k2
               have K5 : RowKit.Hid ((decide (n ≤ 64) && decide (m ≤ 64)) = true) := by show _ = _; simpa using k5
               clear k1 k2 k5 k3 k4 hl2
               go_enter Tryz.func58, Tryz.ntmps58
               go_wp2_with fail
               generalize w.alloc (.cells #[Value.bool true, Value.slice A n c, Value.slice B m d] 33) = w1 at *
               refine (rTrimmed_c HX.out (by omega) true K1.out).mono ?_
               rintro e w2 ⟨rfl, rfl⟩
               have c00 := HR0.out.c0
               have c01 := HR0.out.c1
               have c02 := HR0.out.c2
               go_wp2_with fail
               clear c00 c01 c02
               refine (rTrimmed_c HY.out (by omega) true K2.out).mono ?_
               rintro e w2 ⟨rfl, rfl⟩
               have c00 := HR0.out.c0
               have c01 := HR0.out.c1
               have c02 := HR0.out.c2
               go_wp2_with fail
               clear c00 c01 c02
               refine (rFits_c true A B n c m d _ true K5.out).mono ?_
               rintro e w3 ⟨rfl, bn⟩
               replace HX := Lib.hid (HX.out.below bn)
               replace HY := Lib.hid (HY.out.below bn)
               replace HR0 := Lib.hid (HR0.out.below bn)
               replace HW := Lib.hid (below_two HW.out bn)
               clear bn
               have c00 := HR0.out.c0
               have c01 := HR0.out.c1
               have c02 := HR0.out.c2
               go_wp2_with fail
               refine (quoGcd_c HX.out HY.out (by omega) (by omega) L HG.out).mono ?_
               rintro e w4 ⟨A3, n3, c3, rfl, h3, bn⟩
               have H3 := Lib.hid h3
               replace HW := Lib.hid (below_two HW.out bn)
               clear bn h3
               clear c00 c01 c02
               go_wp2_with fail
               refine (of_c 1 1 rfl (by decide) _).mono ?_
               rintro e w5 ⟨A4, n4, c4, rfl, h4, bn⟩
               have H4 := Lib.hid h4
               replace H3 := Lib.hid (H3.out.below bn)
               replace HW := Lib.hid (below_two HW.out bn)
               clear bn h4
               go_wp2_with fail
               refine (cmp_c H3.out H4.out (by omega) (by decide) z HZ.out).mono ?_
               rintro e w6 ⟨rfl, bn⟩
               replace HW := Lib.hid (below_two HW.out bn)
               clear bn
               go_wp2
               go_ret
               exact ⟨rfl, HW.out⟩
             · have ks2 : s = false := by simpa using ks
               subst ks2
               have K1 : RowKit.Hid (decide (xs = limbs (Limb.val xs)) = true) := by show _ = _; simpa using k1
               have K2 : RowKit.Hid (decide (ys = limbs (Limb.val ys)) = true) := by show _ = _; simpa using k2
               have K5 : RowKit.Hid ((decide (n ≤ 64) && decide (m ≤ 64)) = true) := by show _ = _; simpa using k5
               clear k1 k2 k5 k3 k4 hl2
               go_enter Tryz.func58, Tryz.ntmps58
               go_wp2_with fail
               generalize w.alloc (.cells #[Value.bool false, Value.slice A n c, Value.slice B m d] 33) = w1 at *
               refine (rTrimmed_c HX.out (by omega) true K1.out).mono ?_
               rintro e w2 ⟨rfl, rfl⟩
               have c00 := HR0.out.c0
               have c01 := HR0.out.c1
               have c02 := HR0.out.c2
               go_wp2_with fail
               clear c00 c01 c02
               refine (rTrimmed_c HY.out (by omega) true K2.out).mono ?_
               rintro e w2 ⟨rfl, rfl⟩
               have c00 := HR0.out.c0
               have c01 := HR0.out.c1
               have c02 := HR0.out.c2
               go_wp2_with fail
               clear c00 c01 c02
               refine (rFits_c false A B n c m d _ true K5.out).mono ?_
               rintro e w3 ⟨rfl, bn⟩
               replace HX := Lib.hid (HX.out.below bn)
               replace HY := Lib.hid (HY.out.below bn)
               replace HR0 := Lib.hid (HR0.out.below bn)
               replace HW := Lib.hid (below_two HW.out bn)
               clear bn
               have c00 := HR0.out.c0
               have c01 := HR0.out.c1
               have c02 := HR0.out.c2
               go_wp2_with fail
               refine (quoGcd_c HX.out HY.out (by omega) (by omega) L HG.out).mono ?_
               rintro e w4 ⟨A3, n3, c3, rfl, h3, bn⟩
               have H3 := Lib.hid h3
               replace HW := Lib.hid (below_two HW.out bn)
               clear bn h3
               clear c00 c01 c02
               go_wp2_with fail
               refine (of_c 1 1 rfl (by decide) _).mono ?_
               rintro e w5 ⟨A4, n4, c4, rfl, h4, bn⟩
               have H4 := Lib.hid h4
               replace H3 := Lib.hid (H3.out.below bn)
               replace HW := Lib.hid (below_two HW.out bn)
               clear bn h4
               go_wp2_with fail
               refine (cmp_c H3.out H4.out (by omega) (by decide) z HZ.out).mono ?_
               rintro e w6 ⟨rfl, bn⟩
               replace HW := Lib.hid (below_two HW.out bn)
               clear bn
               go_wp2
               go_ret
               exact ⟨rfl, HW.out⟩
           · have hgf : goodV s xs ys = false := by
              rw [Bool.eq_false_iff]
              intro h
              obtain ⟨g1, g2, g3, g4, g5, g6, g7⟩ := goodV_iff.1 h
              exact hgcd g7
             obtain rfl : v = false := hg.symm.trans hgf
             have hl2 := Lib.hid hlx
             clear hg hgf hlx hlt hsx hsy
             obtain ⟨z, hz0, hz1⟩ : ∃ z : Int, cmpI (gcdN (Limb.val xs) (Limb.val ys)) 1 = z ∧ z ≠ 0 := by
              rcases Nat.lt_trichotomy (gcdN (Limb.val xs) (Limb.val ys)) 1 with h | h | h
              · exact ⟨-1, cmpI_lt h, by decide⟩
              · exact absurd h hgcd
              · exact ⟨1, cmpI_gt h, by decide⟩
             have HZ := Lib.hid hz0
             have hzz : (z == 0) = false := by rw [beq_eq_false_iff_ne]; exact hz1
             clear hgcd hz0 hz1
             have m0 : ((m : Int) == 0) = false := by rw [beq_eq_false_iff_ne]; omega
             have HG : RowKit.Hid (gcdN (Limb.val xs) (Limb.val ys) < 4294967296 ^ L) := Nat.lt_of_le_of_lt (Nat.gcd_le_right _ (Nat.pos_of_ne_zero fun h0 => k3 (by rw [← hl2.out, k2, h0]; rfl))) (lt_pow HY.out)
             by_cases ks : s = true
             · have n0 : ((n : Int) == 0) = false := by
                rw [beq_eq_false_iff_ne]
                have hn0 : n ≠ 0 := fun h => k4 ⟨ks, h⟩
                omega
               subst ks
               have K1 : RowKit.Hid (decide (xs = limbs (Limb.val xs)) = true) := by show _ = _; simpa using k1
               have K2 : RowKit.Hid (decide (ys = limbs (Limb.val ys)) = true) := by show _ = _; simpa using k2
               have K5 : RowKit.Hid ((decide (n ≤ 64) && decide (m ≤ 64)) = true) := by show _ = _; simpa using k5
               clear k1 k2 k5 k3 k4 hl2
               go_enter Tryz.func58, Tryz.ntmps58
               go_wp2_with fail
               generalize w.alloc (.cells #[Value.bool true, Value.slice A n c, Value.slice B m d] 33) = w1 at *
               refine (rTrimmed_c HX.out (by omega) true K1.out).mono ?_
               rintro e w2 ⟨rfl, rfl⟩
               have c00 := HR0.out.c0
               have c01 := HR0.out.c1
               have c02 := HR0.out.c2
               go_wp2_with fail
               clear c00 c01 c02
               refine (rTrimmed_c HY.out (by omega) true K2.out).mono ?_
               rintro e w2 ⟨rfl, rfl⟩
               have c00 := HR0.out.c0
               have c01 := HR0.out.c1
               have c02 := HR0.out.c2
               go_wp2_with fail
               clear c00 c01 c02
               refine (rFits_c true A B n c m d _ true K5.out).mono ?_
               rintro e w3 ⟨rfl, bn⟩
               replace HX := Lib.hid (HX.out.below bn)
               replace HY := Lib.hid (HY.out.below bn)
               replace HR0 := Lib.hid (HR0.out.below bn)
               replace HW := Lib.hid (below_two HW.out bn)
               clear bn
               have c00 := HR0.out.c0
               have c01 := HR0.out.c1
               have c02 := HR0.out.c2
               go_wp2_with fail
               refine (quoGcd_c HX.out HY.out (by omega) (by omega) L HG.out).mono ?_
               rintro e w4 ⟨A3, n3, c3, rfl, h3, bn⟩
               have H3 := Lib.hid h3
               replace HW := Lib.hid (below_two HW.out bn)
               clear bn h3
               clear c00 c01 c02
               go_wp2_with fail
               refine (of_c 1 1 rfl (by decide) _).mono ?_
               rintro e w5 ⟨A4, n4, c4, rfl, h4, bn⟩
               have H4 := Lib.hid h4
               replace H3 := Lib.hid (H3.out.below bn)
               replace HW := Lib.hid (below_two HW.out bn)
               clear bn h4
               go_wp2_with fail
               refine (cmp_c H3.out H4.out (by omega) (by decide) z HZ.out).mono ?_
               rintro e w6 ⟨rfl, bn⟩
               replace HW := Lib.hid (below_two HW.out bn)
               clear bn
               go_wp2
               go_ret
               exact ⟨rfl, HW.out⟩
             · have ks2 : s = false := by simpa using ks
               subst ks2
               have K1 : RowKit.Hid (decide (xs = limbs (Limb.val xs)) = true) := by show _ = _; simpa using k1
               have K2 : RowKit.Hid (decide (ys = limbs (Limb.val ys)) = true) := by show _ = _; simpa using k2
               have K5 : RowKit.Hid ((decide (n ≤ 64) && decide (m ≤ 64)) = true) := by show _ = _; simpa using k5
               clear k1 k2 k5 k3 k4 hl2
               go_enter Tryz.func58, Tryz.ntmps58
               go_wp2_with fail
               generalize w.alloc (.cells #[Value.bool false, Value.slice A n c, Value.slice B m d] 33) = w1 at *
               refine (rTrimmed_c HX.out (by omega) true K1.out).mono ?_
               rintro e w2 ⟨rfl, rfl⟩
               have c00 := HR0.out.c0
               have c01 := HR0.out.c1
               have c02 := HR0.out.c2
               go_wp2_with fail
               clear c00 c01 c02
               refine (rTrimmed_c HY.out (by omega) true K2.out).mono ?_
               rintro e w2 ⟨rfl, rfl⟩
               have c00 := HR0.out.c0
               have c01 := HR0.out.c1
               have c02 := HR0.out.c2
               go_wp2_with fail
               clear c00 c01 c02
               refine (rFits_c false A B n c m d _ true K5.out).mono ?_
               rintro e w3 ⟨rfl, bn⟩
               replace HX := Lib.hid (HX.out.below bn)
               replace HY := Lib.hid (HY.out.below bn)
               replace HR0 := Lib.hid (HR0.out.below bn)
               replace HW := Lib.hid (below_two HW.out bn)
               clear bn
               have c00 := HR0.out.c0
               have c01 := HR0.out.c1
               have c02 := HR0.out.c2
               go_wp2_with fail
               refine (quoGcd_c HX.out HY.out (by omega) (by omega) L HG.out).mono ?_
               rintro e w4 ⟨A3, n3, c3, rfl, h3, bn⟩
               have H3 := Lib.hid h3
               replace HW := Lib.hid (below_two HW.out bn)
               clear bn h3
               clear c00 c01 c02
               go_wp2_with fail
               refine (of_c 1 1 rfl (by decide) _).mono ?_
               rintro e w5 ⟨A4, n4, c4, rfl, h4, bn⟩
               have H4 := Lib.hid h4
               replace H3 := Lib.hid (H3.out.below bn)
               replace HW := Lib.hid (below_two HW.out bn)
               clear bn h4
               go_wp2_with fail
               refine (cmp_c H3.out H4.out (by omega) (by decide) z HZ.out).mono ?_
               rintro e w6 ⟨rfl, bn⟩
               replace HW := Lib.hid (below_two HW.out bn)
               clear bn
               go_wp2
               go_ret
               exact ⟨rfl, HW.out⟩
     · have hgf : goodV s xs ys = false := by
        rw [Bool.eq_false_iff]
        intro h
        obtain ⟨g1, g2, g3, g4, g5, g6, g7⟩ := goodV_iff.1 h
        exact k5 ⟨by omega, by omega⟩
       obtain rfl : v = false := hg.symm.trans hgf
       clear hg hgf hlx hlt hsx hsy
       have K1 : RowKit.Hid (decide (xs = limbs (Limb.val xs)) = true) := by show _ = _; simpa using k1
       have K2 : RowKit.Hid (decide (ys = limbs (Limb.val ys)) = true) := by show _ = _; simpa using k2
       have K5 : RowKit.Hid ((decide (n ≤ 64) && decide (m ≤ 64)) = false) := by show _ = _; rw [Bool.eq_false_iff]; simpa using k5
       clear k1 k2 k5 
       go_enter Tryz.func58, Tryz.ntmps58
       go_wp2_with fail
       generalize w.alloc (.cells #[Value.bool s, Value.slice A n c, Value.slice B m d] 33) = w1 at *
       refine (rTrimmed_c HX.out (by omega) true K1.out).mono ?_
       rintro e w2 ⟨rfl, rfl⟩
       have c00 := HR0.out.c0
       have c01 := HR0.out.c1
       have c02 := HR0.out.c2
       go_wp2_with fail
       clear c00 c01 c02
       refine (rTrimmed_c HY.out (by omega) true K2.out).mono ?_
       rintro e w2 ⟨rfl, rfl⟩
       have c00 := HR0.out.c0
       have c01 := HR0.out.c1
       have c02 := HR0.out.c2
       go_wp2_with fail
       clear c00 c01 c02
       refine (rFits_c s A B n c m d _ false K5.out).mono ?_
       rintro e w3 ⟨rfl, bn⟩
       replace HX := Lib.hid (HX.out.below bn)
       replace HY := Lib.hid (HY.out.below bn)
       replace HR0 := Lib.hid (HR0.out.below bn)
       replace HW := Lib.hid (below_two HW.out bn)
       clear bn
       go_wp2
       go_ret
       exact ⟨rfl, HW.out⟩
   · have hgf : goodV s xs ys = false := by
      rw [Bool.eq_false_iff]
      intro h
      obtain ⟨g1, g2, g3, g4, g5, g6, g7⟩ := goodV_iff.1 h
      exact k2 g2
     obtain rfl : v = false := hg.symm.trans hgf
     clear hg hgf hlx hlt hsx hsy
     have K1 : RowKit.Hid (decide (xs = limbs (Limb.val xs)) = true) := by show _ = _; simpa using k1
     have K2 : RowKit.Hid (decide (ys = limbs (Limb.val ys)) = false) := by show _ = _; simpa using k2
     clear k1 k2
     go_enter Tryz.func58, Tryz.ntmps58
     go_wp2_with fail
     generalize w.alloc (.cells #[Value.bool s, Value.slice A n c, Value.slice B m d] 33) = w1 at *
     refine (rTrimmed_c HX.out (by omega) true K1.out).mono ?_
     rintro e w2 ⟨rfl, rfl⟩
     have c00 := HR0.out.c0
     have c01 := HR0.out.c1
     have c02 := HR0.out.c2
     go_wp2_with fail
     clear c00 c01 c02
     refine (rTrimmed_c HY.out (by omega) false K2.out).mono ?_
     rintro e w2 ⟨rfl, rfl⟩
     go_wp2
     go_ret
     exact ⟨rfl, HW.out⟩
 · have hgf : goodV s xs ys = false := by
    rw [Bool.eq_false_iff]
    intro h
    obtain ⟨g1, g2, g3, g4, g5, g6, g7⟩ := goodV_iff.1 h
    exact k1 g1
   obtain rfl : v = false := hg.symm.trans hgf
   clear hg hgf hlx hlt hsx hsy
   have K1 : RowKit.Hid (decide (xs = limbs (Limb.val xs)) = false) := by show _ = _; simpa using k1
   clear k1
   go_enter Tryz.func58, Tryz.ntmps58
   go_wp2_with fail
   generalize w.alloc (.cells #[Value.bool s, Value.slice A n c, Value.slice B m d] 33) = w1 at *
   refine (rTrimmed_c HX.out (by omega) false K1.out).mono ?_
   rintro e w2 ⟨rfl, rfl⟩
   go_wp2
   go_ret
   exact ⟨rfl, HW.out⟩
end
end Go.Proofs.YtohokfbohdoijaaGreatDoor

/- What package rat's Cmp, Sign, Neg, Same and Whole answer, as contracts over memory. Conditions: sizes of at most so many limbs. -/
namespace Go.Proofs.YtohokfbohdoijaaGreatDoor
open Go.RowKit Limb
set_option linter.unusedVariables false
section
variable {w : World} {s s' : Bool} {A B A' B' : Option Addr} {n c m d n' c' m' d' : Nat} {xs ys xs' ys' : List Nat} {x y : Int} {o o' : Option Rat} {a b L L' : Nat}
set_option maxHeartbeats 4000000 in
set_option maxRecDepth 100000 in
theorem rSign_c (hx : QQ w s A n c xs B m d ys o L) (h1 : L ≤ 1000) (v : Int) (hv : cmpR o (some 0) = v) :
 Calls Tryz.prog 70 #[.agg #[.bool s, .slice A n c, .slice B m d]] w fun e w' => e = .returned (.int .i64 v) ∧ Below w.heap.size w w' := by
 cases o with
 | none =>
  obtain rfl : v = 0 := hv.symm
  clear hv
  have b0 := below_new w (.cells #[Value.bool s, Value.slice A n c, Value.slice B m d] 33)
  have HW := Lib.hid b0
  have HQ0 := Lib.hid (hx.below HW.out)
  have r0 := ((row3_new w 33 (.bool s) (.slice A n c) (.slice B m d)))
  clear b0 hx
  go_enter Tryz.func70, Tryz.ntmps70
  go_wp2_with fail
  generalize w.alloc (.cells #[Value.bool s, Value.slice A n c, Value.slice B m d] 33) = w1 at *
  have HR0 := Lib.hid r0
  clear r0
  refine (rGood_c HQ0.out (by omega) false rfl).mono ?_
  rintro e w2 ⟨rfl, bn⟩
  replace HQ0 := Lib.hid (HQ0.out.below bn)
  replace HR0 := Lib.hid (HR0.out.below bn)
  replace HW := Lib.hid (below_two HW.out bn)
  clear bn
  go_wp2
  go_ret
  exact ⟨rfl, HW.out⟩
 | some p =>
  have HV : RowKit.Hid (cmpZ p.num 0 = v) := by
   show _ = _
   rw [← cmpQ_top]; exact hv
  clear hv
  have b0 := below_new w (.cells #[Value.bool s, Value.slice A n c, Value.slice B m d] 33)
  have HW := Lib.hid b0
  have HQ0 := Lib.hid (hx.below HW.out)
  have r0 := ((row3_new w 33 (.bool s) (.slice A n c) (.slice B m d)))
  clear b0 hx
  go_enter Tryz.func70, Tryz.ntmps70
  go_wp2_with fail
  generalize w.alloc (.cells #[Value.bool s, Value.slice A n c, Value.slice B m d] 33) = w1 at *
  have HR0 := Lib.hid r0
  clear r0
  refine (rGood_c HQ0.out (by omega) true rfl).mono ?_
  rintro e wS ⟨rfl, bn⟩
  replace HQ0 := Lib.hid (HQ0.out.below bn)
  replace HR0 := Lib.hid (HR0.out.below bn)
  replace HW := Lib.hid (below_two HW.out bn)
  clear bn
  have HX := Lib.hid HQ0.out.some.2.2.2.2.1
  have HY := Lib.hid HQ0.out.some.2.2.2.2.2.1
  have Hf := Lib.hid HQ0.out.some.2.2.2.1
  have c00 := HR0.out.c0
  have c01 := HR0.out.c1
  have c02 := HR0.out.c2
  go_wp2_with fail
  clear c00 c01 c02
  refine (wCmp_c HX.out (zz_none _) (by decide) (by decide) v HV.out).mono ?_
  rintro e w3 ⟨rfl, bn⟩
  replace HW := Lib.hid (below_two HW.out bn)
  clear bn
  go_wp2
  go_ret
  exact ⟨rfl, HW.out⟩
end
set_option maxHeartbeats 4000000 in
set_option maxRecDepth 100000 in
theorem rWhole_c (v : Int) (h0 : -9223372036854775808 ≤ v) (h1 : v ≤ 9223372036854775807) (w : World) :
 Calls Tryz.prog 29 #[.int .i64 v] w fun e w' => ∃ A2 n2 c2 B2 m2 d2, e = .returned (.agg #[.bool (sg (oTop (some (v : Rat)))), .slice A2 n2 c2, .slice B2 m2 d2]) ∧ QT w' A2 n2 c2 B2 m2 d2 (some (v : Rat)) ∧ Below w.heap.size w w' := by
 have HW := Lib.hid (below_new w (.cells #[Value.bool false, Value.slice none 0 0, Value.slice none 0 0] 33))
 have HZ := Lib.hid (row3_new w 33 (.bool false) (.slice none 0 0) (.slice none 0 0))
 go_enter Tryz.func29, Tryz.ntmps29
 go_wp2_with fail
 refine (wOf_c v h0 h1 _).mono ?_
 rintro e w2 ⟨A2, n2, c2, rfl, h2, bn⟩
 have H2 := Lib.hid h2
 replace HZ := Lib.hid (HZ.out.below bn)
 replace HW := Lib.hid (below_two HW.out bn)
 clear h2 bn
 go_wp2_with fail
 refine (of_c 1 1 rfl (by decide) _).mono ?_
 rintro e w3 ⟨A4, n4, c4, rfl, h4, bn⟩
 replace H2 := Lib.hid (H2.out.below bn)
 replace HZ := Lib.hid (HZ.out.below bn)
 replace HW := Lib.hid (below_two HW.out bn)
 have HL := Lib.hid h4
 clear h4 bn
 have hNo := HZ.out.noLimb (by intro v e; cases e) (by intro v e; cases e) (by intro v e; cases e)
 have e0 := HZ.out.c0
 have e1 := HZ.out.c1
 have e2 := HZ.out.c2
 have f0 := HZ.out.free 0
 have f1 := HZ.out.free 1
 have f2 := HZ.out.free 2
 have HF := Lib.hid (HZ.out.fill (.bool (sg v)) (.slice A2 n2 c2) (.slice A4 n4 c4))
 have HP1 := Lib.hid (H2.out.fillR3 hNo (.bool (sg v)) (.slice A2 n2 c2) (.slice A4 n4 c4))
 have HP2 := Lib.hid (HL.out.fillR3 hNo (.bool (sg v)) (.slice A2 n2 c2) (.slice A4 n4 c4))
 have HB := Lib.hid (below_fill3' HW.out (Nat.le_refl _) (.bool (sg v)) (.slice A2 n2 c2) (.slice A4 n4 c4))
 clear hNo H2 HL
 go_wp2
 refine bodyPost_ret (results_cell_row rfl _ _ w.heap.size 33 #[.bool (sg v), .slice A2 n2 c2, .slice A4 n4 c4] (0, 0) _ rfl HF.out Tryz.underlying33 rfl rat_size) rfl ?_
 exact ⟨A2, n2, c2, _, _, _, rfl, qt_some (q := (v : Rat)) HP1.out HP2.out (whole_fits h0 h1), HB.out⟩
end Go.Proofs.YtohokfbohdoijaaGreatDoor

/- What package power's Of answers, as a contract over memory. Conditions: sizes of at most so many limbs. -/
namespace Go.Proofs.YtohokfbohdoijaaGreatDoor
open Go.RowKit Limb
set_option linter.unusedVariables false
theorem powR_in {q : Rat} {n : Int} (h1 : n ≤ 128) (h2 : -128 ≤ n) (hq : q.num ≠ 0 ∨ 0 ≤ n) : powR (some q) n = limR (q ^ n) := by
 by_cases h0 : n = 0
 · subst h0
   rw [powR_zero rfl, Rat.zpow_zero]
   exact (limR_fits one_bd (by decide) (by decide)).symm
 · exact powR_lim h1 h2 h0 (by omega)
theorem pRaiseT_c {w : World} {A B : Option Addr} {n c m d : Nat} {t : Rat} (h : QT w A n c B m d (some t)) (v : Int) (v0 : -600 ≤ v) (v1 : v ≤ 600) (hq : t.num ≠ 0 ∨ 0 ≤ v) (z : Rat) (hz : t ^ v = z) (r : Option Rat) (e : Int) (hR : limR z = (r, e)) :
 Calls Tryz.prog 113 #[.agg #[.bool (sg (oTop (some t))), .slice A n c, .slice B m d], .int .i64 v] w fun ee w' => ∃ A2 n2 c2 B2 m2 d2, ee = .returned (.tuple #[.agg #[.bool (sg (oTop r)), .slice A2 n2 c2, .slice B2 m2 d2], .int .i64 e]) ∧ QT w' A2 n2 c2 B2 m2 d2 r ∧ Below w.heap.size w w' :=
 pRaise_c h.some.2.2.2.2.1 h.some.2.2.2.2.2.1 (Nat.le_refl _) (Nat.le_refl _) v v0 v1 hq z hz r e hR
section
variable {w : World} {s s' : Bool} {A B A' B' : Option Addr} {n c m d n' c' m' d' : Nat} {xs ys xs' ys' : List Nat} {x y : Int} {o : Option Rat} {a b L L' : Nat}
set_option maxHeartbeats 4000000 in
set_option maxRecDepth 100000 in
theorem pOf_c (hx : QQ w s A n c xs B m d ys o L) (h1 : L ≤ 1000) (v : Int) (r : Option Rat) (e : Int) (hR : powR o v = (r, e)) :
 Calls Tryz.prog 146 #[.agg #[.bool s, .slice A n c, .slice B m d], .int .i64 v] w fun ee w' => ∃ A2 n2 c2 B2 m2 d2, ee = .returned (.tuple #[.agg #[.bool (sg (oTop r)), .slice A2 n2 c2, .slice B2 m2 d2], .int .i64 e]) ∧ QT w' A2 n2 c2 B2 m2 d2 r ∧ Below w.heap.size w w' := by
 cases o with
 | none =>
  have hR2 : ((none : Option Rat), (1 : Int)) = (r, e) := hR
  cases hR2
  clear hR
  have b0 := below_new w (.cells #[Value.bool s, Value.slice A n c, Value.slice B m d] 33)
  have b2 := below_new (w.alloc (.cells #[Value.bool s, Value.slice A n c, Value.slice B m d] 33)) (.cells #[Value.bool false, Value.slice none 0 0, Value.slice none 0 0] 33)
  have HW := Lib.hid (below_two b0 b2)
  have HQ0 := Lib.hid (hx.below HW.out)
  have r0 := ((row3_new w 33 (.bool s) (.slice A n c) (.slice B m d))).below b2
  have rz := row3_new (w.alloc (.cells #[Value.bool s, Value.slice A n c, Value.slice B m d] 33)) 33 (.bool false) (.slice none 0 0) (.slice none 0 0)
  simp only [World.size_alloc] at rz
  clear b0 b2 hx
  go_enter Tryz.func146, Tryz.ntmps146
  go_wp2_with fail
  generalize (w.alloc (.cells #[Value.bool s, Value.slice A n c, Value.slice B m d] 33)).alloc (.cells #[Value.bool false, Value.slice none 0 0, Value.slice none 0 0] 33) = w1 at *
  have HR0 := Lib.hid r0
  have HZ := Lib.hid rz
  have Hq : RowKit.Hid (w.heap.size ≤ w.heap.size + 1) := by show _ ≤ _; omega
  clear r0 rz
  refine (rGood_c HQ0.out (by omega) false rfl).mono ?_
  rintro e w2 ⟨rfl, bn⟩
  replace HQ0 := Lib.hid (HQ0.out.below bn)
  replace HR0 := Lib.hid (HR0.out.below bn)
  replace HZ := Lib.hid (HZ.out.below bn)
  replace HW := Lib.hid (below_two HW.out bn)
  clear bn
  have e0 := HZ.out.c0
  have e1 := HZ.out.c1
  have e2 := HZ.out.c2
  have f0 := HZ.out.free 0
  have f1 := HZ.out.free 1
  have f2 := HZ.out.free 2
  have HF := Lib.hid (HZ.out.fill (.bool false) (.slice none 0 0) (.slice none 0 0))
  have HB := Lib.hid (below_fill3' HW.out Hq.out (.bool false) (.slice none 0 0) (.slice none 0 0))
  go_wp2
  refine bodyPost_ret (results_mixed rfl _ _ _ 33 #[.bool false, .slice none 0 0, .slice none 0 0] (0, 0) _ (.int .i64 1) rfl rfl HF.out Tryz.underlying33 rfl rat_size) rfl ?_
  exact ⟨none, 0, 0, none, 0, 0, rfl, qt_none _ 0 0, HB.out⟩
 | some q =>
  obtain ⟨t1, t2, t3, t4, _, _, _⟩ := qq_told hx
  subst t1
  subst t2
  subst t3
  replace hx := t4
  clear t4 h1
  have h1 : 64 ≤ 1000 := by decide
  by_cases k1 : 128 < v
  · rw [powR_big (.inl k1)] at hR
    cases hR
    have b0 := below_new w (.cells #[Value.bool (sg (oTop (some q))), Value.slice A n c, Value.slice B m d] 33)
    have b2 := below_new (w.alloc (.cells #[Value.bool (sg (oTop (some q))), Value.slice A n c, Value.slice B m d] 33)) (.cells #[Value.bool false, Value.slice none 0 0, Value.slice none 0 0] 33)
    have HW := Lib.hid (below_two b0 b2)
    have HQ0 := Lib.hid (hx.below HW.out)
    have r0 := ((row3_new w 33 (.bool (sg (oTop (some q)))) (.slice A n c) (.slice B m d))).below b2
    have rz := row3_new (w.alloc (.cells #[Value.bool (sg (oTop (some q))), Value.slice A n c, Value.slice B m d] 33)) 33 (.bool false) (.slice none 0 0) (.slice none 0 0)
    simp only [World.size_alloc] at rz
    clear b0 b2 hx
    go_enter Tryz.func146, Tryz.ntmps146
    go_wp2_with fail
    generalize (w.alloc (.cells #[Value.bool (sg (oTop (some q))), Value.slice A n c, Value.slice B m d] 33)).alloc (.cells #[Value.bool false, Value.slice none 0 0, Value.slice none 0 0] 33) = w1 at *
    have HR0 := Lib.hid r0
    have HZ := Lib.hid rz
    have Hq : RowKit.Hid (w.heap.size ≤ w.heap.size + 1) := by show _ ≤ _; omega
    clear r0 rz
    refine (rGood_c HQ0.out (by omega) true rfl).mono ?_
    rintro e w2 ⟨rfl, bn⟩
    replace HQ0 := Lib.hid (HQ0.out.below bn)
    replace HR0 := Lib.hid (HR0.out.below bn)
    replace HZ := Lib.hid (HZ.out.below bn)
    replace HW := Lib.hid (below_two HW.out bn)
    clear bn
    have e0 := HZ.out.c0
    have e1 := HZ.out.c1
    have e2 := HZ.out.c2
    have f0 := HZ.out.free 0
    have f1 := HZ.out.free 1
    have f2 := HZ.out.free 2
    have HF := Lib.hid (HZ.out.fill (.bool false) (.slice none 0 0) (.slice none 0 0))
    have HB := Lib.hid (below_fill3' HW.out Hq.out (.bool false) (.slice none 0 0) (.slice none 0 0))
    go_wp2
    refine bodyPost_ret (results_mixed rfl _ _ _ 33 #[.bool false, .slice none 0 0, .slice none 0 0] (0, 0) _ (.int .i64 2) rfl rfl HF.out Tryz.underlying33 rfl rat_size) rfl ?_
    exact ⟨none, 0, 0, none, 0, 0, rfl, qt_none _ 0 0, HB.out⟩
  · by_cases k2 : v < -128
    · rw [powR_big (.inr k2)] at hR
      cases hR
      have k3 : v ≤ 128 := by omega
      have b0 := below_new w (.cells #[Value.bool (sg (oTop (some q))), Value.slice A n c, Value.slice B m d] 33)
      have b2 := below_new (w.alloc (.cells #[Value.bool (sg (oTop (some q))), Value.slice A n c, Value.slice B m d] 33)) (.cells #[Value.bool false, Value.slice none 0 0, Value.slice none 0 0] 33)
      have HW := Lib.hid (below_two b0 b2)
      have HQ0 := Lib.hid (hx.below HW.out)
      have r0 := ((row3_new w 33 (.bool (sg (oTop (some q)))) (.slice A n c) (.slice B m d))).below b2
      have rz := row3_new (w.alloc (.cells #[Value.bool (sg (oTop (some q))), Value.slice A n c, Value.slice B m d] 33)) 33 (.bool false) (.slice none 0 0) (.slice none 0 0)
      simp only [World.size_alloc] at rz
      clear b0 b2 hx
      go_enter Tryz.func146, Tryz.ntmps146
      go_wp2_with fail
      generalize (w.alloc (.cells #[Value.bool (sg (oTop (some q))), Value.slice A n c, Value.slice B m d] 33)).alloc (.cells #[Value.bool false, Value.slice none 0 0, Value.slice none 0 0] 33) = w1 at *
      have HR0 := Lib.hid r0
      have HZ := Lib.hid rz
      have Hq : RowKit.Hid (w.heap.size ≤ w.heap.size + 1) := by show _ ≤ _; omega
      clear r0 rz
      refine (rGood_c HQ0.out (by omega) true rfl).mono ?_
      rintro e w2 ⟨rfl, bn⟩
      replace HQ0 := Lib.hid (HQ0.out.below bn)
      replace HR0 := Lib.hid (HR0.out.below bn)
      replace HZ := Lib.hid (HZ.out.below bn)
      replace HW := Lib.hid (below_two HW.out bn)
      clear bn
      have e0 := HZ.out.c0
      have e1 := HZ.out.c1
      have e2 := HZ.out.c2
      have f0 := HZ.out.free 0
      have f1 := HZ.out.free 1
      have f2 := HZ.out.free 2
      have HF := Lib.hid (HZ.out.fill (.bool false) (.slice none 0 0) (.slice none 0 0))
      have HB := Lib.hid (below_fill3' HW.out Hq.out (.bool false) (.slice none 0 0) (.slice none 0 0))
      go_wp2
      refine bodyPost_ret (results_mixed rfl _ _ _ 33 #[.bool false, .slice none 0 0, .slice none 0 0] (0, 0) _ (.int .i64 2) rfl rfl HF.out Tryz.underlying33 rfl rat_size) rfl ?_
      exact ⟨none, 0, 0, none, 0, 0, rfl, qt_none _ 0 0, HB.out⟩
    · by_cases k4 : 0 ≤ v
      · have k5 : v ≤ 128 := by omega
        have k6 : -128 ≤ v := by omega
        rw [powR_in k5 k6 (.inr k4)] at hR
        obtain ⟨z, hz⟩ : ∃ z : Rat, q ^ v = z := ⟨_, rfl⟩
        rw [hz] at hR
        have HR := Lib.hid hR
        have Hz := Lib.hid hz
        clear hR hz
        have b0 := below_new w (.cells #[Value.bool (sg (oTop (some q))), Value.slice A n c, Value.slice B m d] 33)
        have b2 := below_new (w.alloc (.cells #[Value.bool (sg (oTop (some q))), Value.slice A n c, Value.slice B m d] 33)) (.cells #[Value.bool false, Value.slice none 0 0, Value.slice none 0 0] 33)
        have HW := Lib.hid (below_two b0 b2)
        have HQ0 := Lib.hid (hx.below HW.out)
        have r0 := ((row3_new w 33 (.bool (sg (oTop (some q)))) (.slice A n c) (.slice B m d))).below b2
        have rz := row3_new (w.alloc (.cells #[Value.bool (sg (oTop (some q))), Value.slice A n c, Value.slice B m d] 33)) 33 (.bool false) (.slice none 0 0) (.slice none 0 0)
        simp only [World.size_alloc] at rz
        clear b0 b2 hx
        go_enter Tryz.func146, Tryz.ntmps146
        go_wp2_with fail
        generalize (w.alloc (.cells #[Value.bool (sg (oTop (some q))), Value.slice A n c, Value.slice B m d] 33)).alloc (.cells #[Value.bool false, Value.slice none 0 0, Value.slice none 0 0] 33) = w1 at *
        have HR0 := Lib.hid r0
        have HZ := Lib.hid rz
        have Hq : RowKit.Hid (w.heap.size ≤ w.heap.size + 1) := by show _ ≤ _; omega
        clear r0 rz
        refine (rGood_c HQ0.out (by omega) true rfl).mono ?_
        rintro e w2 ⟨rfl, bn⟩
        replace HQ0 := Lib.hid (HQ0.out.below bn)
        replace HR0 := Lib.hid (HR0.out.below bn)
        replace HZ := Lib.hid (HZ.out.below bn)
        replace HW := Lib.hid (below_two HW.out bn)
        clear bn
        have c00 := HR0.out.c0
        have c01 := HR0.out.c1
        have c02 := HR0.out.c2
        go_wp2_with fail
        clear c00 c01 c02
        refine (pRaiseT_c HQ0.out v (by omega) (by omega) (.inr k4) z Hz.out r e HR.out).mono ?_
        rintro ee w4 ⟨A9, n9, c9, B9, m9, d9, rfl, h9, bn⟩
        have hZ3 := HZ.out.below bn
        have hNo := hZ3.noLimb (by intro v e; cases e) (by intro v e; cases e) (by intro v e; cases e)
        have e0 := hZ3.c0
        have e1 := hZ3.c1
        have e2 := hZ3.c2
        have f0 := hZ3.free 0
        have f1 := hZ3.free 1
        have f2 := hZ3.free 2
        have HF := Lib.hid (hZ3.fill (.bool (sg (oTop r))) (.slice A9 n9 c9) (.slice B9 m9 d9))
        have HP := Lib.hid (QQ.fillR3 h9 hNo (.bool (sg (oTop r))) (.slice A9 n9 c9) (.slice B9 m9 d9))
        have HB := Lib.hid (below_fill3' (below_two HW.out bn) Hq.out (.bool (sg (oTop r))) (.slice A9 n9 c9) (.slice B9 m9 d9))
        clear hNo bn h9 hZ3
        go_wp2
        refine bodyPost_ret (results_mixed rfl _ _ _ 33 #[.bool (sg (oTop r)), .slice A9 n9 c9, .slice B9 m9 d9] (0, 0) _ (.int .i64 e) rfl rfl HF.out Tryz.underlying33 rfl rat_size) rfl ?_
        exact ⟨A9, n9, c9, B9, m9, d9, rfl, HP.out, HB.out⟩
      · have k7 : v < 0 := by omega
        by_cases hq0 : q.num = 0
        · have k5 : v ≤ 128 := by omega
          have k6 : -128 ≤ v := by omega
          rw [pow_none ⟨by omega, by omega⟩ hq0] at hR
          cases hR
          obtain ⟨u, hu⟩ : ∃ u, cmpR (some q) (some 0) = u := ⟨_, rfl⟩
          have hu0 : (u == 0) = true := by
           have h := sign_num (q := q)
           rw [show cmpQ q 0 = u from hu] at h
           rw [h, decide_eq_true hq0]
          have HU := Lib.hid hu
          clear hu
          have b0 := below_new w (.cells #[Value.bool (sg (oTop (some q))), Value.slice A n c, Value.slice B m d] 33)
          have b2 := below_new (w.alloc (.cells #[Value.bool (sg (oTop (some q))), Value.slice A n c, Value.slice B m d] 33)) (.cells #[Value.bool false, Value.slice none 0 0, Value.slice none 0 0] 33)
          have HW := Lib.hid (below_two b0 b2)
          have HQ0 := Lib.hid (hx.below HW.out)
          have r0 := ((row3_new w 33 (.bool (sg (oTop (some q)))) (.slice A n c) (.slice B m d))).below b2
          have rz := row3_new (w.alloc (.cells #[Value.bool (sg (oTop (some q))), Value.slice A n c, Value.slice B m d] 33)) 33 (.bool false) (.slice none 0 0) (.slice none 0 0)
          simp only [World.size_alloc] at rz
          clear b0 b2 hx
          go_enter Tryz.func146, Tryz.ntmps146
          go_wp2_with fail
          generalize (w.alloc (.cells #[Value.bool (sg (oTop (some q))), Value.slice A n c, Value.slice B m d] 33)).alloc (.cells #[Value.bool false, Value.slice none 0 0, Value.slice none 0 0] 33) = w1 at *
          have HR0 := Lib.hid r0
          have HZ := Lib.hid rz
          have Hq : RowKit.Hid (w.heap.size ≤ w.heap.size + 1) := by show _ ≤ _; omega
          clear r0 rz
          refine (rGood_c HQ0.out (by omega) true rfl).mono ?_
          rintro e w2 ⟨rfl, bn⟩
          replace HQ0 := Lib.hid (HQ0.out.below bn)
          replace HR0 := Lib.hid (HR0.out.below bn)
          replace HZ := Lib.hid (HZ.out.below bn)
          replace HW := Lib.hid (below_two HW.out bn)
          clear bn
          have c00 := HR0.out.c0
          have c01 := HR0.out.c1
          have c02 := HR0.out.c2
          go_wp2_with fail
          clear c00 c01 c02
          refine (rSign_c HQ0.out (by decide) u HU.out).mono ?_
          rintro ee w3 ⟨rfl, bn⟩
          replace HQ0 := Lib.hid (HQ0.out.below bn)
          replace HR0 := Lib.hid (HR0.out.below bn)
          replace HZ := Lib.hid (HZ.out.below bn)
          replace HW := Lib.hid (below_two HW.out bn)
          clear bn
          have e0 := HZ.out.c0
          have e1 := HZ.out.c1
          have e2 := HZ.out.c2
          have f0 := HZ.out.free 0
          have f1 := HZ.out.free 1
          have f2 := HZ.out.free 2
          have HF := Lib.hid (HZ.out.fill (.bool false) (.slice none 0 0) (.slice none 0 0))
          have HB := Lib.hid (below_fill3' HW.out Hq.out (.bool false) (.slice none 0 0) (.slice none 0 0))
          go_wp2
          refine bodyPost_ret (results_mixed rfl _ _ _ 33 #[.bool false, .slice none 0 0, .slice none 0 0] (0, 0) _ (.int .i64 3) rfl rfl HF.out Tryz.underlying33 rfl rat_size) rfl ?_
          exact ⟨none, 0, 0, none, 0, 0, rfl, qt_none _ 0 0, HB.out⟩
        · have k5 : v ≤ 128 := by omega
          have k6 : -128 ≤ v := by omega
          rw [powR_in k5 k6 (.inl hq0)] at hR
          obtain ⟨z, hz⟩ : ∃ z : Rat, q ^ v = z := ⟨_, rfl⟩
          rw [hz] at hR
          have HR := Lib.hid hR
          have Hz := Lib.hid hz
          clear hR hz
          obtain ⟨u, hu⟩ : ∃ u, cmpR (some q) (some 0) = u := ⟨_, rfl⟩
          have hu0 : (u == 0) = false := by
           have h := sign_num (q := q)
           rw [show cmpQ q 0 = u from hu] at h
           rw [h, decide_eq_false hq0]
          have HU := Lib.hid hu
          clear hu
          have HQN := Lib.hid hq0
          clear hq0
          have b0 := below_new w (.cells #[Value.bool (sg (oTop (some q))), Value.slice A n c, Value.slice B m d] 33)
          have b2 := below_new (w.alloc (.cells #[Value.bool (sg (oTop (some q))), Value.slice A n c, Value.slice B m d] 33)) (.cells #[Value.bool false, Value.slice none 0 0, Value.slice none 0 0] 33)
          have HW := Lib.hid (below_two b0 b2)
          have HQ0 := Lib.hid (hx.below HW.out)
          have r0 := ((row3_new w 33 (.bool (sg (oTop (some q)))) (.slice A n c) (.slice B m d))).below b2
          have rz := row3_new (w.alloc (.cells #[Value.bool (sg (oTop (some q))), Value.slice A n c, Value.slice B m d] 33)) 33 (.bool false) (.slice none 0 0) (.slice none 0 0)
          simp only [World.size_alloc] at rz
          clear b0 b2 hx
          go_enter Tryz.func146, Tryz.ntmps146
          go_wp2_with fail
          generalize (w.alloc (.cells #[Value.bool (sg (oTop (some q))), Value.slice A n c, Value.slice B m d] 33)).alloc (.cells #[Value.bool false, Value.slice none 0 0, Value.slice none 0 0] 33) = w1 at *
          have HR0 := Lib.hid r0
          have HZ := Lib.hid rz
          have Hq : RowKit.Hid (w.heap.size ≤ w.heap.size + 1) := by show _ ≤ _; omega
          clear r0 rz
          refine (rGood_c HQ0.out (by omega) true rfl).mono ?_
          rintro e w2 ⟨rfl, bn⟩
          replace HQ0 := Lib.hid (HQ0.out.below bn)
          replace HR0 := Lib.hid (HR0.out.below bn)
          replace HZ := Lib.hid (HZ.out.below bn)
          replace HW := Lib.hid (below_two HW.out bn)
          clear bn
          have c00 := HR0.out.c0
          have c01 := HR0.out.c1
          have c02 := HR0.out.c2
          go_wp2_with fail
          clear c00 c01 c02
          refine (rSign_c HQ0.out (by decide) u HU.out).mono ?_
          rintro ee w3 ⟨rfl, bn⟩
          replace HQ0 := Lib.hid (HQ0.out.below bn)
          replace HR0 := Lib.hid (HR0.out.below bn)
          replace HZ := Lib.hid (HZ.out.below bn)
          replace HW := Lib.hid (below_two HW.out bn)
          clear bn
          have c00 := HR0.out.c0
          have c01 := HR0.out.c1
          have c02 := HR0.out.c2
          go_wp2_with fail
          clear c00 c01 c02
          refine (pRaiseT_c HQ0.out v (by omega) (by omega) (.inl HQN.out) z Hz.out r e HR.out).mono ?_
          rintro ee w4 ⟨A9, n9, c9, B9, m9, d9, rfl, h9, bn⟩
          have hZ3 := HZ.out.below bn
          have hNo := hZ3.noLimb (by intro v e; cases e) (by intro v e; cases e) (by intro v e; cases e)
          have e0 := hZ3.c0
          have e1 := hZ3.c1
          have e2 := hZ3.c2
          have f0 := hZ3.free 0
          have f1 := hZ3.free 1
          have f2 := hZ3.free 2
          have HF := Lib.hid (hZ3.fill (.bool (sg (oTop r))) (.slice A9 n9 c9) (.slice B9 m9 d9))
          have HP := Lib.hid (QQ.fillR3 h9 hNo (.bool (sg (oTop r))) (.slice A9 n9 c9) (.slice B9 m9 d9))
          have HB := Lib.hid (below_fill3' (below_two HW.out bn) Hq.out (.bool (sg (oTop r))) (.slice A9 n9 c9) (.slice B9 m9 d9))
          clear hNo bn h9 hZ3
          go_wp2
          refine bodyPost_ret (results_mixed rfl _ _ _ 33 #[.bool (sg (oTop r)), .slice A9 n9 c9, .slice B9 m9 d9] (0, 0) _ (.int .i64 e) rfl rfl HF.out Tryz.underlying33 rfl rat_size) rfl ?_
          exact ⟨A9, n9, c9, B9, m9, d9, rfl, HP.out, HB.out⟩
end
end Go.Proofs.YtohokfbohdoijaaGreatDoor
