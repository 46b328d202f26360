/- Part 8 of the texts that the statements of this seat lean on: mathematics, and what functions answer, as contracts over memory; each part says its own conditions. -/
import Derived.Test.YtmifgblbicnimaaM7
/- What package power's Of answers, as a contract over memory. Conditions: sizes of at most so many limbs. -/
namespace Go.Proofs.Ytmifgblbicnimaa
open Go.RowKit Limb
set_option linter.unusedVariables false
theorem powR_in {q : Rat} {n : Int} (h1 : n ≤ 128) (h2 : -128 ≤ n) (hq : q.num ≠ 0 ∨ 0 ≤ n) : powR (some q) n = limR (q ^ n) := by
  by_cases h0 : n = 0
  · subst h0
    rw [powR_zero rfl, Rat.zpow_zero]
    exact (limR_fits one_bd (by decide) (by decide)).symm
  · exact powR_lim h1 h2 h0 (by omega)
theorem pRaiseT_c {w : World} {A B : Option Addr} {n c m d : Nat} {t : Rat} (h : QT w A n c B m d (some t)) (v : Int) (v0 : -600 ≤ v) (v1 : v ≤ 600) (hq : t.num ≠ 0 ∨ 0 ≤ v) (z : Rat) (hz : t ^ v = z) (r : Option Rat) (e : Int) (hR : limR z = (r, e)) :
    Calls Try.prog 25 #[.agg #[.bool (sg (oTop (some t))), .slice A n c, .slice B m d], .int .i64 v] w fun ee w' => ∃ A2 n2 c2 B2 m2 d2, ee = .returned (.tuple #[.agg #[.bool (sg (oTop r)), .slice A2 n2 c2, .slice B2 m2 d2], .int .i64 e]) ∧ QT w' A2 n2 c2 B2 m2 d2 r ∧ Below w.heap.size w w' :=
  pRaise_c h.some.2.2.2.2.1 h.some.2.2.2.2.2.1 (Nat.le_refl _) (Nat.le_refl _) v v0 v1 hq z hz r e hR

section
variable {w : World} {s s' : Bool} {A B A' B' : Option Addr} {n c m d n' c' m' d' : Nat} {xs ys xs' ys' : List Nat} {x y : Int} {o : Option Rat} {a b L L' : Nat}
set_option maxHeartbeats 4000000 in
set_option maxRecDepth 100000 in
theorem pOf_c (hx : QQ w s A n c xs B m d ys o L) (h1 : L ≤ 1000) (v : Int) (r : Option Rat) (e : Int) (hR : powR o v = (r, e)) :
    Calls Try.prog 11 #[.agg #[.bool s, .slice A n c, .slice B m d], .int .i64 v] w fun ee w' => ∃ A2 n2 c2 B2 m2 d2, ee = .returned (.tuple #[.agg #[.bool (sg (oTop r)), .slice A2 n2 c2, .slice B2 m2 d2], .int .i64 e]) ∧ QT w' A2 n2 c2 B2 m2 d2 r ∧ Below w.heap.size w w' := by
  cases o with
  | none =>
    have hR2 : ((none : Option Rat), (1 : Int)) = (r, e) := hR
    cases hR2
    clear hR
    have b0 := below_new w (.cells #[Value.bool s, Value.slice A n c, Value.slice B m d] 27)
    have b2 := below_new (w.alloc (.cells #[Value.bool s, Value.slice A n c, Value.slice B m d] 27)) (.cells #[Value.bool false, Value.slice none 0 0, Value.slice none 0 0] 27)
    have HW := Lib.hid (below_two b0 b2)
    have HQ0 := Lib.hid (hx.below HW.out)
    have r0 := ((row3_new w 27 (.bool s) (.slice A n c) (.slice B m d))).below b2
    have rz := row3_new (w.alloc (.cells #[Value.bool s, Value.slice A n c, Value.slice B m d] 27)) 27 (.bool false) (.slice none 0 0) (.slice none 0 0)
    simp only [World.size_alloc] at rz
    clear b0 b2 hx
    go_enter Try.func11, Try.ntmps11
    go_wp2_with fail
    generalize (w.alloc (.cells #[Value.bool s, Value.slice A n c, Value.slice B m d] 27)).alloc (.cells #[Value.bool false, Value.slice none 0 0, Value.slice none 0 0] 27) = w1 at *
    have HR0 := Lib.hid r0
    have HZ := Lib.hid rz
    have Hq : RowKit.Hid (w.heap.size ≤ w.heap.size + 1) := by show _ ≤ _; omega
    clear r0 rz
    refine (rGood_c HQ0.out (by omega) false rfl).mono ?_
    rintro e w2 ⟨rfl, bn⟩
    replace HQ0 := Lib.hid (HQ0.out.below bn)
    replace HR0 := Lib.hid (HR0.out.below bn)
    replace HZ := Lib.hid (HZ.out.below bn)
    replace HW := Lib.hid (below_two HW.out bn)
    clear bn
    have e0 := HZ.out.c0
    have e1 := HZ.out.c1
    have e2 := HZ.out.c2
    have f0 := HZ.out.free 0
    have f1 := HZ.out.free 1
    have f2 := HZ.out.free 2
    have HF := Lib.hid (HZ.out.fill (.bool false) (.slice none 0 0) (.slice none 0 0))
    have HB := Lib.hid (below_fill3' HW.out Hq.out (.bool false) (.slice none 0 0) (.slice none 0 0))
    go_wp2
    refine bodyPost_ret (results_mixed rfl _ _ _ 27 #[.bool false, .slice none 0 0, .slice none 0 0] (0, 0) _ (.int .i64 1) rfl rfl HF.out Try.underlying27 rfl rat_size) rfl ?_
    exact ⟨none, 0, 0, none, 0, 0, rfl, qt_none _ 0 0, HB.out⟩
  | some q =>
    obtain ⟨t1, t2, t3, t4, _, _, _⟩ := qq_told hx
    subst t1
    subst t2
    subst t3
    replace hx := t4
    clear t4 h1
    have h1 : 64 ≤ 1000 := by decide
    by_cases k1 : 128 < v
    · rw [powR_big (.inl k1)] at hR
      cases hR
      have b0 := below_new w (.cells #[Value.bool (sg (oTop (some q))), Value.slice A n c, Value.slice B m d] 27)
      have b2 := below_new (w.alloc (.cells #[Value.bool (sg (oTop (some q))), Value.slice A n c, Value.slice B m d] 27)) (.cells #[Value.bool false, Value.slice none 0 0, Value.slice none 0 0] 27)
      have HW := Lib.hid (below_two b0 b2)
      have HQ0 := Lib.hid (hx.below HW.out)
      have r0 := ((row3_new w 27 (.bool (sg (oTop (some q)))) (.slice A n c) (.slice B m d))).below b2
      have rz := row3_new (w.alloc (.cells #[Value.bool (sg (oTop (some q))), Value.slice A n c, Value.slice B m d] 27)) 27 (.bool false) (.slice none 0 0) (.slice none 0 0)
      simp only [World.size_alloc] at rz
      clear b0 b2 hx
      go_enter Try.func11, Try.ntmps11
      go_wp2_with fail
      generalize (w.alloc (.cells #[Value.bool (sg (oTop (some q))), Value.slice A n c, Value.slice B m d] 27)).alloc (.cells #[Value.bool false, Value.slice none 0 0, Value.slice none 0 0] 27) = w1 at *
      have HR0 := Lib.hid r0
      have HZ := Lib.hid rz
      have Hq : RowKit.Hid (w.heap.size ≤ w.heap.size + 1) := by show _ ≤ _; omega
      clear r0 rz
      refine (rGood_c HQ0.out (by omega) true rfl).mono ?_
      rintro e w2 ⟨rfl, bn⟩
      replace HQ0 := Lib.hid (HQ0.out.below bn)
      replace HR0 := Lib.hid (HR0.out.below bn)
      replace HZ := Lib.hid (HZ.out.below bn)
      replace HW := Lib.hid (below_two HW.out bn)
      clear bn
      have e0 := HZ.out.c0
      have e1 := HZ.out.c1
      have e2 := HZ.out.c2
      have f0 := HZ.out.free 0
      have f1 := HZ.out.free 1
      have f2 := HZ.out.free 2
      have HF := Lib.hid (HZ.out.fill (.bool false) (.slice none 0 0) (.slice none 0 0))
      have HB := Lib.hid (below_fill3' HW.out Hq.out (.bool false) (.slice none 0 0) (.slice none 0 0))
      go_wp2
      refine bodyPost_ret (results_mixed rfl _ _ _ 27 #[.bool false, .slice none 0 0, .slice none 0 0] (0, 0) _ (.int .i64 2) rfl rfl HF.out Try.underlying27 rfl rat_size) rfl ?_
      exact ⟨none, 0, 0, none, 0, 0, rfl, qt_none _ 0 0, HB.out⟩
    · by_cases k2 : v < -128
      · rw [powR_big (.inr k2)] at hR
        cases hR
        have k3 : v ≤ 128 := by omega
        have b0 := below_new w (.cells #[Value.bool (sg (oTop (some q))), Value.slice A n c, Value.slice B m d] 27)
        have b2 := below_new (w.alloc (.cells #[Value.bool (sg (oTop (some q))), Value.slice A n c, Value.slice B m d] 27)) (.cells #[Value.bool false, Value.slice none 0 0, Value.slice none 0 0] 27)
        have HW := Lib.hid (below_two b0 b2)
        have HQ0 := Lib.hid (hx.below HW.out)
        have r0 := ((row3_new w 27 (.bool (sg (oTop (some q)))) (.slice A n c) (.slice B m d))).below b2
        have rz := row3_new (w.alloc (.cells #[Value.bool (sg (oTop (some q))), Value.slice A n c, Value.slice B m d] 27)) 27 (.bool false) (.slice none 0 0) (.slice none 0 0)
        simp only [World.size_alloc] at rz
        clear b0 b2 hx
        go_enter Try.func11, Try.ntmps11
        go_wp2_with fail
        generalize (w.alloc (.cells #[Value.bool (sg (oTop (some q))), Value.slice A n c, Value.slice B m d] 27)).alloc (.cells #[Value.bool false, Value.slice none 0 0, Value.slice none 0 0] 27) = w1 at *
        have HR0 := Lib.hid r0
        have HZ := Lib.hid rz
        have Hq : RowKit.Hid (w.heap.size ≤ w.heap.size + 1) := by show _ ≤ _; omega
        clear r0 rz
        refine (rGood_c HQ0.out (by omega) true rfl).mono ?_
        rintro e w2 ⟨rfl, bn⟩
        replace HQ0 := Lib.hid (HQ0.out.below bn)
        replace HR0 := Lib.hid (HR0.out.below bn)
        replace HZ := Lib.hid (HZ.out.below bn)
        replace HW := Lib.hid (below_two HW.out bn)
        clear bn
        have e0 := HZ.out.c0
        have e1 := HZ.out.c1
        have e2 := HZ.out.c2
        have f0 := HZ.out.free 0
        have f1 := HZ.out.free 1
        have f2 := HZ.out.free 2
        have HF := Lib.hid (HZ.out.fill (.bool false) (.slice none 0 0) (.slice none 0 0))
        have HB := Lib.hid (below_fill3' HW.out Hq.out (.bool false) (.slice none 0 0) (.slice none 0 0))
        go_wp2
        refine bodyPost_ret (results_mixed rfl _ _ _ 27 #[.bool false, .slice none 0 0, .slice none 0 0] (0, 0) _ (.int .i64 2) rfl rfl HF.out Try.underlying27 rfl rat_size) rfl ?_
        exact ⟨none, 0, 0, none, 0, 0, rfl, qt_none _ 0 0, HB.out⟩
      · by_cases k4 : 0 ≤ v
        · have k5 : v ≤ 128 := by omega
          have k6 : -128 ≤ v := by omega
          rw [powR_in k5 k6 (.inr k4)] at hR
          obtain ⟨z, hz⟩ : ∃ z : Rat, q ^ v = z := ⟨_, rfl⟩
          rw [hz] at hR
          have HR := Lib.hid hR
          have Hz := Lib.hid hz
          clear hR hz
          have b0 := below_new w (.cells #[Value.bool (sg (oTop (some q))), Value.slice A n c, Value.slice B m d] 27)
          have b2 := below_new (w.alloc (.cells #[Value.bool (sg (oTop (some q))), Value.slice A n c, Value.slice B m d] 27)) (.cells #[Value.bool false, Value.slice none 0 0, Value.slice none 0 0] 27)
          have HW := Lib.hid (below_two b0 b2)
          have HQ0 := Lib.hid (hx.below HW.out)
          have r0 := ((row3_new w 27 (.bool (sg (oTop (some q)))) (.slice A n c) (.slice B m d))).below b2
          have rz := row3_new (w.alloc (.cells #[Value.bool (sg (oTop (some q))), Value.slice A n c, Value.slice B m d] 27)) 27 (.bool false) (.slice none 0 0) (.slice none 0 0)
          simp only [World.size_alloc] at rz
          clear b0 b2 hx
          go_enter Try.func11, Try.ntmps11
          go_wp2_with fail
          generalize (w.alloc (.cells #[Value.bool (sg (oTop (some q))), Value.slice A n c, Value.slice B m d] 27)).alloc (.cells #[Value.bool false, Value.slice none 0 0, Value.slice none 0 0] 27) = w1 at *
          have HR0 := Lib.hid r0
          have HZ := Lib.hid rz
          have Hq : RowKit.Hid (w.heap.size ≤ w.heap.size + 1) := by show _ ≤ _; omega
          clear r0 rz
          refine (rGood_c HQ0.out (by omega) true rfl).mono ?_
          rintro e w2 ⟨rfl, bn⟩
          replace HQ0 := Lib.hid (HQ0.out.below bn)
          replace HR0 := Lib.hid (HR0.out.below bn)
          replace HZ := Lib.hid (HZ.out.below bn)
          replace HW := Lib.hid (below_two HW.out bn)
          clear bn
          have c00 := HR0.out.c0
          have c01 := HR0.out.c1
          have c02 := HR0.out.c2
          go_wp2_with fail
          clear c00 c01 c02
          refine (pRaiseT_c HQ0.out v (by omega) (by omega) (.inr k4) z Hz.out r e HR.out).mono ?_
          rintro ee w4 ⟨A9, n9, c9, B9, m9, d9, rfl, h9, bn⟩
          have hZ3 := HZ.out.below bn
          have hNo := hZ3.noLimb (by intro v e; cases e) (by intro v e; cases e) (by intro v e; cases e)
          have e0 := hZ3.c0
          have e1 := hZ3.c1
          have e2 := hZ3.c2
          have f0 := hZ3.free 0
          have f1 := hZ3.free 1
          have f2 := hZ3.free 2
          have HF := Lib.hid (hZ3.fill (.bool (sg (oTop r))) (.slice A9 n9 c9) (.slice B9 m9 d9))
          have HP := Lib.hid (QQ.fillR3 h9 hNo (.bool (sg (oTop r))) (.slice A9 n9 c9) (.slice B9 m9 d9))
          have HB := Lib.hid (below_fill3' (below_two HW.out bn) Hq.out (.bool (sg (oTop r))) (.slice A9 n9 c9) (.slice B9 m9 d9))
          clear hNo bn h9 hZ3
          go_wp2
          refine bodyPost_ret (results_mixed rfl _ _ _ 27 #[.bool (sg (oTop r)), .slice A9 n9 c9, .slice B9 m9 d9] (0, 0) _ (.int .i64 e) rfl rfl HF.out Try.underlying27 rfl rat_size) rfl ?_
          exact ⟨A9, n9, c9, B9, m9, d9, rfl, HP.out, HB.out⟩
        · have k7 : v < 0 := by omega
          by_cases hq0 : q.num = 0
          · have k5 : v ≤ 128 := by omega
            have k6 : -128 ≤ v := by omega
            rw [pow_none ⟨by omega, by omega⟩ hq0] at hR
            cases hR
            obtain ⟨u, hu⟩ : ∃ u, cmpR (some q) (some 0) = u := ⟨_, rfl⟩
            have hu0 : (u == 0) = true := by
              have h := sign_num (q := q)
              rw [show cmpQ q 0 = u from hu] at h
              rw [h, decide_eq_true hq0]
            have HU := Lib.hid hu
            clear hu
            have b0 := below_new w (.cells #[Value.bool (sg (oTop (some q))), Value.slice A n c, Value.slice B m d] 27)
            have b2 := below_new (w.alloc (.cells #[Value.bool (sg (oTop (some q))), Value.slice A n c, Value.slice B m d] 27)) (.cells #[Value.bool false, Value.slice none 0 0, Value.slice none 0 0] 27)
            have HW := Lib.hid (below_two b0 b2)
            have HQ0 := Lib.hid (hx.below HW.out)
            have r0 := ((row3_new w 27 (.bool (sg (oTop (some q)))) (.slice A n c) (.slice B m d))).below b2
            have rz := row3_new (w.alloc (.cells #[Value.bool (sg (oTop (some q))), Value.slice A n c, Value.slice B m d] 27)) 27 (.bool false) (.slice none 0 0) (.slice none 0 0)
            simp only [World.size_alloc] at rz
            clear b0 b2 hx
            go_enter Try.func11, Try.ntmps11
            go_wp2_with fail
            generalize (w.alloc (.cells #[Value.bool (sg (oTop (some q))), Value.slice A n c, Value.slice B m d] 27)).alloc (.cells #[Value.bool false, Value.slice none 0 0, Value.slice none 0 0] 27) = w1 at *
            have HR0 := Lib.hid r0
            have HZ := Lib.hid rz
            have Hq : RowKit.Hid (w.heap.size ≤ w.heap.size + 1) := by show _ ≤ _; omega
            clear r0 rz
            refine (rGood_c HQ0.out (by omega) true rfl).mono ?_
            rintro e w2 ⟨rfl, bn⟩
            replace HQ0 := Lib.hid (HQ0.out.below bn)
            replace HR0 := Lib.hid (HR0.out.below bn)
            replace HZ := Lib.hid (HZ.out.below bn)
            replace HW := Lib.hid (below_two HW.out bn)
            clear bn
            have c00 := HR0.out.c0
            have c01 := HR0.out.c1
            have c02 := HR0.out.c2
            go_wp2_with fail
            clear c00 c01 c02
            refine (rSign_c HQ0.out (by decide) u HU.out).mono ?_
            rintro ee w3 ⟨rfl, bn⟩
            replace HQ0 := Lib.hid (HQ0.out.below bn)
            replace HR0 := Lib.hid (HR0.out.below bn)
            replace HZ := Lib.hid (HZ.out.below bn)
            replace HW := Lib.hid (below_two HW.out bn)
            clear bn
            have e0 := HZ.out.c0
            have e1 := HZ.out.c1
            have e2 := HZ.out.c2
            have f0 := HZ.out.free 0
            have f1 := HZ.out.free 1
            have f2 := HZ.out.free 2
            have HF := Lib.hid (HZ.out.fill (.bool false) (.slice none 0 0) (.slice none 0 0))
            have HB := Lib.hid (below_fill3' HW.out Hq.out (.bool false) (.slice none 0 0) (.slice none 0 0))
            go_wp2
            refine bodyPost_ret (results_mixed rfl _ _ _ 27 #[.bool false, .slice none 0 0, .slice none 0 0] (0, 0) _ (.int .i64 3) rfl rfl HF.out Try.underlying27 rfl rat_size) rfl ?_
            exact ⟨none, 0, 0, none, 0, 0, rfl, qt_none _ 0 0, HB.out⟩
          · have k5 : v ≤ 128 := by omega
            have k6 : -128 ≤ v := by omega
            rw [powR_in k5 k6 (.inl hq0)] at hR
            obtain ⟨z, hz⟩ : ∃ z : Rat, q ^ v = z := ⟨_, rfl⟩
            rw [hz] at hR
            have HR := Lib.hid hR
            have Hz := Lib.hid hz
            clear hR hz
            obtain ⟨u, hu⟩ : ∃ u, cmpR (some q) (some 0) = u := ⟨_, rfl⟩
            have hu0 : (u == 0) = false := by
              have h := sign_num (q := q)
              rw [show cmpQ q 0 = u from hu] at h
              rw [h, decide_eq_false hq0]
            have HU := Lib.hid hu
            clear hu
            have HQN := Lib.hid hq0
            clear hq0
            have b0 := below_new w (.cells #[Value.bool (sg (oTop (some q))), Value.slice A n c, Value.slice B m d] 27)
            have b2 := below_new (w.alloc (.cells #[Value.bool (sg (oTop (some q))), Value.slice A n c, Value.slice B m d] 27)) (.cells #[Value.bool false, Value.slice none 0 0, Value.slice none 0 0] 27)
            have HW := Lib.hid (below_two b0 b2)
            have HQ0 := Lib.hid (hx.below HW.out)
            have r0 := ((row3_new w 27 (.bool (sg (oTop (some q)))) (.slice A n c) (.slice B m d))).below b2
            have rz := row3_new (w.alloc (.cells #[Value.bool (sg (oTop (some q))), Value.slice A n c, Value.slice B m d] 27)) 27 (.bool false) (.slice none 0 0) (.slice none 0 0)
            simp only [World.size_alloc] at rz
            clear b0 b2 hx
            go_enter Try.func11, Try.ntmps11
            go_wp2_with fail
            generalize (w.alloc (.cells #[Value.bool (sg (oTop (some q))), Value.slice A n c, Value.slice B m d] 27)).alloc (.cells #[Value.bool false, Value.slice none 0 0, Value.slice none 0 0] 27) = w1 at *
            have HR0 := Lib.hid r0
            have HZ := Lib.hid rz
            have Hq : RowKit.Hid (w.heap.size ≤ w.heap.size + 1) := by show _ ≤ _; omega
            clear r0 rz
            refine (rGood_c HQ0.out (by omega) true rfl).mono ?_
            rintro e w2 ⟨rfl, bn⟩
            replace HQ0 := Lib.hid (HQ0.out.below bn)
            replace HR0 := Lib.hid (HR0.out.below bn)
            replace HZ := Lib.hid (HZ.out.below bn)
            replace HW := Lib.hid (below_two HW.out bn)
            clear bn
            have c00 := HR0.out.c0
            have c01 := HR0.out.c1
            have c02 := HR0.out.c2
            go_wp2_with fail
            clear c00 c01 c02
            refine (rSign_c HQ0.out (by decide) u HU.out).mono ?_
            rintro ee w3 ⟨rfl, bn⟩
            replace HQ0 := Lib.hid (HQ0.out.below bn)
            replace HR0 := Lib.hid (HR0.out.below bn)
            replace HZ := Lib.hid (HZ.out.below bn)
            replace HW := Lib.hid (below_two HW.out bn)
            clear bn
            have c00 := HR0.out.c0
            have c01 := HR0.out.c1
            have c02 := HR0.out.c2
            go_wp2_with fail
            clear c00 c01 c02
            refine (pRaiseT_c HQ0.out v (by omega) (by omega) (.inl HQN.out) z Hz.out r e HR.out).mono ?_
            rintro ee w4 ⟨A9, n9, c9, B9, m9, d9, rfl, h9, bn⟩
            have hZ3 := HZ.out.below bn
            have hNo := hZ3.noLimb (by intro v e; cases e) (by intro v e; cases e) (by intro v e; cases e)
            have e0 := hZ3.c0
            have e1 := hZ3.c1
            have e2 := hZ3.c2
            have f0 := hZ3.free 0
            have f1 := hZ3.free 1
            have f2 := hZ3.free 2
            have HF := Lib.hid (hZ3.fill (.bool (sg (oTop r))) (.slice A9 n9 c9) (.slice B9 m9 d9))
            have HP := Lib.hid (QQ.fillR3 h9 hNo (.bool (sg (oTop r))) (.slice A9 n9 c9) (.slice B9 m9 d9))
            have HB := Lib.hid (below_fill3' (below_two HW.out bn) Hq.out (.bool (sg (oTop r))) (.slice A9 n9 c9) (.slice B9 m9 d9))
            clear hNo bn h9 hZ3
            go_wp2
            refine bodyPost_ret (results_mixed rfl _ _ _ 27 #[.bool (sg (oTop r)), .slice A9 n9 c9, .slice B9 m9 d9] (0, 0) _ (.int .i64 e) rfl rfl HF.out Try.underlying27 rfl rat_size) rfl ?_
            exact ⟨A9, n9, c9, B9, m9, d9, rfl, HP.out, HB.out⟩

end
end Go.Proofs.Ytmifgblbicnimaa

/- What package rat's Add, Sub and Mul answer, as contracts over memory. Conditions: sizes of at most so many limbs. -/
namespace Go.Proofs.Ytmifgblbicnimaa
open Go.RowKit Limb
set_option linter.unusedVariables false
section
variable {w : World} {s s' : Bool} {A B A' B' : Option Addr} {n c m d n' c' m' d' : Nat} {xs ys xs' ys' : List Nat} {x y : Int} {o o' : Option Rat} {a b L L' : Nat}
set_option maxHeartbeats 4000000 in
set_option maxRecDepth 100000 in
theorem rMul_c (hx : QQ w s A n c xs B m d ys o L) (hx' : QQ w s' A' n' c' xs' B' m' d' ys' o' L') (h1 : L ≤ 1000) (h2 : L' ≤ 1000) (r : Option Rat) (e : Int) (hR : mulR o o' = (r, e)) :
    Calls Try.prog 19 #[.agg #[.bool s, .slice A n c, .slice B m d], .agg #[.bool s', .slice A' n' c', .slice B' m' d']] w fun ee w' => ∃ A2 n2 c2 B2 m2 d2, ee = .returned (.tuple #[.agg #[.bool (sg (oTop r)), .slice A2 n2 c2, .slice B2 m2 d2], .int .i64 e]) ∧ QT w' A2 n2 c2 B2 m2 d2 r ∧ Below w.heap.size w w' := by
  cases o with
  | none =>
    have hR2 : ((none : Option Rat), (1 : Int)) = (r, e) := hR
    cases hR2
    clear hR
    have b0 := below_new w (.cells #[Value.bool s, Value.slice A n c, Value.slice B m d] 27)
    have b1 := below_new (w.alloc (.cells #[Value.bool s, Value.slice A n c, Value.slice B m d] 27)) (.cells #[Value.bool s', Value.slice A' n' c', Value.slice B' m' d'] 27)
    have b2 := below_new ((w.alloc (.cells #[Value.bool s, Value.slice A n c, Value.slice B m d] 27)).alloc (.cells #[Value.bool s', Value.slice A' n' c', Value.slice B' m' d'] 27)) (.cells #[Value.bool false, Value.slice none 0 0, Value.slice none 0 0] 27)
    have HW := Lib.hid (below_two (below_two b0 b1) b2)
    have HQ0 := Lib.hid (hx.below HW.out)
    have HQ1 := Lib.hid (hx'.below HW.out)
    have r0 := ((row3_new w 27 (.bool s) (.slice A n c) (.slice B m d)).below b1).below b2
    have r1 := (row3_new (w.alloc (.cells #[Value.bool s, Value.slice A n c, Value.slice B m d] 27)) 27 (.bool s') (.slice A' n' c') (.slice B' m' d')).below b2
    have rz := row3_new ((w.alloc (.cells #[Value.bool s, Value.slice A n c, Value.slice B m d] 27)).alloc (.cells #[Value.bool s', Value.slice A' n' c', Value.slice B' m' d'] 27)) 27 (.bool false) (.slice none 0 0) (.slice none 0 0)
    simp only [World.size_alloc] at r1 rz
    clear b0 b1 b2 hx hx'
    go_enter Try.func19, Try.ntmps19
    go_wp2_with fail
    generalize ((w.alloc (.cells #[Value.bool s, Value.slice A n c, Value.slice B m d] 27)).alloc (.cells #[Value.bool s', Value.slice A' n' c', Value.slice B' m' d'] 27)).alloc (.cells #[Value.bool false, Value.slice none 0 0, Value.slice none 0 0] 27) = w1 at *
    have HR0 := Lib.hid r0
    have HR1 := Lib.hid r1
    have HZ := Lib.hid rz
    have Hq : RowKit.Hid (w.heap.size ≤ w.heap.size + 1 + 1) := by show _ ≤ _; omega
    clear r0 r1 rz
    refine (rGood_c HQ0.out (by omega) false rfl).mono ?_
    rintro e w2 ⟨rfl, bn⟩
    replace HQ0 := Lib.hid (HQ0.out.below bn)
    replace HR0 := Lib.hid (HR0.out.below bn)
    replace HQ1 := Lib.hid (HQ1.out.below bn)
    replace HR1 := Lib.hid (HR1.out.below bn)
    replace HZ := Lib.hid (HZ.out.below bn)
    replace HW := Lib.hid (below_two HW.out bn)
    clear bn
    have e0 := HZ.out.c0
    have e1 := HZ.out.c1
    have e2 := HZ.out.c2
    have f0 := HZ.out.free 0
    have f1 := HZ.out.free 1
    have f2 := HZ.out.free 2
    have HF := Lib.hid (HZ.out.fill (.bool false) (.slice none 0 0) (.slice none 0 0))
    have HB := Lib.hid (below_fill3' HW.out Hq.out (.bool false) (.slice none 0 0) (.slice none 0 0))
    go_wp2
    refine bodyPost_ret (results_mixed rfl _ _ _ 27 #[.bool false, .slice none 0 0, .slice none 0 0] (0, 0) _ (.int .i64 1) rfl rfl HF.out Try.underlying27 rfl rat_size) rfl ?_
    exact ⟨none, 0, 0, none, 0, 0, rfl, qt_none _ 0 0, HB.out⟩
  | some p =>
    cases o' with
    | none =>
      have hR2 : ((none : Option Rat), (1 : Int)) = (r, e) := hR
      cases hR2
      clear hR
      have b0 := below_new w (.cells #[Value.bool s, Value.slice A n c, Value.slice B m d] 27)
      have b1 := below_new (w.alloc (.cells #[Value.bool s, Value.slice A n c, Value.slice B m d] 27)) (.cells #[Value.bool s', Value.slice A' n' c', Value.slice B' m' d'] 27)
      have b2 := below_new ((w.alloc (.cells #[Value.bool s, Value.slice A n c, Value.slice B m d] 27)).alloc (.cells #[Value.bool s', Value.slice A' n' c', Value.slice B' m' d'] 27)) (.cells #[Value.bool false, Value.slice none 0 0, Value.slice none 0 0] 27)
      have HW := Lib.hid (below_two (below_two b0 b1) b2)
      have HQ0 := Lib.hid (hx.below HW.out)
      have HQ1 := Lib.hid (hx'.below HW.out)
      have r0 := ((row3_new w 27 (.bool s) (.slice A n c) (.slice B m d)).below b1).below b2
      have r1 := (row3_new (w.alloc (.cells #[Value.bool s, Value.slice A n c, Value.slice B m d] 27)) 27 (.bool s') (.slice A' n' c') (.slice B' m' d')).below b2
      have rz := row3_new ((w.alloc (.cells #[Value.bool s, Value.slice A n c, Value.slice B m d] 27)).alloc (.cells #[Value.bool s', Value.slice A' n' c', Value.slice B' m' d'] 27)) 27 (.bool false) (.slice none 0 0) (.slice none 0 0)
      simp only [World.size_alloc] at r1 rz
      clear b0 b1 b2 hx hx'
      go_enter Try.func19, Try.ntmps19
      go_wp2_with fail
      generalize ((w.alloc (.cells #[Value.bool s, Value.slice A n c, Value.slice B m d] 27)).alloc (.cells #[Value.bool s', Value.slice A' n' c', Value.slice B' m' d'] 27)).alloc (.cells #[Value.bool false, Value.slice none 0 0, Value.slice none 0 0] 27) = w1 at *
      have HR0 := Lib.hid r0
      have HR1 := Lib.hid r1
      have HZ := Lib.hid rz
      have Hq : RowKit.Hid (w.heap.size ≤ w.heap.size + 1 + 1) := by show _ ≤ _; omega
      clear r0 r1 rz
      refine (rGood_c HQ0.out (by omega) true rfl).mono ?_
      rintro e w2 ⟨rfl, bn⟩
      replace HQ0 := Lib.hid (HQ0.out.below bn)
      replace HR0 := Lib.hid (HR0.out.below bn)
      replace HQ1 := Lib.hid (HQ1.out.below bn)
      replace HR1 := Lib.hid (HR1.out.below bn)
      replace HZ := Lib.hid (HZ.out.below bn)
      replace HW := Lib.hid (below_two HW.out bn)
      clear bn
      have c10 := HR1.out.c0
      have c11 := HR1.out.c1
      have c12 := HR1.out.c2
      go_wp2_with fail
      clear c10 c11 c12
      refine (rGood_c HQ1.out (by omega) false rfl).mono ?_
      rintro e w2 ⟨rfl, bn⟩
      replace HQ0 := Lib.hid (HQ0.out.below bn)
      replace HR0 := Lib.hid (HR0.out.below bn)
      replace HQ1 := Lib.hid (HQ1.out.below bn)
      replace HR1 := Lib.hid (HR1.out.below bn)
      replace HZ := Lib.hid (HZ.out.below bn)
      replace HW := Lib.hid (below_two HW.out bn)
      clear bn
      have e0 := HZ.out.c0
      have e1 := HZ.out.c1
      have e2 := HZ.out.c2
      have f0 := HZ.out.free 0
      have f1 := HZ.out.free 1
      have f2 := HZ.out.free 2
      have HF := Lib.hid (HZ.out.fill (.bool false) (.slice none 0 0) (.slice none 0 0))
      have HB := Lib.hid (below_fill3' HW.out Hq.out (.bool false) (.slice none 0 0) (.slice none 0 0))
      go_wp2
      refine bodyPost_ret (results_mixed rfl _ _ _ 27 #[.bool false, .slice none 0 0, .slice none 0 0] (0, 0) _ (.int .i64 1) rfl rfl HF.out Try.underlying27 rfl rat_size) rfl ?_
      exact ⟨none, 0, 0, none, 0, 0, rfl, qt_none _ 0 0, HB.out⟩
    | some q =>
      have HO : RowKit.Hid (ofR (p.num * q.num) (p.den * q.den) = (r, e)) := by
        show _ = _
        rw [← hR]; unfold ofR; rw [if_neg (Nat.mul_ne_zero p.den_nz q.den_nz)]
        show limR _ = limR _
        rw [mul_mk]
      clear hR
      have b0 := below_new w (.cells #[Value.bool s, Value.slice A n c, Value.slice B m d] 27)
      have b1 := below_new (w.alloc (.cells #[Value.bool s, Value.slice A n c, Value.slice B m d] 27)) (.cells #[Value.bool s', Value.slice A' n' c', Value.slice B' m' d'] 27)
      have b2 := below_new ((w.alloc (.cells #[Value.bool s, Value.slice A n c, Value.slice B m d] 27)).alloc (.cells #[Value.bool s', Value.slice A' n' c', Value.slice B' m' d'] 27)) (.cells #[Value.bool false, Value.slice none 0 0, Value.slice none 0 0] 27)
      have HW := Lib.hid (below_two (below_two b0 b1) b2)
      have HQ0 := Lib.hid (hx.below HW.out)
      have HQ1 := Lib.hid (hx'.below HW.out)
      have r0 := ((row3_new w 27 (.bool s) (.slice A n c) (.slice B m d)).below b1).below b2
      have r1 := (row3_new (w.alloc (.cells #[Value.bool s, Value.slice A n c, Value.slice B m d] 27)) 27 (.bool s') (.slice A' n' c') (.slice B' m' d')).below b2
      have rz := row3_new ((w.alloc (.cells #[Value.bool s, Value.slice A n c, Value.slice B m d] 27)).alloc (.cells #[Value.bool s', Value.slice A' n' c', Value.slice B' m' d'] 27)) 27 (.bool false) (.slice none 0 0) (.slice none 0 0)
      simp only [World.size_alloc] at r1 rz
      clear b0 b1 b2 hx hx'
      go_enter Try.func19, Try.ntmps19
      go_wp2_with fail
      generalize ((w.alloc (.cells #[Value.bool s, Value.slice A n c, Value.slice B m d] 27)).alloc (.cells #[Value.bool s', Value.slice A' n' c', Value.slice B' m' d'] 27)).alloc (.cells #[Value.bool false, Value.slice none 0 0, Value.slice none 0 0] 27) = w1 at *
      have HR0 := Lib.hid r0
      have HR1 := Lib.hid r1
      have HZ := Lib.hid rz
      have Hq : RowKit.Hid (w.heap.size ≤ w.heap.size + 1 + 1) := by show _ ≤ _; omega
      clear r0 r1 rz
      refine (rGood_c HQ0.out (by omega) true rfl).mono ?_
      rintro e w2 ⟨rfl, bn⟩
      replace HQ0 := Lib.hid (HQ0.out.below bn)
      replace HR0 := Lib.hid (HR0.out.below bn)
      replace HQ1 := Lib.hid (HQ1.out.below bn)
      replace HR1 := Lib.hid (HR1.out.below bn)
      replace HZ := Lib.hid (HZ.out.below bn)
      replace HW := Lib.hid (below_two HW.out bn)
      clear bn
      have c10 := HR1.out.c0
      have c11 := HR1.out.c1
      have c12 := HR1.out.c2
      go_wp2_with fail
      clear c10 c11 c12
      refine (rGood_c HQ1.out (by omega) true rfl).mono ?_
      rintro e wS ⟨rfl, bn⟩
      replace HQ0 := Lib.hid (HQ0.out.below bn)
      replace HR0 := Lib.hid (HR0.out.below bn)
      replace HQ1 := Lib.hid (HQ1.out.below bn)
      replace HR1 := Lib.hid (HR1.out.below bn)
      replace HZ := Lib.hid (HZ.out.below bn)
      replace HW := Lib.hid (below_two HW.out bn)
      clear bn
      have HX := Lib.hid HQ0.out.some.2.2.2.2.1
      have HY := Lib.hid HQ0.out.some.2.2.2.2.2.1
      have HX1 := Lib.hid HQ1.out.some.2.2.2.2.1
      have HY1 := Lib.hid HQ1.out.some.2.2.2.2.2.1
      go_wp2_with fail
      refine region_free 13 2 [15, 16, 17, 18, 19, 20, 21, 22, 23, 24, 25, 26, 27] ?aF8 (fun wx => Below wS.heap.size wS wx) (fun k vv wx => match k with
          | 0 => vv = .pointer (some ⟨w.heap.size, 0, none⟩)
          | 1 => vv = .agg #[.bool s, .slice A n c]
          | 2 => vv = .pointer (some ⟨w.heap.size + 1, 0, none⟩)
          | 3 => vv = .agg #[.bool s', .slice A' n' c']
          | 4 => ∃ (e0 : Option Addr) (e1 : Nat) (e2 : Nat), vv = .agg #[.bool (sg (p.num * q.num)), .slice e0 e1 e2] ∧ ZZ wx (sg (p.num * q.num)) e0 e1 e2 (limbs (p.num * q.num).natAbs) (p.num * q.num) 128
          | 5 => vv = .pointer (some ⟨w.heap.size, 2, none⟩)
          | 6 => vv = .slice B m d
          | 7 => vv = .pointer (some ⟨w.heap.size + 1, 2, none⟩)
          | 8 => vv = .slice B' m' d'
          | 9 => ∃ (e0 : Option Addr) (e1 : Nat) (e2 : Nat), vv = .slice e0 e1 e2 ∧ NN wx e0 e1 e2 (limbs (p.den * q.den)) (p.den * q.den) 128
          | 10 => ∃ (e0 : Option Addr) (e1 : Nat) (e2 : Nat) (e3 : Option Addr) (e4 : Nat) (e5 : Nat), vv = .tuple #[.agg #[.bool (sg (oTop r)), .slice e0 e1 e2, .slice e3 e4 e5], .int .i64 e] ∧ QT wx e0 e1 e2 e3 e4 e5 r
          | 11 => ∃ (e0 : Option Addr) (e1 : Nat) (e2 : Nat) (e3 : Option Addr) (e4 : Nat) (e5 : Nat), vv = .agg #[.bool (sg (oTop r)), .slice e0 e1 e2, .slice e3 e4 e5] ∧ QT wx e0 e1 e2 e3 e4 e5 r
          | _ => vv = .int .i64 e)
        (fun k => false) (by kernel_rfl) ?haF8 rfl (by kernel_rfl) (by kernel_rfl) (fun _ _ _ _ _ h => h) ?hSb8 ?hPb8 ?hS8 ?hop8 ?hfin8
      case haF8 =>
        intro vals
        simp only [fillAll, List.getElem?_cons_zero, List.getElem?_cons_succ, Act.put, List.setIfInBounds_toArray, List.set_cons_zero, List.set_cons_succ]
        exact rfl
      case hSb8 => exact fun wx w2 hb hS => below_two hS hb
      case hPb8 =>
        intro k v wa wb hb h
        match k, h with
        | 0, h => exact h
        | 1, h => exact h
        | 2, h => exact h
        | 3, h => exact h
        | 4, ⟨e0, e1, e2, h1, g0⟩ => exact ⟨e0, e1, e2, h1, g0.below hb⟩
        | 5, h => exact h
        | 6, h => exact h
        | 7, h => exact h
        | 8, h => exact h
        | 9, ⟨e0, e1, e2, h1, g0⟩ => exact ⟨e0, e1, e2, h1, g0.below hb⟩
        | 10, ⟨e0, e1, e2, e3, e4, e5, h1, g0⟩ => exact ⟨e0, e1, e2, e3, e4, e5, h1, g0.below hb⟩
        | 11, ⟨e0, e1, e2, e3, e4, e5, h1, g0⟩ => exact ⟨e0, e1, e2, e3, e4, e5, h1, g0.below hb⟩
        | _ + 12, h => exact h
      case hS8 => exact (Below.refl _ _).drew
      case hop8 =>
        refine .cons (k := 0) ?_ (.cons (k := 1) ?_ (.cons (k := 2) ?_ (.cons (k := 3) ?_ (.cons (k := 4) ?_ (.cons (k := 5) ?_ (.cons (k := 6) ?_ (.cons (k := 7) ?_ (.cons (k := 8) ?_ (.cons (k := 9) ?_ (.cons (k := 10) ?_ (.cons (k := 11) ?_ (.cons (k := 12) ?_ (.nil)))))))))))))
        all_goals intro vals wr hS hd KC hK
        all_goals (show Oper.wp _ _ _ _ _ _; dsimp only)
        · go_simp
          refine hK _ _ rfl (Below.refl _ _) (by first | rfl | simp) (fun h => by cases h)
        · have d0 : vals 0 = _ := hd 0 (by decide +kernel)
          rw [d0]
          have z0 := (HR0.out.below hS).c0
          have z1 := (HR0.out.below hS).c1
          go_simp
          refine hK _ _ rfl (Below.refl _ _) (by first | rfl | simp) (fun h => by cases h)
        · go_simp
          refine hK _ _ rfl (Below.refl _ _) (by first | rfl | simp) (fun h => by cases h)
        · have d2 : vals 2 = _ := hd 2 (by decide +kernel)
          rw [d2]
          have z0 := (HR1.out.below hS).c0
          have z1 := (HR1.out.below hS).c1
          go_simp
          refine hK _ _ rfl (Below.refl _ _) (by first | rfl | simp) (fun h => by cases h)
        · have d1 : vals 1 = _ := hd 1 (by decide +kernel)
          have d3 : vals 3 = _ := hd 3 (by decide +kernel)
          rw [d1, d3]
          go_simp
          go_at_call 43
          with_reducible refine (wMul_c (HX.out.below hS) (HX1.out.below hS) 128 (by decide) (by decide) (by decide) (p.num * q.num) rfl).mono ?_
          rintro e w2 ⟨r0, r1, r2, rfl, f0, bn_r⟩
          refine hK _ _ rfl bn_r ⟨_, _, _, rfl, f0⟩ (fun h => by cases h)
        · go_simp
          refine hK _ _ rfl (Below.refl _ _) (by first | rfl | simp) (fun h => by cases h)
        · have d5 : vals 5 = _ := hd 5 (by decide +kernel)
          rw [d5]
          have z0 := (HR0.out.below hS).c2
          go_simp
          refine hK _ _ rfl (Below.refl _ _) (by first | rfl | simp) (fun h => by cases h)
        · go_simp
          refine hK _ _ rfl (Below.refl _ _) (by first | rfl | simp) (fun h => by cases h)
        · have d7 : vals 7 = _ := hd 7 (by decide +kernel)
          rw [d7]
          have z0 := (HR1.out.below hS).c2
          go_simp
          refine hK _ _ rfl (Below.refl _ _) (by first | rfl | simp) (fun h => by cases h)
        · have d6 : vals 6 = _ := hd 6 (by decide +kernel)
          have d8 : vals 8 = _ := hd 8 (by decide +kernel)
          rw [d6, d8]
          go_simp
          go_at_call 44
          with_reducible refine (mulOf_c (HY.out.below hS) (HY1.out.below hS) 128 (by decide) (by decide) (by decide)).mono ?_
          rintro e w2 ⟨r0, r1, r2, rfl, f0, bn_r⟩
          refine hK _ _ rfl bn_r ⟨_, _, _, rfl, f0⟩ (fun h => by cases h)
        · obtain ⟨A_4_0, n_4_1, n_4_2, d4, h_4_0⟩ := hd 4 (by decide +kernel)
          obtain ⟨A_9_0, n_9_1, n_9_2, d9, h_9_0⟩ := hd 9 (by decide +kernel)
          rw [d4, d9]
          go_simp
          go_at_call 42
          with_reducible refine (rOf_c h_4_0 h_9_0 (by decide) (by decide) r e HO.out).mono ?_
          rintro e w2 ⟨r0, r1, r2, r3, r4, r5, rfl, f0, bn_r⟩
          refine hK _ _ rfl bn_r ⟨_, _, _, _, _, _, rfl, f0⟩ (fun h => by cases h)
        · obtain ⟨A_10_0, n_10_1, n_10_2, A_10_3, n_10_4, n_10_5, d10, h_10_0⟩ := hd 10 (by decide +kernel)
          rw [d10]
          go_simp
          refine hK _ _ rfl (Below.refl _ _) ⟨_, _, _, _, _, _, rfl, h_10_0⟩ (fun h => by cases h)
        · obtain ⟨A_10_0, n_10_1, n_10_2, A_10_3, n_10_4, n_10_5, d10, h_10_0⟩ := hd 10 (by decide +kernel)
          rw [d10]
          go_simp
          refine hK _ _ rfl (Below.refl _ _) rfl (fun h => by cases h)
      case hfin8 =>
        intro vals wr hS hP hne
        obtain ⟨A_11_0, n_11_1, n_11_2, A_11_3, n_11_4, n_11_5, ez_11, h_11_0⟩ := hP 11 (by decide)
        have ez_12 : vals 12 = _ := hP 12 (by decide)
        have hZ3 := HZ.out.below hS
        have hNo := hZ3.noLimb (by intro v e; cases e) (by intro v e; cases e) (by intro v e; cases e)
        have e0 := hZ3.c0
        have e1 := hZ3.c1
        have e2 := hZ3.c2
        have f0 := hZ3.free 0
        have f1 := hZ3.free 1
        have f2 := hZ3.free 2
        have HF := Lib.hid (hZ3.fill (.bool (sg (oTop r))) (.slice A_11_0 n_11_1 n_11_2) (.slice A_11_3 n_11_4 n_11_5))
        have HP := Lib.hid (QQ.fillR3 h_11_0 hNo (.bool (sg (oTop r))) (.slice A_11_0 n_11_1 n_11_2) (.slice A_11_3 n_11_4 n_11_5))
        have HB := Lib.hid (below_fill3' (below_two HW.out hS) Hq.out (.bool (sg (oTop r))) (.slice A_11_0 n_11_1 n_11_2) (.slice A_11_3 n_11_4 n_11_5))
        try dsimp only
        rw [ez_11, ez_12]
        refine wpAny_ready (rs := [13]) (by kernel_rfl) (by simp) (AllReady.cons rfl (fun KC hK => ?_) AllReady.nil)
        go_simp
        refine hK _ _ ?_
        clear hK KC
        refine wpAny_ready (rs := [14]) (by kernel_rfl) (by simp) (AllReady.cons rfl (fun KC hK => ?_) AllReady.nil)
        go_simp
        refine hK _ _ ?_
        clear hK KC
        refine wpAny_done (by kernel_rfl) ?_ _
        go_wp2
        refine bodyPost_ret (results_mixed rfl _ _ _ 27 #[.bool (sg (oTop r)), .slice A_11_0 n_11_1 n_11_2, .slice A_11_3 n_11_4 n_11_5] (0, 0) _ (.int .i64 e) rfl rfl HF.out Try.underlying27 rfl rat_size) rfl ?_
        exact ⟨A_11_0, n_11_1, n_11_2, A_11_3, n_11_4, n_11_5, rfl, HP.out, HB.out⟩

end
end Go.Proofs.Ytmifgblbicnimaa

/- What package power's Scale answers, as a contract over memory. Conditions: sizes of at most so many limbs. -/
namespace Go.Proofs.Ytmifgblbicnimaa
open Go.RowKit Limb
set_option linter.unusedVariables false
theorem ten_room2 (n : Nat) : 10 ^ n < 4294967296 ^ (2 * (n / 19 + 1)) := by
  have h1 : 10 ^ n ≤ 10 ^ (19 * (n / 19) + 18) := Nat.pow_le_pow_right (by decide) (by omega)
  have h2 : 10 ^ (19 * (n / 19) + 18) = (10 ^ 19) ^ (n / 19) * 10 ^ 18 := by rw [Nat.pow_add, Nat.pow_mul]
  have h3 : (10 ^ 19) ^ (n / 19) ≤ (4294967296 ^ 2) ^ (n / 19) := Nat.pow_le_pow_left (by decide) _
  have h4 : (10 ^ 19) ^ (n / 19) * 10 ^ 18 < (4294967296 ^ 2) ^ (n / 19) * 4294967296 ^ 2 := Nat.lt_of_le_of_lt (Nat.mul_le_mul_right _ h3) (Nat.mul_lt_mul_of_pos_left (by decide) (Nat.pow_pos (by decide)))
  rw [Nat.pow_mul, Nat.pow_succ]
  omega
theorem ten_bd2 (n : Int) (h : n.natAbs ≤ 600) : Bd ((10 : Rat) ^ n) 64 64 := by
  have hN : ∀ k : Nat, k ≤ 600 → Bd ((10 : Rat) ^ k) 64 64 := fun k hk => by
    refine ⟨?_, ?_⟩
    · rw [Rat.num_pow, Int.natAbs_pow]
      exact Nat.lt_of_lt_of_le (ten_room2 k) (Nat.pow_le_pow_right (by decide) (by omega))
    · rw [Rat.den_pow, show (10 : Rat).den = 1 from rfl, Nat.one_pow]; exact Nat.one_lt_pow (by decide) (by decide)
  rcases Int.le_total 0 n with h0 | h0
  · obtain ⟨k, rfl⟩ := Int.eq_ofNat_of_zero_le h0
    rw [Rat.zpow_natCast]; exact hN k (by omega)
  · obtain ⟨k, hk⟩ := Int.eq_ofNat_of_zero_le (show 0 ≤ -n by omega)
    obtain rfl : n = -(k : Int) := by omega
    rw [Rat.zpow_neg, Rat.zpow_natCast]
    exact (hN k (by omega)).inv (num_of_ne (npow_ne ten_ne k))
theorem ten_cast : ((10 : Int) : Rat) = 10 := rfl

section
variable {w : World} {s s' : Bool} {A B A' B' : Option Addr} {n c m d n' c' m' d' : Nat} {xs ys xs' ys' : List Nat} {x y : Int} {o : Option Rat} {a b L L' : Nat}
set_option maxHeartbeats 4000000 in
set_option maxRecDepth 100000 in
theorem pScale_c (hx : QQ w s A n c xs B m d ys o L) (h1 : L ≤ 1000) (v : Int) (r : Option Rat) (e : Int) (hR : scaleR o v = (r, e)) :
    Calls Try.prog 12 #[.agg #[.bool s, .slice A n c, .slice B m d], .int .i64 v] w fun ee w' => ∃ A2 n2 c2 B2 m2 d2, ee = .returned (.tuple #[.agg #[.bool (sg (oTop r)), .slice A2 n2 c2, .slice B2 m2 d2], .int .i64 e]) ∧ QT w' A2 n2 c2 B2 m2 d2 r ∧ Below w.heap.size w w' := by
  cases o with
  | none =>
    have hR2 : ((none : Option Rat), (1 : Int)) = (r, e) := hR
    cases hR2
    clear hR
    have b0 := below_new w (.cells #[Value.bool s, Value.slice A n c, Value.slice B m d] 27)
    have b2 := below_new (w.alloc (.cells #[Value.bool s, Value.slice A n c, Value.slice B m d] 27)) (.cells #[Value.bool false, Value.slice none 0 0, Value.slice none 0 0] 27)
    have HW := Lib.hid (below_two b0 b2)
    have HQ0 := Lib.hid (hx.below HW.out)
    have r0 := ((row3_new w 27 (.bool s) (.slice A n c) (.slice B m d))).below b2
    have rz := row3_new (w.alloc (.cells #[Value.bool s, Value.slice A n c, Value.slice B m d] 27)) 27 (.bool false) (.slice none 0 0) (.slice none 0 0)
    simp only [World.size_alloc] at rz
    clear b0 b2 hx
    go_enter Try.func12, Try.ntmps12
    go_wp2_with fail
    generalize (w.alloc (.cells #[Value.bool s, Value.slice A n c, Value.slice B m d] 27)).alloc (.cells #[Value.bool false, Value.slice none 0 0, Value.slice none 0 0] 27) = w1 at *
    have HR0 := Lib.hid r0
    have HZ := Lib.hid rz
    have Hq : RowKit.Hid (w.heap.size ≤ w.heap.size + 1) := by show _ ≤ _; omega
    clear r0 rz
    refine (rGood_c HQ0.out (by omega) false rfl).mono ?_
    rintro e w2 ⟨rfl, bn⟩
    replace HQ0 := Lib.hid (HQ0.out.below bn)
    replace HR0 := Lib.hid (HR0.out.below bn)
    replace HZ := Lib.hid (HZ.out.below bn)
    replace HW := Lib.hid (below_two HW.out bn)
    clear bn
    have e0 := HZ.out.c0
    have e1 := HZ.out.c1
    have e2 := HZ.out.c2
    have f0 := HZ.out.free 0
    have f1 := HZ.out.free 1
    have f2 := HZ.out.free 2
    have HF := Lib.hid (HZ.out.fill (.bool false) (.slice none 0 0) (.slice none 0 0))
    have HB := Lib.hid (below_fill3' HW.out Hq.out (.bool false) (.slice none 0 0) (.slice none 0 0))
    go_wp2
    refine bodyPost_ret (results_mixed rfl _ _ _ 27 #[.bool false, .slice none 0 0, .slice none 0 0] (0, 0) _ (.int .i64 1) rfl rfl HF.out Try.underlying27 rfl rat_size) rfl ?_
    exact ⟨none, 0, 0, none, 0, 0, rfl, qt_none _ 0 0, HB.out⟩
  | some q =>
    obtain ⟨t1, t2, t3, t4, _, _, _⟩ := qq_told hx
    subst t1
    subst t2
    subst t3
    replace hx := t4
    clear t4 h1
    have h1 : 64 ≤ 1000 := by decide
    by_cases k1 : 600 < v
    · rw [scaleR_big (.inl k1)] at hR
      cases hR
      have b0 := below_new w (.cells #[Value.bool (sg (oTop (some q))), Value.slice A n c, Value.slice B m d] 27)
      have b2 := below_new (w.alloc (.cells #[Value.bool (sg (oTop (some q))), Value.slice A n c, Value.slice B m d] 27)) (.cells #[Value.bool false, Value.slice none 0 0, Value.slice none 0 0] 27)
      have HW := Lib.hid (below_two b0 b2)
      have HQ0 := Lib.hid (hx.below HW.out)
      have r0 := ((row3_new w 27 (.bool (sg (oTop (some q)))) (.slice A n c) (.slice B m d))).below b2
      have rz := row3_new (w.alloc (.cells #[Value.bool (sg (oTop (some q))), Value.slice A n c, Value.slice B m d] 27)) 27 (.bool false) (.slice none 0 0) (.slice none 0 0)
      simp only [World.size_alloc] at rz
      clear b0 b2 hx
      go_enter Try.func12, Try.ntmps12
      go_wp2_with fail
      generalize (w.alloc (.cells #[Value.bool (sg (oTop (some q))), Value.slice A n c, Value.slice B m d] 27)).alloc (.cells #[Value.bool false, Value.slice none 0 0, Value.slice none 0 0] 27) = w1 at *
      have HR0 := Lib.hid r0
      have HZ := Lib.hid rz
      have Hq : RowKit.Hid (w.heap.size ≤ w.heap.size + 1) := by show _ ≤ _; omega
      clear r0 rz
      refine (rGood_c HQ0.out (by omega) true rfl).mono ?_
      rintro e w2 ⟨rfl, bn⟩
      replace HQ0 := Lib.hid (HQ0.out.below bn)
      replace HR0 := Lib.hid (HR0.out.below bn)
      replace HZ := Lib.hid (HZ.out.below bn)
      replace HW := Lib.hid (below_two HW.out bn)
      clear bn
      have e0 := HZ.out.c0
      have e1 := HZ.out.c1
      have e2 := HZ.out.c2
      have f0 := HZ.out.free 0
      have f1 := HZ.out.free 1
      have f2 := HZ.out.free 2
      have HF := Lib.hid (HZ.out.fill (.bool false) (.slice none 0 0) (.slice none 0 0))
      have HB := Lib.hid (below_fill3' HW.out Hq.out (.bool false) (.slice none 0 0) (.slice none 0 0))
      go_wp2
      refine bodyPost_ret (results_mixed rfl _ _ _ 27 #[.bool false, .slice none 0 0, .slice none 0 0] (0, 0) _ (.int .i64 2) rfl rfl HF.out Try.underlying27 rfl rat_size) rfl ?_
      exact ⟨none, 0, 0, none, 0, 0, rfl, qt_none _ 0 0, HB.out⟩
    · by_cases k2 : v < -600
      · rw [scaleR_big (.inr k2)] at hR
        cases hR
        have k3 : v ≤ 600 := by omega
        have b0 := below_new w (.cells #[Value.bool (sg (oTop (some q))), Value.slice A n c, Value.slice B m d] 27)
        have b2 := below_new (w.alloc (.cells #[Value.bool (sg (oTop (some q))), Value.slice A n c, Value.slice B m d] 27)) (.cells #[Value.bool false, Value.slice none 0 0, Value.slice none 0 0] 27)
        have HW := Lib.hid (below_two b0 b2)
        have HQ0 := Lib.hid (hx.below HW.out)
        have r0 := ((row3_new w 27 (.bool (sg (oTop (some q)))) (.slice A n c) (.slice B m d))).below b2
        have rz := row3_new (w.alloc (.cells #[Value.bool (sg (oTop (some q))), Value.slice A n c, Value.slice B m d] 27)) 27 (.bool false) (.slice none 0 0) (.slice none 0 0)
        simp only [World.size_alloc] at rz
        clear b0 b2 hx
        go_enter Try.func12, Try.ntmps12
        go_wp2_with fail
        generalize (w.alloc (.cells #[Value.bool (sg (oTop (some q))), Value.slice A n c, Value.slice B m d] 27)).alloc (.cells #[Value.bool false, Value.slice none 0 0, Value.slice none 0 0] 27) = w1 at *
        have HR0 := Lib.hid r0
        have HZ := Lib.hid rz
        have Hq : RowKit.Hid (w.heap.size ≤ w.heap.size + 1) := by show _ ≤ _; omega
        clear r0 rz
        refine (rGood_c HQ0.out (by omega) true rfl).mono ?_
        rintro e w2 ⟨rfl, bn⟩
        replace HQ0 := Lib.hid (HQ0.out.below bn)
        replace HR0 := Lib.hid (HR0.out.below bn)
        replace HZ := Lib.hid (HZ.out.below bn)
        replace HW := Lib.hid (below_two HW.out bn)
        clear bn
        have e0 := HZ.out.c0
        have e1 := HZ.out.c1
        have e2 := HZ.out.c2
        have f0 := HZ.out.free 0
        have f1 := HZ.out.free 1
        have f2 := HZ.out.free 2
        have HF := Lib.hid (HZ.out.fill (.bool false) (.slice none 0 0) (.slice none 0 0))
        have HB := Lib.hid (below_fill3' HW.out Hq.out (.bool false) (.slice none 0 0) (.slice none 0 0))
        go_wp2
        refine bodyPost_ret (results_mixed rfl _ _ _ 27 #[.bool false, .slice none 0 0, .slice none 0 0] (0, 0) _ (.int .i64 2) rfl rfl HF.out Try.underlying27 rfl rat_size) rfl ?_
        exact ⟨none, 0, 0, none, 0, 0, rfl, qt_none _ 0 0, HB.out⟩
      · have k5 : v ≤ 600 := by omega
        have k6 : -600 ≤ v := by omega
        rw [scaleR_lim k5 k6] at hR
        obtain ⟨T, hT⟩ : ∃ T : Rat, (10 : Rat) ^ v = T := ⟨_, rfl⟩
        rw [hT] at hR
        have HM : RowKit.Hid (mulR (some q) (some T) = (r, e)) := hR
        have HL : RowKit.Hid (limR T = (some T, 0)) := by
          show _ = _
          rw [← hT]; exact limR_fits (ten_bd2 v (by omega)) (by decide) (by decide)
        have HT := Lib.hid hT
        clear hR hT
        have b0 := below_new w (.cells #[Value.bool (sg (oTop (some q))), Value.slice A n c, Value.slice B m d] 27)
        have b2 := below_new (w.alloc (.cells #[Value.bool (sg (oTop (some q))), Value.slice A n c, Value.slice B m d] 27)) (.cells #[Value.bool false, Value.slice none 0 0, Value.slice none 0 0] 27)
        have HW := Lib.hid (below_two b0 b2)
        have HQ0 := Lib.hid (hx.below HW.out)
        have r0 := ((row3_new w 27 (.bool (sg (oTop (some q)))) (.slice A n c) (.slice B m d))).below b2
        have rz := row3_new (w.alloc (.cells #[Value.bool (sg (oTop (some q))), Value.slice A n c, Value.slice B m d] 27)) 27 (.bool false) (.slice none 0 0) (.slice none 0 0)
        simp only [World.size_alloc] at rz
        clear b0 b2 hx
        go_enter Try.func12, Try.ntmps12
        go_wp2_with fail
        generalize (w.alloc (.cells #[Value.bool (sg (oTop (some q))), Value.slice A n c, Value.slice B m d] 27)).alloc (.cells #[Value.bool false, Value.slice none 0 0, Value.slice none 0 0] 27) = w1 at *
        have HR0 := Lib.hid r0
        have HZ := Lib.hid rz
        have Hq : RowKit.Hid (w.heap.size ≤ w.heap.size + 1) := by show _ ≤ _; omega
        clear r0 rz
        refine (rGood_c HQ0.out (by omega) true rfl).mono ?_
        rintro e w2 ⟨rfl, bn⟩
        replace HQ0 := Lib.hid (HQ0.out.below bn)
        replace HR0 := Lib.hid (HR0.out.below bn)
        replace HZ := Lib.hid (HZ.out.below bn)
        replace HW := Lib.hid (below_two HW.out bn)
        clear bn
        go_wp2_with fail
        refine (rWhole_is 10 (by decide) (by decide) _ ten_cast _).mono ?_
        rintro ee w3 ⟨A5, n5, c5, B5, m5, d5, rfl, h5, bn⟩
        have H5 := Lib.hid h5
        replace HQ0 := Lib.hid (HQ0.out.below bn)
        replace HR0 := Lib.hid (HR0.out.below bn)
        replace HZ := Lib.hid (HZ.out.below bn)
        replace HW := Lib.hid (below_two HW.out bn)
        clear bn h5
        go_wp2_with fail
        refine (pRaiseT_c H5.out v (by omega) (by omega) (.inl (by decide)) T HT.out (some T) 0 HL.out).mono ?_
        rintro ee w4 ⟨A6, n6, c6, B6, m6, d6, rfl, h6, bn⟩
        have H6 := Lib.hid h6
        replace HQ0 := Lib.hid (HQ0.out.below bn)
        replace HR0 := Lib.hid (HR0.out.below bn)
        replace HZ := Lib.hid (HZ.out.below bn)
        replace HW := Lib.hid (below_two HW.out bn)
        clear bn h6 H5
        have bx := below_new w4 (.cells #[Value.bool (sg (oTop (some T))), Value.slice A6 n6 c6, Value.slice B6 m6 d6] 27)
        have HR6 := Lib.hid (row3_new w4 27 (.bool (sg (oTop (some T)))) (.slice A6 n6 c6) (.slice B6 m6 d6))
        replace HQ0 := Lib.hid (HQ0.out.below bx)
        replace HR0 := Lib.hid (HR0.out.below bx)
        replace HZ := Lib.hid (HZ.out.below bx)
        replace H6 := Lib.hid (H6.out.below bx)
        replace HW := Lib.hid (below_two HW.out bx)
        clear bx
        have c00 := HR0.out.c0
        have c01 := HR0.out.c1
        have c02 := HR0.out.c2
        have y0 := HR6.out.c0
        have y1 := HR6.out.c1
        have y2 := HR6.out.c2
        go_wp2_with fail
        clear y0 y1 y2
        clear c00 c01 c02
        generalize w4.alloc (.cells #[Value.bool (sg (oTop (some T))), Value.slice A6 n6 c6, Value.slice B6 m6 d6] 27) = w5 at *
        obtain ⟨q6, eg⟩ : ∃ g, g = w4.heap.size := ⟨_, rfl⟩
        rw [← eg] at HR6 ⊢
        clear eg HR6
        refine (rMul_c HQ0.out H6.out (by decide) (by decide) r e HM.out).mono ?_
        rintro ee w6 ⟨A9, n9, c9, B9, m9, d9, rfl, h9, bn⟩
        have hZ3 := HZ.out.below bn
        have hNo := hZ3.noLimb (by intro v e; cases e) (by intro v e; cases e) (by intro v e; cases e)
        have e0 := hZ3.c0
        have e1 := hZ3.c1
        have e2 := hZ3.c2
        have f0 := hZ3.free 0
        have f1 := hZ3.free 1
        have f2 := hZ3.free 2
        have HF := Lib.hid (hZ3.fill (.bool (sg (oTop r))) (.slice A9 n9 c9) (.slice B9 m9 d9))
        have HP := Lib.hid (QQ.fillR3 h9 hNo (.bool (sg (oTop r))) (.slice A9 n9 c9) (.slice B9 m9 d9))
        have HB := Lib.hid (below_fill3' (below_two HW.out bn) Hq.out (.bool (sg (oTop r))) (.slice A9 n9 c9) (.slice B9 m9 d9))
        clear hNo bn h9 hZ3
        go_wp2
        refine bodyPost_ret (results_mixed rfl _ _ _ 27 #[.bool (sg (oTop r)), .slice A9 n9 c9, .slice B9 m9 d9] (0, 0) _ (.int .i64 e) rfl rfl HF.out Try.underlying27 rfl rat_size) rfl ?_
        exact ⟨A9, n9, c9, B9, m9, d9, rfl, HP.out, HB.out⟩

end
end Go.Proofs.Ytmifgblbicnimaa

/- Regions that leave their order open and hold guarded operations ('&&', '||'): the law of XFree, where each guard's value is known. Of any program; no condition. -/
namespace Go.Proofs.Ytmifgblbicnimaa
open Go.RowKit
set_option linter.unusedVariables false

section
variable {P : Program} {ops : Array Oper} {Q : Exit → Act → World → Prop}

/-- What the order-free law asks of operation i, a guard of an operation that it waits for allowed. -/
def okAtG (ops : Array Oper) (m : Nat) (ds : List Tmp) (N : Nat) (i : Nat) : Bool :=
  match ops[i]? with
  | none => false
  | some o => o.dst == ds[i]? && decide (i < ds.length) && decide (ds.getD i 0 < N) && (match o.guard with | none => true | some (g, _) => (afters ops i).contains g) && isPlain o.op && (afters ops i).all (fun e => decide (e < i)) &&
      (List.range m).all (fun k => k == i || ds[k]? != ds[i]?) &&
      o.op.operands.toList.all (fun x => match x with
        | .tmp t => (List.range m).all fun k => ds[k]? != some t || (afters ops i).contains k
        | _ => true)
theorem okAtG_spec {m : Nat} {ds : List Tmp} {N i : Nat} (h : okAtG ops m ds N i = true) :
    ∃ o, ops[i]? = some o ∧ o.dst = some (ds.getD i 0) ∧ ds[i]? = some (ds.getD i 0) ∧ ds.getD i 0 < N ∧ (∀ g b, o.guard = some (g, b) → g ∈ afters ops i) ∧ (∀ cs b, o.op ≠ .select cs b) ∧ (∀ e ∈ afters ops i, e < i) ∧
      (∀ k, k < m → k ≠ i → ds[k]? ≠ ds[i]?) ∧ (∀ x ∈ o.op.operands, ∀ t, x = .tmp t → ∀ k, k < m → ds[k]? = some t → k ∈ afters ops i) := by
  unfold okAtG at h
  cases ho : ops[i]? with
  | none => rw [ho] at h; cases h
  | some o =>
    rw [ho] at h
    simp only [Bool.and_eq_true, beq_iff_eq, decide_eq_true_eq, List.all_eq_true, Bool.or_eq_true, bne_iff_ne, List.mem_range] at h
    obtain ⟨⟨⟨⟨⟨⟨⟨h1, h2⟩, h3⟩, h4⟩, h5⟩, h6⟩, h7⟩, h8⟩ := h
    have hi : ds[i]? = some (ds.getD i 0) := by simp [List.getD_eq_getElem?_getD, h2]
    refine ⟨o, rfl, h1.trans hi, hi, h3, ?_, ?_, h6, fun k hk hne => (h7 k hk).resolve_left hne, ?_⟩
    · intro g b he
      rw [he] at h4
      simpa using h4
    · intro cs b he
      rw [he] at h5
      cases h5
    · rintro x hx t rfl k hk hd
      have := h8 _ (by simpa using hx)
      simp only [List.all_eq_true, List.mem_range, Bool.or_eq_true, bne_iff_ne, List.contains_iff_mem] at this
      exact (this k hk).resolve_left fun h => h hd

/-- Step i where operations are guarded: its guard's value is known; it is run, or it is not. -/
def FreeStepG (P : Program) (Q : Exit → Act → World → Prop) (ops : Array Oper) (ds : List Tmp) (aF : (Nat → Value) → Act) (S : World → Prop) (Φ : Nat → Value → World → Prop) (fresh : Nat → Bool) (i : Nat) (o : Oper) : Prop :=
  ((∀ (vals : Nat → Value) (w : World), S w → (∀ e ∈ afters ops i, Φ e (vals e) w) → ∀ g b, o.guard = some (g, b) → vals g = .bool b) ∧ FreeStep P Q ops ds aF S Φ fresh i o) ∨
  (∃ g b, o.guard = some (g, b) ∧ (∀ (vals : Nat → Value) (w : World), S w → (∀ e ∈ afters ops i, Φ e (vals e) w) → vals g = .bool (!b)) ∧ (∀ w, S w → Φ i undef w) ∧ fresh i = false)
theorem FreeStepG.plain {ds : List Tmp} {aF : (Nat → Value) → Act} {S : World → Prop} {Φ : Nat → Value → World → Prop} {fresh : Nat → Bool} {i : Nat} {o : Oper} (hg : o.guard = none) (h : FreeStep P Q ops ds aF S Φ fresh i o) : FreeStepG P Q ops ds aF S Φ fresh i o :=
  .inl ⟨fun _ _ _ _ g b e => (by rw [hg] at e; cases e), h⟩
theorem FreeStepG.yes {ds : List Tmp} {aF : (Nat → Value) → Act} {S : World → Prop} {Φ : Nat → Value → World → Prop} {fresh : Nat → Bool} {i : Nat} {o : Oper} (hg : ∀ (vals : Nat → Value) (w : World), S w → (∀ e ∈ afters ops i, Φ e (vals e) w) → ∀ g b, o.guard = some (g, b) → vals g = .bool b) (h : FreeStep P Q ops ds aF S Φ fresh i o) : FreeStepG P Q ops ds aF S Φ fresh i o :=
  .inl ⟨hg, h⟩

theorem fill_at {D : Nat → Option Tmp} {vals : Nat → Value} {l : Array Bool} {a : Act} {g : Nat} {d : Tmp} (hg : l.getD g false = true) (hd : D g = some d) (hs : d < a.tmps.size) :
    ∀ {m}, g < m → (∀ k, k < m → k ≠ g → D k ≠ some d) → (fill D vals l a m).eval (.tmp d) = vals g
  | 0, h, _ => by omega
  | m + 1, h, hne => by
    unfold fill
    rcases Nat.lt_or_ge g m with h1 | h1
    · have ih := fill_at (vals := vals) hg hd hs (m := m) h1 fun k hk => hne k (by omega)
      split
      · rw [Act.eval_put fun e he1 he2 => hne m (by omega) (by omega) (by injection he2 with he2; rw [he2]; exact he1), ih]
      · exact ih
    · obtain rfl : g = m := by omega
      rw [if_pos hg, hd]
      exact put_same _ _ _ (by rw [fill_size]; exact hs)
theorem yielded_at {a : Act} {g : Nat} {d : Tmp} {b : Bool} (hd : (ops[g]?).bind (·.dst) = some d) (hs : d < a.tmps.size) (h : a.eval (.tmp d) = .bool b) : yielded ops a.tmps g = some b := by
  unfold yielded
  rw [hd]
  simp only [Option.bind_some]
  have h2 : a.tmps[d]? = some (.bool b) := by
    rw [Array.getElem?_eq_getElem hs]
    simp only [Act.eval, Array.getD_eq_getD_getElem?, Array.getElem?_eq_getElem hs, Option.getD_some] at h
    rw [h]
  rw [h2]

/-- **The order-free law** (D: how deep the last operations' waiting is followed): of a region that draws its order, the first m operations (guards whose values are known) in whatever order: each meets its own condition in its own world; what it has shown stays (Below). -/
theorem region_freed {id : Nat} {a : Act} {w : World} {os : List Oper} (m r D : Nat) (ds : List Tmp) (aF : (Nat → Value) → Act) (S : World → Prop) (Φ : Nat → Value → World → Prop) (fresh : Nat → Bool)
    (hm : P.follows .mixedOrders = true)
    (haF : ∀ vals, fillAll (fun k => ds[k]?) vals a m = aF vals)
    (hr : os.length = m + r)
    (hok : (List.range m).all (okAtG os.toArray m ds a.tmps.size) = true)
    (hend : (List.range os.length).all (fun i => decide (i < m) || (List.range m).all fun k => (anc os.toArray D i).contains k) = true)
    (hQ : ∀ c (t t' : Array Value) (d : List Deferred) w, Q (.panic c) ⟨t, d⟩ w → Q (.panic c) ⟨t', d⟩ w)
    (hSb : ∀ w w', Below w.heap.size w w' → S w → S w')
    (hΦb : ∀ k v w w', Below w.heap.size w w' → Φ k v w → Φ k v w')
    (hS : S w.drew)
    (hop : AllAt (FreeStepG P Q os.toArray ds aF S Φ fresh) 0 os m)
    (hfin : ∀ (vals : Nat → Value) (w : World), S w → (∀ k, k < m → Φ k (vals k) w) →
      (∀ j k, j < m → k < m → j ≠ k → fresh j = true → fresh k = true → ∀ p q, vals j = .pointer (some ⟨p, 0, none⟩) → vals k = .pointer (some ⟨q, 0, none⟩) → p ≠ q) →
      wpAny P .any os.toArray Q r (firsts (m + r) m) (aF vals) w) :
    (Code.region id os.toArray true).wp P Q a w := by
  generalize hops : os.toArray = ops at *
  have hsz0 : ops.size = m + r := by rw [← hops]; simpa using hr
  have hle : m ≤ ops.size := by omega
  replace hend : (List.range ops.size).all (fun i => decide (i < m) || (List.range m).all fun k => (anc ops D i).contains k) = true := by rw [hsz0, ← hr]; exact hend
  replace hop : ∀ i, i < m → ∀ o, ops[i]? = some o → FreeStepG P Q ops ds aF S Φ fresh i o := fun i hi o ho => by
    have := hop.at i hi o (by rw [← hops] at ho; simpa using ho)
    rwa [Nat.zero_add] at this
  replace hfin : ∀ (vals : Nat → Value) (w : World), S w → (∀ k, k < m → Φ k (vals k) w) →
      (∀ j k, j < m → k < m → j ≠ k → fresh j = true → fresh k = true → ∀ p q, vals j = .pointer (some ⟨p, 0, none⟩) → vals k = .pointer (some ⟨q, 0, none⟩) → p ≠ q) →
      ∀ l : Array Bool, l.size = ops.size → (∀ k, l.getD k false = decide (k < m)) → wpAny P .any ops Q (ops.size - m) l (aF vals) w := fun vals w h1 h2 h3 l h4 h5 => by
    rw [firsts_eq (h4.trans hsz0) (by omega) h5, show ops.size - m = r by omega]
    exact hfin vals w h1 h2 h3
  replace hQ : ∀ c (a a' : Act) w, a.defers = a'.defers → Q (.panic c) a w → Q (.panic c) a' w := by
    rintro c ⟨t, d⟩ ⟨t', d'⟩ w he h
    obtain rfl : d = d' := he
    exact hQ c t t' d w h
  refine wp_region_any hm ?_
  have hat : ∀ i, i < m → okAtG ops m ds a.tmps.size i = true := fun i hi => List.all_eq_true.1 hok i (List.mem_range.2 hi)
  have hlate : ∀ i, m ≤ i → i < ops.size → ∀ k, k < m → k ∈ anc ops D i := fun i h1 h2 k hk => by
    have := List.all_eq_true.1 hend i (List.mem_range.2 h2)
    simp only [Bool.or_eq_true, decide_eq_true_eq, List.all_eq_true, List.mem_range, List.contains_iff_mem] at this
    exact (this.resolve_left (by omega)) k hk
  have hfr : ∀ (l : Array Bool), l = Array.replicate ops.size false → ∀ k, l.getD k false = false := by
    rintro l rfl k
    simp only [Array.getD_eq_getD_getElem?, Array.getElem?_replicate]
    split <;> rfl
  let J : Array Bool → Act → World → Prop := fun l a' w' => (l.size = ops.size ∧ ∀ k, m ≤ k → l.getD k false = false) ∧ S w' ∧ (∀ k, k < m → l.getD k false = true → ∀ e ∈ afters ops k, l.getD e false = true) ∧
    ∃ vals, a' = fill (fun k => ds[k]?) vals l a m ∧ (∀ k, k < m → l.getD k false = true → Φ k (vals k) w' ∧ (fresh k = true → ∃ q, vals k = .pointer (some ⟨q, 0, none⟩) ∧ q < w'.heap.size)) ∧
      (∀ j k, j < m → k < m → l.getD j false = true → l.getD k false = true → j ≠ k → fresh j = true → fresh k = true → ∀ p q, vals j = .pointer (some ⟨p, 0, none⟩) → vals k = .pointer (some ⟨q, 0, none⟩) → p ≠ q)
  have hdown : ∀ l a' w', J l a' w' → ∀ k, l.getD k false = true → ∀ e ∈ afters ops k, l.getD e false = true := fun l a' w' hj k hk => by
    rcases Nat.lt_or_ge k m with h1 | h1
    · exact hj.2.2.1 k h1 hk
    · rw [hj.1.2 k h1] at hk
      cases hk
  have hz : ∀ j, j ≤ m → left (Array.replicate ops.size false) j = j := fun j => by
    induction j with
    | zero => exact fun _ => rfl
    | succ j ihj => exact fun h => by unfold left; rw [ihj (by omega), hfr _ rfl j]; rfl
  have key := wpAny_inv (P := P) (ops := ops) (Q := Q) (md := .any) m J (fun l a' w' hj => hj.1) hle (fun i o h1 ho e he hb => ?hback) (fun l a' w' i hj hi h1 => ?hstep) (fun l a' w' i hj hi h1 k hk => ?hwait) (fun l a' w' hj hall => ?hfin)
    m (Array.replicate ops.size false) a w.drew (hz m (Nat.le_refl _)) ⟨⟨by simp, fun k _ => hfr _ rfl k⟩, hS, fun k _ h => (by rw [hfr _ rfl k] at h; cases h),
      fun _ => undef, (fill_none fun k _ => hfr _ rfl k).symm, fun k _ h => (by rw [hfr _ rfl k] at h; cases h), fun j k _ _ h => (by rw [hfr _ rfl j] at h; cases h)⟩
  · have e : ops.size - m + m = ops.size := by omega
    rw [e] at key
    exact key
  case hback =>
    obtain ⟨_, _, _, _, _, _, _, hlow, _, _⟩ := okAtG_spec (hat i h1)
    refine hlow e.on ?_
    unfold afters
    rw [ho]
    exact List.mem_map.2 ⟨e, List.mem_filter.2 ⟨by simpa using he, hb⟩, rfl⟩
  case hwait =>
    have hlt : i < ops.size := by
      obtain ⟨_, o, ho, _⟩ := mem_ready.1 hi
      exact (Array.getElem?_eq_some_iff.1 ho).1
    exact anc_up (hdown l a' w' hj) D i (fun e he => ready_after hi he) k (hlate i h1 hlt k hk)
  case hfin =>
    obtain ⟨⟨hs, hl⟩, hSw, _, vals, rfl, hv, hp⟩ := hj
    rw [fill_all hall, haF]
    refine hfin vals w' hSw (fun k hk => (hv k hk (hall k hk)).1) (fun j k h1 h2 => hp j k h1 h2 (hall j h1) (hall k h2)) l hs fun k => ?_
    rcases Nat.lt_or_ge k m with h | h
    · rw [hall k h, decide_eq_true h]
    · rw [hl k h, decide_eq_false (by omega)]
  case hstep =>
    obtain ⟨⟨hs, hl⟩, hSw, hdn, vals, rfl, hv, hp⟩ := hj
    obtain ⟨o, ho, hdst, hdi, hlt, hg, hsel, hlow, hdist, hops⟩ := okAtG_spec (hat i h1)
    have hu : l.getD i false = false := by
      have h2 := (mem_ready.1 hi).1
      have h3 : i < l.size := by omega
      simp only [Array.getD_eq_getD_getElem?] at h2 ⊢
      rw [Array.getElem?_eq_getElem h3] at h2 ⊢
      simpa using h2
    have hdep : ∀ e ∈ afters ops i, l.getD e false = true := fun e he => ready_after hi he
    have heval : ∀ x ∈ o.op.operands, (fill (fun k => ds[k]?) vals l a m).eval x = (aF vals).eval x := fun x hx => by
      rw [← haF vals]
      exact fill_eval fun k hk hk2 d hd hxd => by
        rw [hdep k (hops x hx d hxd k hk hd)] at hk2
        cases hk2
    have hphi : ∀ e ∈ afters ops i, Φ e (vals e) w' := fun e he => (hv e (by have := hlow e he; omega) (hdep e he)).1
    have hyld : ∀ g b, g ∈ afters ops i → vals g = .bool b → yielded ops (fill (fun k => ds[k]?) vals l a m).tmps g = some b := fun g b hga hb => by
      have hgm : g < m := by have := hlow g hga; omega
      obtain ⟨og, hog, hgd, hgi, hglt, _, _, _, hgdist, _⟩ := okAtG_spec (hat g hgm)
      have h4 : (fill (fun k => ds[k]?) vals l a m).eval (.tmp (ds.getD g 0)) = vals g := fill_at (hdep g hga) hgi hglt hgm fun k hk hne e => hgdist k hk hne (e.trans hgi.symm)
      refine yielded_at (by rw [hog]; exact hgd) (by rw [fill_size]; exact hglt) (h4.trans hb)
    have hsz : ds.getD i 0 < (aF vals).tmps.size := by rw [← haF vals, fillAll_size]; exact hlt
    have next : ∀ v w2, Below w'.heap.size w' w2 → Φ i v w2 → (fresh i = true → ∃ q, v = .pointer (some ⟨q, 0, none⟩) ∧ w'.heap.size ≤ q ∧ q < w2.heap.size) →
        J (l.setIfInBounds i true) ((fill (fun k => ds[k]?) vals l a m).put o.dst v) w2 := fun v w2 hb hphi hfresh => by
      have hne : ∀ k, k ≠ i → (l.setIfInBounds i true).getD k false = l.getD k false := fun k hk => getD_other (Ne.symm hk) _
      refine ⟨⟨by simpa using hs, fun k hk => by rw [hne k (by omega)]; exact hl k hk⟩, hSb _ _ hb hSw, fun k hk hk2 e he => ?_, upd vals i v, ?_, fun k hk hk2 => ?_, fun j k hj hk hj2 hk2 hjk fj fk p q ep eq => ?_⟩
      · by_cases hki : k = i
        · subst hki
          rw [hne e (by have := hlow e he; omega)]
          exact hdep e he
        · rw [hne k hki] at hk2
          by_cases hei : e = i
          · subst hei
            exact getD_same (by omega) _
          · rw [hne e hei]
            exact hdn k hk hk2 e he
      · rw [hdst, ← hdi]
        exact fill_set (by omega) hu h1 fun j hj hji d hd hdi2 => hdist j hj hji (hd.trans hdi2.symm)
      · by_cases hki : k = i
        · subst hki
          rw [show upd vals k v k = v from if_pos rfl]
          exact ⟨hphi, fun hf => by obtain ⟨q, h1, _, h3⟩ := hfresh hf; exact ⟨q, h1, h3⟩⟩
        · rw [hne k hki] at hk2
          rw [show upd vals i v k = vals k from if_neg hki]
          obtain ⟨h3, h4⟩ := hv k hk hk2
          exact ⟨hΦb _ _ _ _ hb h3, fun hf => by obtain ⟨q, h5, h6⟩ := h4 hf; exact ⟨q, h5, Nat.lt_of_lt_of_le h6 hb.size⟩⟩
      · by_cases hji : j = i
        · subst hji
          have hki : k ≠ j := fun h => hjk h.symm
          rw [show upd vals j v j = v from if_pos rfl] at ep
          rw [show upd vals j v k = vals k from if_neg hki] at eq
          rw [hne k hki] at hk2
          obtain ⟨q1, e1, l1, _⟩ := hfresh fj
          obtain ⟨q2, e2, l2⟩ := (hv k hk hk2).2 fk
          rw [e1] at ep
          rw [e2] at eq
          cases ep
          cases eq
          omega
        · by_cases hki : k = i
          · subst hki
            rw [show upd vals k v k = v from if_pos rfl] at eq
            rw [show upd vals k v j = vals j from if_neg hji] at ep
            rw [hne j hji] at hj2
            obtain ⟨q1, e1, l1, _⟩ := hfresh fk
            obtain ⟨q2, e2, l2⟩ := (hv j hj hj2).2 fj
            rw [e1] at eq
            rw [e2] at ep
            cases ep
            cases eq
            omega
          · rw [show upd vals i v j = vals j from if_neg hji] at ep
            rw [show upd vals i v k = vals k from if_neg hki] at eq
            rw [hne j hji] at hj2
            rw [hne k hki] at hk2
            exact hp j k hj hk hj2 hk2 hjk fj fk p q ep eq
    rcases hop i h1 o ho with ⟨hgv, hop2⟩ | ⟨g, b, hgb, hgv, hun, hfr0⟩
    case inr =>
      unfold wpOp
      rw [ho]
      simp only []
      have hnot : Region.wanted o (yielded ops (fill (fun k => ds[k]?) vals l a m).tmps) = false := by
        unfold Region.wanted
        rw [hgb]
        simp only []
        rw [hyld g (!b) (hg g b hgb) (hgv vals w' hSw hphi)]
        cases b <;> rfl
      rw [if_neg (by rw [hnot]; decide)]
      exact next _ _ (Below.refl _ _) (hun w' hSw) (fun hf => by rw [hfr0] at hf; cases hf)
    have hwant : Region.wanted o (yielded ops (fill (fun k => ds[k]?) vals l a m).tmps) = true := by
      unfold Region.wanted
      cases hgo : o.guard with
      | none => rfl
      | some gb =>
        obtain ⟨g, b⟩ := gb
        simp only []
        rw [hyld g b (hg g b hgo) (hgv vals w' hSw hphi g b hgo)]
        simp
    have hrun := hop2 vals w' hSw hphi
      (fun a2 w2 => a2.defers = (aF vals).defers ∧ Below w'.heap.size w' w2 ∧ Φ i (a2.eval (.tmp (ds.getD i 0))) w2 ∧ (fresh i = true → ∃ q, a2.eval (.tmp (ds.getD i 0)) = .pointer (some ⟨q, 0, none⟩) ∧ w'.heap.size ≤ q ∧ q < w2.heap.size))
      (fun a2 w2 h1 h2 h3 h4 => ⟨h1, h2, h3, h4⟩)
    unfold wpOp
    rw [ho]
    simp only []
    rw [if_pos hwant]
    refine .inl ?_
    unfold Oper.wp at hrun ⊢
    rw [execOp_congr o hsel heval]
    generalize (execOp (aF vals).eval o).run P w' = r at hrun ⊢
    have hdef : (aF vals).defers = (fill (fun k => ds[k]?) vals l a m).defers := by rw [← haF vals, fillAll_defers, fill_defers]
    have hput : ∀ v, ((aF vals).put o.dst v).eval (.tmp (ds.getD i 0)) = v := fun v => by rw [hdst]; exact put_same _ _ _ hsz
    cases r with
    | ok n w2 =>
      cases n <;> simp only [Oper.upon] at hrun ⊢
      case value v => rw [hput] at hrun; exact next _ _ hrun.2.1 hrun.2.2.1 hrun.2.2.2
      case skip => rw [hput] at hrun; exact next _ _ hrun.2.1 hrun.2.2.1 hrun.2.2.2
      case defer d =>
        exfalso
        have := hrun.1
        rw [put_defers2] at this
        have := congrArg List.length this
        simp at this
      case enter f args =>
        refine Calls.mono hrun fun e w3 he => ?_
        cases e with
        | returned v => simp only at he ⊢; rw [hput] at he; exact next _ _ he.2.1 he.2.2.1 he.2.2.2
        | panicked c => exact hQ _ _ _ _ hdef he
        | outgrown => exact he
      case row r args =>
        refine Rows.mono hrun fun v w3 he => ?_
        rw [hput] at he
        exact next _ _ he.2.1 he.2.2.1 he.2.2.2
    | halt x w2 =>
      cases x <;> simp only [Oper.upon] at hrun ⊢ <;> exact hQ _ _ _ _ hdef hrun

/-- **The order-free law**: of a region that draws its order, the first m operations (guards whose values are known) in whatever order: each meets its own condition in its own world; what it has shown stays (Below). -/
theorem region_freeg {id : Nat} {a : Act} {w : World} {os : List Oper} (m r : Nat) (ds : List Tmp) (aF : (Nat → Value) → Act) (S : World → Prop) (Φ : Nat → Value → World → Prop) (fresh : Nat → Bool)
    (hm : P.follows .mixedOrders = true)
    (haF : ∀ vals, fillAll (fun k => ds[k]?) vals a m = aF vals)
    (hr : os.length = m + r)
    (hok : (List.range m).all (okAtG os.toArray m ds a.tmps.size) = true)
    (hend : (List.range os.length).all (fun i => decide (i < m) || (List.range m).all fun k => (anc os.toArray 3 i).contains k) = true)
    (hQ : ∀ c (t t' : Array Value) (d : List Deferred) w, Q (.panic c) ⟨t, d⟩ w → Q (.panic c) ⟨t', d⟩ w)
    (hSb : ∀ w w', Below w.heap.size w w' → S w → S w')
    (hΦb : ∀ k v w w', Below w.heap.size w w' → Φ k v w → Φ k v w')
    (hS : S w.drew)
    (hop : AllAt (FreeStepG P Q os.toArray ds aF S Φ fresh) 0 os m)
    (hfin : ∀ (vals : Nat → Value) (w : World), S w → (∀ k, k < m → Φ k (vals k) w) →
      (∀ j k, j < m → k < m → j ≠ k → fresh j = true → fresh k = true → ∀ p q, vals j = .pointer (some ⟨p, 0, none⟩) → vals k = .pointer (some ⟨q, 0, none⟩) → p ≠ q) →
      wpAny P .any os.toArray Q r (firsts (m + r) m) (aF vals) w) :
    (Code.region id os.toArray true).wp P Q a w :=
  region_freed m r 3 ds aF S Φ fresh hm haF hr hok hend hQ hSb hΦb hS hop hfin

end

end Go.Proofs.Ytmifgblbicnimaa

/- Regions that leave their order open, in which one operation that only reads its frame (a result's second part) may come behind the stores too. Of any program; no condition. -/
namespace Go.Proofs.Ytmifgblbicnimaa
open Go.RowKit
set_option linter.unusedVariables false

section
variable {P : Program} {ops : Array Oper} {Q : Exit → Act → World → Prop} {md : Region.Mode}

/-- **Whatever order is picked**: an invariant J that each operation that may come up hands on; the last operations (from m on) wait for all others. -/
theorem wpAny_invx (m x : Nat) (J : Array Bool → Act → World → Prop)
    (hsize : ∀ l a w, J l a w → l.size = ops.size ∧ ∀ k, m ≤ k → l.getD k false = false)
    (hm : m ≤ ops.size)
    (hback : ∀ (i : Nat) (o : Oper), i < m → ops[i]? = some o → ∀ e ∈ o.after, Region.binds md e = true → e.on < i)
    (hstep : ∀ l a w i, J l a w → i ∈ Region.ready md ops l → i < m → wpOp P ops Q i (fun a' w' => J (l.setIfInBounds i true) a' w') a w)
    (hwait : ∀ l a w i, J l a w → i ∈ Region.ready md ops l → m ≤ i → ∀ k, k < m → k ≠ x → l.getD k false = true)
    (hfin : ∀ l a w, J l a w → (∀ k, k < m → k ≠ x → l.getD k false = true) → wpAny P md ops Q (ops.size - m + left l m) l a w) :
    ∀ (c : Nat) (l : Array Bool) (a : Act) (w : World), left l m = c → J l a w → wpAny P md ops Q (ops.size - m + c) l a w := by
  intro c
  induction c with
  | zero => exact fun l a w hc hj => by have h := hfin l a w hj (fun k hk _ => left_zero hc k hk); rwa [hc] at h
  | succ c ih =>
    intro l a w hc hj
    rcases Classical.em (∀ k, k < m → k ≠ x → l.getD k false = true) with hall | hnall
    · have h := hfin l a w hj hall; rwa [hc] at h
    obtain ⟨hs, hlater⟩ := hsize l a w hj
    have hex : ∃ k, k < m ∧ k ≠ x ∧ l.getD k false = false := by
      rcases Classical.em (∃ k, k < m ∧ k ≠ x ∧ l.getD k false = false) with h | h
      · exact h
      · refine absurd (fun k hk hkx => ?_) hnall
        cases hb : l.getD k false with
        | true => rfl
        | false => exact absurd ⟨k, hk, hkx, hb⟩ h
    refine ⟨fun hr => ?_, fun i hi => ?_⟩
    · exfalso
      -- the least one that has not come up may come up
      obtain ⟨k0, hk0, _, hb0⟩ := hex
      have hleast : ∀ n, (∃ k, k ≤ n ∧ k < m ∧ l.getD k false = false) → ∃ k, k < m ∧ l.getD k false = false ∧ ∀ j, j < k → l.getD j false = true := by
        intro n
        induction n with
        | zero =>
          rintro ⟨k, h1, h2, h3⟩
          obtain rfl : k = 0 := by omega
          exact ⟨0, h2, h3, fun j hj2 => by omega⟩
        | succ n ihn =>
          rintro ⟨k, h1, h2, h3⟩
          rcases Classical.em (∃ k, k ≤ n ∧ k < m ∧ l.getD k false = false) with h | h
          · exact ihn h
          · refine ⟨k, h2, h3, fun j hj2 => ?_⟩
            cases hb : l.getD j false with
            | true => rfl
            | false => exact absurd ⟨j, by omega, by omega, hb⟩ h
      obtain ⟨k, hk, hb, hmin⟩ := hleast k0 ⟨k0, Nat.le_refl _, hk0, hb0⟩
      have hko : k < ops.size := by omega
      have : k ∈ Region.ready md ops l := mem_ready.2 ⟨by
        simp only [Array.getD_eq_getD_getElem?] at hb ⊢
        rw [Array.getElem?_eq_getElem (by omega)] at hb ⊢
        simpa using hb, ops[k], Array.getElem?_eq_getElem hko, fun e he hbi => hmin _ (hback k _ hk (Array.getElem?_eq_getElem hko) e he hbi)⟩
      rw [hr] at this
      cases this
    · rcases Nat.lt_or_ge i m with h1 | h1
      · have hu : l.getD i false = false := by
          have h2 := (mem_ready.1 hi).1
          simp only [Array.getD_eq_getD_getElem?] at h2 ⊢
          rw [Array.getElem?_eq_getElem (by omega)] at h2 ⊢
          simpa using h2
        have hl := left_set (m := m) (by omega : i < l.size) hu h1
        exact wpOp_mono (fun a' w' hj2 => ih _ a' w' (by omega) hj2) (hstep l a w i hj hi h1)
      · exfalso
        obtain ⟨k, hk, hkx, hb⟩ := hex
        rw [hwait l a w i hj hi h1 k hk hkx] at hb
        cases hb

/-- **The order-free law**: of a region that draws its order, the first m operations (guards whose values are known; the operation x, that only reads its frame, may come behind the stores too) in whatever order: each meets its own condition in its own world; what it has shown stays (Below). -/
theorem region_freex {id : Nat} {a : Act} {w : World} {os : List Oper} (m r x : Nat) (ds : List Tmp) (aF : (Nat → Value) → Act) (S : World → Prop) (Φ : Nat → Value → World → Prop) (fresh : Nat → Bool)
    (hm : P.follows .mixedOrders = true)
    (haF : ∀ vals, fillAll (fun k => ds[k]?) vals a m = aF vals)
    (hr : os.length = m + r)
    (hok : (List.range m).all (okAtG os.toArray m ds a.tmps.size) = true)
    (hend : (List.range os.length).all (fun i => decide (i < m) || (List.range m).all fun k => k == x || (anc os.toArray 3 i).contains k) = true)
    (hxm : x < m) (hxf : fresh x = false) (hxs : Region.noSelect os.toArray = true)
    (hxr : (Region.free .any os.toArray ((firsts (m + r) m).setIfInBounds x false) x && (Region.ready .any os.toArray ((firsts (m + r) m).setIfInBounds x false)).contains x) = true)
    (hyx : ∀ (vals : Nat → Value) (w : World), S w → (∀ k, k < m → k ≠ x → Φ k (vals k) w) → ∀ o, os.toArray[x]? = some o → o.guard = none ∧ ∃ v, (∀ w', (execOp (aF vals).eval o).run P w' = .ok (.value v) w') ∧ Φ x v w)
    (hQ : ∀ c (t t' : Array Value) (d : List Deferred) w, Q (.panic c) ⟨t, d⟩ w → Q (.panic c) ⟨t', d⟩ w)
    (hSb : ∀ w w', Below w.heap.size w w' → S w → S w')
    (hΦb : ∀ k v w w', Below w.heap.size w w' → Φ k v w → Φ k v w')
    (hS : S w.drew)
    (hop : AllAt (FreeStepG P Q os.toArray ds aF S Φ fresh) 0 os m)
    (hfin : ∀ (vals : Nat → Value) (w : World), S w → (∀ k, k < m → Φ k (vals k) w) →
      (∀ j k, j < m → k < m → j ≠ k → fresh j = true → fresh k = true → ∀ p q, vals j = .pointer (some ⟨p, 0, none⟩) → vals k = .pointer (some ⟨q, 0, none⟩) → p ≠ q) →
      wpAny P .any os.toArray Q r (firsts (m + r) m) (aF vals) w) :
    (Code.region id os.toArray true).wp P Q a w := by
  generalize hops : os.toArray = ops at *
  have hsz0 : ops.size = m + r := by rw [← hops]; simpa using hr
  have hle : m ≤ ops.size := by omega
  replace hend : (List.range ops.size).all (fun i => decide (i < m) || (List.range m).all fun k => k == x || (anc ops 3 i).contains k) = true := by rw [hsz0, ← hr]; exact hend
  replace hop : ∀ i, i < m → ∀ o, ops[i]? = some o → FreeStepG P Q ops ds aF S Φ fresh i o := fun i hi o ho => by
    have := hop.at i hi o (by rw [← hops] at ho; simpa using ho)
    rwa [Nat.zero_add] at this
  replace hfin : ∀ (vals : Nat → Value) (w : World), S w → (∀ k, k < m → Φ k (vals k) w) →
      (∀ j k, j < m → k < m → j ≠ k → fresh j = true → fresh k = true → ∀ p q, vals j = .pointer (some ⟨p, 0, none⟩) → vals k = .pointer (some ⟨q, 0, none⟩) → p ≠ q) →
      ∀ l : Array Bool, l.size = ops.size → (∀ k, l.getD k false = decide (k < m)) → wpAny P .any ops Q (ops.size - m) l (aF vals) w := fun vals w h1 h2 h3 l h4 h5 => by
    rw [firsts_eq (h4.trans hsz0) (by omega) h5, show ops.size - m = r by omega]
    exact hfin vals w h1 h2 h3
  replace hQ : ∀ c (a a' : Act) w, a.defers = a'.defers → Q (.panic c) a w → Q (.panic c) a' w := by
    rintro c ⟨t, d⟩ ⟨t', d'⟩ w he h
    obtain rfl : d = d' := he
    exact hQ c t t' d w h
  refine wp_region_any hm ?_
  have hat : ∀ i, i < m → okAtG ops m ds a.tmps.size i = true := fun i hi => List.all_eq_true.1 hok i (List.mem_range.2 hi)
  have hlate : ∀ i, m ≤ i → i < ops.size → ∀ k, k < m → k ≠ x → k ∈ anc ops 3 i := fun i h1 h2 k hk hkx => by
    have := List.all_eq_true.1 hend i (List.mem_range.2 h2)
    simp only [Bool.or_eq_true, decide_eq_true_eq, List.all_eq_true, List.mem_range, List.contains_iff_mem, beq_iff_eq] at this
    exact ((this.resolve_left (by omega)) k hk).resolve_left hkx
  have hfr : ∀ (l : Array Bool), l = Array.replicate ops.size false → ∀ k, l.getD k false = false := by
    rintro l rfl k
    simp only [Array.getD_eq_getD_getElem?, Array.getElem?_replicate]
    split <;> rfl
  let J : Array Bool → Act → World → Prop := fun l a' w' => (l.size = ops.size ∧ ∀ k, m ≤ k → l.getD k false = false) ∧ S w' ∧ (∀ k, k < m → l.getD k false = true → ∀ e ∈ afters ops k, l.getD e false = true) ∧
    ∃ vals, a' = fill (fun k => ds[k]?) vals l a m ∧ (∀ k, k < m → l.getD k false = true → Φ k (vals k) w' ∧ (fresh k = true → ∃ q, vals k = .pointer (some ⟨q, 0, none⟩) ∧ q < w'.heap.size)) ∧
      (∀ j k, j < m → k < m → l.getD j false = true → l.getD k false = true → j ≠ k → fresh j = true → fresh k = true → ∀ p q, vals j = .pointer (some ⟨p, 0, none⟩) → vals k = .pointer (some ⟨q, 0, none⟩) → p ≠ q)
  have hdown : ∀ l a' w', J l a' w' → ∀ k, l.getD k false = true → ∀ e ∈ afters ops k, l.getD e false = true := fun l a' w' hj k hk => by
    rcases Nat.lt_or_ge k m with h1 | h1
    · exact hj.2.2.1 k h1 hk
    · rw [hj.1.2 k h1] at hk
      cases hk
  have hz : ∀ j, j ≤ m → left (Array.replicate ops.size false) j = j := fun j => by
    induction j with
    | zero => exact fun _ => rfl
    | succ j ihj => exact fun h => by unfold left; rw [ihj (by omega), hfr _ rfl j]; rfl
  have key := wpAny_invx (P := P) (ops := ops) (Q := Q) (md := .any) m x J (fun l a' w' hj => hj.1) hle (fun i o h1 ho e he hb => ?hback) (fun l a' w' i hj hi h1 => ?hstep) (fun l a' w' i hj hi h1 k hk hkx => ?hwait) (fun l a' w' hj hall => ?hfin)
    m (Array.replicate ops.size false) a w.drew (hz m (Nat.le_refl _)) ⟨⟨by simp, fun k _ => hfr _ rfl k⟩, hS, fun k _ h => (by rw [hfr _ rfl k] at h; cases h),
      fun _ => undef, (fill_none fun k _ => hfr _ rfl k).symm, fun k _ h => (by rw [hfr _ rfl k] at h; cases h), fun j k _ _ h => (by rw [hfr _ rfl j] at h; cases h)⟩
  · have e : ops.size - m + m = ops.size := by omega
    rw [e] at key
    exact key
  case hback =>
    obtain ⟨_, _, _, _, _, _, _, hlow, _, _⟩ := okAtG_spec (hat i h1)
    refine hlow e.on ?_
    unfold afters
    rw [ho]
    exact List.mem_map.2 ⟨e, List.mem_filter.2 ⟨by simpa using he, hb⟩, rfl⟩
  case hwait =>
    have hlt : i < ops.size := by
      obtain ⟨_, o, ho, _⟩ := mem_ready.1 hi
      exact (Array.getElem?_eq_some_iff.1 ho).1
    exact anc_up (hdown l a' w' hj) 3 i (fun e he => ready_after hi he) k (hlate i h1 hlt k hk hkx)
  case hfin =>
    obtain ⟨⟨hs, hl⟩, hSw, hdn, vals, rfl, hv, hp⟩ := hj
    cases hx : l.getD x false with
    | true =>
      have hall2 : ∀ k, k < m → l.getD k false = true := fun k hk => by
        by_cases hkx : k = x
        · subst hkx; exact hx
        · exact hall k hk hkx
      have hl0 : left l m = 0 := by
        have h0 : ∀ j, j ≤ m → left l j = 0 := fun j => by
          induction j with
          | zero => exact fun _ => rfl
          | succ j ihj => exact fun hj2 => by unfold left; rw [ihj (by omega), hall2 j (by omega)]; rfl
        exact h0 m (Nat.le_refl _)
      rw [hl0, Nat.add_zero, fill_all hall2, haF]
      refine hfin vals w' hSw (fun k hk => (hv k hk (hall2 k hk)).1) (fun j k h1 h2 => hp j k h1 h2 (hall2 j h1) (hall2 k h2)) l hs fun k => ?_
      rcases Nat.lt_or_ge k m with h | h
      · rw [hall2 k h, decide_eq_true h]
      · rw [hl k h, decide_eq_false (by omega)]
    | false =>
      have hset : ∀ k, k < m → (l.setIfInBounds x true).getD k false = true := fun k hk => by
        by_cases hkx : k = x
        · subst hkx; exact getD_same (by omega) _
        · rw [getD_other (Ne.symm hkx)]; exact hall k hk hkx
      have hl1 : left l m = 1 := by
        have h0 : ∀ j, j ≤ m → left (l.setIfInBounds x true) j = 0 := fun j => by
          induction j with
          | zero => exact fun _ => rfl
          | succ j ihj => exact fun hj2 => by unfold left; rw [ihj (by omega), hset j (by omega)]; rfl
        have := left_set (m := m) (by omega : x < l.size) hx hxm
        rw [h0 m (Nat.le_refl _)] at this
        exact this.symm
      have hlx : l = (firsts (m + r) m).setIfInBounds x false := by
        apply Array.ext_getElem?
        intro k
        have hfs : (firsts (m + r) m).size = m + r := by simp [firsts]
        rcases Nat.lt_or_ge k (m + r) with hk | hk
        · have e1 : l[k]? = some (l.getD k false) := by
            rw [Array.getElem?_eq_getElem (by omega)]; simp [Array.getD_eq_getD_getElem?, Array.getElem?_eq_getElem (show k < l.size by omega)]
          rw [e1, Array.getElem?_setIfInBounds]
          by_cases hkx : x = k
          · subst hkx; rw [if_pos rfl, if_pos (by omega), hx]
          · rw [if_neg hkx, show (firsts (m + r) m)[k]? = ((List.range (m + r)).map fun k => decide (k < m))[k]? from List.getElem?_toArray .., List.getElem?_map, List.getElem?_range hk]
            rcases Nat.lt_or_ge k m with h | h
            · rw [hall k h (Ne.symm hkx)]; simp [h]
            · rw [hl k h]; simp; omega
        · rw [Array.getElem?_eq_none (by omega), Array.getElem?_eq_none (by simp only [Array.size_setIfInBounds]; omega)]
      obtain ⟨o, ho, hdst, hdi, hlt, hg, hsel, hlow, hdist, hops⟩ := okAtG_spec (hat x hxm)
      obtain ⟨hgn, v, hrun, hphi⟩ := hyx vals w' hSw (fun k hk hkx => (hv k hk (hall k hk hkx)).1) o ho
      have hxx : x ∉ afters ops x := fun h => by have := hlow x h; omega
      have heval : ∀ y ∈ o.op.operands, (fill (fun k => ds[k]?) vals l a m).eval y = (aF vals).eval y := fun y hy => by
        rw [← haF vals]
        exact fill_eval fun k hk hk2 d hd hyd => by
          by_cases hkx : k = x
          · subst hkx; exact hxx (hops y hy d hyd k hk hd)
          · rw [hall k hk hkx] at hk2; cases hk2
      have hy : Yields P ops o v (fill (fun k => ds[k]?) vals l a m) := .inl ⟨by unfold Region.wanted; rw [hgn], fun w2 => by rw [execOp_congr o hsel heval]; exact hrun w2⟩
      simp only [Bool.and_eq_true] at hxr
      rw [hl1]
      refine wpAny_take ho hxs (by rw [hlx]; exact hxr.1) (by rw [hlx]; exact hxr.2) (fun c a2 w2 h => hQ c _ _ w2 (by cases o.dst <;> rfl) h) hy ?_
      rw [hdst, ← hdi, fill_set (by omega) hx hxm (fun j hj hji d hd hdi2 => hdist j hj hji (hd.trans hdi2.symm)), fill_all hset, haF]
      have hup : ∀ k, k ≠ x → upd vals x v k = vals k := fun k hk => if_neg hk
      refine hfin (upd vals x v) w' hSw (fun k hk => ?_) (fun j k h1 h2 hjk fj fk p q ep eq => ?_) _ (by simpa using hs) fun k => ?_
      · by_cases hkx : k = x
        · subst hkx; rw [show upd vals k v k = v from if_pos rfl]; exact hphi
        · rw [hup k hkx]; exact (hv k hk (hall k hk hkx)).1
      · have hjx : j ≠ x := fun e => by subst e; rw [hxf] at fj; cases fj
        have hkx : k ≠ x := fun e => by subst e; rw [hxf] at fk; cases fk
        rw [hup j hjx] at ep
        rw [hup k hkx] at eq
        exact hp j k h1 h2 (hall j h1 hjx) (hall k h2 hkx) hjk fj fk p q ep eq
      · rcases Nat.lt_or_ge k m with h | h
        · rw [hset k h, decide_eq_true h]
        · rw [getD_other (by omega), hl k h, decide_eq_false (by omega)]
  case hstep =>
    obtain ⟨⟨hs, hl⟩, hSw, hdn, vals, rfl, hv, hp⟩ := hj
    obtain ⟨o, ho, hdst, hdi, hlt, hg, hsel, hlow, hdist, hops⟩ := okAtG_spec (hat i h1)
    have hu : l.getD i false = false := by
      have h2 := (mem_ready.1 hi).1
      have h3 : i < l.size := by omega
      simp only [Array.getD_eq_getD_getElem?] at h2 ⊢
      rw [Array.getElem?_eq_getElem h3] at h2 ⊢
      simpa using h2
    have hdep : ∀ e ∈ afters ops i, l.getD e false = true := fun e he => ready_after hi he
    have heval : ∀ x ∈ o.op.operands, (fill (fun k => ds[k]?) vals l a m).eval x = (aF vals).eval x := fun x hx => by
      rw [← haF vals]
      exact fill_eval fun k hk hk2 d hd hxd => by
        rw [hdep k (hops x hx d hxd k hk hd)] at hk2
        cases hk2
    have hphi : ∀ e ∈ afters ops i, Φ e (vals e) w' := fun e he => (hv e (by have := hlow e he; omega) (hdep e he)).1
    have hyld : ∀ g b, g ∈ afters ops i → vals g = .bool b → yielded ops (fill (fun k => ds[k]?) vals l a m).tmps g = some b := fun g b hga hb => by
      have hgm : g < m := by have := hlow g hga; omega
      obtain ⟨og, hog, hgd, hgi, hglt, _, _, _, hgdist, _⟩ := okAtG_spec (hat g hgm)
      have h4 : (fill (fun k => ds[k]?) vals l a m).eval (.tmp (ds.getD g 0)) = vals g := fill_at (hdep g hga) hgi hglt hgm fun k hk hne e => hgdist k hk hne (e.trans hgi.symm)
      refine yielded_at (by rw [hog]; exact hgd) (by rw [fill_size]; exact hglt) (h4.trans hb)
    have hsz : ds.getD i 0 < (aF vals).tmps.size := by rw [← haF vals, fillAll_size]; exact hlt
    have next : ∀ v w2, Below w'.heap.size w' w2 → Φ i v w2 → (fresh i = true → ∃ q, v = .pointer (some ⟨q, 0, none⟩) ∧ w'.heap.size ≤ q ∧ q < w2.heap.size) →
        J (l.setIfInBounds i true) ((fill (fun k => ds[k]?) vals l a m).put o.dst v) w2 := fun v w2 hb hphi hfresh => by
      have hne : ∀ k, k ≠ i → (l.setIfInBounds i true).getD k false = l.getD k false := fun k hk => getD_other (Ne.symm hk) _
      refine ⟨⟨by simpa using hs, fun k hk => by rw [hne k (by omega)]; exact hl k hk⟩, hSb _ _ hb hSw, fun k hk hk2 e he => ?_, upd vals i v, ?_, fun k hk hk2 => ?_, fun j k hj hk hj2 hk2 hjk fj fk p q ep eq => ?_⟩
      · by_cases hki : k = i
        · subst hki
          rw [hne e (by have := hlow e he; omega)]
          exact hdep e he
        · rw [hne k hki] at hk2
          by_cases hei : e = i
          · subst hei
            exact getD_same (by omega) _
          · rw [hne e hei]
            exact hdn k hk hk2 e he
      · rw [hdst, ← hdi]
        exact fill_set (by omega) hu h1 fun j hj hji d hd hdi2 => hdist j hj hji (hd.trans hdi2.symm)
      · by_cases hki : k = i
        · subst hki
          rw [show upd vals k v k = v from if_pos rfl]
          exact ⟨hphi, fun hf => by obtain ⟨q, h1, _, h3⟩ := hfresh hf; exact ⟨q, h1, h3⟩⟩
        · rw [hne k hki] at hk2
          rw [show upd vals i v k = vals k from if_neg hki]
          obtain ⟨h3, h4⟩ := hv k hk hk2
          exact ⟨hΦb _ _ _ _ hb h3, fun hf => by obtain ⟨q, h5, h6⟩ := h4 hf; exact ⟨q, h5, Nat.lt_of_lt_of_le h6 hb.size⟩⟩
      · by_cases hji : j = i
        · subst hji
          have hki : k ≠ j := fun h => hjk h.symm
          rw [show upd vals j v j = v from if_pos rfl] at ep
          rw [show upd vals j v k = vals k from if_neg hki] at eq
          rw [hne k hki] at hk2
          obtain ⟨q1, e1, l1, _⟩ := hfresh fj
          obtain ⟨q2, e2, l2⟩ := (hv k hk hk2).2 fk
          rw [e1] at ep
          rw [e2] at eq
          cases ep
          cases eq
          omega
        · by_cases hki : k = i
          · subst hki
            rw [show upd vals k v k = v from if_pos rfl] at eq
            rw [show upd vals k v j = vals j from if_neg hji] at ep
            rw [hne j hji] at hj2
            obtain ⟨q1, e1, l1, _⟩ := hfresh fk
            obtain ⟨q2, e2, l2⟩ := (hv j hj hj2).2 fj
            rw [e1] at eq
            rw [e2] at ep
            cases ep
            cases eq
            omega
          · rw [show upd vals i v j = vals j from if_neg hji] at ep
            rw [show upd vals i v k = vals k from if_neg hki] at eq
            rw [hne j hji] at hj2
            rw [hne k hki] at hk2
            exact hp j k hj hk hj2 hk2 hjk fj fk p q ep eq
    rcases hop i h1 o ho with ⟨hgv, hop2⟩ | ⟨g, b, hgb, hgv, hun, hfr0⟩
    case inr =>
      unfold wpOp
      rw [ho]
      simp only []
      have hnot : Region.wanted o (yielded ops (fill (fun k => ds[k]?) vals l a m).tmps) = false := by
        unfold Region.wanted
        rw [hgb]
        simp only []
        rw [hyld g (!b) (hg g b hgb) (hgv vals w' hSw hphi)]
        cases b <;> rfl
      rw [if_neg (by rw [hnot]; decide)]
      exact next _ _ (Below.refl _ _) (hun w' hSw) (fun hf => by rw [hfr0] at hf; cases hf)
    have hwant : Region.wanted o (yielded ops (fill (fun k => ds[k]?) vals l a m).tmps) = true := by
      unfold Region.wanted
      cases hgo : o.guard with
      | none => rfl
      | some gb =>
        obtain ⟨g, b⟩ := gb
        simp only []
        rw [hyld g b (hg g b hgo) (hgv vals w' hSw hphi g b hgo)]
        simp
    have hrun := hop2 vals w' hSw hphi
      (fun a2 w2 => a2.defers = (aF vals).defers ∧ Below w'.heap.size w' w2 ∧ Φ i (a2.eval (.tmp (ds.getD i 0))) w2 ∧ (fresh i = true → ∃ q, a2.eval (.tmp (ds.getD i 0)) = .pointer (some ⟨q, 0, none⟩) ∧ w'.heap.size ≤ q ∧ q < w2.heap.size))
      (fun a2 w2 h1 h2 h3 h4 => ⟨h1, h2, h3, h4⟩)
    unfold wpOp
    rw [ho]
    simp only []
    rw [if_pos hwant]
    refine .inl ?_
    unfold Oper.wp at hrun ⊢
    rw [execOp_congr o hsel heval]
    generalize (execOp (aF vals).eval o).run P w' = r at hrun ⊢
    have hdef : (aF vals).defers = (fill (fun k => ds[k]?) vals l a m).defers := by rw [← haF vals, fillAll_defers, fill_defers]
    have hput : ∀ v, ((aF vals).put o.dst v).eval (.tmp (ds.getD i 0)) = v := fun v => by rw [hdst]; exact put_same _ _ _ hsz
    cases r with
    | ok n w2 =>
      cases n <;> simp only [Oper.upon] at hrun ⊢
      case value v => rw [hput] at hrun; exact next _ _ hrun.2.1 hrun.2.2.1 hrun.2.2.2
      case skip => rw [hput] at hrun; exact next _ _ hrun.2.1 hrun.2.2.1 hrun.2.2.2
      case defer d =>
        exfalso
        have := hrun.1
        rw [put_defers2] at this
        have := congrArg List.length this
        simp at this
      case enter f args =>
        refine Calls.mono hrun fun e w3 he => ?_
        cases e with
        | returned v => simp only at he ⊢; rw [hput] at he; exact next _ _ he.2.1 he.2.2.1 he.2.2.2
        | panicked c => exact hQ _ _ _ _ hdef he
        | outgrown => exact he
      case row r args =>
        refine Rows.mono hrun fun v w3 he => ?_
        rw [hput] at he
        exact next _ _ he.2.1 he.2.2.1 he.2.2.2
    | halt x w2 =>
      cases x <;> simp only [Oper.upon] at hrun ⊢ <;> exact hQ _ _ _ _ hdef hrun
end

end Go.Proofs.Ytmifgblbicnimaa
