/- Part 6 of the texts that the statements of this seat lean on: mathematics, and what functions answer, as contracts over memory; each part says its own conditions. -/
import Derived.Test.YtohciicocaoagaaGreatM5
import Derived.Lib.SliceRun
import Derived.BigQuiet
import Derived.IntWalk
import Derived.Deep.QuietTactic
/- What the reference of layer 7 answers (Add, Mul, Sub, Div), as contracts over memory. Conditions: sizes of at most so many limbs. -/
namespace Go.Proofs.YtohciicocaoagaaGreat
open Go.RowKit Limb
set_option linter.unusedVariables false
section
variable {w : World} {s s' : Bool} {A B A' B' : Option Addr} {n c m d n' c' m' d' : Nat} {xs ys xs' ys' : List Nat} {x y : Int} {o o' : Option Rat} {a b L L' : Nat}
set_option maxHeartbeats 4000000 in
set_option maxRecDepth 100000 in
theorem refQAdd_c (hx : QQ w s A n c xs B m d ys o L) (hx' : QQ w s' A' n' c' xs' B' m' d' ys' o' L') (h1 : L ≤ 1000) (h2 : L' ≤ 1000) (r : Option Rat) (e : Int) (hR : addR o o' = (r, e)) :
    Calls Tryz.prog 11 #[.agg #[.bool s, .slice A n c, .slice B m d], .agg #[.bool s', .slice A' n' c', .slice B' m' d']] w fun ee w' => ∃ A2 n2 c2 B2 m2 d2, ee = .returned (.agg #[.bool (sg (oTop r)), .slice A2 n2 c2, .slice B2 m2 d2, .int .i64 e]) ∧ QT w' A2 n2 c2 B2 m2 d2 r ∧ Below w.heap.size w w' := by
  cases o with
  | none =>
    have hR2 : ((none : Option Rat), (1 : Int)) = (r, e) := hR
    cases hR2
    clear hR
    have b0 := below_new w (.cells #[Value.bool s, Value.slice A n c, Value.slice B m d] 27)
    have b1 := below_new (w.alloc (.cells #[Value.bool s, Value.slice A n c, Value.slice B m d] 27)) (.cells #[Value.bool s', Value.slice A' n' c', Value.slice B' m' d'] 27)
    have b2 := below_new ((w.alloc (.cells #[Value.bool s, Value.slice A n c, Value.slice B m d] 27)).alloc (.cells #[Value.bool s', Value.slice A' n' c', Value.slice B' m' d'] 27)) (.cells #[Value.bool false, Value.slice none 0 0, Value.slice none 0 0, Value.int IntKind.i64 0] 35)
    have HW := Lib.hid (below_two (below_two b0 b1) b2)
    have HQ0 := Lib.hid (hx.below HW.out)
    have HQ1 := Lib.hid (hx'.below HW.out)
    have r0 := ((row3_new w 27 (.bool s) (.slice A n c) (.slice B m d)).below b1).below b2
    have r1 := (row3_new (w.alloc (.cells #[Value.bool s, Value.slice A n c, Value.slice B m d] 27)) 27 (.bool s') (.slice A' n' c') (.slice B' m' d')).below b2
    have rz := row4_new ((w.alloc (.cells #[Value.bool s, Value.slice A n c, Value.slice B m d] 27)).alloc (.cells #[Value.bool s', Value.slice A' n' c', Value.slice B' m' d'] 27)) 35 (.bool false) (.slice none 0 0) (.slice none 0 0) (.int .i64 0)
    simp only [World.size_alloc] at r1 rz
    clear b0 b1 b2 hx hx'
    go_enter Tryz.func11, Tryz.ntmps11
    go_wp2_with fail
    generalize ((w.alloc (.cells #[Value.bool s, Value.slice A n c, Value.slice B m d] 27)).alloc (.cells #[Value.bool s', Value.slice A' n' c', Value.slice B' m' d'] 27)).alloc (.cells #[Value.bool false, Value.slice none 0 0, Value.slice none 0 0, Value.int IntKind.i64 0] 35) = w1 at *
    have HR0 := Lib.hid r0
    have HR1 := Lib.hid r1
    have HZ := Lib.hid rz
    have Hq : RowKit.Hid (w.heap.size ≤ w.heap.size + 1 + 1) := by show _ ≤ _; omega
    clear r0 r1 rz
    refine (refGood_c HQ0.out (by omega) false rfl).mono ?_
    rintro e w2 ⟨rfl, bn⟩
    replace HQ0 := Lib.hid (HQ0.out.below bn)
    replace HR0 := Lib.hid (HR0.out.below bn)
    replace HQ1 := Lib.hid (HQ1.out.below bn)
    replace HR1 := Lib.hid (HR1.out.below bn)
    replace HZ := Lib.hid (HZ.out.below bn)
    replace HW := Lib.hid (below_two HW.out bn)
    clear bn
    have e0 := HZ.out.c0
    have e1 := HZ.out.c1
    have e2 := HZ.out.c2
    have e3 := HZ.out.c3
    have f0 := HZ.out.free 0
    have f1 := HZ.out.free 1
    have f2 := HZ.out.free 2
    have f3 := HZ.out.free 3
    have HF := Lib.hid (HZ.out.fill (.bool false) (.slice none 0 0) (.slice none 0 0) (.int .i64 1))
    have HB := Lib.hid (below_fill4 HW.out Hq.out (.bool false) (.slice none 0 0) (.slice none 0 0) (.int .i64 1))
    go_wp2
    refine bodyPost_ret (results_cell_row rfl _ _ _ 35 #[.bool false, .slice none 0 0, .slice none 0 0, .int .i64 1] (0, 0) _ rfl HF.out Tryz.underlying35 rfl got7_size) rfl ?_
    exact ⟨none, 0, 0, none, 0, 0, rfl, qt_none _ 0 0, HB.out⟩
  | some p =>
    cases o' with
    | none =>
      have hR2 : ((none : Option Rat), (1 : Int)) = (r, e) := hR
      cases hR2
      clear hR
      have b0 := below_new w (.cells #[Value.bool s, Value.slice A n c, Value.slice B m d] 27)
      have b1 := below_new (w.alloc (.cells #[Value.bool s, Value.slice A n c, Value.slice B m d] 27)) (.cells #[Value.bool s', Value.slice A' n' c', Value.slice B' m' d'] 27)
      have b2 := below_new ((w.alloc (.cells #[Value.bool s, Value.slice A n c, Value.slice B m d] 27)).alloc (.cells #[Value.bool s', Value.slice A' n' c', Value.slice B' m' d'] 27)) (.cells #[Value.bool false, Value.slice none 0 0, Value.slice none 0 0, Value.int IntKind.i64 0] 35)
      have HW := Lib.hid (below_two (below_two b0 b1) b2)
      have HQ0 := Lib.hid (hx.below HW.out)
      have HQ1 := Lib.hid (hx'.below HW.out)
      have r0 := ((row3_new w 27 (.bool s) (.slice A n c) (.slice B m d)).below b1).below b2
      have r1 := (row3_new (w.alloc (.cells #[Value.bool s, Value.slice A n c, Value.slice B m d] 27)) 27 (.bool s') (.slice A' n' c') (.slice B' m' d')).below b2
      have rz := row4_new ((w.alloc (.cells #[Value.bool s, Value.slice A n c, Value.slice B m d] 27)).alloc (.cells #[Value.bool s', Value.slice A' n' c', Value.slice B' m' d'] 27)) 35 (.bool false) (.slice none 0 0) (.slice none 0 0) (.int .i64 0)
      simp only [World.size_alloc] at r1 rz
      clear b0 b1 b2 hx hx'
      go_enter Tryz.func11, Tryz.ntmps11
      go_wp2_with fail
      generalize ((w.alloc (.cells #[Value.bool s, Value.slice A n c, Value.slice B m d] 27)).alloc (.cells #[Value.bool s', Value.slice A' n' c', Value.slice B' m' d'] 27)).alloc (.cells #[Value.bool false, Value.slice none 0 0, Value.slice none 0 0, Value.int IntKind.i64 0] 35) = w1 at *
      have HR0 := Lib.hid r0
      have HR1 := Lib.hid r1
      have HZ := Lib.hid rz
      have Hq : RowKit.Hid (w.heap.size ≤ w.heap.size + 1 + 1) := by show _ ≤ _; omega
      clear r0 r1 rz
      refine (refGood_c HQ0.out (by omega) true rfl).mono ?_
      rintro e w2 ⟨rfl, bn⟩
      replace HQ0 := Lib.hid (HQ0.out.below bn)
      replace HR0 := Lib.hid (HR0.out.below bn)
      replace HQ1 := Lib.hid (HQ1.out.below bn)
      replace HR1 := Lib.hid (HR1.out.below bn)
      replace HZ := Lib.hid (HZ.out.below bn)
      replace HW := Lib.hid (below_two HW.out bn)
      clear bn
      have c10 := HR1.out.c0
      have c11 := HR1.out.c1
      have c12 := HR1.out.c2
      go_wp2_with fail
      clear c10 c11 c12
      refine (refGood_c HQ1.out (by omega) false rfl).mono ?_
      rintro e w2 ⟨rfl, bn⟩
      replace HQ0 := Lib.hid (HQ0.out.below bn)
      replace HR0 := Lib.hid (HR0.out.below bn)
      replace HQ1 := Lib.hid (HQ1.out.below bn)
      replace HR1 := Lib.hid (HR1.out.below bn)
      replace HZ := Lib.hid (HZ.out.below bn)
      replace HW := Lib.hid (below_two HW.out bn)
      clear bn
      have e0 := HZ.out.c0
      have e1 := HZ.out.c1
      have e2 := HZ.out.c2
      have e3 := HZ.out.c3
      have f0 := HZ.out.free 0
      have f1 := HZ.out.free 1
      have f2 := HZ.out.free 2
      have f3 := HZ.out.free 3
      have HF := Lib.hid (HZ.out.fill (.bool false) (.slice none 0 0) (.slice none 0 0) (.int .i64 1))
      have HB := Lib.hid (below_fill4 HW.out Hq.out (.bool false) (.slice none 0 0) (.slice none 0 0) (.int .i64 1))
      go_wp2
      refine bodyPost_ret (results_cell_row rfl _ _ _ 35 #[.bool false, .slice none 0 0, .slice none 0 0, .int .i64 1] (0, 0) _ rfl HF.out Tryz.underlying35 rfl got7_size) rfl ?_
      exact ⟨none, 0, 0, none, 0, 0, rfl, qt_none _ 0 0, HB.out⟩
    | some q =>
      obtain ⟨z, hz⟩ : ∃ z : Rat, p + q = z := ⟨_, rfl⟩
      have hL : limR z = (r, e) := by rw [← hz]; exact hR
      clear hR
      have hL2 : (limQ z, limE z) = (r, e) := hL
      cases hL2
      clear hL
      have HM : RowKit.Hid (mkRat (p.num * (q.den : Int) + q.num * (p.den : Int)) (p.den * q.den) = z) := by
        show _ = _
        rw [← hz]; exact (add_mk p q).symm
      clear hz
      have b0 := below_new w (.cells #[Value.bool s, Value.slice A n c, Value.slice B m d] 27)
      have b1 := below_new (w.alloc (.cells #[Value.bool s, Value.slice A n c, Value.slice B m d] 27)) (.cells #[Value.bool s', Value.slice A' n' c', Value.slice B' m' d'] 27)
      have b2 := below_new ((w.alloc (.cells #[Value.bool s, Value.slice A n c, Value.slice B m d] 27)).alloc (.cells #[Value.bool s', Value.slice A' n' c', Value.slice B' m' d'] 27)) (.cells #[Value.bool false, Value.slice none 0 0, Value.slice none 0 0, Value.int IntKind.i64 0] 35)
      have HW := Lib.hid (below_two (below_two b0 b1) b2)
      have HQ0 := Lib.hid (hx.below HW.out)
      have HQ1 := Lib.hid (hx'.below HW.out)
      have r0 := ((row3_new w 27 (.bool s) (.slice A n c) (.slice B m d)).below b1).below b2
      have r1 := (row3_new (w.alloc (.cells #[Value.bool s, Value.slice A n c, Value.slice B m d] 27)) 27 (.bool s') (.slice A' n' c') (.slice B' m' d')).below b2
      have rz := row4_new ((w.alloc (.cells #[Value.bool s, Value.slice A n c, Value.slice B m d] 27)).alloc (.cells #[Value.bool s', Value.slice A' n' c', Value.slice B' m' d'] 27)) 35 (.bool false) (.slice none 0 0) (.slice none 0 0) (.int .i64 0)
      simp only [World.size_alloc] at r1 rz
      clear b0 b1 b2 hx hx'
      go_enter Tryz.func11, Tryz.ntmps11
      go_wp2_with fail
      generalize ((w.alloc (.cells #[Value.bool s, Value.slice A n c, Value.slice B m d] 27)).alloc (.cells #[Value.bool s', Value.slice A' n' c', Value.slice B' m' d'] 27)).alloc (.cells #[Value.bool false, Value.slice none 0 0, Value.slice none 0 0, Value.int IntKind.i64 0] 35) = w1 at *
      have HR0 := Lib.hid r0
      have HR1 := Lib.hid r1
      have HZ := Lib.hid rz
      have Hq : RowKit.Hid (w.heap.size ≤ w.heap.size + 1 + 1) := by show _ ≤ _; omega
      clear r0 r1 rz
      refine (refGood_c HQ0.out (by omega) true rfl).mono ?_
      rintro e w2 ⟨rfl, bn⟩
      replace HQ0 := Lib.hid (HQ0.out.below bn)
      replace HR0 := Lib.hid (HR0.out.below bn)
      replace HQ1 := Lib.hid (HQ1.out.below bn)
      replace HR1 := Lib.hid (HR1.out.below bn)
      replace HZ := Lib.hid (HZ.out.below bn)
      replace HW := Lib.hid (below_two HW.out bn)
      clear bn
      have c10 := HR1.out.c0
      have c11 := HR1.out.c1
      have c12 := HR1.out.c2
      go_wp2_with fail
      clear c10 c11 c12
      refine (refGood_c HQ1.out (by omega) true rfl).mono ?_
      rintro e wS ⟨rfl, bn⟩
      replace HQ0 := Lib.hid (HQ0.out.below bn)
      replace HR0 := Lib.hid (HR0.out.below bn)
      replace HQ1 := Lib.hid (HQ1.out.below bn)
      replace HR1 := Lib.hid (HR1.out.below bn)
      replace HZ := Lib.hid (HZ.out.below bn)
      replace HW := Lib.hid (below_two HW.out bn)
      clear bn
      have HX := Lib.hid HQ0.out.some.2.2.2.2.1
      have HY := Lib.hid HQ0.out.some.2.2.2.2.2.1
      have HX1 := Lib.hid HQ1.out.some.2.2.2.2.1
      have HY1 := Lib.hid HQ1.out.some.2.2.2.2.2.1
      have c00 := HR0.out.c0
      have c01 := HR0.out.c1
      have c02 := HR0.out.c2
      have c10 := HR1.out.c0
      have c11 := HR1.out.c1
      have c12 := HR1.out.c2
      go_wp2_with fail
      clear c00 c01 c02
      clear c10 c11 c12
      refine (refPlus_c HX.out HY.out HX1.out HY1.out (by decide) (by decide) p.den_nz q.den_nz (p.num * (q.den : Int) + q.num * (p.den : Int)) rfl z HM.out).mono ?_
      rintro ee w3 ⟨A8, n8, c8, B8, m8, d8, rfl, h7, h8, bn⟩
      have H7 := Lib.hid h7
      have H8 := Lib.hid h8
      replace HZ := Lib.hid (HZ.out.below bn)
      replace HW := Lib.hid (below_two HW.out bn)
      clear bn h7 h8
      go_wp2_with fail
      refine (refLimit_c H7.out H8.out).mono ?_
      rintro ee w4 ⟨A9, n9, c9, B9, m9, d9, rfl, h9, bn⟩
      have hZ3 := HZ.out.below bn
      have hNo := hZ3.noLimb (by intro v e; cases e) (by intro v e; cases e) (by intro v e; cases e) (by intro v e; cases e)
      have e0 := hZ3.c0
      have e1 := hZ3.c1
      have e2 := hZ3.c2
      have e3 := hZ3.c3
      have f0 := hZ3.free 0
      have f1 := hZ3.free 1
      have f2 := hZ3.free 2
      have f3 := hZ3.free 3
      have HF := Lib.hid (hZ3.fill (.bool (sg (oTop (limQ z)))) (.slice A9 n9 c9) (.slice B9 m9 d9) (.int .i64 (limE z)))
      have HP := Lib.hid (QQ.fillR4 h9 hNo (.bool (sg (oTop (limQ z)))) (.slice A9 n9 c9) (.slice B9 m9 d9) (.int .i64 (limE z)))
      have HB := Lib.hid (below_fill4 (below_two HW.out bn) Hq.out (.bool (sg (oTop (limQ z)))) (.slice A9 n9 c9) (.slice B9 m9 d9) (.int .i64 (limE z)))
      clear hNo bn h9 hZ3
      go_wp2
      refine bodyPost_ret (results_cell_row rfl _ _ _ 35 #[.bool (sg (oTop (limQ z))), .slice A9 n9 c9, .slice B9 m9 d9, .int .i64 (limE z)] (0, 0) _ rfl HF.out Tryz.underlying35 rfl got7_size) rfl ?_
      exact ⟨A9, n9, c9, B9, m9, d9, rfl, HP.out, HB.out⟩

set_option maxHeartbeats 4000000 in
set_option maxRecDepth 100000 in
theorem refQMul_c (hx : QQ w s A n c xs B m d ys o L) (hx' : QQ w s' A' n' c' xs' B' m' d' ys' o' L') (h1 : L ≤ 1000) (h2 : L' ≤ 1000) (r : Option Rat) (e : Int) (hR : mulR o o' = (r, e)) :
    Calls Tryz.prog 13 #[.agg #[.bool s, .slice A n c, .slice B m d], .agg #[.bool s', .slice A' n' c', .slice B' m' d']] w fun ee w' => ∃ A2 n2 c2 B2 m2 d2, ee = .returned (.agg #[.bool (sg (oTop r)), .slice A2 n2 c2, .slice B2 m2 d2, .int .i64 e]) ∧ QT w' A2 n2 c2 B2 m2 d2 r ∧ Below w.heap.size w w' := by
  cases o with
  | none =>
    have hR2 : ((none : Option Rat), (1 : Int)) = (r, e) := hR
    cases hR2
    clear hR
    have b0 := below_new w (.cells #[Value.bool s, Value.slice A n c, Value.slice B m d] 27)
    have b1 := below_new (w.alloc (.cells #[Value.bool s, Value.slice A n c, Value.slice B m d] 27)) (.cells #[Value.bool s', Value.slice A' n' c', Value.slice B' m' d'] 27)
    have b2 := below_new ((w.alloc (.cells #[Value.bool s, Value.slice A n c, Value.slice B m d] 27)).alloc (.cells #[Value.bool s', Value.slice A' n' c', Value.slice B' m' d'] 27)) (.cells #[Value.bool false, Value.slice none 0 0, Value.slice none 0 0, Value.int IntKind.i64 0] 35)
    have HW := Lib.hid (below_two (below_two b0 b1) b2)
    have HQ0 := Lib.hid (hx.below HW.out)
    have HQ1 := Lib.hid (hx'.below HW.out)
    have r0 := ((row3_new w 27 (.bool s) (.slice A n c) (.slice B m d)).below b1).below b2
    have r1 := (row3_new (w.alloc (.cells #[Value.bool s, Value.slice A n c, Value.slice B m d] 27)) 27 (.bool s') (.slice A' n' c') (.slice B' m' d')).below b2
    have rz := row4_new ((w.alloc (.cells #[Value.bool s, Value.slice A n c, Value.slice B m d] 27)).alloc (.cells #[Value.bool s', Value.slice A' n' c', Value.slice B' m' d'] 27)) 35 (.bool false) (.slice none 0 0) (.slice none 0 0) (.int .i64 0)
    simp only [World.size_alloc] at r1 rz
    clear b0 b1 b2 hx hx'
    go_enter Tryz.func13, Tryz.ntmps13
    go_wp2_with fail
    generalize ((w.alloc (.cells #[Value.bool s, Value.slice A n c, Value.slice B m d] 27)).alloc (.cells #[Value.bool s', Value.slice A' n' c', Value.slice B' m' d'] 27)).alloc (.cells #[Value.bool false, Value.slice none 0 0, Value.slice none 0 0, Value.int IntKind.i64 0] 35) = w1 at *
    have HR0 := Lib.hid r0
    have HR1 := Lib.hid r1
    have HZ := Lib.hid rz
    have Hq : RowKit.Hid (w.heap.size ≤ w.heap.size + 1 + 1) := by show _ ≤ _; omega
    clear r0 r1 rz
    refine (refGood_c HQ0.out (by omega) false rfl).mono ?_
    rintro e w2 ⟨rfl, bn⟩
    replace HQ0 := Lib.hid (HQ0.out.below bn)
    replace HR0 := Lib.hid (HR0.out.below bn)
    replace HQ1 := Lib.hid (HQ1.out.below bn)
    replace HR1 := Lib.hid (HR1.out.below bn)
    replace HZ := Lib.hid (HZ.out.below bn)
    replace HW := Lib.hid (below_two HW.out bn)
    clear bn
    have e0 := HZ.out.c0
    have e1 := HZ.out.c1
    have e2 := HZ.out.c2
    have e3 := HZ.out.c3
    have f0 := HZ.out.free 0
    have f1 := HZ.out.free 1
    have f2 := HZ.out.free 2
    have f3 := HZ.out.free 3
    have HF := Lib.hid (HZ.out.fill (.bool false) (.slice none 0 0) (.slice none 0 0) (.int .i64 1))
    have HB := Lib.hid (below_fill4 HW.out Hq.out (.bool false) (.slice none 0 0) (.slice none 0 0) (.int .i64 1))
    go_wp2
    refine bodyPost_ret (results_cell_row rfl _ _ _ 35 #[.bool false, .slice none 0 0, .slice none 0 0, .int .i64 1] (0, 0) _ rfl HF.out Tryz.underlying35 rfl got7_size) rfl ?_
    exact ⟨none, 0, 0, none, 0, 0, rfl, qt_none _ 0 0, HB.out⟩
  | some p =>
    cases o' with
    | none =>
      have hR2 : ((none : Option Rat), (1 : Int)) = (r, e) := hR
      cases hR2
      clear hR
      have b0 := below_new w (.cells #[Value.bool s, Value.slice A n c, Value.slice B m d] 27)
      have b1 := below_new (w.alloc (.cells #[Value.bool s, Value.slice A n c, Value.slice B m d] 27)) (.cells #[Value.bool s', Value.slice A' n' c', Value.slice B' m' d'] 27)
      have b2 := below_new ((w.alloc (.cells #[Value.bool s, Value.slice A n c, Value.slice B m d] 27)).alloc (.cells #[Value.bool s', Value.slice A' n' c', Value.slice B' m' d'] 27)) (.cells #[Value.bool false, Value.slice none 0 0, Value.slice none 0 0, Value.int IntKind.i64 0] 35)
      have HW := Lib.hid (below_two (below_two b0 b1) b2)
      have HQ0 := Lib.hid (hx.below HW.out)
      have HQ1 := Lib.hid (hx'.below HW.out)
      have r0 := ((row3_new w 27 (.bool s) (.slice A n c) (.slice B m d)).below b1).below b2
      have r1 := (row3_new (w.alloc (.cells #[Value.bool s, Value.slice A n c, Value.slice B m d] 27)) 27 (.bool s') (.slice A' n' c') (.slice B' m' d')).below b2
      have rz := row4_new ((w.alloc (.cells #[Value.bool s, Value.slice A n c, Value.slice B m d] 27)).alloc (.cells #[Value.bool s', Value.slice A' n' c', Value.slice B' m' d'] 27)) 35 (.bool false) (.slice none 0 0) (.slice none 0 0) (.int .i64 0)
      simp only [World.size_alloc] at r1 rz
      clear b0 b1 b2 hx hx'
      go_enter Tryz.func13, Tryz.ntmps13
      go_wp2_with fail
      generalize ((w.alloc (.cells #[Value.bool s, Value.slice A n c, Value.slice B m d] 27)).alloc (.cells #[Value.bool s', Value.slice A' n' c', Value.slice B' m' d'] 27)).alloc (.cells #[Value.bool false, Value.slice none 0 0, Value.slice none 0 0, Value.int IntKind.i64 0] 35) = w1 at *
      have HR0 := Lib.hid r0
      have HR1 := Lib.hid r1
      have HZ := Lib.hid rz
      have Hq : RowKit.Hid (w.heap.size ≤ w.heap.size + 1 + 1) := by show _ ≤ _; omega
      clear r0 r1 rz
      refine (refGood_c HQ0.out (by omega) true rfl).mono ?_
      rintro e w2 ⟨rfl, bn⟩
      replace HQ0 := Lib.hid (HQ0.out.below bn)
      replace HR0 := Lib.hid (HR0.out.below bn)
      replace HQ1 := Lib.hid (HQ1.out.below bn)
      replace HR1 := Lib.hid (HR1.out.below bn)
      replace HZ := Lib.hid (HZ.out.below bn)
      replace HW := Lib.hid (below_two HW.out bn)
      clear bn
      have c10 := HR1.out.c0
      have c11 := HR1.out.c1
      have c12 := HR1.out.c2
      go_wp2_with fail
      clear c10 c11 c12
      refine (refGood_c HQ1.out (by omega) false rfl).mono ?_
      rintro e w2 ⟨rfl, bn⟩
      replace HQ0 := Lib.hid (HQ0.out.below bn)
      replace HR0 := Lib.hid (HR0.out.below bn)
      replace HQ1 := Lib.hid (HQ1.out.below bn)
      replace HR1 := Lib.hid (HR1.out.below bn)
      replace HZ := Lib.hid (HZ.out.below bn)
      replace HW := Lib.hid (below_two HW.out bn)
      clear bn
      have e0 := HZ.out.c0
      have e1 := HZ.out.c1
      have e2 := HZ.out.c2
      have e3 := HZ.out.c3
      have f0 := HZ.out.free 0
      have f1 := HZ.out.free 1
      have f2 := HZ.out.free 2
      have f3 := HZ.out.free 3
      have HF := Lib.hid (HZ.out.fill (.bool false) (.slice none 0 0) (.slice none 0 0) (.int .i64 1))
      have HB := Lib.hid (below_fill4 HW.out Hq.out (.bool false) (.slice none 0 0) (.slice none 0 0) (.int .i64 1))
      go_wp2
      refine bodyPost_ret (results_cell_row rfl _ _ _ 35 #[.bool false, .slice none 0 0, .slice none 0 0, .int .i64 1] (0, 0) _ rfl HF.out Tryz.underlying35 rfl got7_size) rfl ?_
      exact ⟨none, 0, 0, none, 0, 0, rfl, qt_none _ 0 0, HB.out⟩
    | some q =>
      obtain ⟨z, hz⟩ : ∃ z : Rat, p * q = z := ⟨_, rfl⟩
      have hL : limR z = (r, e) := by rw [← hz]; exact hR
      clear hR
      have hL2 : (limQ z, limE z) = (r, e) := hL
      cases hL2
      clear hL
      have HM : RowKit.Hid (mkRat (p.num * q.num) (p.den * q.den) = z) := by
        show _ = _
        rw [← hz]; exact (mul_mk p q).symm
      clear hz
      have b0 := below_new w (.cells #[Value.bool s, Value.slice A n c, Value.slice B m d] 27)
      have b1 := below_new (w.alloc (.cells #[Value.bool s, Value.slice A n c, Value.slice B m d] 27)) (.cells #[Value.bool s', Value.slice A' n' c', Value.slice B' m' d'] 27)
      have b2 := below_new ((w.alloc (.cells #[Value.bool s, Value.slice A n c, Value.slice B m d] 27)).alloc (.cells #[Value.bool s', Value.slice A' n' c', Value.slice B' m' d'] 27)) (.cells #[Value.bool false, Value.slice none 0 0, Value.slice none 0 0, Value.int IntKind.i64 0] 35)
      have HW := Lib.hid (below_two (below_two b0 b1) b2)
      have HQ0 := Lib.hid (hx.below HW.out)
      have HQ1 := Lib.hid (hx'.below HW.out)
      have r0 := ((row3_new w 27 (.bool s) (.slice A n c) (.slice B m d)).below b1).below b2
      have r1 := (row3_new (w.alloc (.cells #[Value.bool s, Value.slice A n c, Value.slice B m d] 27)) 27 (.bool s') (.slice A' n' c') (.slice B' m' d')).below b2
      have rz := row4_new ((w.alloc (.cells #[Value.bool s, Value.slice A n c, Value.slice B m d] 27)).alloc (.cells #[Value.bool s', Value.slice A' n' c', Value.slice B' m' d'] 27)) 35 (.bool false) (.slice none 0 0) (.slice none 0 0) (.int .i64 0)
      simp only [World.size_alloc] at r1 rz
      clear b0 b1 b2 hx hx'
      go_enter Tryz.func13, Tryz.ntmps13
      go_wp2_with fail
      generalize ((w.alloc (.cells #[Value.bool s, Value.slice A n c, Value.slice B m d] 27)).alloc (.cells #[Value.bool s', Value.slice A' n' c', Value.slice B' m' d'] 27)).alloc (.cells #[Value.bool false, Value.slice none 0 0, Value.slice none 0 0, Value.int IntKind.i64 0] 35) = w1 at *
      have HR0 := Lib.hid r0
      have HR1 := Lib.hid r1
      have HZ := Lib.hid rz
      have Hq : RowKit.Hid (w.heap.size ≤ w.heap.size + 1 + 1) := by show _ ≤ _; omega
      clear r0 r1 rz
      refine (refGood_c HQ0.out (by omega) true rfl).mono ?_
      rintro e w2 ⟨rfl, bn⟩
      replace HQ0 := Lib.hid (HQ0.out.below bn)
      replace HR0 := Lib.hid (HR0.out.below bn)
      replace HQ1 := Lib.hid (HQ1.out.below bn)
      replace HR1 := Lib.hid (HR1.out.below bn)
      replace HZ := Lib.hid (HZ.out.below bn)
      replace HW := Lib.hid (below_two HW.out bn)
      clear bn
      have c10 := HR1.out.c0
      have c11 := HR1.out.c1
      have c12 := HR1.out.c2
      go_wp2_with fail
      clear c10 c11 c12
      refine (refGood_c HQ1.out (by omega) true rfl).mono ?_
      rintro e wS ⟨rfl, bn⟩
      replace HQ0 := Lib.hid (HQ0.out.below bn)
      replace HR0 := Lib.hid (HR0.out.below bn)
      replace HQ1 := Lib.hid (HQ1.out.below bn)
      replace HR1 := Lib.hid (HR1.out.below bn)
      replace HZ := Lib.hid (HZ.out.below bn)
      replace HW := Lib.hid (below_two HW.out bn)
      clear bn
      have HX := Lib.hid HQ0.out.some.2.2.2.2.1
      have HY := Lib.hid HQ0.out.some.2.2.2.2.2.1
      have HX1 := Lib.hid HQ1.out.some.2.2.2.2.1
      have HY1 := Lib.hid HQ1.out.some.2.2.2.2.2.1
      have c00 := HR0.out.c0
      have c01 := HR0.out.c1
      have c02 := HR0.out.c2
      have c10 := HR1.out.c0
      have c11 := HR1.out.c1
      have c12 := HR1.out.c2
      go_wp2_with fail
      clear c00 c01 c02
      clear c10 c11 c12
      refine (refTimes_c HX.out HY.out HX1.out HY1.out (by decide) (by decide) p.den_nz q.den_nz z HM.out).mono ?_
      rintro ee w3 ⟨A8, n8, c8, B8, m8, d8, rfl, h7, h8, bn⟩
      have H7 := Lib.hid h7
      have H8 := Lib.hid h8
      replace HZ := Lib.hid (HZ.out.below bn)
      replace HW := Lib.hid (below_two HW.out bn)
      clear bn h7 h8
      go_wp2_with fail
      refine (refLimit_c H7.out H8.out).mono ?_
      rintro ee w4 ⟨A9, n9, c9, B9, m9, d9, rfl, h9, bn⟩
      have hZ3 := HZ.out.below bn
      have hNo := hZ3.noLimb (by intro v e; cases e) (by intro v e; cases e) (by intro v e; cases e) (by intro v e; cases e)
      have e0 := hZ3.c0
      have e1 := hZ3.c1
      have e2 := hZ3.c2
      have e3 := hZ3.c3
      have f0 := hZ3.free 0
      have f1 := hZ3.free 1
      have f2 := hZ3.free 2
      have f3 := hZ3.free 3
      have HF := Lib.hid (hZ3.fill (.bool (sg (oTop (limQ z)))) (.slice A9 n9 c9) (.slice B9 m9 d9) (.int .i64 (limE z)))
      have HP := Lib.hid (QQ.fillR4 h9 hNo (.bool (sg (oTop (limQ z)))) (.slice A9 n9 c9) (.slice B9 m9 d9) (.int .i64 (limE z)))
      have HB := Lib.hid (below_fill4 (below_two HW.out bn) Hq.out (.bool (sg (oTop (limQ z)))) (.slice A9 n9 c9) (.slice B9 m9 d9) (.int .i64 (limE z)))
      clear hNo bn h9 hZ3
      go_wp2
      refine bodyPost_ret (results_cell_row rfl _ _ _ 35 #[.bool (sg (oTop (limQ z))), .slice A9 n9 c9, .slice B9 m9 d9, .int .i64 (limE z)] (0, 0) _ rfl HF.out Tryz.underlying35 rfl got7_size) rfl ?_
      exact ⟨A9, n9, c9, B9, m9, d9, rfl, HP.out, HB.out⟩

set_option maxHeartbeats 4000000 in
set_option maxRecDepth 100000 in
theorem refQSub_c (hx : QQ w s A n c xs B m d ys o L) (hx' : QQ w s' A' n' c' xs' B' m' d' ys' o' L') (h1 : L ≤ 1000) (h2 : L' ≤ 1000) (r : Option Rat) (e : Int) (hR : subR o o' = (r, e)) :
    Calls Tryz.prog 12 #[.agg #[.bool s, .slice A n c, .slice B m d], .agg #[.bool s', .slice A' n' c', .slice B' m' d']] w fun ee w' => ∃ A2 n2 c2 B2 m2 d2, ee = .returned (.agg #[.bool (sg (oTop r)), .slice A2 n2 c2, .slice B2 m2 d2, .int .i64 e]) ∧ QT w' A2 n2 c2 B2 m2 d2 r ∧ Below w.heap.size w w' := by
  cases o with
  | none =>
    have hR2 : ((none : Option Rat), (1 : Int)) = (r, e) := hR
    cases hR2
    clear hR
    have b0 := below_new w (.cells #[Value.bool s, Value.slice A n c, Value.slice B m d] 27)
    have b1 := below_new (w.alloc (.cells #[Value.bool s, Value.slice A n c, Value.slice B m d] 27)) (.cells #[Value.bool s', Value.slice A' n' c', Value.slice B' m' d'] 27)
    have b2 := below_new ((w.alloc (.cells #[Value.bool s, Value.slice A n c, Value.slice B m d] 27)).alloc (.cells #[Value.bool s', Value.slice A' n' c', Value.slice B' m' d'] 27)) (.cells #[Value.bool false, Value.slice none 0 0, Value.slice none 0 0, Value.int IntKind.i64 0] 35)
    have HW := Lib.hid (below_two (below_two b0 b1) b2)
    have HQ0 := Lib.hid (hx.below HW.out)
    have HQ1 := Lib.hid (hx'.below HW.out)
    have r0 := ((row3_new w 27 (.bool s) (.slice A n c) (.slice B m d)).below b1).below b2
    have r1 := (row3_new (w.alloc (.cells #[Value.bool s, Value.slice A n c, Value.slice B m d] 27)) 27 (.bool s') (.slice A' n' c') (.slice B' m' d')).below b2
    have rz := row4_new ((w.alloc (.cells #[Value.bool s, Value.slice A n c, Value.slice B m d] 27)).alloc (.cells #[Value.bool s', Value.slice A' n' c', Value.slice B' m' d'] 27)) 35 (.bool false) (.slice none 0 0) (.slice none 0 0) (.int .i64 0)
    simp only [World.size_alloc] at r1 rz
    clear b0 b1 b2 hx hx'
    go_enter Tryz.func12, Tryz.ntmps12
    go_wp2_with fail
    generalize ((w.alloc (.cells #[Value.bool s, Value.slice A n c, Value.slice B m d] 27)).alloc (.cells #[Value.bool s', Value.slice A' n' c', Value.slice B' m' d'] 27)).alloc (.cells #[Value.bool false, Value.slice none 0 0, Value.slice none 0 0, Value.int IntKind.i64 0] 35) = w1 at *
    have HR0 := Lib.hid r0
    have HR1 := Lib.hid r1
    have HZ := Lib.hid rz
    have Hq : RowKit.Hid (w.heap.size ≤ w.heap.size + 1 + 1) := by show _ ≤ _; omega
    clear r0 r1 rz
    refine (refGood_c HQ0.out (by omega) false rfl).mono ?_
    rintro e w2 ⟨rfl, bn⟩
    replace HQ0 := Lib.hid (HQ0.out.below bn)
    replace HR0 := Lib.hid (HR0.out.below bn)
    replace HQ1 := Lib.hid (HQ1.out.below bn)
    replace HR1 := Lib.hid (HR1.out.below bn)
    replace HZ := Lib.hid (HZ.out.below bn)
    replace HW := Lib.hid (below_two HW.out bn)
    clear bn
    have e0 := HZ.out.c0
    have e1 := HZ.out.c1
    have e2 := HZ.out.c2
    have e3 := HZ.out.c3
    have f0 := HZ.out.free 0
    have f1 := HZ.out.free 1
    have f2 := HZ.out.free 2
    have f3 := HZ.out.free 3
    have HF := Lib.hid (HZ.out.fill (.bool false) (.slice none 0 0) (.slice none 0 0) (.int .i64 1))
    have HB := Lib.hid (below_fill4 HW.out Hq.out (.bool false) (.slice none 0 0) (.slice none 0 0) (.int .i64 1))
    go_wp2
    refine bodyPost_ret (results_cell_row rfl _ _ _ 35 #[.bool false, .slice none 0 0, .slice none 0 0, .int .i64 1] (0, 0) _ rfl HF.out Tryz.underlying35 rfl got7_size) rfl ?_
    exact ⟨none, 0, 0, none, 0, 0, rfl, qt_none _ 0 0, HB.out⟩
  | some p =>
    cases o' with
    | none =>
      have hR2 : ((none : Option Rat), (1 : Int)) = (r, e) := hR
      cases hR2
      clear hR
      have b0 := below_new w (.cells #[Value.bool s, Value.slice A n c, Value.slice B m d] 27)
      have b1 := below_new (w.alloc (.cells #[Value.bool s, Value.slice A n c, Value.slice B m d] 27)) (.cells #[Value.bool s', Value.slice A' n' c', Value.slice B' m' d'] 27)
      have b2 := below_new ((w.alloc (.cells #[Value.bool s, Value.slice A n c, Value.slice B m d] 27)).alloc (.cells #[Value.bool s', Value.slice A' n' c', Value.slice B' m' d'] 27)) (.cells #[Value.bool false, Value.slice none 0 0, Value.slice none 0 0, Value.int IntKind.i64 0] 35)
      have HW := Lib.hid (below_two (below_two b0 b1) b2)
      have HQ0 := Lib.hid (hx.below HW.out)
      have HQ1 := Lib.hid (hx'.below HW.out)
      have r0 := ((row3_new w 27 (.bool s) (.slice A n c) (.slice B m d)).below b1).below b2
      have r1 := (row3_new (w.alloc (.cells #[Value.bool s, Value.slice A n c, Value.slice B m d] 27)) 27 (.bool s') (.slice A' n' c') (.slice B' m' d')).below b2
      have rz := row4_new ((w.alloc (.cells #[Value.bool s, Value.slice A n c, Value.slice B m d] 27)).alloc (.cells #[Value.bool s', Value.slice A' n' c', Value.slice B' m' d'] 27)) 35 (.bool false) (.slice none 0 0) (.slice none 0 0) (.int .i64 0)
      simp only [World.size_alloc] at r1 rz
      clear b0 b1 b2 hx hx'
      go_enter Tryz.func12, Tryz.ntmps12
      go_wp2_with fail
      generalize ((w.alloc (.cells #[Value.bool s, Value.slice A n c, Value.slice B m d] 27)).alloc (.cells #[Value.bool s', Value.slice A' n' c', Value.slice B' m' d'] 27)).alloc (.cells #[Value.bool false, Value.slice none 0 0, Value.slice none 0 0, Value.int IntKind.i64 0] 35) = w1 at *
      have HR0 := Lib.hid r0
      have HR1 := Lib.hid r1
      have HZ := Lib.hid rz
      have Hq : RowKit.Hid (w.heap.size ≤ w.heap.size + 1 + 1) := by show _ ≤ _; omega
      clear r0 r1 rz
      refine (refGood_c HQ0.out (by omega) true rfl).mono ?_
      rintro e w2 ⟨rfl, bn⟩
      replace HQ0 := Lib.hid (HQ0.out.below bn)
      replace HR0 := Lib.hid (HR0.out.below bn)
      replace HQ1 := Lib.hid (HQ1.out.below bn)
      replace HR1 := Lib.hid (HR1.out.below bn)
      replace HZ := Lib.hid (HZ.out.below bn)
      replace HW := Lib.hid (below_two HW.out bn)
      clear bn
      have c10 := HR1.out.c0
      have c11 := HR1.out.c1
      have c12 := HR1.out.c2
      go_wp2_with fail
      clear c10 c11 c12
      refine (refGood_c HQ1.out (by omega) false rfl).mono ?_
      rintro e w2 ⟨rfl, bn⟩
      replace HQ0 := Lib.hid (HQ0.out.below bn)
      replace HR0 := Lib.hid (HR0.out.below bn)
      replace HQ1 := Lib.hid (HQ1.out.below bn)
      replace HR1 := Lib.hid (HR1.out.below bn)
      replace HZ := Lib.hid (HZ.out.below bn)
      replace HW := Lib.hid (below_two HW.out bn)
      clear bn
      have e0 := HZ.out.c0
      have e1 := HZ.out.c1
      have e2 := HZ.out.c2
      have e3 := HZ.out.c3
      have f0 := HZ.out.free 0
      have f1 := HZ.out.free 1
      have f2 := HZ.out.free 2
      have f3 := HZ.out.free 3
      have HF := Lib.hid (HZ.out.fill (.bool false) (.slice none 0 0) (.slice none 0 0) (.int .i64 1))
      have HB := Lib.hid (below_fill4 HW.out Hq.out (.bool false) (.slice none 0 0) (.slice none 0 0) (.int .i64 1))
      go_wp2
      refine bodyPost_ret (results_cell_row rfl _ _ _ 35 #[.bool false, .slice none 0 0, .slice none 0 0, .int .i64 1] (0, 0) _ rfl HF.out Tryz.underlying35 rfl got7_size) rfl ?_
      exact ⟨none, 0, 0, none, 0, 0, rfl, qt_none _ 0 0, HB.out⟩
    | some q =>
      obtain ⟨z, hz⟩ : ∃ z : Rat, p - q = z := ⟨_, rfl⟩
      have hL : limR z = (r, e) := by rw [← hz]; exact hR
      clear hR
      have hL2 : (limQ z, limE z) = (r, e) := hL
      cases hL2
      clear hL
      have HM : RowKit.Hid (mkRat (p.num * ((-q).den : Int) + (-q).num * (p.den : Int)) (p.den * (-q).den) = z) := by
        show _ = _
        rw [← hz]; exact (add_mk p (-q)).symm.trans (Rat.sub_eq_add_neg p q).symm
      clear hz
      have b0 := below_new w (.cells #[Value.bool s, Value.slice A n c, Value.slice B m d] 27)
      have b1 := below_new (w.alloc (.cells #[Value.bool s, Value.slice A n c, Value.slice B m d] 27)) (.cells #[Value.bool s', Value.slice A' n' c', Value.slice B' m' d'] 27)
      have b2 := below_new ((w.alloc (.cells #[Value.bool s, Value.slice A n c, Value.slice B m d] 27)).alloc (.cells #[Value.bool s', Value.slice A' n' c', Value.slice B' m' d'] 27)) (.cells #[Value.bool false, Value.slice none 0 0, Value.slice none 0 0, Value.int IntKind.i64 0] 35)
      have HW := Lib.hid (below_two (below_two b0 b1) b2)
      have HQ0 := Lib.hid (hx.below HW.out)
      have HQ1 := Lib.hid (hx'.below HW.out)
      have r0 := ((row3_new w 27 (.bool s) (.slice A n c) (.slice B m d)).below b1).below b2
      have r1 := (row3_new (w.alloc (.cells #[Value.bool s, Value.slice A n c, Value.slice B m d] 27)) 27 (.bool s') (.slice A' n' c') (.slice B' m' d')).below b2
      have rz := row4_new ((w.alloc (.cells #[Value.bool s, Value.slice A n c, Value.slice B m d] 27)).alloc (.cells #[Value.bool s', Value.slice A' n' c', Value.slice B' m' d'] 27)) 35 (.bool false) (.slice none 0 0) (.slice none 0 0) (.int .i64 0)
      simp only [World.size_alloc] at r1 rz
      clear b0 b1 b2 hx hx'
      go_enter Tryz.func12, Tryz.ntmps12
      go_wp2_with fail
      generalize ((w.alloc (.cells #[Value.bool s, Value.slice A n c, Value.slice B m d] 27)).alloc (.cells #[Value.bool s', Value.slice A' n' c', Value.slice B' m' d'] 27)).alloc (.cells #[Value.bool false, Value.slice none 0 0, Value.slice none 0 0, Value.int IntKind.i64 0] 35) = w1 at *
      have HR0 := Lib.hid r0
      have HR1 := Lib.hid r1
      have HZ := Lib.hid rz
      have Hq : RowKit.Hid (w.heap.size ≤ w.heap.size + 1 + 1) := by show _ ≤ _; omega
      clear r0 r1 rz
      refine (refGood_c HQ0.out (by omega) true rfl).mono ?_
      rintro e w2 ⟨rfl, bn⟩
      replace HQ0 := Lib.hid (HQ0.out.below bn)
      replace HR0 := Lib.hid (HR0.out.below bn)
      replace HQ1 := Lib.hid (HQ1.out.below bn)
      replace HR1 := Lib.hid (HR1.out.below bn)
      replace HZ := Lib.hid (HZ.out.below bn)
      replace HW := Lib.hid (below_two HW.out bn)
      clear bn
      have c10 := HR1.out.c0
      have c11 := HR1.out.c1
      have c12 := HR1.out.c2
      go_wp2_with fail
      clear c10 c11 c12
      refine (refGood_c HQ1.out (by omega) true rfl).mono ?_
      rintro e wS ⟨rfl, bn⟩
      replace HQ0 := Lib.hid (HQ0.out.below bn)
      replace HR0 := Lib.hid (HR0.out.below bn)
      replace HQ1 := Lib.hid (HQ1.out.below bn)
      replace HR1 := Lib.hid (HR1.out.below bn)
      replace HZ := Lib.hid (HZ.out.below bn)
      replace HW := Lib.hid (below_two HW.out bn)
      clear bn
      have HX := Lib.hid HQ0.out.some.2.2.2.2.1
      have HY := Lib.hid HQ0.out.some.2.2.2.2.2.1
      have HX1 := Lib.hid HQ1.out.some.2.2.2.2.1
      have HY1 := Lib.hid HQ1.out.some.2.2.2.2.2.1
      go_wp2_with fail
      refine region_free 5 1 [14, 15, 16, 17, 18] ?aF13 (fun wx => Below wS.heap.size wS wx) (fun k vv wx => match k with
          | 0 => vv = .agg #[.bool s, .slice A n c, .slice B m d]
          | 1 => vv = .agg #[.bool s', .slice A' n' c', .slice B' m' d']
          | 2 => ∃ (e0 : Option Addr) (e1 : Nat) (e2 : Nat) (e3 : Option Addr) (e4 : Nat) (e5 : Nat), vv = .agg #[.bool (sg (oTop (some (-q)))), .slice e0 e1 e2, .slice e3 e4 e5] ∧ QT wx e0 e1 e2 e3 e4 e5 (some (-q))
          | 3 => ∃ (e0 : Option Addr) (e1 : Nat) (e2 : Nat) (e3 : Option Addr) (e4 : Nat) (e5 : Nat), vv = .agg #[.bool (sg z.num), .slice e0 e1 e2, .slice e3 e4 e5] ∧ ZZ wx (sg z.num) e0 e1 e2 (limbs z.num.natAbs) z.num (64 + 64 + (64 + 64) + 1) ∧ NN wx e3 e4 e5 (limbs z.den) z.den (64 + 64)
          | _ => ∃ (e0 : Option Addr) (e1 : Nat) (e2 : Nat) (e3 : Option Addr) (e4 : Nat) (e5 : Nat), vv = .agg #[.bool (sg (oTop (limQ z))), .slice e0 e1 e2, .slice e3 e4 e5, .int .i64 (limE z)] ∧ QT wx e0 e1 e2 e3 e4 e5 (limQ z))
        (fun k => false) (by kernel_rfl) ?haF13 rfl (by kernel_rfl) (by kernel_rfl) (fun _ _ _ _ _ h => h) ?hSb13 ?hPb13 ?hS13 ?hop13 ?hfin13
      case haF13 =>
        intro vals
        simp only [fillAll, List.getElem?_cons_zero, List.getElem?_cons_succ, Act.put, List.setIfInBounds_toArray, List.set_cons_zero, List.set_cons_succ]
        exact rfl
      case hSb13 => exact fun wx w2 hb hS => below_two hS hb
      case hPb13 =>
        intro k v wa wb hb h
        match k, h with
        | 0, h => exact h
        | 1, h => exact h
        | 2, ⟨e0, e1, e2, e3, e4, e5, h1, g0⟩ => exact ⟨e0, e1, e2, e3, e4, e5, h1, g0.below hb⟩
        | 3, ⟨e0, e1, e2, e3, e4, e5, h1, g0, g1⟩ => exact ⟨e0, e1, e2, e3, e4, e5, h1, g0.below hb, g1.below hb⟩
        | _ + 4, ⟨e0, e1, e2, e3, e4, e5, h1, g0⟩ => exact ⟨e0, e1, e2, e3, e4, e5, h1, g0.below hb⟩
      case hS13 => exact (Below.refl _ _).drew
      case hop13 =>
        refine .cons (k := 0) ?_ (.cons (k := 1) ?_ (.cons (k := 2) ?_ (.cons (k := 3) ?_ (.cons (k := 4) ?_ (.nil)))))
        all_goals intro vals wr hS hd KC hK
        all_goals (show Oper.wp _ _ _ _ _ _; dsimp only)
        · have z0 := (HR0.out.below hS).c0
          have z1 := (HR0.out.below hS).c1
          have z2 := (HR0.out.below hS).c2
          go_simp
          refine hK _ _ rfl (Below.refl _ _) (by first | rfl | simp) (fun h => by cases h)
        · have z0 := (HR1.out.below hS).c0
          have z1 := (HR1.out.below hS).c1
          have z2 := (HR1.out.below hS).c2
          go_simp
          refine hK _ _ rfl (Below.refl _ _) (by first | rfl | simp) (fun h => by cases h)
        · have d1 : vals 1 = _ := hd 1 (by decide +kernel)
          rw [d1]
          go_simp
          go_at_call 23
          with_reducible refine (refQNeg_c (HQ1.out.below hS) (by omega)).mono ?_
          rintro e w2 ⟨r0, r1, r2, r3, r4, r5, rfl, f0, bn_r⟩
          refine hK _ _ rfl bn_r ⟨_, _, _, _, _, _, rfl, f0⟩ (fun h => by cases h)
        · have d0 : vals 0 = _ := hd 0 (by decide +kernel)
          obtain ⟨A_2_0, n_2_1, n_2_2, A_2_3, n_2_4, n_2_5, d2, h_2_0⟩ := hd 2 (by decide +kernel)
          rw [d0, d2]
          go_simp
          go_at_call 38
          with_reducible refine (refPlus_c (HX.out.below hS) (HY.out.below hS) h_2_0.some.2.2.2.2.1 h_2_0.some.2.2.2.2.2.1 (by decide) (by decide) p.den_nz (-q).den_nz (p.num * ((-q).den : Int) + (-q).num * (p.den : Int)) rfl z HM.out).mono ?_
          rintro e w2 ⟨r0, r1, r2, r3, r4, r5, rfl, f0, f1, bn_r⟩
          refine hK _ _ rfl bn_r ⟨_, _, _, _, _, _, rfl, f0, f1⟩ (fun h => by cases h)
        · obtain ⟨A_3_0, n_3_1, n_3_2, A_3_3, n_3_4, n_3_5, d3, h_3_0, h_3_1⟩ := hd 3 (by decide +kernel)
          rw [d3]
          go_simp
          go_at_call 37
          with_reducible refine (refLimit_c h_3_0 h_3_1).mono ?_
          rintro e w2 ⟨r0, r1, r2, r3, r4, r5, rfl, f0, bn_r⟩
          refine hK _ _ rfl bn_r ⟨_, _, _, _, _, _, rfl, f0⟩ (fun h => by cases h)
      case hfin13 =>
        intro vals wr hS hP hne
        obtain ⟨A_4_0, n_4_1, n_4_2, A_4_3, n_4_4, n_4_5, ez_4, h_4_0⟩ := hP 4 (by decide)
        have hZ3 := HZ.out.below hS
        have hNo := hZ3.noLimb (by intro v e; cases e) (by intro v e; cases e) (by intro v e; cases e) (by intro v e; cases e)
        have e0 := hZ3.c0
        have e1 := hZ3.c1
        have e2 := hZ3.c2
        have e3 := hZ3.c3
        have f0 := hZ3.free 0
        have f1 := hZ3.free 1
        have f2 := hZ3.free 2
        have f3 := hZ3.free 3
        have HF := Lib.hid (hZ3.fill (.bool (sg (oTop (limQ z)))) (.slice A_4_0 n_4_1 n_4_2) (.slice A_4_3 n_4_4 n_4_5) (.int .i64 (limE z)))
        have HP := Lib.hid (QQ.fillR4 h_4_0 hNo (.bool (sg (oTop (limQ z)))) (.slice A_4_0 n_4_1 n_4_2) (.slice A_4_3 n_4_4 n_4_5) (.int .i64 (limE z)))
        have HB := Lib.hid (below_fill4 (below_two HW.out hS) Hq.out (.bool (sg (oTop (limQ z)))) (.slice A_4_0 n_4_1 n_4_2) (.slice A_4_3 n_4_4 n_4_5) (.int .i64 (limE z)))
        try dsimp only
        rw [ez_4]
        refine wpAny_ready (rs := [5]) (by kernel_rfl) (by simp) (AllReady.cons rfl (fun KC hK => ?_) AllReady.nil)
        go_simp
        refine hK _ _ ?_
        clear hK KC
        refine wpAny_done (by kernel_rfl) ?_ _
        go_wp2
        refine bodyPost_ret (results_cell_row rfl _ _ _ 35 #[.bool (sg (oTop (limQ z))), .slice A_4_0 n_4_1 n_4_2, .slice A_4_3 n_4_4 n_4_5, .int .i64 (limE z)] (0, 0) _ rfl HF.out Tryz.underlying35 rfl got7_size) rfl ?_
        exact ⟨A_4_0, n_4_1, n_4_2, A_4_3, n_4_4, n_4_5, rfl, HP.out, HB.out⟩

set_option maxHeartbeats 4000000 in
set_option maxRecDepth 100000 in
theorem refQDiv_c (hx : QQ w s A n c xs B m d ys o L) (hx' : QQ w s' A' n' c' xs' B' m' d' ys' o' L') (h1 : L ≤ 1000) (h2 : L' ≤ 1000) (r : Option Rat) (e : Int) (hR : divR o o' = (r, e)) :
    Calls Tryz.prog 14 #[.agg #[.bool s, .slice A n c, .slice B m d], .agg #[.bool s', .slice A' n' c', .slice B' m' d']] w fun ee w' => ∃ A2 n2 c2 B2 m2 d2, ee = .returned (.agg #[.bool (sg (oTop r)), .slice A2 n2 c2, .slice B2 m2 d2, .int .i64 e]) ∧ QT w' A2 n2 c2 B2 m2 d2 r ∧ Below w.heap.size w w' := by
  cases o with
  | none =>
    have hR2 : ((none : Option Rat), (1 : Int)) = (r, e) := hR
    cases hR2
    clear hR
    have b0 := below_new w (.cells #[Value.bool s, Value.slice A n c, Value.slice B m d] 27)
    have b1 := below_new (w.alloc (.cells #[Value.bool s, Value.slice A n c, Value.slice B m d] 27)) (.cells #[Value.bool s', Value.slice A' n' c', Value.slice B' m' d'] 27)
    have b2 := below_new ((w.alloc (.cells #[Value.bool s, Value.slice A n c, Value.slice B m d] 27)).alloc (.cells #[Value.bool s', Value.slice A' n' c', Value.slice B' m' d'] 27)) (.cells #[Value.bool false, Value.slice none 0 0, Value.slice none 0 0, Value.int IntKind.i64 0] 35)
    have HW := Lib.hid (below_two (below_two b0 b1) b2)
    have HQ0 := Lib.hid (hx.below HW.out)
    have HQ1 := Lib.hid (hx'.below HW.out)
    have r0 := ((row3_new w 27 (.bool s) (.slice A n c) (.slice B m d)).below b1).below b2
    have r1 := (row3_new (w.alloc (.cells #[Value.bool s, Value.slice A n c, Value.slice B m d] 27)) 27 (.bool s') (.slice A' n' c') (.slice B' m' d')).below b2
    have rz := row4_new ((w.alloc (.cells #[Value.bool s, Value.slice A n c, Value.slice B m d] 27)).alloc (.cells #[Value.bool s', Value.slice A' n' c', Value.slice B' m' d'] 27)) 35 (.bool false) (.slice none 0 0) (.slice none 0 0) (.int .i64 0)
    simp only [World.size_alloc] at r1 rz
    clear b0 b1 b2 hx hx'
    go_enter Tryz.func14, Tryz.ntmps14
    go_wp2_with fail
    generalize ((w.alloc (.cells #[Value.bool s, Value.slice A n c, Value.slice B m d] 27)).alloc (.cells #[Value.bool s', Value.slice A' n' c', Value.slice B' m' d'] 27)).alloc (.cells #[Value.bool false, Value.slice none 0 0, Value.slice none 0 0, Value.int IntKind.i64 0] 35) = w1 at *
    have HR0 := Lib.hid r0
    have HR1 := Lib.hid r1
    have HZ := Lib.hid rz
    have Hq : RowKit.Hid (w.heap.size ≤ w.heap.size + 1 + 1) := by show _ ≤ _; omega
    clear r0 r1 rz
    refine (refGood_c HQ0.out (by omega) false rfl).mono ?_
    rintro e w2 ⟨rfl, bn⟩
    replace HQ0 := Lib.hid (HQ0.out.below bn)
    replace HR0 := Lib.hid (HR0.out.below bn)
    replace HQ1 := Lib.hid (HQ1.out.below bn)
    replace HR1 := Lib.hid (HR1.out.below bn)
    replace HZ := Lib.hid (HZ.out.below bn)
    replace HW := Lib.hid (below_two HW.out bn)
    clear bn
    have e0 := HZ.out.c0
    have e1 := HZ.out.c1
    have e2 := HZ.out.c2
    have e3 := HZ.out.c3
    have f0 := HZ.out.free 0
    have f1 := HZ.out.free 1
    have f2 := HZ.out.free 2
    have f3 := HZ.out.free 3
    have HF := Lib.hid (HZ.out.fill (.bool false) (.slice none 0 0) (.slice none 0 0) (.int .i64 1))
    have HB := Lib.hid (below_fill4 HW.out Hq.out (.bool false) (.slice none 0 0) (.slice none 0 0) (.int .i64 1))
    go_wp2
    refine bodyPost_ret (results_cell_row rfl _ _ _ 35 #[.bool false, .slice none 0 0, .slice none 0 0, .int .i64 1] (0, 0) _ rfl HF.out Tryz.underlying35 rfl got7_size) rfl ?_
    exact ⟨none, 0, 0, none, 0, 0, rfl, qt_none _ 0 0, HB.out⟩
  | some p =>
    cases o' with
    | none =>
      have hR2 : ((none : Option Rat), (1 : Int)) = (r, e) := hR
      cases hR2
      clear hR
      have b0 := below_new w (.cells #[Value.bool s, Value.slice A n c, Value.slice B m d] 27)
      have b1 := below_new (w.alloc (.cells #[Value.bool s, Value.slice A n c, Value.slice B m d] 27)) (.cells #[Value.bool s', Value.slice A' n' c', Value.slice B' m' d'] 27)
      have b2 := below_new ((w.alloc (.cells #[Value.bool s, Value.slice A n c, Value.slice B m d] 27)).alloc (.cells #[Value.bool s', Value.slice A' n' c', Value.slice B' m' d'] 27)) (.cells #[Value.bool false, Value.slice none 0 0, Value.slice none 0 0, Value.int IntKind.i64 0] 35)
      have HW := Lib.hid (below_two (below_two b0 b1) b2)
      have HQ0 := Lib.hid (hx.below HW.out)
      have HQ1 := Lib.hid (hx'.below HW.out)
      have r0 := ((row3_new w 27 (.bool s) (.slice A n c) (.slice B m d)).below b1).below b2
      have r1 := (row3_new (w.alloc (.cells #[Value.bool s, Value.slice A n c, Value.slice B m d] 27)) 27 (.bool s') (.slice A' n' c') (.slice B' m' d')).below b2
      have rz := row4_new ((w.alloc (.cells #[Value.bool s, Value.slice A n c, Value.slice B m d] 27)).alloc (.cells #[Value.bool s', Value.slice A' n' c', Value.slice B' m' d'] 27)) 35 (.bool false) (.slice none 0 0) (.slice none 0 0) (.int .i64 0)
      simp only [World.size_alloc] at r1 rz
      clear b0 b1 b2 hx hx'
      go_enter Tryz.func14, Tryz.ntmps14
      go_wp2_with fail
      generalize ((w.alloc (.cells #[Value.bool s, Value.slice A n c, Value.slice B m d] 27)).alloc (.cells #[Value.bool s', Value.slice A' n' c', Value.slice B' m' d'] 27)).alloc (.cells #[Value.bool false, Value.slice none 0 0, Value.slice none 0 0, Value.int IntKind.i64 0] 35) = w1 at *
      have HR0 := Lib.hid r0
      have HR1 := Lib.hid r1
      have HZ := Lib.hid rz
      have Hq : RowKit.Hid (w.heap.size ≤ w.heap.size + 1 + 1) := by show _ ≤ _; omega
      clear r0 r1 rz
      refine (refGood_c HQ0.out (by omega) true rfl).mono ?_
      rintro e w2 ⟨rfl, bn⟩
      replace HQ0 := Lib.hid (HQ0.out.below bn)
      replace HR0 := Lib.hid (HR0.out.below bn)
      replace HQ1 := Lib.hid (HQ1.out.below bn)
      replace HR1 := Lib.hid (HR1.out.below bn)
      replace HZ := Lib.hid (HZ.out.below bn)
      replace HW := Lib.hid (below_two HW.out bn)
      clear bn
      have c10 := HR1.out.c0
      have c11 := HR1.out.c1
      have c12 := HR1.out.c2
      go_wp2_with fail
      clear c10 c11 c12
      refine (refGood_c HQ1.out (by omega) false rfl).mono ?_
      rintro e w2 ⟨rfl, bn⟩
      replace HQ0 := Lib.hid (HQ0.out.below bn)
      replace HR0 := Lib.hid (HR0.out.below bn)
      replace HQ1 := Lib.hid (HQ1.out.below bn)
      replace HR1 := Lib.hid (HR1.out.below bn)
      replace HZ := Lib.hid (HZ.out.below bn)
      replace HW := Lib.hid (below_two HW.out bn)
      clear bn
      have e0 := HZ.out.c0
      have e1 := HZ.out.c1
      have e2 := HZ.out.c2
      have e3 := HZ.out.c3
      have f0 := HZ.out.free 0
      have f1 := HZ.out.free 1
      have f2 := HZ.out.free 2
      have f3 := HZ.out.free 3
      have HF := Lib.hid (HZ.out.fill (.bool false) (.slice none 0 0) (.slice none 0 0) (.int .i64 1))
      have HB := Lib.hid (below_fill4 HW.out Hq.out (.bool false) (.slice none 0 0) (.slice none 0 0) (.int .i64 1))
      go_wp2
      refine bodyPost_ret (results_cell_row rfl _ _ _ 35 #[.bool false, .slice none 0 0, .slice none 0 0, .int .i64 1] (0, 0) _ rfl HF.out Tryz.underlying35 rfl got7_size) rfl ?_
      exact ⟨none, 0, 0, none, 0, 0, rfl, qt_none _ 0 0, HB.out⟩
    | some q =>
      by_cases h0 : q.num = 0
      · obtain ⟨rfl, rfl⟩ : r = none ∧ e = 3 := by
          have h2 : (if q.num = 0 then ((none : Option Rat), (3 : Int)) else limR (p / q)) = (r, e) := hR
          rw [if_pos h0] at h2
          cases h2; exact ⟨rfl, rfl⟩
        clear hR
        have n0 : ((n' : Int) == 0) = true := by
          rw [beq_iff_eq]
          have hl := hx'.some.2.2.2.2.1.nn.isN.len
          rw [hx'.some.2.1, h0] at hl
          have hl2 : (limbs (0 : Int).natAbs).length = 0 := by rw [show (0 : Int).natAbs = 0 from rfl, limbs_zero]; rfl
          omega
        clear h0
        have b0 := below_new w (.cells #[Value.bool s, Value.slice A n c, Value.slice B m d] 27)
        have b1 := below_new (w.alloc (.cells #[Value.bool s, Value.slice A n c, Value.slice B m d] 27)) (.cells #[Value.bool s', Value.slice A' n' c', Value.slice B' m' d'] 27)
        have b2 := below_new ((w.alloc (.cells #[Value.bool s, Value.slice A n c, Value.slice B m d] 27)).alloc (.cells #[Value.bool s', Value.slice A' n' c', Value.slice B' m' d'] 27)) (.cells #[Value.bool false, Value.slice none 0 0, Value.slice none 0 0, Value.int IntKind.i64 0] 35)
        have HW := Lib.hid (below_two (below_two b0 b1) b2)
        have HQ0 := Lib.hid (hx.below HW.out)
        have HQ1 := Lib.hid (hx'.below HW.out)
        have r0 := ((row3_new w 27 (.bool s) (.slice A n c) (.slice B m d)).below b1).below b2
        have r1 := (row3_new (w.alloc (.cells #[Value.bool s, Value.slice A n c, Value.slice B m d] 27)) 27 (.bool s') (.slice A' n' c') (.slice B' m' d')).below b2
        have rz := row4_new ((w.alloc (.cells #[Value.bool s, Value.slice A n c, Value.slice B m d] 27)).alloc (.cells #[Value.bool s', Value.slice A' n' c', Value.slice B' m' d'] 27)) 35 (.bool false) (.slice none 0 0) (.slice none 0 0) (.int .i64 0)
        simp only [World.size_alloc] at r1 rz
        clear b0 b1 b2 hx hx'
        go_enter Tryz.func14, Tryz.ntmps14
        go_wp2_with fail
        generalize ((w.alloc (.cells #[Value.bool s, Value.slice A n c, Value.slice B m d] 27)).alloc (.cells #[Value.bool s', Value.slice A' n' c', Value.slice B' m' d'] 27)).alloc (.cells #[Value.bool false, Value.slice none 0 0, Value.slice none 0 0, Value.int IntKind.i64 0] 35) = w1 at *
        have HR0 := Lib.hid r0
        have HR1 := Lib.hid r1
        have HZ := Lib.hid rz
        have Hq : RowKit.Hid (w.heap.size ≤ w.heap.size + 1 + 1) := by show _ ≤ _; omega
        clear r0 r1 rz
        refine (refGood_c HQ0.out (by omega) true rfl).mono ?_
        rintro e w2 ⟨rfl, bn⟩
        replace HQ0 := Lib.hid (HQ0.out.below bn)
        replace HR0 := Lib.hid (HR0.out.below bn)
        replace HQ1 := Lib.hid (HQ1.out.below bn)
        replace HR1 := Lib.hid (HR1.out.below bn)
        replace HZ := Lib.hid (HZ.out.below bn)
        replace HW := Lib.hid (below_two HW.out bn)
        clear bn
        have c10 := HR1.out.c0
        have c11 := HR1.out.c1
        have c12 := HR1.out.c2
        go_wp2_with fail
        clear c10 c11 c12
        refine (refGood_c HQ1.out (by omega) true rfl).mono ?_
        rintro e w2 ⟨rfl, bn⟩
        replace HQ0 := Lib.hid (HQ0.out.below bn)
        replace HR0 := Lib.hid (HR0.out.below bn)
        replace HQ1 := Lib.hid (HQ1.out.below bn)
        replace HR1 := Lib.hid (HR1.out.below bn)
        replace HZ := Lib.hid (HZ.out.below bn)
        replace HW := Lib.hid (below_two HW.out bn)
        clear bn
        have c10 := HR1.out.c0
        have c11 := HR1.out.c1
        have c12 := HR1.out.c2
        have e0 := HZ.out.c0
        have e1 := HZ.out.c1
        have e2 := HZ.out.c2
        have e3 := HZ.out.c3
        have f0 := HZ.out.free 0
        have f1 := HZ.out.free 1
        have f2 := HZ.out.free 2
        have f3 := HZ.out.free 3
        have HF := Lib.hid (HZ.out.fill (.bool false) (.slice none 0 0) (.slice none 0 0) (.int .i64 3))
        have HB := Lib.hid (below_fill4 HW.out Hq.out (.bool false) (.slice none 0 0) (.slice none 0 0) (.int .i64 3))
        go_wp2
        refine bodyPost_ret (results_cell_row rfl _ _ _ 35 #[.bool false, .slice none 0 0, .slice none 0 0, .int .i64 3] (0, 0) _ rfl HF.out Tryz.underlying35 rfl got7_size) rfl ?_
        exact ⟨none, 0, 0, none, 0, 0, rfl, qt_none _ 0 0, HB.out⟩
      · have hR0 : limR (p / q) = (r, e) := by
          have h2 : (if q.num = 0 then ((none : Option Rat), (3 : Int)) else limR (p / q)) = (r, e) := hR
          rwa [if_neg h0] at h2
        clear hR
        have hR := hR0
        clear hR0
        obtain ⟨z, hz⟩ : ∃ z : Rat, p / q = z := ⟨_, rfl⟩
        have hL : limR z = (r, e) := by rw [← hz]; exact hR
        clear hR
        have hL2 : (limQ z, limE z) = (r, e) := hL
        cases hL2
        clear hL
        have HM : RowKit.Hid (mkRat (p.num * zOf (sg q.num) q.den) (p.den * q.num.natAbs) = z) := by
          show _ = _
          rw [← hz]; exact (div_mk h0).symm
        clear hz
        have n0 : ((n' : Int) == 0) = false := by
          rw [beq_eq_false_iff_ne]
          intro h
          have hl := hx'.some.2.2.2.2.1.nn.isN.len
          rw [hx'.some.2.1] at hl
          have hl2 := len_limbs_zero.1 (hl.trans (by omega))
          omega
        have HN0 : RowKit.Hid (q.num.natAbs ≠ 0) := by show _ ≠ _; omega
        have HSG := Lib.hid hx'.some.1
        clear h0
        have b0 := below_new w (.cells #[Value.bool s, Value.slice A n c, Value.slice B m d] 27)
        have b1 := below_new (w.alloc (.cells #[Value.bool s, Value.slice A n c, Value.slice B m d] 27)) (.cells #[Value.bool s', Value.slice A' n' c', Value.slice B' m' d'] 27)
        have b2 := below_new ((w.alloc (.cells #[Value.bool s, Value.slice A n c, Value.slice B m d] 27)).alloc (.cells #[Value.bool s', Value.slice A' n' c', Value.slice B' m' d'] 27)) (.cells #[Value.bool false, Value.slice none 0 0, Value.slice none 0 0, Value.int IntKind.i64 0] 35)
        have HW := Lib.hid (below_two (below_two b0 b1) b2)
        have HQ0 := Lib.hid (hx.below HW.out)
        have HQ1 := Lib.hid (hx'.below HW.out)
        have r0 := ((row3_new w 27 (.bool s) (.slice A n c) (.slice B m d)).below b1).below b2
        have r1 := (row3_new (w.alloc (.cells #[Value.bool s, Value.slice A n c, Value.slice B m d] 27)) 27 (.bool s') (.slice A' n' c') (.slice B' m' d')).below b2
        have rz := row4_new ((w.alloc (.cells #[Value.bool s, Value.slice A n c, Value.slice B m d] 27)).alloc (.cells #[Value.bool s', Value.slice A' n' c', Value.slice B' m' d'] 27)) 35 (.bool false) (.slice none 0 0) (.slice none 0 0) (.int .i64 0)
        simp only [World.size_alloc] at r1 rz
        clear b0 b1 b2 hx hx'
        go_enter Tryz.func14, Tryz.ntmps14
        go_wp2_with fail
        generalize ((w.alloc (.cells #[Value.bool s, Value.slice A n c, Value.slice B m d] 27)).alloc (.cells #[Value.bool s', Value.slice A' n' c', Value.slice B' m' d'] 27)).alloc (.cells #[Value.bool false, Value.slice none 0 0, Value.slice none 0 0, Value.int IntKind.i64 0] 35) = w1 at *
        have HR0 := Lib.hid r0
        have HR1 := Lib.hid r1
        have HZ := Lib.hid rz
        have Hq : RowKit.Hid (w.heap.size ≤ w.heap.size + 1 + 1) := by show _ ≤ _; omega
        clear r0 r1 rz
        refine (refGood_c HQ0.out (by omega) true rfl).mono ?_
        rintro e w2 ⟨rfl, bn⟩
        replace HQ0 := Lib.hid (HQ0.out.below bn)
        replace HR0 := Lib.hid (HR0.out.below bn)
        replace HQ1 := Lib.hid (HQ1.out.below bn)
        replace HR1 := Lib.hid (HR1.out.below bn)
        replace HZ := Lib.hid (HZ.out.below bn)
        replace HW := Lib.hid (below_two HW.out bn)
        clear bn
        have c10 := HR1.out.c0
        have c11 := HR1.out.c1
        have c12 := HR1.out.c2
        go_wp2_with fail
        clear c10 c11 c12
        refine (refGood_c HQ1.out (by omega) true rfl).mono ?_
        rintro e wS ⟨rfl, bn⟩
        replace HQ0 := Lib.hid (HQ0.out.below bn)
        replace HR0 := Lib.hid (HR0.out.below bn)
        replace HQ1 := Lib.hid (HQ1.out.below bn)
        replace HR1 := Lib.hid (HR1.out.below bn)
        replace HZ := Lib.hid (HZ.out.below bn)
        replace HW := Lib.hid (below_two HW.out bn)
        clear bn
        have HX := Lib.hid HQ0.out.some.2.2.2.2.1
        have HY := Lib.hid HQ0.out.some.2.2.2.2.2.1
        have HX1 := Lib.hid HQ1.out.some.2.2.2.2.1
        have HY1 := Lib.hid HQ1.out.some.2.2.2.2.2.1
        have c10 := HR1.out.c0
        have c11 := HR1.out.c1
        have c12 := HR1.out.c2
        go_wp2_with fail
        clear c10 c11 c12
        refine region_free 13 1 [20, 21, 22, 23, 24, 25, 26, 27, 28, 29, 30, 31, 32] ?aF14 (fun wx => Below wS.heap.size wS wx) (fun k vv wx => match k with
            | 0 => vv = .agg #[.bool s, .slice A n c, .slice B m d]
            | 1 => vv = .pointer (some ⟨w.heap.size + 1, 0, none⟩)
            | 2 => vv = .pointer (some ⟨w.heap.size + 1, 0, none⟩)
            | 3 => vv = .bool s'
            | 4 => vv = .pointer (some ⟨w.heap.size + 1, 2, none⟩)
            | 5 => vv = .slice B' m' d'
            | 6 => ∃ (e0 : Option Addr) (e1 : Nat) (e2 : Nat), vv = .agg #[.bool (sg (zOf (sg q.num) q.den)), .slice e0 e1 e2] ∧ ZZ wx (sg (zOf (sg q.num) q.den)) e0 e1 e2 (limbs (zOf (sg q.num) q.den).natAbs) (zOf (sg q.num) q.den) 64
            | 7 => vv = .pointer (some ⟨w.heap.size + 1, 0, none⟩)
            | 8 => vv = .pointer (some ⟨w.heap.size + 1, 1, none⟩)
            | 9 => vv = .slice A' n' c'
            | 10 => ∃ (e0 : Option Addr) (e1 : Nat) (e2 : Nat), vv = .agg #[.bool (sg (zOf (sg q.num) q.den)), .slice e0 e1 e2, .slice A' n' c'] ∧ ZZ wx (sg (zOf (sg q.num) q.den)) e0 e1 e2 (limbs (zOf (sg q.num) q.den).natAbs) (zOf (sg q.num) q.den) 64
            | 11 => ∃ (e0 : Option Addr) (e1 : Nat) (e2 : Nat) (e3 : Option Addr) (e4 : Nat) (e5 : Nat), vv = .agg #[.bool (sg z.num), .slice e0 e1 e2, .slice e3 e4 e5] ∧ ZZ wx (sg z.num) e0 e1 e2 (limbs z.num.natAbs) z.num (64 + 64) ∧ NN wx e3 e4 e5 (limbs z.den) z.den (64 + 64)
            | _ => ∃ (e0 : Option Addr) (e1 : Nat) (e2 : Nat) (e3 : Option Addr) (e4 : Nat) (e5 : Nat), vv = .agg #[.bool (sg (oTop (limQ z))), .slice e0 e1 e2, .slice e3 e4 e5, .int .i64 (limE z)] ∧ QT wx e0 e1 e2 e3 e4 e5 (limQ z))
          (fun k => false) (by kernel_rfl) ?haF14 rfl (by kernel_rfl) (by kernel_rfl) (fun _ _ _ _ _ h => h) ?hSb14 ?hPb14 ?hS14 ?hop14 ?hfin14
        case haF14 =>
          intro vals
          simp only [fillAll, List.getElem?_cons_zero, List.getElem?_cons_succ, Act.put, List.setIfInBounds_toArray, List.set_cons_zero, List.set_cons_succ]
          exact rfl
        case hSb14 => exact fun wx w2 hb hS => below_two hS hb
        case hPb14 =>
          intro k v wa wb hb h
          match k, h with
          | 0, h => exact h
          | 1, h => exact h
          | 2, h => exact h
          | 3, h => exact h
          | 4, h => exact h
          | 5, h => exact h
          | 6, ⟨e0, e1, e2, h1, g0⟩ => exact ⟨e0, e1, e2, h1, g0.below hb⟩
          | 7, h => exact h
          | 8, h => exact h
          | 9, h => exact h
          | 10, ⟨e0, e1, e2, h1, g0⟩ => exact ⟨e0, e1, e2, h1, g0.below hb⟩
          | 11, ⟨e0, e1, e2, e3, e4, e5, h1, g0, g1⟩ => exact ⟨e0, e1, e2, e3, e4, e5, h1, g0.below hb, g1.below hb⟩
          | _ + 12, ⟨e0, e1, e2, e3, e4, e5, h1, g0⟩ => exact ⟨e0, e1, e2, e3, e4, e5, h1, g0.below hb⟩
        case hS14 => exact (Below.refl _ _).drew
        case hop14 =>
          refine .cons (k := 0) ?_ (.cons (k := 1) ?_ (.cons (k := 2) ?_ (.cons (k := 3) ?_ (.cons (k := 4) ?_ (.cons (k := 5) ?_ (.cons (k := 6) ?_ (.cons (k := 7) ?_ (.cons (k := 8) ?_ (.cons (k := 9) ?_ (.cons (k := 10) ?_ (.cons (k := 11) ?_ (.cons (k := 12) ?_ (.nil)))))))))))))
          all_goals intro vals wr hS hd KC hK
          all_goals (show Oper.wp _ _ _ _ _ _; dsimp only)
          · have z0 := (HR0.out.below hS).c0
            have z1 := (HR0.out.below hS).c1
            have z2 := (HR0.out.below hS).c2
            go_simp
            refine hK _ _ rfl (Below.refl _ _) (by first | rfl | simp) (fun h => by cases h)
          · go_simp
            refine hK _ _ rfl (Below.refl _ _) (by first | rfl | simp) (fun h => by cases h)
          · have d1 : vals 1 = _ := hd 1 (by decide +kernel)
            rw [d1]
            go_simp
            refine hK _ _ rfl (Below.refl _ _) (by first | rfl | simp) (fun h => by cases h)
          · have d2 : vals 2 = _ := hd 2 (by decide +kernel)
            rw [d2]
            have z0 := (HR1.out.below hS).c0
            go_simp
            refine hK _ _ rfl (Below.refl _ _) (by first | rfl | simp) (fun h => by cases h)
          · go_simp
            refine hK _ _ rfl (Below.refl _ _) (by first | rfl | simp) (fun h => by cases h)
          · have d4 : vals 4 = _ := hd 4 (by decide +kernel)
            rw [d4]
            have z0 := (HR1.out.below hS).c2
            go_simp
            refine hK _ _ rfl (Below.refl _ _) (by first | rfl | simp) (fun h => by cases h)
          · have d3 : vals 3 = _ := hd 3 (by decide +kernel)
            have d5 : vals 5 = _ := hd 5 (by decide +kernel)
            rw [d3, d5]
            go_simp
            go_at_call 40
            with_reducible refine (refMake_c (HY1.out.below hS) (by decide) (zOf (sg q.num) q.den) (by rw [HSG.out])).mono ?_
            rintro e w2 ⟨r0, r1, r2, rfl, f0, bn_r⟩
            refine hK _ _ rfl bn_r ⟨_, _, _, rfl, f0⟩ (fun h => by cases h)
          · go_simp
            refine hK _ _ rfl (Below.refl _ _) (by first | rfl | simp) (fun h => by cases h)
          · have d7 : vals 7 = _ := hd 7 (by decide +kernel)
            rw [d7]
            go_simp
            refine hK _ _ rfl (Below.refl _ _) (by first | rfl | simp) (fun h => by cases h)
          · have d8 : vals 8 = _ := hd 8 (by decide +kernel)
            rw [d8]
            have z0 := (HR1.out.below hS).c1
            go_simp
            refine hK _ _ rfl (Below.refl _ _) (by first | rfl | simp) (fun h => by cases h)
          · obtain ⟨A_6_0, n_6_1, n_6_2, d6, h_6_0⟩ := hd 6 (by decide +kernel)
            have d9 : vals 9 = _ := hd 9 (by decide +kernel)
            rw [d6, d9]
            go_simp
            refine hK _ _ rfl (Below.refl _ _) ⟨_, _, _, rfl, h_6_0⟩ (fun h => by cases h)
          · have d0 : vals 0 = _ := hd 0 (by decide +kernel)
            obtain ⟨A_10_0, n_10_1, n_10_2, d10, h_10_0⟩ := hd 10 (by decide +kernel)
            rw [d0, d10]
            go_simp
            go_at_call 39
            with_reducible refine (refTimes_c (HX.out.below hS) (HY.out.below hS) h_10_0 (HX1.out.below hS).nn (by decide) (by decide) p.den_nz HN0.out z HM.out).mono ?_
            rintro e w2 ⟨r0, r1, r2, r3, r4, r5, rfl, f0, f1, bn_r⟩
            refine hK _ _ rfl bn_r ⟨_, _, _, _, _, _, rfl, f0, f1⟩ (fun h => by cases h)
          · obtain ⟨A_11_0, n_11_1, n_11_2, A_11_3, n_11_4, n_11_5, d11, h_11_0, h_11_1⟩ := hd 11 (by decide +kernel)
            rw [d11]
            go_simp
            go_at_call 37
            with_reducible refine (refLimit_c h_11_0 h_11_1).mono ?_
            rintro e w2 ⟨r0, r1, r2, r3, r4, r5, rfl, f0, bn_r⟩
            refine hK _ _ rfl bn_r ⟨_, _, _, _, _, _, rfl, f0⟩ (fun h => by cases h)
        case hfin14 =>
          intro vals wr hS hP hne
          obtain ⟨A_12_0, n_12_1, n_12_2, A_12_3, n_12_4, n_12_5, ez_12, h_12_0⟩ := hP 12 (by decide)
          have hZ3 := HZ.out.below hS
          have hNo := hZ3.noLimb (by intro v e; cases e) (by intro v e; cases e) (by intro v e; cases e) (by intro v e; cases e)
          have e0 := hZ3.c0
          have e1 := hZ3.c1
          have e2 := hZ3.c2
          have e3 := hZ3.c3
          have f0 := hZ3.free 0
          have f1 := hZ3.free 1
          have f2 := hZ3.free 2
          have f3 := hZ3.free 3
          have HF := Lib.hid (hZ3.fill (.bool (sg (oTop (limQ z)))) (.slice A_12_0 n_12_1 n_12_2) (.slice A_12_3 n_12_4 n_12_5) (.int .i64 (limE z)))
          have HP := Lib.hid (QQ.fillR4 h_12_0 hNo (.bool (sg (oTop (limQ z)))) (.slice A_12_0 n_12_1 n_12_2) (.slice A_12_3 n_12_4 n_12_5) (.int .i64 (limE z)))
          have HB := Lib.hid (below_fill4 (below_two HW.out hS) Hq.out (.bool (sg (oTop (limQ z)))) (.slice A_12_0 n_12_1 n_12_2) (.slice A_12_3 n_12_4 n_12_5) (.int .i64 (limE z)))
          try dsimp only
          rw [ez_12]
          refine wpAny_ready (rs := [13]) (by kernel_rfl) (by simp) (AllReady.cons rfl (fun KC hK => ?_) AllReady.nil)
          go_simp
          refine hK _ _ ?_
          clear hK KC
          refine wpAny_done (by kernel_rfl) ?_ _
          go_wp2
          refine bodyPost_ret (results_cell_row rfl _ _ _ 35 #[.bool (sg (oTop (limQ z))), .slice A_12_0 n_12_1 n_12_2, .slice A_12_3 n_12_4 n_12_5, .int .i64 (limE z)] (0, 0) _ rfl HF.out Tryz.underlying35 rfl got7_size) rfl ?_
          exact ⟨A_12_0, n_12_1, n_12_2, A_12_3, n_12_4, n_12_5, rfl, HP.out, HB.out⟩

end
end Go.Proofs.YtohciicocaoagaaGreat

/- What package whole's Mul answers, as a contract over memory: whole numbers in the shortest limbs, 0 not below 0. Conditions: sizes of at most so many limbs; the table of powers of ten where texts are made or read. -/
namespace Go.Proofs.YtohciicocaoagaaGreat
open Go.RowKit Limb
set_option linter.unusedVariables false
section
variable {w : World} {s s' : Bool} {A A' : Option Addr} {n c n' c' : Nat} {xs ys : List Nat} {x y : Int} {L L' : Nat}
set_option maxHeartbeats 4000000 in
set_option maxRecDepth 100000 in
theorem wMul_c (hx : ZZ w s A n c xs x L) (hy : ZZ w s' A' n' c' ys y L') (K : Nat) (h1 : L ≤ 100000) (h2 : L' ≤ 100000) (h3 : L + L' ≤ K) (z : Int) (hz : x * y = z) :
    Calls Tryz.prog 36 #[.agg #[.bool s, .slice A n c], .agg #[.bool s', .slice A' n' c']] w fun e w' => ∃ A2 n2 c2, e = .returned (.agg #[.bool (sg z), .slice A2 n2 c2]) ∧ ZZ w' (sg z) A2 n2 c2 (limbs z.natAbs) z K ∧ Below w.heap.size w w' := by
  have HS : RowKit.Hid (zOf (s != s') (x.natAbs * y.natAbs) = z) := (zOf_mul hx.zof hy.zof).trans hz
  clear hz
  have b0 := below_new w (.cells #[Value.bool s, Value.slice A n c] 25)
  have b1 := below_new (w.alloc (.cells #[Value.bool s, Value.slice A n c] 25)) (.cells #[Value.bool s', Value.slice A' n' c'] 25)
  have bz := below_new ((w.alloc (.cells #[Value.bool s, Value.slice A n c] 25)).alloc (.cells #[Value.bool s', Value.slice A' n' c'] 25)) zbox
  have HW := Lib.hid (below_two (below_two b0 b1) bz)
  have HN := Lib.hid (hx.nn.below HW.out)
  have HM := Lib.hid (hy.nn.below HW.out)
  have r0 := ((row2_new w 25 (.bool s) (.slice A n c)).below b1).below bz
  have r1 := (row2_new (w.alloc (.cells #[Value.bool s, Value.slice A n c] 25)) 25 (.bool s') (.slice A' n' c')).below bz
  have rz : ZB (((w.alloc (.cells #[Value.bool s, Value.slice A n c] 25)).alloc (.cells #[Value.bool s', Value.slice A' n' c'] 25)).alloc zbox) ((w.alloc (.cells #[Value.bool s, Value.slice A n c] 25)).alloc (.cells #[Value.bool s', Value.slice A' n' c'] 25)).heap.size := row2_new ((w.alloc (.cells #[Value.bool s, Value.slice A n c] 25)).alloc (.cells #[Value.bool s', Value.slice A' n' c'] 25)) _ _ _
  simp only [World.size_alloc] at r1 rz
  clear b0 b1 bz hx hy
  go_enter Tryz.func36, Tryz.ntmps36
  go_wp2
  generalize ((w.alloc (.cells #[Value.bool s, Value.slice A n c] 25)).alloc (.cells #[Value.bool s', Value.slice A' n' c'] 25)).alloc zbox = w1 at *
  have HR0 := Lib.hid r0
  have c00 := r0.c0
  have c01 := r0.c1
  have HR1 := Lib.hid r1
  have c10 := r1.c0
  have c11 := r1.c1
  have HZ := Lib.hid rz
  clear r0 r1 rz
  clear c00 c01 c10 c11
  refine region_free 11 1 [5, 6, 7, 8, 9, 10, 11, 12, 13, 14, 15] ?aF (fun wx => Below w1.heap.size w1 wx) (fun k v wx => match k with
      | 0 => v = .pointer (some ⟨w.heap.size, 0, none⟩)
      | 1 => v = .bool s
      | 2 => v = .pointer (some ⟨w.heap.size + 1, 0, none⟩)
      | 3 => v = .bool s'
      | 4 => v = .bool (s != s')
      | 5 => v = .pointer (some ⟨w.heap.size, 1, none⟩)
      | 6 => v = .slice A n c
      | 7 => v = .pointer (some ⟨w.heap.size + 1, 1, none⟩)
      | 8 => v = .slice A' n' c'
      | 9 => ∃ A2 n2 c2, v = .slice A2 n2 c2 ∧ NN wx A2 n2 c2 (limbs (x.natAbs * y.natAbs)) (x.natAbs * y.natAbs) K
      | _ => ∃ A2 n2 c2, v = .agg #[.bool (sg z), .slice A2 n2 c2] ∧ ZZ wx (sg z) A2 n2 c2 (limbs z.natAbs) z K)
    (fun _ => false) (by kernel_rfl) ?haF rfl (by kernel_rfl) (by kernel_rfl) (fun _ _ _ _ _ h => h) ?hSb ?hPb ?hS ?hop ?hfin
  case haF =>
    intro vals
    simp only [fillAll, List.getElem?_cons_zero, List.getElem?_cons_succ, Act.put, List.setIfInBounds_toArray, List.set_cons_zero, List.set_cons_succ]
    exact rfl
  case hSb => exact fun wx w2 hb hS => below_two hS hb
  case hPb =>
    intro k v wa wb hb h
    match k, h with
    | 0, h => exact h
    | 1, h => exact h
    | 2, h => exact h
    | 3, h => exact h
    | 4, h => exact h
    | 5, h => exact h
    | 6, h => exact h
    | 7, h => exact h
    | 8, h => exact h
    | 9, ⟨A2, n2, c2, h1, h2⟩ => exact ⟨A2, n2, c2, h1, h2.below hb⟩
    | _ + 10, ⟨A2, n2, c2, h1, h2⟩ => exact ⟨A2, n2, c2, h1, h2.below hb⟩
  case hS => exact (Below.refl _ _).drew
  case hop =>
    refine .cons (k := 0) ?_ (.cons (k := 1) ?_ (.cons (k := 2) ?_ (.cons (k := 3) ?_ (.cons (k := 4) ?_ (.cons (k := 5) ?_ (.cons (k := 6) ?_ (.cons (k := 7) ?_ (.cons (k := 8) ?_ (.cons (k := 9) ?_ (.cons (k := 10) ?_ (.nil)))))))))))
    all_goals intro vals wr hS hd KC hK
    all_goals (show Oper.wp _ _ _ _ _ _; dsimp only)
    · go_simp
      refine hK _ _ rfl (Below.refl _ _) rfl (fun h => by cases h)
    · have d0 : vals 0 = _ := hd 0 (by decide +kernel)
      rw [d0]
      have c0 := (HR0.out.below hS).c0
      go_simp
      refine hK _ _ rfl (Below.refl _ _) rfl (fun h => by cases h)
    · go_simp
      refine hK _ _ rfl (Below.refl _ _) rfl (fun h => by cases h)
    · have d2 : vals 2 = _ := hd 2 (by decide +kernel)
      rw [d2]
      have c0 := (HR1.out.below hS).c0
      go_simp
      refine hK _ _ rfl (Below.refl _ _) rfl (fun h => by cases h)
    · have d1 : vals 1 = _ := hd 1 (by decide +kernel)
      have d3 : vals 3 = _ := hd 3 (by decide +kernel)
      rw [d1, d3]
      go_simp
      refine hK _ _ rfl (Below.refl _ _) (by first | rfl | (simp)) (fun h => by cases h)
    · go_simp
      refine hK _ _ rfl (Below.refl _ _) rfl (fun h => by cases h)
    · have d5 : vals 5 = _ := hd 5 (by decide +kernel)
      rw [d5]
      have c0 := (HR0.out.below hS).c1
      go_simp
      refine hK _ _ rfl (Below.refl _ _) rfl (fun h => by cases h)
    · go_simp
      refine hK _ _ rfl (Below.refl _ _) rfl (fun h => by cases h)
    · have d7 : vals 7 = _ := hd 7 (by decide +kernel)
      rw [d7]
      have c0 := (HR1.out.below hS).c1
      go_simp
      refine hK _ _ rfl (Below.refl _ _) rfl (fun h => by cases h)
    · have d6 : vals 6 = _ := hd 6 (by decide +kernel)
      have d8 : vals 8 = _ := hd 8 (by decide +kernel)
      rw [d6, d8]
      go_simp
      go_at_call 34
      with_reducible refine (mulOf_c (HN.out.below hS) (HM.out.below hS) K (by omega) (by omega) h3).mono ?_
      rintro e w2 ⟨A_r, n_r, c_r, rfl, h_r, bn_r⟩
      refine hK _ _ rfl bn_r ⟨_, _, _, rfl, h_r⟩ (fun h => by cases h)
    · have d4 : vals 4 = _ := hd 4 (by decide +kernel)
      obtain ⟨A_m, n_m, c_m, d9, h_m⟩ := hd 9 (by decide +kernel)
      rw [d4, d9]
      go_simp
      go_at_call 61
      with_reducible refine (signed_c h_m _ z (by first | exact HS.out | simpa using HS.out)).mono ?_
      rintro e w2 ⟨rfl, h_r, bn_r⟩
      refine hK _ _ rfl bn_r ⟨_, _, _, rfl, h_r⟩ (fun h => by cases h)
  case hfin =>
    intro vals wr hS hP hne
    obtain ⟨A2, n2, c2, ez, h3⟩ := hP 10 (by decide)
    have hZ3 := HZ.out.below hS
    obtain ⟨e0, e1, f0, f1⟩ := hZ3.cells
    try dsimp only
    rw [ez]
    have HF := Lib.hid (hZ3.fill (.bool (sg z)) (.slice A2 n2 c2))
    have HP := Lib.hid (h3.put hZ3 (.bool (sg z)) (.slice A2 n2 c2))
    have HB := Lib.hid (below_fill (g := w.heap.size + 1 + 1) (below_two HW.out hS) (by omega) (.bool (sg z)) (.slice A2 n2 c2))
    refine wpAny_ready (rs := [11]) (by kernel_rfl) (by simp) (AllReady.cons rfl (fun KC hK => ?_) AllReady.nil)
    go_simp
    refine hK _ _ ?_
    clear hK KC
    refine wpAny_done (by kernel_rfl) ?_ _
    go_wp2
    refine bodyPost_ret (results_cell_row rfl _ _ (w.heap.size + 1 + 1) 25 #[.bool (sg z), .slice A2 n2 c2] (0, 0) _ rfl HF.out Tryz.underlying25 rfl int_size) rfl ?_
    exact ⟨A2, n2, c2, rfl, HP.out, HB.out⟩
end

end Go.Proofs.YtohciicocaoagaaGreat

/- What package rat's own helpers answer (isTrimmed, fits, cross), and slices.Equal, slices.Clone of limbs, as contracts over memory. Conditions: sizes of at most so many limbs. -/
namespace Go.Proofs.YtohciicocaoagaaGreat
open Go.RowKit Limb
set_option linter.unusedVariables false
section
variable {w : World} {s s' : Bool} {A B A' B' : Option Addr} {n c m d n' c' m' d' : Nat} {xs ys xs' ys' : List Nat} {x y : Int} {a b L L' : Nat}
set_option maxHeartbeats 4000000 in
set_option maxRecDepth 100000 in
theorem rTrimmed_c (hx : NN w A n c xs a L) (h1 : L ≤ 9223372036854775807) (v : Bool) (hv : decide (xs = limbs a) = v) :
    Calls Tryz.prog 43 #[.slice A n c] w fun e w' => e = .returned (.bool v) ∧ w = w' := by
  have Hv := Lib.hid hv
  have Hx := Lib.hid hx
  have hsm := hx.isN.small
  have hlen := hx.isN.len
  have hle := hx.le
  have htr := trimmed_iff hsm
  rw [hx.val] at htr
  clear hx hv
  by_cases h0 : n = 0
  · have hB : RowKit.Hid (v = true) := by
      show _ = _
      rw [← Hv.out, decide_eq_true_eq, htr]
      exact .inl (List.eq_nil_of_length_eq_zero (by omega))
    subst h0
    clear hlen htr
    go_enter Tryz.func43, Tryz.ntmps43
    go_wp2
    go_ret
    exact ⟨by rw [hB.out]; rfl, rfl⟩
  · obtain ⟨g, o, eA, hlt, hc⟩ := Hx.out.isN.2.2 (by omega)
    obtain ⟨k, hk⟩ : ∃ k, n = k + 1 := ⟨n - 1, by omega⟩
    have hcell := hc k (by omega)
    obtain ⟨u, hu⟩ : ∃ u, lim xs k = u := ⟨_, rfl⟩
    rw [hu] at hcell
    have h00 : ((n : Int) == 0) = false := by rw [beq_eq_false_iff_ne]; omega
    have h0k : (n : Int) - 1 = (k : Int) := by omega
    have hB : RowKit.Hid (decide (u ≠ 0) = v) := by
      show _ = _
      rw [← Hv.out, decide_eq_decide, htr, ← hu, show xs.length - 1 = k by omega]
      constructor
      · exact fun h => .inr h
      · rintro (h | h)
        · rw [h] at hlen; simp at hlen; omega
        · exact h
    subst eA
    clear htr hc hu hsm
    subst hk
    go_enter Tryz.func43, Tryz.ntmps43
    go_wp2
    go_ret
    refine ⟨?_, rfl⟩
    rw [← hB.out]
    show Ending.returned (Value.bool (((k : Int) + 1 == 0) || ((u : Int) != 0))) = _
    rw [show ((k : Int) + 1 == 0) = false by rw [beq_eq_false_iff_ne]; omega, Bool.false_or]
    congr 2
    rw [Bool.eq_iff_iff]
    simp

set_option maxHeartbeats 4000000 in
set_option maxRecDepth 100000 in
theorem rFits_c (s : Bool) (A B : Option Addr) (n c m d : Nat) (w : World) (v : Bool) (hv : (decide (n ≤ 64) && decide (m ≤ 64)) = v) :
    Calls Tryz.prog 44 #[.agg #[.bool s, .slice A n c, .slice B m d]] w fun e w' => e = .returned (.bool v) ∧ Below w.heap.size w w' := by
  have HW := Lib.hid (below_new w (.cells #[Value.bool s, Value.slice A n c, Value.slice B m d] 27))
  have Hv := Lib.hid hv
  clear hv
  by_cases h1 : n ≤ 64
  · have e1 : decide ((n : Int) ≤ 64) = true := by rw [decide_eq_true_eq]; omega
    have HV : RowKit.Hid (decide ((m : Int) ≤ 64) = v) := by
      show _ = _
      rw [← Hv.out, decide_eq_true h1, Bool.true_and, decide_eq_decide]; omega
    clear h1 Hv
    go_enter Tryz.func44, Tryz.ntmps44
    go_wp2
    go_ret
    exact ⟨by rw [← HV.out]; rfl, HW.out⟩
  · have e1 : decide ((n : Int) ≤ 64) = false := by rw [decide_eq_false_iff_not]; omega
    have HV : RowKit.Hid (false = v) := by
      show _ = _
      rw [← Hv.out, decide_eq_false h1]; rfl
    clear h1 Hv
    go_enter Tryz.func44, Tryz.ntmps44
    go_wp2
    go_ret
    exact ⟨by rw [← HV.out]; rfl, HW.out⟩

set_option maxHeartbeats 4000000 in
set_option maxRecDepth 100000 in
theorem rCross_c (hx : ZZ w s A n c xs x L) (hy' : NN w B' m' d' ys' b L') (h1 : L ≤ 1000) (h2 : L' ≤ 1000) (z : Int) (hz : x * (b : Int) = z) :
    Calls Tryz.prog 33 #[.agg #[.bool s, .slice A n c, .slice B m d], .agg #[.bool s', .slice A' n' c', .slice B' m' d']] w fun e w' => ∃ A2 n2 c2, e = .returned (.agg #[.bool (sg z), .slice A2 n2 c2]) ∧ ZZ w' (sg z) A2 n2 c2 (limbs z.natAbs) z (L + L') ∧ Below w.heap.size w w' := by
  have b0 := below_new w (.cells #[Value.bool s, Value.slice A n c, Value.slice B m d] 27)
  have b1 := below_new (w.alloc (.cells #[Value.bool s, Value.slice A n c, Value.slice B m d] 27)) (.cells #[Value.bool s', Value.slice A' n' c', Value.slice B' m' d'] 27)
  have b2 := below_new ((w.alloc (.cells #[Value.bool s, Value.slice A n c, Value.slice B m d] 27)).alloc (.cells #[Value.bool s', Value.slice A' n' c', Value.slice B' m' d'] 27)) zbox
  have HW := Lib.hid (below_two (below_two b0 b1) b2)
  have HX := Lib.hid (hx.below HW.out)
  have HY := Lib.hid (zz_pos (hy'.below HW.out))
  have rz : ZB (((w.alloc (.cells #[Value.bool s, Value.slice A n c, Value.slice B m d] 27)).alloc (.cells #[Value.bool s', Value.slice A' n' c', Value.slice B' m' d'] 27)).alloc zbox) ((w.alloc (.cells #[Value.bool s, Value.slice A n c, Value.slice B m d] 27)).alloc (.cells #[Value.bool s', Value.slice A' n' c', Value.slice B' m' d'] 27)).heap.size := row2_new ((w.alloc (.cells #[Value.bool s, Value.slice A n c, Value.slice B m d] 27)).alloc (.cells #[Value.bool s', Value.slice A' n' c', Value.slice B' m' d'] 27)) _ _ _
  simp only [World.size_alloc] at rz
  clear b0 b1 b2 hx hy'
  go_enter Tryz.func33, Tryz.ntmps33
  go_wp2_with fail
  generalize ((w.alloc (.cells #[Value.bool s, Value.slice A n c, Value.slice B m d] 27)).alloc (.cells #[Value.bool s', Value.slice A' n' c', Value.slice B' m' d'] 27)).alloc zbox = w1 at *
  have HZ := Lib.hid rz
  clear rz
  refine (wMul_c HX.out HY.out (L + L') (by omega) (by omega) (Nat.le_refl _) z hz).mono ?_
  rintro e w2 ⟨A2, n2, c2, rfl, h4, bm⟩
  have BN4 := Lib.hid bm
  obtain ⟨e0, e1, f0, f1⟩ := (HZ.out.below BN4.out).cells
  have HF := Lib.hid ((HZ.out.below BN4.out).fill (.bool (sg z)) (.slice A2 n2 c2))
  have HP := Lib.hid (h4.put (HZ.out.below BN4.out) (.bool (sg z)) (.slice A2 n2 c2))
  have HB := Lib.hid (below_fill (g := w.heap.size + 1 + 1) (below_two HW.out BN4.out) (by omega) (.bool (sg z)) (.slice A2 n2 c2))
  clear bm h4
  go_wp2
  refine bodyPost_ret (results_cell_row rfl _ _ (w.heap.size + 1 + 1) 25 #[.bool (sg z), .slice A2 n2 c2] (0, 0) _ rfl HF.out Tryz.underlying25 rfl int_size) rfl ?_
  exact ⟨A2, n2, c2, rfl, HP.out, HB.out⟩

end
set_option maxHeartbeats 400000 in
theorem rEqual_any (A : Option Addr) (n c : Nat) (xs : List Nat) (A' : Option Addr) (n' c' : Nat) (ys : List Nat) (w : World) (hx : IsN w A n xs) (hy : IsN w A' n' ys) (hm : n ≤ 1000000000) (hm' : n' ≤ 1000000000) :
    Calls Tryz.prog 55 #[.slice A n c, .slice A' n' c'] w fun e w' => e = .returned (.bool (same xs ys)) ∧ Below w.heap.size w w' := by
  have hl := hx.len
  have hl' := hy.len
  by_cases hn : n = n'
  · subst hn
    have hne : ((n : Int) != (n : Int)) = false := by simp
    go_enter Tryz.func55, Tryz.ntmps55
    go_wp2
    go_loopw [13] (fun i wr => ∃ k : Nat, k ≤ n ∧ i = .int .i64 k ∧ (∀ j, j < k → lim xs j = lim ys j) ∧ Below w.heap.size w wr) (fun i _ => n - (intOf i).toNat)
    case atStart => exact ⟨0, Nat.zero_le _, rfl, fun j hj => absurd hj (by omega), Below.refl _ _⟩
    case round =>
      obtain ⟨k, hk, rfl, heq, hbel⟩ := hrel
      have Heq := Lib.hid heq
      clear heq
      by_cases hkn : k < n
      · obtain ⟨b, o, hA, hb, hcell⟩ := hx.2.2 (by omega)
        obtain ⟨b', o', hA', hb', hcell'⟩ := hy.2.2 (by omega)
        have h1 : wr.cell? ⟨b, o + k, none⟩ = some (.int .u32 ((lim xs k : Nat) : Int)) := (hbel.cell (p := ⟨b, o + k, none⟩) hb).trans (hcell k hkn)
        have h2 : wr.cell? ⟨b', o' + k, none⟩ = some (.int .u32 ((lim ys k : Nat) : Int)) := (hbel.cell (p := ⟨b', o' + k, none⟩) hb').trans (hcell' k hkn)
        subst hA
        subst hA'
        by_cases hq : lim xs k = lim ys k
        · have hq' : (((lim xs k : Nat) : Int) != ((lim ys k : Nat) : Int)) = false := by simp [hq]
          have Hq := Lib.hid hq
          clear hq
          go_wp2
          go_quiet (fail)
          go_wp2
          go_roundw
          case rel => exact ⟨k + 1, by omega, by go_num, fun j hj => by
            rcases Nat.lt_or_ge j k with h | h
            · exact Heq.out j h
            · have : j = k := by omega
              subst this; exact Hq.out, below_drewN hbel _⟩
          case measure => simp [intOf]; omega
        · have hq' : (((lim xs k : Nat) : Int) != ((lim ys k : Nat) : Int)) = true := by simp; omega
          have Hq := Lib.hid (same_false_of_lim hq)
          clear hq
          go_wp2
          go_quiet (fail)
          go_wp2
          go_ret
          exact ⟨by rw [Hq.out]; rfl, below_drewN hbel _⟩
      · have hkn : k = n := by omega
        subst hkn
        have Hs := Lib.hid (same_true (by omega) (fun j hj => Heq.out j (by omega)))
        go_wp2
        go_ret
        exact ⟨by rw [Hs.out]; rfl, hbel⟩
  · have hne : ((n : Int) != (n' : Int)) = true := by simp; omega
    have Hs := Lib.hid (same_false_of_len (xs := xs) (ys := ys) (by omega))
    go_enter Tryz.func55, Tryz.ntmps55
    go_wp2
    go_ret
    exact ⟨by rw [Hs.out]; rfl, Below.refl _ _⟩

set_option maxHeartbeats 4000000 in
set_option maxRecDepth 100000 in
theorem rClone_c {w : World} {A : Option Addr} {n c : Nat} {xs : List Nat} {a L : Nat} (hx : NN w A n c xs a L) (h1 : L ≤ 1000000000) :
    Calls Tryz.prog 52 #[.slice A n c] w fun e w' => ∃ A2 n2 c2, e = .returned (.slice A2 n2 c2) ∧ NN w' A2 n2 c2 xs a L ∧ Below w.heap.size w w' := by
  have qT : ∀ (w : World) (a : Option Addr) (n c n' c' : Nat), (binOp .eql 23 (.slice a n c) (.slice none n' c')).run Tryz.prog w = .ok (.bool a.isNone) w := fun w a n c n' c' => Lib.run_eql_slice_nil w _ _ a n c n' c' Tryz.underlying23
  have hle := hx.le
  have Hx := Lib.hid (hx.below (below_new w (.cells #[] 43)))
  have Hn := Lib.hid hx
  clear hx
  have Hown : RowKit.Hid ((w.alloc (.cells #[] 43)).ownsRow w.heap.size 43 1 (.slice (some ⟨w.heap.size, 0, none⟩) 0 0) 0 (([] : List Nat).map limV)) := own_lit w [] 0 rfl (by omega)
  have Hb : RowKit.Hid (0 ≤ 1000000000 ∧ L ≤ 1000000000 ∧ w.heap.size ≤ (w.alloc (.cells #[] 43)).heap.size ∧ Small []) := ⟨by omega, h1, by simp, small_nil⟩
  cases A with
  | none =>
    clear Hx Hown Hb
    go_enter Tryz.func52, Tryz.ntmps52
    go_wp2
    go_ret
    have hn : n = 0 := by
      rcases Nat.eq_zero_or_pos n with h | h
      · exact h
      · obtain ⟨g, o, e, _⟩ := Hn.out.isN.2.2 h
        cases e
    have hl := Hn.out.isN.len
    rw [hn] at hl
    have hxs := List.eq_nil_of_length_eq_zero hl
    have hv := Hn.out.val
    subst hxs
    exact ⟨none, 0, 0, rfl, ⟨IsN.nil _ _, hv, Nat.le_refl _, Nat.zero_le _⟩, Below.refl _ _⟩
  | some p =>
    go_enter Tryz.func52, Tryz.ntmps52
    go_wp2_with (at_builtin; refine wpList_append_nat rfl _ _ rfl w.heap.size _ 0 [] rfl Hown (some p) n c xs a L rfl Hx Hb ?_)
    intro A2 c2 w' how hgrow
    have hb2 := below_lit hgrow.out (Nat.le_refl _)
    have hn : NN w' A2 n c2 xs a L := by
      have h := how.out
      exact ⟨h.isN, Hn.out.val, h.caps.1, Hn.out.le⟩
    clear how hgrow Hown Hb Hx Hn
    go_wp2
    go_ret
    exact ⟨_, _, _, rfl, hn, hb2⟩

end Go.Proofs.YtohciicocaoagaaGreat

/- What package quo's limbAt, head and gcdSmall answer, as contracts over memory: a limb, 0 beyond; the 64 bits from a place on; the greatest divisor of two words. Conditions: the list reads as limbs, of at most 10^9 of them. -/
namespace Go.Proofs.YtohciicocaoagaaGreat.Limb

/-- The 64 bits of a number from bit k on, off three limbs. -/
theorem head_bits {V k l0 l1 l2 : Nat} (e0 : l0 = V / 4294967296 ^ (k / 32) % 4294967296) (e1 : l1 = V / 4294967296 ^ (k / 32 + 1) % 4294967296) (e2 : l2 = V / 4294967296 ^ (k / 32 + 2) % 4294967296) :
    (l0 ||| l1 * 4294967296) / 2 ^ (k % 32) ||| (l2 * 2 ^ (64 - k % 32) % 18446744073709551616) = V / 2 ^ k % 18446744073709551616 := by
  refine Nat.eq_of_testBit_eq fun i => ?_
  have hr : k % 32 < 32 := Nat.mod_lt _ (by decide)
  have hk : k = 32 * (k / 32) + k % 32 := by omega
  rw [e0, e1, e2, pow32, pow32, pow32, show (18446744073709551616 : Nat) = 2 ^ 64 from rfl, show (4294967296 : Nat) = 2 ^ 32 from rfl]
  simp only [Nat.testBit_or, Nat.testBit_div_two_pow, Nat.testBit_mod_two_pow, Nat.testBit_mul_two_pow]
  generalize k % 32 = r at *
  generalize k / 32 = q at *
  subst hk
  by_cases c1 : i + r < 32
  · have e : i + r + 32 * q = i + (32 * q + r) := by omega
    have d1 : i < 64 := by omega
    have d2 : ¬ 64 - r ≤ i := by omega
    have d3 : ¬ 32 ≤ i + r := by omega
    simp [c1, d1, d2, d3, e]
  · by_cases c2 : i + r < 64
    · have e : i + r - 32 + 32 * (q + 1) = i + (32 * q + r) := by omega
      have d1 : i < 64 := by omega
      have d2 : ¬ 64 - r ≤ i := by omega
      have d3 : 32 ≤ i + r := by omega
      have d4 : i + r - 32 < 32 := by omega
      simp [c1, d1, d2, d3, d4, e]
    · by_cases c3 : i < 64
      · have e : i - (64 - r) + 32 * (q + 2) = i + (32 * q + r) := by omega
        have d2 : 64 - r ≤ i := by omega
        have d4 : ¬ i + r - 32 < 32 := by omega
        have d5 : i - (64 - r) < 32 := by omega
        simp [c1, c3, d2, d4, d5, e]
      · simp [c3]
        omega

end Go.Proofs.YtohciicocaoagaaGreat.Limb
namespace Go.Proofs.YtohciicocaoagaaGreat
open Go.RowKit Limb
set_option linter.unusedVariables false

set_option maxHeartbeats 400000 in
theorem limbAt_any (A : Option Addr) (n c : Nat) (xs : List Nat) (w : World) (hx : IsN w A n xs) (hm : n ≤ 1000000000) (k : Nat) (I : Int) (hI : I = k) (hk : k ≤ 100000000000) :
    Calls Tryz.prog 97 #[.slice A n c, .int .i64 I] w fun e w' => e = .returned (.int .u64 ((lim xs k : Nat) : Int)) ∧ w = w' := by
  subst hI
  by_cases h : k < n
  · obtain ⟨b, o, rfl, hb, hc⟩ := hx.2.2 (by omega)
    have h1 := hc k h
    have h2 := lim_lt hx.small k
    go_enter Tryz.func97, Tryz.ntmps97
    go_wp2
    go_ret
    exact ⟨rfl, rfl⟩
  · have h1 : lim xs k = 0 := lim_of_ge (by rw [hx.len]; omega)
    have H1 := Lib.hid h1
    clear h1
    go_enter Tryz.func97, Tryz.ntmps97
    go_wp2
    go_ret
    exact ⟨ret_int (by rw [H1.out]; rfl), rfl⟩

/-- The same, in a world that drew. -/
theorem limbAt_q {A : Option Addr} {n c : Nat} {xs : List Nat} {w : World} (hx : IsN w A n xs) (hm : n ≤ 1000000000) (k : Nat) (I : Int) (hI : I = k) (hk : k ≤ 100000000000) (nd : Nat) :
    Calls Tryz.prog 97 #[.slice A n c, .int .i64 I] (w.drewN nd) fun e w' => e = .returned (.int .u64 ((lim xs k : Nat) : Int)) ∧ ∃ m, w' = w.drewN m :=
  (limbAt_any A n c xs (w.drewN nd) (hx.below (below_drewN (Below.refl _ _) nd)) hm k I hI hk).mono fun _ _ ⟨h1, h2⟩ => ⟨h1, nd, h2.symm⟩

set_option maxHeartbeats 1000000 in
theorem head_any (A : Option Addr) (n c : Nat) (xs : List Nat) (w : World) (hx : IsN w A n xs) (hm : n ≤ 1000000000) (k : Nat) (I : Int) (hI : I = k) (hk : k ≤ 1000000000000) (v : Nat) (hv : val xs / 2 ^ k % 18446744073709551616 = v) :
    Calls Tryz.prog 76 #[.slice A n c, .int .i64 I] w fun e w' => e = .returned (.int .u64 (v : Int)) ∧ ∃ nd, w' = w.drewN nd := by
  subst hI
  obtain ⟨q, hq⟩ : ∃ q, q = k / 32 := ⟨_, rfl⟩
  obtain ⟨r, hr⟩ : ∃ r, r = k % 32 := ⟨_, rfl⟩
  have eq1 : (k : Int) / 32 = (q : Int) := by omega
  have er1 : (k : Int) % 32 = (r : Int) := by omega
  have hr32 : r < 32 := by omega
  have hq3 : q ≤ 90000000000 := by omega
  have l0 := lim_lt hx.small q
  have l1 := lim_lt hx.small (q + 1)
  have l2 := lim_lt hx.small (q + 2)
  have hh := head_bits (V := val xs) (k := k) (lim_eq_div xs hx.small _).symm (lim_eq_div xs hx.small _).symm (lim_eq_div xs hx.small _).symm
  rw [← hq, ← hr, hv] at hh
  have Hh := Lib.hid hh
  clear hh hv hq hr
  go_enter Tryz.func76, Tryz.ntmps76
  go_wp2_with fail
  refine (limbAt_any A n c xs w hx hm q _ rfl (by omega)).mono ?_
  rintro e w1 ⟨rfl, rfl⟩
  go_wp2_with fail
  refine (limbAt_any A n c xs w hx hm (q + 1) _ (by omega) (by omega)).mono ?_
  rintro e w1 ⟨rfl, rfl⟩
  obtain ⟨low, hlow⟩ : ∃ x, x = lim xs q ||| lim xs (q + 1) * 4294967296 := ⟨_, rfl⟩
  have hor : bits BinOp.or IntKind.u64 ((lim xs q : Nat) : Int) (((lim xs (q + 1) : Nat) : Int) * 4294967296) = (low : Int) := by
    have := u64_or_nat (lim xs q) (lim xs (q + 1) * 4294967296) (by omega) (by omega)
    rw [hlow, ← this]; rfl
  have hlow2 : low < 18446744073709551616 := by
    rw [hlow]
    exact Nat.or_lt_two_pow (n := 64) (by omega) (by omega)
  rw [← hlow] at Hh
  clear hlow
  have ew : IntKind.i64.wrap ((q : Int) + 2) = (q : Int) + 2 := IntWalk.i64_in _ (by omega)
  have e2 : (q : Int) + 2 = ((q + 2 : Nat) : Int) := by omega
  have E2 := Lib.hid e2
  have ew2 : IntKind.i64.wrap (64 - (r : Int)) = 64 - (r : Int) := IntWalk.i64_in _ (by omega)
  clear e2
  go_wp2
  go_quiet ((go_at_call 97; exact limbAt_q hx hm (q + 2) _ E2.out (by omega) _))
  go_wp2
  have Hor : RowKit.Hid (bits BinOp.or IntKind.u64 ((low : Int) / 2 ^ r) (IntKind.u64.wrap (((lim xs (q + 2) : Nat) : Int) * 2 ^ (64 - r))) = (v : Int)) := by
    show _ = _
    have a1 : (low : Int) / 2 ^ r = ((low / 2 ^ r : Nat) : Int) := by rw [Int.natCast_ediv, Int.natCast_pow]; rfl
    have a2 : IntKind.u64.wrap (((lim xs (q + 2) : Nat) : Int) * 2 ^ (64 - r)) = ((lim xs (q + 2) * 2 ^ (64 - r) % 18446744073709551616 : Nat) : Int) := by
      rw [IntKind.wrap_u64, Int.natCast_emod, Int.natCast_mul, Int.natCast_pow]; rfl
    rw [a1, a2, u64_or_nat _ _ (Nat.lt_of_le_of_lt (Nat.div_le_self _ _) hlow2) (Nat.mod_lt _ (by decide)), Hh.out]
  go_ret
  exact ⟨ret_int Hor.out, _, rfl⟩

theorem gcd_word {x y : Nat} (hy : y ≠ 0) : gcdN y (x % y) = gcdN x y := gcdN_step rfl

set_option maxHeartbeats 1000000 in
theorem gcdSmall_any (x y : Nat) (X Y : Int) (hX : X = x) (hY : Y = y) (w : World) (hx : x < 18446744073709551616) (hy : y < 18446744073709551616) (g : Nat) (hg : gcdN x y = g) :
    Calls Tryz.prog 75 #[.int .u64 X, .int .u64 Y] w fun e w' => e = .returned (.int .u64 (g : Int)) ∧ Below w.heap.size w w' := by
  subst hX hY
  have Hg := Lib.hid hg
  have Hb := Lib.hid (Below.refl w.heap.size w)
  clear hg
  go_enter Tryz.func75, Tryz.ntmps75
  go_wp2
  go_loopw [0, 1] (fun a b wr => ∃ (x y : Nat), a = .int .u64 (x : Int) ∧ b = .int .u64 (y : Int) ∧ x < 18446744073709551616 ∧ y < 18446744073709551616 ∧ RowKit.Hid (gcdN x y = g) ∧ RowKit.Hid (Below w.heap.size w wr)) (fun _ b _ => (intOf b).toNat)
  case atStart => exact ⟨x, y, rfl, rfl, hx, hy, Hg, Hb⟩
  case round =>
    clear hx hy Hg Hb
    obtain ⟨x, y, rfl, rfl, hx, hy, Hg, Hb⟩ := hrel
    by_cases h0 : y = 0
    · subst h0
      have He := Lib.hid (gcdN_end Hg.out)
      go_wp2
      go_ret
      exact ⟨ret_int (by rw [He.out]), Hb.out⟩
    · have hne : ((y : Int) == 0) = false := by simp; omega
      have hne2 : ((y : Int) != 0) = true := by simp; omega
      obtain ⟨m, hm⟩ : ∃ m, m = x % y := ⟨_, rfl⟩
      have hml : m < y := by rw [hm]; exact Nat.mod_lt _ (by omega)
      have em : (x : Int) % (y : Int) = (m : Int) := by rw [hm]; simp
      have Hg2 : RowKit.Hid (gcdN y m = g) := by show _ = _; rw [hm]; exact gcdN_step Hg.out
      have hy0 : 0 < y := by omega
      clear hm Hg h0
      go_wp2
      go_quiet (fail)
      have Hb2 := Lib.hid (below_drewN Hb.out nq)
      clear Hb
      go_wp2
      go_roundw
      case rel => exact ⟨y, m, rfl, by rw [em], hy, by omega, Hg2, Hb2⟩
      case measure => simp [intOf]; omega

end Go.Proofs.YtohciicocaoagaaGreat

/- What package quo's mix.of answers, as a contract over memory: the sum of multiples of two numbers, in its shortest limbs. Conditions: both read as limbs, the second one not longer, of at most 10^8 of them; the multipliers are below 2^31, one of them not above 0 and one not below; the sum is not below 0 and fits in the first one's limbs. -/
namespace Go.Proofs.YtohciicocaoagaaGreat.Limb

/-- A sum of multiples, limb by limb. -/
def OfInv (P Q : Int) (xs ys zs : List Nat) (k : Nat) (cy : Int) : Prop :=
  zs.length = xs.length ∧ ((val (zs.take k) : Nat) : Int) + cy * ((4294967296 ^ k : Nat) : Int) = P * ((val (xs.take k) : Nat) : Int) + Q * ((val (ys.take k) : Nat) : Int)

theorem OfInv.start (P Q : Int) (xs ys zs : List Nat) (h : zs.length = xs.length) : OfInv P Q xs ys zs 0 0 := ⟨h, by simp [val]⟩

theorem of_step {Z cy E P Q X Y x y lo c2 : Int} (h : Z + cy * E = P * X + Q * Y) (hs : cy + (P * x + Q * y) = lo + c2 * 4294967296) : Z + E * lo + c2 * (E * 4294967296) = P * (X + E * x) + Q * (Y + E * y) := by grind

theorem OfInv.step {P Q : Int} {xs ys zs : List Nat} {k lo : Nat} {cy c2 : Int} (h : OfInv P Q xs ys zs k cy) (hk : k < xs.length) (hs : cy + (P * ((lim xs k : Nat) : Int) + Q * ((lim ys k : Nat) : Int)) = (lo : Int) + c2 * 4294967296) :
    OfInv P Q xs ys (zs.set k lo) (k + 1) c2 := by
  obtain ⟨h1, h2⟩ := h
  refine ⟨by simpa using h1, ?_⟩
  rw [val_take_set (by omega), val_take_lim xs, val_take_lim ys, Nat.pow_succ]
  simp only [Int.natCast_add, Int.natCast_mul]
  exact of_step h2 hs

theorem OfInv.done {P Q : Int} {xs ys zs : List Nat} {k v : Nat} {cy : Int} (h : OfInv P Q xs ys zs k cy) (hk : k = xs.length) (hy : ys.length ≤ k) (hz : Small zs) (hv : P * ((val xs : Nat) : Int) + Q * ((val ys : Nat) : Int) = (v : Int)) (hv2 : v < 4294967296 ^ k) : val zs = v := by
  obtain ⟨h1, h2⟩ := h
  rw [List.take_of_length_le (by omega), List.take_of_length_le (by omega), List.take_of_length_le hy, hv] at h2
  have h3 := val_lt hz
  rw [h1, ← hk] at h3
  generalize 4294967296 ^ k = E at *
  have h4 : cy = 0 := by
    rcases Int.lt_trichotomy cy 0 with h | h | h
    · exfalso
      have : (cy + 1) * (E : Int) ≤ 0 := Int.mul_nonpos_of_nonpos_of_nonneg (by omega) (by omega)
      rw [Int.add_mul, Int.one_mul] at this
      omega
    · exact h
    · exfalso
      have : 0 ≤ (cy - 1) * (E : Int) := Int.mul_nonneg (by omega) (by omega)
      rw [Int.sub_mul, Int.one_mul] at this
      omega
  subst h4
  omega

/-- Multipliers below 2^31, not both on one side of 0. -/
def MixOk (P Q : Int) : Prop := -2147483648 < P ∧ P < 2147483648 ∧ -2147483648 < Q ∧ Q < 2147483648 ∧ ((0 ≤ P ∧ Q ≤ 0) ∨ (P ≤ 0 ∧ 0 ≤ Q))

theorem mul_bd {a x : Int} (hx0 : 0 ≤ x) (hx : x ≤ 4294967295) (ha : 0 ≤ a) : 0 ≤ a * x ∧ a * x ≤ a * 4294967295 := ⟨Int.mul_nonneg ha hx0, Int.mul_le_mul_of_nonneg_left hx ha⟩
theorem mul_bd' {a x : Int} (hx0 : 0 ≤ x) (hx : x ≤ 4294967295) (ha : a ≤ 0) : a * x ≤ 0 ∧ a * 4294967295 ≤ a * x := by
  have h1 := Int.mul_nonneg (show 0 ≤ -a by omega) hx0
  have h2 := Int.mul_le_mul_of_nonneg_left hx (show 0 ≤ -a by omega)
  rw [Int.neg_mul] at h1 h2
  rw [Int.neg_mul] at h2
  omega

theorem mix_bound {P Q : Int} (h : MixOk P Q) : ∃ lo hi : Int, -2147483648 < lo ∧ lo ≤ 0 ∧ 0 ≤ hi ∧ hi < 2147483648 ∧ ∀ x y : Int, 0 ≤ x → x ≤ 4294967295 → 0 ≤ y → y ≤ 4294967295 →
    lo * 4294967295 ≤ P * x + Q * y ∧ P * x + Q * y ≤ hi * 4294967295 ∧ -9223372036854775808 ≤ P * x ∧ P * x ≤ 9223372036854775807 ∧ -9223372036854775808 ≤ Q * y ∧ Q * y ≤ 9223372036854775807 := by
  obtain ⟨h1, h2, h3, h4, h5⟩ := h
  rcases h5 with ⟨h5, h6⟩ | ⟨h5, h6⟩
  · refine ⟨Q, P, h3, h6, h5, h2, fun x y a b c d => ?_⟩
    have e1 := mul_bd a b h5
    have e2 := mul_bd' c d h6
    omega
  · refine ⟨P, Q, h1, h5, h6, h4, fun x y a b c d => ?_⟩
    have e1 := mul_bd' a b h5
    have e2 := mul_bd c d h6
    omega

end Go.Proofs.YtohciicocaoagaaGreat.Limb
namespace Go.Proofs.YtohciicocaoagaaGreat
open Go.RowKit Limb
set_option linter.unusedVariables false

set_option maxHeartbeats 600000 in
theorem of_mix (P Q : Int) (A : Option Addr) (n c : Nat) (xs : List Nat) (A' : Option Addr) (n' c' : Nat) (ys : List Nat) (w : World) (hx : IsN w A n xs) (hy : IsN w A' n' ys) (hm : n ≤ 100000000) (hn : n' ≤ n) (hPQ : MixOk P Q)
    (v : Nat) (hv : P * ((val xs : Nat) : Int) + Q * ((val ys : Nat) : Int) = (v : Int)) (hv2 : v < 4294967296 ^ n) :
    Calls Tryz.prog 96 #[.agg #[.int .i64 P, .int .i64 Q], .slice A n c, .slice A' n' c'] w fun e w' => ∃ A2 n2 c2, e = .returned (.slice A2 n2 c2) ∧ OwnN w' w.heap.size A2 n2 c2 (limbs v) ∧ Below w.heap.size w w' := by
  obtain ⟨lo, hi, hlo1, hlo2, hhi1, hhi2, hbd⟩ := mix_bound hPQ
  have Hbd := Lib.hid hbd
  have Hv := Lib.hid hv
  have Hv2 := Lib.hid hv2
  obtain ⟨p1, p2, q1, q2, _⟩ := hPQ
  have hmk := run_made (n : Int) n rfl (by omega)
  have hbx := below_new w (.cells #[.int .i64 P, .int .i64 Q] 87)
  have cP : (w.alloc (.cells #[.int .i64 P, .int .i64 Q] 87)).cell? ⟨w.heap.size, 0, none⟩ = some (.int .i64 P) := by
    rw [World.cell?_alloc_at _ _ _ _ rfl]; rfl
  have cQ : (w.alloc (.cells #[.int .i64 P, .int .i64 Q] 87)).cell? ⟨w.heap.size, 1, none⟩ = some (.int .i64 Q) := by
    rw [World.cell?_alloc_at _ _ _ _ rfl]; rfl
  have hx1 := hx.below hbx
  have hy1 := hy.below hbx
  have Hbx := Lib.hid hbx
  obtain ⟨w1, hw1⟩ : ∃ x, x = w.alloc (.cells #[.int .i64 P, .int .i64 Q] 87) := ⟨_, rfl⟩
  have hsz : w1.heap.size = w.heap.size + 1 := by rw [hw1]; simp
  have Hw1 := Lib.hid hw1
  rw [← hw1] at cP cQ hx1 hy1 Hbx
  have Hrow : RowKit.Hid (OwnN (w1.alloc (.cells (madeCells #[.int .u32 0] n) 43)) (w.heap.size + 1) (some ⟨w.heap.size + 1, 0, none⟩) n n (List.replicate n 0)) := by
    have h := own_made w1 n (by omega)
    rw [hsz] at h
    exact h
  have Hb1 : RowKit.Hid (Below (w.heap.size + 1) w1 (w1.alloc (.cells (madeCells #[.int .u32 0] n) 43))) := by
    have h := below_new w1 (.cells (madeCells #[.int .u32 0] n) 43)
    rw [hsz] at h
    exact h
  have Hsz := Lib.hid hsz
  have Hst := Lib.hid (OfInv.start P Q xs ys (List.replicate n 0) (by rw [List.length_replicate, hx1.len]))
  have Hxl := Lib.hid hx1.len
  have Hyl := Lib.hid hy1.len
  clear hbd hv hv2 hbx hx hy hsz hw1
  go_enter Tryz.func96, Tryz.ntmps96
  go_wp2
  rw [← Hw1.out]
  go_loopw [15, 8] (fun i cv wr => ∃ (k : Nat) (cy : Int) (zs : List Nat), k ≤ n ∧ i = .int .i64 (k : Int) ∧ cv = .int .i64 cy ∧ lo ≤ cy ∧ cy ≤ hi ∧ RowKit.Hid (OfInv P Q xs ys zs k cy) ∧ RowKit.Hid (OwnN wr (w.heap.size + 1) (some ⟨w.heap.size + 1, 0, none⟩) n n zs) ∧ RowKit.Hid (Below (w.heap.size + 1) w1 wr)) (fun i _ _ => n - (intOf i).toNat)
  case atStart => exact ⟨0, 0, _, Nat.zero_le _, rfl, rfl, hlo2, hhi1, Hst, Hrow, Hb1⟩
  case round =>
    clear Hst Hrow Hb1 hmk
    obtain ⟨k, cy, zs, hk, rfl, rfl, hc1, hc2, Hinv, Hrow, Hb⟩ := hrel
    by_cases hkn : k < n
    · have hb := Hb.out
      rw [← Hsz.out] at hb
      have hxk := hx1.below hb
      have hyk := hy1.below hb
      have dP : wr.cell? ⟨w.heap.size, 0, none⟩ = some (.int .i64 P) := (Hb.out.cell (p := ⟨w.heap.size, 0, none⟩) (Nat.lt_succ_self _)).trans cP
      have dQ : wr.cell? ⟨w.heap.size, 1, none⟩ = some (.int .i64 Q) := (Hb.out.cell (p := ⟨w.heap.size, 1, none⟩) (Nat.lt_succ_self _)).trans cQ
      have lx := lim_lt hxk.small k
      have ly := lim_lt hyk.small k
      have HA := Lib.hid (fun nd => limbAt_q (c := c) hxk (by omega) k _ rfl (by omega) nd)
      have HB := Lib.hid (fun nd => limbAt_q (c := c') hyk (by omega) k _ rfl (by omega) nd)
      obtain ⟨b1, b2, b3, b4, b5, b6⟩ := Hbd.out ((lim xs k : Nat) : Int) ((lim ys k : Nat) : Int) (by omega) (by omega) (by omega) (by omega)
      obtain ⟨px, hpx⟩ : ∃ x, x = P * ((lim xs k : Nat) : Int) := ⟨_, rfl⟩
      obtain ⟨qy, hqy⟩ : ∃ x, x = Q * ((lim ys k : Nat) : Int) := ⟨_, rfl⟩
      rw [← hpx, ← hqy] at b1 b2
      rw [← hpx] at b3 b4
      rw [← hqy] at b5 b6
      obtain ⟨l, hl⟩ : ∃ l : Nat, (l : Int) = (cy + (px + qy)) % 4294967296 := ⟨((cy + (px + qy)) % 4294967296).toNat, by omega⟩
      obtain ⟨c2, hc2'⟩ : ∃ c2 : Int, c2 = (cy + (px + qy)) / 4294967296 := ⟨_, rfl⟩
      have hl4 : l < 4294967296 := by omega
      have hs : cy + (px + qy) = (l : Int) + c2 * 4294967296 := by omega
      have hc3 : lo ≤ c2 := by omega
      have hc4 : c2 ≤ hi := by omega
      have Hst : RowKit.Hid (OfInv P Q xs ys (zs.set k l) (k + 1) c2) := Hinv.out.step (by rw [Hxl.out]; exact hkn) (by rw [← hpx, ← hqy]; exact hs)
      have w1' : IntKind.i64.wrap (P * ((lim xs k : Nat) : Int)) = px := by rw [← hpx]; exact IntWalk.i64_in _ (by omega)
      have w2' : IntKind.i64.wrap (Q * ((lim ys k : Nat) : Int)) = qy := by rw [← hqy]; exact IntWalk.i64_in _ (by omega)
      have w3' : IntKind.i64.wrap (px + qy) = px + qy := IntWalk.i64_in _ (by omega)
      have w4' : IntKind.i64.wrap (cy + (px + qy)) = cy + (px + qy) := IntWalk.i64_in _ (by omega)
      have w5' : IntKind.i64.wrap ((lim xs k : Nat) : Int) = ((lim xs k : Nat) : Int) := IntWalk.i64_in _ (by omega)
      have w6' : IntKind.i64.wrap ((lim ys k : Nat) : Int) = ((lim ys k : Nat) : Int) := IntWalk.i64_in _ (by omega)
      have es : (cy + (px + qy)) % 4294967296 = (l : Int) := hl.symm
      have eh : (cy + (px + qy)) / 4294967296 = c2 := hc2'.symm
      clear hb hxk hyk hpx hqy hl hc2' hs Hinv
      go_wp2
      go_quiet ((first | (go_at_call 97; with_reducible exact HA.out _) | (go_at_call 97; with_reducible exact HB.out _)))
      have Hrow2 : RowKit.Hid (OwnN (wr.drewN nq) (w.heap.size + 1) (some ⟨w.heap.size + 1, 0, none⟩) n n zs) := Hrow.out.below (below_drewN (Below.refl _ _) nq) (Nat.le_refl _)
      have Hb2 := Lib.hid (below_drewN Hb.out nq)
      clear Hrow Hb w1' w2' w3' w4' w5' w6' dP dQ HA HB
      generalize wr.drewN nq = w2 at *
      have c0 := Hrow2.out.cell (k := k) (by omega)
      have f0 := Hrow2.out.1.frozenAt k
      have Hset := Lib.hid (Hrow2.out.set k hl4)
      have Hb3 : RowKit.Hid (Below (w.heap.size + 1) w1 (w2.setCell ⟨w.heap.size + 1, k, none⟩ (.int .u32 (l : Int)))) := Hb2.out.setCell (by exact Nat.le_refl _) _
      clear Hrow2 Hb2
      go_wp2
      go_roundw
      case rel => exact ⟨k + 1, c2, zs.set k l, by omega, by go_num, rfl, hc3, hc4, Hst, Hset, Hb3⟩
      case measure => simp [intOf]; omega
    · obtain rfl : k = n := by omega
      have hz := Hrow.out.isN
      have hsm := Hrow.out.small
      have hval := Hinv.out.done Hxl.out.symm (by rw [Hyl.out]; exact hn) hsm Hv.out Hv2.out
      have Hval := Lib.hid hval
      clear hval
      go_wp2_with fail
      refine (trim_any _ k k zs wr hz (Nat.le_refl _) (by omega)).mono ?_
      rintro e w5 ⟨A5, n5, c5, rfl, how, hb5⟩
      have How : RowKit.Hid (OwnN w5 w.heap.size A5 n5 c5 (limbs v)) := by
        rw [trim_eq_limbs hsm, Hval.out] at how
        have hs := Hb.out.size
        exact how.mono (by have := Hsz.out; omega)
      have HW : RowKit.Hid (Below w.heap.size w w5) := by
        have hb := Hb.out
        rw [← Hsz.out] at hb
        exact below_two (below_two Hbx.out hb) hb5
      clear how hb5
      go_wp2
      go_ret
      exact ⟨_, _, _, rfl, How.out, HW.out⟩

end Go.Proofs.YtohciicocaoagaaGreat
