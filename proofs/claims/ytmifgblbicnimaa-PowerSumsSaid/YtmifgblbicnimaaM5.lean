/- Part 5 of the texts that the statements of this seat lean on: mathematics, and what functions answer, as contracts over memory; each part says its own conditions. -/
import Derived.Test.YtmifgblbicnimaaM4
import Derived.Deep.RegionHeld3
import Derived.Deep.CutRange
import Derived.Lib.SliceRun
import Derived.BigQuiet
import Derived.IntWalk
import Derived.Deep.QuietTactic
import Derived.Laws.Rows
import Derived.RegionTactic
import Derived.BigRegion
/- What the reference of layer 7 answers (Add, Mul, Sub, Div), as contracts over memory. Conditions: sizes of at most so many limbs. -/
namespace Go.Proofs.Ytmifgblbicnimaa
open Go.RowKit Limb
set_option linter.unusedVariables false
section
variable {w : World} {s s' : Bool} {A B A' B' : Option Addr} {n c m d n' c' m' d' : Nat} {xs ys xs' ys' : List Nat} {x y : Int} {o o' : Option Rat} {a b L L' : Nat}
set_option maxHeartbeats 4000000 in
set_option maxRecDepth 100000 in
theorem refQDiv_c (hx : QQ w s A n c xs B m d ys o L) (hx' : QQ w s' A' n' c' xs' B' m' d' ys' o' L') (h1 : L ≤ 1000) (h2 : L' ≤ 1000) (r : Option Rat) (e : Int) (hR : divR o o' = (r, e)) :
    Calls Try.prog 46 #[.agg #[.bool s, .slice A n c, .slice B m d], .agg #[.bool s', .slice A' n' c', .slice B' m' d']] w fun ee w' => ∃ A2 n2 c2 B2 m2 d2, ee = .returned (.agg #[.bool (sg (oTop r)), .slice A2 n2 c2, .slice B2 m2 d2, .int .i64 e]) ∧ QT w' A2 n2 c2 B2 m2 d2 r ∧ Below w.heap.size w w' := by
  cases o with
  | none =>
    have hR2 : ((none : Option Rat), (1 : Int)) = (r, e) := hR
    cases hR2
    clear hR
    have b0 := below_new w (.cells #[Value.bool s, Value.slice A n c, Value.slice B m d] 27)
    have b1 := below_new (w.alloc (.cells #[Value.bool s, Value.slice A n c, Value.slice B m d] 27)) (.cells #[Value.bool s', Value.slice A' n' c', Value.slice B' m' d'] 27)
    have b2 := below_new ((w.alloc (.cells #[Value.bool s, Value.slice A n c, Value.slice B m d] 27)).alloc (.cells #[Value.bool s', Value.slice A' n' c', Value.slice B' m' d'] 27)) (.cells #[Value.bool false, Value.slice none 0 0, Value.slice none 0 0, Value.int IntKind.i64 0] 35)
    have HW := Lib.hid (below_two (below_two b0 b1) b2)
    have HQ0 := Lib.hid (hx.below HW.out)
    have HQ1 := Lib.hid (hx'.below HW.out)
    have r0 := ((row3_new w 27 (.bool s) (.slice A n c) (.slice B m d)).below b1).below b2
    have r1 := (row3_new (w.alloc (.cells #[Value.bool s, Value.slice A n c, Value.slice B m d] 27)) 27 (.bool s') (.slice A' n' c') (.slice B' m' d')).below b2
    have rz := row4_new ((w.alloc (.cells #[Value.bool s, Value.slice A n c, Value.slice B m d] 27)).alloc (.cells #[Value.bool s', Value.slice A' n' c', Value.slice B' m' d'] 27)) 35 (.bool false) (.slice none 0 0) (.slice none 0 0) (.int .i64 0)
    simp only [World.size_alloc] at r1 rz
    clear b0 b1 b2 hx hx'
    go_enter Try.func46, Try.ntmps46
    go_wp2_with fail
    generalize ((w.alloc (.cells #[Value.bool s, Value.slice A n c, Value.slice B m d] 27)).alloc (.cells #[Value.bool s', Value.slice A' n' c', Value.slice B' m' d'] 27)).alloc (.cells #[Value.bool false, Value.slice none 0 0, Value.slice none 0 0, Value.int IntKind.i64 0] 35) = w1 at *
    have HR0 := Lib.hid r0
    have HR1 := Lib.hid r1
    have HZ := Lib.hid rz
    have Hq : RowKit.Hid (w.heap.size ≤ w.heap.size + 1 + 1) := by show _ ≤ _; omega
    clear r0 r1 rz
    refine (refGood_c HQ0.out (by omega) false rfl).mono ?_
    rintro e w2 ⟨rfl, bn⟩
    replace HQ0 := Lib.hid (HQ0.out.below bn)
    replace HR0 := Lib.hid (HR0.out.below bn)
    replace HQ1 := Lib.hid (HQ1.out.below bn)
    replace HR1 := Lib.hid (HR1.out.below bn)
    replace HZ := Lib.hid (HZ.out.below bn)
    replace HW := Lib.hid (below_two HW.out bn)
    clear bn
    have e0 := HZ.out.c0
    have e1 := HZ.out.c1
    have e2 := HZ.out.c2
    have e3 := HZ.out.c3
    have f0 := HZ.out.free 0
    have f1 := HZ.out.free 1
    have f2 := HZ.out.free 2
    have f3 := HZ.out.free 3
    have HF := Lib.hid (HZ.out.fill (.bool false) (.slice none 0 0) (.slice none 0 0) (.int .i64 1))
    have HB := Lib.hid (below_fill4 HW.out Hq.out (.bool false) (.slice none 0 0) (.slice none 0 0) (.int .i64 1))
    go_wp2
    refine bodyPost_ret (results_cell_row rfl _ _ _ 35 #[.bool false, .slice none 0 0, .slice none 0 0, .int .i64 1] (0, 0) _ rfl HF.out Try.underlying35 rfl got7_size) rfl ?_
    exact ⟨none, 0, 0, none, 0, 0, rfl, qt_none _ 0 0, HB.out⟩
  | some p =>
    cases o' with
    | none =>
      have hR2 : ((none : Option Rat), (1 : Int)) = (r, e) := hR
      cases hR2
      clear hR
      have b0 := below_new w (.cells #[Value.bool s, Value.slice A n c, Value.slice B m d] 27)
      have b1 := below_new (w.alloc (.cells #[Value.bool s, Value.slice A n c, Value.slice B m d] 27)) (.cells #[Value.bool s', Value.slice A' n' c', Value.slice B' m' d'] 27)
      have b2 := below_new ((w.alloc (.cells #[Value.bool s, Value.slice A n c, Value.slice B m d] 27)).alloc (.cells #[Value.bool s', Value.slice A' n' c', Value.slice B' m' d'] 27)) (.cells #[Value.bool false, Value.slice none 0 0, Value.slice none 0 0, Value.int IntKind.i64 0] 35)
      have HW := Lib.hid (below_two (below_two b0 b1) b2)
      have HQ0 := Lib.hid (hx.below HW.out)
      have HQ1 := Lib.hid (hx'.below HW.out)
      have r0 := ((row3_new w 27 (.bool s) (.slice A n c) (.slice B m d)).below b1).below b2
      have r1 := (row3_new (w.alloc (.cells #[Value.bool s, Value.slice A n c, Value.slice B m d] 27)) 27 (.bool s') (.slice A' n' c') (.slice B' m' d')).below b2
      have rz := row4_new ((w.alloc (.cells #[Value.bool s, Value.slice A n c, Value.slice B m d] 27)).alloc (.cells #[Value.bool s', Value.slice A' n' c', Value.slice B' m' d'] 27)) 35 (.bool false) (.slice none 0 0) (.slice none 0 0) (.int .i64 0)
      simp only [World.size_alloc] at r1 rz
      clear b0 b1 b2 hx hx'
      go_enter Try.func46, Try.ntmps46
      go_wp2_with fail
      generalize ((w.alloc (.cells #[Value.bool s, Value.slice A n c, Value.slice B m d] 27)).alloc (.cells #[Value.bool s', Value.slice A' n' c', Value.slice B' m' d'] 27)).alloc (.cells #[Value.bool false, Value.slice none 0 0, Value.slice none 0 0, Value.int IntKind.i64 0] 35) = w1 at *
      have HR0 := Lib.hid r0
      have HR1 := Lib.hid r1
      have HZ := Lib.hid rz
      have Hq : RowKit.Hid (w.heap.size ≤ w.heap.size + 1 + 1) := by show _ ≤ _; omega
      clear r0 r1 rz
      refine (refGood_c HQ0.out (by omega) true rfl).mono ?_
      rintro e w2 ⟨rfl, bn⟩
      replace HQ0 := Lib.hid (HQ0.out.below bn)
      replace HR0 := Lib.hid (HR0.out.below bn)
      replace HQ1 := Lib.hid (HQ1.out.below bn)
      replace HR1 := Lib.hid (HR1.out.below bn)
      replace HZ := Lib.hid (HZ.out.below bn)
      replace HW := Lib.hid (below_two HW.out bn)
      clear bn
      have c10 := HR1.out.c0
      have c11 := HR1.out.c1
      have c12 := HR1.out.c2
      go_wp2_with fail
      clear c10 c11 c12
      refine (refGood_c HQ1.out (by omega) false rfl).mono ?_
      rintro e w2 ⟨rfl, bn⟩
      replace HQ0 := Lib.hid (HQ0.out.below bn)
      replace HR0 := Lib.hid (HR0.out.below bn)
      replace HQ1 := Lib.hid (HQ1.out.below bn)
      replace HR1 := Lib.hid (HR1.out.below bn)
      replace HZ := Lib.hid (HZ.out.below bn)
      replace HW := Lib.hid (below_two HW.out bn)
      clear bn
      have e0 := HZ.out.c0
      have e1 := HZ.out.c1
      have e2 := HZ.out.c2
      have e3 := HZ.out.c3
      have f0 := HZ.out.free 0
      have f1 := HZ.out.free 1
      have f2 := HZ.out.free 2
      have f3 := HZ.out.free 3
      have HF := Lib.hid (HZ.out.fill (.bool false) (.slice none 0 0) (.slice none 0 0) (.int .i64 1))
      have HB := Lib.hid (below_fill4 HW.out Hq.out (.bool false) (.slice none 0 0) (.slice none 0 0) (.int .i64 1))
      go_wp2
      refine bodyPost_ret (results_cell_row rfl _ _ _ 35 #[.bool false, .slice none 0 0, .slice none 0 0, .int .i64 1] (0, 0) _ rfl HF.out Try.underlying35 rfl got7_size) rfl ?_
      exact ⟨none, 0, 0, none, 0, 0, rfl, qt_none _ 0 0, HB.out⟩
    | some q =>
      by_cases h0 : q.num = 0
      · obtain ⟨rfl, rfl⟩ : r = none ∧ e = 3 := by
          have h2 : (if q.num = 0 then ((none : Option Rat), (3 : Int)) else limR (p / q)) = (r, e) := hR
          rw [if_pos h0] at h2
          cases h2; exact ⟨rfl, rfl⟩
        clear hR
        have n0 : ((n' : Int) == 0) = true := by
          rw [beq_iff_eq]
          have hl := hx'.some.2.2.2.2.1.nn.isN.len
          rw [hx'.some.2.1, h0] at hl
          have hl2 : (limbs (0 : Int).natAbs).length = 0 := by rw [show (0 : Int).natAbs = 0 from rfl, limbs_zero]; rfl
          omega
        clear h0
        have b0 := below_new w (.cells #[Value.bool s, Value.slice A n c, Value.slice B m d] 27)
        have b1 := below_new (w.alloc (.cells #[Value.bool s, Value.slice A n c, Value.slice B m d] 27)) (.cells #[Value.bool s', Value.slice A' n' c', Value.slice B' m' d'] 27)
        have b2 := below_new ((w.alloc (.cells #[Value.bool s, Value.slice A n c, Value.slice B m d] 27)).alloc (.cells #[Value.bool s', Value.slice A' n' c', Value.slice B' m' d'] 27)) (.cells #[Value.bool false, Value.slice none 0 0, Value.slice none 0 0, Value.int IntKind.i64 0] 35)
        have HW := Lib.hid (below_two (below_two b0 b1) b2)
        have HQ0 := Lib.hid (hx.below HW.out)
        have HQ1 := Lib.hid (hx'.below HW.out)
        have r0 := ((row3_new w 27 (.bool s) (.slice A n c) (.slice B m d)).below b1).below b2
        have r1 := (row3_new (w.alloc (.cells #[Value.bool s, Value.slice A n c, Value.slice B m d] 27)) 27 (.bool s') (.slice A' n' c') (.slice B' m' d')).below b2
        have rz := row4_new ((w.alloc (.cells #[Value.bool s, Value.slice A n c, Value.slice B m d] 27)).alloc (.cells #[Value.bool s', Value.slice A' n' c', Value.slice B' m' d'] 27)) 35 (.bool false) (.slice none 0 0) (.slice none 0 0) (.int .i64 0)
        simp only [World.size_alloc] at r1 rz
        clear b0 b1 b2 hx hx'
        go_enter Try.func46, Try.ntmps46
        go_wp2_with fail
        generalize ((w.alloc (.cells #[Value.bool s, Value.slice A n c, Value.slice B m d] 27)).alloc (.cells #[Value.bool s', Value.slice A' n' c', Value.slice B' m' d'] 27)).alloc (.cells #[Value.bool false, Value.slice none 0 0, Value.slice none 0 0, Value.int IntKind.i64 0] 35) = w1 at *
        have HR0 := Lib.hid r0
        have HR1 := Lib.hid r1
        have HZ := Lib.hid rz
        have Hq : RowKit.Hid (w.heap.size ≤ w.heap.size + 1 + 1) := by show _ ≤ _; omega
        clear r0 r1 rz
        refine (refGood_c HQ0.out (by omega) true rfl).mono ?_
        rintro e w2 ⟨rfl, bn⟩
        replace HQ0 := Lib.hid (HQ0.out.below bn)
        replace HR0 := Lib.hid (HR0.out.below bn)
        replace HQ1 := Lib.hid (HQ1.out.below bn)
        replace HR1 := Lib.hid (HR1.out.below bn)
        replace HZ := Lib.hid (HZ.out.below bn)
        replace HW := Lib.hid (below_two HW.out bn)
        clear bn
        have c10 := HR1.out.c0
        have c11 := HR1.out.c1
        have c12 := HR1.out.c2
        go_wp2_with fail
        clear c10 c11 c12
        refine (refGood_c HQ1.out (by omega) true rfl).mono ?_
        rintro e w2 ⟨rfl, bn⟩
        replace HQ0 := Lib.hid (HQ0.out.below bn)
        replace HR0 := Lib.hid (HR0.out.below bn)
        replace HQ1 := Lib.hid (HQ1.out.below bn)
        replace HR1 := Lib.hid (HR1.out.below bn)
        replace HZ := Lib.hid (HZ.out.below bn)
        replace HW := Lib.hid (below_two HW.out bn)
        clear bn
        have c10 := HR1.out.c0
        have c11 := HR1.out.c1
        have c12 := HR1.out.c2
        have e0 := HZ.out.c0
        have e1 := HZ.out.c1
        have e2 := HZ.out.c2
        have e3 := HZ.out.c3
        have f0 := HZ.out.free 0
        have f1 := HZ.out.free 1
        have f2 := HZ.out.free 2
        have f3 := HZ.out.free 3
        have HF := Lib.hid (HZ.out.fill (.bool false) (.slice none 0 0) (.slice none 0 0) (.int .i64 3))
        have HB := Lib.hid (below_fill4 HW.out Hq.out (.bool false) (.slice none 0 0) (.slice none 0 0) (.int .i64 3))
        go_wp2
        refine bodyPost_ret (results_cell_row rfl _ _ _ 35 #[.bool false, .slice none 0 0, .slice none 0 0, .int .i64 3] (0, 0) _ rfl HF.out Try.underlying35 rfl got7_size) rfl ?_
        exact ⟨none, 0, 0, none, 0, 0, rfl, qt_none _ 0 0, HB.out⟩
      · have hR0 : limR (p / q) = (r, e) := by
          have h2 : (if q.num = 0 then ((none : Option Rat), (3 : Int)) else limR (p / q)) = (r, e) := hR
          rwa [if_neg h0] at h2
        clear hR
        have hR := hR0
        clear hR0
        obtain ⟨z, hz⟩ : ∃ z : Rat, p / q = z := ⟨_, rfl⟩
        have hL : limR z = (r, e) := by rw [← hz]; exact hR
        clear hR
        have hL2 : (limQ z, limE z) = (r, e) := hL
        cases hL2
        clear hL
        have HM : RowKit.Hid (mkRat (p.num * zOf (sg q.num) q.den) (p.den * q.num.natAbs) = z) := by
          show _ = _
          rw [← hz]; exact (div_mk h0).symm
        clear hz
        have n0 : ((n' : Int) == 0) = false := by
          rw [beq_eq_false_iff_ne]
          intro h
          have hl := hx'.some.2.2.2.2.1.nn.isN.len
          rw [hx'.some.2.1] at hl
          have hl2 := len_limbs_zero.1 (hl.trans (by omega))
          omega
        have HN0 : RowKit.Hid (q.num.natAbs ≠ 0) := by show _ ≠ _; omega
        have HSG := Lib.hid hx'.some.1
        clear h0
        have b0 := below_new w (.cells #[Value.bool s, Value.slice A n c, Value.slice B m d] 27)
        have b1 := below_new (w.alloc (.cells #[Value.bool s, Value.slice A n c, Value.slice B m d] 27)) (.cells #[Value.bool s', Value.slice A' n' c', Value.slice B' m' d'] 27)
        have b2 := below_new ((w.alloc (.cells #[Value.bool s, Value.slice A n c, Value.slice B m d] 27)).alloc (.cells #[Value.bool s', Value.slice A' n' c', Value.slice B' m' d'] 27)) (.cells #[Value.bool false, Value.slice none 0 0, Value.slice none 0 0, Value.int IntKind.i64 0] 35)
        have HW := Lib.hid (below_two (below_two b0 b1) b2)
        have HQ0 := Lib.hid (hx.below HW.out)
        have HQ1 := Lib.hid (hx'.below HW.out)
        have r0 := ((row3_new w 27 (.bool s) (.slice A n c) (.slice B m d)).below b1).below b2
        have r1 := (row3_new (w.alloc (.cells #[Value.bool s, Value.slice A n c, Value.slice B m d] 27)) 27 (.bool s') (.slice A' n' c') (.slice B' m' d')).below b2
        have rz := row4_new ((w.alloc (.cells #[Value.bool s, Value.slice A n c, Value.slice B m d] 27)).alloc (.cells #[Value.bool s', Value.slice A' n' c', Value.slice B' m' d'] 27)) 35 (.bool false) (.slice none 0 0) (.slice none 0 0) (.int .i64 0)
        simp only [World.size_alloc] at r1 rz
        clear b0 b1 b2 hx hx'
        go_enter Try.func46, Try.ntmps46
        go_wp2_with fail
        generalize ((w.alloc (.cells #[Value.bool s, Value.slice A n c, Value.slice B m d] 27)).alloc (.cells #[Value.bool s', Value.slice A' n' c', Value.slice B' m' d'] 27)).alloc (.cells #[Value.bool false, Value.slice none 0 0, Value.slice none 0 0, Value.int IntKind.i64 0] 35) = w1 at *
        have HR0 := Lib.hid r0
        have HR1 := Lib.hid r1
        have HZ := Lib.hid rz
        have Hq : RowKit.Hid (w.heap.size ≤ w.heap.size + 1 + 1) := by show _ ≤ _; omega
        clear r0 r1 rz
        refine (refGood_c HQ0.out (by omega) true rfl).mono ?_
        rintro e w2 ⟨rfl, bn⟩
        replace HQ0 := Lib.hid (HQ0.out.below bn)
        replace HR0 := Lib.hid (HR0.out.below bn)
        replace HQ1 := Lib.hid (HQ1.out.below bn)
        replace HR1 := Lib.hid (HR1.out.below bn)
        replace HZ := Lib.hid (HZ.out.below bn)
        replace HW := Lib.hid (below_two HW.out bn)
        clear bn
        have c10 := HR1.out.c0
        have c11 := HR1.out.c1
        have c12 := HR1.out.c2
        go_wp2_with fail
        clear c10 c11 c12
        refine (refGood_c HQ1.out (by omega) true rfl).mono ?_
        rintro e wS ⟨rfl, bn⟩
        replace HQ0 := Lib.hid (HQ0.out.below bn)
        replace HR0 := Lib.hid (HR0.out.below bn)
        replace HQ1 := Lib.hid (HQ1.out.below bn)
        replace HR1 := Lib.hid (HR1.out.below bn)
        replace HZ := Lib.hid (HZ.out.below bn)
        replace HW := Lib.hid (below_two HW.out bn)
        clear bn
        have HX := Lib.hid HQ0.out.some.2.2.2.2.1
        have HY := Lib.hid HQ0.out.some.2.2.2.2.2.1
        have HX1 := Lib.hid HQ1.out.some.2.2.2.2.1
        have HY1 := Lib.hid HQ1.out.some.2.2.2.2.2.1
        have c10 := HR1.out.c0
        have c11 := HR1.out.c1
        have c12 := HR1.out.c2
        go_wp2_with fail
        clear c10 c11 c12
        refine region_free 13 1 [20, 21, 22, 23, 24, 25, 26, 27, 28, 29, 30, 31, 32] ?aF14 (fun wx => Below wS.heap.size wS wx) (fun k vv wx => match k with
            | 0 => vv = .agg #[.bool s, .slice A n c, .slice B m d]
            | 1 => vv = .pointer (some ⟨w.heap.size + 1, 0, none⟩)
            | 2 => vv = .pointer (some ⟨w.heap.size + 1, 0, none⟩)
            | 3 => vv = .bool s'
            | 4 => vv = .pointer (some ⟨w.heap.size + 1, 2, none⟩)
            | 5 => vv = .slice B' m' d'
            | 6 => ∃ (e0 : Option Addr) (e1 : Nat) (e2 : Nat), vv = .agg #[.bool (sg (zOf (sg q.num) q.den)), .slice e0 e1 e2] ∧ ZZ wx (sg (zOf (sg q.num) q.den)) e0 e1 e2 (limbs (zOf (sg q.num) q.den).natAbs) (zOf (sg q.num) q.den) 64
            | 7 => vv = .pointer (some ⟨w.heap.size + 1, 0, none⟩)
            | 8 => vv = .pointer (some ⟨w.heap.size + 1, 1, none⟩)
            | 9 => vv = .slice A' n' c'
            | 10 => ∃ (e0 : Option Addr) (e1 : Nat) (e2 : Nat), vv = .agg #[.bool (sg (zOf (sg q.num) q.den)), .slice e0 e1 e2, .slice A' n' c'] ∧ ZZ wx (sg (zOf (sg q.num) q.den)) e0 e1 e2 (limbs (zOf (sg q.num) q.den).natAbs) (zOf (sg q.num) q.den) 64
            | 11 => ∃ (e0 : Option Addr) (e1 : Nat) (e2 : Nat) (e3 : Option Addr) (e4 : Nat) (e5 : Nat), vv = .agg #[.bool (sg z.num), .slice e0 e1 e2, .slice e3 e4 e5] ∧ ZZ wx (sg z.num) e0 e1 e2 (limbs z.num.natAbs) z.num (64 + 64) ∧ NN wx e3 e4 e5 (limbs z.den) z.den (64 + 64)
            | _ => ∃ (e0 : Option Addr) (e1 : Nat) (e2 : Nat) (e3 : Option Addr) (e4 : Nat) (e5 : Nat), vv = .agg #[.bool (sg (oTop (limQ z))), .slice e0 e1 e2, .slice e3 e4 e5, .int .i64 (limE z)] ∧ QT wx e0 e1 e2 e3 e4 e5 (limQ z))
          (fun k => false) (by kernel_rfl) ?haF14 rfl (by kernel_rfl) (by kernel_rfl) (fun _ _ _ _ _ h => h) ?hSb14 ?hPb14 ?hS14 ?hop14 ?hfin14
        case haF14 =>
          intro vals
          simp only [fillAll, List.getElem?_cons_zero, List.getElem?_cons_succ, Act.put, List.setIfInBounds_toArray, List.set_cons_zero, List.set_cons_succ]
          exact rfl
        case hSb14 => exact fun wx w2 hb hS => below_two hS hb
        case hPb14 =>
          intro k v wa wb hb h
          match k, h with
          | 0, h => exact h
          | 1, h => exact h
          | 2, h => exact h
          | 3, h => exact h
          | 4, h => exact h
          | 5, h => exact h
          | 6, ⟨e0, e1, e2, h1, g0⟩ => exact ⟨e0, e1, e2, h1, g0.below hb⟩
          | 7, h => exact h
          | 8, h => exact h
          | 9, h => exact h
          | 10, ⟨e0, e1, e2, h1, g0⟩ => exact ⟨e0, e1, e2, h1, g0.below hb⟩
          | 11, ⟨e0, e1, e2, e3, e4, e5, h1, g0, g1⟩ => exact ⟨e0, e1, e2, e3, e4, e5, h1, g0.below hb, g1.below hb⟩
          | _ + 12, ⟨e0, e1, e2, e3, e4, e5, h1, g0⟩ => exact ⟨e0, e1, e2, e3, e4, e5, h1, g0.below hb⟩
        case hS14 => exact (Below.refl _ _).drew
        case hop14 =>
          refine .cons (k := 0) ?_ (.cons (k := 1) ?_ (.cons (k := 2) ?_ (.cons (k := 3) ?_ (.cons (k := 4) ?_ (.cons (k := 5) ?_ (.cons (k := 6) ?_ (.cons (k := 7) ?_ (.cons (k := 8) ?_ (.cons (k := 9) ?_ (.cons (k := 10) ?_ (.cons (k := 11) ?_ (.cons (k := 12) ?_ (.nil)))))))))))))
          all_goals intro vals wr hS hd KC hK
          all_goals (show Oper.wp _ _ _ _ _ _; dsimp only)
          · have z0 := (HR0.out.below hS).c0
            have z1 := (HR0.out.below hS).c1
            have z2 := (HR0.out.below hS).c2
            go_simp
            refine hK _ _ rfl (Below.refl _ _) (by first | rfl | simp) (fun h => by cases h)
          · go_simp
            refine hK _ _ rfl (Below.refl _ _) (by first | rfl | simp) (fun h => by cases h)
          · have d1 : vals 1 = _ := hd 1 (by decide +kernel)
            rw [d1]
            go_simp
            refine hK _ _ rfl (Below.refl _ _) (by first | rfl | simp) (fun h => by cases h)
          · have d2 : vals 2 = _ := hd 2 (by decide +kernel)
            rw [d2]
            have z0 := (HR1.out.below hS).c0
            go_simp
            refine hK _ _ rfl (Below.refl _ _) (by first | rfl | simp) (fun h => by cases h)
          · go_simp
            refine hK _ _ rfl (Below.refl _ _) (by first | rfl | simp) (fun h => by cases h)
          · have d4 : vals 4 = _ := hd 4 (by decide +kernel)
            rw [d4]
            have z0 := (HR1.out.below hS).c2
            go_simp
            refine hK _ _ rfl (Below.refl _ _) (by first | rfl | simp) (fun h => by cases h)
          · have d3 : vals 3 = _ := hd 3 (by decide +kernel)
            have d5 : vals 5 = _ := hd 5 (by decide +kernel)
            rw [d3, d5]
            go_simp
            go_at_call 32
            with_reducible refine (refMake_c (HY1.out.below hS) (by decide) (zOf (sg q.num) q.den) (by rw [HSG.out])).mono ?_
            rintro e w2 ⟨r0, r1, r2, rfl, f0, bn_r⟩
            refine hK _ _ rfl bn_r ⟨_, _, _, rfl, f0⟩ (fun h => by cases h)
          · go_simp
            refine hK _ _ rfl (Below.refl _ _) (by first | rfl | simp) (fun h => by cases h)
          · have d7 : vals 7 = _ := hd 7 (by decide +kernel)
            rw [d7]
            go_simp
            refine hK _ _ rfl (Below.refl _ _) (by first | rfl | simp) (fun h => by cases h)
          · have d8 : vals 8 = _ := hd 8 (by decide +kernel)
            rw [d8]
            have z0 := (HR1.out.below hS).c1
            go_simp
            refine hK _ _ rfl (Below.refl _ _) (by first | rfl | simp) (fun h => by cases h)
          · obtain ⟨A_6_0, n_6_1, n_6_2, d6, h_6_0⟩ := hd 6 (by decide +kernel)
            have d9 : vals 9 = _ := hd 9 (by decide +kernel)
            rw [d6, d9]
            go_simp
            refine hK _ _ rfl (Below.refl _ _) ⟨_, _, _, rfl, h_6_0⟩ (fun h => by cases h)
          · have d0 : vals 0 = _ := hd 0 (by decide +kernel)
            obtain ⟨A_10_0, n_10_1, n_10_2, d10, h_10_0⟩ := hd 10 (by decide +kernel)
            rw [d0, d10]
            go_simp
            go_at_call 69
            with_reducible refine (refTimes_c (HX.out.below hS) (HY.out.below hS) h_10_0 (HX1.out.below hS).nn (by decide) (by decide) p.den_nz HN0.out z HM.out).mono ?_
            rintro e w2 ⟨r0, r1, r2, r3, r4, r5, rfl, f0, f1, bn_r⟩
            refine hK _ _ rfl bn_r ⟨_, _, _, _, _, _, rfl, f0, f1⟩ (fun h => by cases h)
          · obtain ⟨A_11_0, n_11_1, n_11_2, A_11_3, n_11_4, n_11_5, d11, h_11_0, h_11_1⟩ := hd 11 (by decide +kernel)
            rw [d11]
            go_simp
            go_at_call 27
            with_reducible refine (refLimit_c h_11_0 h_11_1).mono ?_
            rintro e w2 ⟨r0, r1, r2, r3, r4, r5, rfl, f0, bn_r⟩
            refine hK _ _ rfl bn_r ⟨_, _, _, _, _, _, rfl, f0⟩ (fun h => by cases h)
        case hfin14 =>
          intro vals wr hS hP hne
          obtain ⟨A_12_0, n_12_1, n_12_2, A_12_3, n_12_4, n_12_5, ez_12, h_12_0⟩ := hP 12 (by decide)
          have hZ3 := HZ.out.below hS
          have hNo := hZ3.noLimb (by intro v e; cases e) (by intro v e; cases e) (by intro v e; cases e) (by intro v e; cases e)
          have e0 := hZ3.c0
          have e1 := hZ3.c1
          have e2 := hZ3.c2
          have e3 := hZ3.c3
          have f0 := hZ3.free 0
          have f1 := hZ3.free 1
          have f2 := hZ3.free 2
          have f3 := hZ3.free 3
          have HF := Lib.hid (hZ3.fill (.bool (sg (oTop (limQ z)))) (.slice A_12_0 n_12_1 n_12_2) (.slice A_12_3 n_12_4 n_12_5) (.int .i64 (limE z)))
          have HP := Lib.hid (QQ.fillR4 h_12_0 hNo (.bool (sg (oTop (limQ z)))) (.slice A_12_0 n_12_1 n_12_2) (.slice A_12_3 n_12_4 n_12_5) (.int .i64 (limE z)))
          have HB := Lib.hid (below_fill4 (below_two HW.out hS) Hq.out (.bool (sg (oTop (limQ z)))) (.slice A_12_0 n_12_1 n_12_2) (.slice A_12_3 n_12_4 n_12_5) (.int .i64 (limE z)))
          try dsimp only
          rw [ez_12]
          refine wpAny_ready (rs := [13]) (by kernel_rfl) (by simp) (AllReady.cons rfl (fun KC hK => ?_) AllReady.nil)
          go_simp
          refine hK _ _ ?_
          clear hK KC
          refine wpAny_done (by kernel_rfl) ?_ _
          go_wp2
          refine bodyPost_ret (results_cell_row rfl _ _ _ 35 #[.bool (sg (oTop (limQ z))), .slice A_12_0 n_12_1 n_12_2, .slice A_12_3 n_12_4 n_12_5, .int .i64 (limE z)] (0, 0) _ rfl HF.out Try.underlying35 rfl got7_size) rfl ?_
          exact ⟨A_12_0, n_12_1, n_12_2, A_12_3, n_12_4, n_12_5, rfl, HP.out, HB.out⟩

end
end Go.Proofs.Ytmifgblbicnimaa

/- What package whole's Mul answers, as a contract over memory: whole numbers in the shortest limbs, 0 not below 0. Conditions: sizes of at most so many limbs; the table of powers of ten where texts are made or read. -/
namespace Go.Proofs.Ytmifgblbicnimaa
open Go.RowKit Limb
set_option linter.unusedVariables false
section
variable {w : World} {s s' : Bool} {A A' : Option Addr} {n c n' c' : Nat} {xs ys : List Nat} {x y : Int} {L L' : Nat}
set_option maxHeartbeats 4000000 in
set_option maxRecDepth 100000 in
theorem wMul_c (hx : ZZ w s A n c xs x L) (hy : ZZ w s' A' n' c' ys y L') (K : Nat) (h1 : L ≤ 100000) (h2 : L' ≤ 100000) (h3 : L + L' ≤ K) (z : Int) (hz : x * y = z) :
    Calls Try.prog 43 #[.agg #[.bool s, .slice A n c], .agg #[.bool s', .slice A' n' c']] w fun e w' => ∃ A2 n2 c2, e = .returned (.agg #[.bool (sg z), .slice A2 n2 c2]) ∧ ZZ w' (sg z) A2 n2 c2 (limbs z.natAbs) z K ∧ Below w.heap.size w w' := by
  have HS : RowKit.Hid (zOf (s != s') (x.natAbs * y.natAbs) = z) := (zOf_mul hx.zof hy.zof).trans hz
  clear hz
  have b0 := below_new w (.cells #[Value.bool s, Value.slice A n c] 25)
  have b1 := below_new (w.alloc (.cells #[Value.bool s, Value.slice A n c] 25)) (.cells #[Value.bool s', Value.slice A' n' c'] 25)
  have bz := below_new ((w.alloc (.cells #[Value.bool s, Value.slice A n c] 25)).alloc (.cells #[Value.bool s', Value.slice A' n' c'] 25)) zbox
  have HW := Lib.hid (below_two (below_two b0 b1) bz)
  have HN := Lib.hid (hx.nn.below HW.out)
  have HM := Lib.hid (hy.nn.below HW.out)
  have r0 := ((row2_new w 25 (.bool s) (.slice A n c)).below b1).below bz
  have r1 := (row2_new (w.alloc (.cells #[Value.bool s, Value.slice A n c] 25)) 25 (.bool s') (.slice A' n' c')).below bz
  have rz : ZB (((w.alloc (.cells #[Value.bool s, Value.slice A n c] 25)).alloc (.cells #[Value.bool s', Value.slice A' n' c'] 25)).alloc zbox) ((w.alloc (.cells #[Value.bool s, Value.slice A n c] 25)).alloc (.cells #[Value.bool s', Value.slice A' n' c'] 25)).heap.size := row2_new ((w.alloc (.cells #[Value.bool s, Value.slice A n c] 25)).alloc (.cells #[Value.bool s', Value.slice A' n' c'] 25)) _ _ _
  simp only [World.size_alloc] at r1 rz
  clear b0 b1 bz hx hy
  go_enter Try.func43, Try.ntmps43
  go_wp2
  generalize ((w.alloc (.cells #[Value.bool s, Value.slice A n c] 25)).alloc (.cells #[Value.bool s', Value.slice A' n' c'] 25)).alloc zbox = w1 at *
  have HR0 := Lib.hid r0
  have c00 := r0.c0
  have c01 := r0.c1
  have HR1 := Lib.hid r1
  have c10 := r1.c0
  have c11 := r1.c1
  have HZ := Lib.hid rz
  clear r0 r1 rz
  clear c00 c01 c10 c11
  refine region_free 11 1 [5, 6, 7, 8, 9, 10, 11, 12, 13, 14, 15] ?aF (fun wx => Below w1.heap.size w1 wx) (fun k v wx => match k with
      | 0 => v = .pointer (some ⟨w.heap.size, 0, none⟩)
      | 1 => v = .bool s
      | 2 => v = .pointer (some ⟨w.heap.size + 1, 0, none⟩)
      | 3 => v = .bool s'
      | 4 => v = .bool (s != s')
      | 5 => v = .pointer (some ⟨w.heap.size, 1, none⟩)
      | 6 => v = .slice A n c
      | 7 => v = .pointer (some ⟨w.heap.size + 1, 1, none⟩)
      | 8 => v = .slice A' n' c'
      | 9 => ∃ A2 n2 c2, v = .slice A2 n2 c2 ∧ NN wx A2 n2 c2 (limbs (x.natAbs * y.natAbs)) (x.natAbs * y.natAbs) K
      | _ => ∃ A2 n2 c2, v = .agg #[.bool (sg z), .slice A2 n2 c2] ∧ ZZ wx (sg z) A2 n2 c2 (limbs z.natAbs) z K)
    (fun _ => false) (by kernel_rfl) ?haF rfl (by kernel_rfl) (by kernel_rfl) (fun _ _ _ _ _ h => h) ?hSb ?hPb ?hS ?hop ?hfin
  case haF =>
    intro vals
    simp only [fillAll, List.getElem?_cons_zero, List.getElem?_cons_succ, Act.put, List.setIfInBounds_toArray, List.set_cons_zero, List.set_cons_succ]
    exact rfl
  case hSb => exact fun wx w2 hb hS => below_two hS hb
  case hPb =>
    intro k v wa wb hb h
    match k, h with
    | 0, h => exact h
    | 1, h => exact h
    | 2, h => exact h
    | 3, h => exact h
    | 4, h => exact h
    | 5, h => exact h
    | 6, h => exact h
    | 7, h => exact h
    | 8, h => exact h
    | 9, ⟨A2, n2, c2, h1, h2⟩ => exact ⟨A2, n2, c2, h1, h2.below hb⟩
    | _ + 10, ⟨A2, n2, c2, h1, h2⟩ => exact ⟨A2, n2, c2, h1, h2.below hb⟩
  case hS => exact (Below.refl _ _).drew
  case hop =>
    refine .cons (k := 0) ?_ (.cons (k := 1) ?_ (.cons (k := 2) ?_ (.cons (k := 3) ?_ (.cons (k := 4) ?_ (.cons (k := 5) ?_ (.cons (k := 6) ?_ (.cons (k := 7) ?_ (.cons (k := 8) ?_ (.cons (k := 9) ?_ (.cons (k := 10) ?_ (.nil)))))))))))
    all_goals intro vals wr hS hd KC hK
    all_goals (show Oper.wp _ _ _ _ _ _; dsimp only)
    · go_simp
      refine hK _ _ rfl (Below.refl _ _) rfl (fun h => by cases h)
    · have d0 : vals 0 = _ := hd 0 (by decide +kernel)
      rw [d0]
      have c0 := (HR0.out.below hS).c0
      go_simp
      refine hK _ _ rfl (Below.refl _ _) rfl (fun h => by cases h)
    · go_simp
      refine hK _ _ rfl (Below.refl _ _) rfl (fun h => by cases h)
    · have d2 : vals 2 = _ := hd 2 (by decide +kernel)
      rw [d2]
      have c0 := (HR1.out.below hS).c0
      go_simp
      refine hK _ _ rfl (Below.refl _ _) rfl (fun h => by cases h)
    · have d1 : vals 1 = _ := hd 1 (by decide +kernel)
      have d3 : vals 3 = _ := hd 3 (by decide +kernel)
      rw [d1, d3]
      go_simp
      refine hK _ _ rfl (Below.refl _ _) (by first | rfl | (simp)) (fun h => by cases h)
    · go_simp
      refine hK _ _ rfl (Below.refl _ _) rfl (fun h => by cases h)
    · have d5 : vals 5 = _ := hd 5 (by decide +kernel)
      rw [d5]
      have c0 := (HR0.out.below hS).c1
      go_simp
      refine hK _ _ rfl (Below.refl _ _) rfl (fun h => by cases h)
    · go_simp
      refine hK _ _ rfl (Below.refl _ _) rfl (fun h => by cases h)
    · have d7 : vals 7 = _ := hd 7 (by decide +kernel)
      rw [d7]
      have c0 := (HR1.out.below hS).c1
      go_simp
      refine hK _ _ rfl (Below.refl _ _) rfl (fun h => by cases h)
    · have d6 : vals 6 = _ := hd 6 (by decide +kernel)
      have d8 : vals 8 = _ := hd 8 (by decide +kernel)
      rw [d6, d8]
      go_simp
      go_at_call 44
      with_reducible refine (mulOf_c (HN.out.below hS) (HM.out.below hS) K (by omega) (by omega) h3).mono ?_
      rintro e w2 ⟨A_r, n_r, c_r, rfl, h_r, bn_r⟩
      refine hK _ _ rfl bn_r ⟨_, _, _, rfl, h_r⟩ (fun h => by cases h)
    · have d4 : vals 4 = _ := hd 4 (by decide +kernel)
      obtain ⟨A_m, n_m, c_m, d9, h_m⟩ := hd 9 (by decide +kernel)
      rw [d4, d9]
      go_simp
      go_at_call 62
      with_reducible refine (signed_c h_m _ z (by first | exact HS.out | simpa using HS.out)).mono ?_
      rintro e w2 ⟨rfl, h_r, bn_r⟩
      refine hK _ _ rfl bn_r ⟨_, _, _, rfl, h_r⟩ (fun h => by cases h)
  case hfin =>
    intro vals wr hS hP hne
    obtain ⟨A2, n2, c2, ez, h3⟩ := hP 10 (by decide)
    have hZ3 := HZ.out.below hS
    obtain ⟨e0, e1, f0, f1⟩ := hZ3.cells
    try dsimp only
    rw [ez]
    have HF := Lib.hid (hZ3.fill (.bool (sg z)) (.slice A2 n2 c2))
    have HP := Lib.hid (h3.put hZ3 (.bool (sg z)) (.slice A2 n2 c2))
    have HB := Lib.hid (below_fill (g := w.heap.size + 1 + 1) (below_two HW.out hS) (by omega) (.bool (sg z)) (.slice A2 n2 c2))
    refine wpAny_ready (rs := [11]) (by kernel_rfl) (by simp) (AllReady.cons rfl (fun KC hK => ?_) AllReady.nil)
    go_simp
    refine hK _ _ ?_
    clear hK KC
    refine wpAny_done (by kernel_rfl) ?_ _
    go_wp2
    refine bodyPost_ret (results_cell_row rfl _ _ (w.heap.size + 1 + 1) 25 #[.bool (sg z), .slice A2 n2 c2] (0, 0) _ rfl HF.out Try.underlying25 rfl int_size) rfl ?_
    exact ⟨A2, n2, c2, rfl, HP.out, HB.out⟩
end

end Go.Proofs.Ytmifgblbicnimaa

/- What package rat's own helpers answer (isTrimmed, fits, cross), and slices.Equal, slices.Clone of limbs, as contracts over memory. Conditions: sizes of at most so many limbs. -/
namespace Go.Proofs.Ytmifgblbicnimaa
open Go.RowKit Limb
set_option linter.unusedVariables false
section
variable {w : World} {s s' : Bool} {A B A' B' : Option Addr} {n c m d n' c' m' d' : Nat} {xs ys xs' ys' : List Nat} {x y : Int} {a b L L' : Nat}
set_option maxHeartbeats 4000000 in
set_option maxRecDepth 100000 in
theorem rTrimmed_c (hx : NN w A n c xs a L) (h1 : L ≤ 9223372036854775807) (v : Bool) (hv : decide (xs = limbs a) = v) :
    Calls Try.prog 47 #[.slice A n c] w fun e w' => e = .returned (.bool v) ∧ w = w' := by
  have Hv := Lib.hid hv
  have Hx := Lib.hid hx
  have hsm := hx.isN.small
  have hlen := hx.isN.len
  have hle := hx.le
  have htr := trimmed_iff hsm
  rw [hx.val] at htr
  clear hx hv
  by_cases h0 : n = 0
  · have hB : RowKit.Hid (v = true) := by
      show _ = _
      rw [← Hv.out, decide_eq_true_eq, htr]
      exact .inl (List.eq_nil_of_length_eq_zero (by omega))
    subst h0
    clear hlen htr
    go_enter Try.func47, Try.ntmps47
    go_wp2
    go_ret
    exact ⟨by rw [hB.out]; rfl, rfl⟩
  · obtain ⟨g, o, eA, hlt, hc⟩ := Hx.out.isN.2.2 (by omega)
    obtain ⟨k, hk⟩ : ∃ k, n = k + 1 := ⟨n - 1, by omega⟩
    have hcell := hc k (by omega)
    obtain ⟨u, hu⟩ : ∃ u, lim xs k = u := ⟨_, rfl⟩
    rw [hu] at hcell
    have h00 : ((n : Int) == 0) = false := by rw [beq_eq_false_iff_ne]; omega
    have h0k : (n : Int) - 1 = (k : Int) := by omega
    have hB : RowKit.Hid (decide (u ≠ 0) = v) := by
      show _ = _
      rw [← Hv.out, decide_eq_decide, htr, ← hu, show xs.length - 1 = k by omega]
      constructor
      · exact fun h => .inr h
      · rintro (h | h)
        · rw [h] at hlen; simp at hlen; omega
        · exact h
    subst eA
    clear htr hc hu hsm
    subst hk
    go_enter Try.func47, Try.ntmps47
    go_wp2
    go_ret
    refine ⟨?_, rfl⟩
    rw [← hB.out]
    show Ending.returned (Value.bool (((k : Int) + 1 == 0) || ((u : Int) != 0))) = _
    rw [show ((k : Int) + 1 == 0) = false by rw [beq_eq_false_iff_ne]; omega, Bool.false_or]
    congr 2
    rw [Bool.eq_iff_iff]
    simp

set_option maxHeartbeats 4000000 in
set_option maxRecDepth 100000 in
theorem rFits_c (s : Bool) (A B : Option Addr) (n c m d : Nat) (w : World) (v : Bool) (hv : (decide (n ≤ 64) && decide (m ≤ 64)) = v) :
    Calls Try.prog 48 #[.agg #[.bool s, .slice A n c, .slice B m d]] w fun e w' => e = .returned (.bool v) ∧ Below w.heap.size w w' := by
  have HW := Lib.hid (below_new w (.cells #[Value.bool s, Value.slice A n c, Value.slice B m d] 27))
  have Hv := Lib.hid hv
  clear hv
  by_cases h1 : n ≤ 64
  · have e1 : decide ((n : Int) ≤ 64) = true := by rw [decide_eq_true_eq]; omega
    have HV : RowKit.Hid (decide ((m : Int) ≤ 64) = v) := by
      show _ = _
      rw [← Hv.out, decide_eq_true h1, Bool.true_and, decide_eq_decide]; omega
    clear h1 Hv
    go_enter Try.func48, Try.ntmps48
    go_wp2
    go_ret
    exact ⟨by rw [← HV.out]; rfl, HW.out⟩
  · have e1 : decide ((n : Int) ≤ 64) = false := by rw [decide_eq_false_iff_not]; omega
    have HV : RowKit.Hid (false = v) := by
      show _ = _
      rw [← Hv.out, decide_eq_false h1]; rfl
    clear h1 Hv
    go_enter Try.func48, Try.ntmps48
    go_wp2
    go_ret
    exact ⟨by rw [← HV.out]; rfl, HW.out⟩

set_option maxHeartbeats 4000000 in
set_option maxRecDepth 100000 in
theorem rCross_c (hx : ZZ w s A n c xs x L) (hy' : NN w B' m' d' ys' b L') (h1 : L ≤ 1000) (h2 : L' ≤ 1000) (z : Int) (hz : x * (b : Int) = z) :
    Calls Try.prog 45 #[.agg #[.bool s, .slice A n c, .slice B m d], .agg #[.bool s', .slice A' n' c', .slice B' m' d']] w fun e w' => ∃ A2 n2 c2, e = .returned (.agg #[.bool (sg z), .slice A2 n2 c2]) ∧ ZZ w' (sg z) A2 n2 c2 (limbs z.natAbs) z (L + L') ∧ Below w.heap.size w w' := by
  have b0 := below_new w (.cells #[Value.bool s, Value.slice A n c, Value.slice B m d] 27)
  have b1 := below_new (w.alloc (.cells #[Value.bool s, Value.slice A n c, Value.slice B m d] 27)) (.cells #[Value.bool s', Value.slice A' n' c', Value.slice B' m' d'] 27)
  have b2 := below_new ((w.alloc (.cells #[Value.bool s, Value.slice A n c, Value.slice B m d] 27)).alloc (.cells #[Value.bool s', Value.slice A' n' c', Value.slice B' m' d'] 27)) zbox
  have HW := Lib.hid (below_two (below_two b0 b1) b2)
  have HX := Lib.hid (hx.below HW.out)
  have HY := Lib.hid (zz_pos (hy'.below HW.out))
  have rz : ZB (((w.alloc (.cells #[Value.bool s, Value.slice A n c, Value.slice B m d] 27)).alloc (.cells #[Value.bool s', Value.slice A' n' c', Value.slice B' m' d'] 27)).alloc zbox) ((w.alloc (.cells #[Value.bool s, Value.slice A n c, Value.slice B m d] 27)).alloc (.cells #[Value.bool s', Value.slice A' n' c', Value.slice B' m' d'] 27)).heap.size := row2_new ((w.alloc (.cells #[Value.bool s, Value.slice A n c, Value.slice B m d] 27)).alloc (.cells #[Value.bool s', Value.slice A' n' c', Value.slice B' m' d'] 27)) _ _ _
  simp only [World.size_alloc] at rz
  clear b0 b1 b2 hx hy'
  go_enter Try.func45, Try.ntmps45
  go_wp2_with fail
  generalize ((w.alloc (.cells #[Value.bool s, Value.slice A n c, Value.slice B m d] 27)).alloc (.cells #[Value.bool s', Value.slice A' n' c', Value.slice B' m' d'] 27)).alloc zbox = w1 at *
  have HZ := Lib.hid rz
  clear rz
  refine (wMul_c HX.out HY.out (L + L') (by omega) (by omega) (Nat.le_refl _) z hz).mono ?_
  rintro e w2 ⟨A2, n2, c2, rfl, h4, bm⟩
  have BN4 := Lib.hid bm
  obtain ⟨e0, e1, f0, f1⟩ := (HZ.out.below BN4.out).cells
  have HF := Lib.hid ((HZ.out.below BN4.out).fill (.bool (sg z)) (.slice A2 n2 c2))
  have HP := Lib.hid (h4.put (HZ.out.below BN4.out) (.bool (sg z)) (.slice A2 n2 c2))
  have HB := Lib.hid (below_fill (g := w.heap.size + 1 + 1) (below_two HW.out BN4.out) (by omega) (.bool (sg z)) (.slice A2 n2 c2))
  clear bm h4
  go_wp2
  refine bodyPost_ret (results_cell_row rfl _ _ (w.heap.size + 1 + 1) 25 #[.bool (sg z), .slice A2 n2 c2] (0, 0) _ rfl HF.out Try.underlying25 rfl int_size) rfl ?_
  exact ⟨A2, n2, c2, rfl, HP.out, HB.out⟩

end
end Go.Proofs.Ytmifgblbicnimaa

/- What package quo's limbAt, head and gcdSmall answer, as contracts over memory: a limb, 0 beyond; the 64 bits from a place on; the greatest divisor of two words. Conditions: the list reads as limbs, of at most 10^9 of them. -/
namespace Go.Proofs.Ytmifgblbicnimaa.Limb

/-- The 64 bits of a number from bit k on, off three limbs. -/
theorem head_bits {V k l0 l1 l2 : Nat} (e0 : l0 = V / 4294967296 ^ (k / 32) % 4294967296) (e1 : l1 = V / 4294967296 ^ (k / 32 + 1) % 4294967296) (e2 : l2 = V / 4294967296 ^ (k / 32 + 2) % 4294967296) :
    (l0 ||| l1 * 4294967296) / 2 ^ (k % 32) ||| (l2 * 2 ^ (64 - k % 32) % 18446744073709551616) = V / 2 ^ k % 18446744073709551616 := by
  refine Nat.eq_of_testBit_eq fun i => ?_
  have hr : k % 32 < 32 := Nat.mod_lt _ (by decide)
  have hk : k = 32 * (k / 32) + k % 32 := by omega
  rw [e0, e1, e2, pow32, pow32, pow32, show (18446744073709551616 : Nat) = 2 ^ 64 from rfl, show (4294967296 : Nat) = 2 ^ 32 from rfl]
  simp only [Nat.testBit_or, Nat.testBit_div_two_pow, Nat.testBit_mod_two_pow, Nat.testBit_mul_two_pow]
  generalize k % 32 = r at *
  generalize k / 32 = q at *
  subst hk
  by_cases c1 : i + r < 32
  · have e : i + r + 32 * q = i + (32 * q + r) := by omega
    have d1 : i < 64 := by omega
    have d2 : ¬ 64 - r ≤ i := by omega
    have d3 : ¬ 32 ≤ i + r := by omega
    simp [c1, d1, d2, d3, e]
  · by_cases c2 : i + r < 64
    · have e : i + r - 32 + 32 * (q + 1) = i + (32 * q + r) := by omega
      have d1 : i < 64 := by omega
      have d2 : ¬ 64 - r ≤ i := by omega
      have d3 : 32 ≤ i + r := by omega
      have d4 : i + r - 32 < 32 := by omega
      simp [c1, d1, d2, d3, d4, e]
    · by_cases c3 : i < 64
      · have e : i - (64 - r) + 32 * (q + 2) = i + (32 * q + r) := by omega
        have d2 : 64 - r ≤ i := by omega
        have d4 : ¬ i + r - 32 < 32 := by omega
        have d5 : i - (64 - r) < 32 := by omega
        simp [c1, c3, d2, d4, d5, e]
      · simp [c3]
        omega

end Go.Proofs.Ytmifgblbicnimaa.Limb
namespace Go.Proofs.Ytmifgblbicnimaa
open Go.RowKit Limb
set_option linter.unusedVariables false

set_option maxHeartbeats 400000 in
theorem limbAt_any (A : Option Addr) (n c : Nat) (xs : List Nat) (w : World) (hx : IsN w A n xs) (hm : n ≤ 1000000000) (k : Nat) (I : Int) (hI : I = k) (hk : k ≤ 100000000000) :
    Calls Try.prog 90 #[.slice A n c, .int .i64 I] w fun e w' => e = .returned (.int .u64 ((lim xs k : Nat) : Int)) ∧ w = w' := by
  subst hI
  by_cases h : k < n
  · obtain ⟨b, o, rfl, hb, hc⟩ := hx.2.2 (by omega)
    have h1 := hc k h
    have h2 := lim_lt hx.small k
    go_enter Try.func90, Try.ntmps90
    go_wp2
    go_ret
    exact ⟨rfl, rfl⟩
  · have h1 : lim xs k = 0 := lim_of_ge (by rw [hx.len]; omega)
    have H1 := Lib.hid h1
    clear h1
    go_enter Try.func90, Try.ntmps90
    go_wp2
    go_ret
    exact ⟨ret_int (by rw [H1.out]; rfl), rfl⟩

/-- The same, in a world that drew. -/
theorem limbAt_q {A : Option Addr} {n c : Nat} {xs : List Nat} {w : World} (hx : IsN w A n xs) (hm : n ≤ 1000000000) (k : Nat) (I : Int) (hI : I = k) (hk : k ≤ 100000000000) (nd : Nat) :
    Calls Try.prog 90 #[.slice A n c, .int .i64 I] (w.drewN nd) fun e w' => e = .returned (.int .u64 ((lim xs k : Nat) : Int)) ∧ ∃ m, w' = w.drewN m :=
  (limbAt_any A n c xs (w.drewN nd) (hx.below (below_drewN (Below.refl _ _) nd)) hm k I hI hk).mono fun _ _ ⟨h1, h2⟩ => ⟨h1, nd, h2.symm⟩

set_option maxHeartbeats 1000000 in
theorem head_any (A : Option Addr) (n c : Nat) (xs : List Nat) (w : World) (hx : IsN w A n xs) (hm : n ≤ 1000000000) (k : Nat) (I : Int) (hI : I = k) (hk : k ≤ 1000000000000) (v : Nat) (hv : val xs / 2 ^ k % 18446744073709551616 = v) :
    Calls Try.prog 74 #[.slice A n c, .int .i64 I] w fun e w' => e = .returned (.int .u64 (v : Int)) ∧ ∃ nd, w' = w.drewN nd := by
  subst hI
  obtain ⟨q, hq⟩ : ∃ q, q = k / 32 := ⟨_, rfl⟩
  obtain ⟨r, hr⟩ : ∃ r, r = k % 32 := ⟨_, rfl⟩
  have eq1 : (k : Int) / 32 = (q : Int) := by omega
  have er1 : (k : Int) % 32 = (r : Int) := by omega
  have hr32 : r < 32 := by omega
  have hq3 : q ≤ 90000000000 := by omega
  have l0 := lim_lt hx.small q
  have l1 := lim_lt hx.small (q + 1)
  have l2 := lim_lt hx.small (q + 2)
  have hh := head_bits (V := val xs) (k := k) (lim_eq_div xs hx.small _).symm (lim_eq_div xs hx.small _).symm (lim_eq_div xs hx.small _).symm
  rw [← hq, ← hr, hv] at hh
  have Hh := Lib.hid hh
  clear hh hv hq hr
  go_enter Try.func74, Try.ntmps74
  go_wp2_with fail
  refine (limbAt_any A n c xs w hx hm q _ rfl (by omega)).mono ?_
  rintro e w1 ⟨rfl, rfl⟩
  go_wp2_with fail
  refine (limbAt_any A n c xs w hx hm (q + 1) _ (by omega) (by omega)).mono ?_
  rintro e w1 ⟨rfl, rfl⟩
  obtain ⟨low, hlow⟩ : ∃ x, x = lim xs q ||| lim xs (q + 1) * 4294967296 := ⟨_, rfl⟩
  have hor : bits BinOp.or IntKind.u64 ((lim xs q : Nat) : Int) (((lim xs (q + 1) : Nat) : Int) * 4294967296) = (low : Int) := by
    have := u64_or_nat (lim xs q) (lim xs (q + 1) * 4294967296) (by omega) (by omega)
    rw [hlow, ← this]; rfl
  have hlow2 : low < 18446744073709551616 := by
    rw [hlow]
    exact Nat.or_lt_two_pow (n := 64) (by omega) (by omega)
  rw [← hlow] at Hh
  clear hlow
  have ew : IntKind.i64.wrap ((q : Int) + 2) = (q : Int) + 2 := IntWalk.i64_in _ (by omega)
  have e2 : (q : Int) + 2 = ((q + 2 : Nat) : Int) := by omega
  have E2 := Lib.hid e2
  have ew2 : IntKind.i64.wrap (64 - (r : Int)) = 64 - (r : Int) := IntWalk.i64_in _ (by omega)
  clear e2
  go_wp2
  go_quiet ((go_at_call 90; exact limbAt_q hx hm (q + 2) _ E2.out (by omega) _))
  go_wp2
  have Hor : RowKit.Hid (bits BinOp.or IntKind.u64 ((low : Int) / 2 ^ r) (IntKind.u64.wrap (((lim xs (q + 2) : Nat) : Int) * 2 ^ (64 - r))) = (v : Int)) := by
    show _ = _
    have a1 : (low : Int) / 2 ^ r = ((low / 2 ^ r : Nat) : Int) := by rw [Int.natCast_ediv, Int.natCast_pow]; rfl
    have a2 : IntKind.u64.wrap (((lim xs (q + 2) : Nat) : Int) * 2 ^ (64 - r)) = ((lim xs (q + 2) * 2 ^ (64 - r) % 18446744073709551616 : Nat) : Int) := by
      rw [IntKind.wrap_u64, Int.natCast_emod, Int.natCast_mul, Int.natCast_pow]; rfl
    rw [a1, a2, u64_or_nat _ _ (Nat.lt_of_le_of_lt (Nat.div_le_self _ _) hlow2) (Nat.mod_lt _ (by decide)), Hh.out]
  go_ret
  exact ⟨ret_int Hor.out, _, rfl⟩

theorem gcd_word {x y : Nat} (hy : y ≠ 0) : gcdN y (x % y) = gcdN x y := gcdN_step rfl

set_option maxHeartbeats 1000000 in
theorem gcdSmall_any (x y : Nat) (X Y : Int) (hX : X = x) (hY : Y = y) (w : World) (hx : x < 18446744073709551616) (hy : y < 18446744073709551616) (g : Nat) (hg : gcdN x y = g) :
    Calls Try.prog 73 #[.int .u64 X, .int .u64 Y] w fun e w' => e = .returned (.int .u64 (g : Int)) ∧ Below w.heap.size w w' := by
  subst hX hY
  have Hg := Lib.hid hg
  have Hb := Lib.hid (Below.refl w.heap.size w)
  clear hg
  go_enter Try.func73, Try.ntmps73
  go_wp2
  go_loopw [0, 1] (fun a b wr => ∃ (x y : Nat), a = .int .u64 (x : Int) ∧ b = .int .u64 (y : Int) ∧ x < 18446744073709551616 ∧ y < 18446744073709551616 ∧ RowKit.Hid (gcdN x y = g) ∧ RowKit.Hid (Below w.heap.size w wr)) (fun _ b _ => (intOf b).toNat)
  case atStart => exact ⟨x, y, rfl, rfl, hx, hy, Hg, Hb⟩
  case round =>
    clear hx hy Hg Hb
    obtain ⟨x, y, rfl, rfl, hx, hy, Hg, Hb⟩ := hrel
    by_cases h0 : y = 0
    · subst h0
      have He := Lib.hid (gcdN_end Hg.out)
      go_wp2
      go_ret
      exact ⟨ret_int (by rw [He.out]), Hb.out⟩
    · have hne : ((y : Int) == 0) = false := by simp; omega
      have hne2 : ((y : Int) != 0) = true := by simp; omega
      obtain ⟨m, hm⟩ : ∃ m, m = x % y := ⟨_, rfl⟩
      have hml : m < y := by rw [hm]; exact Nat.mod_lt _ (by omega)
      have em : (x : Int) % (y : Int) = (m : Int) := by rw [hm]; simp
      have Hg2 : RowKit.Hid (gcdN y m = g) := by show _ = _; rw [hm]; exact gcdN_step Hg.out
      have hy0 : 0 < y := by omega
      clear hm Hg h0
      go_wp2
      go_quiet (fail)
      have Hb2 := Lib.hid (below_drewN Hb.out nq)
      clear Hb
      go_wp2
      go_roundw
      case rel => exact ⟨y, m, rfl, by rw [em], hy, by omega, Hg2, Hb2⟩
      case measure => simp [intOf]; omega

end Go.Proofs.Ytmifgblbicnimaa

/- What package quo's mix.of answers, as a contract over memory: the sum of multiples of two numbers, in its shortest limbs. Conditions: both read as limbs, the second one not longer, of at most 10^8 of them; the multipliers are below 2^31, one of them not above 0 and one not below; the sum is not below 0 and fits in the first one's limbs. -/
namespace Go.Proofs.Ytmifgblbicnimaa.Limb

/-- A sum of multiples, limb by limb. -/
def OfInv (P Q : Int) (xs ys zs : List Nat) (k : Nat) (cy : Int) : Prop :=
  zs.length = xs.length ∧ ((val (zs.take k) : Nat) : Int) + cy * ((4294967296 ^ k : Nat) : Int) = P * ((val (xs.take k) : Nat) : Int) + Q * ((val (ys.take k) : Nat) : Int)

theorem OfInv.start (P Q : Int) (xs ys zs : List Nat) (h : zs.length = xs.length) : OfInv P Q xs ys zs 0 0 := ⟨h, by simp [val]⟩

theorem of_step {Z cy E P Q X Y x y lo c2 : Int} (h : Z + cy * E = P * X + Q * Y) (hs : cy + (P * x + Q * y) = lo + c2 * 4294967296) : Z + E * lo + c2 * (E * 4294967296) = P * (X + E * x) + Q * (Y + E * y) := by grind

theorem OfInv.step {P Q : Int} {xs ys zs : List Nat} {k lo : Nat} {cy c2 : Int} (h : OfInv P Q xs ys zs k cy) (hk : k < xs.length) (hs : cy + (P * ((lim xs k : Nat) : Int) + Q * ((lim ys k : Nat) : Int)) = (lo : Int) + c2 * 4294967296) :
    OfInv P Q xs ys (zs.set k lo) (k + 1) c2 := by
  obtain ⟨h1, h2⟩ := h
  refine ⟨by simpa using h1, ?_⟩
  rw [val_take_set (by omega), val_take_lim xs, val_take_lim ys, Nat.pow_succ]
  simp only [Int.natCast_add, Int.natCast_mul]
  exact of_step h2 hs

theorem OfInv.done {P Q : Int} {xs ys zs : List Nat} {k v : Nat} {cy : Int} (h : OfInv P Q xs ys zs k cy) (hk : k = xs.length) (hy : ys.length ≤ k) (hz : Small zs) (hv : P * ((val xs : Nat) : Int) + Q * ((val ys : Nat) : Int) = (v : Int)) (hv2 : v < 4294967296 ^ k) : val zs = v := by
  obtain ⟨h1, h2⟩ := h
  rw [List.take_of_length_le (by omega), List.take_of_length_le (by omega), List.take_of_length_le hy, hv] at h2
  have h3 := val_lt hz
  rw [h1, ← hk] at h3
  generalize 4294967296 ^ k = E at *
  have h4 : cy = 0 := by
    rcases Int.lt_trichotomy cy 0 with h | h | h
    · exfalso
      have : (cy + 1) * (E : Int) ≤ 0 := Int.mul_nonpos_of_nonpos_of_nonneg (by omega) (by omega)
      rw [Int.add_mul, Int.one_mul] at this
      omega
    · exact h
    · exfalso
      have : 0 ≤ (cy - 1) * (E : Int) := Int.mul_nonneg (by omega) (by omega)
      rw [Int.sub_mul, Int.one_mul] at this
      omega
  subst h4
  omega

/-- Multipliers below 2^31, not both on one side of 0. -/
def MixOk (P Q : Int) : Prop := -2147483648 < P ∧ P < 2147483648 ∧ -2147483648 < Q ∧ Q < 2147483648 ∧ ((0 ≤ P ∧ Q ≤ 0) ∨ (P ≤ 0 ∧ 0 ≤ Q))

theorem mul_bd {a x : Int} (hx0 : 0 ≤ x) (hx : x ≤ 4294967295) (ha : 0 ≤ a) : 0 ≤ a * x ∧ a * x ≤ a * 4294967295 := ⟨Int.mul_nonneg ha hx0, Int.mul_le_mul_of_nonneg_left hx ha⟩
theorem mul_bd' {a x : Int} (hx0 : 0 ≤ x) (hx : x ≤ 4294967295) (ha : a ≤ 0) : a * x ≤ 0 ∧ a * 4294967295 ≤ a * x := by
  have h1 := Int.mul_nonneg (show 0 ≤ -a by omega) hx0
  have h2 := Int.mul_le_mul_of_nonneg_left hx (show 0 ≤ -a by omega)
  rw [Int.neg_mul] at h1 h2
  rw [Int.neg_mul] at h2
  omega

theorem mix_bound {P Q : Int} (h : MixOk P Q) : ∃ lo hi : Int, -2147483648 < lo ∧ lo ≤ 0 ∧ 0 ≤ hi ∧ hi < 2147483648 ∧ ∀ x y : Int, 0 ≤ x → x ≤ 4294967295 → 0 ≤ y → y ≤ 4294967295 →
    lo * 4294967295 ≤ P * x + Q * y ∧ P * x + Q * y ≤ hi * 4294967295 ∧ -9223372036854775808 ≤ P * x ∧ P * x ≤ 9223372036854775807 ∧ -9223372036854775808 ≤ Q * y ∧ Q * y ≤ 9223372036854775807 := by
  obtain ⟨h1, h2, h3, h4, h5⟩ := h
  rcases h5 with ⟨h5, h6⟩ | ⟨h5, h6⟩
  · refine ⟨Q, P, h3, h6, h5, h2, fun x y a b c d => ?_⟩
    have e1 := mul_bd a b h5
    have e2 := mul_bd' c d h6
    omega
  · refine ⟨P, Q, h1, h5, h6, h4, fun x y a b c d => ?_⟩
    have e1 := mul_bd' a b h5
    have e2 := mul_bd c d h6
    omega

end Go.Proofs.Ytmifgblbicnimaa.Limb
namespace Go.Proofs.Ytmifgblbicnimaa
open Go.RowKit Limb
set_option linter.unusedVariables false

set_option maxHeartbeats 600000 in
theorem of_mix (P Q : Int) (A : Option Addr) (n c : Nat) (xs : List Nat) (A' : Option Addr) (n' c' : Nat) (ys : List Nat) (w : World) (hx : IsN w A n xs) (hy : IsN w A' n' ys) (hm : n ≤ 100000000) (hn : n' ≤ n) (hPQ : MixOk P Q)
    (v : Nat) (hv : P * ((val xs : Nat) : Int) + Q * ((val ys : Nat) : Int) = (v : Int)) (hv2 : v < 4294967296 ^ n) :
    Calls Try.prog 89 #[.agg #[.int .i64 P, .int .i64 Q], .slice A n c, .slice A' n' c'] w fun e w' => ∃ A2 n2 c2, e = .returned (.slice A2 n2 c2) ∧ OwnN w' w.heap.size A2 n2 c2 (limbs v) ∧ Below w.heap.size w w' := by
  obtain ⟨lo, hi, hlo1, hlo2, hhi1, hhi2, hbd⟩ := mix_bound hPQ
  have Hbd := Lib.hid hbd
  have Hv := Lib.hid hv
  have Hv2 := Lib.hid hv2
  obtain ⟨p1, p2, q1, q2, _⟩ := hPQ
  have hmk := run_made (n : Int) n rfl (by omega)
  have hbx := below_new w (.cells #[.int .i64 P, .int .i64 Q] 97)
  have cP : (w.alloc (.cells #[.int .i64 P, .int .i64 Q] 97)).cell? ⟨w.heap.size, 0, none⟩ = some (.int .i64 P) := by
    rw [World.cell?_alloc_at _ _ _ _ rfl]; rfl
  have cQ : (w.alloc (.cells #[.int .i64 P, .int .i64 Q] 97)).cell? ⟨w.heap.size, 1, none⟩ = some (.int .i64 Q) := by
    rw [World.cell?_alloc_at _ _ _ _ rfl]; rfl
  have hx1 := hx.below hbx
  have hy1 := hy.below hbx
  have Hbx := Lib.hid hbx
  obtain ⟨w1, hw1⟩ : ∃ x, x = w.alloc (.cells #[.int .i64 P, .int .i64 Q] 97) := ⟨_, rfl⟩
  have hsz : w1.heap.size = w.heap.size + 1 := by rw [hw1]; simp
  have Hw1 := Lib.hid hw1
  rw [← hw1] at cP cQ hx1 hy1 Hbx
  have Hrow : RowKit.Hid (OwnN (w1.alloc (.cells (madeCells #[.int .u32 0] n) 62)) (w.heap.size + 1) (some ⟨w.heap.size + 1, 0, none⟩) n n (List.replicate n 0)) := by
    have h := own_made w1 n (by omega)
    rw [hsz] at h
    exact h
  have Hb1 : RowKit.Hid (Below (w.heap.size + 1) w1 (w1.alloc (.cells (madeCells #[.int .u32 0] n) 62))) := by
    have h := below_new w1 (.cells (madeCells #[.int .u32 0] n) 62)
    rw [hsz] at h
    exact h
  have Hsz := Lib.hid hsz
  have Hst := Lib.hid (OfInv.start P Q xs ys (List.replicate n 0) (by rw [List.length_replicate, hx1.len]))
  have Hxl := Lib.hid hx1.len
  have Hyl := Lib.hid hy1.len
  clear hbd hv hv2 hbx hx hy hsz hw1
  go_enter Try.func89, Try.ntmps89
  go_wp2
  rw [← Hw1.out]
  go_loopw [15, 8] (fun i cv wr => ∃ (k : Nat) (cy : Int) (zs : List Nat), k ≤ n ∧ i = .int .i64 (k : Int) ∧ cv = .int .i64 cy ∧ lo ≤ cy ∧ cy ≤ hi ∧ RowKit.Hid (OfInv P Q xs ys zs k cy) ∧ RowKit.Hid (OwnN wr (w.heap.size + 1) (some ⟨w.heap.size + 1, 0, none⟩) n n zs) ∧ RowKit.Hid (Below (w.heap.size + 1) w1 wr)) (fun i _ _ => n - (intOf i).toNat)
  case atStart => exact ⟨0, 0, _, Nat.zero_le _, rfl, rfl, hlo2, hhi1, Hst, Hrow, Hb1⟩
  case round =>
    clear Hst Hrow Hb1 hmk
    obtain ⟨k, cy, zs, hk, rfl, rfl, hc1, hc2, Hinv, Hrow, Hb⟩ := hrel
    by_cases hkn : k < n
    · have hb := Hb.out
      rw [← Hsz.out] at hb
      have hxk := hx1.below hb
      have hyk := hy1.below hb
      have dP : wr.cell? ⟨w.heap.size, 0, none⟩ = some (.int .i64 P) := (Hb.out.cell (p := ⟨w.heap.size, 0, none⟩) (Nat.lt_succ_self _)).trans cP
      have dQ : wr.cell? ⟨w.heap.size, 1, none⟩ = some (.int .i64 Q) := (Hb.out.cell (p := ⟨w.heap.size, 1, none⟩) (Nat.lt_succ_self _)).trans cQ
      have lx := lim_lt hxk.small k
      have ly := lim_lt hyk.small k
      have HA := Lib.hid (fun nd => limbAt_q (c := c) hxk (by omega) k _ rfl (by omega) nd)
      have HB := Lib.hid (fun nd => limbAt_q (c := c') hyk (by omega) k _ rfl (by omega) nd)
      obtain ⟨b1, b2, b3, b4, b5, b6⟩ := Hbd.out ((lim xs k : Nat) : Int) ((lim ys k : Nat) : Int) (by omega) (by omega) (by omega) (by omega)
      obtain ⟨px, hpx⟩ : ∃ x, x = P * ((lim xs k : Nat) : Int) := ⟨_, rfl⟩
      obtain ⟨qy, hqy⟩ : ∃ x, x = Q * ((lim ys k : Nat) : Int) := ⟨_, rfl⟩
      rw [← hpx, ← hqy] at b1 b2
      rw [← hpx] at b3 b4
      rw [← hqy] at b5 b6
      obtain ⟨l, hl⟩ : ∃ l : Nat, (l : Int) = (cy + (px + qy)) % 4294967296 := ⟨((cy + (px + qy)) % 4294967296).toNat, by omega⟩
      obtain ⟨c2, hc2'⟩ : ∃ c2 : Int, c2 = (cy + (px + qy)) / 4294967296 := ⟨_, rfl⟩
      have hl4 : l < 4294967296 := by omega
      have hs : cy + (px + qy) = (l : Int) + c2 * 4294967296 := by omega
      have hc3 : lo ≤ c2 := by omega
      have hc4 : c2 ≤ hi := by omega
      have Hst : RowKit.Hid (OfInv P Q xs ys (zs.set k l) (k + 1) c2) := Hinv.out.step (by rw [Hxl.out]; exact hkn) (by rw [← hpx, ← hqy]; exact hs)
      have w1' : IntKind.i64.wrap (P * ((lim xs k : Nat) : Int)) = px := by rw [← hpx]; exact IntWalk.i64_in _ (by omega)
      have w2' : IntKind.i64.wrap (Q * ((lim ys k : Nat) : Int)) = qy := by rw [← hqy]; exact IntWalk.i64_in _ (by omega)
      have w3' : IntKind.i64.wrap (px + qy) = px + qy := IntWalk.i64_in _ (by omega)
      have w4' : IntKind.i64.wrap (cy + (px + qy)) = cy + (px + qy) := IntWalk.i64_in _ (by omega)
      have w5' : IntKind.i64.wrap ((lim xs k : Nat) : Int) = ((lim xs k : Nat) : Int) := IntWalk.i64_in _ (by omega)
      have w6' : IntKind.i64.wrap ((lim ys k : Nat) : Int) = ((lim ys k : Nat) : Int) := IntWalk.i64_in _ (by omega)
      have es : (cy + (px + qy)) % 4294967296 = (l : Int) := hl.symm
      have eh : (cy + (px + qy)) / 4294967296 = c2 := hc2'.symm
      clear hb hxk hyk hpx hqy hl hc2' hs Hinv
      go_wp2
      go_quiet ((first | (go_at_call 90; with_reducible exact HA.out _) | (go_at_call 90; with_reducible exact HB.out _)))
      have Hrow2 : RowKit.Hid (OwnN (wr.drewN nq) (w.heap.size + 1) (some ⟨w.heap.size + 1, 0, none⟩) n n zs) := Hrow.out.below (below_drewN (Below.refl _ _) nq) (Nat.le_refl _)
      have Hb2 := Lib.hid (below_drewN Hb.out nq)
      clear Hrow Hb w1' w2' w3' w4' w5' w6' dP dQ HA HB
      generalize wr.drewN nq = w2 at *
      have c0 := Hrow2.out.cell (k := k) (by omega)
      have f0 := Hrow2.out.1.frozenAt k
      have Hset := Lib.hid (Hrow2.out.set k hl4)
      have Hb3 : RowKit.Hid (Below (w.heap.size + 1) w1 (w2.setCell ⟨w.heap.size + 1, k, none⟩ (.int .u32 (l : Int)))) := Hb2.out.setCell (by exact Nat.le_refl _) _
      clear Hrow2 Hb2
      go_wp2
      go_roundw
      case rel => exact ⟨k + 1, c2, zs.set k l, by omega, by go_num, rfl, hc3, hc4, Hst, Hset, Hb3⟩
      case measure => simp [intOf]; omega
    · obtain rfl : k = n := by omega
      have hz := Hrow.out.isN
      have hsm := Hrow.out.small
      have hval := Hinv.out.done Hxl.out.symm (by rw [Hyl.out]; exact hn) hsm Hv.out Hv2.out
      have Hval := Lib.hid hval
      clear hval
      go_wp2_with fail
      refine (trim_any _ k k zs wr hz (Nat.le_refl _) (by omega)).mono ?_
      rintro e w5 ⟨A5, n5, c5, rfl, how, hb5⟩
      have How : RowKit.Hid (OwnN w5 w.heap.size A5 n5 c5 (limbs v)) := by
        rw [trim_eq_limbs hsm, Hval.out] at how
        have hs := Hb.out.size
        exact how.mono (by have := Hsz.out; omega)
      have HW : RowKit.Hid (Below w.heap.size w w5) := by
        have hb := Hb.out
        rw [← Hsz.out] at hb
        exact below_two (below_two Hbx.out hb) hb5
      clear how hb5
      go_wp2
      go_ret
      exact ⟨_, _, _, rfl, How.out, HW.out⟩

end Go.Proofs.Ytmifgblbicnimaa

/- Plain mathematics of divisions that are done on the heads of two numbers: multiples of both, as far as the heads make the quotients certain. No condition. -/
namespace Go.Proofs.Ytmifgblbicnimaa.Limb

theorem square_bd {y t n : Int} (h1 : t ≤ y) (h2 : y * t ≤ n) (h3 : n < 4611686018427387904) (h0 : 0 ≤ y) : t < 2147483648 := by
  by_cases h : t < 2147483648
  · exact h
  · exfalso
    have h4 : 2147483648 * t ≤ y * t := Int.mul_le_mul_of_nonneg_right (by omega) (by omega)
    omega

/-- One division on the heads: half of the cases. -/
theorem head_half {x0 y0 fa fb sa sb ta tb y z q : Int} (ha : 0 ≤ fa) (hb : fb ≤ 0) (hc : sa ≤ 0) (hd : 0 ≤ sb) (hq : 0 ≤ q) (e1 : ta = fa - q * sa) (e2 : tb = fb - q * sb)
    (r1 : z + ta < y + sa) (r2 : 0 ≤ z + tb) (i1 : y * (-tb) + z * sb = x0) (i2 : y * ta + z * (-sa) = y0) (hx : x0 < 4611686018427387904) (hy : y0 < 4611686018427387904) :
    0 ≤ ta ∧ tb ≤ 0 ∧ 0 ≤ z ∧ z < y ∧ ta < 2147483648 ∧ -2147483648 < tb := by
  have p1 : 0 ≤ q * (-sa) := Int.mul_nonneg hq (by omega)
  have p2 : 0 ≤ q * sb := Int.mul_nonneg hq hd
  rw [Int.mul_neg] at p1
  have h1 : 0 ≤ ta := by omega
  have h2 : tb ≤ 0 := by omega
  have h3 : 0 ≤ z := by omega
  have h4 : z < y := by omega
  have p3 : 0 ≤ z * sb := Int.mul_nonneg h3 hd
  have p4 : 0 ≤ z * (-sa) := Int.mul_nonneg h3 (by omega)
  have h5 := square_bd (y := y) (t := ta) (n := y0) (by omega) (by omega) hy (by omega)
  have h6 := square_bd (y := y) (t := -tb) (n := x0) (by omega) (by omega) hx (by omega)
  exact ⟨h1, h2, h3, h4, h5, by omega⟩

/-- What holds of the multipliers and of what the heads still are. -/
structure SInv (x0 y0 a b fa fb sa sb x y : Int) : Prop where
  ex : x = fa * x0 + fb * y0
  ey : y = sa * x0 + sb * y0
  n1 : 0 ≤ x + fa
  n2 : 0 ≤ x + fb
  n3 : 0 ≤ y + sa
  n4 : 0 ≤ y + sb
  sg : (0 ≤ fa ∧ fb ≤ 0 ∧ sa ≤ 0 ∧ 0 ≤ sb ∧ fa * sb - fb * sa = 1) ∨ (fa ≤ 0 ∧ 0 ≤ fb ∧ 0 ≤ sa ∧ sb ≤ 0 ∧ fa * sb - fb * sa = -1)
  m1 : MixOk fa fb
  m2 : MixOk sa sb
  g : Int.gcd (fa * a + fb * b) (sa * a + sb * b) = Int.gcd a b
  st : (fa = 1 ∧ fb = 0 ∧ sa = 0 ∧ sb = 1) ∨ (y + sa < x + fa ∧ y + sb < x + fb ∧ fa * a + fb * b ≤ b)
  yp : 0 ≤ y
  xb : x < 4611686018427387904
  yx : y ≤ x

/-- The heads of two numbers: what stands below them is less than S. -/
structure Heads (x0 y0 a b S : Int) : Prop where
  s : 0 < S
  a1 : x0 * S ≤ a
  a2 : a < (x0 + 1) * S
  b1 : y0 * S ≤ b
  b2 : b < (y0 + 1) * S
  x62 : x0 < 4611686018427387904
  yp : 0 ≤ y0
  yx : y0 ≤ x0
  xp : 0 ≤ x0

theorem SInv.start {x0 y0 a b S : Int} (h : Heads x0 y0 a b S) : SInv x0 y0 a b 1 0 0 1 x0 y0 := by
  have h1 := h.yp; have h2 := h.yx; have h3 := h.x62; have h4 := h.xp
  refine ⟨by omega, by omega, by omega, by omega, by omega, by omega, .inl (by omega), ?_, ?_, by simp, .inl (by omega), by omega, by omega, by omega⟩
  · unfold MixOk; omega
  · unfold MixOk; omega

theorem gcd_less (A B q : Int) : Int.gcd B (A - q * B) = Int.gcd A B := by
  rw [Int.gcd_comm A B, Int.sub_eq_add_neg, ← Int.neg_mul, Int.add_comm]
  exact Int.gcd_mul_right_add_right ..

/-- Below the heads: what is left is not below 0, and less than the number ahead. -/
theorem SInv.near {x0 y0 a b S fa fb sa sb x y : Int} (h : SInv x0 y0 a b fa fb sa sb x y) (hh : Heads x0 y0 a b S) : 0 ≤ sa * a + sb * b ∧ (y + sa < x + fa → y + sb < x + fb → sa * a + sb * b < fa * a + fb * b) := by
  obtain ⟨p, hp⟩ : ∃ p, p = a - x0 * S := ⟨_, rfl⟩
  obtain ⟨r, hr⟩ : ∃ r, r = b - y0 * S := ⟨_, rfl⟩
  have h1 := hh.a1; have h2 := hh.a2; have h3 := hh.b1; have h4 := hh.b2
  rw [Int.add_mul, Int.one_mul] at h2 h4
  have p0 : 0 ≤ p := by omega
  have pS : p ≤ S := by omega
  have r0 : 0 ≤ r := by omega
  have rS : r ≤ S := by omega
  have ea : a = x0 * S + p := by omega
  have eb : b = y0 * S + r := by omega
  have eA : fa * a + fb * b = x * S + fa * p + fb * r := by rw [ea, eb, h.ex]; grind
  have eB : sa * a + sb * b = y * S + sa * p + sb * r := by rw [ea, eb, h.ey]; grind
  rw [eA, eB]
  have hS := hh.s
  have n3 := Int.mul_nonneg h.n3 (Int.le_of_lt hS)
  have n4 := Int.mul_nonneg h.n4 (Int.le_of_lt hS)
  rw [Int.add_mul] at n3 n4
  rcases h.sg with ⟨s1, s2, s3, s4, _⟩ | ⟨s1, s2, s3, s4, _⟩
  · have a1 := Int.mul_nonneg s1 p0
    have a2 := Int.mul_le_mul_of_nonneg_left rS (show 0 ≤ -fb by omega)
    have a3 := Int.mul_le_mul_of_nonneg_left pS (show 0 ≤ -sa by omega)
    have a4 := Int.mul_nonneg (show 0 ≤ -sa by omega) p0
    have a5 := Int.mul_nonneg s4 r0
    have a6 := Int.mul_le_mul_of_nonneg_left rS s4
    rw [Int.neg_mul, Int.neg_mul] at a2 a3
    rw [Int.neg_mul] at a4
    refine ⟨by omega, fun _ l => ?_⟩
    have l2 := Int.mul_lt_mul_of_pos_right l hS
    rw [Int.add_mul, Int.add_mul] at l2
    omega
  · have a1 := Int.mul_nonneg s2 r0
    have a2 := Int.mul_le_mul_of_nonneg_left pS (show 0 ≤ -fa by omega)
    have a3 := Int.mul_le_mul_of_nonneg_left rS (show 0 ≤ -sb by omega)
    have a4 := Int.mul_nonneg (show 0 ≤ -sb by omega) r0
    have a5 := Int.mul_nonneg s3 p0
    have a6 := Int.mul_le_mul_of_nonneg_left pS s3
    rw [Int.neg_mul, Int.neg_mul] at a2 a3
    rw [Int.neg_mul] at a4
    refine ⟨by omega, fun l _ => ?_⟩
    have l2 := Int.mul_lt_mul_of_pos_right l hS
    rw [Int.add_mul, Int.add_mul] at l2
    omega

theorem det_step {fa fb sa sb q : Int} : sa * (fb - q * sb) - sb * (fa - q * sa) = -(fa * sb - fb * sa) := by grind

/-- One division on the heads. -/
theorem SInv.step {x0 y0 a b S fa fb sa sb x y q : Int} (h : SInv x0 y0 a b fa fb sa sb x y) (hh : Heads x0 y0 a b S) (h1 : y + sa ≠ 0) (h2 : y + sb ≠ 0) (hq : q = (x + fa) / (y + sa)) (hq2 : q = (x + fb) / (y + sb)) :
    SInv x0 y0 a b sa sb (fa - q * sa) (fb - q * sb) y (x - q * y) ∧ x - q * y < y ∧ 0 ≤ q := by
  have p1 : 0 < y + sa := by have := h.n3; omega
  have p2 : 0 < y + sb := by have := h.n4; omega
  have q0 : 0 ≤ q := by rw [hq]; exact Int.ediv_nonneg h.n1 (Int.le_of_lt p1)
  have d1 := Int.emod_add_mul_ediv (x + fa) (y + sa)
  have d2 := Int.emod_nonneg (x + fa) (show y + sa ≠ 0 by omega)
  have d3 := Int.emod_lt_of_pos (x + fa) p1
  have d4 := Int.emod_add_mul_ediv (x + fb) (y + sb)
  have d5 := Int.emod_nonneg (x + fb) (show y + sb ≠ 0 by omega)
  have d6 := Int.emod_lt_of_pos (x + fb) p2
  rw [← hq] at d1
  rw [← hq2] at d4
  generalize (x + fa) % (y + sa) = ra at *
  generalize (x + fb) % (y + sb) = rb at *
  clear hq hq2
  have r1 : (x - q * y) + (fa - q * sa) = ra := by grind
  have r2 : (x - q * y) + (fb - q * sb) = rb := by grind
  have hx : x - q * y = (fa - q * sa) * x0 + (fb - q * sb) * y0 := by rw [h.ex, h.ey]; grind
  have hg : Int.gcd (sa * a + sb * b) ((fa - q * sa) * a + (fb - q * sb) * b) = Int.gcd a b := by
    rw [← h.g, ← gcd_less (fa * a + fb * b) (sa * a + sb * b) q]
    congr 1
    grind
  have hBb : sa * a + sb * b ≤ b := by
    rcases h.st with ⟨e1, e2, e3, e4⟩ | ⟨e1, e2, e3⟩
    · subst e3 e4; omega
    · have := (h.near hh).2 e1 e2; omega
  have hdet := @det_step fa fb sa sb q
  obtain ⟨ta, hta⟩ : ∃ t, t = fa - q * sa := ⟨_, rfl⟩
  obtain ⟨tb, htb⟩ : ∃ t, t = fb - q * sb := ⟨_, rfl⟩
  obtain ⟨z, hz⟩ : ∃ t, t = x - q * y := ⟨_, rfl⟩
  rw [← hta] at r1 hx hg hdet ⊢
  rw [← htb] at r2 hx hg hdet ⊢
  rw [← hz] at r1 r2 hx ⊢
  have hx62 := hh.x62
  have hyx := hh.yx
  have hxb := h.xb
  have hyx2 := h.yx
  have m2 := h.m2
  rcases h.sg with ⟨s1, s2, s3, s4, s5⟩ | ⟨s1, s2, s3, s4, s5⟩
  · have i1 : y * (-tb) + z * sb = x0 := by rw [h.ey, hx]; grind
    have i2 : y * ta + z * (-sa) = y0 := by rw [h.ey, hx]; grind
    obtain ⟨k1, k2, k3, k4, k5, k6⟩ := head_half s1 s2 s3 s4 q0 hta htb (by omega) (by omega) i1 i2 hx62 (by omega)
    refine ⟨⟨h.ey, hx, h.n3, h.n4, by omega, by omega, .inr ⟨s3, s4, k1, k2, by omega⟩, m2, ?_, hg, .inr ⟨by omega, by omega, hBb⟩, k3, by omega, by omega⟩, k4, q0⟩
    unfold MixOk; omega
  · have i1 : y * (-ta) + z * sa = y0 := by rw [h.ey, hx]; grind
    have i2 : y * tb + z * (-sb) = x0 := by rw [h.ey, hx]; grind
    obtain ⟨k1, k2, k3, k4, k5, k6⟩ := head_half s2 s1 s4 s3 q0 htb hta (by omega) (by omega) i1 i2 (by omega) hx62
    refine ⟨⟨h.ey, hx, h.n3, h.n4, by omega, by omega, .inl ⟨s3, s4, k2, k1, by omega⟩, m2, ?_, hg, .inr ⟨by omega, by omega, hBb⟩, k3, by omega, by omega⟩, k4, q0⟩
    unfold MixOk; omega

/-- What two multiples must be to go on with. -/
def SEnd (a b fa fb sa sb : Int) : Prop := fb ≠ 0 → 0 ≤ sa * a + sb * b ∧ sa * a + sb * b < fa * a + fb * b ∧ fa * a + fb * b ≤ b ∧ Int.gcd (fa * a + fb * b) (sa * a + sb * b) = Int.gcd a b ∧ MixOk fa fb ∧ MixOk sa sb

theorem SInv.done {x0 y0 a b S fa fb sa sb x y : Int} (h : SInv x0 y0 a b fa fb sa sb x y) (hh : Heads x0 y0 a b S) : SEnd a b fa fb sa sb := by
  intro hfb
  rcases h.st with ⟨e1, e2, e3, e4⟩ | ⟨e1, e2, e3⟩
  · exact absurd e2 hfb
  · obtain ⟨n1, n2⟩ := h.near hh
    exact ⟨n1, n2 e1 e2, e3, h.g, h.m1, h.m2⟩

end Go.Proofs.Ytmifgblbicnimaa.Limb

/- What package quo's sure answers, as a contract over memory: two multiples of both heads, as far as these make the quotients certain. Conditions: the heads are those of two numbers, below 2^62, the second one not above the first. -/
namespace Go.Proofs.Ytmifgblbicnimaa
open Go.RowKit Limb
set_option linter.unusedVariables false

/-- A pair of multipliers in memory. -/
def Pair (w : World) (g : Nat) (u v : Int) : Prop := w.heap[g]? = some (.cells #[Value.int .i64 u, Value.int .i64 v] 97 (0, 0))
theorem Pair.lt {w : World} {g : Nat} {u v : Int} (h : Pair w g u v) : g < w.heap.size := by
  rcases Nat.lt_or_ge g w.heap.size with hlt | hge
  · exact hlt
  · unfold Pair at h; rw [Array.getElem?_eq_none hge] at h; cases h
theorem Pair.below {w w' : World} {g : Nat} {u v : Int} (h : Pair w g u v) (hb : Below w.heap.size w w') : Pair w' g u v := (hb.block g h.lt).trans h
theorem Pair.c0 {w : World} {g : Nat} {u v : Int} (h : Pair w g u v) : w.cell? ⟨g, 0, none⟩ = some (.int .i64 u) := by unfold Pair at h; simp [World.cell?, h]
theorem Pair.c1 {w : World} {g : Nat} {u v : Int} (h : Pair w g u v) : w.cell? ⟨g, 1, none⟩ = some (.int .i64 v) := by unfold Pair at h; simp [World.cell?, h]
theorem Pair.f0 {w : World} {g : Nat} {u v : Int} (h : Pair w g u v) (k : Nat) : w.frozen? ⟨g, k, none⟩ = false := by unfold Pair at h; simp [World.frozen?, h]
theorem Pair.put {w : World} {g : Nat} {u v : Int} (h : Pair w g u v) (u' v' : Int) : Pair ((w.setCell ⟨g, 0, none⟩ (.int .i64 u')).setCell ⟨g, 1, none⟩ (.int .i64 v')) g u' v' := by
  unfold Pair at h ⊢
  simp [World.setCell, Array.getElem?_modify, h]
theorem Pair.other {w : World} {g k : Nat} {u v : Int} (h : Pair w g u v) (hk : k ≠ g) (x y : Value) : Pair ((w.setCell ⟨k, 0, none⟩ x).setCell ⟨k, 1, none⟩ y) g u v := by
  unfold Pair at h ⊢
  simp [World.setCell, Array.getElem?_modify, h, hk]
theorem pair_new (w : World) (u v : Int) : Pair (w.alloc (.cells #[Value.int .i64 u, Value.int .i64 v] 97)) w.heap.size u v := heap_alloc_new _ _

theorem mix_size : (Try.prog.info? 97).map (·.size) = some 2 := by kernel_rfl

/-- Two results, each a row of cells. -/
theorem results_two {P : Program} {fn : Func} {p q : Tmp} {ty : TypeId} (h : fn.results = #[.cell p ty, .cell q ty]) (tmps : Array Value) (w : World) (g k : Nat) (t : TypeId) (cs ds : Array Value) (fr : Nat × Nat) (d : TypeDesc)
    (hp : tmps.getD p undef = .pointer (some ⟨g, 0, none⟩)) (hq : tmps.getD q undef = .pointer (some ⟨k, 0, none⟩)) (hg : w.heap[g]? = some (.cells cs t fr)) (hk : w.heap[k]? = some (.cells ds t fr))
    (hu : P.underlying ty = some d) (hd : (match d with | .struct _ | .array _ _ => true | _ => false) = true) (hi : (P.info? ty).map (·.size) = some cs.size) (hj : (P.info? ty).map (·.size) = some ds.size) :
    (results fn tmps).run P w = .ok (.tuple #[.agg cs, .agg ds]) w := by
  have hp' : tmps[p]?.getD undef = .pointer (some ⟨g, 0, none⟩) := by simpa using hp
  have hq' : tmps[q]?.getD undef = .pointer (some ⟨k, 0, none⟩) := by simpa using hq
  simp [results, h, hp', hq', asAddr, run_loadVar_row w g t ty cs fr d hg hu hd hi, run_loadVar_row w k t ty ds fr d hk hu hd hj]

theorem below_put2 {w wr : World} {g : Nat} (h : Below w.heap.size w wr) (hg : w.heap.size ≤ g) (u v : Value) : Below w.heap.size w ((wr.setCell ⟨g, 0, none⟩ u).setCell ⟨g, 1, none⟩ v) :=
  (h.setCell (by exact hg) _).setCell (by exact hg) _

set_option maxHeartbeats 1000000 in
theorem sure_any (x0 y0 a b S : Int) (hh : Heads x0 y0 a b S) (w : World) :
    Calls Try.prog 88 #[.int .i64 x0, .int .i64 y0] w fun e w' => ∃ fa fb sa sb : Int, e = .returned (.tuple #[.agg #[.int .i64 fa, .int .i64 fb], .agg #[.int .i64 sa, .int .i64 sb]]) ∧ SEnd a b fa fb sa sb ∧ Below w.heap.size w w' := by
  have h0 := SInv.start hh
  have H0 := Lib.hid h0
  have Hh := Lib.hid hh
  have P4 : RowKit.Hid (Pair ((w.alloc (.cells #[Value.int .i64 1, Value.int .i64 0] 97)).alloc (.cells #[Value.int .i64 0, Value.int .i64 1] 97)) w.heap.size 1 0) := (pair_new w 1 0).below (below_new _ _)
  have P5 : RowKit.Hid (Pair ((w.alloc (.cells #[Value.int .i64 1, Value.int .i64 0] 97)).alloc (.cells #[Value.int .i64 0, Value.int .i64 1] 97)) (w.heap.size + 1) 0 1) := by
    have h := pair_new (w.alloc (.cells #[Value.int .i64 1, Value.int .i64 0] 97)) 0 1
    have e : (w.alloc (.cells #[Value.int .i64 1, Value.int .i64 0] 97)).heap.size = w.heap.size + 1 := by simp
    rw [e] at h
    exact h
  have HB := Lib.hid (below_two (below_new w (.cells #[Value.int .i64 1, Value.int .i64 0] 97)) (below_new _ (.cells #[Value.int .i64 0, Value.int .i64 1] 97)))
  clear hh h0
  go_enter Try.func88, Try.ntmps88
  go_wp2
  go_loopw [0, 1] (fun xv yv wr => ∃ fa fb sa sb x y : Int, xv = .int .i64 x ∧ yv = .int .i64 y ∧ RowKit.Hid (SInv x0 y0 a b fa fb sa sb x y) ∧ RowKit.Hid (Pair wr w.heap.size fa fb) ∧ RowKit.Hid (Pair wr (w.heap.size + 1) sa sb) ∧ RowKit.Hid (Below w.heap.size w wr)) (fun _ yv _ => (intOf yv).toNat)
  case atStart => exact ⟨1, 0, 0, 1, x0, y0, rfl, rfl, H0, P4, P5, HB⟩
  case round =>
    clear H0 P4 P5 HB
    obtain ⟨fa, fb, sa, sb, x, y, rfl, rfl, Hi, P4, P5, HB⟩ := hrel
    obtain ⟨f1, f2, f3, f4, _⟩ := Hi.out.m1
    obtain ⟨s1, s2, s3, s4, _⟩ := Hi.out.m2
    have yp := Hi.out.yp
    have xb := Hi.out.xb
    have yx := Hi.out.yx
    have n1 := Hi.out.n1
    have n2 := Hi.out.n2
    have n3 := Hi.out.n3
    have n4 := Hi.out.n4
    have c40 := P4.out.c0
    have c41 := P4.out.c1
    have c50 := P5.out.c0
    have c51 := P5.out.c1
    by_cases hgo : y + sa ≠ 0 ∧ y + sb ≠ 0 ∧ (x + fa) / (y + sa) = (x + fb) / (y + sb)
    · obtain ⟨g1, g2, g3⟩ := hgo
      obtain ⟨q, hq⟩ : ∃ q, q = (x + fa) / (y + sa) := ⟨_, rfl⟩
      obtain ⟨hst, hlt, q0⟩ := Hi.out.step Hh.out g1 g2 hq (hq.trans g3)
      have d1 : ((y + sa) != 0) = true := by simpa using g1
      have d2 : ((y + sb) != 0) = true := by simpa using g2
      have d3 : ((y + sa) == 0) = false := by simpa using g1
      have d4 : ((y + sb) == 0) = false := by simpa using g2
      have eq1 : (x + fa) / (y + sa) = q := hq.symm
      have eq2 : (x + fb) / (y + sb) = q := by rw [← g3]; exact hq.symm
      obtain ⟨qa, hqa⟩ : ∃ t, t = q * sa := ⟨_, rfl⟩
      obtain ⟨qb, hqb⟩ : ∃ t, t = q * sb := ⟨_, rfl⟩
      obtain ⟨qy, hqy⟩ : ∃ t, t = q * y := ⟨_, rfl⟩
      rw [← hqa, ← hqb, ← hqy] at hst
      rw [← hqy] at hlt
      obtain ⟨t1, t2, t3, t4, _⟩ := hst.m2
      have z0 := hst.yp
      have p1 : 0 < y + sa := by omega
      have p2 : 0 < y + sb := by omega
      have q62 : q ≤ 4611686020574871552 := by
        rw [hq]
        exact Int.le_trans (Int.ediv_le_self _ n1) (by omega)
      have k1 : RowKit.wrap64 ((x + fa).tdiv (y + sa)) = q := by rw [Int.tdiv_eq_ediv_of_nonneg n1, eq1]; exact IntWalk.wrap64_in _ (by omega)
      have k2 : RowKit.wrap64 ((x + fb).tdiv (y + sb)) = q := by rw [Int.tdiv_eq_ediv_of_nonneg n2, eq2]; exact IntWalk.wrap64_in _ (by omega)
      have k3 : RowKit.wrap64 (q * y) = qy := by rw [← hqy]; exact IntWalk.wrap64_in _ (by omega)
      have w1' : IntKind.i64.wrap (q * sa) = qa := by rw [← hqa]; exact IntWalk.i64_in _ (by omega)
      have w2' : IntKind.i64.wrap (q * sb) = qb := by rw [← hqb]; exact IntWalk.i64_in _ (by omega)
      have w3' : IntKind.i64.wrap (fa - qa) = fa - qa := IntWalk.i64_in _ (by omega)
      have w4' : IntKind.i64.wrap (fb - qb) = fb - qb := IntWalk.i64_in _ (by omega)
      have Hst := Lib.hid hst
      clear hst hq g1 g2 g3 hqa hqb hqy Hi
      go_wp2
      rw [eq1, eq2]
      clear eq1 eq2 k1 k2
      have r40 : wr.drew.cell? ⟨w.heap.size, 0, none⟩ = some (.int .i64 fa) := c40
      have r41 : wr.drew.cell? ⟨w.heap.size, 1, none⟩ = some (.int .i64 fb) := c41
      have r50 : wr.drew.cell? ⟨w.heap.size + 1, 0, none⟩ = some (.int .i64 sa) := c50
      have r51 : wr.drew.cell? ⟨w.heap.size + 1, 1, none⟩ = some (.int .i64 sb) := c51
      have z40 := P4.out.f0 0
      have z41 := P4.out.f0 1
      have z50 := P5.out.f0 0
      have z51 := P5.out.f0 1
      go_region
      have Q4 := Lib.hid ((P4.out.put sa sb).other (k := w.heap.size + 1) (by omega) (.int .i64 (fa - qa)) (.int .i64 (fb - qb)))
      have Q5 := Lib.hid ((P5.out.other (k := w.heap.size) (by omega) (.int .i64 sa) (.int .i64 sb)).put (fa - qa) (fb - qb))
      have QB := Lib.hid (below_put2 (below_put2 HB.out (Nat.le_refl _) (.int .i64 sa) (.int .i64 sb)) (Nat.le_succ _) (.int .i64 (fa - qa)) (.int .i64 (fb - qb)))
      clear r40 r41 r50 r51 z40 z41 z50 z51 c40 c41 c50 c51 P4 P5 HB w1' w2' w3' w4' d1 d2 d3 d4
      generalize ((wr.setCell ⟨w.heap.size, 0, none⟩ (.int .i64 sa)).setCell ⟨w.heap.size, 1, none⟩ (.int .i64 sb)).setCell ⟨w.heap.size + 1, 0, none⟩ (.int .i64 (fa - qa)) = w5 at *
      generalize w5.setCell ⟨w.heap.size + 1, 1, none⟩ (.int .i64 (fb - qb)) = w6 at *
      have R4 : RowKit.Hid (Pair w6.drew w.heap.size sa sb) := Q4.out
      have R5 : RowKit.Hid (Pair w6.drew (w.heap.size + 1) (fa - qa) (fb - qb)) := Q5.out
      have RB : RowKit.Hid (Below w.heap.size w w6.drew) := QB.out.drew
      clear Q4 Q5 QB
      go_wp2
      go_roundw
      case rel => exact ⟨sa, sb, fa - qa, fb - qb, y, x - qy, rfl, rfl, Hst, R4, R5, RB⟩
      case measure => simp [intOf]; omega
    · have Hend := Lib.hid (Hi.out.done Hh.out)
      have z40 := P4.out.f0 0
      have z41 := P4.out.f0 1
      have z50 := P5.out.f0 0
      have z51 := P5.out.f0 1
      have r40 : wr.drew.cell? ⟨w.heap.size, 0, none⟩ = some (.int .i64 fa) := c40
      have r41 : wr.drew.cell? ⟨w.heap.size, 1, none⟩ = some (.int .i64 fb) := c41
      have r50 : wr.drew.cell? ⟨w.heap.size + 1, 0, none⟩ = some (.int .i64 sa) := c50
      have r51 : wr.drew.cell? ⟨w.heap.size + 1, 1, none⟩ = some (.int .i64 sb) := c51
      by_cases g1 : y + sa = 0
      case' pos =>
        have hz : y + sa ≤ 0 := by omega
      case' neg =>
        by_cases g2 : y + sb = 0
        case' pos =>
          have hz : 0 < y + sa := by omega
        case' neg =>
          have p1 : 0 < y + sa := by omega
          have p2 : 0 < y + sb := by omega
          have hz : (x + fa) / (y + sa) ≠ (x + fb) / (y + sb) := fun h => hgo ⟨g1, g2, h⟩
      all_goals
        clear hgo Hi
        go_wp2
      all_goals
        go_region
        have Q4 := Lib.hid ((P4.out.put fa fb).other (k := w.heap.size + 1) (by omega) (.int .i64 sa) (.int .i64 sb))
        have Q5 := Lib.hid ((P5.out.other (k := w.heap.size) (by omega) (.int .i64 fa) (.int .i64 fb)).put sa sb)
        have QB := Lib.hid (below_put2 (below_put2 HB.out (Nat.le_refl _) (.int .i64 fa) (.int .i64 fb)) (Nat.le_succ _) (.int .i64 sa) (.int .i64 sb))
        go_wp2
        refine bodyPost_ret (results_two rfl _ _ w.heap.size (w.heap.size + 1) 97 #[Value.int .i64 fa, Value.int .i64 fb] #[Value.int .i64 sa, Value.int .i64 sb] (0, 0) _ rfl rfl Q4.out Q5.out Try.underlying97 rfl mix_size mix_size) rfl ?_
        exact ⟨fa, fb, sa, sb, rfl, Hend.out, QB.out.drew⟩

end Go.Proofs.Ytmifgblbicnimaa

/- What math/bits' Div32 and package quo's Small answer, as contracts over memory: quotient and rest by one limb. Conditions: the list reads as limbs, of at most 10^8 of them; the high word is below the divisor. -/
namespace Go.Proofs.Ytmifgblbicnimaa
open Go.RowKit Limb
set_option linter.unusedVariables false

theorem or_hi32 (x y : Nat) (hx : x < 4294967296) (hy : y < 4294967296) : bits BinOp.or IntKind.u64 ((x : Int) * 4294967296) (y : Int) = ((x * 4294967296 + y : Nat) : Int) := by
  have e1 : (x : Int) * 4294967296 = ((x * 4294967296 : Nat) : Int) := by omega
  rw [e1, u64_or_nat _ _ (by omega) (by omega), Nat.mul_comm x, show (4294967296 : Nat) = 2 ^ 32 from rfl, Nat.two_pow_add_eq_or_of_lt (by omega)]

set_option maxHeartbeats 400000 in
theorem div32_nat (x y v : Nat) (w : World) (hx : x < v) (hy : y < 4294967296) (hv : v < 4294967296) :
    Calls Try.prog 92 #[.int .u32 (x : Int), .int .u32 (y : Int), .int .u32 (v : Int)] w fun e w' => e = .returned (.tuple #[.int .u32 (((x * 4294967296 + y) / v : Nat) : Int), .int .u32 (((x * 4294967296 + y) % v : Nat) : Int)]) ∧ ∃ n, w' = w.drewN n := by
  have hz := one_digit hx hy
  have hm : (x * 4294967296 + y) % v < v := Nat.mod_lt _ (by omega)
  have hs : bits BinOp.or IntKind.u64 ((x : Int) * 4294967296) (y : Int) = ((x * 4294967296 + y : Nat) : Int) := or_hi32 x y (by omega) hy
  obtain ⟨z, hzz⟩ : ∃ z, z = x * 4294967296 + y := ⟨_, rfl⟩
  have hzl : z < 18446744073709551616 := by omega
  rw [← hzz] at hz hm hs ⊢
  obtain ⟨q, hq⟩ : ∃ q, q = z / v := ⟨_, rfl⟩
  obtain ⟨m, hm2⟩ : ∃ m, m = z % v := ⟨_, rfl⟩
  have eq1 : (z : Int) / (v : Int) = (q : Int) := by rw [hq]; simp
  have em1 : (z : Int) % (v : Int) = (m : Int) := by rw [hm2]; simp
  rw [← hq] at hz ⊢
  rw [← hm2] at hm ⊢
  have hv0 : ((v : Int) != 0) = true := by simp; omega
  have hv1 : ((v : Int) == 0) = false := by simp; omega
  clear hzz hq hm2
  go_enter Try.func92, Try.ntmps92
  go_wp2
  go_quiet (fail)
  go_wp2
  go_ret2
  exact ⟨rfl, _, rfl⟩

theorem ret_small {A : Option Addr} {n c r s : Nat} (h : r = s) : Ending.returned (.tuple #[.slice A n c, .int .u32 ((r : Nat) : Int), .bool true]) = .returned (.tuple #[.slice A n c, .int .u32 ((s : Nat) : Int), .bool true]) := by rw [h]

set_option maxHeartbeats 1000000 in
theorem quoSmall_o {A : Option Addr} {n c : Nat} {xs : List Nat} {a L : Nat} {w : World} (hx : NN w A n c xs a L) (h1 : L ≤ 100000) (v : Nat) (V : Int) (hV : V = v) (hv : v < 4294967296) (h0 : v ≠ 0) :
    Calls Try.prog 84 #[.slice A n c, .int .u32 V] w fun e w' => ∃ A1 n1 c1, e = .returned (.tuple #[.slice A1 n1 c1, .int .u32 ((a % v : Nat) : Int), .bool true]) ∧ OwnN w' w.heap.size A1 n1 c1 (limbs (a / v)) ∧ Below w.heap.size w w' := by
  subst hV
  have hv0 : ((v : Int) == 0) = false := by simp; omega
  have hle := hx.le
  have Hval := Lib.hid hx.val
  have Hlt := Lib.hid (lt_pow hx)
  have hT := trim_any A n c xs w hx.isN hx.cap (by omega)
  have hlt := trim_len_le xs
  have hl := hx.isN.len
  have hsm : Small (trim xs) := by rw [trim_eq_limbs hx.isN.small]; exact small_limbs _
  have Hvt : RowKit.Hid (val (trim xs) = a) := by show _ = _; rw [trim_eq_limbs hx.isN.small, val_limbs, Hval.out]
  have hlen : (trim xs).length ≤ 100000 := by omega
  clear hl hlt hx hle Hval
  go_enter Try.func84, Try.ntmps84
  go_wp2_with fail
  refine hT.mono ?_
  rintro e w1 ⟨A1, n1, c1, rfl, how, hb⟩
  generalize trim xs = ys at *
  have hyl := how.len
  subst hyl
  have How := Lib.hid how
  have Hb := Lib.hid hb
  have hi0 := Lib.hid (OneInv.start ys h0)
  clear how hb hT
  go_wp2
  go_loopw [7, 5] (fun i rv wr => ∃ (k r : Nat) (zs : List Nat), k ≤ ys.length ∧ i = .int .i64 ((k : Int) - 1) ∧ rv = .int .u32 (r : Int) ∧ RowKit.Hid (OneInv ys zs v k r) ∧ RowKit.Hid (OwnN wr w.heap.size A1 ys.length c1 zs) ∧ RowKit.Hid (Below w.heap.size w wr)) (fun i _ _ => (intOf i + 1).toNat)
  case atStart => exact ⟨ys.length, 0, ys, Nat.le_refl _, rfl, rfl, hi0, How, Hb⟩
  case round =>
    clear hi0 How Hb
    obtain ⟨k, r, zs, hk, rfl, rfl, Hinv, How, Hb⟩ := hrel
    by_cases hk0 : k = 0
    · subst hk0
      have hd := Hinv.out.done
      have Hd1 : RowKit.Hid (val zs = a / v) := by show _ = _; rw [hd.1, Hvt.out]
      have hr2 : r = a % v := by rw [hd.2, Hvt.out]
      have Hr := Lib.hid hr2
      have hz := How.out.isN
      have hcap := How.out.caps
      have hsz := How.out.small
      clear hd hr2
      go_wp2_with fail
      refine (trim_any A1 ys.length c1 zs _ hz hcap.1 (by omega)).mono ?_
      rintro e w2 ⟨A2, n2, c2, rfl, how2, hb2⟩
      rw [trim_eq_limbs hsz, Hd1.out] at how2
      have HN := Lib.hid (how2.mono Hb.out.size)
      have HW := Lib.hid (below_two Hb.out hb2)
      clear how2 hb2 hz hcap hsz Hinv How Hb
      go_wp2
      go_ret3
      exact ⟨_, _, _, ret_small Hr.out, HN.out, HW.out⟩
    · obtain ⟨j, rfl⟩ : ∃ j, k = j + 1 := ⟨k - 1, by omega⟩
      have ej : ((j + 1 : Nat) : Int) - 1 = (j : Int) := by omega
      rw [ej]
      obtain ⟨g, rfl, hBg, hgl⟩ := How.out.addr (by omega)
      have h2 := How.out.cell (k := j) (by omega)
      have hr := Hinv.out.2.2.2
      have hz := lim_lt How.out.small j
      clear ej
      go_wp2_with fail
      refine (div32_nat r (lim zs j) v _ hr hz hv).mono ?_
      rintro e w2 ⟨rfl, nd, rfl⟩
      have how2 := How.out.below (below_drewN (Below.refl _ _) nd) (Nat.le_refl _)
      have hb2 := below_drewN Hb.out nd
      have hdl := one_digit hr hz
      have Hst := Lib.hid (Hinv.out.step (k := j) (by omega))
      generalize wr.drewN nd = w2 at *
      obtain ⟨q, hq⟩ : ∃ q, q = (r * 4294967296 + lim zs j) / v := ⟨_, rfl⟩
      obtain ⟨m, hm⟩ : ∃ m, m = (r * 4294967296 + lim zs j) % v := ⟨_, rfl⟩
      rw [← hq] at hdl Hst ⊢
      rw [← hm] at Hst ⊢
      have h3 := how2.cell (k := j) (by omega)
      have h4 := how2.1.frozenAt j
      have Hset := Lib.hid (how2.set j hdl)
      have Hb2 : RowKit.Hid (Below w.heap.size w (w2.setCell ⟨g, j, none⟩ (.int .u32 (q : Int)))) := hb2.setCell (by exact hBg) _
      clear hq hm How Hb Hinv how2 hb2 h2 hz
      go_wp2
      go_roundw
      case rel => exact ⟨j, m, zs.set j q, by omega, by go_num, rfl, Hst, Hset, Hb2⟩
      case measure => simp [intOf] <;> omega

theorem quoSmall_yes {A : Option Addr} {n c : Nat} {xs : List Nat} {a L : Nat} {w : World} (hx : NN w A n c xs a L) (h1 : L ≤ 100000) (v : Nat) (V : Int) (hV : V = v) (hv : v < 4294967296) (h0 : v ≠ 0) :
    Calls Try.prog 84 #[.slice A n c, .int .u32 V] w fun e w' => ∃ A1 n1 c1, e = .returned (.tuple #[.slice A1 n1 c1, .int .u32 ((a % v : Nat) : Int), .bool true]) ∧ NN w' A1 n1 c1 (limbs (a / v)) (a / v) L ∧ Below w.heap.size w w' := by
  have Hlt := Lib.hid (lt_pow hx)
  refine (quoSmall_o hx h1 v V hV hv h0).mono ?_
  rintro e w' ⟨A1, n1, c1, rfl, how, hb⟩
  exact ⟨A1, n1, c1, rfl, NN.own how (Nat.lt_of_le_of_lt (Nat.div_le_self _ _) Hlt.out), hb⟩

theorem quoSmall_no {A : Option Addr} {n c : Nat} {xs : List Nat} {a L : Nat} {w : World} (hx : NN w A n c xs a L) (h1 : L ≤ 100000) (V : Int) (hV : V = 0) :
    Calls Try.prog 84 #[.slice A n c, .int .u32 V] w fun e w' => ∃ A1 c1, e = .returned (.tuple #[.slice A1 0 c1, .int .u32 0, .bool false]) ∧ Below w.heap.size w w' := by
  subst hV
  go_enter Try.func84, Try.ntmps84
  go_wp2
  go_ret3
  exact ⟨none, 0, rfl, Below.refl _ _⟩

end Go.Proofs.Ytmifgblbicnimaa

/- What package quo's lessen and raise answer, as contracts over memory: a multiple of a row is taken from another one, a row is paid back. Conditions: the row that is written is the call's own, one limb longer than the other; at most 10^9 limbs. -/
namespace Go.Proofs.Ytmifgblbicnimaa
open Go.RowKit Limb
set_option linter.unusedVariables false

set_option maxHeartbeats 1000000 in
theorem lessen_any (w0 w : World) (hb : Below w0.heap.size w0 w) (g m cs : Nat) (rs : List Nat) (how : OwnN w w0.heap.size (some ⟨g, 0, none⟩) (m + 1) cs rs)
    (A : Option Addr) (c : Nat) (bs : List Nat) (hx : IsN w0 A m bs) (v : Nat) (V : Int) (hV : V = v) (hv : v < 4294967296) (hm : m ≤ 1000000000) (t : Bool) (ht : decide (val rs < v * val bs) = t) :
    Calls Try.prog 97 #[.slice (some ⟨g, 0, none⟩) (m + 1) cs, .slice A m c, .int .u32 V] w fun e w' => e = .returned (.bool t) ∧
      (∃ zs tt, OwnN w' w0.heap.size (some ⟨g, 0, none⟩) (m + 1) cs zs ∧ val (zs.take m) + v * val bs = val (rs.take m) + tt * 4294967296 ^ m) ∧ Below w0.heap.size w0 w' ∧ Others g w w' := by
  subst hV
  have hBg : w0.heap.size ≤ g := by
    obtain ⟨g', e, h1, _⟩ := how.addr (by omega)
    injection e with e; injection e with e; subst e; exact h1
  have hsr := how.small
  have hsx := hx.small
  have Hxl := Lib.hid hx.len
  have Hrl := Lib.hid how.len
  have Ht := Lib.hid ht
  have Hi0 := Lib.hid (LessInv.start rs bs v)
  have How := Lib.hid how
  have Hb := Lib.hid hb
  clear ht how hb
  go_enter Try.func97, Try.ntmps97
  go_wp2
  go_loopw [13, 7, 8] (fun i cy bo wr => ∃ (k cr br : Nat) (zs : List Nat), k ≤ m ∧ i = .int .i64 (k : Int) ∧ cy = .int .u64 (cr : Int) ∧ bo = .int .u32 (br : Int) ∧ RowKit.Hid (LessInv rs bs zs v k cr br) ∧ RowKit.Hid (OwnN wr w0.heap.size (some ⟨g, 0, none⟩) (m + 1) cs zs) ∧ RowKit.Hid (Below w0.heap.size w0 wr) ∧ RowKit.Hid (Others g w wr)) (fun i _ _ _ => m - (intOf i).toNat)
  case atStart => exact ⟨0, 0, 0, rs, Nat.zero_le _, rfl, rfl, rfl, Hi0, How, Hb, Others.refl _ _⟩
  case round =>
    clear How Hb Hi0
    obtain ⟨k, cr, br, zs, hk, rfl, rfl, rfl, Hinv, How, Hb, Ho⟩ := hrel
    have hcr := Hinv.out.2.2.2.1
    have hbr := Hinv.out.2.2.2.2
    by_cases hkm : k < m
    · obtain ⟨b1, o1, rfl, hb1, hc1⟩ := hx.2.2 (by omega)
      have h1 : wr.cell? ⟨b1, o1 + k, none⟩ = some (.int .u32 ((lim bs k : Nat) : Int)) := (Hb.out.cell (p := ⟨b1, o1 + k, none⟩) hb1).trans (hc1 k hkm)
      have h3 := How.out.cell (k := k) (by omega)
      have h4 := How.out.1.frozenAt k
      have l1 := lim_lt hsx k
      have l2 := lim_lt How.out.small k
      have hq := limb_prod l1 hv
      have hq1 : ((lim bs k : Nat) : Int) * (v : Int) ≤ 18446744065119617025 := by
        have : ((lim bs k * v : Nat) : Int) ≤ 18446744065119617025 := by omega
        rwa [Int.natCast_mul] at this
      have hq0 : 0 ≤ ((lim bs k : Nat) : Int) * (v : Int) := by
        have : 0 ≤ ((lim bs k * v : Nat) : Int) := by omega
        rwa [Int.natCast_mul] at this
      obtain ⟨lo, hlo⟩ : ∃ lo, lo = (cr + lim bs k * v) % 4294967296 := ⟨_, rfl⟩
      obtain ⟨hi, hhi⟩ : ∃ hi, hi = (cr + lim bs k * v) / 4294967296 := ⟨_, rfl⟩
      have eI : ((lim bs k * v : Nat) : Int) = ((lim bs k : Nat) : Int) * (v : Int) := Int.natCast_mul _ _
      have hlo2 : lo < 4294967296 := by omega
      have hsum : cr + lim bs k * v = lo + hi * 4294967296 := by omega
      have elo : ((cr : Int) + ((lim bs k : Nat) : Int) * (v : Int)) % 4294967296 = (lo : Int) := by omega
      have ehi : ((cr : Int) + ((lim bs k : Nat) : Int) * (v : Int)) / 4294967296 = (hi : Int) := by omega
      have hdl := diffLo_lt (lim zs k) lo br
      have Hst := Lib.hid (Hinv.out.step hsr (by have := Hrl.out; omega) hsx hv hlo2 hsum)
      have Hset := Lib.hid (How.out.set k hdl)
      have Hb2 : RowKit.Hid (Below w0.heap.size w0 (wr.setCell ⟨g, k, none⟩ (.int .u32 ((diffLo (lim zs k) lo br : Nat) : Int)))) := Hb.out.setCell (by exact hBg) _
      have Ho2 : RowKit.Hid (Others g w (wr.setCell ⟨g, k, none⟩ (.int .u32 ((diffLo (lim zs k) lo br : Nat) : Int)))) := Ho.out.setCell k _
      clear hq hlo hhi hsum eI
      go_wp2_with (go_at_call 100; (with_reducible refine (sub32_nat (lim zs k) lo br _ l2 hlo2 hbr).mono ?_); rintro e w2 ⟨rfl, rfl⟩)
      go_roundw
      case rel => exact ⟨k + 1, hi, _, _, by omega, by go_num, rfl, rfl, Hst, Hset, Hb2, Ho2⟩
      case measure => simp [intOf]; omega
    · obtain rfl : k = m := by omega
      have h3 := How.out.cell (k := k) (by omega)
      have hv0 := Hinv.out.2.1
      have hl0 := Hinv.out.2.2.1 k (Nat.le_refl _)
      have hbt : bs.take k = bs := List.take_of_length_le (by rw [Hxl.out]; exact Nat.le_refl _)
      rw [hbt] at hv0
      have hzt := val_lt (small_take How.out.small k)
      rw [List.length_take, How.out.len, Nat.min_eq_left (by omega)] at hzt
      have hR : val rs = val (rs.take k) + 4294967296 ^ k * lim rs k := by
        have := val_take_lim rs k
        rwa [List.take_of_length_le (by rw [Hrl.out]; exact Nat.le_refl _)] at this
      have Htop := Lib.hid (less_top hv0 hzt hR)
      have Hv0 := Lib.hid hv0
      have l2 := lim_lt How.out.small k
      rw [← hl0] at Htop
      clear hv0 hl0 hbt hzt hR Hinv
      by_cases hlt : lim zs k < cr + br
      · have Ht2 : RowKit.Hid (t = true) := by show _ = _; rw [← Ht.out]; simpa using Htop.out.2 hlt
        have hd : decide (((lim zs k : Nat) : Int) < (cr : Int) + (br : Int)) = true := by simp; omega
        go_wp2
        go_ret
        exact ⟨ret_bool Ht2.out.symm, ⟨zs, _, How.out, Hv0.out⟩, Hb.out, Ho.out⟩
      · have Ht2 : RowKit.Hid (t = false) := by show _ = _; rw [← Ht.out]; simpa using fun h => hlt (Htop.out.1 h)
        have hd : decide (((lim zs k : Nat) : Int) < (cr : Int) + (br : Int)) = false := by simp; omega
        go_wp2
        go_ret
        exact ⟨ret_bool Ht2.out.symm, ⟨zs, _, How.out, Hv0.out⟩, Hb.out, Ho.out⟩

set_option maxHeartbeats 1000000 in
theorem raise_any (w0 w : World) (hb : Below w0.heap.size w0 w) (g m cs : Nat) (rs : List Nat) (how : OwnN w w0.heap.size (some ⟨g, 0, none⟩) (m + 1) cs rs)
    (A : Option Addr) (c : Nat) (bs : List Nat) (hx : IsN w0 A m bs) (hm : m ≤ 1000000000) :
    Calls Try.prog 98 #[.slice (some ⟨g, 0, none⟩) (m + 1) cs, .slice A m c] w fun e w' => e = .returned (.tuple #[]) ∧
      (∃ zs cc, OwnN w' w0.heap.size (some ⟨g, 0, none⟩) (m + 1) cs zs ∧ val (zs.take m) + cc * 4294967296 ^ m = val (rs.take m) + val bs) ∧ Below w0.heap.size w0 w' ∧ Others g w w' := by
  have hBg : w0.heap.size ≤ g := by
    obtain ⟨g', e, h1, _⟩ := how.addr (by omega)
    injection e with e; injection e with e; subst e; exact h1
  have hsr := how.small
  have hsx := hx.small
  have Hxl := Lib.hid hx.len
  have Hrl := Lib.hid how.len
  have Hi0 := Lib.hid (AddInv.start rs bs)
  have How := Lib.hid how
  have Hb := Lib.hid hb
  clear how hb
  go_enter Try.func98, Try.ntmps98
  go_wp2
  go_loopw [9, 4] (fun i cy wr => ∃ (k cr : Nat) (zs : List Nat), k ≤ m ∧ i = .int .i64 (k : Int) ∧ cy = .int .u32 (cr : Int) ∧ RowKit.Hid (AddInv rs bs zs k cr) ∧ RowKit.Hid (OwnN wr w0.heap.size (some ⟨g, 0, none⟩) (m + 1) cs zs) ∧ RowKit.Hid (Below w0.heap.size w0 wr) ∧ RowKit.Hid (Others g w wr)) (fun i _ _ => m - (intOf i).toNat)
  case atStart => exact ⟨0, 0, rs, Nat.zero_le _, rfl, rfl, Hi0, How, Hb, Others.refl _ _⟩
  case round =>
    clear How Hb Hi0
    obtain ⟨k, cr, zs, hk, rfl, rfl, Hinv, How, Hb, Ho⟩ := hrel
    have hcr := Hinv.out.2.2.2
    by_cases hkm : k < m
    · obtain ⟨b1, o1, rfl, hb1, hc1⟩ := hx.2.2 (by omega)
      have h1 : wr.cell? ⟨b1, o1 + k, none⟩ = some (.int .u32 ((lim bs k : Nat) : Int)) := (Hb.out.cell (p := ⟨b1, o1 + k, none⟩) hb1).trans (hc1 k hkm)
      have h3 := How.out.cell (k := k) (by omega)
      have h4 := How.out.1.frozenAt k
      have l1 := lim_lt hsx k
      have l2 := lim_lt How.out.small k
      have hdl := sumLo_lt (lim zs k) (lim bs k) cr
      have Hst := Lib.hid (Hinv.out.step hsr hsx (by have := Hrl.out; omega))
      have Hset := Lib.hid (How.out.set k hdl)
      have Hb2 : RowKit.Hid (Below w0.heap.size w0 (wr.setCell ⟨g, k, none⟩ (.int .u32 ((sumLo (lim zs k) (lim bs k) cr : Nat) : Int)))) := Hb.out.setCell (by exact hBg) _
      have Ho2 : RowKit.Hid (Others g w (wr.setCell ⟨g, k, none⟩ (.int .u32 ((sumLo (lim zs k) (lim bs k) cr : Nat) : Int)))) := Ho.out.setCell k _
      go_wp2_with (go_at_call 101; (with_reducible refine (add32_nat (lim zs k) (lim bs k) cr _ l2 l1 hcr).mono ?_); rintro e w2 ⟨rfl, rfl⟩)
      go_roundw
      case rel => exact ⟨k + 1, _, _, by omega, by go_num, rfl, Hst, Hset, Hb2, Ho2⟩
      case measure => simp [intOf]; omega
    · obtain rfl : k = m := by omega
      have hv0 := Hinv.out.2.1
      have hbt : bs.take k = bs := List.take_of_length_le (by rw [Hxl.out]; exact Nat.le_refl _)
      rw [hbt] at hv0
      have Hv0 := Lib.hid hv0
      clear hv0 hbt Hinv
      go_wp2
      first | go_end0 | refine bodyPost_ret (results_none rfl _ _ _) rfl ?_
      exact ⟨rfl, ⟨zs, _, How.out, Hv0.out⟩, Hb.out, Ho.out⟩

end Go.Proofs.Ytmifgblbicnimaa

/- What package quo's guess and takeOut answer, as contracts over memory: how often a row is in another one. Conditions: the row that is written is the call's own, one limb longer than the other, and less than it times 2^32; the other one has two limbs or more, its highest bit set; at most 10^9 limbs. -/
namespace Go.Proofs.Ytmifgblbicnimaa
open Go.RowKit Limb
set_option linter.unusedVariables false

theorem guessV_dec {top high next r2 o p : Nat} (ho : guessO top high = o) (h1 : top - o * high ≤ 4294967295) (h2 : (top - o * high) * 4294967296 + r2 < o * next) (hp : o = p + 1) : guessV top high next r2 = p := by
  unfold guessV guessT
  rw [ho]
  simp [h1, h2]
  omega
theorem guessV_far {top high next r2 o : Nat} (ho : guessO top high = o) (h1 : ¬ top - o * high ≤ 4294967295) : guessV top high next r2 = o := by
  unfold guessV guessT
  rw [ho]
  simp [h1]
theorem guessV_stay {top high next r2 o : Nat} (ho : guessO top high = o) (h2 : ¬ (top - o * high) * 4294967296 + r2 < o * next) : guessV top high next r2 = o := by
  unfold guessV guessT
  rw [ho]
  simp [h2]

/-- Memory is as it was. -/
def Still (w w' : World) : Prop := Below w.heap.size w w' ∧ ∀ g, Others g w w'
theorem still_drewN {a w : World} (h : Still a w) (n : Nat) : Still a (w.drewN n) := ⟨below_drewN h.1 n, h.2⟩
theorem still_refl (w : World) : Still w w := ⟨Below.refl _ _, fun _ => Others.refl _ _⟩

theorem nat_le_atom {a b : Nat} {x y : Int} (h : a ≤ b) (hx : x = (a : Int)) (hy : y = (b : Int)) : x ≤ y := by omega

set_option maxHeartbeats 2000000 in
theorem guess_any (w : World) (A : Option Addr) (n c : Nat) (rs : List Nat) (hr : IsN w A (n + 1) rs) (A' : Option Addr) (c' : Nat) (bs : List Nat) (hx : IsN w A' n bs) (hn : 2 ≤ n) (hm : n ≤ 1000000000) (hh : 0 < lim bs (n - 1)) (q : Nat)
    (hq : guessV (lim rs n * 4294967296 + lim rs (n - 1)) (lim bs (n - 1)) (lim bs (n - 2)) (lim rs (n - 2)) = q) :
    Calls Try.prog 96 #[.slice A (n + 1) c, .slice A' n c'] w fun e w' => e = .returned (.int .u32 (q : Int)) ∧ Still w w' := by
  obtain ⟨b1, o1, rfl, hb1, hc1⟩ := hr.2.2 (by omega)
  obtain ⟨b2, o2, rfl, hb2, hc2⟩ := hx.2.2 (by omega)
  have r0 := hc1 n (by omega)
  have r1 := hc1 (n - 1) (by omega)
  have r2 := hc1 (n - 2) (by omega)
  have x1 := hc2 (n - 1) (by omega)
  have x2 := hc2 (n - 2) (by omega)
  have l0 := lim_lt hr.small n
  have l1 := lim_lt hr.small (n - 1)
  have l2 := lim_lt hr.small (n - 2)
  have m1 := lim_lt hx.small (n - 1)
  have m2 := lim_lt hx.small (n - 2)
  have Hq := Lib.hid hq
  clear hq hr hx hc1 hc2
  obtain ⟨high, hhi⟩ : ∃ h, h = lim bs (n - 1) := ⟨_, rfl⟩
  obtain ⟨next, hne⟩ : ∃ h, h = lim bs (n - 2) := ⟨_, rfl⟩
  obtain ⟨t0, ht0⟩ : ∃ h, h = lim rs n := ⟨_, rfl⟩
  obtain ⟨t1, ht1⟩ : ∃ h, h = lim rs (n - 1) := ⟨_, rfl⟩
  obtain ⟨t2, ht2⟩ : ∃ h, h = lim rs (n - 2) := ⟨_, rfl⟩
  rw [← hhi] at x1 m1 hh Hq
  rw [← hne] at x2 m2 Hq
  rw [← ht0] at r0 l0 Hq
  rw [← ht1] at r1 l1 Hq
  rw [← ht2] at r2 l2 Hq
  clear hhi hne ht0 ht1 ht2
  have htop : bits BinOp.or IntKind.u64 ((t0 : Int) * 4294967296) (t1 : Int) = ((t0 * 4294967296 + t1 : Nat) : Int) := or_hi32 t0 t1 l0 l1
  have htl : t0 * 4294967296 + t1 < 18446744073709551616 := by omega
  obtain ⟨top, htp⟩ : ∃ h, h = t0 * 4294967296 + t1 := ⟨_, rfl⟩
  rw [← htp] at htop htl Hq
  clear htp
  go_enter Try.func96, Try.ntmps96
  go_wp2
  go_quiet (fail)
  have hw := Lib.hid (still_drewN (still_refl w) nq)
  have r0' : (w.drewN nq).cell? ⟨b1, o1 + n, none⟩ = some (.int .u32 (t0 : Int)) := r0
  have r1' : (w.drewN nq).cell? ⟨b1, o1 + (n - 1), none⟩ = some (.int .u32 (t1 : Int)) := r1
  have r2' : (w.drewN nq).cell? ⟨b1, o1 + (n - 2), none⟩ = some (.int .u32 (t2 : Int)) := r2
  clear r0 r1 r2 x1 x2
  generalize w.drewN nq = w2 at *
  go_wp2
  go_quiet (fail)
  replace hw := Lib.hid (still_drewN hw.out nq)
  have r2 : (w2.drewN nq).cell? ⟨b1, o1 + (n - 2), none⟩ = some (.int .u32 (t2 : Int)) := r2'
  clear r0' r1' r2' htop
  generalize w2.drewN nq = w3 at *
  have hom := guessO_mul top high
  have hol := guessO_le top high
  obtain ⟨o, ho⟩ : ∃ o, guessO top high = o := ⟨_, rfl⟩
  have Ho := Lib.hid ho
  rw [ho] at hom hol
  obtain ⟨oh, hoh⟩ : ∃ x, x = o * high := ⟨_, rfl⟩
  obtain ⟨on, hon⟩ : ∃ x, x = o * next := ⟨_, rfl⟩
  have eoh : (o : Int) * (high : Int) = (oh : Int) := by rw [hoh]; exact (Int.natCast_mul _ _).symm
  have eon : (o : Int) * (next : Int) = (on : Int) := by rw [hon]; exact (Int.natCast_mul _ _).symm
  have hon2 : on ≤ 18446744065119617025 := by rw [hon]; exact Nat.mul_le_mul hol (show next ≤ 4294967295 by omega)
  rw [← hoh] at hom
  obtain ⟨left, hleft⟩ : ∃ x, x = top - oh := ⟨_, rfl⟩
  have eleft : (top : Int) - (oh : Int) = (left : Int) := by omega
  have hh1 : ((high : Int) == 0) = false := by simp; omega
  have Hfar : RowKit.Hid (¬ left ≤ 4294967295 → q = o) := fun h => by rw [← Hq.out]; exact guessV_far Ho.out (by rw [← hoh, ← hleft]; exact h)
  have Hstay : RowKit.Hid (¬ left * 4294967296 + t2 < on → q = o) := fun h => by rw [← Hq.out]; exact guessV_stay Ho.out (by rw [← hoh, ← hleft, ← hon]; exact h)
  have Hdec : RowKit.Hid (left ≤ 4294967295 → left * 4294967296 + t2 < on → ∀ p, o = p + 1 → q = p) := fun h1 h2 p hp => by
    rw [← Hq.out]; exact guessV_dec Ho.out (by rw [← hoh, ← hleft]; exact h1) (by rw [← hoh, ← hleft, ← hon]; exact h2) hp
  have hlt : left ≤ top := by omega
  obtain ⟨tq, htq⟩ : ∃ x, x = top / high := ⟨_, rfl⟩
  have etq : (top : Int) / (high : Int) = (tq : Int) := by rw [htq]; simp
  have htq2 : tq ≤ top := by rw [htq]; exact Nat.div_le_self _ _
  have homin : o = min tq 4294967295 := by rw [htq]; exact ho.symm
  clear ho hoh hon hleft htq Hq Ho
  obtain ⟨s, hs⟩ : ∃ x, x = left * 4294967296 + t2 := ⟨_, rfl⟩
  rw [← hs] at Hstay Hdec
  have Hs : RowKit.Hid (left ≤ 4294967295 → bits BinOp.or IntKind.u64 ((left : Int) * 4294967296) (t2 : Int) = (s : Int)) := fun h => by rw [hs]; exact or_hi32 left t2 (by omega) l2
  have Hon0 : RowKit.Hid (s < on → o ≠ 0) := by
    intro h h0
    rw [h0] at eon
    simp at eon
    omega
  clear hs
  by_cases hc : tq ≤ 4294967295
  case' pos =>
    obtain rfl : o = tq := by rw [homin]; exact Nat.min_eq_left hc
    have Hp : RowKit.Hid (s < on → ∃ p : Nat, o = p + 1 ∧ (o : Int) - 1 = (p : Int)) := fun h => ⟨o - 1, by have := Hon0.out h; omega, by have := Hon0.out h; omega⟩
    have ho : (o : Int) = (o : Int) := rfl
  case' neg =>
    obtain rfl : o = 4294967295 := by rw [homin]; exact Nat.min_eq_right (by omega)
    replace eoh : (4294967295 : Int) * (high : Int) = (oh : Int) := eoh
    replace eon : (4294967295 : Int) * (next : Int) = (on : Int) := eon
    have Hp : RowKit.Hid (s < on → ∃ p : Nat, 4294967295 = p + 1 ∧ (4294967295 : Int) - 1 = (p : Int)) := fun h => ⟨4294967294, by omega, by omega⟩
    have ho : (4294967295 : Int) = ((4294967295 : Nat) : Int) := rfl
  all_goals
    clear homin Hon0
    have Hho := Lib.hid ho
    clear ho
    by_cases c1 : left ≤ 4294967295
    · have hor := Hs.out c1
      by_cases c2 : s < on
      · obtain ⟨p, hp1, hp2⟩ := Hp.out c2
        have Hr : RowKit.Hid (q = p) := Hdec.out c1 c2 p hp1
        have Hp1 := Lib.hid hp1
        clear Hdec Hfar Hstay Hp hp1
        go_wp2
        go_ret
        exact ⟨ret_int (by first | (rw [Hr.out]; done) | (rw [Hr.out]; omega)), hw.out⟩
      · have Hr := Lib.hid (Hstay.out c2)
        have c3 : on ≤ s := by omega
        clear Hdec Hfar Hstay Hp c2
        go_wp2
        go_ret
        exact ⟨ret_int (by first | (rw [Hr.out]; done) | (rw [Hr.out]; omega)), hw.out⟩
    · have Hr := Lib.hid (Hfar.out c1)
      have c3 : 4294967295 < left := by omega
      clear Hdec Hfar Hstay Hp c1
      go_wp2
      go_ret
      exact ⟨ret_int (by first | (rw [Hr.out]; done) | (rw [Hr.out]; omega)), hw.out⟩

set_option maxHeartbeats 1000000 in
theorem takeOut_any (w0 w : World) (hb : Below w0.heap.size w0 w) (g m cs : Nat) (rs : List Nat) (how : OwnN w w0.heap.size (some ⟨g, 0, none⟩) (m + 1) cs rs)
    (A : Option Addr) (c : Nat) (bs : List Nat) (hx : IsN w0 A m bs) (hm2 : 2 ≤ m) (hm : m ≤ 1000000000) (hh : 2147483648 ≤ lim bs (m - 1)) (hlt : val rs < val bs * 4294967296) (q : Nat) (hq : val rs / val bs = q) :
    Calls Try.prog 93 #[.slice (some ⟨g, 0, none⟩) (m + 1) cs, .slice A m c] w fun e w' => e = .returned (.int .u32 (q : Int)) ∧
      (∃ zs, OwnN w' w0.heap.size (some ⟨g, 0, none⟩) (m + 1) cs zs ∧ val (zs.take m) = val rs % val bs) ∧ Below w0.heap.size w0 w' ∧ Others g w w' := by
  have hrl := how.len
  have hbl := hx.len
  obtain ⟨G, hG⟩ : ∃ G, guessV (lim rs m * 4294967296 + lim rs (m - 1)) (lim bs (m - 1)) (lim bs (m - 2)) (lim rs (m - 2)) = G := ⟨_, rfl⟩
  obtain ⟨g1, g2, g3⟩ := guess_ok how.small hx.small hm2 hrl hbl hh hlt hG
  rw [hq] at g1 g2
  have hR : val rs = val (rs.take m) + 4294967296 ^ m * lim rs m := by
    have := val_take_lim rs m
    rwa [List.take_of_length_le (by rw [hrl]; exact Nat.le_refl _)] at this
  have hdm := Nat.div_add_mod (val rs) (val bs)
  rw [hq] at hdm
  have hb0 : 0 < val bs := by
    rcases Nat.eq_zero_or_pos (val bs) with h | h
    · rw [h] at hlt; omega
    · exact h
  have hml := Nat.mod_lt (val rs) hb0
  have hbP := val_lt hx.small
  rw [hbl] at hbP
  have hr : val rs = q * val bs + val rs % val bs := by rw [Nat.mul_comm]; exact hdm.symm
  have HR := Lib.hid hR
  have Hr := Lib.hid hr
  have HrP := Lib.hid (Nat.lt_trans hml hbP)
  have Hml := Lib.hid hml
  have HG := Lib.hid hG
  have hi1 := how.isN
  have hi2 := hx.below hb
  have Hhow := Lib.hid how
  have Hb := Lib.hid hb
  have Hx := Lib.hid hx
  have hG4 : G < 4294967296 := by omega
  clear hR hdm hq hr hml hbP hG hrl hbl how hb hlt
  go_enter Try.func93, Try.ntmps93
  go_wp2_with fail
  refine (guess_any w (some ⟨g, 0, none⟩) m cs rs hi1 A c bs hi2 hm2 hm (by omega) G HG.out).mono ?_
  rintro e w1 ⟨rfl, hst⟩
  have Hhow1 := Lib.hid (Hhow.out.below hst.1 (Nat.le_refl _))
  have Hb1 := Lib.hid (Hb.out.trans (hst.1.mono Hb.out.size))
  have Ho1 := Lib.hid (hst.2 g)
  clear hst Hhow Hb hi1 hi2
  by_cases hc : G = q
  · subst hc
    have Hf : RowKit.Hid (decide (val rs < G * val bs) = false) := by
      show _ = _
      rw [decide_eq_false_iff_not]; have := Hr.out; omega
    go_wp2_with fail
    refine (lessen_any w0 w1 Hb1.out g m cs rs Hhow1.out A c bs Hx.out G _ rfl hG4 hm false Hf.out).mono ?_
    rintro e w2 ⟨rfl, ⟨zs, tt, hz, hv⟩, hb2, ho2⟩
    have Hz := Lib.hid hz
    have hzt := val_lt (small_take hz.small m)
    rw [List.length_take, hz.len, Nat.min_eq_left (by omega)] at hzt
    have Hv := Lib.hid (less_fits hv hzt HR.out Hr.out HrP.out)
    have Hb2 := Lib.hid hb2
    have Ho2 := Lib.hid (show Others g w w2 from fun k hk => (ho2 k hk).trans (Ho1.out k hk))
    clear hz hzt hv hb2 ho2
    go_wp2
    go_ret
    exact ⟨rfl, ⟨zs, Hz.out, Hv.out⟩, Hb2.out, Ho2.out⟩
  · obtain rfl : G = q + 1 := by omega
    have Hf : RowKit.Hid (decide (val rs < (q + 1) * val bs) = true) := by
      show _ = _
      rw [decide_eq_true_iff, Nat.add_mul, Nat.one_mul]; have := Hr.out; have := Hml.out; omega
    go_wp2_with fail
    refine (lessen_any w0 w1 Hb1.out g m cs rs Hhow1.out A c bs Hx.out (q + 1) _ (by omega) hG4 hm true Hf.out).mono ?_
    rintro e w2 ⟨rfl, ⟨zs, tt, hz, hv⟩, hb2, ho2⟩
    have hv' := hv
    rw [Nat.add_mul, Nat.one_mul] at hv'
    have Hv := Lib.hid hv'
    have Ho2 := Lib.hid (show Others g w w2 from fun k hk => (ho2 k hk).trans (Ho1.out k hk))
    clear hv hv' ho2
    go_wp2_with fail
    refine (raise_any w0 w2 hb2 g m cs zs hz A c bs Hx.out hm).mono ?_
    rintro e w3 ⟨rfl, ⟨ys, cc, hy, hv2⟩, hb3, ho3⟩
    have hyt := val_lt (small_take hy.small m)
    rw [List.length_take, hy.len, Nat.min_eq_left (by omega)] at hyt
    have Hv2 := Lib.hid (less_back Hv.out HR.out Hr.out HrP.out hv2 hyt)
    have Hy := Lib.hid hy
    have Hb3 := Lib.hid hb3
    have Ho3 := Lib.hid (show Others g w w3 from fun k hk => (ho3 k hk).trans (Ho2.out k hk))
    clear hz hv2 hy hb2 hb3 ho3 hyt
    go_wp2
    go_ret
    exact ⟨ret_int (by omega), ⟨ys, Hy.out, Hv2.out⟩, Hb3.out, Ho3.out⟩

end Go.Proofs.Ytmifgblbicnimaa
