/- Part 8 of the texts that the statements of this seat lean on: mathematics, and what functions answer, as contracts over memory; each part says its own conditions. -/
import Derived.Test.YtohokfbohdoijaaGreatDoorM7
import Derived.Deep.WholeRow
import Derived.Deep.MidRow
import Derived.ProofKit
import Derived.OpenShut
import Derived.ShutString
import Derived.ChangeOld
import Derived.ChangeArms
import Derived.ChangeKeysEq
/- What the statements' helper By of layer 7 answers, as a contract over memory. Conditions: two numbers of a machine whose quotient has room. -/
namespace Go.Proofs.YtohokfbohdoijaaGreatDoor
open Go.RowKit Limb
set_option linter.unusedVariables false
theorem refQWhole_is (v : Int) (h0 : -9223372036854775808 ≤ v) (h1 : v ≤ 9223372036854775807) (q : Rat) (hq : (v : Rat) = q) (w : World) : Calls Tryz.prog 45 #[.int .i64 v] w fun e w' => ∃ A2 n2 c2 B2 m2 d2, e = .returned (.agg #[.bool (sg (oTop (some q))), .slice A2 n2 c2, .slice B2 m2 d2]) ∧ QT w' A2 n2 c2 B2 m2 d2 (some q) ∧ Below w.heap.size w w' := by
 subst hq; exact refQWhole_c v h0 h1 w
theorem rWhole_is (v : Int) (h0 : -9223372036854775808 ≤ v) (h1 : v ≤ 9223372036854775807) (q : Rat) (hq : (v : Rat) = q) (w : World) : Calls Tryz.prog 29 #[.int .i64 v] w fun e w' => ∃ A2 n2 c2 B2 m2 d2, e = .returned (.agg #[.bool (sg (oTop (some q))), .slice A2 n2 c2, .slice B2 m2 d2]) ∧ QT w' A2 n2 c2 B2 m2 d2 (some q) ∧ Below w.heap.size w w' := by
 subst hq; exact rWhole_c v h0 h1 w
set_option maxHeartbeats 4000000 in
set_option maxRecDepth 100000 in
theorem by_c (a b : Int) (a0 : -9223372036854775808 ≤ a) (a1 : a ≤ 9223372036854775807) (b0 : -9223372036854775808 ≤ b) (b1 : b ≤ 9223372036854775807) (q : Rat) (hq : divR (some (a : Rat)) (some (b : Rat)) = (some q, 0)) (w : World) :
 Calls Tryz.prog 30 #[.int .i64 a, .int .i64 b] w fun e w' => ∃ A2 n2 c2 B2 m2 d2, e = .returned (.agg #[.bool (sg (oTop (some q))), .slice A2 n2 c2, .slice B2 m2 d2]) ∧ QT w' A2 n2 c2 B2 m2 d2 (some q) ∧ Below w.heap.size w w' := by
 have bw := below_new w (.cells #[Value.bool false, Value.slice none 0 0, Value.slice none 0 0] 33)
 have h_rz := row3_new w 33 (.bool false) (.slice none 0 0) (.slice none 0 0)
 obtain ⟨p, ep⟩ : ∃ p : Rat, (a : Rat) = p := ⟨_, rfl⟩
 obtain ⟨r, er⟩ : ∃ r : Rat, (b : Rat) = r := ⟨_, rfl⟩
 rw [ep, er] at hq
 have ep := Lib.hid ep
 have er := Lib.hid er
 have hq := Lib.hid hq
 have a0 := Lib.hid a0
 have a1 := Lib.hid a1
 have b0 := Lib.hid b0
 have b1 := Lib.hid b1
 go_enter Tryz.func30, Tryz.ntmps30
 go_wp2_with fail
 generalize w.alloc (.cells #[Value.bool false, Value.slice none 0 0, Value.slice none 0 0] 33) = w1 at *
 obtain ⟨q_z, eg⟩ : ∃ g, g = w.heap.size := ⟨_, rfl⟩
 have hqz : RowKit.Hid (w.heap.size ≤ q_z) := by show _ ≤ _; omega
 rw [← eg] at h_rz ⊢
 clear eg
 refine (refQWhole_is a a0.out a1.out _ ep.out _).mono ?_
 rintro e w1 ⟨A_a, n_a, c_a, B_a, m_a, d_a, rfl, h_a, bn⟩
 replace h_rz := h_rz.below bn
 replace bw := below_two bw bn
 clear bn
 go_wp2_with fail
 refine (refQWhole_is b b0.out b1.out _ er.out _).mono ?_
 rintro e w2 ⟨A_b, n_b, c_b, B_b, m_b, d_b, rfl, h_b, bn⟩
 replace h_rz := h_rz.below bn
 replace h_a := h_a.below bn
 replace bw := below_two bw bn
 clear bn
 go_wp2_with fail
 refine (refQDiv_c h_a h_b (by decide) (by decide) _ _ hq.out).mono ?_
 rintro e w3 ⟨A_g, n_g, c_g, B_g, m_g, d_g, rfl, h_g, bn⟩
 replace h_rz := h_rz.below bn
 replace h_a := h_a.below bn
 replace h_b := h_b.below bn
 replace bw := below_two bw bn
 clear bn
 have h_rgg := row4_new w3 98 (.bool (sg (oTop (some q)))) (.slice A_g n_g c_g) (.slice B_g m_g d_g) (.int .i64 0)
 have bn := below_new w3 (.cells #[Value.bool (sg (oTop (some q))), Value.slice A_g n_g c_g, Value.slice B_g m_g d_g, Value.int .i64 0] 98)
 replace h_rz := h_rz.below bn
 replace h_a := h_a.below bn
 replace h_b := h_b.below bn
 replace h_g := h_g.below bn
 replace bw := below_two bw bn
 clear bn
 have hNo := h_rz.noLimb (by intro v e; cases e) (by intro v e; cases e) (by intro v e; cases e)
 have e0 := h_rz.c0
 have f0 := h_rz.free 0
 have e1 := h_rz.c1
 have f1 := h_rz.free 1
 have e2 := h_rz.c2
 have f2 := h_rz.free 2
 have y0 := h_rgg.c0
 have y1 := h_rgg.c1
 have y2 := h_rgg.c2
 have y3 := h_rgg.c3
 have HF := Lib.hid (h_rz.fill (.bool (sg (oTop (some q)))) (.slice A_g n_g c_g) (.slice B_g m_g d_g))
 have HP := Lib.hid (QQ.fillR3 h_g hNo (.bool (sg (oTop (some q)))) (.slice A_g n_g c_g) (.slice B_g m_g d_g))
 have HB := Lib.hid (below_fill3' bw hqz.out (.bool (sg (oTop (some q)))) (.slice A_g n_g c_g) (.slice B_g m_g d_g))
 clear hNo
 go_wp2
 refine bodyPost_ret (results_cell_row rfl _ _ _ 33 #[.bool (sg (oTop (some q))), .slice A_g n_g c_g, .slice B_g m_g d_g] (0, 0) _ rfl HF.out Tryz.underlying33 rfl rat_size) rfl ?_
 exact ⟨A_g, n_g, c_g, B_g, m_g, d_g, rfl, HP.out, HB.out⟩
end Go.Proofs.YtohokfbohdoijaaGreatDoor

/- What package rat's Add, Sub and Mul answer, as contracts over memory. Conditions: sizes of at most so many limbs. -/
namespace Go.Proofs.YtohokfbohdoijaaGreatDoor
open Go.RowKit Limb
set_option linter.unusedVariables false
section
variable {w : World} {s s' : Bool} {A B A' B' : Option Addr} {n c m d n' c' m' d' : Nat} {xs ys xs' ys' : List Nat} {x y : Int} {o o' : Option Rat} {a b L L' : Nat}
set_option maxHeartbeats 4000000 in
set_option maxRecDepth 100000 in
theorem rMul_c (hx : QQ w s A n c xs B m d ys o L) (hx' : QQ w s' A' n' c' xs' B' m' d' ys' o' L') (h1 : L ≤ 1000) (h2 : L' ≤ 1000) (r : Option Rat) (e : Int) (hR : mulR o o' = (r, e)) :
 Calls Tryz.prog 26 #[.agg #[.bool s, .slice A n c, .slice B m d], .agg #[.bool s', .slice A' n' c', .slice B' m' d']] w fun ee w' => ∃ A2 n2 c2 B2 m2 d2, ee = .returned (.tuple #[.agg #[.bool (sg (oTop r)), .slice A2 n2 c2, .slice B2 m2 d2], .int .i64 e]) ∧ QT w' A2 n2 c2 B2 m2 d2 r ∧ Below w.heap.size w w' := by
 cases o with
 | none =>
  have hR2 : ((none : Option Rat), (1 : Int)) = (r, e) := hR
  cases hR2
  clear hR
  have b0 := below_new w (.cells #[Value.bool s, Value.slice A n c, Value.slice B m d] 33)
  have b1 := below_new (w.alloc (.cells #[Value.bool s, Value.slice A n c, Value.slice B m d] 33)) (.cells #[Value.bool s', Value.slice A' n' c', Value.slice B' m' d'] 33)
  have b2 := below_new ((w.alloc (.cells #[Value.bool s, Value.slice A n c, Value.slice B m d] 33)).alloc (.cells #[Value.bool s', Value.slice A' n' c', Value.slice B' m' d'] 33)) (.cells #[Value.bool false, Value.slice none 0 0, Value.slice none 0 0] 33)
  have HW := Lib.hid (below_two (below_two b0 b1) b2)
  have HQ0 := Lib.hid (hx.below HW.out)
  have HQ1 := Lib.hid (hx'.below HW.out)
  have r0 := ((row3_new w 33 (.bool s) (.slice A n c) (.slice B m d)).below b1).below b2
  have r1 := (row3_new (w.alloc (.cells #[Value.bool s, Value.slice A n c, Value.slice B m d] 33)) 33 (.bool s') (.slice A' n' c') (.slice B' m' d')).below b2
  have rz := row3_new ((w.alloc (.cells #[Value.bool s, Value.slice A n c, Value.slice B m d] 33)).alloc (.cells #[Value.bool s', Value.slice A' n' c', Value.slice B' m' d'] 33)) 33 (.bool false) (.slice none 0 0) (.slice none 0 0)
  simp only [World.size_alloc] at r1 rz
  clear b0 b1 b2 hx hx'
  go_enter Tryz.func26, Tryz.ntmps26
  go_wp2_with fail
  generalize ((w.alloc (.cells #[Value.bool s, Value.slice A n c, Value.slice B m d] 33)).alloc (.cells #[Value.bool s', Value.slice A' n' c', Value.slice B' m' d'] 33)).alloc (.cells #[Value.bool false, Value.slice none 0 0, Value.slice none 0 0] 33) = w1 at *
  have HR0 := Lib.hid r0
  have HR1 := Lib.hid r1
  have HZ := Lib.hid rz
  have Hq : RowKit.Hid (w.heap.size ≤ w.heap.size + 1 + 1) := by show _ ≤ _; omega
  clear r0 r1 rz
  refine (rGood_c HQ0.out (by omega) false rfl).mono ?_
  rintro e w2 ⟨rfl, bn⟩
  replace HQ0 := Lib.hid (HQ0.out.below bn)
  replace HR0 := Lib.hid (HR0.out.below bn)
  replace HQ1 := Lib.hid (HQ1.out.below bn)
  replace HR1 := Lib.hid (HR1.out.below bn)
  replace HZ := Lib.hid (HZ.out.below bn)
  replace HW := Lib.hid (below_two HW.out bn)
  clear bn
  have e0 := HZ.out.c0
  have e1 := HZ.out.c1
  have e2 := HZ.out.c2
  have f0 := HZ.out.free 0
  have f1 := HZ.out.free 1
  have f2 := HZ.out.free 2
  have HF := Lib.hid (HZ.out.fill (.bool false) (.slice none 0 0) (.slice none 0 0))
  have HB := Lib.hid (below_fill3' HW.out Hq.out (.bool false) (.slice none 0 0) (.slice none 0 0))
  go_wp2
  refine bodyPost_ret (results_mixed rfl _ _ _ 33 #[.bool false, .slice none 0 0, .slice none 0 0] (0, 0) _ (.int .i64 1) rfl rfl HF.out Tryz.underlying33 rfl rat_size) rfl ?_
  exact ⟨none, 0, 0, none, 0, 0, rfl, qt_none _ 0 0, HB.out⟩
 | some p =>
  cases o' with
  | none =>
   have hR2 : ((none : Option Rat), (1 : Int)) = (r, e) := hR
   cases hR2
   clear hR
   have b0 := below_new w (.cells #[Value.bool s, Value.slice A n c, Value.slice B m d] 33)
   have b1 := below_new (w.alloc (.cells #[Value.bool s, Value.slice A n c, Value.slice B m d] 33)) (.cells #[Value.bool s', Value.slice A' n' c', Value.slice B' m' d'] 33)
   have b2 := below_new ((w.alloc (.cells #[Value.bool s, Value.slice A n c, Value.slice B m d] 33)).alloc (.cells #[Value.bool s', Value.slice A' n' c', Value.slice B' m' d'] 33)) (.cells #[Value.bool false, Value.slice none 0 0, Value.slice none 0 0] 33)
   have HW := Lib.hid (below_two (below_two b0 b1) b2)
   have HQ0 := Lib.hid (hx.below HW.out)
   have HQ1 := Lib.hid (hx'.below HW.out)
   have r0 := ((row3_new w 33 (.bool s) (.slice A n c) (.slice B m d)).below b1).below b2
   have r1 := (row3_new (w.alloc (.cells #[Value.bool s, Value.slice A n c, Value.slice B m d] 33)) 33 (.bool s') (.slice A' n' c') (.slice B' m' d')).below b2
   have rz := row3_new ((w.alloc (.cells #[Value.bool s, Value.slice A n c, Value.slice B m d] 33)).alloc (.cells #[Value.bool s', Value.slice A' n' c', Value.slice B' m' d'] 33)) 33 (.bool false) (.slice none 0 0) (.slice none 0 0)
   simp only [World.size_alloc] at r1 rz
   clear b0 b1 b2 hx hx'
   go_enter Tryz.func26, Tryz.ntmps26
   go_wp2_with fail
   generalize ((w.alloc (.cells #[Value.bool s, Value.slice A n c, Value.slice B m d] 33)).alloc (.cells #[Value.bool s', Value.slice A' n' c', Value.slice B' m' d'] 33)).alloc (.cells #[Value.bool false, Value.slice none 0 0, Value.slice none 0 0] 33) = w1 at *
   have HR0 := Lib.hid r0
   have HR1 := Lib.hid r1
   have HZ := Lib.hid rz
   have Hq : RowKit.Hid (w.heap.size ≤ w.heap.size + 1 + 1) := by show _ ≤ _; omega
   clear r0 r1 rz
   refine (rGood_c HQ0.out (by omega) true rfl).mono ?_
   rintro e w2 ⟨rfl, bn⟩
   replace HQ0 := Lib.hid (HQ0.out.below bn)
   replace HR0 := Lib.hid (HR0.out.below bn)
   replace HQ1 := Lib.hid (HQ1.out.below bn)
   replace HR1 := Lib.hid (HR1.out.below bn)
   replace HZ := Lib.hid (HZ.out.below bn)
   replace HW := Lib.hid (below_two HW.out bn)
   clear bn
   have c10 := HR1.out.c0
   have c11 := HR1.out.c1
   have c12 := HR1.out.c2
   go_wp2_with fail
   clear c10 c11 c12
   refine (rGood_c HQ1.out (by omega) false rfl).mono ?_
   rintro e w2 ⟨rfl, bn⟩
   replace HQ0 := Lib.hid (HQ0.out.below bn)
   replace HR0 := Lib.hid (HR0.out.below bn)
   replace HQ1 := Lib.hid (HQ1.out.below bn)
   replace HR1 := Lib.hid (HR1.out.below bn)
   replace HZ := Lib.hid (HZ.out.below bn)
   replace HW := Lib.hid (below_two HW.out bn)
   clear bn
   have e0 := HZ.out.c0
   have e1 := HZ.out.c1
   have e2 := HZ.out.c2
   have f0 := HZ.out.free 0
   have f1 := HZ.out.free 1
   have f2 := HZ.out.free 2
   have HF := Lib.hid (HZ.out.fill (.bool false) (.slice none 0 0) (.slice none 0 0))
   have HB := Lib.hid (below_fill3' HW.out Hq.out (.bool false) (.slice none 0 0) (.slice none 0 0))
   go_wp2
   refine bodyPost_ret (results_mixed rfl _ _ _ 33 #[.bool false, .slice none 0 0, .slice none 0 0] (0, 0) _ (.int .i64 1) rfl rfl HF.out Tryz.underlying33 rfl rat_size) rfl ?_
   exact ⟨none, 0, 0, none, 0, 0, rfl, qt_none _ 0 0, HB.out⟩
  | some q =>
   have HO : RowKit.Hid (ofR (p.num * q.num) (p.den * q.den) = (r, e)) := by
    show _ = _
    rw [← hR]; unfold ofR; rw [if_neg (Nat.mul_ne_zero p.den_nz q.den_nz)]
    show limR _ = limR _
    rw [mul_mk]
   clear hR
   have b0 := below_new w (.cells #[Value.bool s, Value.slice A n c, Value.slice B m d] 33)
   have b1 := below_new (w.alloc (.cells #[Value.bool s, Value.slice A n c, Value.slice B m d] 33)) (.cells #[Value.bool s', Value.slice A' n' c', Value.slice B' m' d'] 33)
   have b2 := below_new ((w.alloc (.cells #[Value.bool s, Value.slice A n c, Value.slice B m d] 33)).alloc (.cells #[Value.bool s', Value.slice A' n' c', Value.slice B' m' d'] 33)) (.cells #[Value.bool false, Value.slice none 0 0, Value.slice none 0 0] 33)
   have HW := Lib.hid (below_two (below_two b0 b1) b2)
   have HQ0 := Lib.hid (hx.below HW.out)
   have HQ1 := Lib.hid (hx'.below HW.out)
   have r0 := ((row3_new w 33 (.bool s) (.slice A n c) (.slice B m d)).below b1).below b2
   have r1 := (row3_new (w.alloc (.cells #[Value.bool s, Value.slice A n c, Value.slice B m d] 33)) 33 (.bool s') (.slice A' n' c') (.slice B' m' d')).below b2
   have rz := row3_new ((w.alloc (.cells #[Value.bool s, Value.slice A n c, Value.slice B m d] 33)).alloc (.cells #[Value.bool s', Value.slice A' n' c', Value.slice B' m' d'] 33)) 33 (.bool false) (.slice none 0 0) (.slice none 0 0)
   simp only [World.size_alloc] at r1 rz
   clear b0 b1 b2 hx hx'
   go_enter Tryz.func26, Tryz.ntmps26
   go_wp2_with fail
   generalize ((w.alloc (.cells #[Value.bool s, Value.slice A n c, Value.slice B m d] 33)).alloc (.cells #[Value.bool s', Value.slice A' n' c', Value.slice B' m' d'] 33)).alloc (.cells #[Value.bool false, Value.slice none 0 0, Value.slice none 0 0] 33) = w1 at *
   have HR0 := Lib.hid r0
   have HR1 := Lib.hid r1
   have HZ := Lib.hid rz
   have Hq : RowKit.Hid (w.heap.size ≤ w.heap.size + 1 + 1) := by show _ ≤ _; omega
   clear r0 r1 rz
   refine (rGood_c HQ0.out (by omega) true rfl).mono ?_
   rintro e w2 ⟨rfl, bn⟩
   replace HQ0 := Lib.hid (HQ0.out.below bn)
   replace HR0 := Lib.hid (HR0.out.below bn)
   replace HQ1 := Lib.hid (HQ1.out.below bn)
   replace HR1 := Lib.hid (HR1.out.below bn)
   replace HZ := Lib.hid (HZ.out.below bn)
   replace HW := Lib.hid (below_two HW.out bn)
   clear bn
   have c10 := HR1.out.c0
   have c11 := HR1.out.c1
   have c12 := HR1.out.c2
   go_wp2_with fail
   clear c10 c11 c12
   refine (rGood_c HQ1.out (by omega) true rfl).mono ?_
   rintro e wS ⟨rfl, bn⟩
   replace HQ0 := Lib.hid (HQ0.out.below bn)
   replace HR0 := Lib.hid (HR0.out.below bn)
   replace HQ1 := Lib.hid (HQ1.out.below bn)
   replace HR1 := Lib.hid (HR1.out.below bn)
   replace HZ := Lib.hid (HZ.out.below bn)
   replace HW := Lib.hid (below_two HW.out bn)
   clear bn
   have HX := Lib.hid HQ0.out.some.2.2.2.2.1
   have HY := Lib.hid HQ0.out.some.2.2.2.2.2.1
   have HX1 := Lib.hid HQ1.out.some.2.2.2.2.1
   have HY1 := Lib.hid HQ1.out.some.2.2.2.2.2.1
   go_wp2_with fail
   refine region_free 13 2 [15, 16, 17, 18, 19, 20, 21, 22, 23, 24, 25, 26, 27] ?aF8 (fun wx => Below wS.heap.size wS wx) (fun k vv wx => match k with
    | 0 => vv = .pointer (some ⟨w.heap.size, 0, none⟩)
    | 1 => vv = .agg #[.bool s, .slice A n c]
    | 2 => vv = .pointer (some ⟨w.heap.size + 1, 0, none⟩)
    | 3 => vv = .agg #[.bool s', .slice A' n' c']
    | 4 => ∃ (e0 : Option Addr) (e1 : Nat) (e2 : Nat), vv = .agg #[.bool (sg (p.num * q.num)), .slice e0 e1 e2] ∧ ZZ wx (sg (p.num * q.num)) e0 e1 e2 (limbs (p.num * q.num).natAbs) (p.num * q.num) 128
    | 5 => vv = .pointer (some ⟨w.heap.size, 2, none⟩)
    | 6 => vv = .slice B m d
    | 7 => vv = .pointer (some ⟨w.heap.size + 1, 2, none⟩)
    | 8 => vv = .slice B' m' d'
    | 9 => ∃ (e0 : Option Addr) (e1 : Nat) (e2 : Nat), vv = .slice e0 e1 e2 ∧ NN wx e0 e1 e2 (limbs (p.den * q.den)) (p.den * q.den) 128
    | 10 => ∃ (e0 : Option Addr) (e1 : Nat) (e2 : Nat) (e3 : Option Addr) (e4 : Nat) (e5 : Nat), vv = .tuple #[.agg #[.bool (sg (oTop r)), .slice e0 e1 e2, .slice e3 e4 e5], .int .i64 e] ∧ QT wx e0 e1 e2 e3 e4 e5 r
    | 11 => ∃ (e0 : Option Addr) (e1 : Nat) (e2 : Nat) (e3 : Option Addr) (e4 : Nat) (e5 : Nat), vv = .agg #[.bool (sg (oTop r)), .slice e0 e1 e2, .slice e3 e4 e5] ∧ QT wx e0 e1 e2 e3 e4 e5 r
    | _ => vv = .int .i64 e)
    (fun k => false) (by kernel_rfl) ?haF8 rfl (by kernel_rfl) (by kernel_rfl) (fun _ _ _ _ _ h => h) ?hSb8 ?hPb8 ?hS8 ?hop8 ?hfin8
   case haF8 =>
    intro vals
    simp only [fillAll, List.getElem?_cons_zero, List.getElem?_cons_succ, Act.put, List.setIfInBounds_toArray, List.set_cons_zero, List.set_cons_succ]
    exact rfl
   case hSb8 => exact fun wx w2 hb hS => below_two hS hb
   case hPb8 =>
    intro k v wa wb hb h
    match k, h with
    | 0, h => exact h
    | 1, h => exact h
    | 2, h => exact h
    | 3, h => exact h
    | 4, ⟨e0, e1, e2, h1, g0⟩ => exact ⟨e0, e1, e2, h1, g0.below hb⟩
    | 5, h => exact h
    | 6, h => exact h
    | 7, h => exact h
    | 8, h => exact h
    | 9, ⟨e0, e1, e2, h1, g0⟩ => exact ⟨e0, e1, e2, h1, g0.below hb⟩
    | 10, ⟨e0, e1, e2, e3, e4, e5, h1, g0⟩ => exact ⟨e0, e1, e2, e3, e4, e5, h1, g0.below hb⟩
    | 11, ⟨e0, e1, e2, e3, e4, e5, h1, g0⟩ => exact ⟨e0, e1, e2, e3, e4, e5, h1, g0.below hb⟩
    | _ + 12, h => exact h
   case hS8 => exact (Below.refl _ _).drew
   case hop8 =>
    refine .cons (k := 0) ?_ (.cons (k := 1) ?_ (.cons (k := 2) ?_ (.cons (k := 3) ?_ (.cons (k := 4) ?_ (.cons (k := 5) ?_ (.cons (k := 6) ?_ (.cons (k := 7) ?_ (.cons (k := 8) ?_ (.cons (k := 9) ?_ (.cons (k := 10) ?_ (.cons (k := 11) ?_ (.cons (k := 12) ?_ (.nil)))))))))))))
    all_goals intro vals wr hS hd KC hK
    all_goals (show Oper.wp _ _ _ _ _ _; dsimp only)
    · go_simp
      refine hK _ _ rfl (Below.refl _ _) (by first | rfl | simp) (fun h => by cases h)
    · have d0 : vals 0 = _ := hd 0 (by decide +kernel)
      rw [d0]
      have z0 := (HR0.out.below hS).c0
      have z1 := (HR0.out.below hS).c1
      go_simp
      refine hK _ _ rfl (Below.refl _ _) (by first | rfl | simp) (fun h => by cases h)
    · go_simp
      refine hK _ _ rfl (Below.refl _ _) (by first | rfl | simp) (fun h => by cases h)
    · have d2 : vals 2 = _ := hd 2 (by decide +kernel)
      rw [d2]
      have z0 := (HR1.out.below hS).c0
      have z1 := (HR1.out.below hS).c1
      go_simp
      refine hK _ _ rfl (Below.refl _ _) (by first | rfl | simp) (fun h => by cases h)
    · have d1 : vals 1 = _ := hd 1 (by decide +kernel)
      have d3 : vals 3 = _ := hd 3 (by decide +kernel)
      rw [d1, d3]
      go_simp
      go_at_call 60
      with_reducible refine (wMul_c (HX.out.below hS) (HX1.out.below hS) 128 (by decide) (by decide) (by decide) (p.num * q.num) rfl).mono ?_
      rintro e w2 ⟨r0, r1, r2, rfl, f0, bn_r⟩
      refine hK _ _ rfl bn_r ⟨_, _, _, rfl, f0⟩ (fun h => by cases h)
    · go_simp
      refine hK _ _ rfl (Below.refl _ _) (by first | rfl | simp) (fun h => by cases h)
    · have d5 : vals 5 = _ := hd 5 (by decide +kernel)
      rw [d5]
      have z0 := (HR0.out.below hS).c2
      go_simp
      refine hK _ _ rfl (Below.refl _ _) (by first | rfl | simp) (fun h => by cases h)
    · go_simp
      refine hK _ _ rfl (Below.refl _ _) (by first | rfl | simp) (fun h => by cases h)
    · have d7 : vals 7 = _ := hd 7 (by decide +kernel)
      rw [d7]
      have z0 := (HR1.out.below hS).c2
      go_simp
      refine hK _ _ rfl (Below.refl _ _) (by first | rfl | simp) (fun h => by cases h)
    · have d6 : vals 6 = _ := hd 6 (by decide +kernel)
      have d8 : vals 8 = _ := hd 8 (by decide +kernel)
      rw [d6, d8]
      go_simp
      go_at_call 61
      with_reducible refine (mulOf_c (HY.out.below hS) (HY1.out.below hS) 128 (by decide) (by decide) (by decide)).mono ?_
      rintro e w2 ⟨r0, r1, r2, rfl, f0, bn_r⟩
      refine hK _ _ rfl bn_r ⟨_, _, _, rfl, f0⟩ (fun h => by cases h)
    · obtain ⟨A_4_0, n_4_1, n_4_2, d4, h_4_0⟩ := hd 4 (by decide +kernel)
      obtain ⟨A_9_0, n_9_1, n_9_2, d9, h_9_0⟩ := hd 9 (by decide +kernel)
      rw [d4, d9]
      go_simp
      go_at_call 59
      with_reducible refine (rOf_c h_4_0 h_9_0 (by decide) (by decide) r e HO.out).mono ?_
      rintro e w2 ⟨r0, r1, r2, r3, r4, r5, rfl, f0, bn_r⟩
      refine hK _ _ rfl bn_r ⟨_, _, _, _, _, _, rfl, f0⟩ (fun h => by cases h)
    · obtain ⟨A_10_0, n_10_1, n_10_2, A_10_3, n_10_4, n_10_5, d10, h_10_0⟩ := hd 10 (by decide +kernel)
      rw [d10]
      go_simp
      refine hK _ _ rfl (Below.refl _ _) ⟨_, _, _, _, _, _, rfl, h_10_0⟩ (fun h => by cases h)
    · obtain ⟨A_10_0, n_10_1, n_10_2, A_10_3, n_10_4, n_10_5, d10, h_10_0⟩ := hd 10 (by decide +kernel)
      rw [d10]
      go_simp
      refine hK _ _ rfl (Below.refl _ _) rfl (fun h => by cases h)
   case hfin8 =>
    intro vals wr hS hP hne
    obtain ⟨A_11_0, n_11_1, n_11_2, A_11_3, n_11_4, n_11_5, ez_11, h_11_0⟩ := hP 11 (by decide)
    have ez_12 : vals 12 = _ := hP 12 (by decide)
    have hZ3 := HZ.out.below hS
    have hNo := hZ3.noLimb (by intro v e; cases e) (by intro v e; cases e) (by intro v e; cases e)
    have e0 := hZ3.c0
    have e1 := hZ3.c1
    have e2 := hZ3.c2
    have f0 := hZ3.free 0
    have f1 := hZ3.free 1
    have f2 := hZ3.free 2
    have HF := Lib.hid (hZ3.fill (.bool (sg (oTop r))) (.slice A_11_0 n_11_1 n_11_2) (.slice A_11_3 n_11_4 n_11_5))
    have HP := Lib.hid (QQ.fillR3 h_11_0 hNo (.bool (sg (oTop r))) (.slice A_11_0 n_11_1 n_11_2) (.slice A_11_3 n_11_4 n_11_5))
    have HB := Lib.hid (below_fill3' (below_two HW.out hS) Hq.out (.bool (sg (oTop r))) (.slice A_11_0 n_11_1 n_11_2) (.slice A_11_3 n_11_4 n_11_5))
    try dsimp only
    rw [ez_11, ez_12]
    refine wpAny_ready (rs := [13]) (by kernel_rfl) (by simp) (AllReady.cons rfl (fun KC hK => ?_) AllReady.nil)
    go_simp
    refine hK _ _ ?_
    clear hK KC
    refine wpAny_ready (rs := [14]) (by kernel_rfl) (by simp) (AllReady.cons rfl (fun KC hK => ?_) AllReady.nil)
    go_simp
    refine hK _ _ ?_
    clear hK KC
    refine wpAny_done (by kernel_rfl) ?_ _
    go_wp2
    refine bodyPost_ret (results_mixed rfl _ _ _ 33 #[.bool (sg (oTop r)), .slice A_11_0 n_11_1 n_11_2, .slice A_11_3 n_11_4 n_11_5] (0, 0) _ (.int .i64 e) rfl rfl HF.out Tryz.underlying33 rfl rat_size) rfl ?_
    exact ⟨A_11_0, n_11_1, n_11_2, A_11_3, n_11_4, n_11_5, rfl, HP.out, HB.out⟩
end
end Go.Proofs.YtohokfbohdoijaaGreatDoor

/- What package power's Scale answers, as a contract over memory. Conditions: sizes of at most so many limbs. -/
namespace Go.Proofs.YtohokfbohdoijaaGreatDoor
open Go.RowKit Limb
set_option linter.unusedVariables false
theorem ten_room2 (n : Nat) : 10 ^ n < 4294967296 ^ (2 * (n / 19 + 1)) := by
 have h1 : 10 ^ n ≤ 10 ^ (19 * (n / 19) + 18) := Nat.pow_le_pow_right (by decide) (by omega)
 have h2 : 10 ^ (19 * (n / 19) + 18) = (10 ^ 19) ^ (n / 19) * 10 ^ 18 := by rw [Nat.pow_add, Nat.pow_mul]
 have h3 : (10 ^ 19) ^ (n / 19) ≤ (4294967296 ^ 2) ^ (n / 19) := Nat.pow_le_pow_left (by decide) _
 have h4 : (10 ^ 19) ^ (n / 19) * 10 ^ 18 < (4294967296 ^ 2) ^ (n / 19) * 4294967296 ^ 2 := Nat.lt_of_le_of_lt (Nat.mul_le_mul_right _ h3) (Nat.mul_lt_mul_of_pos_left (by decide) (Nat.pow_pos (by decide)))
 rw [Nat.pow_mul, Nat.pow_succ]
 omega
theorem ten_bd2 (n : Int) (h : n.natAbs ≤ 600) : Bd ((10 : Rat) ^ n) 64 64 := by
 have hN : ∀ k : Nat, k ≤ 600 → Bd ((10 : Rat) ^ k) 64 64 := fun k hk => by
  refine ⟨?_, ?_⟩
  · rw [Rat.num_pow, Int.natAbs_pow]
    exact Nat.lt_of_lt_of_le (ten_room2 k) (Nat.pow_le_pow_right (by decide) (by omega))
  · rw [Rat.den_pow, show (10 : Rat).den = 1 from rfl, Nat.one_pow]; exact Nat.one_lt_pow (by decide) (by decide)
 rcases Int.le_total 0 n with h0 | h0
 · obtain ⟨k, rfl⟩ := Int.eq_ofNat_of_zero_le h0
   rw [Rat.zpow_natCast]; exact hN k (by omega)
 · obtain ⟨k, hk⟩ := Int.eq_ofNat_of_zero_le (show 0 ≤ -n by omega)
   obtain rfl : n = -(k : Int) := by omega
   rw [Rat.zpow_neg, Rat.zpow_natCast]
   exact (hN k (by omega)).inv (num_of_ne (npow_ne ten_ne k))
theorem ten_cast : ((10 : Int) : Rat) = 10 := rfl
section
variable {w : World} {s s' : Bool} {A B A' B' : Option Addr} {n c m d n' c' m' d' : Nat} {xs ys xs' ys' : List Nat} {x y : Int} {o : Option Rat} {a b L L' : Nat}
set_option maxHeartbeats 4000000 in
set_option maxRecDepth 100000 in
theorem pScale_c (hx : QQ w s A n c xs B m d ys o L) (h1 : L ≤ 1000) (v : Int) (r : Option Rat) (e : Int) (hR : scaleR o v = (r, e)) :
 Calls Tryz.prog 76 #[.agg #[.bool s, .slice A n c, .slice B m d], .int .i64 v] w fun ee w' => ∃ A2 n2 c2 B2 m2 d2, ee = .returned (.tuple #[.agg #[.bool (sg (oTop r)), .slice A2 n2 c2, .slice B2 m2 d2], .int .i64 e]) ∧ QT w' A2 n2 c2 B2 m2 d2 r ∧ Below w.heap.size w w' := by
 cases o with
 | none =>
  have hR2 : ((none : Option Rat), (1 : Int)) = (r, e) := hR
  cases hR2
  clear hR
  have b0 := below_new w (.cells #[Value.bool s, Value.slice A n c, Value.slice B m d] 33)
  have b2 := below_new (w.alloc (.cells #[Value.bool s, Value.slice A n c, Value.slice B m d] 33)) (.cells #[Value.bool false, Value.slice none 0 0, Value.slice none 0 0] 33)
  have HW := Lib.hid (below_two b0 b2)
  have HQ0 := Lib.hid (hx.below HW.out)
  have r0 := ((row3_new w 33 (.bool s) (.slice A n c) (.slice B m d))).below b2
  have rz := row3_new (w.alloc (.cells #[Value.bool s, Value.slice A n c, Value.slice B m d] 33)) 33 (.bool false) (.slice none 0 0) (.slice none 0 0)
  simp only [World.size_alloc] at rz
  clear b0 b2 hx
  go_enter Tryz.func76, Tryz.ntmps76
  go_wp2_with fail
  generalize (w.alloc (.cells #[Value.bool s, Value.slice A n c, Value.slice B m d] 33)).alloc (.cells #[Value.bool false, Value.slice none 0 0, Value.slice none 0 0] 33) = w1 at *
  have HR0 := Lib.hid r0
  have HZ := Lib.hid rz
  have Hq : RowKit.Hid (w.heap.size ≤ w.heap.size + 1) := by show _ ≤ _; omega
  clear r0 rz
  refine (rGood_c HQ0.out (by omega) false rfl).mono ?_
  rintro e w2 ⟨rfl, bn⟩
  replace HQ0 := Lib.hid (HQ0.out.below bn)
  replace HR0 := Lib.hid (HR0.out.below bn)
  replace HZ := Lib.hid (HZ.out.below bn)
  replace HW := Lib.hid (below_two HW.out bn)
  clear bn
  have e0 := HZ.out.c0
  have e1 := HZ.out.c1
  have e2 := HZ.out.c2
  have f0 := HZ.out.free 0
  have f1 := HZ.out.free 1
  have f2 := HZ.out.free 2
  have HF := Lib.hid (HZ.out.fill (.bool false) (.slice none 0 0) (.slice none 0 0))
  have HB := Lib.hid (below_fill3' HW.out Hq.out (.bool false) (.slice none 0 0) (.slice none 0 0))
  go_wp2
  refine bodyPost_ret (results_mixed rfl _ _ _ 33 #[.bool false, .slice none 0 0, .slice none 0 0] (0, 0) _ (.int .i64 1) rfl rfl HF.out Tryz.underlying33 rfl rat_size) rfl ?_
  exact ⟨none, 0, 0, none, 0, 0, rfl, qt_none _ 0 0, HB.out⟩
 | some q =>
  obtain ⟨t1, t2, t3, t4, _, _, _⟩ := qq_told hx
  subst t1
  subst t2
  subst t3
  replace hx := t4
  clear t4 h1
  have h1 : 64 ≤ 1000 := by decide
  by_cases k1 : 600 < v
  · rw [scaleR_big (.inl k1)] at hR
    cases hR
    have b0 := below_new w (.cells #[Value.bool (sg (oTop (some q))), Value.slice A n c, Value.slice B m d] 33)
    have b2 := below_new (w.alloc (.cells #[Value.bool (sg (oTop (some q))), Value.slice A n c, Value.slice B m d] 33)) (.cells #[Value.bool false, Value.slice none 0 0, Value.slice none 0 0] 33)
    have HW := Lib.hid (below_two b0 b2)
    have HQ0 := Lib.hid (hx.below HW.out)
    have r0 := ((row3_new w 33 (.bool (sg (oTop (some q)))) (.slice A n c) (.slice B m d))).below b2
    have rz := row3_new (w.alloc (.cells #[Value.bool (sg (oTop (some q))), Value.slice A n c, Value.slice B m d] 33)) 33 (.bool false) (.slice none 0 0) (.slice none 0 0)
    simp only [World.size_alloc] at rz
    clear b0 b2 hx
    go_enter Tryz.func76, Tryz.ntmps76
    go_wp2_with fail
    generalize (w.alloc (.cells #[Value.bool (sg (oTop (some q))), Value.slice A n c, Value.slice B m d] 33)).alloc (.cells #[Value.bool false, Value.slice none 0 0, Value.slice none 0 0] 33) = w1 at *
    have HR0 := Lib.hid r0
    have HZ := Lib.hid rz
    have Hq : RowKit.Hid (w.heap.size ≤ w.heap.size + 1) := by show _ ≤ _; omega
    clear r0 rz
    refine (rGood_c HQ0.out (by omega) true rfl).mono ?_
    rintro e w2 ⟨rfl, bn⟩
    replace HQ0 := Lib.hid (HQ0.out.below bn)
    replace HR0 := Lib.hid (HR0.out.below bn)
    replace HZ := Lib.hid (HZ.out.below bn)
    replace HW := Lib.hid (below_two HW.out bn)
    clear bn
    have e0 := HZ.out.c0
    have e1 := HZ.out.c1
    have e2 := HZ.out.c2
    have f0 := HZ.out.free 0
    have f1 := HZ.out.free 1
    have f2 := HZ.out.free 2
    have HF := Lib.hid (HZ.out.fill (.bool false) (.slice none 0 0) (.slice none 0 0))
    have HB := Lib.hid (below_fill3' HW.out Hq.out (.bool false) (.slice none 0 0) (.slice none 0 0))
    go_wp2
    refine bodyPost_ret (results_mixed rfl _ _ _ 33 #[.bool false, .slice none 0 0, .slice none 0 0] (0, 0) _ (.int .i64 2) rfl rfl HF.out Tryz.underlying33 rfl rat_size) rfl ?_
    exact ⟨none, 0, 0, none, 0, 0, rfl, qt_none _ 0 0, HB.out⟩
  · by_cases k2 : v < -600
    · rw [scaleR_big (.inr k2)] at hR
      cases hR
      have k3 : v ≤ 600 := by omega
      have b0 := below_new w (.cells #[Value.bool (sg (oTop (some q))), Value.slice A n c, Value.slice B m d] 33)
      have b2 := below_new (w.alloc (.cells #[Value.bool (sg (oTop (some q))), Value.slice A n c, Value.slice B m d] 33)) (.cells #[Value.bool false, Value.slice none 0 0, Value.slice none 0 0] 33)
      have HW := Lib.hid (below_two b0 b2)
      have HQ0 := Lib.hid (hx.below HW.out)
      have r0 := ((row3_new w 33 (.bool (sg (oTop (some q)))) (.slice A n c) (.slice B m d))).below b2
      have rz := row3_new (w.alloc (.cells #[Value.bool (sg (oTop (some q))), Value.slice A n c, Value.slice B m d] 33)) 33 (.bool false) (.slice none 0 0) (.slice none 0 0)
      simp only [World.size_alloc] at rz
      clear b0 b2 hx
      go_enter Tryz.func76, Tryz.ntmps76
      go_wp2_with fail
      generalize (w.alloc (.cells #[Value.bool (sg (oTop (some q))), Value.slice A n c, Value.slice B m d] 33)).alloc (.cells #[Value.bool false, Value.slice none 0 0, Value.slice none 0 0] 33) = w1 at *
      have HR0 := Lib.hid r0
      have HZ := Lib.hid rz
      have Hq : RowKit.Hid (w.heap.size ≤ w.heap.size + 1) := by show _ ≤ _; omega
      clear r0 rz
      refine (rGood_c HQ0.out (by omega) true rfl).mono ?_
      rintro e w2 ⟨rfl, bn⟩
      replace HQ0 := Lib.hid (HQ0.out.below bn)
      replace HR0 := Lib.hid (HR0.out.below bn)
      replace HZ := Lib.hid (HZ.out.below bn)
      replace HW := Lib.hid (below_two HW.out bn)
      clear bn
      have e0 := HZ.out.c0
      have e1 := HZ.out.c1
      have e2 := HZ.out.c2
      have f0 := HZ.out.free 0
      have f1 := HZ.out.free 1
      have f2 := HZ.out.free 2
      have HF := Lib.hid (HZ.out.fill (.bool false) (.slice none 0 0) (.slice none 0 0))
      have HB := Lib.hid (below_fill3' HW.out Hq.out (.bool false) (.slice none 0 0) (.slice none 0 0))
      go_wp2
      refine bodyPost_ret (results_mixed rfl _ _ _ 33 #[.bool false, .slice none 0 0, .slice none 0 0] (0, 0) _ (.int .i64 2) rfl rfl HF.out Tryz.underlying33 rfl rat_size) rfl ?_
      exact ⟨none, 0, 0, none, 0, 0, rfl, qt_none _ 0 0, HB.out⟩
    · have k5 : v ≤ 600 := by omega
      have k6 : -600 ≤ v := by omega
      rw [scaleR_lim k5 k6] at hR
      obtain ⟨T, hT⟩ : ∃ T : Rat, (10 : Rat) ^ v = T := ⟨_, rfl⟩
      rw [hT] at hR
      have HM : RowKit.Hid (mulR (some q) (some T) = (r, e)) := hR
      have HL : RowKit.Hid (limR T = (some T, 0)) := by
       show _ = _
       rw [← hT]; exact limR_fits (ten_bd2 v (by omega)) (by decide) (by decide)
      have HT := Lib.hid hT
      clear hR hT
      have b0 := below_new w (.cells #[Value.bool (sg (oTop (some q))), Value.slice A n c, Value.slice B m d] 33)
      have b2 := below_new (w.alloc (.cells #[Value.bool (sg (oTop (some q))), Value.slice A n c, Value.slice B m d] 33)) (.cells #[Value.bool false, Value.slice none 0 0, Value.slice none 0 0] 33)
      have HW := Lib.hid (below_two b0 b2)
      have HQ0 := Lib.hid (hx.below HW.out)
      have r0 := ((row3_new w 33 (.bool (sg (oTop (some q)))) (.slice A n c) (.slice B m d))).below b2
      have rz := row3_new (w.alloc (.cells #[Value.bool (sg (oTop (some q))), Value.slice A n c, Value.slice B m d] 33)) 33 (.bool false) (.slice none 0 0) (.slice none 0 0)
      simp only [World.size_alloc] at rz
      clear b0 b2 hx
      go_enter Tryz.func76, Tryz.ntmps76
      go_wp2_with fail
      generalize (w.alloc (.cells #[Value.bool (sg (oTop (some q))), Value.slice A n c, Value.slice B m d] 33)).alloc (.cells #[Value.bool false, Value.slice none 0 0, Value.slice none 0 0] 33) = w1 at *
      have HR0 := Lib.hid r0
      have HZ := Lib.hid rz
      have Hq : RowKit.Hid (w.heap.size ≤ w.heap.size + 1) := by show _ ≤ _; omega
      clear r0 rz
      refine (rGood_c HQ0.out (by omega) true rfl).mono ?_
      rintro e w2 ⟨rfl, bn⟩
      replace HQ0 := Lib.hid (HQ0.out.below bn)
      replace HR0 := Lib.hid (HR0.out.below bn)
      replace HZ := Lib.hid (HZ.out.below bn)
      replace HW := Lib.hid (below_two HW.out bn)
      clear bn
      go_wp2_with fail
      refine (rWhole_is 10 (by decide) (by decide) _ ten_cast _).mono ?_
      rintro ee w3 ⟨A5, n5, c5, B5, m5, d5, rfl, h5, bn⟩
      have H5 := Lib.hid h5
      replace HQ0 := Lib.hid (HQ0.out.below bn)
      replace HR0 := Lib.hid (HR0.out.below bn)
      replace HZ := Lib.hid (HZ.out.below bn)
      replace HW := Lib.hid (below_two HW.out bn)
      clear bn h5
      go_wp2_with fail
      refine (pRaiseT_c H5.out v (by omega) (by omega) (.inl (by decide)) T HT.out (some T) 0 HL.out).mono ?_
      rintro ee w4 ⟨A6, n6, c6, B6, m6, d6, rfl, h6, bn⟩
      have H6 := Lib.hid h6
      replace HQ0 := Lib.hid (HQ0.out.below bn)
      replace HR0 := Lib.hid (HR0.out.below bn)
      replace HZ := Lib.hid (HZ.out.below bn)
      replace HW := Lib.hid (below_two HW.out bn)
      clear bn h6 H5
      have bx := below_new w4 (.cells #[Value.bool (sg (oTop (some T))), Value.slice A6 n6 c6, Value.slice B6 m6 d6] 33)
      have HR6 := Lib.hid (row3_new w4 33 (.bool (sg (oTop (some T)))) (.slice A6 n6 c6) (.slice B6 m6 d6))
      replace HQ0 := Lib.hid (HQ0.out.below bx)
      replace HR0 := Lib.hid (HR0.out.below bx)
      replace HZ := Lib.hid (HZ.out.below bx)
      replace H6 := Lib.hid (H6.out.below bx)
      replace HW := Lib.hid (below_two HW.out bx)
      clear bx
      have c00 := HR0.out.c0
      have c01 := HR0.out.c1
      have c02 := HR0.out.c2
      have y0 := HR6.out.c0
      have y1 := HR6.out.c1
      have y2 := HR6.out.c2
      go_wp2_with fail
      clear y0 y1 y2
      clear c00 c01 c02
      generalize w4.alloc (.cells #[Value.bool (sg (oTop (some T))), Value.slice A6 n6 c6, Value.slice B6 m6 d6] 33) = w5 at *
      obtain ⟨q6, eg⟩ : ∃ g, g = w4.heap.size := ⟨_, rfl⟩
      rw [← eg] at HR6 ⊢
      clear eg HR6
      refine (rMul_c HQ0.out H6.out (by decide) (by decide) r e HM.out).mono ?_
      rintro ee w6 ⟨A9, n9, c9, B9, m9, d9, rfl, h9, bn⟩
      have hZ3 := HZ.out.below bn
      have hNo := hZ3.noLimb (by intro v e; cases e) (by intro v e; cases e) (by intro v e; cases e)
      have e0 := hZ3.c0
      have e1 := hZ3.c1
      have e2 := hZ3.c2
      have f0 := hZ3.free 0
      have f1 := hZ3.free 1
      have f2 := hZ3.free 2
      have HF := Lib.hid (hZ3.fill (.bool (sg (oTop r))) (.slice A9 n9 c9) (.slice B9 m9 d9))
      have HP := Lib.hid (QQ.fillR3 h9 hNo (.bool (sg (oTop r))) (.slice A9 n9 c9) (.slice B9 m9 d9))
      have HB := Lib.hid (below_fill3' (below_two HW.out bn) Hq.out (.bool (sg (oTop r))) (.slice A9 n9 c9) (.slice B9 m9 d9))
      clear hNo bn h9 hZ3
      go_wp2
      refine bodyPost_ret (results_mixed rfl _ _ _ 33 #[.bool (sg (oTop r)), .slice A9 n9 c9, .slice B9 m9 d9] (0, 0) _ (.int .i64 e) rfl rfl HF.out Tryz.underlying33 rfl rat_size) rfl ?_
      exact ⟨A9, n9, c9, B9, m9, d9, rfl, HP.out, HB.out⟩
end
end Go.Proofs.YtohokfbohdoijaaGreatDoor

/- Values of many cells: a block that holds such a value, whole or as a part; what a load finds, what a store leaves. Of any program; no condition. -/
namespace Go.Proofs.YtohokfbohdoijaaGreatDoor
open Go.RowKit Limb
set_option linter.unusedVariables false
def RowA (w : World) (g : Nat) (T : TypeId) (V : Array Value) : Prop := w.heap[g]? = some (.cells V T (0, 0))
def InV (w : World) (g o : Nat) (V : Array Value) : Prop := ∀ j v, V[j]? = some v → w.cell? ⟨g, o + j, none⟩ = some v
section
variable {w w' : World} {g o : Nat} {T : TypeId} {V V' : Array Value}
theorem RowA.lt (h : RowA w g T V) : g < w.heap.size := by
 rcases Nat.lt_or_ge g w.heap.size with hlt | hge
 · exact hlt
 · unfold RowA at h; rw [Array.getElem?_eq_none hge] at h; cases h
theorem RowA.below (h : RowA w g T V) (hb : Below w.heap.size w w') : RowA w' g T V := (hb.block g h.lt).trans h
theorem RowA.drew (h : RowA w g T V) : RowA w.drew g T V := h
theorem RowA.cell (h : RowA w g T V) {k : Nat} {v : Value} (hk : V[k]? = some v) : w.cell? ⟨g, k, none⟩ = some v := by
 unfold RowA at h
 simp only [World.cell?, h]
 exact hk
theorem RowA.free (h : RowA w g T V) (k : Nat) : w.frozen? ⟨g, k, none⟩ = false := by unfold RowA at h; simp [World.frozen?, h]
theorem RowA.set (h : RowA w g T V) (k : Nat) (v : Value) : RowA (w.setCell ⟨g, k, none⟩ v) g T (V.setIfInBounds k v) := by
 unfold RowA at h ⊢
 simp [World.setCell, Array.getElem?_modify, h]
theorem RowA.far (h : RowA w g T V) {g' : Nat} (hne : g' ≠ g) (k : Nat) (v : Value) : RowA (w.setCell ⟨g', k, none⟩ v) g T V := by
 unfold RowA at h ⊢
 simp only [World.setCell, Array.getElem?_modify]
 rw [if_neg hne]
 exact h
theorem RowA.fill (h : RowA w g T V) : RowA (w.setRow g V') g T V' := setRow_heap w g V V' T (0, 0) h
theorem RowA.farRow (h : RowA w g T V) {g' : Nat} (hne : g' ≠ g) : RowA (w.setRow g' V') g T V := by
 unfold RowA at h ⊢
 rw [setRow_other w g' g V' (Ne.symm hne)]
 exact h
theorem RowA.inV (h : RowA w g T V) : InV w g 0 V := fun j v hv => by rw [Nat.zero_add]; exact h.cell hv
theorem RowA.part (h : RowA w g T V) (hp : ∀ j v, V'[j]? = some v → V[o + j]? = some v) : InV w g o V' := fun j v hv => h.cell (hp j v hv)
theorem RowA.noLimb (h : RowA w g T V) (hv : ∀ v ∈ V, ∀ x, v ≠ .int .u32 x) : NoLimb w g := by
 intro o x e
 unfold RowA at h
 have h2 : V[o]? = some (.int .u32 x) := by
  simp only [World.cell?, h] at e
  exact e
 exact hv _ (Array.mem_of_getElem? h2) x rfl
theorem InV.below (h : InV w g o V) (hg : g < w.heap.size) (hb : Below w.heap.size w w') : InV w' g o V := fun j v hv => (hb.cell (p := ⟨g, o + j, none⟩) hg).trans (h j v hv)
theorem RowA.stores {P : Program} (h : RowA w g T V) (hn : V.size = V'.size) (h1 : ∀ v ∈ V', v.oneCell' = true) : (storeCells ⟨g, 0, none⟩ V'.toList 0).run P w = .ok () (w.setRow g V') := by
 have := run_storeCells_from (P := P) g T V'.toList 0 V w h (by simp; omega) (fun v hv => h1 v (by simpa using hv))
 simpa using this
end
theorem rowA_new (w : World) (T : TypeId) (V : Array Value) : RowA (w.alloc (.cells V T)) w.heap.size T V := heap_alloc_new _ _
theorem below_fillRow {B : Nat} {w w' : World} (h : Below B w w') {g : Nat} (hg : B ≤ g) (V : Array Value) : Below B w (w'.setRow g V) :=
 h.trans ⟨rfl, rfl, rfl, by simp, fun k hk => setRow_other w' g k V (by omega)⟩
def ints (K : IntKind) (xs : List Int) : Array Value := (xs.map (Value.int K)).toArray
theorem size_ints (K : IntKind) (xs : List Int) : (ints K xs).size = xs.length := by simp [ints]
theorem ints_get {K : IntKind} {xs : List Int} {i : Nat} (h : i < xs.length) : (ints K xs)[i]? = some (.int K (xs.getD i 0)) := by
 simp [ints, List.getD_eq_getElem?_getD, h]
theorem ints_one {K : IntKind} {xs : List Int} : ∀ v ∈ ints K xs, v.oneCell' = true := by
 intro v hv
 simp only [ints, List.mem_toArray, List.mem_map] at hv
 obtain ⟨x, _, rfl⟩ := hv
 rfl
theorem ints_set {K : IntKind} {xs : List Int} (k : Nat) (x : Int) : (ints K xs).setIfInBounds k (.int K x) = ints K (xs.set k x) := by
 simp [ints, List.map_set]
theorem RowA.int {w : World} {g : Nat} {T : TypeId} {K : IntKind} {xs : List Int} (h : RowA w g T (ints K xs)) {i : Nat} (hi : i < xs.length) : w.cell? ⟨g, i, none⟩ = some (.int K (xs.getD i 0)) := h.cell (ints_get hi)
theorem RowA.setInt {w : World} {g : Nat} {T : TypeId} {K : IntKind} {xs : List Int} (h : RowA w g T (ints K xs)) (k : Nat) (x : Int) : RowA (w.setCell ⟨g, k, none⟩ (.int K x)) g T (ints K (xs.set k x)) := by
 rw [← ints_set]; exact h.set k _
theorem run_index_ints {P : Program} {t e : TypeId} {n : Nat} {K : IntKind} (hu : P.underlying t = some (.array n e)) (hue : P.underlying e = some (.int K)) (hce : (P.info? e).map (·.size) = some 1) {xs : List Int} (hx : xs.length = n) (i : Nat) (hi : i < n) (k : IntKind) (W : World) :
 (Instr.index t (.agg (ints K xs)) (.int k (i : Int))).run P W = .ok (.int K (xs.getD i 0)) W := by
 have hin : (0 : Int) ≤ i ∧ (i : Int) < n := ⟨by omega, by omega⟩
 have hp : (part e (ints K xs) (i * 1)).run P W = .ok (.int K (xs.getD i 0)) W := by
  have h2 := ints_get (K := K) (xs := xs) (i := i) (by omega)
  simp only [part, isAgg, Sem.run_bind, run_underlying hue, Result.andThen_ok, Nat.mul_one]
  simp [h2]
 cases hq : P.info? e with
 | none => simp [hq] at hce
 | some q =>
  have hs : q.size = 1 := by simpa [hq] using hce
  rw [Nat.mul_one] at hp
  simp [Instr.index, asIntOf, run_underlying hu, hi, sizeOf, typeInfo, hq, hs]
  simpa using hp
section
variable {P : Program} {ops : Array Oper} {rest : List Oper} {o : Oper} {a : Act} {w : World} {K : Act → World → Prop} {Q : Exit → Act → World → Prop}
def Many (P : Program) (ty : TypeId) (n : Nat) : Prop := (P.info? ty).map (·.size) = some n ∧ ∃ d, P.underlying ty = some d ∧ d.isRow = true
theorem run_loadV {ty : TypeId} {g p : Nat} {V : Array Value} (hc : InV w g p V) (hT : Many P ty V.size) : (Instr.loadAt ty (.pointer (some ⟨g, p, none⟩))).run P w = .ok (.agg V) w := by
 obtain ⟨h1, d, h2, h3⟩ := hT
 have := run_loadAt_mid (P := P) w g p ty V.toList d (fun j v hv => hc j v (by simpa using hv)) h2 h3 (by simpa using h1)
 simpa using this
theorem wp_loadV (ty : TypeId) (x : Operand) (ho : o.op = .load ty x) (g p : Nat) (hx : a.eval x = .pointer (some ⟨g, p, none⟩)) (V : Array Value) (hc : Hid (InV w g p V)) (hT : Hid (Many P ty V.size))
 (h : K (a.put o.dst (.agg V)) w) : o.wp P a w K Q := by
 unfold Oper.wp execOp
 simp only [ho, hx, run_loadV hc.out hT.out, Sem.run_bind, Sem.run_pure, Result.andThen_ok]
 exact h
theorem wpList_loadV (hg : Region.wanted o (yielded ops a.tmps) = true) (ty : TypeId) (x : Operand) (ho : o.op = .load ty x) (g p : Nat) (hx : a.eval x = .pointer (some ⟨g, p, none⟩)) (V : Array Value) (hc : Hid (InV w g p V)) (hT : Hid (Many P ty V.size))
 (h : wpList P ops Q rest (a.put o.dst (.agg V)) w) : wpList P ops Q (o :: rest) a w :=
 BigFrame.wpList_want hg fun _ hK => wp_loadV ty x ho g p hx V hc hT (hK _ _ h)
theorem wp_buildV (ty : TypeId) (parts : Array (Nat × Operand)) (ho : o.op = .build ty parts) (ps : List (Nat × Value)) (hp : parts.toList.map (fun p => (p.1, a.eval p.2)) = ps) (V : Array Value) (hr : Hid (∀ W, (Instr.build ty ps.toArray).run P W = .ok (.agg V) W))
 (h : K (a.put o.dst (.agg V)) w) : o.wp P a w K Q := by
 have e : (parts.map fun (i, x) => (i, a.eval x)) = ps.toArray := by
  rw [← hp]
  apply Array.ext'
  simp
 unfold Oper.wp execOp
 simp only [ho, e, hr.out, Sem.run_bind, Sem.run_pure, Result.andThen_ok]
 exact h
theorem wpList_buildV (hg : Region.wanted o (yielded ops a.tmps) = true) (ty : TypeId) (parts : Array (Nat × Operand)) (ho : o.op = .build ty parts) (ps : List (Nat × Value)) (hp : parts.toList.map (fun p => (p.1, a.eval p.2)) = ps) (V : Array Value) (hr : Hid (∀ W, (Instr.build ty ps.toArray).run P W = .ok (.agg V) W))
 (h : wpList P ops Q rest (a.put o.dst (.agg V)) w) : wpList P ops Q (o :: rest) a w :=
 BigFrame.wpList_want hg fun _ hK => wp_buildV ty parts ho ps hp V hr (hK _ _ h)
theorem wp_storeV (ty : TypeId) (x y : Operand) (ho : o.op = .store ty x y) (g : Nat) (hx : a.eval x = .pointer (some ⟨g, 0, none⟩)) (V : Array Value) (hy : a.eval y = .agg V) (T : TypeId) (V0 : Array Value) (hc : Hid (RowA w g T V0)) (hT : Hid (Many P ty V.size ∧ V0.size = V.size ∧ ∀ v ∈ V, v.oneCell' = true))
 (h : K (a.put o.dst undef) (w.setRow g V)) : o.wp P a w K Q :=
 wp_store_row ty x y ho g V hx hy T V0 hc.out hT.out.1.1 hT.out.2.1 (Array.all_eq_true_iff_forall_mem.2 hT.out.2.2) h
theorem wpList_storeV (hg : Region.wanted o (yielded ops a.tmps) = true) (ty : TypeId) (x y : Operand) (ho : o.op = .store ty x y) (g : Nat) (hx : a.eval x = .pointer (some ⟨g, 0, none⟩)) (V : Array Value) (hy : a.eval y = .agg V) (T : TypeId) (V0 : Array Value) (hc : Hid (RowA w g T V0)) (hT : Hid (Many P ty V.size ∧ V0.size = V.size ∧ ∀ v ∈ V, v.oneCell' = true))
 (h : wpList P ops Q rest (a.put o.dst undef) (w.setRow g V)) : wpList P ops Q (o :: rest) a w :=
 BigFrame.wpList_want hg fun _ hK => wp_storeV ty x y ho g hx V hy T V0 hc hT (hK _ _ h)
theorem wpList_storeNew (hg : Region.wanted o (yielded ops a.tmps) = true) (ty : TypeId) (x y : Operand) (ho : o.op = .store ty x y) (V V0 : Array Value) (T : TypeId) (hx : a.eval x = .pointer (some ⟨w.heap.size, 0, none⟩)) (hy : a.eval y = .agg V) (hT : Hid (Many P ty V.size ∧ V0.size = V.size ∧ ∀ v ∈ V, v.oneCell' = true))
 (h : wpList P ops Q rest (a.put o.dst undef) (w.alloc (.cells V T))) : wpList P ops Q (o :: rest) a (w.alloc (.cells V0 T)) := by
 refine wpList_storeV hg ty x y ho w.heap.size hx V hy T V0 (rowA_new w T V0) hT ?_
 rw [World.setRow_alloc_new]
 exact h
end
end Go.Proofs.YtohokfbohdoijaaGreatDoor

/- Rows of the call's own, of elements of as many cells as one likes: append of one element, what stays. Of any program; no condition. -/
namespace Go.Proofs.YtohokfbohdoijaaGreatDoor
open Go.RowKit Limb
set_option linter.unusedVariables false
def OwnR (w : World) (B : Nat) (e : TypeId) (sz : Nat) (A : Option Addr) (n c : Nat) (xs : List Value) : Prop := w.ownsRow B e sz (.slice A n c) n xs
section
variable {w w' : World} {B : Nat} {e : TypeId} {sz n c : Nat} {A : Option Addr} {xs : List Value}
theorem OwnR.nil (w : World) (B : Nat) (e : TypeId) (sz : Nat) : OwnR w B e sz none 0 0 [] := World.ownsRow_nil w B e sz
theorem OwnR.len (h : OwnR w B e sz A n c xs) : xs.length = n * sz := h.1
theorem OwnR.lt (h : OwnR w B e sz A n c xs) : ∀ k, Value.ownBlock (.slice A n c) = some k → B ≤ k ∧ k < w.heap.size := World.ownsRow.lt h
theorem shape_row {v : Value} (h : w.ownsRow B e sz v n xs) : ∃ A c, v = .slice A n c ∧ OwnR w B e sz A n c xs := by
 rcases h.2 with ⟨rfl, rfl⟩ | ⟨g, cap, cur, rfl, _⟩
 · exact ⟨none, 0, rfl, h⟩
 · exact ⟨some ⟨g, 0, none⟩, cap, rfl, h⟩
theorem OwnR.cells (h : OwnR w B e sz A n c xs) (hn : 0 < n) : ∃ g, A = some ⟨g, 0, none⟩ ∧ B ≤ g ∧ g < w.heap.size ∧ n ≤ c ∧ c ≤ maxLen ∧ ∀ j u, xs[j]? = some u → w.cell? ⟨g, j, none⟩ = some u := by
 rcases h.2 with ⟨hv, h0⟩ | ⟨g, cap, cur, hv, hB, hg, hnc, hcm, hcs, ht⟩
 · omega
 · injection hv with h1 h2 h3
   subst h1; subst h3
   refine ⟨g, rfl, hB, (Array.getElem?_eq_some_iff.1 hg).1, hnc, hcm, fun j u hu => ?_⟩
   rw [cell_of_row w g j cur e (0, 0) hg]
   rw [← ht] at hu
   have hj : j < n * sz := by
    rcases Nat.lt_or_ge j (n * sz) with h1 | h1
    · exact h1
    · rw [List.getElem?_eq_none (by rw [List.length_take]; omega)] at hu; cases hu
   rw [List.getElem?_take_of_lt hj] at hu
   simpa using hu
theorem OwnR.below (h : OwnR w B e sz A n c xs) (hb : Below w.heap.size w w') : OwnR w' B e sz A n c xs := by
 refine ⟨h.1, ?_⟩
 rcases h.2 with h1 | ⟨g, cap, cur, hv, hB, hg, r⟩
 · exact .inl h1
 · exact .inr ⟨g, cap, cur, hv, hB, (hb.block g (Array.getElem?_eq_some_iff.1 hg).1).trans hg, r⟩
theorem OwnR.mono {C : Nat} (h : OwnR w B e sz A n c xs) (hC : C ≤ B) : OwnR w C e sz A n c xs := by
 refine ⟨h.1, ?_⟩
 rcases h.2 with h1 | ⟨g, cap, cur, hv, hB, r⟩
 · exact .inl h1
 · exact .inr ⟨g, cap, cur, hv, Nat.le_trans hC hB, r⟩
theorem RowA.grown {g : Nat} {T : TypeId} {V : Array Value} {o : Option Nat} (h : RowA w g T V) (hg : w.grownBy w' o) (hne : o ≠ some g) : RowA w' g T V := (hg.block g h.lt (fun e => hne e.symm)).trans h
end
section
variable {P : Program} {ops : Array Oper} {rest : List Oper} {o : Oper} {a : Act} {w : World} {K : Act → World → Prop} {Q : Exit → Act → World → Prop}
end
end Go.Proofs.YtohokfbohdoijaaGreatDoor

/- Regions that leave their order open, stores among their operations: one law by an invariant over what has come up, whatever the order; what may happen to the world is a relation of one's own. Of any program; no condition. -/
namespace Go.Proofs.YtohokfbohdoijaaGreatDoor
open Go.RowKit Limb
set_option linter.unusedVariables false
def dAt : List (Option Tmp) → Nat → Option Tmp
 | [], _ => none
 | d :: _, 0 => d
 | _ :: r, k + 1 => dAt r k
def slotV (d : Option Tmp) (a : Act) : Value := match d with
 | some t => a.eval (.tmp t)
 | none => undef
section
variable {P : Program} {Q : Exit → Act → World → Prop}
def okAtR (ops : Array Oper) (m : Nat) (ds : List (Option Tmp)) (N : Nat) (i : Nat) : Bool :=
 match ops[i]? with
 | none => false
 | some o => o.dst == dAt ds i && (match dAt ds i with | some d => decide (d < N) | none => true) && o.guard.isNone && isPlain o.op && (afters ops i).all (fun e => decide (e < i)) &&
  (List.range m).all (fun k => k == i || (dAt ds i).isNone || dAt ds k != dAt ds i) &&
  o.op.operands.toList.all (fun x => match x with
   | .tmp t => (List.range m).all fun k => dAt ds k != some t || (afters ops i).contains k
   | _ => true)
theorem okAtR_spec {ops : Array Oper} {m : Nat} {ds : List (Option Tmp)} {N i : Nat} (h : okAtR ops m ds N i = true) :
 ∃ o, ops[i]? = some o ∧ o.dst = dAt ds i ∧ (∀ d, dAt ds i = some d → d < N) ∧ o.guard = none ∧ (∀ cs b, o.op ≠ .select cs b) ∧ (∀ e ∈ afters ops i, e < i) ∧
  (∀ k, k < m → k ≠ i → ∀ d, dAt ds i = some d → dAt ds k ≠ some d) ∧ (∀ x ∈ o.op.operands, ∀ t, x = .tmp t → ∀ k, k < m → dAt ds k = some t → k ∈ afters ops i) := by
 unfold okAtR at h
 cases ho : ops[i]? with
 | none => rw [ho] at h; cases h
 | some o =>
  rw [ho] at h
  simp only [Bool.and_eq_true, beq_iff_eq, decide_eq_true_eq, List.all_eq_true, Bool.or_eq_true, bne_iff_ne, List.mem_range, Option.isNone_iff_eq_none] at h
  obtain ⟨⟨⟨⟨⟨⟨h1, h3⟩, h4⟩, h5⟩, h6⟩, h7⟩, h8⟩ := h
  refine ⟨o, rfl, h1, fun d hd => ?_, h4, ?_, h6, fun k hk hne d hd hkd => ?_, ?_⟩
  · rw [hd] at h3; simpa using h3
  · intro cs b he
    rw [he] at h5
    cases h5
  · rcases h7 k hk with (h9 | h9) | h9
    · exact hne h9
    · rw [hd] at h9; cases h9
    · exact h9 (hkd.trans hd.symm)
  · rintro x hx t rfl k hk hd
    have := h8 _ (by simpa using hx)
    simp only [List.all_eq_true, List.mem_range, Bool.or_eq_true, bne_iff_ne, List.contains_iff_mem] at this
    exact (this k hk).resolve_left fun h => h hd
def FreeStepR (P : Program) (Q : Exit → Act → World → Prop) (ops : Array Oper) (ds : List (Option Tmp)) (aF : (Nat → Value) → Act) (R : World → World → Prop) (S : World → Prop) (Φ : Nat → Value → World → Prop) (i : Nat) (o : Oper) : Prop :=
 ∀ (vals : Nat → Value) (w : World), S w → (∀ e ∈ afters ops i, Φ e (vals e) w) → ∀ K : Act → World → Prop,
  (∀ a' w', a'.defers = (aF vals).defers → R w w' → Φ i (slotV (dAt ds i) a') w' → K a' w') → o.wp P (aF vals) w K Q
theorem region_freeR {id : Nat} {a : Act} {w : World} {os : List Oper} (m : Nat) (ds : List (Option Tmp)) (aF : (Nat → Value) → Act) (R : World → World → Prop) (S : World → Prop) (Φ : Nat → Value → World → Prop)
 (hm : P.follows .mixedOrders = true)
 (haF : ∀ vals, fillAll (dAt ds) vals a m = aF vals)
 (hr : os.length = m)
 (hok : (List.range m).all (okAtR os.toArray m ds a.tmps.size) = true)
 (hQ : ∀ c (t t' : Array Value) (d : List Deferred) w, Q (.panic c) ⟨t, d⟩ w → Q (.panic c) ⟨t', d⟩ w)
 (hSb : ∀ w w', R w w' → S w → S w')
 (hΦb : ∀ k v w w', R w w' → S w → Φ k v w → Φ k v w')
 (hS : S w.drew)
 (hop : AllAt (FreeStepR P Q os.toArray ds aF R S Φ) 0 os m)
 (hfin : ∀ (vals : Nat → Value) (w : World), S w → (∀ k, k < m → Φ k (vals k) w) → wpAny P .any os.toArray Q 0 (firsts m m) (aF vals) w) :
 (Code.region id os.toArray true).wp P Q a w := by
 generalize hops : os.toArray = ops at *
 have hsz0 : ops.size = m := by rw [← hops]; simpa using hr
 have hle : m ≤ ops.size := by omega
 replace hop : ∀ i, i < m → ∀ o, ops[i]? = some o → FreeStepR P Q ops ds aF R S Φ i o := fun i hi o ho => by
  have := hop.at i hi o (by rw [← hops] at ho; simpa using ho)
  rwa [Nat.zero_add] at this
 replace hfin : ∀ (vals : Nat → Value) (w : World), S w → (∀ k, k < m → Φ k (vals k) w) →
  ∀ l : Array Bool, l.size = ops.size → (∀ k, l.getD k false = decide (k < m)) → wpAny P .any ops Q (ops.size - m) l (aF vals) w := fun vals w h1 h2 l h4 h5 => by
  rw [firsts_eq (h4.trans hsz0) (by omega) h5, show ops.size - m = 0 by omega]
  exact hfin vals w h1 h2
 replace hQ : ∀ c (a a' : Act) w, a.defers = a'.defers → Q (.panic c) a w → Q (.panic c) a' w := by
  rintro c ⟨t, d⟩ ⟨t', d'⟩ w he h
  obtain rfl : d = d' := he
  exact hQ c t t' d w h
 refine wp_region_any hm ?_
 have hat : ∀ i, i < m → okAtR ops m ds a.tmps.size i = true := fun i hi => List.all_eq_true.1 hok i (List.mem_range.2 hi)
 have hfr : ∀ (l : Array Bool), l = Array.replicate ops.size false → ∀ k, l.getD k false = false := by
  rintro l rfl k
  simp only [Array.getD_eq_getD_getElem?, Array.getElem?_replicate]
  split <;> rfl
 let J : Array Bool → Act → World → Prop := fun l a' w' => (l.size = ops.size ∧ ∀ k, m ≤ k → l.getD k false = false) ∧ S w' ∧ (∀ k, k < m → l.getD k false = true → ∀ e ∈ afters ops k, l.getD e false = true) ∧
  ∃ vals, a' = fill (dAt ds) vals l a m ∧ (∀ k, k < m → l.getD k false = true → Φ k (vals k) w')
 have hz : ∀ j, j ≤ m → left (Array.replicate ops.size false) j = j := fun j => by
  induction j with
  | zero => exact fun _ => rfl
  | succ j ihj => exact fun h => by unfold left; rw [ihj (by omega), hfr _ rfl j]; rfl
 have key := wpAny_inv (P := P) (ops := ops) (Q := Q) (md := .any) m J (fun l a' w' hj => hj.1) hle (fun i o h1 ho e he hb => ?hback) (fun l a' w' i hj hi h1 => ?hstep) (fun l a' w' i hj hi h1 k hk => ?hwait) (fun l a' w' hj hall => ?hfin)
  m (Array.replicate ops.size false) a w.drew (hz m (Nat.le_refl _)) ⟨⟨by simp, fun k _ => hfr _ rfl k⟩, hS, fun k _ h => (by rw [hfr _ rfl k] at h; cases h),
   fun _ => undef, (fill_none fun k _ => hfr _ rfl k).symm, fun k _ h => (by rw [hfr _ rfl k] at h; cases h)⟩
 · have e : ops.size - m + m = ops.size := by omega
   rw [e] at key
   exact key
 case hback =>
  obtain ⟨_, _, _, _, _, _, hlow, _, _⟩ := okAtR_spec (hat i h1)
  refine hlow e.on ?_
  unfold afters
  rw [ho]
  exact List.mem_map.2 ⟨e, List.mem_filter.2 ⟨by simpa using he, hb⟩, rfl⟩
 case hwait =>
  have hlt : i < ops.size := by
   obtain ⟨_, o, ho, _⟩ := mem_ready.1 hi
   exact (Array.getElem?_eq_some_iff.1 ho).1
  omega
 case hfin =>
  obtain ⟨⟨hs, hl⟩, hSw, _, vals, rfl, hv⟩ := hj
  rw [fill_all hall, haF]
  refine hfin vals w' hSw (fun k hk => hv k hk (hall k hk)) l hs fun k => ?_
  rcases Nat.lt_or_ge k m with h | h
  · rw [hall k h, decide_eq_true h]
  · rw [hl k h, decide_eq_false (by omega)]
 case hstep =>
  obtain ⟨⟨hs, hl⟩, hSw, hdn, vals, rfl, hv⟩ := hj
  obtain ⟨o, ho, hdst, hlt, hg, hsel, hlow, hdist, hops⟩ := okAtR_spec (hat i h1)
  have hu : l.getD i false = false := by
   have h2 := (mem_ready.1 hi).1
   have h3 : i < l.size := by omega
   simp only [Array.getD_eq_getD_getElem?] at h2 ⊢
   rw [Array.getElem?_eq_getElem h3] at h2 ⊢
   simpa using h2
  have hdep : ∀ e ∈ afters ops i, l.getD e false = true := fun e he => ready_after hi he
  have heval : ∀ x ∈ o.op.operands, (fill (dAt ds) vals l a m).eval x = (aF vals).eval x := fun x hx => by
   rw [← haF vals]
   exact fill_eval fun k hk hk2 d hd hxd => by
    rw [hdep k (hops x hx d hxd k hk hd)] at hk2
    cases hk2
  have hrun := hop i h1 o ho vals w' hSw (fun e he => hv e (by have := hlow e he; omega) (hdep e he))
   (fun a2 w2 => a2.defers = (aF vals).defers ∧ R w' w2 ∧ Φ i (slotV (dAt ds i) a2) w2)
   (fun a2 w2 h1 h2 h3 => ⟨h1, h2, h3⟩)
  have next : ∀ v v' w2, R w' w2 → Φ i v w2 → (dAt ds i ≠ none → v = v') →
   J (l.setIfInBounds i true) ((fill (dAt ds) vals l a m).put o.dst v') w2 := fun v v' w2 hb hphi hvv => by
   have hne : ∀ k, k ≠ i → (l.setIfInBounds i true).getD k false = l.getD k false := fun k hk => getD_other (Ne.symm hk) _
   refine ⟨⟨by simpa using hs, fun k hk => by rw [hne k (by omega)]; exact hl k hk⟩, hSb _ _ hb hSw, fun k hk hk2 e he => ?_, upd vals i v, ?_, fun k hk hk2 => ?_⟩
   · by_cases hki : k = i
     · subst hki
       rw [hne e (by have := hlow e he; omega)]
       exact hdep e he
     · rw [hne k hki] at hk2
       by_cases hei : e = i
       · subst hei
         exact getD_same (by omega) _
       · rw [hne e hei]
         exact hdn k hk hk2 e he
   · rw [hdst]
     have h4 := fill_set (D := dAt ds) (vals := vals) (l := l) (a := a) (i := i) (v := v) (by omega) hu h1 fun j hj hji d hd hdi2 => hdist j hj hji d hdi2 hd
     rw [← h4]
     cases hd : dAt ds i with
     | none => rfl
     | some d => rw [hvv (by rw [hd]; simp)]
   · by_cases hki : k = i
     · subst hki
       rw [show upd vals k v k = v from if_pos rfl]
       exact hphi
     · rw [hne k hki] at hk2
       rw [show upd vals i v k = vals k from if_neg hki]
       exact hΦb _ _ _ _ hb hSw (hv k hk hk2)
  unfold wpOp
  rw [ho]
  simp only []
  rw [if_pos (by unfold Region.wanted; rw [hg])]
  refine .inl ?_
  unfold Oper.wp at hrun ⊢
  rw [execOp_congr o hsel heval]
  generalize (execOp (aF vals).eval o).run P w' = r at hrun ⊢
  have hdef : (aF vals).defers = (fill (dAt ds) vals l a m).defers := by rw [← haF vals, fillAll_defers, fill_defers]
  have hput : ∀ v, dAt ds i ≠ none → slotV (dAt ds i) ((aF vals).put o.dst v) = v := fun v hd => by
   rw [hdst]
   cases hq : dAt ds i with
   | none => exact absurd hq hd
   | some d => exact put_same _ _ _ (by rw [← haF vals, fillAll_size]; exact hlt d hq)
  cases r with
  | ok n w2 =>
   cases n <;> simp only [Oper.upon] at hrun ⊢
   case value v => exact next _ _ _ hrun.2.1 hrun.2.2 (hput v)
   case skip => exact next _ _ _ hrun.2.1 hrun.2.2 (hput _)
   case defer d =>
    exfalso
    have := hrun.1
    rw [put_defers2] at this
    have := congrArg List.length this
    simp at this
   case enter f args =>
    refine Calls.mono hrun fun e w3 he => ?_
    cases e with
    | returned v => simp only at he ⊢; exact next _ _ _ he.2.1 he.2.2 (hput v)
    | panicked c => exact hQ _ _ _ _ hdef he
    | outgrown => exact he
   case row r args =>
    refine Rows.mono hrun fun v w3 he => ?_
    exact next _ _ _ he.2.1 he.2.2 (hput v)
  | halt x w2 =>
   cases x <;> simp only [Oper.upon] at hrun ⊢ <;> exact hQ _ _ _ _ hdef hrun
end
/-! Stores of single cells into blocks of the call's own: rows: the block, what it held, what it will hold. -/
def StR (T : TypeId) (rows : List (Nat × Array Value × Array Value)) (wx wy : World) : Prop :=
 wy.os = wx.os ∧ wy.tape = wx.tape ∧ wy.output = wx.output ∧ wx.heap.size ≤ wy.heap.size ∧ (∀ g, (∀ r ∈ rows, r.1 ≠ g) → wy.heap[g]? = wx.heap[g]?) ∧
  ∀ r ∈ rows, ∀ V, RowA wx r.1 T V → RowA wy r.1 T V ∨ RowA wy r.1 T r.2.2
def StS (T : TypeId) (rows : List (Nat × Array Value × Array Value)) (w0 wS wx : World) : Prop :=
 Below w0.heap.size w0 wx ∧ (∀ r ∈ rows, w0.heap.size ≤ r.1) ∧ (∀ g, (∀ r ∈ rows, r.1 ≠ g) → wx.heap[g]? = wS.heap[g]?) ∧ ∀ r ∈ rows, RowA wx r.1 T r.2.1 ∨ RowA wx r.1 T r.2.2
section
variable {T : TypeId} {rows : List (Nat × Array Value × Array Value)} {w0 wS wx wy : World}
theorem StR.refl (wx : World) : StR T rows wx wx := ⟨rfl, rfl, rfl, Nat.le_refl _, fun _ _ => rfl, fun _ _ _ h => .inl h⟩
theorem StS.step (h : StR T rows wx wy) (k : StS T rows w0 wS wx) : StS T rows w0 wS wy := by
 obtain ⟨h1, h2, h3, h4, h5, h6⟩ := h
 obtain ⟨k1, k2, k3, k4⟩ := k
 refine ⟨k1.trans ⟨h1, h2, h3, h4, fun g hg => h5 g fun r hr e => ?_⟩, k2, fun g hg => (h5 g hg).trans (k3 g hg), fun r hr => ?_⟩
 · have := k2 r hr; omega
 · rcases k4 r hr with h | h
   · exact h6 r hr _ h
   · rcases h6 r hr _ h with h | h <;> exact .inr h
theorem StS.start (hb : Below w0.heap.size w0 wS) (hg : ∀ r ∈ rows, w0.heap.size ≤ r.1) (hr : ∀ r ∈ rows, RowA wS r.1 T r.2.1) : StS T rows w0 wS wS.drew := ⟨hb.drew, hg, fun _ _ => rfl, fun r h => .inl (hr r h)⟩
theorem StS.row {g : Nat} {U : TypeId} {V : Array Value} (h : StS T rows w0 wS wx) (hg : ∀ r ∈ rows, r.1 ≠ g) (k : RowA wS g U V) : RowA wx g U V := (h.2.2.1 g hg).trans k
theorem StS.free (h : StS T rows w0 wS wx) {r : Nat × Array Value × Array Value} (hr : r ∈ rows) (k : Nat) : wx.frozen? ⟨r.1, k, none⟩ = false := by
 rcases h.2.2.2 r hr with h3 | h3 <;> exact h3.free k
theorem StS.store (h : StS T rows w0 wS wx) {r : Nat × Array Value × Array Value} (hr : r ∈ rows) (hd : ∀ s ∈ rows, s ≠ r → s.1 ≠ r.1) {k : Nat} {v : Value} (h1 : r.2.1.setIfInBounds k v = r.2.2) (h2 : r.2.2.setIfInBounds k v = r.2.2) :
 StR T rows wx (wx.setCell ⟨r.1, k, none⟩ v) ∧ RowA (wx.setCell ⟨r.1, k, none⟩ v) r.1 T r.2.2 := by
 have hN : RowA (wx.setCell ⟨r.1, k, none⟩ v) r.1 T r.2.2 := by
  rcases h.2.2.2 r hr with h3 | h3
  · have h4 := h3.set k v; rwa [h1] at h4
  · have h4 := h3.set k v; rwa [h2] at h4
 refine ⟨⟨rfl, rfl, rfl, by simp [World.setCell], fun g hg => heap_setCell_other _ _ _ _ (fun e => hg r hr e.symm), fun s hs V hV => ?_⟩, hN⟩
 by_cases e : s = r
 · subst e; exact .inr hN
 · exact .inl (hV.far (hd s hs e).symm k v)
end
end Go.Proofs.YtohokfbohdoijaaGreatDoor

/- How an argument that is a slice of 32-bit words is opened: it reads as limbs in the caller's memory. No condition. -/
namespace Go.Proofs.YtohokfbohdoijaaGreatDoor
open Go.ChangeShapes Go.WideShapes Go.ChangeAt Go.RowKit Limb
set_option linter.unusedVariables false
theorem own : ownKnob Tryz.prog.godebug = none := by kernel_rfl
theorem laidOut : laidOutB Tryz.prog = true := by kernel_rfl
theorem wf_u32 {n : Int} (h : (Lit.int .u32 n).wf = true) : 0 ≤ n ∧ n < 4294967296 := by
 have h1 : IntKind.u32.min = 0 := rfl
 have h2 : IntKind.u32.max = 4294967295 := rfl
 simp only [Lit.wf, Bool.and_eq_true, decide_eq_true_eq] at h
 omega
theorem add_zero_addr (a : Addr) : a.add 0 = a := by simp [Addr.add]
theorem open_nat {H : Type} {enc : TypeId × Value → H} {W : World} {sp : Nat → Bool} {held : Bool} {a : Option Addr} {n c : Nat} {d : DataW H} {p : List MemPlace}
 (h : DataW.Trod enc Tryz.prog W 0 sp held 29 (.slice a n c) d p) : ∃ xs, IsN W a n xs ∧ n ≤ c ∧ c ≤ maxLen ∧ (a = none → c = 0) := by
 obtain ⟨fuel, hf⟩ := h
 rcases open_ints Tryz.underlying29 Tryz.underlying84 (by kernel_rfl) hf with ⟨hcs, _⟩ | ⟨x, l, k, zs, hcs, _, hl, hm, hz, _, hcell, hwz⟩
 · simp [Value.cells] at hcs
   obtain ⟨rfl, rfl, rfl⟩ := hcs
   exact ⟨[], IsN.nil _ _, Nat.le_refl _, Nat.zero_le _, fun _ => rfl⟩
 · simp [Value.cells] at hcs
   obtain ⟨rfl, rfl, rfl⟩ := hcs
   have hz' : n ≤ zs.length := by rw [hz]; split <;> omega
   refine ⟨(zs.take n).map Int.toNat, ⟨by simp; omega, ?_, fun hn => ?_⟩, hl, hm, fun e => by cases e⟩
   · intro v hv
     obtain ⟨z, hz2, rfl⟩ := List.mem_map.1 hv
     have := wf_u32 (hwz z (List.mem_of_mem_take hz2))
     omega
   · obtain ⟨b, o, spot⟩ := x
     have h0 := hcell 0 (by omega)
     rw [add_zero_addr] at h0
     have hs : spot = none := World.cell?_spot h0
     subst hs
     refine ⟨b, o, rfl, World.block_lt_of_cell? W _ h0, fun j hj => ?_⟩
     have hj2 := hcell j (by omega)
     have e : (⟨b, o, none⟩ : Addr).add j = ⟨b, o + j, none⟩ := by unfold Addr.add; split <;> simp_all
     rw [e] at hj2
     rw [hj2]
     have hw := wf_u32 (hwz zs[j] (List.getElem_mem (by omega)))
     have e2 : zs.getD j 0 = zs[j] := by simp [List.getD_eq_getElem?_getD, List.getElem?_eq_getElem (show j < zs.length by omega)]
     have e3 : lim ((zs.take n).map Int.toNat) j = (zs[j]).toNat := by
      simp [lim, List.getD_eq_getElem?_getD, hj, List.getElem?_eq_getElem (show j < zs.length by omega)]
     rw [e2, e3, Int.toNat_of_nonneg hw.1]
theorem places_lt {H : Type} {enc : TypeId × Value → H} {W : World} {base : Nat} {sp : Nat → Bool} {held : Bool} {t : TypeId} {v : Value} {d : DataW H} {p : List MemPlace} (h : DataW.Trod enc Tryz.prog W base sp held t v d p) : ∀ x ∈ p, x.block < W.heap.size := by
 obtain ⟨m, hm⟩ := h; exact DataW.trod_lt m _ _ _ hm
end Go.Proofs.YtohokfbohdoijaaGreatDoor

/- How an argument that is an array of integers is opened: a list of as many numbers, each in its bounds. Of any program; no condition. -/
namespace Go.Proofs.YtohokfbohdoijaaGreatDoor
open Go.ChangeShapes Go.WideShapes Go.ChangeAt Go.RowKit Limb
set_option linter.unusedVariables false
end Go.Proofs.YtohokfbohdoijaaGreatDoor

/- How an argument that is a struct of a sign and a list of limbs is opened. No condition. -/
namespace Go.Proofs.YtohokfbohdoijaaGreatDoor
open Go.ChangeShapes Go.WideShapes Go.ChangeAt Go.RowKit Limb
set_option linter.unusedVariables false
theorem cells_bool : Tryz.prog.cellsOf 4 = 1 := by kernel_rfl
theorem cells_nat : Tryz.prog.cellsOf 29 = 1 := by kernel_rfl
theorem cells_int : Tryz.prog.cellsOf 31 = 2 := by kernel_rfl
end Go.Proofs.YtohokfbohdoijaaGreatDoor

/- How an argument that is a rational number is opened: a struct of a struct of a sign and a list of limbs, and of a list of limbs. No condition. -/
namespace Go.Proofs.YtohokfbohdoijaaGreatDoor
open Go.ChangeShapes Go.WideShapes Go.ChangeAt Go.RowKit Limb
set_option linter.unusedVariables false
theorem cells_rat : Tryz.prog.cellsOf 33 = 3 := by kernel_rfl
theorem slice_cell {H : Type} {enc : TypeId × Value → H} {W : World} {sp : Nat → Bool} {held : Bool} {m : Nat} {c : Value} {x : DataW H × List MemPlace}
 (h : DataW.trod enc Tryz.prog W 0 sp held m 29 [c] = some x) : ∃ (a : Option Addr) (n k : Nat) (zs : List Nat), c = .slice a n k ∧ IsN W a n zs ∧ n ≤ k ∧ k ≤ maxLen := by
 have h2 : DataW.Trod enc Tryz.prog W 0 sp held 29 c x.1 x.2 := by
  rcases DataW.trod_slice Tryz.underlying29 h with ⟨e, _⟩ | ⟨a, l, k, es, rs, m2, _, e, _⟩
  · simp at e; subst e; exact ⟨_, h⟩
  · simp at e; subst e; exact ⟨_, h⟩
 rcases DataW.trod_slice Tryz.underlying29 h with ⟨e, _⟩ | ⟨a, l, k, es, rs, m2, _, e, _⟩
 · simp at e; subst e
   obtain ⟨zs, hz, hc, hm, _⟩ := open_nat h2
   exact ⟨_, _, _, zs, rfl, hz, hc, hm⟩
 · simp at e; subst e
   obtain ⟨zs, hz, hc, hm, _⟩ := open_nat h2
   exact ⟨_, _, _, zs, rfl, hz, hc, hm⟩
end Go.Proofs.YtohokfbohdoijaaGreatDoor

/- '==' of two arrays of integers. Of any program; no condition. -/
namespace Go.Proofs.YtohokfbohdoijaaGreatDoor
open Go.RowKit Limb
set_option linter.unusedVariables false
section
variable {P : Program} (w : World)
theorem run_items_arr {d : Nat} {e : TypeId} {K : IntKind} (hue : P.underlying e = some (.int K)) {xs ys : List Int} (hx : xs.length = ys.length) :
 ∀ is : List Nat, (∀ i ∈ is, i < xs.length) → (Op.eqItems (d + 1) e 1 (xs.map (Value.int K)).toArray (ys.map (Value.int K)).toArray is).run P w = .ok (is.all fun i => decide (xs.getD i 0 = ys.getD i 0)) w
 | [], _ => by simp [Op.eqItems]
 | i :: is, h => by
  have ih := run_items_arr (d := d) hue hx is (fun j hj => h j (List.mem_cons_of_mem _ hj))
  have hi : i < xs.length := h i (by simp)
  have px : (part e (xs.map (Value.int K)).toArray (i * 1)).run P w = .ok (.int K (xs.getD i 0)) w := by
   simp [part, isAgg, run_underlying hue, List.getD, List.getElem?_eq_getElem hi]
  have py : (part e (ys.map (Value.int K)).toArray (i * 1)).run P w = .ok (.int K (ys.getD i 0)) w := by
   simp [part, isAgg, run_underlying hue, List.getD, List.getElem?_eq_getElem (show i < ys.length by omega)]
  have pe : (Op.equalIn (d + 1) e (.int K (xs.getD i 0)) (.int K (ys.getD i 0))).run P w = .ok (decide (xs.getD i 0 = ys.getD i 0)) w := by
   rw [run_equalIn_int w d e K K _ _ hue]
   congr 1
  simp only [Op.eqItems, Sem.run_bind, px, py, pe, Result.andThen_ok, List.all_cons]
  cases hb : decide (xs.getD i 0 = ys.getD i 0)
  · simp
  · simpa using ih
theorem run_equalIn_arr {t e : TypeId} {n : Nat} {i : TypeInfo} {K : IntKind} (hu : P.underlying t = some (.array n e)) (hi : P.info? e = some i) (hue : P.underlying e = some (.int K)) (hce : P.cellsOf e = 1) {xs ys : List Int} (hx : xs.length = n) (hy : ys.length = n) :
 (Op.equalIn 10000 t (.agg (xs.map (Value.int K)).toArray) (.agg (ys.map (Value.int K)).toArray)).run P w = .ok (decide (xs = ys)) w := by
 have h := run_equalIn_array (P := P) w 9999 (xs.map (Value.int K)).toArray (ys.map (Value.int K)).toArray hu hi
 rw [hce, run_items_arr w (d := 9998) hue (hx.trans hy.symm) (List.range n) (fun j hj => by rw [hx]; exact List.mem_range.1 hj)] at h
 have e2 : ((List.range n).all fun i => decide (xs.getD i 0 = ys.getD i 0)) = decide (xs = ys) := by
  rw [Bool.eq_iff_iff, List.all_eq_true, decide_eq_true_eq]
  constructor
  · intro h2
    apply List.ext_getElem (hx.trans hy.symm)
    intro j h3 h4
    have h5 := h2 j (List.mem_range.2 (by omega))
    rw [decide_eq_true_eq] at h5
    simpa [List.getD, List.getElem?_eq_getElem h3, List.getElem?_eq_getElem h4] using h5
  · rintro rfl j _
    simp
 rw [e2] at h
 exact h
end
end Go.Proofs.YtohokfbohdoijaaGreatDoor

/- What package dim's clamp, nearest and Good answer, as contracts over memory. Condition: seven exponents. -/
namespace Go.Proofs.YtohokfbohdoijaaGreatDoor
open Go.RowKit Limb
set_option linter.unusedVariables false
theorem int_info : (Tryz.prog.info? 3).map (fun i => (i.zero, i.size, i.bytes)) = some (some (.int .i64 0), 1, 8) := by kernel_rfl
theorem size7 : (Tryz.prog.info? 35).map (·.size) = some 7 := by kernel_rfl
theorem row7 : ∃ d, Tryz.prog.underlying 35 = some d ∧ d.isRow = true := ⟨_, Tryz.underlying35, rfl⟩
def dimV (xs : List Int) : Array Value := ints .i64 xs
theorem size_dimV {xs : List Int} (h : xs.length = 7) : (dimV xs).size = 7 := (size_ints _ _).trans h
theorem many7 {xs : List Int} (h : xs.length = 7) : Many Tryz.prog 35 (dimV xs).size := ⟨by rw [size_dimV h]; exact size7, row7⟩
theorem size_info {V : Array Value} (h : V.size = 7) : (Tryz.prog.info? 35).map (·.size) = some V.size := by rw [h]; exact size7
theorem dimV_one {xs : List Int} : ∀ v ∈ dimV xs, v.oneCell' = true := ints_one
theorem fits7 {xs : List Int} (h : xs.length = 7) : Many Tryz.prog 35 (dimV xs).size ∧ (#[.int .i64 0, .int .i64 0, .int .i64 0, .int .i64 0, .int .i64 0, .int .i64 0, .int .i64 0] : Array Value).size = (dimV xs).size ∧ ∀ v ∈ dimV xs, v.oneCell' = true := ⟨many7 h, by rw [size_dimV h]; rfl, dimV_one⟩
theorem dim0_V : dimV dim0 = #[.int .i64 0, .int .i64 0, .int .i64 0, .int .i64 0, .int .i64 0, .int .i64 0, .int .i64 0] := rfl
def clampE (m n : Int) : Int := max (-m) (min n m)
section
variable {w : World} {xs ys : List Int}
set_option maxHeartbeats 1000000 in
theorem dClamp_c (n m : Int) (h0 : 0 ≤ m) (h1 : m ≤ 1000) (n0 : -9223372036854775808 ≤ n) (n1 : n ≤ 9223372036854775807) :
 Calls Tryz.prog 64 #[.int .i64 n, .int .i64 m] w fun e w' => e = .returned (.int .i64 (clampE m n)) ∧ w' = w := by
 have hw : IntKind.i64.wrap (-m) = -m := by rw [IntKind.wrap_i64]; omega
 go_enter Tryz.func64, Tryz.ntmps64
 go_wp2
 all_goals go_ret
 all_goals refine ⟨congrArg (fun x => Ending.returned (Value.int .i64 x)) ?_, rfl⟩
 all_goals unfold clampE
 all_goals grind
def I64 (xs : List Int) : Prop := ∀ x ∈ xs, -9223372036854775808 ≤ x ∧ x ≤ 9223372036854775807
theorem I64.at (h : I64 xs) {i : Nat} (hi : i < xs.length) : -9223372036854775808 ≤ xs.getD i 0 ∧ xs.getD i 0 ≤ 9223372036854775807 := by
 have e : xs.getD i 0 = xs[i] := by simp [List.getD_eq_getElem?_getD, hi]
 rw [e]; exact h _ (List.getElem_mem _)
theorem index_dim (hx : xs.length = 7) (i : Nat) (hi : i < 7) (W : World) : (Instr.index 35 (.agg (dimV xs)) (.int .i64 (i : Int))).run Tryz.prog W = .ok (.int .i64 (xs.getD i 0)) W :=
 run_index_ints Tryz.underlying35 Tryz.underlying3 (by kernel_rfl) hx i hi .i64 W
def nearTo (xs : List Int) (i : Nat) : List Int := (xs.take i).map (clampE 200) ++ xs.drop i
theorem len_nearTo (xs : List Int) (i : Nat) : (nearTo xs i).length = xs.length := by unfold nearTo; simp; omega
theorem nearTo_zero (xs : List Int) : nearTo xs 0 = xs := by simp [nearTo]
theorem nearTo_all (h : xs.length = 7) : nearTo xs 7 = xs.map (clampE 200) := by unfold nearTo; rw [← h, List.take_length, List.drop_length, List.append_nil]
theorem nearTo_step {i : Nat} (h : i < xs.length) : (nearTo xs i).set i (clampE 200 (xs.getD i 0)) = nearTo xs (i + 1) := by
 have e : xs.getD i 0 = xs[i] := by simp [List.getD_eq_getElem?_getD, h]
 unfold nearTo
 rw [e, List.take_succ_eq_append_getElem h, List.map_append, List.set_append_right _ _ (by simp; omega), List.append_assoc]
 congr 1
 rw [List.length_map, List.length_take, Nat.min_eq_left (by omega), Nat.sub_self, List.drop_eq_getElem_cons h]
 rfl
set_option maxHeartbeats 4000000 in
theorem dNearest_c (hx : xs.length = 7) (h64 : I64 xs) :
 Calls Tryz.prog 109 #[.agg (dimV xs)] w fun e w' => e = .returned (.agg (dimV (xs.map (clampE 200)))) ∧ Below w.heap.size w w' := by
 have bz := (below_new w (.cells (dimV xs) 35))
 have HW := Lib.hid (below_two bz (below_new (w.alloc (.cells (dimV xs) 35)) (.cells (dimV dim0) 35)))
 have r0 := (rowA_new w 35 (dimV xs)).below (below_new _ (.cells (dimV dim0) 35))
 have r1 := rowA_new (w.alloc (.cells (dimV xs) 35)) 35 (dimV dim0)
 simp only [World.size_alloc] at r1
 have L0 := Lib.hid r0.inV
 have HT := Lib.hid (many7 hx)
 have HR0 := Lib.hid r0
 have HR1 := Lib.hid r1
 clear r0 r1 bz
 rw [dim0_V] at HW HR1 HR0 L0
 go_enter Tryz.func109, Tryz.ntmps109
 go_wp2_with (refine wpList_loadV (by rfl) 35 _ (by rfl) _ _ (by rfl) _ (by assumption) (by assumption) ?_)
 generalize (w.alloc (.cells (dimV xs) 35)).alloc (.cells #[.int .i64 0, .int .i64 0, .int .i64 0, .int .i64 0, .int .i64 0, .int .i64 0, .int .i64 0] 35) = w1 at *
 have HX := Lib.hid hx
 have H64 := Lib.hid h64
 clear L0 HT
 go_loopw [6] (fun iv wr => ∃ i : Nat, i ≤ 7 ∧ iv = .int .i64 (i : Int) ∧ RowKit.Hid (RowA wr w.heap.size 35 (dimV (nearTo xs i))) ∧ RowKit.Hid (RowA wr (w.heap.size + 1) 35 #[.int .i64 0, .int .i64 0, .int .i64 0, .int .i64 0, .int .i64 0, .int .i64 0, .int .i64 0]) ∧ RowKit.Hid (Below w.heap.size w wr)) (fun iv _ => 7 - (intOf iv).toNat)
 · refine ⟨0, by decide, rfl, ?_, HR1, HW⟩
   rw [nearTo_zero]
   exact HR0
 · obtain ⟨i, hi, rfl, hA, hB, hb⟩ := hrel
   clear HR0 HR1 HW hx h64
   by_cases h7 : i < 7
   · have hidx := fun W => index_dim HX.out i h7 W
     have hr := H64.out.at (i := i) (by rw [HX.out]; exact h7)
     have HS := Lib.hid (hA.out.setInt i (clampE 200 (xs.getD i 0)))
     have c0 := hA.out.int (i := i) (by rw [len_nearTo, HX.out]; exact h7)
     have f0 := hA.out.free i
     have HF := Lib.hid (hB.out.far (g' := w.heap.size) (by omega) i (.int .i64 (clampE 200 (xs.getD i 0))))
     have HB := Lib.hid (hb.out.setCell (p := ⟨w.heap.size, i, none⟩) (Nat.le_refl _) (.int .i64 (clampE 200 (xs.getD i 0))))
     rw [nearTo_step (by rw [HX.out]; exact h7)] at HS
     generalize xs.getD i 0 = x at *
     generalize (nearTo xs i).getD i 0 = y at *
     clear hA hB hb
     obtain ⟨hr1, hr2⟩ := hr
     go_wp2_with (go_at_call 64; refine (dClamp_c x 200 (by decide) (by decide) hr1 hr2).mono ?_; rintro e w' ⟨rfl, rfl⟩)
     exact ⟨⟨i + 1, by omega, by simp, HS, HF, HB⟩, by simp [intOf]; omega⟩
   · obtain rfl : i = 7 := by omega
     have hl : (xs.map (clampE 200)).length = 7 := by rw [List.length_map]; exact HX.out
     rw [nearTo_all HX.out] at hA
     have L0 := Lib.hid hA.out.inV
     have HT := Lib.hid (many7 hl)
     have HU := Lib.hid (fits7 hl)
     have HF := Lib.hid (hB.out.fill (V' := dimV (xs.map (clampE 200))))
     have HB := Lib.hid (below_fillRow hb.out (Nat.le_succ _) (dimV (xs.map (clampE 200))))
     have hz : Hid ((dimV (xs.map (clampE 200))).size = 7) := size_dimV hl
     go_wp2_with (first | (refine wpList_loadV (by rfl) 35 _ (by rfl) _ _ (by rfl) _ (by assumption) (by assumption) ?_) | (refine wpList_storeV (by rfl) 35 _ _ (by rfl) _ (by rfl) _ (by rfl) _ _ (by assumption) (by assumption) ?_))
     refine bodyPost_ret (results_cell_row rfl _ _ _ 35 (dimV (xs.map (clampE 200))) (0, 0) _ rfl HF.out Tryz.underlying35 rfl (size_info hz.out)) rfl ?_
     exact ⟨rfl, HB.out⟩
theorem equal_dim {ys : List Int} (hx : xs.length = 7) (hy : ys.length = 7) {b : Bool} (hb : decide (xs = ys) = b) (W : World) : (Op.equalIn 10000 35 (.agg (dimV xs)) (.agg (dimV ys))).run Tryz.prog W = .ok b W := by
 obtain ⟨i0, hi, hz0, hz1, hz2⟩ := info_parts int_info
 rw [← hb]
 exact run_equalIn_arr W Tryz.underlying35 hi Tryz.underlying3 (by kernel_rfl) hx hy
theorem near_good (xs : List Int) : decide (xs = xs.map (clampE 200)) = goodD xs := by
 rw [Bool.eq_iff_iff, decide_eq_true_eq, goodD_iff]
 constructor
 · intro h x hx
   rw [h] at hx
   obtain ⟨y, _, rfl⟩ := List.mem_map.1 hx
   unfold clampE; omega
 · intro h
   symm
   rw [List.map_congr_left (g := id) (fun x hx => by have := h x hx; unfold clampE; simp; omega), List.map_id]
end
end Go.Proofs.YtohokfbohdoijaaGreatDoor
