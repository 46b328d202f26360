/- Part 7 of the texts that the statements of this seat lean on: mathematics, and what functions answer, as contracts over memory; each part says its own conditions. -/
import Derived.Test.YtjikaojffgjndaaGreatDoorM6
/- What the reference of layer 7 answers (Times, Plus), as contracts over memory. Conditions: sizes of at most so many limbs. -/
namespace Go.Proofs.YtjikaojffgjndaaGreatDoor
open Go.RowKit Limb
set_option linter.unusedVariables false
section
variable {w : World} {s s' : Bool} {A B A' B' : Option Addr} {n c m d n' c' m' d' : Nat} {xs ys xs' ys' : List Nat} {x y : Int} {a b L L' : Nat}
set_option maxHeartbeats 4000000 in
set_option maxRecDepth 100000 in
theorem refTimes_c (hx : ZZ w s A n c xs x L) (hy : NN w B m d ys a L) (hx' : ZZ w s' A' n' c' xs' y L') (hy' : NN w B' m' d' ys' b L') (h1 : L ≤ 1000) (h2 : L' ≤ 1000) (ha : a ≠ 0) (hb : b ≠ 0) (q : Rat) (hq : mkRat (x * y) (a * b) = q) :
 Calls Tryz.prog 65 #[.agg #[.bool s, .slice A n c, .slice B m d], .agg #[.bool s', .slice A' n' c', .slice B' m' d']] w fun e w' => ∃ A2 n2 c2 B2 m2 d2, e = .returned (.agg #[.bool (sg q.num), .slice A2 n2 c2, .slice B2 m2 d2]) ∧ ZZ w' (sg q.num) A2 n2 c2 (limbs q.num.natAbs) q.num (L + L') ∧ NN w' B2 m2 d2 (limbs q.den) q.den (L + L') ∧ Below w.heap.size w w' := by
 have hab : a * b ≠ 0 := Nat.mul_ne_zero ha hb
 have b0 := below_new w (.cells #[Value.bool s, Value.slice A n c, Value.slice B m d] 27)
 have b1 := below_new (w.alloc (.cells #[Value.bool s, Value.slice A n c, Value.slice B m d] 27)) (.cells #[Value.bool s', Value.slice A' n' c', Value.slice B' m' d'] 27)
 have b2 := below_new ((w.alloc (.cells #[Value.bool s, Value.slice A n c, Value.slice B m d] 27)).alloc (.cells #[Value.bool s', Value.slice A' n' c', Value.slice B' m' d'] 27)) (.cells #[Value.bool false, Value.slice none 0 0, Value.slice none 0 0] 27)
 have HW := Lib.hid (below_two (below_two b0 b1) b2)
 have HX := Lib.hid (hx.below HW.out)
 have HY := Lib.hid (hy.below HW.out)
 have HX1 := Lib.hid (hx'.below HW.out)
 have HY1 := Lib.hid (hy'.below HW.out)
 have r0 := ((row3_new w 27 (.bool s) (.slice A n c) (.slice B m d)).below b1).below b2
 have r1 := (row3_new (w.alloc (.cells #[Value.bool s, Value.slice A n c, Value.slice B m d] 27)) 27 (.bool s') (.slice A' n' c') (.slice B' m' d')).below b2
 have rz := row3_new ((w.alloc (.cells #[Value.bool s, Value.slice A n c, Value.slice B m d] 27)).alloc (.cells #[Value.bool s', Value.slice A' n' c', Value.slice B' m' d'] 27)) 27 (.bool false) (.slice none 0 0) (.slice none 0 0)
 simp only [World.size_alloc] at r1 rz
 clear b0 b1 b2 hx hy hx' hy'
 go_enter Tryz.func65, Tryz.ntmps65
 go_wp2
 generalize ((w.alloc (.cells #[Value.bool s, Value.slice A n c, Value.slice B m d] 27)).alloc (.cells #[Value.bool s', Value.slice A' n' c', Value.slice B' m' d'] 27)).alloc (.cells #[Value.bool false, Value.slice none 0 0, Value.slice none 0 0] 27) = wS at *
 have HR0 := Lib.hid r0
 have HR1 := Lib.hid r1
 have HZ := Lib.hid rz
 have Hq : RowKit.Hid (w.heap.size ≤ w.heap.size + 1 + 1) := by show _ ≤ _; omega
 clear r0 r1 rz
 refine region_free 11 1 [5, 6, 7, 8, 9, 10, 11, 12, 13, 14, 15] ?aF2 (fun wx => Below wS.heap.size wS wx) (fun k vv wx => match k with
  | 0 => vv = .pointer (some ⟨w.heap.size, 0, none⟩)
  | 1 => vv = .agg #[.bool s, .slice A n c]
  | 2 => vv = .pointer (some ⟨w.heap.size + 1, 0, none⟩)
  | 3 => vv = .agg #[.bool s', .slice A' n' c']
  | 4 => ∃ (e0 : Option Addr) (e1 : Nat) (e2 : Nat), vv = .agg #[.bool (sg (x * y)), .slice e0 e1 e2] ∧ ZZ wx (sg (x * y)) e0 e1 e2 (limbs (x * y).natAbs) (x * y) (L + L')
  | 5 => vv = .pointer (some ⟨w.heap.size, 2, none⟩)
  | 6 => vv = .slice B m d
  | 7 => vv = .pointer (some ⟨w.heap.size + 1, 2, none⟩)
  | 8 => vv = .slice B' m' d'
  | 9 => ∃ (e0 : Option Addr) (e1 : Nat) (e2 : Nat), vv = .slice e0 e1 e2 ∧ NN wx e0 e1 e2 (limbs (a * b)) (a * b) (L + L')
  | _ => ∃ (e0 : Option Addr) (e1 : Nat) (e2 : Nat) (e3 : Option Addr) (e4 : Nat) (e5 : Nat), vv = .agg #[.bool (sg q.num), .slice e0 e1 e2, .slice e3 e4 e5] ∧ ZZ wx (sg q.num) e0 e1 e2 (limbs q.num.natAbs) q.num (L + L') ∧ NN wx e3 e4 e5 (limbs q.den) q.den (L + L'))
  (fun k => false) (by kernel_rfl) ?haF2 rfl (by kernel_rfl) (by kernel_rfl) (fun _ _ _ _ _ h => h) ?hSb2 ?hPb2 ?hS2 ?hop2 ?hfin2
 case haF2 =>
  intro vals
  simp only [fillAll, List.getElem?_cons_zero, List.getElem?_cons_succ, Act.put, List.setIfInBounds_toArray, List.set_cons_zero, List.set_cons_succ]
  exact rfl
 case hSb2 => exact fun wx w2 hb hS => below_two hS hb
 case hPb2 =>
  intro k v wa wb hb h
  match k, h with
  | 0, h => exact h
  | 1, h => exact h
  | 2, h => exact h
  | 3, h => exact h
  | 4, ⟨e0, e1, e2, h1, g0⟩ => exact ⟨e0, e1, e2, h1, g0.below hb⟩
  | 5, h => exact h
  | 6, h => exact h
  | 7, h => exact h
  | 8, h => exact h
  | 9, ⟨e0, e1, e2, h1, g0⟩ => exact ⟨e0, e1, e2, h1, g0.below hb⟩
  | _ + 10, ⟨e0, e1, e2, e3, e4, e5, h1, g0, g1⟩ => exact ⟨e0, e1, e2, e3, e4, e5, h1, g0.below hb, g1.below hb⟩
 case hS2 => exact (Below.refl _ _).drew
 case hop2 =>
  refine .cons (k := 0) ?_ (.cons (k := 1) ?_ (.cons (k := 2) ?_ (.cons (k := 3) ?_ (.cons (k := 4) ?_ (.cons (k := 5) ?_ (.cons (k := 6) ?_ (.cons (k := 7) ?_ (.cons (k := 8) ?_ (.cons (k := 9) ?_ (.cons (k := 10) ?_ (.nil)))))))))))
  all_goals intro vals wr hS hd KC hK
  all_goals (show Oper.wp _ _ _ _ _ _; dsimp only)
  · go_simp
    refine hK _ _ rfl (Below.refl _ _) (by first | rfl | simp) (fun h => by cases h)
  · have d0 : vals 0 = _ := hd 0 (by decide +kernel)
    rw [d0]
    have z0 := (HR0.out.below hS).c0
    have z1 := (HR0.out.below hS).c1
    go_simp
    refine hK _ _ rfl (Below.refl _ _) (by first | rfl | simp) (fun h => by cases h)
  · go_simp
    refine hK _ _ rfl (Below.refl _ _) (by first | rfl | simp) (fun h => by cases h)
  · have d2 : vals 2 = _ := hd 2 (by decide +kernel)
    rw [d2]
    have z0 := (HR1.out.below hS).c0
    have z1 := (HR1.out.below hS).c1
    go_simp
    refine hK _ _ rfl (Below.refl _ _) (by first | rfl | simp) (fun h => by cases h)
  · have d1 : vals 1 = _ := hd 1 (by decide +kernel)
    have d3 : vals 3 = _ := hd 3 (by decide +kernel)
    rw [d1, d3]
    go_simp
    go_at_call 119
    with_reducible refine (refIMul_c (HX.out.below hS) (HX1.out.below hS) (by omega) (by omega) (x * y) rfl).mono ?_
    rintro e w2 ⟨r0, r1, r2, rfl, f0, bn_r⟩
    refine hK _ _ rfl bn_r ⟨_, _, _, rfl, f0⟩ (fun h => by cases h)
  · go_simp
    refine hK _ _ rfl (Below.refl _ _) (by first | rfl | simp) (fun h => by cases h)
  · have d5 : vals 5 = _ := hd 5 (by decide +kernel)
    rw [d5]
    have z0 := (HR0.out.below hS).c2
    go_simp
    refine hK _ _ rfl (Below.refl _ _) (by first | rfl | simp) (fun h => by cases h)
  · go_simp
    refine hK _ _ rfl (Below.refl _ _) (by first | rfl | simp) (fun h => by cases h)
  · have d7 : vals 7 = _ := hd 7 (by decide +kernel)
    rw [d7]
    have z0 := (HR1.out.below hS).c2
    go_simp
    refine hK _ _ rfl (Below.refl _ _) (by first | rfl | simp) (fun h => by cases h)
  · have d6 : vals 6 = _ := hd 6 (by decide +kernel)
    have d8 : vals 8 = _ := hd 8 (by decide +kernel)
    rw [d6, d8]
    go_simp
    go_at_call 73
    with_reducible refine (refMul_c (HY.out.below hS) (HY1.out.below hS) (by omega) (by omega)).mono ?_
    rintro e w2 ⟨r0, r1, r2, rfl, f0, bn_r⟩
    refine hK _ _ rfl bn_r ⟨_, _, _, rfl, f0⟩ (fun h => by cases h)
  · obtain ⟨A_4_0, n_4_1, n_4_2, d4, h_4_0⟩ := hd 4 (by decide +kernel)
    obtain ⟨A_9_0, n_9_1, n_9_2, d9, h_9_0⟩ := hd 9 (by decide +kernel)
    rw [d4, d9]
    go_simp
    go_at_call 102
    with_reducible refine (refWide_c h_4_0 h_9_0 (by omega) (by omega) hab q hq).mono ?_
    rintro e w2 ⟨r0, r1, r2, r3, r4, r5, rfl, f0, f1, bn_r⟩
    refine hK _ _ rfl bn_r ⟨_, _, _, _, _, _, rfl, f0, f1⟩ (fun h => by cases h)
 case hfin2 =>
  intro vals wr hS hP hne
  obtain ⟨y0, y1, y2, y3, y4, y5, ez, h3_0, h3_1⟩ := hP 10 (by decide)
  have hZ3 := HZ.out.below hS
  have hNo := hZ3.noLimb (by intro v e; cases e) (by intro v e; cases e) (by intro v e; cases e)
  have e0 := hZ3.c0
  have e1 := hZ3.c1
  have e2 := hZ3.c2
  have f0 := hZ3.free 0
  have f1 := hZ3.free 1
  have f2 := hZ3.free 2
  have HF := Lib.hid (hZ3.fill (.bool (sg q.num)) (.slice y0 y1 y2) (.slice y3 y4 y5))
  have HP1 := Lib.hid (h3_0.fillR3 hNo (.bool (sg q.num)) (.slice y0 y1 y2) (.slice y3 y4 y5))
  have HP2 := Lib.hid (h3_1.fillR3 hNo (.bool (sg q.num)) (.slice y0 y1 y2) (.slice y3 y4 y5))
  have HB := Lib.hid (below_fill3' (below_two HW.out hS) Hq.out (.bool (sg q.num)) (.slice y0 y1 y2) (.slice y3 y4 y5))
  try dsimp only
  rw [ez]
  refine wpAny_ready (rs := [11]) (by kernel_rfl) (by simp) (AllReady.cons rfl (fun KC hK => ?_) AllReady.nil)
  go_simp
  refine hK _ _ ?_
  clear hK KC
  refine wpAny_done (by kernel_rfl) ?_ _
  go_wp2
  refine bodyPost_ret (results_cell_row rfl _ _ _ 27 #[.bool (sg q.num), .slice y0 y1 y2, .slice y3 y4 y5] (0, 0) _ rfl HF.out Tryz.underlying27 rfl rat_size) rfl ?_
  exact ⟨y0, y1, y2, y3, y4, y5, rfl, HP1.out, HP2.out, HB.out⟩
set_option maxHeartbeats 4000000 in
set_option maxRecDepth 100000 in
theorem refPlus_c (hx : ZZ w s A n c xs x L) (hy : NN w B m d ys a L) (hx' : ZZ w s' A' n' c' xs' y L') (hy' : NN w B' m' d' ys' b L') (h1 : L ≤ 1000) (h2 : L' ≤ 1000) (ha : a ≠ 0) (hb : b ≠ 0) (z : Int) (hz : x * (b : Int) + y * (a : Int) = z) (q : Rat) (hq : mkRat z (a * b) = q) :
 Calls Tryz.prog 64 #[.agg #[.bool s, .slice A n c, .slice B m d], .agg #[.bool s', .slice A' n' c', .slice B' m' d']] w fun e w' => ∃ A2 n2 c2 B2 m2 d2, e = .returned (.agg #[.bool (sg q.num), .slice A2 n2 c2, .slice B2 m2 d2]) ∧ ZZ w' (sg q.num) A2 n2 c2 (limbs q.num.natAbs) q.num (L + L' + (L' + L) + 1) ∧ NN w' B2 m2 d2 (limbs q.den) q.den (L + L') ∧ Below w.heap.size w w' := by
 have hab : a * b ≠ 0 := Nat.mul_ne_zero ha hb
 have b0 := below_new w (.cells #[Value.bool s, Value.slice A n c, Value.slice B m d] 27)
 have b1 := below_new (w.alloc (.cells #[Value.bool s, Value.slice A n c, Value.slice B m d] 27)) (.cells #[Value.bool s', Value.slice A' n' c', Value.slice B' m' d'] 27)
 have b2 := below_new ((w.alloc (.cells #[Value.bool s, Value.slice A n c, Value.slice B m d] 27)).alloc (.cells #[Value.bool s', Value.slice A' n' c', Value.slice B' m' d'] 27)) (.cells #[Value.bool false, Value.slice none 0 0, Value.slice none 0 0] 27)
 have HW := Lib.hid (below_two (below_two b0 b1) b2)
 have HX := Lib.hid (hx.below HW.out)
 have HY := Lib.hid (hy.below HW.out)
 have HX1 := Lib.hid (hx'.below HW.out)
 have HY1 := Lib.hid (hy'.below HW.out)
 have r0 := ((row3_new w 27 (.bool s) (.slice A n c) (.slice B m d)).below b1).below b2
 have r1 := (row3_new (w.alloc (.cells #[Value.bool s, Value.slice A n c, Value.slice B m d] 27)) 27 (.bool s') (.slice A' n' c') (.slice B' m' d')).below b2
 have rz := row3_new ((w.alloc (.cells #[Value.bool s, Value.slice A n c, Value.slice B m d] 27)).alloc (.cells #[Value.bool s', Value.slice A' n' c', Value.slice B' m' d'] 27)) 27 (.bool false) (.slice none 0 0) (.slice none 0 0)
 simp only [World.size_alloc] at r1 rz
 clear b0 b1 b2 hx hy hx' hy'
 go_enter Tryz.func64, Tryz.ntmps64
 go_wp2
 generalize ((w.alloc (.cells #[Value.bool s, Value.slice A n c, Value.slice B m d] 27)).alloc (.cells #[Value.bool s', Value.slice A' n' c', Value.slice B' m' d'] 27)).alloc (.cells #[Value.bool false, Value.slice none 0 0, Value.slice none 0 0] 27) = wS at *
 have HR0 := Lib.hid r0
 have HR1 := Lib.hid r1
 have HZ := Lib.hid rz
 have Hq : RowKit.Hid (w.heap.size ≤ w.heap.size + 1 + 1) := by show _ ≤ _; omega
 clear r0 r1 rz
 refine region_free 19 1 [5, 6, 7, 8, 9, 10, 11, 12, 13, 14, 15, 16, 17, 18, 19, 20, 21, 22, 23] ?aF3 (fun wx => Below wS.heap.size wS wx) (fun k vv wx => match k with
  | 0 => vv = .pointer (some ⟨w.heap.size, 0, none⟩)
  | 1 => vv = .agg #[.bool s, .slice A n c]
  | 2 => vv = .pointer (some ⟨w.heap.size + 1, 2, none⟩)
  | 3 => vv = .slice B' m' d'
  | 4 => ∃ (e0 : Option Addr) (e1 : Nat) (e2 : Nat), vv = .agg #[.bool (sg (b : Int)), .slice e0 e1 e2] ∧ ZZ wx (sg (b : Int)) e0 e1 e2 (limbs (b : Int).natAbs) (b : Int) L'
  | 5 => ∃ (e0 : Option Addr) (e1 : Nat) (e2 : Nat), vv = .agg #[.bool (sg (x * (b : Int))), .slice e0 e1 e2] ∧ ZZ wx (sg (x * (b : Int))) e0 e1 e2 (limbs (x * (b : Int)).natAbs) (x * (b : Int)) (L + L')
  | 6 => vv = .pointer (some ⟨w.heap.size + 1, 0, none⟩)
  | 7 => vv = .agg #[.bool s', .slice A' n' c']
  | 8 => vv = .pointer (some ⟨w.heap.size, 2, none⟩)
  | 9 => vv = .slice B m d
  | 10 => ∃ (e0 : Option Addr) (e1 : Nat) (e2 : Nat), vv = .agg #[.bool (sg (a : Int)), .slice e0 e1 e2] ∧ ZZ wx (sg (a : Int)) e0 e1 e2 (limbs (a : Int).natAbs) (a : Int) L
  | 11 => ∃ (e0 : Option Addr) (e1 : Nat) (e2 : Nat), vv = .agg #[.bool (sg (y * (a : Int))), .slice e0 e1 e2] ∧ ZZ wx (sg (y * (a : Int))) e0 e1 e2 (limbs (y * (a : Int)).natAbs) (y * (a : Int)) (L' + L)
  | 12 => ∃ (e0 : Option Addr) (e1 : Nat) (e2 : Nat), vv = .agg #[.bool (sg z), .slice e0 e1 e2] ∧ ZZ wx (sg z) e0 e1 e2 (limbs z.natAbs) z (L + L' + (L' + L) + 1)
  | 13 => vv = .pointer (some ⟨w.heap.size, 2, none⟩)
  | 14 => vv = .slice B m d
  | 15 => vv = .pointer (some ⟨w.heap.size + 1, 2, none⟩)
  | 16 => vv = .slice B' m' d'
  | 17 => ∃ (e0 : Option Addr) (e1 : Nat) (e2 : Nat), vv = .slice e0 e1 e2 ∧ NN wx e0 e1 e2 (limbs (a * b)) (a * b) (L + L')
  | _ => ∃ (e0 : Option Addr) (e1 : Nat) (e2 : Nat) (e3 : Option Addr) (e4 : Nat) (e5 : Nat), vv = .agg #[.bool (sg q.num), .slice e0 e1 e2, .slice e3 e4 e5] ∧ ZZ wx (sg q.num) e0 e1 e2 (limbs q.num.natAbs) q.num (L + L' + (L' + L) + 1) ∧ NN wx e3 e4 e5 (limbs q.den) q.den (L + L'))
  (fun k => false) (by kernel_rfl) ?haF3 rfl (by kernel_rfl) (by kernel_rfl) (fun _ _ _ _ _ h => h) ?hSb3 ?hPb3 ?hS3 ?hop3 ?hfin3
 case haF3 =>
  intro vals
  simp only [fillAll, List.getElem?_cons_zero, List.getElem?_cons_succ, Act.put, List.setIfInBounds_toArray, List.set_cons_zero, List.set_cons_succ]
  exact rfl
 case hSb3 => exact fun wx w2 hb hS => below_two hS hb
 case hPb3 =>
  intro k v wa wb hb h
  match k, h with
  | 0, h => exact h
  | 1, h => exact h
  | 2, h => exact h
  | 3, h => exact h
  | 4, ⟨e0, e1, e2, h1, g0⟩ => exact ⟨e0, e1, e2, h1, g0.below hb⟩
  | 5, ⟨e0, e1, e2, h1, g0⟩ => exact ⟨e0, e1, e2, h1, g0.below hb⟩
  | 6, h => exact h
  | 7, h => exact h
  | 8, h => exact h
  | 9, h => exact h
  | 10, ⟨e0, e1, e2, h1, g0⟩ => exact ⟨e0, e1, e2, h1, g0.below hb⟩
  | 11, ⟨e0, e1, e2, h1, g0⟩ => exact ⟨e0, e1, e2, h1, g0.below hb⟩
  | 12, ⟨e0, e1, e2, h1, g0⟩ => exact ⟨e0, e1, e2, h1, g0.below hb⟩
  | 13, h => exact h
  | 14, h => exact h
  | 15, h => exact h
  | 16, h => exact h
  | 17, ⟨e0, e1, e2, h1, g0⟩ => exact ⟨e0, e1, e2, h1, g0.below hb⟩
  | _ + 18, ⟨e0, e1, e2, e3, e4, e5, h1, g0, g1⟩ => exact ⟨e0, e1, e2, e3, e4, e5, h1, g0.below hb, g1.below hb⟩
 case hS3 => exact (Below.refl _ _).drew
 case hop3 =>
  refine .cons (k := 0) ?_ (.cons (k := 1) ?_ (.cons (k := 2) ?_ (.cons (k := 3) ?_ (.cons (k := 4) ?_ (.cons (k := 5) ?_ (.cons (k := 6) ?_ (.cons (k := 7) ?_ (.cons (k := 8) ?_ (.cons (k := 9) ?_ (.cons (k := 10) ?_ (.cons (k := 11) ?_ (.cons (k := 12) ?_ (.cons (k := 13) ?_ (.cons (k := 14) ?_ (.cons (k := 15) ?_ (.cons (k := 16) ?_ (.cons (k := 17) ?_ (.cons (k := 18) ?_ (.nil)))))))))))))))))))
  all_goals intro vals wr hS hd KC hK
  all_goals (show Oper.wp _ _ _ _ _ _; dsimp only)
  · go_simp
    refine hK _ _ rfl (Below.refl _ _) (by first | rfl | simp) (fun h => by cases h)
  · have d0 : vals 0 = _ := hd 0 (by decide +kernel)
    rw [d0]
    have z0 := (HR0.out.below hS).c0
    have z1 := (HR0.out.below hS).c1
    go_simp
    refine hK _ _ rfl (Below.refl _ _) (by first | rfl | simp) (fun h => by cases h)
  · go_simp
    refine hK _ _ rfl (Below.refl _ _) (by first | rfl | simp) (fun h => by cases h)
  · have d2 : vals 2 = _ := hd 2 (by decide +kernel)
    rw [d2]
    have z0 := (HR1.out.below hS).c2
    go_simp
    refine hK _ _ rfl (Below.refl _ _) (by first | rfl | simp) (fun h => by cases h)
  · have d3 : vals 3 = _ := hd 3 (by decide +kernel)
    rw [d3]
    go_simp
    go_at_call 120
    with_reducible refine (refPos_c (HY1.out.below hS) (by omega)).mono ?_
    rintro e w2 ⟨r0, r1, r2, rfl, f0, bn_r⟩
    refine hK _ _ rfl bn_r ⟨_, _, _, rfl, f0⟩ (fun h => by cases h)
  · have d1 : vals 1 = _ := hd 1 (by decide +kernel)
    obtain ⟨A_4_0, n_4_1, n_4_2, d4, h_4_0⟩ := hd 4 (by decide +kernel)
    rw [d1, d4]
    go_simp
    go_at_call 119
    with_reducible refine (refIMul_c (HX.out.below hS) h_4_0 (by omega) (by omega) (x * (b : Int)) rfl).mono ?_
    rintro e w2 ⟨r0, r1, r2, rfl, f0, bn_r⟩
    refine hK _ _ rfl bn_r ⟨_, _, _, rfl, f0⟩ (fun h => by cases h)
  · go_simp
    refine hK _ _ rfl (Below.refl _ _) (by first | rfl | simp) (fun h => by cases h)
  · have d6 : vals 6 = _ := hd 6 (by decide +kernel)
    rw [d6]
    have z0 := (HR1.out.below hS).c0
    have z1 := (HR1.out.below hS).c1
    go_simp
    refine hK _ _ rfl (Below.refl _ _) (by first | rfl | simp) (fun h => by cases h)
  · go_simp
    refine hK _ _ rfl (Below.refl _ _) (by first | rfl | simp) (fun h => by cases h)
  · have d8 : vals 8 = _ := hd 8 (by decide +kernel)
    rw [d8]
    have z0 := (HR0.out.below hS).c2
    go_simp
    refine hK _ _ rfl (Below.refl _ _) (by first | rfl | simp) (fun h => by cases h)
  · have d9 : vals 9 = _ := hd 9 (by decide +kernel)
    rw [d9]
    go_simp
    go_at_call 120
    with_reducible refine (refPos_c (HY.out.below hS) (by omega)).mono ?_
    rintro e w2 ⟨r0, r1, r2, rfl, f0, bn_r⟩
    refine hK _ _ rfl bn_r ⟨_, _, _, rfl, f0⟩ (fun h => by cases h)
  · have d7 : vals 7 = _ := hd 7 (by decide +kernel)
    obtain ⟨A_10_0, n_10_1, n_10_2, d10, h_10_0⟩ := hd 10 (by decide +kernel)
    rw [d7, d10]
    go_simp
    go_at_call 119
    with_reducible refine (refIMul_c (HX1.out.below hS) h_10_0 (by omega) (by omega) (y * (a : Int)) rfl).mono ?_
    rintro e w2 ⟨r0, r1, r2, rfl, f0, bn_r⟩
    refine hK _ _ rfl bn_r ⟨_, _, _, rfl, f0⟩ (fun h => by cases h)
  · obtain ⟨A_5_0, n_5_1, n_5_2, d5, h_5_0⟩ := hd 5 (by decide +kernel)
    obtain ⟨A_11_0, n_11_1, n_11_2, d11, h_11_0⟩ := hd 11 (by decide +kernel)
    rw [d5, d11]
    go_simp
    go_at_call 62
    with_reducible refine (refIAdd_c h_5_0 h_11_0 (by omega) (by omega) z hz).mono ?_
    rintro e w2 ⟨r0, r1, r2, rfl, f0, bn_r⟩
    refine hK _ _ rfl bn_r ⟨_, _, _, rfl, f0⟩ (fun h => by cases h)
  · go_simp
    refine hK _ _ rfl (Below.refl _ _) (by first | rfl | simp) (fun h => by cases h)
  · have d13 : vals 13 = _ := hd 13 (by decide +kernel)
    rw [d13]
    have z0 := (HR0.out.below hS).c2
    go_simp
    refine hK _ _ rfl (Below.refl _ _) (by first | rfl | simp) (fun h => by cases h)
  · go_simp
    refine hK _ _ rfl (Below.refl _ _) (by first | rfl | simp) (fun h => by cases h)
  · have d15 : vals 15 = _ := hd 15 (by decide +kernel)
    rw [d15]
    have z0 := (HR1.out.below hS).c2
    go_simp
    refine hK _ _ rfl (Below.refl _ _) (by first | rfl | simp) (fun h => by cases h)
  · have d14 : vals 14 = _ := hd 14 (by decide +kernel)
    have d16 : vals 16 = _ := hd 16 (by decide +kernel)
    rw [d14, d16]
    go_simp
    go_at_call 73
    with_reducible refine (refMul_c (HY.out.below hS) (HY1.out.below hS) (by omega) (by omega)).mono ?_
    rintro e w2 ⟨r0, r1, r2, rfl, f0, bn_r⟩
    refine hK _ _ rfl bn_r ⟨_, _, _, rfl, f0⟩ (fun h => by cases h)
  · obtain ⟨A_12_0, n_12_1, n_12_2, d12, h_12_0⟩ := hd 12 (by decide +kernel)
    obtain ⟨A_17_0, n_17_1, n_17_2, d17, h_17_0⟩ := hd 17 (by decide +kernel)
    rw [d12, d17]
    go_simp
    go_at_call 102
    with_reducible refine (refWide_c h_12_0 h_17_0 (by omega) (by omega) hab q hq).mono ?_
    rintro e w2 ⟨r0, r1, r2, r3, r4, r5, rfl, f0, f1, bn_r⟩
    refine hK _ _ rfl bn_r ⟨_, _, _, _, _, _, rfl, f0, f1⟩ (fun h => by cases h)
 case hfin3 =>
  intro vals wr hS hP hne
  obtain ⟨y0, y1, y2, y3, y4, y5, ez, h3_0, h3_1⟩ := hP 18 (by decide)
  have hZ3 := HZ.out.below hS
  have hNo := hZ3.noLimb (by intro v e; cases e) (by intro v e; cases e) (by intro v e; cases e)
  have e0 := hZ3.c0
  have e1 := hZ3.c1
  have e2 := hZ3.c2
  have f0 := hZ3.free 0
  have f1 := hZ3.free 1
  have f2 := hZ3.free 2
  have HF := Lib.hid (hZ3.fill (.bool (sg q.num)) (.slice y0 y1 y2) (.slice y3 y4 y5))
  have HP1 := Lib.hid (h3_0.fillR3 hNo (.bool (sg q.num)) (.slice y0 y1 y2) (.slice y3 y4 y5))
  have HP2 := Lib.hid (h3_1.fillR3 hNo (.bool (sg q.num)) (.slice y0 y1 y2) (.slice y3 y4 y5))
  have HB := Lib.hid (below_fill3' (below_two HW.out hS) Hq.out (.bool (sg q.num)) (.slice y0 y1 y2) (.slice y3 y4 y5))
  try dsimp only
  rw [ez]
  refine wpAny_ready (rs := [19]) (by kernel_rfl) (by simp) (AllReady.cons rfl (fun KC hK => ?_) AllReady.nil)
  go_simp
  refine hK _ _ ?_
  clear hK KC
  refine wpAny_done (by kernel_rfl) ?_ _
  go_wp2
  refine bodyPost_ret (results_cell_row rfl _ _ _ 27 #[.bool (sg q.num), .slice y0 y1 y2, .slice y3 y4 y5] (0, 0) _ rfl HF.out Tryz.underlying27 rfl rat_size) rfl ?_
  exact ⟨y0, y1, y2, y3, y4, y5, rfl, HP1.out, HP2.out, HB.out⟩
end
end Go.Proofs.YtjikaojffgjndaaGreatDoor

/- What the reference of layer 7 answers (Limit, Whole), as contracts over memory. Conditions: sizes of at most so many limbs. -/
namespace Go.Proofs.YtjikaojffgjndaaGreatDoor
open Go.RowKit Limb
set_option linter.unusedVariables false
theorem got7_size : (Tryz.prog.info? 35).map (·.size) = some 4 := by kernel_rfl
section
variable {w : World} {s s' : Bool} {A B A' B' : Option Addr} {n c m d n' c' m' d' : Nat} {xs ys xs' ys' : List Nat} {x y : Int} {a b L L' : Nat}
set_option maxHeartbeats 4000000 in
set_option maxRecDepth 100000 in
theorem refLimit_c {q : Rat} (hz : ZZ w (sg q.num) A n c (limbs q.num.natAbs) q.num L) (hn : NN w B m d (limbs q.den) q.den L') :
 Calls Tryz.prog 101 #[.agg #[.bool (sg q.num), .slice A n c, .slice B m d]] w fun e w' => ∃ A2 n2 c2 B2 m2 d2, e = .returned (.agg #[.bool (sg (oTop (limQ q))), .slice A2 n2 c2, .slice B2 m2 d2, .int .i64 (limE q)]) ∧ QT w' A2 n2 c2 B2 m2 d2 (limQ q) ∧ Below w.heap.size w w' := by
 have hf1 := hz.nn.isN.len
 have hf2 := hn.isN.len
 have HX := Lib.hid hz
 have HY := Lib.hid hn
 clear hz hn
 by_cases h5 : 64 < n
 · have hf : RowKit.Hid (fitsQ q = false) := by
    show _ = _
    rw [Bool.eq_false_iff]
    intro h
    simp only [fitsQ, Bool.and_eq_true, decide_eq_true_eq] at h
    have := length_limbs_le h.1
    omega
   have n5 : decide ((64 : Int) < (n : Int)) = true := by rw [decide_eq_true_eq]; omega
   clear h5
   clear hf1 hf2
   go_enter Tryz.func101, Tryz.ntmps101
   go_wp2
   refine bodyPost_ret (results_cell_row rfl _ _ (w.heap.size + 1) 35 #[.bool false, .slice none 0 0, .slice none 0 0, .int .i64 2] (0, 0) _ rfl (heap_alloc2_new _ _ _) Tryz.underlying35 rfl got7_size) rfl ?_
   exact ⟨none, 0, 0, none, 0, 0, by rw [limQ_no hf.out, limE_no hf.out]; rfl, by rw [limQ_no hf.out]; exact qt_none _ 0 0, below_two (below_new _ _) (below_new _ _)⟩
 · by_cases h6 : 64 < m
   · have hf : RowKit.Hid (fitsQ q = false) := by
      show _ = _
      rw [Bool.eq_false_iff]
      intro h
      simp only [fitsQ, Bool.and_eq_true, decide_eq_true_eq] at h
      have := length_limbs_le h.2
      omega
     have n5 : decide ((64 : Int) < (n : Int)) = false := by rw [decide_eq_false_iff_not]; omega
     have n6 : decide ((64 : Int) < (m : Int)) = true := by rw [decide_eq_true_eq]; omega
     clear h5 h6
     clear hf1 hf2
     go_enter Tryz.func101, Tryz.ntmps101
     go_wp2
     refine bodyPost_ret (results_cell_row rfl _ _ (w.heap.size + 1) 35 #[.bool false, .slice none 0 0, .slice none 0 0, .int .i64 2] (0, 0) _ rfl (heap_alloc2_new _ _ _) Tryz.underlying35 rfl got7_size) rfl ?_
     exact ⟨none, 0, 0, none, 0, 0, by rw [limQ_no hf.out, limE_no hf.out]; rfl, by rw [limQ_no hf.out]; exact qt_none _ 0 0, below_two (below_new _ _) (below_new _ _)⟩
   · have hf : RowKit.Hid (fitsQ q = true) := by
      show _ = _
      simp only [fitsQ, Bool.and_eq_true, decide_eq_true_eq]
      refine ⟨?_, ?_⟩
      · rcases Nat.lt_or_ge q.num.natAbs (4294967296 ^ 64) with h | h
        · exact h
        · have := lt_length_limbs h; omega
      · rcases Nat.lt_or_ge q.den (4294967296 ^ 64) with h | h
        · exact h
        · have := lt_length_limbs h; omega
     have n5 : decide ((64 : Int) < (n : Int)) = false := by rw [decide_eq_false_iff_not]; omega
     have n6 : decide ((64 : Int) < (m : Int)) = false := by rw [decide_eq_false_iff_not]; omega
     clear h5 h6 hf1 hf2
     go_enter Tryz.func101, Tryz.ntmps101
     go_wp2
     refine bodyPost_ret (results_cell_row rfl _ _ (w.heap.size + 1) 35 #[.bool (sg q.num), .slice A n c, .slice B m d, .int .i64 0] (0, 0) _ rfl (heap_alloc2_new _ _ _) Tryz.underlying35 rfl got7_size) rfl ?_
     exact ⟨A, n, c, B, m, d, by rw [limQ_yes hf.out, limE_yes hf.out]; rfl, by rw [limQ_yes hf.out]; exact qt_some (HX.out.below (below_two (below_new _ _) (below_new _ _))) (HY.out.below (below_two (below_new _ _) (below_new _ _))) hf.out, below_two (below_new _ _) (below_new _ _)⟩
end
set_option maxHeartbeats 4000000 in
set_option maxRecDepth 100000 in
theorem refQWhole_c (v : Int) (h0 : -9223372036854775808 ≤ v) (h1 : v ≤ 9223372036854775807) (w : World) :
 Calls Tryz.prog 70 #[.int .i64 v] w fun e w' => ∃ A2 n2 c2 B2 m2 d2, e = .returned (.agg #[.bool (sg (oTop (some (v : Rat)))), .slice A2 n2 c2, .slice B2 m2 d2]) ∧ QT w' A2 n2 c2 B2 m2 d2 (some (v : Rat)) ∧ Below w.heap.size w w' := by
 have HW := Lib.hid (below_new w (.cells #[Value.bool false, Value.slice none 0 0, Value.slice none 0 0] 27))
 have HZ := Lib.hid (row3_new w 27 (.bool false) (.slice none 0 0) (.slice none 0 0))
 go_enter Tryz.func70, Tryz.ntmps70
 go_wp2_with fail
 refine (refIOf_c v h0 h1 _).mono ?_
 rintro e w2 ⟨A2, n2, c2, rfl, h2, bn⟩
 have bl := below_new w2 (.cells #[Value.int IntKind.u32 1] 74)
 have HL : RowKit.Hid (NN (w2.alloc (.cells #[Value.int IntKind.u32 1] 74)) (some ⟨w2.heap.size, 0, none⟩) 1 1 (limbs 1) 1 1) := by
  show NN _ _ _ _ _ _ _
  have h := lit_c w2 [1] (by intro x hx; simp at hx; omega) 1 rfl
  have e1 : limbs 1 = [1] := by simp [limbs, limbsTo]
  rw [e1]; exact h
 have hZ3 := (HZ.out.below bn).below bl
 have hNo := hZ3.noLimb (by intro v e; cases e) (by intro v e; cases e) (by intro v e; cases e)
 have H2 := Lib.hid (h2.below bl)
 have e0 := hZ3.c0
 have e1 := hZ3.c1
 have e2 := hZ3.c2
 have f0 := hZ3.free 0
 have f1 := hZ3.free 1
 have f2 := hZ3.free 2
 have HF := Lib.hid (hZ3.fill (.bool (sg v)) (.slice A2 n2 c2) (.slice (some ⟨w2.heap.size, 0, none⟩) 1 1))
 have HP1 := Lib.hid (H2.out.fillR3 hNo (.bool (sg v)) (.slice A2 n2 c2) (.slice (some ⟨w2.heap.size, 0, none⟩) 1 1))
 have HP2 := Lib.hid (HL.out.fillR3 hNo (.bool (sg v)) (.slice A2 n2 c2) (.slice (some ⟨w2.heap.size, 0, none⟩) 1 1))
 have HB := Lib.hid (below_fill3' (below_two (below_two HW.out bn) bl) (Nat.le_refl _) (.bool (sg v)) (.slice A2 n2 c2) (.slice (some ⟨w2.heap.size, 0, none⟩) 1 1))
 clear h2 bn bl hZ3 hNo H2 HL
 go_wp2
 refine bodyPost_ret (results_cell_row rfl _ _ w.heap.size 27 #[.bool (sg v), .slice A2 n2 c2, .slice (some ⟨w2.heap.size, 0, none⟩) 1 1] (0, 0) _ rfl HF.out Tryz.underlying27 rfl rat_size) rfl ?_
 exact ⟨A2, n2, c2, _, 1, 1, rfl, qt_some (q := (v : Rat)) HP1.out HP2.out (whole_fits h0 h1), HB.out⟩
end Go.Proofs.YtjikaojffgjndaaGreatDoor

/- What the reference of layer 7 answers (Good), as a contract over memory. Conditions: sizes of at most so many limbs. -/
namespace Go.Proofs.YtjikaojffgjndaaGreatDoor
open Go.RowKit Limb
set_option linter.unusedVariables false
section
variable {w : World} {s s' : Bool} {A B A' B' : Option Addr} {n c m d n' c' m' d' : Nat} {xs ys xs' ys' : List Nat} {x y : Int} {a b L L' : Nat}
set_option maxHeartbeats 40000000 in
set_option maxRecDepth 100000 in
theorem refGood_c {o : Option Rat} (hx : QQ w s A n c xs B m d ys o L) (h1 : L ≤ 9223372036854775807) (v : Bool) (hv : o.isSome = v) :
 Calls Tryz.prog 27 #[.agg #[.bool s, .slice A n c, .slice B m d]] w fun e w' => e = .returned (.bool v) ∧ Below w.heap.size w w' := by
 have hg := hx.good
 rw [hv] at hg
 have hlx := hx.bot.isN.len
 have hlt := hx.top.nn.isN.len
 have hsx := hx.top.nn.isN.small
 have hsy := hx.bot.isN.small
 have b0 := below_new w (.cells #[Value.bool s, Value.slice A n c, Value.slice B m d] 27)
 have HW := Lib.hid b0
 have HX : RowKit.Hid (NN (w.alloc (.cells #[Value.bool s, Value.slice A n c, Value.slice B m d] 27)) A n c xs (Limb.val xs) L) := by
  have h := hx.top.nn.below b0
  rw [zOf_abs] at h
  exact h
 have HY := Lib.hid (hx.bot.below b0)
 have r0 := row3_new w 27 (.bool s) (.slice A n c) (.slice B m d)
 have c0 := r0.c0
 have c1 := r0.c1
 have c2 := r0.c2
 clear b0 r0 hx hv
 by_cases k1 : xs = limbs (Limb.val xs)
 · by_cases k2 : ys = limbs (Limb.val ys)
   · by_cases k3 : m = 0
     · have hgf : goodV s xs ys = false := by
        rw [Bool.eq_false_iff]
        intro h
        obtain ⟨g1, g2, g3, g4, g5, g6, g7⟩ := goodV_iff.1 h
        exact g3 (by rw [List.eq_nil_of_length_eq_zero (hlx.trans k3)]; rfl)
       obtain rfl : v = false := hg.symm.trans hgf
       clear hg hgf hlx hlt hsx hsy
       have m0 : ((m : Int) == 0) = true := by rw [beq_iff_eq]; omega
       have K1 : RowKit.Hid (decide (xs = limbs (Limb.val xs)) = true) := by show _ = _; simpa using k1
       have K2 : RowKit.Hid (decide (ys = limbs (Limb.val ys)) = true) := by show _ = _; simpa using k2
       clear k1 k2 k3
       go_enter Tryz.func27, Tryz.ntmps27
       go_wp2_with fail
       refine (refTrimmed_c HX.out (by omega) true K1.out).mono ?_
       rintro e w2 ⟨rfl, rfl⟩
       go_wp2_with fail
       refine (refTrimmed_c HY.out (by omega) true K2.out).mono ?_
       rintro e w2 ⟨rfl, rfl⟩
       go_wp2
       go_ret
       exact ⟨rfl, HW.out⟩
     · by_cases k4 : s = true ∧ n = 0
       · obtain ⟨k4s, k4n⟩ := k4
         have hgf : goodV s xs ys = false := by
          rw [Bool.eq_false_iff]
          intro h
          obtain ⟨g1, g2, g3, g4, g5, g6, g7⟩ := goodV_iff.1 h
          exact g4 ⟨k4s, by rw [List.eq_nil_of_length_eq_zero (hlt.trans k4n)]; rfl⟩
         obtain rfl : v = false := hg.symm.trans hgf
         clear hg hgf hlx hlt hsx hsy
         have m0 : ((m : Int) == 0) = false := by rw [beq_eq_false_iff_ne]; omega
         have n0 : ((n : Int) == 0) = true := by rw [beq_iff_eq]; omega
         subst k4s
         have K1 : RowKit.Hid (decide (xs = limbs (Limb.val xs)) = true) := by show _ = _; simpa using k1
         have K2 : RowKit.Hid (decide (ys = limbs (Limb.val ys)) = true) := by show _ = _; simpa using k2
         clear k1 k2 k3 k4n
         go_enter Tryz.func27, Tryz.ntmps27
         go_wp2_with fail
         refine (refTrimmed_c HX.out (by omega) true K1.out).mono ?_
         rintro e w2 ⟨rfl, rfl⟩
         go_wp2_with fail
         refine (refTrimmed_c HY.out (by omega) true K2.out).mono ?_
         rintro e w2 ⟨rfl, rfl⟩
         go_wp2
         go_ret
         exact ⟨rfl, HW.out⟩
       · by_cases k5 : 64 < n
         · have hgf : goodV s xs ys = false := by
            rw [Bool.eq_false_iff]
            intro h
            obtain ⟨g1, g2, g3, g4, g5, g6, g7⟩ := goodV_iff.1 h
            omega
           obtain rfl : v = false := hg.symm.trans hgf
           clear hg hgf hlx hlt hsx hsy
           have m0 : ((m : Int) == 0) = false := by rw [beq_eq_false_iff_ne]; omega
           by_cases ks : s = true
           · have n0 : ((n : Int) == 0) = false := by
              rw [beq_eq_false_iff_ne]
              have hn0 : n ≠ 0 := fun h => k4 ⟨ks, h⟩
              omega
             subst ks
             have n5 : decide ((64 : Int) < (n : Int)) = true := by rw [decide_eq_true_eq]; omega
             have K1 : RowKit.Hid (decide (xs = limbs (Limb.val xs)) = true) := by show _ = _; simpa using k1
             have K2 : RowKit.Hid (decide (ys = limbs (Limb.val ys)) = true) := by show _ = _; simpa using k2
             clear k1 k2 k3 k4 k5
             go_enter Tryz.func27, Tryz.ntmps27
             go_wp2_with fail
             refine (refTrimmed_c HX.out (by omega) true K1.out).mono ?_
             rintro e w2 ⟨rfl, rfl⟩
             go_wp2_with fail
             refine (refTrimmed_c HY.out (by omega) true K2.out).mono ?_
             rintro e w2 ⟨rfl, rfl⟩
             go_wp2
             go_ret
             exact ⟨rfl, HW.out⟩
           · have ks2 : s = false := by simpa using ks
             subst ks2
             have n5 : decide ((64 : Int) < (n : Int)) = true := by rw [decide_eq_true_eq]; omega
             have K1 : RowKit.Hid (decide (xs = limbs (Limb.val xs)) = true) := by show _ = _; simpa using k1
             have K2 : RowKit.Hid (decide (ys = limbs (Limb.val ys)) = true) := by show _ = _; simpa using k2
             clear k1 k2 k3 k4 k5
             go_enter Tryz.func27, Tryz.ntmps27
             go_wp2_with fail
             refine (refTrimmed_c HX.out (by omega) true K1.out).mono ?_
             rintro e w2 ⟨rfl, rfl⟩
             go_wp2_with fail
             refine (refTrimmed_c HY.out (by omega) true K2.out).mono ?_
             rintro e w2 ⟨rfl, rfl⟩
             go_wp2
             go_ret
             exact ⟨rfl, HW.out⟩
         · by_cases k6 : 64 < m
           · have hgf : goodV s xs ys = false := by
              rw [Bool.eq_false_iff]
              intro h
              obtain ⟨g1, g2, g3, g4, g5, g6, g7⟩ := goodV_iff.1 h
              omega
             obtain rfl : v = false := hg.symm.trans hgf
             clear hg hgf hlx hlt hsx hsy
             have m0 : ((m : Int) == 0) = false := by rw [beq_eq_false_iff_ne]; omega
             by_cases ks : s = true
             · have n0 : ((n : Int) == 0) = false := by
                rw [beq_eq_false_iff_ne]
                have hn0 : n ≠ 0 := fun h => k4 ⟨ks, h⟩
                omega
               subst ks
               have n5 : decide ((64 : Int) < (n : Int)) = false := by rw [decide_eq_false_iff_not]; omega
               have n6 : decide ((64 : Int) < (m : Int)) = true := by rw [decide_eq_true_eq]; omega
               have K1 : RowKit.Hid (decide (xs = limbs (Limb.val xs)) = true) := by show _ = _; simpa using k1
               have K2 : RowKit.Hid (decide (ys = limbs (Limb.val ys)) = true) := by show _ = _; simpa using k2
               clear k1 k2 k3 k4 k5 k6
               go_enter Tryz.func27, Tryz.ntmps27
               go_wp2_with fail
               refine (refTrimmed_c HX.out (by omega) true K1.out).mono ?_
               rintro e w2 ⟨rfl, rfl⟩
               go_wp2_with fail
               refine (refTrimmed_c HY.out (by omega) true K2.out).mono ?_
               rintro e w2 ⟨rfl, rfl⟩
               go_wp2
               go_ret
               exact ⟨rfl, HW.out⟩
             · have ks2 : s = false := by simpa using ks
               subst ks2
               have n5 : decide ((64 : Int) < (n : Int)) = false := by rw [decide_eq_false_iff_not]; omega
               have n6 : decide ((64 : Int) < (m : Int)) = true := by rw [decide_eq_true_eq]; omega
               have K1 : RowKit.Hid (decide (xs = limbs (Limb.val xs)) = true) := by show _ = _; simpa using k1
               have K2 : RowKit.Hid (decide (ys = limbs (Limb.val ys)) = true) := by show _ = _; simpa using k2
               clear k1 k2 k3 k4 k5 k6
               go_enter Tryz.func27, Tryz.ntmps27
               go_wp2_with fail
               refine (refTrimmed_c HX.out (by omega) true K1.out).mono ?_
               rintro e w2 ⟨rfl, rfl⟩
               go_wp2_with fail
               refine (refTrimmed_c HY.out (by omega) true K2.out).mono ?_
               rintro e w2 ⟨rfl, rfl⟩
               go_wp2
               go_ret
               exact ⟨rfl, HW.out⟩
           · by_cases hgcd : Nat.gcd (Limb.val xs) (Limb.val ys) = 1
             · have hgt : goodV s xs ys = true := by
                rw [goodV_iff]
                refine ⟨k1, k2, ?_, ?_, by omega, by omega, hgcd⟩
                · intro h; rw [h, limbs_zero] at k2; rw [k2] at hlx; simp at hlx; omega
                · rintro ⟨h1, h2⟩
                  rw [h2, limbs_zero] at k1; rw [k1] at hlt; simp at hlt
                  exact k4 ⟨h1, by omega⟩
               obtain rfl : v = true := hg.symm.trans hgt
               clear hg hgt
               have m0 : ((m : Int) == 0) = false := by rw [beq_eq_false_iff_ne]; omega
               by_cases ks : s = true
               · have n0 : ((n : Int) == 0) = false := by
                  rw [beq_eq_false_iff_ne]
                  have hn0 : n ≠ 0 := fun h => k4 ⟨ks, h⟩
                  omega
                 subst ks
                 have n5 : decide ((64 : Int) < (n : Int)) = false := by rw [decide_eq_false_iff_not]; omega
                 have n6 : decide ((64 : Int) < (m : Int)) = false := by rw [decide_eq_false_iff_not]; omega
                 have HGC := Lib.hid hgcd
                 have HN : RowKit.Hid (n ≤ 64 ∧ m ≤ 64) := ⟨by omega, by omega⟩
                 have K1 : RowKit.Hid (decide (xs = limbs (Limb.val xs)) = true) := by show _ = _; simpa using k1
                 have K2 : RowKit.Hid (decide (ys = limbs (Limb.val ys)) = true) := by show _ = _; simpa using k2
                 clear k1 k2 k3 k4 k5 k6 hgcd
                 go_enter Tryz.func27, Tryz.ntmps27
                 go_wp2_with fail
                 refine (refTrimmed_c HX.out (by omega) true K1.out).mono ?_
                 rintro e w2 ⟨rfl, rfl⟩
                 go_wp2_with fail
                 refine (refTrimmed_c HY.out (by omega) true K2.out).mono ?_
                 rintro e w2 ⟨rfl, rfl⟩
                 go_wp2_with fail
                 refine (refGcd_c (HX.out.short HN.out.1) (HY.out.short HN.out.2) (by decide) (by decide)).mono ?_
                 rintro e w3 ⟨A3, n3, c3, rfl, h3, bn⟩
                 replace HW := Lib.hid (below_two HW.out bn)
                 clear bn c0 c1 c2
                 have hgcd := HGC.out
                 have e1 : gcdN (Limb.val xs) (Limb.val ys) = 1 := hgcd
                 rw [e1] at h3
                 have el : limbs 1 = [1] := by simp [limbs, limbsTo]
                 rw [el] at h3
                 have hn3 := h3.isN.len
                 obtain ⟨g, o, eA, _, hc⟩ := h3.isN.2.2 (by rw [← hn3]; decide)
                 have hc0 := hc 0 (by rw [← hn3]; decide)
                 have n1 : n3 = 1 := by rw [← hn3]; rfl
                 subst n1
                 subst eA
                 have hcc : w3.cell? ⟨g, o, none⟩ = some (.int .u32 1) := hc0
                 clear h3 hn3 hc hc0 e1 el hgcd
                 go_wp2
                 go_ret
                 exact ⟨rfl, HW.out⟩
               · have ks2 : s = false := by simpa using ks
                 subst ks2
                 have n5 : decide ((64 : Int) < (n : Int)) = false := by rw [decide_eq_false_iff_not]; omega
                 have n6 : decide ((64 : Int) < (m : Int)) = false := by rw [decide_eq_false_iff_not]; omega
                 have HGC := Lib.hid hgcd
                 have HN : RowKit.Hid (n ≤ 64 ∧ m ≤ 64) := ⟨by omega, by omega⟩
                 have K1 : RowKit.Hid (decide (xs = limbs (Limb.val xs)) = true) := by show _ = _; simpa using k1
                 have K2 : RowKit.Hid (decide (ys = limbs (Limb.val ys)) = true) := by show _ = _; simpa using k2
                 clear k1 k2 k3 k4 k5 k6 hgcd
                 go_enter Tryz.func27, Tryz.ntmps27
                 go_wp2_with fail
                 refine (refTrimmed_c HX.out (by omega) true K1.out).mono ?_
                 rintro e w2 ⟨rfl, rfl⟩
                 go_wp2_with fail
                 refine (refTrimmed_c HY.out (by omega) true K2.out).mono ?_
                 rintro e w2 ⟨rfl, rfl⟩
                 go_wp2_with fail
                 refine (refGcd_c (HX.out.short HN.out.1) (HY.out.short HN.out.2) (by decide) (by decide)).mono ?_
                 rintro e w3 ⟨A3, n3, c3, rfl, h3, bn⟩
                 replace HW := Lib.hid (below_two HW.out bn)
                 clear bn c0 c1 c2
                 have hgcd := HGC.out
                 have e1 : gcdN (Limb.val xs) (Limb.val ys) = 1 := hgcd
                 rw [e1] at h3
                 have el : limbs 1 = [1] := by simp [limbs, limbsTo]
                 rw [el] at h3
                 have hn3 := h3.isN.len
                 obtain ⟨g, o, eA, _, hc⟩ := h3.isN.2.2 (by rw [← hn3]; decide)
                 have hc0 := hc 0 (by rw [← hn3]; decide)
                 have n1 : n3 = 1 := by rw [← hn3]; rfl
                 subst n1
                 subst eA
                 have hcc : w3.cell? ⟨g, o, none⟩ = some (.int .u32 1) := hc0
                 clear h3 hn3 hc hc0 e1 el hgcd
                 go_wp2
                 go_ret
                 exact ⟨rfl, HW.out⟩
             · have hgf : goodV s xs ys = false := by
                rw [Bool.eq_false_iff]
                intro h
                obtain ⟨g1, g2, g3, g4, g5, g6, g7⟩ := goodV_iff.1 h
                exact hgcd g7
               obtain rfl : v = false := hg.symm.trans hgf
               clear hg hgf hlx hlt hsx hsy
               have m0 : ((m : Int) == 0) = false := by rw [beq_eq_false_iff_ne]; omega
               by_cases ks : s = true
               · have n0 : ((n : Int) == 0) = false := by
                  rw [beq_eq_false_iff_ne]
                  have hn0 : n ≠ 0 := fun h => k4 ⟨ks, h⟩
                  omega
                 subst ks
                 have n5 : decide ((64 : Int) < (n : Int)) = false := by rw [decide_eq_false_iff_not]; omega
                 have n6 : decide ((64 : Int) < (m : Int)) = false := by rw [decide_eq_false_iff_not]; omega
                 have HGC := Lib.hid hgcd
                 have HN : RowKit.Hid (n ≤ 64 ∧ m ≤ 64) := ⟨by omega, by omega⟩
                 have K1 : RowKit.Hid (decide (xs = limbs (Limb.val xs)) = true) := by show _ = _; simpa using k1
                 have K2 : RowKit.Hid (decide (ys = limbs (Limb.val ys)) = true) := by show _ = _; simpa using k2
                 clear k1 k2 k3 k4 k5 k6 hgcd
                 go_enter Tryz.func27, Tryz.ntmps27
                 go_wp2_with fail
                 refine (refTrimmed_c HX.out (by omega) true K1.out).mono ?_
                 rintro e w2 ⟨rfl, rfl⟩
                 go_wp2_with fail
                 refine (refTrimmed_c HY.out (by omega) true K2.out).mono ?_
                 rintro e w2 ⟨rfl, rfl⟩
                 go_wp2_with fail
                 refine (refGcd_c (HX.out.short HN.out.1) (HY.out.short HN.out.2) (by decide) (by decide)).mono ?_
                 rintro e w3 ⟨A3, n3, c3, rfl, h3, bn⟩
                 replace HW := Lib.hid (below_two HW.out bn)
                 clear bn c0 c1 c2
                 have hgcd := HGC.out
                 have hn3 := h3.isN.len
                 have hG : gcdN (Limb.val xs) (Limb.val ys) ≠ 1 := hgcd
                 by_cases h31 : n3 = 1
                 · subst h31
                   obtain ⟨g, o, eA, _, hc⟩ := h3.isN.2.2 (by decide)
                   have hc0 := hc 0 (by decide)
                   obtain ⟨u, hu⟩ : ∃ u, lim (limbs (gcdN (Limb.val xs) (Limb.val ys))) 0 = u := ⟨_, rfl⟩
                   have hu1 : u ≠ 1 := by
                    intro e
                    apply hG
                    have hv := h3.val
                    obtain ⟨y, hy⟩ : ∃ y, limbs (gcdN (Limb.val xs) (Limb.val ys)) = [y] := List.length_eq_one_iff.1 hn3
                    rw [hy] at hu hv
                    have hu2 : y = u := hu
                    rw [← hv, hu2, e]; rfl
                   rw [hu] at hc0
                   subst eA
                   have hcc : w3.cell? ⟨g, o, none⟩ = some (.int .u32 (u : Int)) := hc0
                   have hu0 : ((u : Int) == 1) = false := by rw [beq_eq_false_iff_ne]; omega
                   clear h3 hn3 hc hc0 hG hgcd hu hu1
                   go_wp2
                   go_ret
                   exact ⟨rfl, HW.out⟩
                 · have n31 : ((n3 : Int) == 1) = false := by rw [beq_eq_false_iff_ne]; omega
                   clear h3 hn3 hG hgcd h31
                   go_wp2
                   go_ret
                   exact ⟨rfl, HW.out⟩
               · have ks2 : s = false := by simpa using ks
                 subst ks2
                 have n5 : decide ((64 : Int) < (n : Int)) = false := by rw [decide_eq_false_iff_not]; omega
                 have n6 : decide ((64 : Int) < (m : Int)) = false := by rw [decide_eq_false_iff_not]; omega
                 have HGC := Lib.hid hgcd
                 have HN : RowKit.Hid (n ≤ 64 ∧ m ≤ 64) := ⟨by omega, by omega⟩
                 have K1 : RowKit.Hid (decide (xs = limbs (Limb.val xs)) = true) := by show _ = _; simpa using k1
                 have K2 : RowKit.Hid (decide (ys = limbs (Limb.val ys)) = true) := by show _ = _; simpa using k2
                 clear k1 k2 k3 k4 k5 k6 hgcd
                 go_enter Tryz.func27, Tryz.ntmps27
                 go_wp2_with fail
                 refine (refTrimmed_c HX.out (by omega) true K1.out).mono ?_
                 rintro e w2 ⟨rfl, rfl⟩
                 go_wp2_with fail
                 refine (refTrimmed_c HY.out (by omega) true K2.out).mono ?_
                 rintro e w2 ⟨rfl, rfl⟩
                 go_wp2_with fail
                 refine (refGcd_c (HX.out.short HN.out.1) (HY.out.short HN.out.2) (by decide) (by decide)).mono ?_
                 rintro e w3 ⟨A3, n3, c3, rfl, h3, bn⟩
                 replace HW := Lib.hid (below_two HW.out bn)
                 clear bn c0 c1 c2
                 have hgcd := HGC.out
                 have hn3 := h3.isN.len
                 have hG : gcdN (Limb.val xs) (Limb.val ys) ≠ 1 := hgcd
                 by_cases h31 : n3 = 1
                 · subst h31
                   obtain ⟨g, o, eA, _, hc⟩ := h3.isN.2.2 (by decide)
                   have hc0 := hc 0 (by decide)
                   obtain ⟨u, hu⟩ : ∃ u, lim (limbs (gcdN (Limb.val xs) (Limb.val ys))) 0 = u := ⟨_, rfl⟩
                   have hu1 : u ≠ 1 := by
                    intro e
                    apply hG
                    have hv := h3.val
                    obtain ⟨y, hy⟩ : ∃ y, limbs (gcdN (Limb.val xs) (Limb.val ys)) = [y] := List.length_eq_one_iff.1 hn3
                    rw [hy] at hu hv
                    have hu2 : y = u := hu
                    rw [← hv, hu2, e]; rfl
                   rw [hu] at hc0
                   subst eA
                   have hcc : w3.cell? ⟨g, o, none⟩ = some (.int .u32 (u : Int)) := hc0
                   have hu0 : ((u : Int) == 1) = false := by rw [beq_eq_false_iff_ne]; omega
                   clear h3 hn3 hc hc0 hG hgcd hu hu1
                   go_wp2
                   go_ret
                   exact ⟨rfl, HW.out⟩
                 · have n31 : ((n3 : Int) == 1) = false := by rw [beq_eq_false_iff_ne]; omega
                   clear h3 hn3 hG hgcd h31
                   go_wp2
                   go_ret
                   exact ⟨rfl, HW.out⟩
   · have hgf : goodV s xs ys = false := by
      rw [Bool.eq_false_iff]
      intro h
      obtain ⟨g1, g2, g3, g4, g5, g6, g7⟩ := goodV_iff.1 h
      exact k2 g2
     obtain rfl : v = false := hg.symm.trans hgf
     clear hg hgf hlx hlt hsx hsy
     have K1 : RowKit.Hid (decide (xs = limbs (Limb.val xs)) = true) := by show _ = _; simpa using k1
     have K2 : RowKit.Hid (decide (ys = limbs (Limb.val ys)) = false) := by show _ = _; simpa using k2
     clear k1 k2
     go_enter Tryz.func27, Tryz.ntmps27
     go_wp2_with fail
     refine (refTrimmed_c HX.out (by omega) true K1.out).mono ?_
     rintro e w2 ⟨rfl, rfl⟩
     go_wp2_with fail
     refine (refTrimmed_c HY.out (by omega) false K2.out).mono ?_
     rintro e w2 ⟨rfl, rfl⟩
     go_wp2
     go_ret
     exact ⟨rfl, HW.out⟩
 · have hgf : goodV s xs ys = false := by
    rw [Bool.eq_false_iff]
    intro h
    obtain ⟨g1, g2, g3, g4, g5, g6, g7⟩ := goodV_iff.1 h
    exact k1 g1
   obtain rfl : v = false := hg.symm.trans hgf
   clear hg hgf hlx hlt hsx hsy
   have K1 : RowKit.Hid (decide (xs = limbs (Limb.val xs)) = false) := by show _ = _; simpa using k1
   clear k1
   go_enter Tryz.func27, Tryz.ntmps27
   go_wp2_with fail
   refine (refTrimmed_c HX.out (by omega) false K1.out).mono ?_
   rintro e w2 ⟨rfl, rfl⟩
   go_wp2
   go_ret
   exact ⟨rfl, HW.out⟩
end
end Go.Proofs.YtjikaojffgjndaaGreatDoor

/- What the reference of layer 7 answers (Less, Neg), as contracts over memory. Conditions: sizes of at most so many limbs. -/
namespace Go.Proofs.YtjikaojffgjndaaGreatDoor
open Go.RowKit Limb
set_option linter.unusedVariables false
section
variable {w : World} {s s' : Bool} {A B A' B' : Option Addr} {n c m d n' c' m' d' : Nat} {xs ys xs' ys' : List Nat} {x y : Int} {a b L L' : Nat}
set_option maxHeartbeats 4000000 in
set_option maxRecDepth 100000 in
theorem refLess_c (hx : ZZ w s A n c xs x L) (hy : NN w B m d ys a L) (hx' : ZZ w s' A' n' c' xs' y L') (hy' : NN w B' m' d' ys' b L') (h1 : L ≤ 1000) (h2 : L' ≤ 1000) (v : Int) (hv : cmpZ (x * (b : Int)) (y * (a : Int)) = v) :
 Calls Tryz.prog 69 #[.agg #[.bool s, .slice A n c, .slice B m d], .agg #[.bool s', .slice A' n' c', .slice B' m' d']] w fun e w' => e = .returned (.int .i64 v) ∧ Below w.heap.size w w' := by
 have b0 := below_new w (.cells #[Value.bool s, Value.slice A n c, Value.slice B m d] 27)
 have b1 := below_new (w.alloc (.cells #[Value.bool s, Value.slice A n c, Value.slice B m d] 27)) (.cells #[Value.bool s', Value.slice A' n' c', Value.slice B' m' d'] 27)
 have HW := Lib.hid (below_two b0 b1)
 have HX := Lib.hid (hx.below HW.out)
 have HY := Lib.hid (hy.below HW.out)
 have HX1 := Lib.hid (hx'.below HW.out)
 have HY1 := Lib.hid (hy'.below HW.out)
 have r0 := ((row3_new w 27 (.bool s) (.slice A n c) (.slice B m d)).below b1)
 have r1 := (row3_new (w.alloc (.cells #[Value.bool s, Value.slice A n c, Value.slice B m d] 27)) 27 (.bool s') (.slice A' n' c') (.slice B' m' d'))
 simp only [World.size_alloc] at r1
 clear b0 b1 hx hy hx' hy'
 go_enter Tryz.func69, Tryz.ntmps69
 go_wp2
 generalize (w.alloc (.cells #[Value.bool s, Value.slice A n c, Value.slice B m d] 27)).alloc (.cells #[Value.bool s', Value.slice A' n' c', Value.slice B' m' d'] 27) = wS at *
 have HR0 := Lib.hid r0
 have HR1 := Lib.hid r1
 clear r0 r1
 refine region_free 13 1 [5, 6, 7, 8, 9, 10, 11, 12, 13, 14, 15, 16, 17] ?aF4 (fun wx => Below wS.heap.size wS wx) (fun k vv wx => match k with
  | 0 => vv = .pointer (some ⟨w.heap.size, 0, none⟩)
  | 1 => vv = .agg #[.bool s, .slice A n c]
  | 2 => vv = .pointer (some ⟨w.heap.size + 1, 2, none⟩)
  | 3 => vv = .slice B' m' d'
  | 4 => ∃ (e0 : Option Addr) (e1 : Nat) (e2 : Nat), vv = .agg #[.bool (sg (b : Int)), .slice e0 e1 e2] ∧ ZZ wx (sg (b : Int)) e0 e1 e2 (limbs (b : Int).natAbs) (b : Int) L'
  | 5 => ∃ (e0 : Option Addr) (e1 : Nat) (e2 : Nat), vv = .agg #[.bool (sg (x * (b : Int))), .slice e0 e1 e2] ∧ ZZ wx (sg (x * (b : Int))) e0 e1 e2 (limbs (x * (b : Int)).natAbs) (x * (b : Int)) (L + L')
  | 6 => vv = .pointer (some ⟨w.heap.size + 1, 0, none⟩)
  | 7 => vv = .agg #[.bool s', .slice A' n' c']
  | 8 => vv = .pointer (some ⟨w.heap.size, 2, none⟩)
  | 9 => vv = .slice B m d
  | 10 => ∃ (e0 : Option Addr) (e1 : Nat) (e2 : Nat), vv = .agg #[.bool (sg (a : Int)), .slice e0 e1 e2] ∧ ZZ wx (sg (a : Int)) e0 e1 e2 (limbs (a : Int).natAbs) (a : Int) L
  | 11 => ∃ (e0 : Option Addr) (e1 : Nat) (e2 : Nat), vv = .agg #[.bool (sg (y * (a : Int))), .slice e0 e1 e2] ∧ ZZ wx (sg (y * (a : Int))) e0 e1 e2 (limbs (y * (a : Int)).natAbs) (y * (a : Int)) (L' + L)
  | _ => vv = .int .i64 v)
  (fun k => false) (by kernel_rfl) ?haF4 rfl (by kernel_rfl) (by kernel_rfl) (fun _ _ _ _ _ h => h) ?hSb4 ?hPb4 ?hS4 ?hop4 ?hfin4
 case haF4 =>
  intro vals
  simp only [fillAll, List.getElem?_cons_zero, List.getElem?_cons_succ, Act.put, List.setIfInBounds_toArray, List.set_cons_zero, List.set_cons_succ]
  exact rfl
 case hSb4 => exact fun wx w2 hb hS => below_two hS hb
 case hPb4 =>
  intro k v wa wb hb h
  match k, h with
  | 0, h => exact h
  | 1, h => exact h
  | 2, h => exact h
  | 3, h => exact h
  | 4, ⟨e0, e1, e2, h1, g0⟩ => exact ⟨e0, e1, e2, h1, g0.below hb⟩
  | 5, ⟨e0, e1, e2, h1, g0⟩ => exact ⟨e0, e1, e2, h1, g0.below hb⟩
  | 6, h => exact h
  | 7, h => exact h
  | 8, h => exact h
  | 9, h => exact h
  | 10, ⟨e0, e1, e2, h1, g0⟩ => exact ⟨e0, e1, e2, h1, g0.below hb⟩
  | 11, ⟨e0, e1, e2, h1, g0⟩ => exact ⟨e0, e1, e2, h1, g0.below hb⟩
  | _ + 12, h => exact h
 case hS4 => exact (Below.refl _ _).drew
 case hop4 =>
  refine .cons (k := 0) ?_ (.cons (k := 1) ?_ (.cons (k := 2) ?_ (.cons (k := 3) ?_ (.cons (k := 4) ?_ (.cons (k := 5) ?_ (.cons (k := 6) ?_ (.cons (k := 7) ?_ (.cons (k := 8) ?_ (.cons (k := 9) ?_ (.cons (k := 10) ?_ (.cons (k := 11) ?_ (.cons (k := 12) ?_ (.nil)))))))))))))
  all_goals intro vals wr hS hd KC hK
  all_goals (show Oper.wp _ _ _ _ _ _; dsimp only)
  · go_simp
    refine hK _ _ rfl (Below.refl _ _) (by first | rfl | simp) (fun h => by cases h)
  · have d0 : vals 0 = _ := hd 0 (by decide +kernel)
    rw [d0]
    have z0 := (HR0.out.below hS).c0
    have z1 := (HR0.out.below hS).c1
    go_simp
    refine hK _ _ rfl (Below.refl _ _) (by first | rfl | simp) (fun h => by cases h)
  · go_simp
    refine hK _ _ rfl (Below.refl _ _) (by first | rfl | simp) (fun h => by cases h)
  · have d2 : vals 2 = _ := hd 2 (by decide +kernel)
    rw [d2]
    have z0 := (HR1.out.below hS).c2
    go_simp
    refine hK _ _ rfl (Below.refl _ _) (by first | rfl | simp) (fun h => by cases h)
  · have d3 : vals 3 = _ := hd 3 (by decide +kernel)
    rw [d3]
    go_simp
    go_at_call 120
    with_reducible refine (refPos_c (HY1.out.below hS) (by omega)).mono ?_
    rintro e w2 ⟨r0, r1, r2, rfl, f0, bn_r⟩
    refine hK _ _ rfl bn_r ⟨_, _, _, rfl, f0⟩ (fun h => by cases h)
  · have d1 : vals 1 = _ := hd 1 (by decide +kernel)
    obtain ⟨A_4_0, n_4_1, n_4_2, d4, h_4_0⟩ := hd 4 (by decide +kernel)
    rw [d1, d4]
    go_simp
    go_at_call 119
    with_reducible refine (refIMul_c (HX.out.below hS) h_4_0 (by omega) (by omega) (x * (b : Int)) rfl).mono ?_
    rintro e w2 ⟨r0, r1, r2, rfl, f0, bn_r⟩
    refine hK _ _ rfl bn_r ⟨_, _, _, rfl, f0⟩ (fun h => by cases h)
  · go_simp
    refine hK _ _ rfl (Below.refl _ _) (by first | rfl | simp) (fun h => by cases h)
  · have d6 : vals 6 = _ := hd 6 (by decide +kernel)
    rw [d6]
    have z0 := (HR1.out.below hS).c0
    have z1 := (HR1.out.below hS).c1
    go_simp
    refine hK _ _ rfl (Below.refl _ _) (by first | rfl | simp) (fun h => by cases h)
  · go_simp
    refine hK _ _ rfl (Below.refl _ _) (by first | rfl | simp) (fun h => by cases h)
  · have d8 : vals 8 = _ := hd 8 (by decide +kernel)
    rw [d8]
    have z0 := (HR0.out.below hS).c2
    go_simp
    refine hK _ _ rfl (Below.refl _ _) (by first | rfl | simp) (fun h => by cases h)
  · have d9 : vals 9 = _ := hd 9 (by decide +kernel)
    rw [d9]
    go_simp
    go_at_call 120
    with_reducible refine (refPos_c (HY.out.below hS) (by omega)).mono ?_
    rintro e w2 ⟨r0, r1, r2, rfl, f0, bn_r⟩
    refine hK _ _ rfl bn_r ⟨_, _, _, rfl, f0⟩ (fun h => by cases h)
  · have d7 : vals 7 = _ := hd 7 (by decide +kernel)
    obtain ⟨A_10_0, n_10_1, n_10_2, d10, h_10_0⟩ := hd 10 (by decide +kernel)
    rw [d7, d10]
    go_simp
    go_at_call 119
    with_reducible refine (refIMul_c (HX1.out.below hS) h_10_0 (by omega) (by omega) (y * (a : Int)) rfl).mono ?_
    rintro e w2 ⟨r0, r1, r2, rfl, f0, bn_r⟩
    refine hK _ _ rfl bn_r ⟨_, _, _, rfl, f0⟩ (fun h => by cases h)
  · obtain ⟨A_5_0, n_5_1, n_5_2, d5, h_5_0⟩ := hd 5 (by decide +kernel)
    obtain ⟨A_11_0, n_11_1, n_11_2, d11, h_11_0⟩ := hd 11 (by decide +kernel)
    rw [d5, d11]
    go_simp
    go_at_call 121
    with_reducible refine (refICmp_c h_5_0 h_11_0 (by omega) (by omega) v hv).mono ?_
    rintro e w2 ⟨rfl, bn_r⟩
    refine hK _ _ rfl bn_r rfl (fun h => by cases h)
 case hfin4 =>
  intro vals wr hS hP hne
  have ez : vals 12 = _ := hP 12 (by decide)
  have HB := Lib.hid (below_two HW.out hS)
  try dsimp only
  rw [ez]
  refine wpAny_ready (rs := [13]) (by kernel_rfl) (by simp) (AllReady.cons rfl (fun KC hK => ?_) AllReady.nil)
  go_simp
  refine hK _ _ ?_
  clear hK KC
  refine wpAny_done (by kernel_rfl) ?_ _
  go_wp2
  go_ret
  exact ⟨rfl, HB.out⟩
end
end Go.Proofs.YtjikaojffgjndaaGreatDoor

/- What the reference of layer 7 answers (Add, Mul, Sub, Div), as contracts over memory. Conditions: sizes of at most so many limbs. -/
namespace Go.Proofs.YtjikaojffgjndaaGreatDoor
open Go.RowKit Limb
set_option linter.unusedVariables false
section
variable {w : World} {s s' : Bool} {A B A' B' : Option Addr} {n c m d n' c' m' d' : Nat} {xs ys xs' ys' : List Nat} {x y : Int} {o o' : Option Rat} {a b L L' : Nat}
set_option maxHeartbeats 4000000 in
set_option maxRecDepth 100000 in
theorem refQDiv_c (hx : QQ w s A n c xs B m d ys o L) (hx' : QQ w s' A' n' c' xs' B' m' d' ys' o' L') (h1 : L ≤ 1000) (h2 : L' ≤ 1000) (r : Option Rat) (e : Int) (hR : divR o o' = (r, e)) :
 Calls Tryz.prog 92 #[.agg #[.bool s, .slice A n c, .slice B m d], .agg #[.bool s', .slice A' n' c', .slice B' m' d']] w fun ee w' => ∃ A2 n2 c2 B2 m2 d2, ee = .returned (.agg #[.bool (sg (oTop r)), .slice A2 n2 c2, .slice B2 m2 d2, .int .i64 e]) ∧ QT w' A2 n2 c2 B2 m2 d2 r ∧ Below w.heap.size w w' := by
 cases o with
 | none =>
  have hR2 : ((none : Option Rat), (1 : Int)) = (r, e) := hR
  cases hR2
  clear hR
  have b0 := below_new w (.cells #[Value.bool s, Value.slice A n c, Value.slice B m d] 27)
  have b1 := below_new (w.alloc (.cells #[Value.bool s, Value.slice A n c, Value.slice B m d] 27)) (.cells #[Value.bool s', Value.slice A' n' c', Value.slice B' m' d'] 27)
  have b2 := below_new ((w.alloc (.cells #[Value.bool s, Value.slice A n c, Value.slice B m d] 27)).alloc (.cells #[Value.bool s', Value.slice A' n' c', Value.slice B' m' d'] 27)) (.cells #[Value.bool false, Value.slice none 0 0, Value.slice none 0 0, Value.int IntKind.i64 0] 35)
  have HW := Lib.hid (below_two (below_two b0 b1) b2)
  have HQ0 := Lib.hid (hx.below HW.out)
  have HQ1 := Lib.hid (hx'.below HW.out)
  have r0 := ((row3_new w 27 (.bool s) (.slice A n c) (.slice B m d)).below b1).below b2
  have r1 := (row3_new (w.alloc (.cells #[Value.bool s, Value.slice A n c, Value.slice B m d] 27)) 27 (.bool s') (.slice A' n' c') (.slice B' m' d')).below b2
  have rz := row4_new ((w.alloc (.cells #[Value.bool s, Value.slice A n c, Value.slice B m d] 27)).alloc (.cells #[Value.bool s', Value.slice A' n' c', Value.slice B' m' d'] 27)) 35 (.bool false) (.slice none 0 0) (.slice none 0 0) (.int .i64 0)
  simp only [World.size_alloc] at r1 rz
  clear b0 b1 b2 hx hx'
  go_enter Tryz.func92, Tryz.ntmps92
  go_wp2_with fail
  generalize ((w.alloc (.cells #[Value.bool s, Value.slice A n c, Value.slice B m d] 27)).alloc (.cells #[Value.bool s', Value.slice A' n' c', Value.slice B' m' d'] 27)).alloc (.cells #[Value.bool false, Value.slice none 0 0, Value.slice none 0 0, Value.int IntKind.i64 0] 35) = w1 at *
  have HR0 := Lib.hid r0
  have HR1 := Lib.hid r1
  have HZ := Lib.hid rz
  have Hq : RowKit.Hid (w.heap.size ≤ w.heap.size + 1 + 1) := by show _ ≤ _; omega
  clear r0 r1 rz
  refine (refGood_c HQ0.out (by omega) false rfl).mono ?_
  rintro e w2 ⟨rfl, bn⟩
  replace HQ0 := Lib.hid (HQ0.out.below bn)
  replace HR0 := Lib.hid (HR0.out.below bn)
  replace HQ1 := Lib.hid (HQ1.out.below bn)
  replace HR1 := Lib.hid (HR1.out.below bn)
  replace HZ := Lib.hid (HZ.out.below bn)
  replace HW := Lib.hid (below_two HW.out bn)
  clear bn
  have e0 := HZ.out.c0
  have e1 := HZ.out.c1
  have e2 := HZ.out.c2
  have e3 := HZ.out.c3
  have f0 := HZ.out.free 0
  have f1 := HZ.out.free 1
  have f2 := HZ.out.free 2
  have f3 := HZ.out.free 3
  have HF := Lib.hid (HZ.out.fill (.bool false) (.slice none 0 0) (.slice none 0 0) (.int .i64 1))
  have HB := Lib.hid (below_fill4 HW.out Hq.out (.bool false) (.slice none 0 0) (.slice none 0 0) (.int .i64 1))
  go_wp2
  refine bodyPost_ret (results_cell_row rfl _ _ _ 35 #[.bool false, .slice none 0 0, .slice none 0 0, .int .i64 1] (0, 0) _ rfl HF.out Tryz.underlying35 rfl got7_size) rfl ?_
  exact ⟨none, 0, 0, none, 0, 0, rfl, qt_none _ 0 0, HB.out⟩
 | some p =>
  cases o' with
  | none =>
   have hR2 : ((none : Option Rat), (1 : Int)) = (r, e) := hR
   cases hR2
   clear hR
   have b0 := below_new w (.cells #[Value.bool s, Value.slice A n c, Value.slice B m d] 27)
   have b1 := below_new (w.alloc (.cells #[Value.bool s, Value.slice A n c, Value.slice B m d] 27)) (.cells #[Value.bool s', Value.slice A' n' c', Value.slice B' m' d'] 27)
   have b2 := below_new ((w.alloc (.cells #[Value.bool s, Value.slice A n c, Value.slice B m d] 27)).alloc (.cells #[Value.bool s', Value.slice A' n' c', Value.slice B' m' d'] 27)) (.cells #[Value.bool false, Value.slice none 0 0, Value.slice none 0 0, Value.int IntKind.i64 0] 35)
   have HW := Lib.hid (below_two (below_two b0 b1) b2)
   have HQ0 := Lib.hid (hx.below HW.out)
   have HQ1 := Lib.hid (hx'.below HW.out)
   have r0 := ((row3_new w 27 (.bool s) (.slice A n c) (.slice B m d)).below b1).below b2
   have r1 := (row3_new (w.alloc (.cells #[Value.bool s, Value.slice A n c, Value.slice B m d] 27)) 27 (.bool s') (.slice A' n' c') (.slice B' m' d')).below b2
   have rz := row4_new ((w.alloc (.cells #[Value.bool s, Value.slice A n c, Value.slice B m d] 27)).alloc (.cells #[Value.bool s', Value.slice A' n' c', Value.slice B' m' d'] 27)) 35 (.bool false) (.slice none 0 0) (.slice none 0 0) (.int .i64 0)
   simp only [World.size_alloc] at r1 rz
   clear b0 b1 b2 hx hx'
   go_enter Tryz.func92, Tryz.ntmps92
   go_wp2_with fail
   generalize ((w.alloc (.cells #[Value.bool s, Value.slice A n c, Value.slice B m d] 27)).alloc (.cells #[Value.bool s', Value.slice A' n' c', Value.slice B' m' d'] 27)).alloc (.cells #[Value.bool false, Value.slice none 0 0, Value.slice none 0 0, Value.int IntKind.i64 0] 35) = w1 at *
   have HR0 := Lib.hid r0
   have HR1 := Lib.hid r1
   have HZ := Lib.hid rz
   have Hq : RowKit.Hid (w.heap.size ≤ w.heap.size + 1 + 1) := by show _ ≤ _; omega
   clear r0 r1 rz
   refine (refGood_c HQ0.out (by omega) true rfl).mono ?_
   rintro e w2 ⟨rfl, bn⟩
   replace HQ0 := Lib.hid (HQ0.out.below bn)
   replace HR0 := Lib.hid (HR0.out.below bn)
   replace HQ1 := Lib.hid (HQ1.out.below bn)
   replace HR1 := Lib.hid (HR1.out.below bn)
   replace HZ := Lib.hid (HZ.out.below bn)
   replace HW := Lib.hid (below_two HW.out bn)
   clear bn
   have c10 := HR1.out.c0
   have c11 := HR1.out.c1
   have c12 := HR1.out.c2
   go_wp2_with fail
   clear c10 c11 c12
   refine (refGood_c HQ1.out (by omega) false rfl).mono ?_
   rintro e w2 ⟨rfl, bn⟩
   replace HQ0 := Lib.hid (HQ0.out.below bn)
   replace HR0 := Lib.hid (HR0.out.below bn)
   replace HQ1 := Lib.hid (HQ1.out.below bn)
   replace HR1 := Lib.hid (HR1.out.below bn)
   replace HZ := Lib.hid (HZ.out.below bn)
   replace HW := Lib.hid (below_two HW.out bn)
   clear bn
   have e0 := HZ.out.c0
   have e1 := HZ.out.c1
   have e2 := HZ.out.c2
   have e3 := HZ.out.c3
   have f0 := HZ.out.free 0
   have f1 := HZ.out.free 1
   have f2 := HZ.out.free 2
   have f3 := HZ.out.free 3
   have HF := Lib.hid (HZ.out.fill (.bool false) (.slice none 0 0) (.slice none 0 0) (.int .i64 1))
   have HB := Lib.hid (below_fill4 HW.out Hq.out (.bool false) (.slice none 0 0) (.slice none 0 0) (.int .i64 1))
   go_wp2
   refine bodyPost_ret (results_cell_row rfl _ _ _ 35 #[.bool false, .slice none 0 0, .slice none 0 0, .int .i64 1] (0, 0) _ rfl HF.out Tryz.underlying35 rfl got7_size) rfl ?_
   exact ⟨none, 0, 0, none, 0, 0, rfl, qt_none _ 0 0, HB.out⟩
  | some q =>
   by_cases h0 : q.num = 0
   · obtain ⟨rfl, rfl⟩ : r = none ∧ e = 3 := by
      have h2 : (if q.num = 0 then ((none : Option Rat), (3 : Int)) else limR (p / q)) = (r, e) := hR
      rw [if_pos h0] at h2
      cases h2; exact ⟨rfl, rfl⟩
     clear hR
     have n0 : ((n' : Int) == 0) = true := by
      rw [beq_iff_eq]
      have hl := hx'.some.2.2.2.2.1.nn.isN.len
      rw [hx'.some.2.1, h0] at hl
      have hl2 : (limbs (0 : Int).natAbs).length = 0 := by rw [show (0 : Int).natAbs = 0 from rfl, limbs_zero]; rfl
      omega
     clear h0
     have b0 := below_new w (.cells #[Value.bool s, Value.slice A n c, Value.slice B m d] 27)
     have b1 := below_new (w.alloc (.cells #[Value.bool s, Value.slice A n c, Value.slice B m d] 27)) (.cells #[Value.bool s', Value.slice A' n' c', Value.slice B' m' d'] 27)
     have b2 := below_new ((w.alloc (.cells #[Value.bool s, Value.slice A n c, Value.slice B m d] 27)).alloc (.cells #[Value.bool s', Value.slice A' n' c', Value.slice B' m' d'] 27)) (.cells #[Value.bool false, Value.slice none 0 0, Value.slice none 0 0, Value.int IntKind.i64 0] 35)
     have HW := Lib.hid (below_two (below_two b0 b1) b2)
     have HQ0 := Lib.hid (hx.below HW.out)
     have HQ1 := Lib.hid (hx'.below HW.out)
     have r0 := ((row3_new w 27 (.bool s) (.slice A n c) (.slice B m d)).below b1).below b2
     have r1 := (row3_new (w.alloc (.cells #[Value.bool s, Value.slice A n c, Value.slice B m d] 27)) 27 (.bool s') (.slice A' n' c') (.slice B' m' d')).below b2
     have rz := row4_new ((w.alloc (.cells #[Value.bool s, Value.slice A n c, Value.slice B m d] 27)).alloc (.cells #[Value.bool s', Value.slice A' n' c', Value.slice B' m' d'] 27)) 35 (.bool false) (.slice none 0 0) (.slice none 0 0) (.int .i64 0)
     simp only [World.size_alloc] at r1 rz
     clear b0 b1 b2 hx hx'
     go_enter Tryz.func92, Tryz.ntmps92
     go_wp2_with fail
     generalize ((w.alloc (.cells #[Value.bool s, Value.slice A n c, Value.slice B m d] 27)).alloc (.cells #[Value.bool s', Value.slice A' n' c', Value.slice B' m' d'] 27)).alloc (.cells #[Value.bool false, Value.slice none 0 0, Value.slice none 0 0, Value.int IntKind.i64 0] 35) = w1 at *
     have HR0 := Lib.hid r0
     have HR1 := Lib.hid r1
     have HZ := Lib.hid rz
     have Hq : RowKit.Hid (w.heap.size ≤ w.heap.size + 1 + 1) := by show _ ≤ _; omega
     clear r0 r1 rz
     refine (refGood_c HQ0.out (by omega) true rfl).mono ?_
     rintro e w2 ⟨rfl, bn⟩
     replace HQ0 := Lib.hid (HQ0.out.below bn)
     replace HR0 := Lib.hid (HR0.out.below bn)
     replace HQ1 := Lib.hid (HQ1.out.below bn)
     replace HR1 := Lib.hid (HR1.out.below bn)
     replace HZ := Lib.hid (HZ.out.below bn)
     replace HW := Lib.hid (below_two HW.out bn)
     clear bn
     have c10 := HR1.out.c0
     have c11 := HR1.out.c1
     have c12 := HR1.out.c2
     go_wp2_with fail
     clear c10 c11 c12
     refine (refGood_c HQ1.out (by omega) true rfl).mono ?_
     rintro e w2 ⟨rfl, bn⟩
     replace HQ0 := Lib.hid (HQ0.out.below bn)
     replace HR0 := Lib.hid (HR0.out.below bn)
     replace HQ1 := Lib.hid (HQ1.out.below bn)
     replace HR1 := Lib.hid (HR1.out.below bn)
     replace HZ := Lib.hid (HZ.out.below bn)
     replace HW := Lib.hid (below_two HW.out bn)
     clear bn
     have c10 := HR1.out.c0
     have c11 := HR1.out.c1
     have c12 := HR1.out.c2
     have e0 := HZ.out.c0
     have e1 := HZ.out.c1
     have e2 := HZ.out.c2
     have e3 := HZ.out.c3
     have f0 := HZ.out.free 0
     have f1 := HZ.out.free 1
     have f2 := HZ.out.free 2
     have f3 := HZ.out.free 3
     have HF := Lib.hid (HZ.out.fill (.bool false) (.slice none 0 0) (.slice none 0 0) (.int .i64 3))
     have HB := Lib.hid (below_fill4 HW.out Hq.out (.bool false) (.slice none 0 0) (.slice none 0 0) (.int .i64 3))
     go_wp2
     refine bodyPost_ret (results_cell_row rfl _ _ _ 35 #[.bool false, .slice none 0 0, .slice none 0 0, .int .i64 3] (0, 0) _ rfl HF.out Tryz.underlying35 rfl got7_size) rfl ?_
     exact ⟨none, 0, 0, none, 0, 0, rfl, qt_none _ 0 0, HB.out⟩
   · have hR0 : limR (p / q) = (r, e) := by
      have h2 : (if q.num = 0 then ((none : Option Rat), (3 : Int)) else limR (p / q)) = (r, e) := hR
      rwa [if_neg h0] at h2
     clear hR
     have hR := hR0
     clear hR0
     obtain ⟨z, hz⟩ : ∃ z : Rat, p / q = z := ⟨_, rfl⟩
     have hL : limR z = (r, e) := by rw [← hz]; exact hR
     clear hR
     have hL2 : (limQ z, limE z) = (r, e) := hL
     cases hL2
     clear hL
     have HM : RowKit.Hid (mkRat (p.num * zOf (sg q.num) q.den) (p.den * q.num.natAbs) = z) := by
      show _ = _
      rw [← hz]; exact (div_mk h0).symm
     clear hz
     have n0 : ((n' : Int) == 0) = false := by
      rw [beq_eq_false_iff_ne]
      intro h
      have hl := hx'.some.2.2.2.2.1.nn.isN.len
      rw [hx'.some.2.1] at hl
      have hl2 := len_limbs_zero.1 (hl.trans (by omega))
      omega
     have HN0 : RowKit.Hid (q.num.natAbs ≠ 0) := by show _ ≠ _; omega
     have HSG := Lib.hid hx'.some.1
     clear h0
     have b0 := below_new w (.cells #[Value.bool s, Value.slice A n c, Value.slice B m d] 27)
     have b1 := below_new (w.alloc (.cells #[Value.bool s, Value.slice A n c, Value.slice B m d] 27)) (.cells #[Value.bool s', Value.slice A' n' c', Value.slice B' m' d'] 27)
     have b2 := below_new ((w.alloc (.cells #[Value.bool s, Value.slice A n c, Value.slice B m d] 27)).alloc (.cells #[Value.bool s', Value.slice A' n' c', Value.slice B' m' d'] 27)) (.cells #[Value.bool false, Value.slice none 0 0, Value.slice none 0 0, Value.int IntKind.i64 0] 35)
     have HW := Lib.hid (below_two (below_two b0 b1) b2)
     have HQ0 := Lib.hid (hx.below HW.out)
     have HQ1 := Lib.hid (hx'.below HW.out)
     have r0 := ((row3_new w 27 (.bool s) (.slice A n c) (.slice B m d)).below b1).below b2
     have r1 := (row3_new (w.alloc (.cells #[Value.bool s, Value.slice A n c, Value.slice B m d] 27)) 27 (.bool s') (.slice A' n' c') (.slice B' m' d')).below b2
     have rz := row4_new ((w.alloc (.cells #[Value.bool s, Value.slice A n c, Value.slice B m d] 27)).alloc (.cells #[Value.bool s', Value.slice A' n' c', Value.slice B' m' d'] 27)) 35 (.bool false) (.slice none 0 0) (.slice none 0 0) (.int .i64 0)
     simp only [World.size_alloc] at r1 rz
     clear b0 b1 b2 hx hx'
     go_enter Tryz.func92, Tryz.ntmps92
     go_wp2_with fail
     generalize ((w.alloc (.cells #[Value.bool s, Value.slice A n c, Value.slice B m d] 27)).alloc (.cells #[Value.bool s', Value.slice A' n' c', Value.slice B' m' d'] 27)).alloc (.cells #[Value.bool false, Value.slice none 0 0, Value.slice none 0 0, Value.int IntKind.i64 0] 35) = w1 at *
     have HR0 := Lib.hid r0
     have HR1 := Lib.hid r1
     have HZ := Lib.hid rz
     have Hq : RowKit.Hid (w.heap.size ≤ w.heap.size + 1 + 1) := by show _ ≤ _; omega
     clear r0 r1 rz
     refine (refGood_c HQ0.out (by omega) true rfl).mono ?_
     rintro e w2 ⟨rfl, bn⟩
     replace HQ0 := Lib.hid (HQ0.out.below bn)
     replace HR0 := Lib.hid (HR0.out.below bn)
     replace HQ1 := Lib.hid (HQ1.out.below bn)
     replace HR1 := Lib.hid (HR1.out.below bn)
     replace HZ := Lib.hid (HZ.out.below bn)
     replace HW := Lib.hid (below_two HW.out bn)
     clear bn
     have c10 := HR1.out.c0
     have c11 := HR1.out.c1
     have c12 := HR1.out.c2
     go_wp2_with fail
     clear c10 c11 c12
     refine (refGood_c HQ1.out (by omega) true rfl).mono ?_
     rintro e wS ⟨rfl, bn⟩
     replace HQ0 := Lib.hid (HQ0.out.below bn)
     replace HR0 := Lib.hid (HR0.out.below bn)
     replace HQ1 := Lib.hid (HQ1.out.below bn)
     replace HR1 := Lib.hid (HR1.out.below bn)
     replace HZ := Lib.hid (HZ.out.below bn)
     replace HW := Lib.hid (below_two HW.out bn)
     clear bn
     have HX := Lib.hid HQ0.out.some.2.2.2.2.1
     have HY := Lib.hid HQ0.out.some.2.2.2.2.2.1
     have HX1 := Lib.hid HQ1.out.some.2.2.2.2.1
     have HY1 := Lib.hid HQ1.out.some.2.2.2.2.2.1
     have c10 := HR1.out.c0
     have c11 := HR1.out.c1
     have c12 := HR1.out.c2
     go_wp2_with fail
     clear c10 c11 c12
     refine region_free 13 1 [20, 21, 22, 23, 24, 25, 26, 27, 28, 29, 30, 31, 32] ?aF14 (fun wx => Below wS.heap.size wS wx) (fun k vv wx => match k with
      | 0 => vv = .agg #[.bool s, .slice A n c, .slice B m d]
      | 1 => vv = .pointer (some ⟨w.heap.size + 1, 0, none⟩)
      | 2 => vv = .pointer (some ⟨w.heap.size + 1, 0, none⟩)
      | 3 => vv = .bool s'
      | 4 => vv = .pointer (some ⟨w.heap.size + 1, 2, none⟩)
      | 5 => vv = .slice B' m' d'
      | 6 => ∃ (e0 : Option Addr) (e1 : Nat) (e2 : Nat), vv = .agg #[.bool (sg (zOf (sg q.num) q.den)), .slice e0 e1 e2] ∧ ZZ wx (sg (zOf (sg q.num) q.den)) e0 e1 e2 (limbs (zOf (sg q.num) q.den).natAbs) (zOf (sg q.num) q.den) 64
      | 7 => vv = .pointer (some ⟨w.heap.size + 1, 0, none⟩)
      | 8 => vv = .pointer (some ⟨w.heap.size + 1, 1, none⟩)
      | 9 => vv = .slice A' n' c'
      | 10 => ∃ (e0 : Option Addr) (e1 : Nat) (e2 : Nat), vv = .agg #[.bool (sg (zOf (sg q.num) q.den)), .slice e0 e1 e2, .slice A' n' c'] ∧ ZZ wx (sg (zOf (sg q.num) q.den)) e0 e1 e2 (limbs (zOf (sg q.num) q.den).natAbs) (zOf (sg q.num) q.den) 64
      | 11 => ∃ (e0 : Option Addr) (e1 : Nat) (e2 : Nat) (e3 : Option Addr) (e4 : Nat) (e5 : Nat), vv = .agg #[.bool (sg z.num), .slice e0 e1 e2, .slice e3 e4 e5] ∧ ZZ wx (sg z.num) e0 e1 e2 (limbs z.num.natAbs) z.num (64 + 64) ∧ NN wx e3 e4 e5 (limbs z.den) z.den (64 + 64)
      | _ => ∃ (e0 : Option Addr) (e1 : Nat) (e2 : Nat) (e3 : Option Addr) (e4 : Nat) (e5 : Nat), vv = .agg #[.bool (sg (oTop (limQ z))), .slice e0 e1 e2, .slice e3 e4 e5, .int .i64 (limE z)] ∧ QT wx e0 e1 e2 e3 e4 e5 (limQ z))
      (fun k => false) (by kernel_rfl) ?haF14 rfl (by kernel_rfl) (by kernel_rfl) (fun _ _ _ _ _ h => h) ?hSb14 ?hPb14 ?hS14 ?hop14 ?hfin14
     case haF14 =>
      intro vals
      simp only [fillAll, List.getElem?_cons_zero, List.getElem?_cons_succ, Act.put, List.setIfInBounds_toArray, List.set_cons_zero, List.set_cons_succ]
      exact rfl
     case hSb14 => exact fun wx w2 hb hS => below_two hS hb
     case hPb14 =>
      intro k v wa wb hb h
      match k, h with
      | 0, h => exact h
      | 1, h => exact h
      | 2, h => exact h
      | 3, h => exact h
      | 4, h => exact h
      | 5, h => exact h
      | 6, ⟨e0, e1, e2, h1, g0⟩ => exact ⟨e0, e1, e2, h1, g0.below hb⟩
      | 7, h => exact h
      | 8, h => exact h
      | 9, h => exact h
      | 10, ⟨e0, e1, e2, h1, g0⟩ => exact ⟨e0, e1, e2, h1, g0.below hb⟩
      | 11, ⟨e0, e1, e2, e3, e4, e5, h1, g0, g1⟩ => exact ⟨e0, e1, e2, e3, e4, e5, h1, g0.below hb, g1.below hb⟩
      | _ + 12, ⟨e0, e1, e2, e3, e4, e5, h1, g0⟩ => exact ⟨e0, e1, e2, e3, e4, e5, h1, g0.below hb⟩
     case hS14 => exact (Below.refl _ _).drew
     case hop14 =>
      refine .cons (k := 0) ?_ (.cons (k := 1) ?_ (.cons (k := 2) ?_ (.cons (k := 3) ?_ (.cons (k := 4) ?_ (.cons (k := 5) ?_ (.cons (k := 6) ?_ (.cons (k := 7) ?_ (.cons (k := 8) ?_ (.cons (k := 9) ?_ (.cons (k := 10) ?_ (.cons (k := 11) ?_ (.cons (k := 12) ?_ (.nil)))))))))))))
      all_goals intro vals wr hS hd KC hK
      all_goals (show Oper.wp _ _ _ _ _ _; dsimp only)
      · have z0 := (HR0.out.below hS).c0
        have z1 := (HR0.out.below hS).c1
        have z2 := (HR0.out.below hS).c2
        go_simp
        refine hK _ _ rfl (Below.refl _ _) (by first | rfl | simp) (fun h => by cases h)
      · go_simp
        refine hK _ _ rfl (Below.refl _ _) (by first | rfl | simp) (fun h => by cases h)
      · have d1 : vals 1 = _ := hd 1 (by decide +kernel)
        rw [d1]
        go_simp
        refine hK _ _ rfl (Below.refl _ _) (by first | rfl | simp) (fun h => by cases h)
      · have d2 : vals 2 = _ := hd 2 (by decide +kernel)
        rw [d2]
        have z0 := (HR1.out.below hS).c0
        go_simp
        refine hK _ _ rfl (Below.refl _ _) (by first | rfl | simp) (fun h => by cases h)
      · go_simp
        refine hK _ _ rfl (Below.refl _ _) (by first | rfl | simp) (fun h => by cases h)
      · have d4 : vals 4 = _ := hd 4 (by decide +kernel)
        rw [d4]
        have z0 := (HR1.out.below hS).c2
        go_simp
        refine hK _ _ rfl (Below.refl _ _) (by first | rfl | simp) (fun h => by cases h)
      · have d3 : vals 3 = _ := hd 3 (by decide +kernel)
        have d5 : vals 5 = _ := hd 5 (by decide +kernel)
        rw [d3, d5]
        go_simp
        go_at_call 66
        with_reducible refine (refMake_c (HY1.out.below hS) (by decide) (zOf (sg q.num) q.den) (by rw [HSG.out])).mono ?_
        rintro e w2 ⟨r0, r1, r2, rfl, f0, bn_r⟩
        refine hK _ _ rfl bn_r ⟨_, _, _, rfl, f0⟩ (fun h => by cases h)
      · go_simp
        refine hK _ _ rfl (Below.refl _ _) (by first | rfl | simp) (fun h => by cases h)
      · have d7 : vals 7 = _ := hd 7 (by decide +kernel)
        rw [d7]
        go_simp
        refine hK _ _ rfl (Below.refl _ _) (by first | rfl | simp) (fun h => by cases h)
      · have d8 : vals 8 = _ := hd 8 (by decide +kernel)
        rw [d8]
        have z0 := (HR1.out.below hS).c1
        go_simp
        refine hK _ _ rfl (Below.refl _ _) (by first | rfl | simp) (fun h => by cases h)
      · obtain ⟨A_6_0, n_6_1, n_6_2, d6, h_6_0⟩ := hd 6 (by decide +kernel)
        have d9 : vals 9 = _ := hd 9 (by decide +kernel)
        rw [d6, d9]
        go_simp
        refine hK _ _ rfl (Below.refl _ _) ⟨_, _, _, rfl, h_6_0⟩ (fun h => by cases h)
      · have d0 : vals 0 = _ := hd 0 (by decide +kernel)
        obtain ⟨A_10_0, n_10_1, n_10_2, d10, h_10_0⟩ := hd 10 (by decide +kernel)
        rw [d0, d10]
        go_simp
        go_at_call 65
        with_reducible refine (refTimes_c (HX.out.below hS) (HY.out.below hS) h_10_0 (HX1.out.below hS).nn (by decide) (by decide) p.den_nz HN0.out z HM.out).mono ?_
        rintro e w2 ⟨r0, r1, r2, r3, r4, r5, rfl, f0, f1, bn_r⟩
        refine hK _ _ rfl bn_r ⟨_, _, _, _, _, _, rfl, f0, f1⟩ (fun h => by cases h)
      · obtain ⟨A_11_0, n_11_1, n_11_2, A_11_3, n_11_4, n_11_5, d11, h_11_0, h_11_1⟩ := hd 11 (by decide +kernel)
        rw [d11]
        go_simp
        go_at_call 101
        with_reducible refine (refLimit_c h_11_0 h_11_1).mono ?_
        rintro e w2 ⟨r0, r1, r2, r3, r4, r5, rfl, f0, bn_r⟩
        refine hK _ _ rfl bn_r ⟨_, _, _, _, _, _, rfl, f0⟩ (fun h => by cases h)
     case hfin14 =>
      intro vals wr hS hP hne
      obtain ⟨A_12_0, n_12_1, n_12_2, A_12_3, n_12_4, n_12_5, ez_12, h_12_0⟩ := hP 12 (by decide)
      have hZ3 := HZ.out.below hS
      have hNo := hZ3.noLimb (by intro v e; cases e) (by intro v e; cases e) (by intro v e; cases e) (by intro v e; cases e)
      have e0 := hZ3.c0
      have e1 := hZ3.c1
      have e2 := hZ3.c2
      have e3 := hZ3.c3
      have f0 := hZ3.free 0
      have f1 := hZ3.free 1
      have f2 := hZ3.free 2
      have f3 := hZ3.free 3
      have HF := Lib.hid (hZ3.fill (.bool (sg (oTop (limQ z)))) (.slice A_12_0 n_12_1 n_12_2) (.slice A_12_3 n_12_4 n_12_5) (.int .i64 (limE z)))
      have HP := Lib.hid (QQ.fillR4 h_12_0 hNo (.bool (sg (oTop (limQ z)))) (.slice A_12_0 n_12_1 n_12_2) (.slice A_12_3 n_12_4 n_12_5) (.int .i64 (limE z)))
      have HB := Lib.hid (below_fill4 (below_two HW.out hS) Hq.out (.bool (sg (oTop (limQ z)))) (.slice A_12_0 n_12_1 n_12_2) (.slice A_12_3 n_12_4 n_12_5) (.int .i64 (limE z)))
      try dsimp only
      rw [ez_12]
      refine wpAny_ready (rs := [13]) (by kernel_rfl) (by simp) (AllReady.cons rfl (fun KC hK => ?_) AllReady.nil)
      go_simp
      refine hK _ _ ?_
      clear hK KC
      refine wpAny_done (by kernel_rfl) ?_ _
      go_wp2
      refine bodyPost_ret (results_cell_row rfl _ _ _ 35 #[.bool (sg (oTop (limQ z))), .slice A_12_0 n_12_1 n_12_2, .slice A_12_3 n_12_4 n_12_5, .int .i64 (limE z)] (0, 0) _ rfl HF.out Tryz.underlying35 rfl got7_size) rfl ?_
      exact ⟨A_12_0, n_12_1, n_12_2, A_12_3, n_12_4, n_12_5, rfl, HP.out, HB.out⟩
end
end Go.Proofs.YtjikaojffgjndaaGreatDoor

/- What package whole's Cmp answers, as a contract over memory: whole numbers in the shortest limbs, 0 not below 0. Conditions: sizes of at most so many limbs; the table of powers of ten where texts are made or read. -/
namespace Go.Proofs.YtjikaojffgjndaaGreatDoor
open Go.RowKit Limb
set_option linter.unusedVariables false
section
variable {w : World} {s s' : Bool} {A A' : Option Addr} {n c n' c' : Nat} {xs ys : List Nat} {x y : Int} {L L' : Nat}
set_option maxHeartbeats 4000000 in
set_option maxRecDepth 100000 in
theorem wCmp_c (hx : ZZ w s A n c xs x L) (hy : ZZ w s' A' n' c' ys y L') (h1 : L ≤ 100000) (h2 : L' ≤ 100000) (v : Int) (hv : cmpZ x y = v) :
 Calls Tryz.prog 89 #[.agg #[.bool s, .slice A n c], .agg #[.bool s', .slice A' n' c']] w fun e w' => e = .returned (.int .i64 v) ∧ Below w.heap.size w w' := by
 have b0 := below_new w (.cells #[Value.bool s, Value.slice A n c] 25)
 have b1 := below_new (w.alloc (.cells #[Value.bool s, Value.slice A n c] 25)) (.cells #[Value.bool s', Value.slice A' n' c'] 25)
 have HW := Lib.hid (below_two b0 b1)
 have HN := Lib.hid (hx.below HW.out)
 have HM := Lib.hid (hy.below HW.out)
 have r0 := (row2_new w 25 (.bool s) (.slice A n c)).below b1
 have r1 := row2_new (w.alloc (.cells #[Value.bool s, Value.slice A n c] 25)) 25 (.bool s') (.slice A' n' c')
 simp only [World.size_alloc] at r1
 clear b0 b1 hx hy
 by_cases hx0 : x < 0
 · by_cases hy0 : y < 0
   · have hx2 : sg x = true := sg_neg hx0
     have hy2 : sg y = true := sg_neg hy0
     have HX2 := Lib.hid hx2
     have HY2 := Lib.hid hy2
     clear hx2 hy2
     have HV : RowKit.Hid (cmpI y.natAbs x.natAbs = v) := by
      show _ = _
      rw [← hv]; exact cmp_abs_neg hx0 hy0
     clear hv hx0 hy0
     go_enter Tryz.func89, Tryz.ntmps89
     go_wp2_with fail
     generalize (w.alloc (.cells #[Value.bool s, Value.slice A n c] 25)).alloc (.cells #[Value.bool s', Value.slice A' n' c'] 25) = w1 at *
     have HR0 := Lib.hid r0
     have HR1 := Lib.hid r1
     have c00 := r0.c0
     have c01 := r0.c1
     have c10 := r1.c0
     have c11 := r1.c1
     clear r0 r1
     refine (isBelow_c HN.out (by omega) true HX2.out).mono ?_
     rintro e w2 ⟨rfl, bn⟩
     replace HN := Lib.hid (HN.out.below bn)
     replace HM := Lib.hid (HM.out.below bn)
     replace HW := Lib.hid (below_two HW.out bn)
     replace HR0 := Lib.hid (HR0.out.below bn)
     replace HR1 := Lib.hid (HR1.out.below bn)
     clear bn c00 c01 c10 c11
     have c00 := HR0.out.c0
     have c01 := HR0.out.c1
     have c10 := HR1.out.c0
     have c11 := HR1.out.c1
     go_wp2_with fail
     refine (isBelow_c HM.out (by omega) true HY2.out).mono ?_
     rintro e w3 ⟨rfl, bn⟩
     replace HN := Lib.hid (HN.out.below bn)
     replace HM := Lib.hid (HM.out.below bn)
     replace HW := Lib.hid (below_two HW.out bn)
     replace HR0 := Lib.hid (HR0.out.below bn)
     replace HR1 := Lib.hid (HR1.out.below bn)
     clear bn c00 c01 c10 c11
     have c00 := HR0.out.c0
     have c01 := HR0.out.c1
     have c10 := HR1.out.c0
     have c11 := HR1.out.c1
     go_wp2_with fail
     refine (cmp_c HM.out.nn HN.out.nn (by omega) (by omega) v HV.out).mono ?_
     rintro e w9 ⟨rfl, bn⟩
     replace HW := Lib.hid (below_two HW.out bn)
     clear bn c00 c01 c10 c11
     go_wp2
     go_ret
     exact ⟨rfl, HW.out⟩
   · have hx2 : sg x = true := sg_neg hx0
     have hy2 : sg y = false := sg_pos (by omega)
     have HX2 := Lib.hid hx2
     have HY2 := Lib.hid hy2
     clear hx2 hy2
     obtain rfl : v = -1 := by rw [← hv]; exact cmpZ_lt (by omega)
     clear hv hx0 hy0
     go_enter Tryz.func89, Tryz.ntmps89
     go_wp2_with fail
     generalize (w.alloc (.cells #[Value.bool s, Value.slice A n c] 25)).alloc (.cells #[Value.bool s', Value.slice A' n' c'] 25) = w1 at *
     have HR0 := Lib.hid r0
     have HR1 := Lib.hid r1
     have c00 := r0.c0
     have c01 := r0.c1
     have c10 := r1.c0
     have c11 := r1.c1
     clear r0 r1
     refine (isBelow_c HN.out (by omega) true HX2.out).mono ?_
     rintro e w2 ⟨rfl, bn⟩
     replace HN := Lib.hid (HN.out.below bn)
     replace HM := Lib.hid (HM.out.below bn)
     replace HW := Lib.hid (below_two HW.out bn)
     replace HR0 := Lib.hid (HR0.out.below bn)
     replace HR1 := Lib.hid (HR1.out.below bn)
     clear bn c00 c01 c10 c11
     have c00 := HR0.out.c0
     have c01 := HR0.out.c1
     have c10 := HR1.out.c0
     have c11 := HR1.out.c1
     go_wp2_with fail
     refine (isBelow_c HM.out (by omega) false HY2.out).mono ?_
     rintro e w3 ⟨rfl, bn⟩
     replace HN := Lib.hid (HN.out.below bn)
     replace HM := Lib.hid (HM.out.below bn)
     replace HW := Lib.hid (below_two HW.out bn)
     replace HR0 := Lib.hid (HR0.out.below bn)
     replace HR1 := Lib.hid (HR1.out.below bn)
     clear bn c00 c01 c10 c11
     have c00 := HR0.out.c0
     have c01 := HR0.out.c1
     have c10 := HR1.out.c0
     have c11 := HR1.out.c1
     go_wp2_with fail
     refine (isBelow_c HN.out (by omega) true HX2.out).mono ?_
     rintro e w4 ⟨rfl, bn⟩
     replace HN := Lib.hid (HN.out.below bn)
     replace HM := Lib.hid (HM.out.below bn)
     replace HW := Lib.hid (below_two HW.out bn)
     replace HR0 := Lib.hid (HR0.out.below bn)
     replace HR1 := Lib.hid (HR1.out.below bn)
     clear bn c00 c01 c10 c11
     have c00 := HR0.out.c0
     have c01 := HR0.out.c1
     have c10 := HR1.out.c0
     have c11 := HR1.out.c1
     go_wp2
     go_ret
     exact ⟨rfl, HW.out⟩
 · by_cases hy0 : y < 0
   · have hx2 : sg x = false := sg_pos (by omega)
     have hy2 : sg y = true := sg_neg hy0
     have HX2 := Lib.hid hx2
     have HY2 := Lib.hid hy2
     clear hx2 hy2
     obtain rfl : v = 1 := by rw [← hv]; exact cmpZ_gt (by omega)
     clear hv hx0 hy0
     go_enter Tryz.func89, Tryz.ntmps89
     go_wp2_with fail
     generalize (w.alloc (.cells #[Value.bool s, Value.slice A n c] 25)).alloc (.cells #[Value.bool s', Value.slice A' n' c'] 25) = w1 at *
     have HR0 := Lib.hid r0
     have HR1 := Lib.hid r1
     have c00 := r0.c0
     have c01 := r0.c1
     have c10 := r1.c0
     have c11 := r1.c1
     clear r0 r1
     refine (isBelow_c HN.out (by omega) false HX2.out).mono ?_
     rintro e w2 ⟨rfl, bn⟩
     replace HN := Lib.hid (HN.out.below bn)
     replace HM := Lib.hid (HM.out.below bn)
     replace HW := Lib.hid (below_two HW.out bn)
     replace HR0 := Lib.hid (HR0.out.below bn)
     replace HR1 := Lib.hid (HR1.out.below bn)
     clear bn c00 c01 c10 c11
     have c00 := HR0.out.c0
     have c01 := HR0.out.c1
     have c10 := HR1.out.c0
     have c11 := HR1.out.c1
     go_wp2_with fail
     refine (isBelow_c HN.out (by omega) false HX2.out).mono ?_
     rintro e w3 ⟨rfl, bn⟩
     replace HN := Lib.hid (HN.out.below bn)
     replace HM := Lib.hid (HM.out.below bn)
     replace HW := Lib.hid (below_two HW.out bn)
     replace HR0 := Lib.hid (HR0.out.below bn)
     replace HR1 := Lib.hid (HR1.out.below bn)
     clear bn c00 c01 c10 c11
     have c00 := HR0.out.c0
     have c01 := HR0.out.c1
     have c10 := HR1.out.c0
     have c11 := HR1.out.c1
     go_wp2_with fail
     refine (isBelow_c HM.out (by omega) true HY2.out).mono ?_
     rintro e w4 ⟨rfl, bn⟩
     replace HN := Lib.hid (HN.out.below bn)
     replace HM := Lib.hid (HM.out.below bn)
     replace HW := Lib.hid (below_two HW.out bn)
     replace HR0 := Lib.hid (HR0.out.below bn)
     replace HR1 := Lib.hid (HR1.out.below bn)
     clear bn c00 c01 c10 c11
     have c00 := HR0.out.c0
     have c01 := HR0.out.c1
     have c10 := HR1.out.c0
     have c11 := HR1.out.c1
     go_wp2
     go_ret
     exact ⟨rfl, HW.out⟩
   · have hx2 : sg x = false := sg_pos (by omega)
     have hy2 : sg y = false := sg_pos (by omega)
     have HX2 := Lib.hid hx2
     have HY2 := Lib.hid hy2
     clear hx2 hy2
     have HV : RowKit.Hid (cmpI x.natAbs y.natAbs = v) := by
      show _ = _
      rw [← hv]; exact cmp_abs_pos (by omega) (by omega)
     clear hv hx0 hy0
     go_enter Tryz.func89, Tryz.ntmps89
     go_wp2_with fail
     generalize (w.alloc (.cells #[Value.bool s, Value.slice A n c] 25)).alloc (.cells #[Value.bool s', Value.slice A' n' c'] 25) = w1 at *
     have HR0 := Lib.hid r0
     have HR1 := Lib.hid r1
     have c00 := r0.c0
     have c01 := r0.c1
     have c10 := r1.c0
     have c11 := r1.c1
     clear r0 r1
     refine (isBelow_c HN.out (by omega) false HX2.out).mono ?_
     rintro e w2 ⟨rfl, bn⟩
     replace HN := Lib.hid (HN.out.below bn)
     replace HM := Lib.hid (HM.out.below bn)
     replace HW := Lib.hid (below_two HW.out bn)
     replace HR0 := Lib.hid (HR0.out.below bn)
     replace HR1 := Lib.hid (HR1.out.below bn)
     clear bn c00 c01 c10 c11
     have c00 := HR0.out.c0
     have c01 := HR0.out.c1
     have c10 := HR1.out.c0
     have c11 := HR1.out.c1
     go_wp2_with fail
     refine (isBelow_c HN.out (by omega) false HX2.out).mono ?_
     rintro e w3 ⟨rfl, bn⟩
     replace HN := Lib.hid (HN.out.below bn)
     replace HM := Lib.hid (HM.out.below bn)
     replace HW := Lib.hid (below_two HW.out bn)
     replace HR0 := Lib.hid (HR0.out.below bn)
     replace HR1 := Lib.hid (HR1.out.below bn)
     clear bn c00 c01 c10 c11
     have c00 := HR0.out.c0
     have c01 := HR0.out.c1
     have c10 := HR1.out.c0
     have c11 := HR1.out.c1
     go_wp2_with fail
     refine (isBelow_c HM.out (by omega) false HY2.out).mono ?_
     rintro e w4 ⟨rfl, bn⟩
     replace HN := Lib.hid (HN.out.below bn)
     replace HM := Lib.hid (HM.out.below bn)
     replace HW := Lib.hid (below_two HW.out bn)
     replace HR0 := Lib.hid (HR0.out.below bn)
     replace HR1 := Lib.hid (HR1.out.below bn)
     clear bn c00 c01 c10 c11
     have c00 := HR0.out.c0
     have c01 := HR0.out.c1
     have c10 := HR1.out.c0
     have c11 := HR1.out.c1
     go_wp2_with fail
     refine (cmp_c HN.out.nn HM.out.nn (by omega) (by omega) v HV.out).mono ?_
     rintro e w9 ⟨rfl, bn⟩
     replace HW := Lib.hid (below_two HW.out bn)
     clear bn c00 c01 c10 c11
     go_wp2
     go_ret
     exact ⟨rfl, HW.out⟩
end
end Go.Proofs.YtjikaojffgjndaaGreatDoor

/- What package whole's Neg answers, as a contract over memory: whole numbers in the shortest limbs, 0 not below 0. Conditions: sizes of at most so many limbs; the table of powers of ten where texts are made or read. -/
namespace Go.Proofs.YtjikaojffgjndaaGreatDoor
open Go.RowKit Limb
set_option linter.unusedVariables false
section
variable {w : World} {s s' : Bool} {A A' : Option Addr} {n c n' c' : Nat} {xs ys : List Nat} {x y : Int} {L L' : Nat}
set_option maxHeartbeats 4000000 in
set_option maxRecDepth 100000 in
theorem wNeg_c (hx : ZZ w s A n c xs x L) (h1 : L ≤ 100000) (z : Int) (hz : -x = z) :
 Calls Tryz.prog 78 #[.agg #[.bool s, .slice A n c]] w fun e w' => ∃ A2 n2 c2, e = .returned (.agg #[.bool (sg z), .slice A2 n2 c2]) ∧ ZZ w' (sg z) A2 n2 c2 (limbs z.natAbs) z L ∧ Below w.heap.size w w' := by
 have HS : RowKit.Hid (zOf (!s) x.natAbs = z) := (zOf_not hx.zof).trans hz
 clear hz
 have b0 := below_new w (.cells #[Value.bool s, Value.slice A n c] 25)
 have bz := below_new (w.alloc (.cells #[Value.bool s, Value.slice A n c] 25)) zbox
 have HW := Lib.hid (below_two b0 bz)
 have HN := Lib.hid (hx.nn.below HW.out)
 have r0 := (row2_new w 25 (.bool s) (.slice A n c)).below bz
 have rz : ZB ((w.alloc (.cells #[Value.bool s, Value.slice A n c] 25)).alloc zbox) (w.alloc (.cells #[Value.bool s, Value.slice A n c] 25)).heap.size := row2_new (w.alloc (.cells #[Value.bool s, Value.slice A n c] 25)) _ _ _
 simp only [World.size_alloc] at rz
 clear b0 bz hx
 go_enter Tryz.func78, Tryz.ntmps78
 go_wp2
 generalize (w.alloc (.cells #[Value.bool s, Value.slice A n c] 25)).alloc zbox = w1 at *
 have HR0 := Lib.hid r0
 have c00 := r0.c0
 have c01 := r0.c1
 have HZ := Lib.hid rz
 clear r0 rz
 clear c00 c01
 refine region_free 7 1 [3, 4, 5, 6, 7, 8, 9] ?aF (fun wx => Below w1.heap.size w1 wx) (fun k v wx => match k with
  | 0 => v = .pointer (some ⟨w.heap.size, 0, none⟩)
  | 1 => v = .bool s
  | 2 => v = .bool (!s)
  | 3 => v = .pointer (some ⟨w.heap.size, 1, none⟩)
  | 4 => v = .slice A n c
  | 5 => ∃ A2 n2 c2, v = .slice A2 n2 c2 ∧ NN wx A2 n2 c2 (limbs x.natAbs) x.natAbs L
  | _ => ∃ A2 n2 c2, v = .agg #[.bool (sg z), .slice A2 n2 c2] ∧ ZZ wx (sg z) A2 n2 c2 (limbs z.natAbs) z L)
  (fun _ => false) (by kernel_rfl) ?haF rfl (by kernel_rfl) (by kernel_rfl) (fun _ _ _ _ _ h => h) ?hSb ?hPb ?hS ?hop ?hfin
 case haF =>
  intro vals
  simp only [fillAll, List.getElem?_cons_zero, List.getElem?_cons_succ, Act.put, List.setIfInBounds_toArray, List.set_cons_zero, List.set_cons_succ]
  exact rfl
 case hSb => exact fun wx w2 hb hS => below_two hS hb
 case hPb =>
  intro k v wa wb hb h
  match k, h with
  | 0, h => exact h
  | 1, h => exact h
  | 2, h => exact h
  | 3, h => exact h
  | 4, h => exact h
  | 5, ⟨A2, n2, c2, h1, h2⟩ => exact ⟨A2, n2, c2, h1, h2.below hb⟩
  | _ + 6, ⟨A2, n2, c2, h1, h2⟩ => exact ⟨A2, n2, c2, h1, h2.below hb⟩
 case hS => exact (Below.refl _ _).drew
 case hop =>
  refine .cons (k := 0) ?_ (.cons (k := 1) ?_ (.cons (k := 2) ?_ (.cons (k := 3) ?_ (.cons (k := 4) ?_ (.cons (k := 5) ?_ (.cons (k := 6) ?_ (.nil)))))))
  all_goals intro vals wr hS hd KC hK
  all_goals (show Oper.wp _ _ _ _ _ _; dsimp only)
  · go_simp
    refine hK _ _ rfl (Below.refl _ _) rfl (fun h => by cases h)
  · have d0 : vals 0 = _ := hd 0 (by decide +kernel)
    rw [d0]
    have c0 := (HR0.out.below hS).c0
    go_simp
    refine hK _ _ rfl (Below.refl _ _) rfl (fun h => by cases h)
  · have d1 : vals 1 = _ := hd 1 (by decide +kernel)
    rw [d1]
    go_simp
    refine hK _ _ rfl (Below.refl _ _) (by first | rfl | (simp)) (fun h => by cases h)
  · go_simp
    refine hK _ _ rfl (Below.refl _ _) rfl (fun h => by cases h)
  · have d3 : vals 3 = _ := hd 3 (by decide +kernel)
    rw [d3]
    have c0 := (HR0.out.below hS).c1
    go_simp
    refine hK _ _ rfl (Below.refl _ _) rfl (fun h => by cases h)
  · have d4 : vals 4 = _ := hd 4 (by decide +kernel)
    rw [d4]
    go_simp
    go_at_call 125
    with_reducible refine (trim_c (HN.out.below hS) (by omega)).mono ?_
    rintro e w2 ⟨A_r, n_r, c_r, rfl, h_r, bn_r⟩
    refine hK _ _ rfl bn_r ⟨_, _, _, rfl, h_r⟩ (fun h => by cases h)
  · have d2 : vals 2 = _ := hd 2 (by decide +kernel)
    obtain ⟨A_m, n_m, c_m, d5, h_m⟩ := hd 5 (by decide +kernel)
    rw [d2, d5]
    go_simp
    go_at_call 88
    with_reducible refine (signed_c h_m _ z (by first | exact HS.out | simpa using HS.out)).mono ?_
    rintro e w2 ⟨rfl, h_r, bn_r⟩
    refine hK _ _ rfl bn_r ⟨_, _, _, rfl, h_r⟩ (fun h => by cases h)
 case hfin =>
  intro vals wr hS hP hne
  obtain ⟨A2, n2, c2, ez, h3⟩ := hP 6 (by decide)
  have hZ3 := HZ.out.below hS
  obtain ⟨e0, e1, f0, f1⟩ := hZ3.cells
  try dsimp only
  rw [ez]
  have HF := Lib.hid (hZ3.fill (.bool (sg z)) (.slice A2 n2 c2))
  have HP := Lib.hid (h3.put hZ3 (.bool (sg z)) (.slice A2 n2 c2))
  have HB := Lib.hid (below_fill (g := w.heap.size + 1) (below_two HW.out hS) (by omega) (.bool (sg z)) (.slice A2 n2 c2))
  refine wpAny_ready (rs := [7]) (by kernel_rfl) (by simp) (AllReady.cons rfl (fun KC hK => ?_) AllReady.nil)
  go_simp
  refine hK _ _ ?_
  clear hK KC
  refine wpAny_done (by kernel_rfl) ?_ _
  go_wp2
  refine bodyPost_ret (results_cell_row rfl _ _ (w.heap.size + 1) 25 #[.bool (sg z), .slice A2 n2 c2] (0, 0) _ rfl HF.out Tryz.underlying25 rfl int_size) rfl ?_
  exact ⟨A2, n2, c2, rfl, HP.out, HB.out⟩
end
end Go.Proofs.YtjikaojffgjndaaGreatDoor

/- What the statements' helpers keep.Rat and keep.OwnRat answer, as contracts over memory. Conditions: sizes of at most so many limbs. -/
namespace Go.Proofs.YtjikaojffgjndaaGreatDoor
open Go.RowKit Limb
set_option linter.unusedVariables false
section
variable {w : World} {s s' : Bool} {A B A' B' : Option Addr} {n c m d n' c' m' d' : Nat} {xs ys xs' ys' : List Nat} {x y : Int} {o o' : Option Rat} {a b L L' : Nat}
set_option maxHeartbeats 4000000 in
set_option maxRecDepth 100000 in
theorem keepRat_c (hx : QQ w s A n c xs B m d ys o L) (hx' : QQ w s' A' n' c' xs' B' m' d' ys' o' L') (h1 : L ≤ 100000) (h2 : L' ≤ 100000) (v : Bool) (hv : (decide (s = s') && same xs xs' && same ys ys') = v) :
 Calls Tryz.prog 20 #[.agg #[.bool s, .slice A n c, .slice B m d], .agg #[.bool s', .slice A' n' c', .slice B' m' d']] w fun e w' => e = .returned (.bool v) ∧ Below w.heap.size w w' := by
 have b0 := below_new w (.cells #[Value.bool s, Value.slice A n c, Value.slice B m d] 27)
 have b1 := below_new (w.alloc (.cells #[Value.bool s, Value.slice A n c, Value.slice B m d] 27)) (.cells #[Value.bool s', Value.slice A' n' c', Value.slice B' m' d'] 27)
 have HW := Lib.hid (below_two b0 b1)
 have HQ0 := Lib.hid (hx.below HW.out)
 have HQ1 := Lib.hid (hx'.below HW.out)
 have r0 := (row3_new w 27 (.bool s) (.slice A n c) (.slice B m d)).below b1
 have r1 := row3_new (w.alloc (.cells #[Value.bool s, Value.slice A n c, Value.slice B m d] 27)) 27 (.bool s') (.slice A' n' c') (.slice B' m' d')
 simp only [World.size_alloc] at r1
 clear b0 b1 hx hx'
 cases ht : decide (s = s') && same xs xs' with
 | true =>
  have K2 : RowKit.Hid (same ys ys' = v) := by
   show _ = _
   rw [← hv, ht, Bool.true_and]
  have K := Lib.hid ht
  clear ht hv
  go_enter Tryz.func20, Tryz.ntmps20
  go_wp2_with fail
  generalize (w.alloc (.cells #[Value.bool s, Value.slice A n c, Value.slice B m d] 27)).alloc (.cells #[Value.bool s', Value.slice A' n' c', Value.slice B' m' d'] 27) = w1 at *
  have HR0 := Lib.hid r0
  have HR1 := Lib.hid r1
  clear r0 r1
  refine (keepInt_c HQ0.out.top HQ1.out.top (by omega) (by omega) true K.out).mono ?_
  rintro e w2 ⟨rfl, bn⟩
  replace HQ0 := Lib.hid (HQ0.out.below bn)
  replace HQ1 := Lib.hid (HQ1.out.below bn)
  replace HR0 := Lib.hid (HR0.out.below bn)
  replace HR1 := Lib.hid (HR1.out.below bn)
  replace HW := Lib.hid (below_two HW.out bn)
  clear bn
  have c00 := HR0.out.c0
  have c01 := HR0.out.c1
  have c02 := HR0.out.c2
  have c10 := HR1.out.c0
  have c11 := HR1.out.c1
  have c12 := HR1.out.c2
  go_wp2_with fail
  clear c00 c01 c02
  clear c10 c11 c12
  refine (keep_c HQ0.out.bot HQ1.out.bot (by omega) (by omega) v K2.out).mono ?_
  rintro e w3 ⟨rfl, bn⟩
  replace HW := Lib.hid (below_two HW.out bn)
  clear bn
  go_wp2
  go_ret
  exact ⟨rfl, HW.out⟩
 | false =>
  obtain rfl : v = false := by rw [← hv, ht]; rfl
  have K := Lib.hid ht
  clear ht hv
  go_enter Tryz.func20, Tryz.ntmps20
  go_wp2_with fail
  generalize (w.alloc (.cells #[Value.bool s, Value.slice A n c, Value.slice B m d] 27)).alloc (.cells #[Value.bool s', Value.slice A' n' c', Value.slice B' m' d'] 27) = w1 at *
  have HR0 := Lib.hid r0
  have HR1 := Lib.hid r1
  clear r0 r1
  refine (keepInt_c HQ0.out.top HQ1.out.top (by omega) (by omega) false K.out).mono ?_
  rintro e w2 ⟨rfl, bn⟩
  replace HQ0 := Lib.hid (HQ0.out.below bn)
  replace HQ1 := Lib.hid (HQ1.out.below bn)
  replace HR0 := Lib.hid (HR0.out.below bn)
  replace HR1 := Lib.hid (HR1.out.below bn)
  replace HW := Lib.hid (below_two HW.out bn)
  clear bn
  go_wp2
  go_ret
  exact ⟨rfl, HW.out⟩
set_option maxHeartbeats 4000000 in
set_option maxRecDepth 100000 in
theorem ownRat_c (hx : QQ w s A n c xs B m d ys o L) (h1 : L ≤ 100000) :
 Calls Tryz.prog 11 #[.agg #[.bool s, .slice A n c, .slice B m d]] w fun e w' => ∃ A2 n2 c2 B2 m2 d2, e = .returned (.agg #[.bool s, .slice A2 n2 c2, .slice B2 m2 d2]) ∧ QQ w' s A2 n2 c2 xs B2 m2 d2 ys o L ∧ Below w.heap.size w w' := by
 have b0 := below_new w (.cells #[Value.bool s, Value.slice A n c, Value.slice B m d] 27)
 have b1 := below_new (w.alloc (.cells #[Value.bool s, Value.slice A n c, Value.slice B m d] 27)) (.cells #[Value.bool false, Value.slice none 0 0, Value.slice none 0 0] 27)
 have HW := Lib.hid (below_two b0 b1)
 have HX := Lib.hid (hx.top.below HW.out)
 have HY := Lib.hid (hx.bot.below HW.out)
 have Hrd := Lib.hid hx.rd
 have r0 := (row3_new w 27 (.bool s) (.slice A n c) (.slice B m d)).below b1
 have rz := row3_new (w.alloc (.cells #[Value.bool s, Value.slice A n c, Value.slice B m d] 27)) 27 (.bool false) (.slice none 0 0) (.slice none 0 0)
 simp only [World.size_alloc] at rz
 have Hq : RowKit.Hid (w.heap.size ≤ w.heap.size + 1) := Nat.le_succ _
 clear b0 b1 hx
 go_enter Tryz.func11, Tryz.ntmps11
 go_wp2_with fail
 generalize (w.alloc (.cells #[Value.bool s, Value.slice A n c, Value.slice B m d] 27)).alloc (.cells #[Value.bool false, Value.slice none 0 0, Value.slice none 0 0] 27) = wS at *
 have HR0 := Lib.hid r0
 have HZ := Lib.hid rz
 clear r0 rz
 refine region_free 7 1 [3, 4, 5, 6, 7, 8, 9] ?aF12 (fun wx => Below wS.heap.size wS wx) (fun k vv wx => match k with
  | 0 => vv = .pointer (some ⟨w.heap.size, 0, none⟩)
  | 1 => vv = .agg #[.bool s, .slice A n c]
  | 2 => ∃ (e0 : Option Addr) (e1 : Nat) (e2 : Nat), vv = .agg #[.bool s, .slice e0 e1 e2] ∧ ZZ wx s e0 e1 e2 xs (zOf s (Limb.val xs)) L
  | 3 => vv = .pointer (some ⟨w.heap.size, 2, none⟩)
  | 4 => vv = .slice B m d
  | 5 => ∃ (e0 : Option Addr) (e1 : Nat) (e2 : Nat), vv = .slice e0 e1 e2 ∧ NN wx e0 e1 e2 ys (Limb.val ys) L
  | _ => ∃ (e0 : Option Addr) (e1 : Nat) (e2 : Nat) (e3 : Option Addr) (e4 : Nat) (e5 : Nat), vv = .agg #[.bool s, .slice e0 e1 e2, .slice e3 e4 e5] ∧ ZZ wx s e0 e1 e2 xs (zOf s (Limb.val xs)) L ∧ NN wx e3 e4 e5 ys (Limb.val ys) L)
  (fun k => false) (by kernel_rfl) ?haF12 rfl (by kernel_rfl) (by kernel_rfl) (fun _ _ _ _ _ h => h) ?hSb12 ?hPb12 ?hS12 ?hop12 ?hfin12
 case haF12 =>
  intro vals
  simp only [fillAll, List.getElem?_cons_zero, List.getElem?_cons_succ, Act.put, List.setIfInBounds_toArray, List.set_cons_zero, List.set_cons_succ]
  exact rfl
 case hSb12 => exact fun wx w2 hb hS => below_two hS hb
 case hPb12 =>
  intro k v wa wb hb h
  match k, h with
  | 0, h => exact h
  | 1, h => exact h
  | 2, ⟨e0, e1, e2, h1, g0⟩ => exact ⟨e0, e1, e2, h1, g0.below hb⟩
  | 3, h => exact h
  | 4, h => exact h
  | 5, ⟨e0, e1, e2, h1, g0⟩ => exact ⟨e0, e1, e2, h1, g0.below hb⟩
  | _ + 6, ⟨e0, e1, e2, e3, e4, e5, h1, g0, g1⟩ => exact ⟨e0, e1, e2, e3, e4, e5, h1, g0.below hb, g1.below hb⟩
 case hS12 => exact (Below.refl _ _).drew
 case hop12 =>
  refine .cons (k := 0) ?_ (.cons (k := 1) ?_ (.cons (k := 2) ?_ (.cons (k := 3) ?_ (.cons (k := 4) ?_ (.cons (k := 5) ?_ (.cons (k := 6) ?_ (.nil)))))))
  all_goals intro vals wr hS hd KC hK
  all_goals (show Oper.wp _ _ _ _ _ _; dsimp only)
  · go_simp
    refine hK _ _ rfl (Below.refl _ _) (by first | rfl | simp) (fun h => by cases h)
  · have d0 : vals 0 = _ := hd 0 (by decide +kernel)
    rw [d0]
    have z0 := (HR0.out.below hS).c0
    have z1 := (HR0.out.below hS).c1
    go_simp
    refine hK _ _ rfl (Below.refl _ _) (by first | rfl | simp) (fun h => by cases h)
  · have d1 : vals 1 = _ := hd 1 (by decide +kernel)
    rw [d1]
    go_simp
    go_at_call 41
    with_reducible refine (ownInt_c (HX.out.below hS) (by omega)).mono ?_
    rintro e w2 ⟨r0, r1, r2, rfl, f0, bn_r⟩
    refine hK _ _ rfl bn_r ⟨_, _, _, rfl, f0⟩ (fun h => by cases h)
  · go_simp
    refine hK _ _ rfl (Below.refl _ _) (by first | rfl | simp) (fun h => by cases h)
  · have d3 : vals 3 = _ := hd 3 (by decide +kernel)
    rw [d3]
    have z0 := (HR0.out.below hS).c2
    go_simp
    refine hK _ _ rfl (Below.refl _ _) (by first | rfl | simp) (fun h => by cases h)
  · have d4 : vals 4 = _ := hd 4 (by decide +kernel)
    rw [d4]
    go_simp
    go_at_call 42
    with_reducible refine (own_any _ _ _ _ _ _ _ (HY.out.below hS) (by omega)).mono ?_
    rintro e w2 ⟨r0, r1, r2, rfl, f0, bn_r⟩
    refine hK _ _ rfl bn_r ⟨_, _, _, rfl, f0⟩ (fun h => by cases h)
  · obtain ⟨A_2_0, n_2_1, n_2_2, d2, h_2_0⟩ := hd 2 (by decide +kernel)
    obtain ⟨A_5_0, n_5_1, n_5_2, d5, h_5_0⟩ := hd 5 (by decide +kernel)
    rw [d2, d5]
    go_simp
    refine hK _ _ rfl (Below.refl _ _) ⟨_, _, _, _, _, _, rfl, h_2_0, h_5_0⟩ (fun h => by cases h)
 case hfin12 =>
  intro vals wr hS hP hne
  obtain ⟨A_6_0, n_6_1, n_6_2, A_6_3, n_6_4, n_6_5, ez_6, h_6_0, h_6_1⟩ := hP 6 (by decide)
  have hZ3 := HZ.out.below hS
  have hNo := hZ3.noLimb (by intro v e; cases e) (by intro v e; cases e) (by intro v e; cases e)
  have e0 := hZ3.c0
  have e1 := hZ3.c1
  have e2 := hZ3.c2
  have f0 := hZ3.free 0
  have f1 := hZ3.free 1
  have f2 := hZ3.free 2
  have HF := Lib.hid (hZ3.fill (.bool s) (.slice A_6_0 n_6_1 n_6_2) (.slice A_6_3 n_6_4 n_6_5))
  have HP := Lib.hid (QQ.fillR3 ⟨h_6_0, h_6_1, Hrd.out⟩ hNo (.bool s) (.slice A_6_0 n_6_1 n_6_2) (.slice A_6_3 n_6_4 n_6_5))
  have HB := Lib.hid (below_fill3' (below_two HW.out hS) Hq.out (.bool s) (.slice A_6_0 n_6_1 n_6_2) (.slice A_6_3 n_6_4 n_6_5))
  try dsimp only
  rw [ez_6]
  refine wpAny_ready (rs := [7]) (by kernel_rfl) (by simp) (AllReady.cons rfl (fun KC hK => ?_) AllReady.nil)
  go_simp
  refine hK _ _ ?_
  clear hK KC
  refine wpAny_done (by kernel_rfl) ?_ _
  go_wp2
  refine bodyPost_ret (results_cell_row rfl _ _ _ 27 #[.bool s, .slice A_6_0 n_6_1 n_6_2, .slice A_6_3 n_6_4 n_6_5] (0, 0) _ rfl HF.out Tryz.underlying27 rfl rat_size) rfl ?_
  exact ⟨A_6_0, n_6_1, n_6_2, A_6_3, n_6_4, n_6_5, rfl, HP.out, HB.out⟩
end
end Go.Proofs.YtjikaojffgjndaaGreatDoor
