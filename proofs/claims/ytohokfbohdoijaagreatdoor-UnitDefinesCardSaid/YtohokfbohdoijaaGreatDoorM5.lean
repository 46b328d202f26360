/- Part 5 of the texts that the statements of this seat lean on: mathematics, and what functions answer, as contracts over memory; each part says its own conditions. -/
import Derived.Test.YtohokfbohdoijaaGreatDoorM4
import Derived.Deep.RegionHeld3
import Derived.Deep.CutRange
/- What the reference of layer 7 answers (trimmed, pos, Wide), as contracts over memory. Conditions: sizes of at most so many limbs. -/
namespace Go.Proofs.YtohokfbohdoijaaGreatDoor
open Go.RowKit Limb
set_option linter.unusedVariables false
theorem rat_size : (Tryz.prog.info? 33).map (·.size) = some 3 := by kernel_rfl
theorem trimmed_iff {xs : List Nat} (h : Small xs) : xs = limbs (Limb.val xs) ↔ xs = [] ∨ lim xs (xs.length - 1) ≠ 0 := by
 constructor
 · intro e
   rcases Nat.eq_zero_or_pos (Limb.val xs) with h0 | h0
   · left; rw [e, h0, limbs_zero]
   · right
     intro hl
     have hp : 0 < xs.length := by
      rcases xs with _ | ⟨y, l⟩
      · simp [Limb.val] at h0
      · simp
     have h1 := trim_take_last (xs := xs) (k := xs.length - 1) (by omega) (by simpa [lim] using hl)
     rw [show xs.length - 1 + 1 = xs.length by omega, List.take_length, trim_eq_limbs h, ← e] at h1
     have h2 := trim_len_le (xs.take (xs.length - 1))
     rw [← h1, List.length_take] at h2
     omega
 · rintro (e | e)
   · subst e; rfl
   · have hp : 0 < xs.length := by
      rcases xs with _ | ⟨y, l⟩
      · simp [lim] at e
      · simp
     have h1 := trim_take_full (xs := xs) (k := xs.length - 1) (by omega) (by simpa [lim] using e)
     rw [show xs.length - 1 + 1 = xs.length by omega, List.take_length, trim_eq_limbs h] at h1
     exact h1.symm
section
variable {w : World} {s s' : Bool} {A B A' B' : Option Addr} {n c m d n' c' m' d' : Nat} {xs ys xs' ys' : List Nat} {x : Int} {a b L L' : Nat}
set_option maxHeartbeats 4000000 in
set_option maxRecDepth 100000 in
theorem refTrimmed_c (hx : NN w A n c xs a L) (h1 : L ≤ 9223372036854775807) (v : Bool) (hv : decide (xs = limbs a) = v) :
 Calls Tryz.prog 89 #[.slice A n c] w fun e w' => e = .returned (.bool v) ∧ w = w' := by
 have Hv := Lib.hid hv
 have Hx := Lib.hid hx
 have hsm := hx.isN.small
 have hlen := hx.isN.len
 have hle := hx.le
 have htr := trimmed_iff hsm
 rw [hx.val] at htr
 clear hx hv
 by_cases h0 : n = 0
 · have hB : RowKit.Hid (v = true) := by
    show _ = _
    rw [← Hv.out, decide_eq_true_eq, htr]
    exact .inl (List.eq_nil_of_length_eq_zero (by omega))
   subst h0
   clear hlen htr
   go_enter Tryz.func89, Tryz.ntmps89
   go_wp2
   go_ret
   exact ⟨by rw [hB.out]; rfl, rfl⟩
 · obtain ⟨g, o, eA, hlt, hc⟩ := Hx.out.isN.2.2 (by omega)
   obtain ⟨k, hk⟩ : ∃ k, n = k + 1 := ⟨n - 1, by omega⟩
   have hcell := hc k (by omega)
   obtain ⟨u, hu⟩ : ∃ u, lim xs k = u := ⟨_, rfl⟩
   rw [hu] at hcell
   have h00 : ((n : Int) == 0) = false := by rw [beq_eq_false_iff_ne]; omega
   have h0k : (n : Int) - 1 = (k : Int) := by omega
   have hB : RowKit.Hid (decide (u ≠ 0) = v) := by
    show _ = _
    rw [← Hv.out, decide_eq_decide, htr, ← hu, show xs.length - 1 = k by omega]
    constructor
    · exact fun h => .inr h
    · rintro (h | h)
      · rw [h] at hlen; simp at hlen; omega
      · exact h
   subst eA
   clear htr hc hu hsm
   subst hk
   go_enter Tryz.func89, Tryz.ntmps89
   go_wp2
   go_ret
   refine ⟨?_, rfl⟩
   rw [← hB.out]
   show Ending.returned (Value.bool (((k : Int) + 1 == 0) || ((u : Int) != 0))) = _
   rw [show ((k : Int) + 1 == 0) = false by rw [beq_eq_false_iff_ne]; omega, Bool.false_or]
   congr 2
   rw [Bool.eq_iff_iff]
   simp
set_option maxHeartbeats 4000000 in
set_option maxRecDepth 100000 in
theorem refPos_c (hx : NN w A n c xs a L) (h1 : L ≤ 1000000000) :
 Calls Tryz.prog 162 #[.slice A n c] w fun e w' => ∃ A2 n2 c2, e = .returned (.agg #[.bool (sg (a : Int)), .slice A2 n2 c2]) ∧ ZZ w' (sg (a : Int)) A2 n2 c2 (limbs (a : Int).natAbs) (a : Int) L ∧ Below w.heap.size w w' := by
 have HW := Lib.hid (below_new w zbox)
 have HZ : RowKit.Hid (ZB (w.alloc zbox) w.heap.size) := row2_new w _ _ _
 have HN := Lib.hid (hx.below HW.out)
 clear hx
 go_enter Tryz.func162, Tryz.ntmps162
 go_wp2_with fail
 refine (refMake_c HN.out h1 (a : Int) (by simp [zOf])).mono ?_
 rintro e w2 ⟨A2, n2, c2, rfl, h4, bm⟩
 have BN4 := Lib.hid bm
 obtain ⟨e0, e1, f0, f1⟩ := (HZ.out.below BN4.out).cells
 have HF := Lib.hid ((HZ.out.below BN4.out).fill (.bool (sg (a : Int))) (.slice A2 n2 c2))
 have HP := Lib.hid (h4.put (HZ.out.below BN4.out) (.bool (sg (a : Int))) (.slice A2 n2 c2))
 have HB := Lib.hid (below_fill (g := w.heap.size) (below_two HW.out BN4.out) (Nat.le_refl _) (.bool (sg (a : Int))) (.slice A2 n2 c2))
 clear bm h4
 go_wp2
 refine bodyPost_ret (results_cell_row rfl _ _ w.heap.size 31 #[.bool (sg (a : Int)), .slice A2 n2 c2] (0, 0) _ rfl HF.out Tryz.underlying31 rfl int_size) rfl ?_
 exact ⟨A2, n2, c2, rfl, HP.out, HB.out⟩
set_option maxHeartbeats 4000000 in
set_option maxRecDepth 100000 in
theorem refWide_c (hx : ZZ w s A n c xs x L) (hy : NN w B m d ys b L') (h1 : L ≤ 10000) (h2 : L' ≤ 10000) (hb : b ≠ 0) (q : Rat) (hq : mkRat x b = q) :
 Calls Tryz.prog 103 #[.agg #[.bool s, .slice A n c], .slice B m d] w fun e w' => ∃ A2 n2 c2 B2 m2 d2, e = .returned (.agg #[.bool (sg q.num), .slice A2 n2 c2, .slice B2 m2 d2]) ∧ ZZ w' (sg q.num) A2 n2 c2 (limbs q.num.natAbs) q.num L ∧ NN w' B2 m2 d2 (limbs q.den) q.den L' ∧ Below w.heap.size w w' := by
 obtain ⟨g, hg⟩ : ∃ g, gcdN x.natAbs b = g := ⟨_, rfl⟩
 have hg2 : Nat.gcd x.natAbs b = g := hg
 have hg0 : g ≠ 0 := by rw [← hg2]; exact Nat.pos_iff_ne_zero.1 (Nat.gcd_pos_of_pos_right _ (Nat.pos_of_ne_zero hb))
 obtain ⟨m1, m2⟩ := mk_num (x := x) hb
 have m3 := mk_den (x := x) hb
 rw [hq, hg2] at m1 m3
 rw [hq] at m2
 have HS : RowKit.Hid (zOf (sg x) (x.natAbs / g) = q.num) := by
  show _ = _
  rw [← m1, ← m2]; exact zOf_sg
 have HD : RowKit.Hid (b / g = q.den) := m3.symm
 have Hg := Lib.hid hg
 have Hgl : RowKit.Hid (g < 4294967296 ^ (L + L')) := by
  show _ < _
  rw [← hg2]
  exact Nat.lt_of_le_of_lt (Nat.gcd_le_right _ (Nat.pos_of_ne_zero hb)) (Nat.lt_of_lt_of_le (lt_pow hy) (Nat.pow_le_pow_right (by decide) (Nat.le_add_left _ _)))
 clear hq m1 m2 m3 hg hg2 hb
 have b0 := below_new w (.cells #[Value.bool s, Value.slice A n c] 31)
 have b1 := below_new (w.alloc (.cells #[Value.bool s, Value.slice A n c] 31)) (.cells #[Value.bool false, Value.slice none 0 0, Value.slice none 0 0] 33)
 have HW := Lib.hid (below_two b0 b1)
 have HX := Lib.hid (hx.below HW.out)
 have HY := Lib.hid (hy.below HW.out)
 have r0 := (row2_new w 31 (.bool s) (.slice A n c)).below b1
 have rz := row3_new (w.alloc (.cells #[Value.bool s, Value.slice A n c] 31)) 33 (.bool false) (.slice none 0 0) (.slice none 0 0)
 simp only [World.size_alloc] at rz
 clear b0 b1 hx hy
 go_enter Tryz.func103, Tryz.ntmps103
 go_wp2_with fail
 generalize (w.alloc (.cells #[Value.bool s, Value.slice A n c] 31)).alloc (.cells #[Value.bool false, Value.slice none 0 0, Value.slice none 0 0] 33) = w1 at *
 have HZ := Lib.hid rz
 clear r0 rz
 refine (refITrim_c HX.out (by omega)).mono ?_
 rintro e w2 ⟨A5, n5, c5, rfl, h5, bn⟩
 have bx := below_new w2 (.cells #[Value.bool (sg x), Value.slice A5 n5 c5] 31)
 have H5 := Lib.hid (h5.below bx)
 have HR5 := Lib.hid (row2_new w2 31 (.bool (sg x)) (.slice A5 n5 c5))
 replace HY := Lib.hid ((HY.out.below bn).below bx)
 replace HZ := Lib.hid ((HZ.out.below bn).below bx)
 replace HW := Lib.hid (below_two (below_two HW.out bn) bx)
 have y0 := HR5.out.c0
 have y1 := HR5.out.c1
 clear h5 bn bx
 go_wp2_with fail
 clear y0 y1
 generalize w2.alloc (.cells #[Value.bool (sg x), Value.slice A5 n5 c5] 31) = w3 at *
 obtain ⟨q5, eg⟩ : ∃ g, g = w2.heap.size := ⟨_, rfl⟩
 rw [← eg] at HR5 ⊢
 clear eg
 refine (refGcd_c H5.out.nn HY.out (by omega) (by omega)).mono ?_
 rw [Hg.out]
 rintro e wS ⟨A6, n6, c6, rfl, h6, bn⟩
 have HG := Lib.hid h6
 replace H5 := Lib.hid (H5.out.below bn)
 replace HR5 := Lib.hid (HR5.out.below bn)
 replace HY := Lib.hid (HY.out.below bn)
 replace HZ := Lib.hid (HZ.out.below bn)
 replace HW := Lib.hid (below_two HW.out bn)
 have Hq : RowKit.Hid (w.heap.size ≤ w.heap.size + 1) := Nat.le_succ _
 have c0 := HR5.out.c0
 have c1 := HR5.out.c1
 clear h6 bn
 go_wp2_with fail
 clear c0 c1
 refine region_free 13 1 [13, 14, 15, 16, 17, 18, 19, 20, 21, 22, 23, 24, 25] ?aF1 (fun wx => Below wS.heap.size wS wx) (fun k vv wx => match k with
  | 0 => vv = .pointer (some ⟨q5, 0, none⟩)
  | 1 => vv = .bool (sg x)
  | 2 => vv = .pointer (some ⟨q5, 1, none⟩)
  | 3 => vv = .slice A5 n5 c5
  | 4 => vv = .slice A6 n6 c6
  | 5 => ∃ (e0 : Option Addr) (e1 : Nat) (e2 : Nat) (e3 : Option Addr) (e4 : Nat) (e5 : Nat), vv = .agg #[.slice e0 e1 e2, .slice e3 e4 e5, .bool true] ∧ NN wx e0 e1 e2 (limbs (x.natAbs / g)) (x.natAbs / g) L ∧ NN wx e3 e4 e5 (limbs (x.natAbs % g)) (x.natAbs % g) L
  | 6 => ∃ (e0 : Option Addr) (e1 : Nat) (e2 : Nat), vv = .slice e0 e1 e2 ∧ NN wx e0 e1 e2 (limbs (x.natAbs / g)) (x.natAbs / g) L
  | 7 => ∃ (e0 : Option Addr) (e1 : Nat) (e2 : Nat), vv = .agg #[.bool (sg q.num), .slice e0 e1 e2] ∧ ZZ wx (sg q.num) e0 e1 e2 (limbs q.num.natAbs) q.num L
  | 8 => vv = .slice B m d
  | 9 => vv = .slice A6 n6 c6
  | 10 => ∃ (e0 : Option Addr) (e1 : Nat) (e2 : Nat) (e3 : Option Addr) (e4 : Nat) (e5 : Nat), vv = .agg #[.slice e0 e1 e2, .slice e3 e4 e5, .bool true] ∧ NN wx e0 e1 e2 (limbs (b / g)) (b / g) L' ∧ NN wx e3 e4 e5 (limbs (b % g)) (b % g) L'
  | 11 => ∃ (e0 : Option Addr) (e1 : Nat) (e2 : Nat), vv = .slice e0 e1 e2 ∧ NN wx e0 e1 e2 (limbs (b / g)) (b / g) L'
  | _ => ∃ (e0 : Option Addr) (e1 : Nat) (e2 : Nat) (e3 : Option Addr) (e4 : Nat) (e5 : Nat), vv = .agg #[.bool (sg q.num), .slice e0 e1 e2, .slice e3 e4 e5] ∧ ZZ wx (sg q.num) e0 e1 e2 (limbs q.num.natAbs) q.num L ∧ NN wx e3 e4 e5 (limbs (b / g)) (b / g) L')
  (fun k => false) (by kernel_rfl) ?haF1 rfl (by kernel_rfl) (by kernel_rfl) (fun _ _ _ _ _ h => h) ?hSb1 ?hPb1 ?hS1 ?hop1 ?hfin1
 case haF1 =>
  intro vals
  simp only [fillAll, List.getElem?_cons_zero, List.getElem?_cons_succ, Act.put, List.setIfInBounds_toArray, List.set_cons_zero, List.set_cons_succ]
  exact rfl
 case hSb1 => exact fun wx w2 hb hS => below_two hS hb
 case hPb1 =>
  intro k v wa wb hb h
  match k, h with
  | 0, h => exact h
  | 1, h => exact h
  | 2, h => exact h
  | 3, h => exact h
  | 4, h => exact h
  | 5, ⟨e0, e1, e2, e3, e4, e5, h1, g0, g1⟩ => exact ⟨e0, e1, e2, e3, e4, e5, h1, g0.below hb, g1.below hb⟩
  | 6, ⟨e0, e1, e2, h1, g0⟩ => exact ⟨e0, e1, e2, h1, g0.below hb⟩
  | 7, ⟨e0, e1, e2, h1, g0⟩ => exact ⟨e0, e1, e2, h1, g0.below hb⟩
  | 8, h => exact h
  | 9, h => exact h
  | 10, ⟨e0, e1, e2, e3, e4, e5, h1, g0, g1⟩ => exact ⟨e0, e1, e2, e3, e4, e5, h1, g0.below hb, g1.below hb⟩
  | 11, ⟨e0, e1, e2, h1, g0⟩ => exact ⟨e0, e1, e2, h1, g0.below hb⟩
  | _ + 12, ⟨e0, e1, e2, e3, e4, e5, h1, g0, g1⟩ => exact ⟨e0, e1, e2, e3, e4, e5, h1, g0.below hb, g1.below hb⟩
 case hS1 => exact (Below.refl _ _).drew
 case hop1 =>
  refine .cons (k := 0) ?_ (.cons (k := 1) ?_ (.cons (k := 2) ?_ (.cons (k := 3) ?_ (.cons (k := 4) ?_ (.cons (k := 5) ?_ (.cons (k := 6) ?_ (.cons (k := 7) ?_ (.cons (k := 8) ?_ (.cons (k := 9) ?_ (.cons (k := 10) ?_ (.cons (k := 11) ?_ (.cons (k := 12) ?_ (.nil)))))))))))))
  all_goals intro vals wr hS hd KC hK
  all_goals (show Oper.wp _ _ _ _ _ _; dsimp only)
  · go_simp
    refine hK _ _ rfl (Below.refl _ _) (by first | rfl | simp) (fun h => by cases h)
  · have d0 : vals 0 = _ := hd 0 (by decide +kernel)
    rw [d0]
    have z0 := (HR5.out.below hS).c0
    go_simp
    refine hK _ _ rfl (Below.refl _ _) (by first | rfl | simp) (fun h => by cases h)
  · go_simp
    refine hK _ _ rfl (Below.refl _ _) (by first | rfl | simp) (fun h => by cases h)
  · have d2 : vals 2 = _ := hd 2 (by decide +kernel)
    rw [d2]
    have z0 := (HR5.out.below hS).c1
    go_simp
    refine hK _ _ rfl (Below.refl _ _) (by first | rfl | simp) (fun h => by cases h)
  · go_simp
    refine hK _ _ rfl (Below.refl _ _) (by first | rfl | simp) (fun h => by cases h)
  · have d3 : vals 3 = _ := hd 3 (by decide +kernel)
    have d4 : vals 4 = _ := hd 4 (by decide +kernel)
    rw [d3, d4]
    go_simp
    go_at_call 122
    with_reducible refine (refRem_yes (H5.out.nn.below hS) (HG.out.below hS) (by omega) (by omega) hg0).mono ?_
    rintro e w2 ⟨r0, r1, r2, r3, r4, r5, rfl, f0, f1, bn_r⟩
    refine hK _ _ rfl bn_r ⟨_, _, _, _, _, _, rfl, f0, f1⟩ (fun h => by cases h)
  · obtain ⟨A_5_0, n_5_1, n_5_2, A_5_3, n_5_4, n_5_5, d5, h_5_0, h_5_1⟩ := hd 5 (by decide +kernel)
    rw [d5]
    have hfld : ∀ W, (Instr.field 170 (.agg #[.slice A_5_0 n_5_1 n_5_2, .slice A_5_3 n_5_4 n_5_5, .bool true]) 0).run Tryz.prog W = .ok (.slice A_5_0 n_5_1 n_5_2) W := fun _ => by kernel_rfl
    go_simp
    refine hK _ _ rfl (Below.refl _ _) ⟨_, _, _, rfl, h_5_0⟩ (fun h => by cases h)
  · have d1 : vals 1 = _ := hd 1 (by decide +kernel)
    obtain ⟨A_6_0, n_6_1, n_6_2, d6, h_6_0⟩ := hd 6 (by decide +kernel)
    rw [d1, d6]
    go_simp
    go_at_call 85
    with_reducible refine (refMake_c h_6_0 (by omega) q.num HS.out).mono ?_
    rintro e w2 ⟨r0, r1, r2, rfl, f0, bn_r⟩
    refine hK _ _ rfl bn_r ⟨_, _, _, rfl, f0⟩ (fun h => by cases h)
  · go_simp
    refine hK _ _ rfl (Below.refl _ _) (by first | rfl | simp) (fun h => by cases h)
  · go_simp
    refine hK _ _ rfl (Below.refl _ _) (by first | rfl | simp) (fun h => by cases h)
  · have d8 : vals 8 = _ := hd 8 (by decide +kernel)
    have d9 : vals 9 = _ := hd 9 (by decide +kernel)
    rw [d8, d9]
    go_simp
    go_at_call 122
    with_reducible refine (refRem_yes (HY.out.below hS) (HG.out.below hS) (by omega) (by omega) hg0).mono ?_
    rintro e w2 ⟨r0, r1, r2, r3, r4, r5, rfl, f0, f1, bn_r⟩
    refine hK _ _ rfl bn_r ⟨_, _, _, _, _, _, rfl, f0, f1⟩ (fun h => by cases h)
  · obtain ⟨A_10_0, n_10_1, n_10_2, A_10_3, n_10_4, n_10_5, d10, h_10_0, h_10_1⟩ := hd 10 (by decide +kernel)
    rw [d10]
    have hfld : ∀ W, (Instr.field 170 (.agg #[.slice A_10_0 n_10_1 n_10_2, .slice A_10_3 n_10_4 n_10_5, .bool true]) 0).run Tryz.prog W = .ok (.slice A_10_0 n_10_1 n_10_2) W := fun _ => by kernel_rfl
    go_simp
    refine hK _ _ rfl (Below.refl _ _) ⟨_, _, _, rfl, h_10_0⟩ (fun h => by cases h)
  · obtain ⟨A_7_0, n_7_1, n_7_2, d7, h_7_0⟩ := hd 7 (by decide +kernel)
    obtain ⟨A_11_0, n_11_1, n_11_2, d11, h_11_0⟩ := hd 11 (by decide +kernel)
    rw [d7, d11]
    go_simp
    refine hK _ _ rfl (Below.refl _ _) ⟨_, _, _, _, _, _, rfl, h_7_0, h_11_0⟩ (fun h => by cases h)
 case hfin1 =>
  intro vals wr hS hP hne
  obtain ⟨y0, y1, y2, y3, y4, y5, ez, h3_0, h3_1⟩ := hP 12 (by decide)
  have hZ3 := HZ.out.below hS
  have hNo := hZ3.noLimb (by intro v e; cases e) (by intro v e; cases e) (by intro v e; cases e)
  have e0 := hZ3.c0
  have e1 := hZ3.c1
  have e2 := hZ3.c2
  have f0 := hZ3.free 0
  have f1 := hZ3.free 1
  have f2 := hZ3.free 2
  have HF := Lib.hid (hZ3.fill (.bool (sg q.num)) (.slice y0 y1 y2) (.slice y3 y4 y5))
  have HP1 := Lib.hid (h3_0.fillR3 hNo (.bool (sg q.num)) (.slice y0 y1 y2) (.slice y3 y4 y5))
  have HP2 := Lib.hid ((show NN wr y3 y4 y5 (limbs q.den) q.den L' from by rw [← HD.out]; exact h3_1).fillR3 hNo (.bool (sg q.num)) (.slice y0 y1 y2) (.slice y3 y4 y5))
  have HB := Lib.hid (below_fill3' (below_two HW.out hS) Hq.out (.bool (sg q.num)) (.slice y0 y1 y2) (.slice y3 y4 y5))
  try dsimp only
  rw [ez]
  refine wpAny_ready (rs := [13]) (by kernel_rfl) (by simp) (AllReady.cons rfl (fun KC hK => ?_) AllReady.nil)
  go_simp
  refine hK _ _ ?_
  clear hK KC
  refine wpAny_done (by kernel_rfl) ?_ _
  go_wp2
  refine bodyPost_ret (results_cell_row rfl _ _ _ 33 #[.bool (sg q.num), .slice y0 y1 y2, .slice y3 y4 y5] (0, 0) _ rfl HF.out Tryz.underlying33 rfl rat_size) rfl ?_
  exact ⟨y0, y1, y2, y3, y4, y5, rfl, HP1.out, HP2.out, HB.out⟩
end
end Go.Proofs.YtohokfbohdoijaaGreatDoor

/- What the statements' helpers keep.Rat and keep.OwnRat answer, as contracts over memory. Conditions: sizes of at most so many limbs. -/
namespace Go.Proofs.YtohokfbohdoijaaGreatDoor
open Go.RowKit Limb
set_option linter.unusedVariables false
section
variable {w : World} {s s' : Bool} {A B A' B' : Option Addr} {n c m d n' c' m' d' : Nat} {xs ys xs' ys' : List Nat} {x y : Int} {o o' : Option Rat} {a b L L' : Nat}
set_option maxHeartbeats 4000000 in
set_option maxRecDepth 100000 in
theorem keepRat_c (hx : QQ w s A n c xs B m d ys o L) (hx' : QQ w s' A' n' c' xs' B' m' d' ys' o' L') (h1 : L ≤ 100000) (h2 : L' ≤ 100000) (v : Bool) (hv : (decide (s = s') && same xs xs' && same ys ys') = v) :
 Calls Tryz.prog 27 #[.agg #[.bool s, .slice A n c, .slice B m d], .agg #[.bool s', .slice A' n' c', .slice B' m' d']] w fun e w' => e = .returned (.bool v) ∧ Below w.heap.size w w' := by
 have b0 := below_new w (.cells #[Value.bool s, Value.slice A n c, Value.slice B m d] 33)
 have b1 := below_new (w.alloc (.cells #[Value.bool s, Value.slice A n c, Value.slice B m d] 33)) (.cells #[Value.bool s', Value.slice A' n' c', Value.slice B' m' d'] 33)
 have HW := Lib.hid (below_two b0 b1)
 have HQ0 := Lib.hid (hx.below HW.out)
 have HQ1 := Lib.hid (hx'.below HW.out)
 have r0 := (row3_new w 33 (.bool s) (.slice A n c) (.slice B m d)).below b1
 have r1 := row3_new (w.alloc (.cells #[Value.bool s, Value.slice A n c, Value.slice B m d] 33)) 33 (.bool s') (.slice A' n' c') (.slice B' m' d')
 simp only [World.size_alloc] at r1
 clear b0 b1 hx hx'
 cases ht : decide (s = s') && same xs xs' with
 | true =>
  have K2 : RowKit.Hid (same ys ys' = v) := by
   show _ = _
   rw [← hv, ht, Bool.true_and]
  have K := Lib.hid ht
  clear ht hv
  go_enter Tryz.func27, Tryz.ntmps27
  go_wp2_with fail
  generalize (w.alloc (.cells #[Value.bool s, Value.slice A n c, Value.slice B m d] 33)).alloc (.cells #[Value.bool s', Value.slice A' n' c', Value.slice B' m' d'] 33) = w1 at *
  have HR0 := Lib.hid r0
  have HR1 := Lib.hid r1
  clear r0 r1
  refine (keepInt_c HQ0.out.top HQ1.out.top (by omega) (by omega) true K.out).mono ?_
  rintro e w2 ⟨rfl, bn⟩
  replace HQ0 := Lib.hid (HQ0.out.below bn)
  replace HQ1 := Lib.hid (HQ1.out.below bn)
  replace HR0 := Lib.hid (HR0.out.below bn)
  replace HR1 := Lib.hid (HR1.out.below bn)
  replace HW := Lib.hid (below_two HW.out bn)
  clear bn
  have c00 := HR0.out.c0
  have c01 := HR0.out.c1
  have c02 := HR0.out.c2
  have c10 := HR1.out.c0
  have c11 := HR1.out.c1
  have c12 := HR1.out.c2
  go_wp2_with fail
  clear c00 c01 c02
  clear c10 c11 c12
  refine (keep_c HQ0.out.bot HQ1.out.bot (by omega) (by omega) v K2.out).mono ?_
  rintro e w3 ⟨rfl, bn⟩
  replace HW := Lib.hid (below_two HW.out bn)
  clear bn
  go_wp2
  go_ret
  exact ⟨rfl, HW.out⟩
 | false =>
  obtain rfl : v = false := by rw [← hv, ht]; rfl
  have K := Lib.hid ht
  clear ht hv
  go_enter Tryz.func27, Tryz.ntmps27
  go_wp2_with fail
  generalize (w.alloc (.cells #[Value.bool s, Value.slice A n c, Value.slice B m d] 33)).alloc (.cells #[Value.bool s', Value.slice A' n' c', Value.slice B' m' d'] 33) = w1 at *
  have HR0 := Lib.hid r0
  have HR1 := Lib.hid r1
  clear r0 r1
  refine (keepInt_c HQ0.out.top HQ1.out.top (by omega) (by omega) false K.out).mono ?_
  rintro e w2 ⟨rfl, bn⟩
  replace HQ0 := Lib.hid (HQ0.out.below bn)
  replace HQ1 := Lib.hid (HQ1.out.below bn)
  replace HR0 := Lib.hid (HR0.out.below bn)
  replace HR1 := Lib.hid (HR1.out.below bn)
  replace HW := Lib.hid (below_two HW.out bn)
  clear bn
  go_wp2
  go_ret
  exact ⟨rfl, HW.out⟩
end
end Go.Proofs.YtohokfbohdoijaaGreatDoor

/- What package power's raiseSize answers, as a contract over memory: the power, bit by bit from the highest one, or that it has too many limbs. Conditions: at most 64 limbs, exponents of at most 600. -/
namespace Go.Proofs.YtohokfbohdoijaaGreatDoor
open Go.RowKit Limb
set_option linter.unusedVariables false
def fit64 (x : Nat) : Bool := decide (x < 4294967296 ^ 64)
theorem fit64_no {x : Nat} (h : ¬ x < 4294967296 ^ 64) : fit64 x = false := by simpa [fit64] using h
theorem fit64_up {v m N : Nat} (h : ¬ v ^ m < 4294967296 ^ 64) (hm : m ≤ N) : fit64 (v ^ N) = false := by
 refine fit64_no fun h2 => h ?_
 rcases Nat.eq_zero_or_pos v with h0 | h0
 · subst h0
   have h3 : 0 ^ m ≤ 1 := by
    rcases Nat.eq_zero_or_pos m with e | e
    · subst e; exact Nat.le_refl _
    · rw [Nat.zero_pow e]; omega
   exact Nat.lt_of_le_of_lt h3 (Nat.one_lt_pow (by decide) (by decide))
 · exact Nat.lt_of_le_of_lt (Nat.pow_le_pow_right h0 hm) h2
theorem half_bit (N p : Nat) : N / 2 ^ p = N / 2 ^ (p + 1) * 2 + (if N.testBit p = true then 1 else 0) := by
 have e : N / 2 ^ p = N / 2 ^ (p + 1) * 2 + (N / 2 ^ p) % 2 := by rw [Nat.pow_succ, ← Nat.div_div_eq_div_mul]; omega
 rw [Nat.testBit_eq_decide_div_mod_eq]
 rcases Nat.mod_two_eq_zero_or_one (N / 2 ^ p) with h | h
 · rw [h] at e ⊢; rw [if_neg (by decide)]; omega
 · rw [h] at e ⊢; rw [if_pos (by decide)]; omega
theorem pow_bit0 {v N p out : Nat} (ho : out = v ^ (N / 2 ^ (p + 1))) (hb : N.testBit p = false) : out * out = v ^ (N / 2 ^ p) := by
 rw [half_bit N p, hb, if_neg (by decide), ho, ← Nat.pow_add]
 congr 1; omega
theorem pow_bit1 {v N p out : Nat} (ho : out = v ^ (N / 2 ^ (p + 1))) (hb : N.testBit p = true) : out * out * v = v ^ (N / 2 ^ p) := by
 rw [half_bit N p, hb, if_pos rfl, Nat.pow_succ, ho, ← Nat.pow_add]
 congr 2; omega
theorem nn_over {w : World} {A : Option Addr} {n c a L : Nat} (h : NN w A n c (limbs a) a L) (hn : ¬ n ≤ 64) : ¬ a < 4294967296 ^ 64 := by
 intro h2; rw [h.len] at hn; exact hn (length_limbs_le h2)
theorem nn_under {w : World} {A : Option Addr} {n c a L : Nat} (h : NN w A n c (limbs a) a L) (hn : n ≤ 64) : a < 4294967296 ^ 64 := by
 rw [h.len] at hn
 have h2 := val_lt (small_limbs a)
 rw [val_limbs] at h2
 exact Nat.lt_of_lt_of_le h2 (Nat.pow_le_pow_right (by decide) hn)
theorem limbs_one : limbs 1 = [1] := by decide +kernel
theorem small_one63 : Small (1 :: List.replicate 63 0) := by intro x hx; simp at hx; omega
theorem lay_take (zs ys : List Nat) : (lay zs 0 ys).take ys.length = ys := by simp [lay]
set_option maxHeartbeats 4000000 in
set_option maxRecDepth 100000 in
theorem pSize_c {w : World} {A : Option Addr} {n c : Nat} {xs : List Nat} {v L : Nat} (hx : NN w A n c xs v L) (h1 : L ≤ 64) (N : Nat) (hN : N ≤ 600) (f : Bool) (hf : fit64 (v ^ N) = f) :
 Calls Tryz.prog 144 #[.slice A n c, .int .i64 (N : Int)] w fun e w' => ∃ A2 n2 c2, e = .returned (.tuple #[.slice A2 n2 c2, .bool f]) ∧ (f = true → NN w' A2 n2 c2 (limbs (v ^ N)) (v ^ N) 64) ∧ Below w.heap.size w w' := by
 have hm : N < 9223372036854775808 := by omega
 have hb : blen N ≤ 10 := blen_le (show N < 2 ^ 10 by omega)
 have HF := Lib.hid hf
 have HX := Lib.hid hx
 clear hf hx
 have Hlen := Lib.hid (len_any (N : Int))
 have hmk := run_made 64 64 rfl (by omega)
 have b0 := below_new w (.cells (madeCells #[.int .u32 0] 64) 84)
 have ho := own_made w 64 (by omega)
 have oc := ho.cell (k := 0) (by omega)
 have of := ho.1.frozenAt 0
 clear b0 ho
 go_enter Tryz.func144, Tryz.ntmps144
 go_wp2_with fail
 refine (Hlen.out _ (by omega) (by omega)).mono ?_
 rintro e w1 ⟨rfl, rfl⟩
 rw [Int.toNat_natCast]
 have HO1 : RowKit.Hid (OwnN (w.alloc (.cells ((madeCells #[.int .u32 0] 64).setIfInBounds 0 (.int .u32 1)) 84)) w.heap.size (some ⟨w.heap.size, 0, none⟩) 64 64 (1 :: List.replicate 63 0)) := by
  have e : (Obj.cells ((madeCells #[.int .u32 0] 64).setIfInBounds 0 (.int .u32 1)) 84) = Obj.cells ((1 :: List.replicate 63 0).map limV).toArray 84 := by kernel_rfl
  show OwnN _ _ _ _ _ _
  rw [e]; exact ⟨own_lit w _ 64 (by decide) (by decide), small_one63⟩
 have HB1 := Lib.hid (below_new w (.cells ((madeCells #[.int .u32 0] 64).setIfInBounds 0 (.int .u32 1)) 84))
 clear oc of hmk Hlen
 generalize w.alloc (.cells ((madeCells #[.int .u32 0] 64).setIfInBounds 0 (.int .u32 1)) 84) = w1 at *
 have HP0 : RowKit.Hid (1 = v ^ (N / 2 ^ blen N)) := by show _ = _; rw [Nat.div_eq_of_lt (blen_lt N), Nat.pow_zero]
 have HT0 : RowKit.Hid ((1 :: List.replicate 63 0).take 1 = limbs 1) := by show _ = _; rw [limbs_one]; rfl
 go_wp2
 go_loopw [7, 8] (fun sv i wr => ∃ (j sz p : Nat) (zs : List Nat), j ≤ 10 ∧ i = .int .i64 ((j : Int) - 1) ∧ sv = .int .i64 (sz : Int) ∧ sz ≤ 64 ∧ RowKit.Hid (p = v ^ (N / 2 ^ j)) ∧ RowKit.Hid (fit64 p = true) ∧ RowKit.Hid (zs.take sz = limbs p) ∧ RowKit.Hid (OwnN wr w.heap.size (some ⟨w.heap.size, 0, none⟩) 64 64 zs) ∧ RowKit.Hid (Below w.heap.size w wr)) (fun _ i _ => (intOf i + 1).toNat)
 case atStart => exact ⟨blen N, 1, 1, _, hb, rfl, rfl, by decide, HP0, (by decide +kernel : fit64 1 = true), HT0, HO1, HB1⟩
 case round =>
  clear HO1 HB1 HP0 HT0 hb
  obtain ⟨j, sz, p, zs, hj, rfl, rfl, hsz, HP, HQ, HT, HO, HB⟩ := hrel
  rcases j with _ | q
  · have HN : RowKit.Hid (NN wr (some ⟨w.heap.size, 0, none⟩) sz 64 (limbs (v ^ N)) (v ^ N) 64) := by
     have e0 : p = v ^ N := by have h := HP.out; rwa [Nat.pow_zero, Nat.div_one] at h
     have ho := (HO.out.take hsz).isN
     rw [HT.out, e0] at ho
     exact ⟨ho, val_limbs _, hsz, hsz⟩
    have Hf1 : RowKit.Hid (f = true) := by
     show _ = _
     have e0 : p = v ^ N := by have h := HP.out; rwa [Nat.pow_zero, Nat.div_one] at h
     rw [← HF.out, ← e0]; exact HQ.out
    clear HP HQ HT HO HF
    go_wp2
    go_ret2
    exact ⟨_, _, _, by rw [Hf1.out]; rfl, fun _ => HN.out, HB.out⟩
  · have ep : (((q + 1 : Nat) : Int) - 1) = (q : Int) := by omega
    rw [ep]
    have hq : q ≤ 9 := by omega
    have hbit := i64_bit N q hm
    clear ep hj
    have HS : RowKit.Hid (NN wr (some ⟨w.heap.size, 0, none⟩) sz 64 (limbs p) p 64) := by
     have ho := (HO.out.take hsz).isN
     rw [HT.out] at ho
     exact ⟨ho, val_limbs _, hsz, hsz⟩
    clear HT
    have hz0 : (0 : Int) ≤ (sz : Int) := by omega
    have hz1 : (sz : Int) ≤ 64 := by omega
    go_wp2
    generalize wr = wS at *
    refine region_free 7 1 [21, 22, 23, 24, 25, 26, 27] ?aF16 (fun wx => Below wS.heap.size wS wx) (fun k vv wx => match k with
     | 0 => vv = .slice (some ⟨w.heap.size, 0, none⟩) 64 64
     | 1 => vv = .int .i64 (sz : Int)
     | 2 => vv = .slice (some ⟨w.heap.size, 0, none⟩) sz 64
     | 3 => vv = .slice (some ⟨w.heap.size, 0, none⟩) 64 64
     | 4 => vv = .int .i64 (sz : Int)
     | 5 => vv = .slice (some ⟨w.heap.size, 0, none⟩) sz 64
     | _ => ∃ (e0 : Option Addr) (e1 : Nat) (e2 : Nat), vv = .slice e0 e1 e2 ∧ NN wx e0 e1 e2 (limbs (p * p)) (p * p) 128)
     (fun k => false) (by kernel_rfl) ?haF16 rfl (by kernel_rfl) (by kernel_rfl) (fun _ _ _ _ _ h => h) ?hSb16 ?hPb16 ?hS16 ?hop16 ?hfin16
    case haF16 =>
     intro vals
     simp only [fillAll, List.getElem?_cons_zero, List.getElem?_cons_succ, Act.put, List.setIfInBounds_toArray, List.set_cons_zero, List.set_cons_succ]
     exact rfl
    case hSb16 => exact fun wx w2 hb hS => below_two hS hb
    case hPb16 =>
     intro k v wa wb hb h
     match k, h with
     | 0, h => exact h
     | 1, h => exact h
     | 2, h => exact h
     | 3, h => exact h
     | 4, h => exact h
     | 5, h => exact h
     | _ + 6, ⟨e0, e1, e2, h1, g0⟩ => exact ⟨e0, e1, e2, h1, g0.below hb⟩
    case hS16 => exact (Below.refl _ _).drew
    case hop16 =>
     refine .cons (k := 0) ?_ (.cons (k := 1) ?_ (.cons (k := 2) ?_ (.cons (k := 3) ?_ (.cons (k := 4) ?_ (.cons (k := 5) ?_ (.cons (k := 6) ?_ (.nil)))))))
     all_goals intro vals wr hS hd KC hK
     all_goals (show Oper.wp _ _ _ _ _ _; dsimp only)
     · go_simp
       refine hK _ _ rfl (Below.refl _ _) (by first | rfl | simp) (fun h => by cases h)
     · go_simp
       refine hK _ _ rfl (Below.refl _ _) (by first | rfl | simp) (fun h => by cases h)
     · have d0 : vals 0 = _ := hd 0 (by decide +kernel)
       have d1 : vals 1 = _ := hd 1 (by decide +kernel)
       rw [d0, d1]
       go_simp
       refine hK _ _ rfl (Below.refl _ _) (by first | rfl | simp) (fun h => by cases h)
     · go_simp
       refine hK _ _ rfl (Below.refl _ _) (by first | rfl | simp) (fun h => by cases h)
     · go_simp
       refine hK _ _ rfl (Below.refl _ _) (by first | rfl | simp) (fun h => by cases h)
     · have d3 : vals 3 = _ := hd 3 (by decide +kernel)
       have d4 : vals 4 = _ := hd 4 (by decide +kernel)
       rw [d3, d4]
       go_simp
       refine hK _ _ rfl (Below.refl _ _) (by first | rfl | simp) (fun h => by cases h)
     · have d2 : vals 2 = _ := hd 2 (by decide +kernel)
       have d5 : vals 5 = _ := hd 5 (by decide +kernel)
       rw [d2, d5]
       go_simp
       go_at_call 61
       with_reducible refine (mulOf_c (HS.out.below hS) (HS.out.below hS) 128 (by decide) (by decide) (by decide)).mono ?_
       rintro e w2 ⟨r0, r1, r2, rfl, f0, bn_r⟩
       refine hK _ _ rfl bn_r ⟨_, _, _, rfl, f0⟩ (fun h => by cases h)
    case hfin16 =>
     intro vals wr hS hP hne
     obtain ⟨A_6_0, n_6_1, n_6_2, ez_6, h_6_0⟩ := hP 6 (by decide)
     have H3 := Lib.hid h_6_0
     have HO3 := Lib.hid (HO.out.below hS (Nat.le_refl _))
     have HB3 := Lib.hid (below_two HB.out hS)
     have hn3 : n_6_1 ≤ 128 := h_6_0.le
     clear HS HO HB hz0
     try dsimp only
     rw [ez_6]
     refine wpAny_ready (rs := [7]) (by kernel_rfl) (by simp) (AllReady.cons rfl (fun KC hK => ?_) AllReady.nil)
     go_simp
     refine hK _ _ ?_
     clear hK KC
     refine wpAny_done (by kernel_rfl) ?_ _
     obtain ⟨s, hs⟩ : ∃ s, s = v ^ (N / 2 ^ q) := ⟨_, rfl⟩
     have HP2 := Lib.hid hs
     clear hs h_6_0 ez_6 hS hP hne
     by_cases hbt : N.testBit q = true
     · have E : RowKit.Hid (p * p * v = s) := by show _ = _; rw [pow_bit1 HP.out hbt, ← HP2.out]
       rw [hbt] at hbit
       clear hbt HP
       go_wp2_with fail
       refine (mulOf_c H3.out (HX.out.below HB3.out) 192 (by decide) (by omega) (by omega)).mono ?_
       rintro e w4 ⟨A4, n4, c4, rfl, h4, bn⟩
       rw [E.out] at h4
       have H4 := Lib.hid h4
       have HO4 := Lib.hid (HO3.out.below bn (Nat.le_refl _))
       have HB4 := Lib.hid (below_two HB3.out bn)
       clear h4 bn HO3 HB3 H3 E hn3
       have h64d : n4 ≤ 192 := (H4.out).le
       have Hl : RowKit.Hid ((limbs s).length = n4) := H4.out.isN.len
       have Hy : RowKit.Hid (IsN w4 A4 n4 (limbs s)) := H4.out.isN
       by_cases h64 : n4 ≤ 64
       · have HQ2 : RowKit.Hid (fit64 s = true) := by show _ = _; simpa [fit64] using nn_under H4.out h64
         have Hfit : RowKit.Hid (n4 ≤ 64 ∧ 0 + n4 ≤ 64) := ⟨h64, by omega⟩
         clear HF HQ H4
         go_wp2_with (with_reducible refine wpList_copy_nat rfl (.tmp 41) (.tmp 42) rfl w.heap.size 0 64 64 A4 n4 c4 rfl rfl w.heap.size 64 zs HO4 (limbs s) Hy Hfit ?_)
         intro w5 HO5 Hoth Hbel
         have HB5 := Lib.hid (Hbel.out w HB4.out)
         have HT5 : RowKit.Hid ((lay zs 0 (limbs s)).take n4 = limbs s) := by show _ = _; have e := lay_take zs (limbs s); rwa [Hl.out] at e
         clear Hoth Hbel Hy Hfit Hl HO4 HB4
         go_wp2
         go_roundw
         case rel => exact ⟨q, n4, s, _, by omega, by go_num, rfl, h64, HP2, HQ2, HT5, HO5, HB5⟩
         case measure => simp [intOf]
       · have Hf0 : RowKit.Hid (f = false) := by
          show _ = _
          have hn := nn_over H4.out h64
          rw [HP2.out] at hn
          rw [← HF.out]; exact fit64_up hn (Nat.div_le_self _ _)
         clear HF HQ HP2 H4 HO4 Hy Hl
         go_wp2
         go_ret2
         exact ⟨none, 0, 0, by rw [Hf0.out]; rfl, (fun h => absurd (Hf0.out.symm.trans h) (by decide)), HB4.out⟩
     · have hbt : N.testBit q = false := by simpa using hbt
       have E : p * p = s := by rw [pow_bit0 HP.out hbt, ← HP2.out]
       rw [E] at H3
       rw [hbt] at hbit
       clear hbt HP E hn3
       have h64d : n_6_1 ≤ 128 := (H3.out).le
       have Hl : RowKit.Hid ((limbs s).length = n_6_1) := H3.out.isN.len
       have Hy : RowKit.Hid (IsN wr A_6_0 n_6_1 (limbs s)) := H3.out.isN
       by_cases h64 : n_6_1 ≤ 64
       · have HQ2 : RowKit.Hid (fit64 s = true) := by show _ = _; simpa [fit64] using nn_under H3.out h64
         have Hfit : RowKit.Hid (n_6_1 ≤ 64 ∧ 0 + n_6_1 ≤ 64) := ⟨h64, by omega⟩
         clear HF HQ H3
         go_wp2_with (with_reducible refine wpList_copy_nat rfl (.tmp 41) (.tmp 42) rfl w.heap.size 0 64 64 A_6_0 n_6_1 n_6_2 rfl rfl w.heap.size 64 zs HO3 (limbs s) Hy Hfit ?_)
         intro w5 HO5 Hoth Hbel
         have HB5 := Lib.hid (Hbel.out w HB3.out)
         have HT5 : RowKit.Hid ((lay zs 0 (limbs s)).take n_6_1 = limbs s) := by show _ = _; have e := lay_take zs (limbs s); rwa [Hl.out] at e
         clear Hoth Hbel Hy Hfit Hl HO3 HB3
         go_wp2
         go_roundw
         case rel => exact ⟨q, n_6_1, s, _, by omega, by go_num, rfl, h64, HP2, HQ2, HT5, HO5, HB5⟩
         case measure => simp [intOf]
       · have Hf0 : RowKit.Hid (f = false) := by
          show _ = _
          have hn := nn_over H3.out h64
          rw [HP2.out] at hn
          rw [← HF.out]; exact fit64_up hn (Nat.div_le_self _ _)
         clear HF HQ HP2 H3 HO3 Hy Hl
         go_wp2
         go_ret2
         exact ⟨none, 0, 0, by rw [Hf0.out]; rfl, (fun h => absurd (Hf0.out.symm.trans h) (by decide)), HB3.out⟩
end Go.Proofs.YtohokfbohdoijaaGreatDoor

/- What package whole's Mul answers, as a contract over memory: whole numbers in the shortest limbs, 0 not below 0. Conditions: sizes of at most so many limbs; the table of powers of ten where texts are made or read. -/
namespace Go.Proofs.YtohokfbohdoijaaGreatDoor
open Go.RowKit Limb
set_option linter.unusedVariables false
section
variable {w : World} {s s' : Bool} {A A' : Option Addr} {n c n' c' : Nat} {xs ys : List Nat} {x y : Int} {L L' : Nat}
set_option maxHeartbeats 4000000 in
set_option maxRecDepth 100000 in
theorem wMul_c (hx : ZZ w s A n c xs x L) (hy : ZZ w s' A' n' c' ys y L') (K : Nat) (h1 : L ≤ 100000) (h2 : L' ≤ 100000) (h3 : L + L' ≤ K) (z : Int) (hz : x * y = z) :
 Calls Tryz.prog 60 #[.agg #[.bool s, .slice A n c], .agg #[.bool s', .slice A' n' c']] w fun e w' => ∃ A2 n2 c2, e = .returned (.agg #[.bool (sg z), .slice A2 n2 c2]) ∧ ZZ w' (sg z) A2 n2 c2 (limbs z.natAbs) z K ∧ Below w.heap.size w w' := by
 have HS : RowKit.Hid (zOf (s != s') (x.natAbs * y.natAbs) = z) := (zOf_mul hx.zof hy.zof).trans hz
 clear hz
 have b0 := below_new w (.cells #[Value.bool s, Value.slice A n c] 31)
 have b1 := below_new (w.alloc (.cells #[Value.bool s, Value.slice A n c] 31)) (.cells #[Value.bool s', Value.slice A' n' c'] 31)
 have bz := below_new ((w.alloc (.cells #[Value.bool s, Value.slice A n c] 31)).alloc (.cells #[Value.bool s', Value.slice A' n' c'] 31)) zbox
 have HW := Lib.hid (below_two (below_two b0 b1) bz)
 have HN := Lib.hid (hx.nn.below HW.out)
 have HM := Lib.hid (hy.nn.below HW.out)
 have r0 := ((row2_new w 31 (.bool s) (.slice A n c)).below b1).below bz
 have r1 := (row2_new (w.alloc (.cells #[Value.bool s, Value.slice A n c] 31)) 31 (.bool s') (.slice A' n' c')).below bz
 have rz : ZB (((w.alloc (.cells #[Value.bool s, Value.slice A n c] 31)).alloc (.cells #[Value.bool s', Value.slice A' n' c'] 31)).alloc zbox) ((w.alloc (.cells #[Value.bool s, Value.slice A n c] 31)).alloc (.cells #[Value.bool s', Value.slice A' n' c'] 31)).heap.size := row2_new ((w.alloc (.cells #[Value.bool s, Value.slice A n c] 31)).alloc (.cells #[Value.bool s', Value.slice A' n' c'] 31)) _ _ _
 simp only [World.size_alloc] at r1 rz
 clear b0 b1 bz hx hy
 go_enter Tryz.func60, Tryz.ntmps60
 go_wp2
 generalize ((w.alloc (.cells #[Value.bool s, Value.slice A n c] 31)).alloc (.cells #[Value.bool s', Value.slice A' n' c'] 31)).alloc zbox = w1 at *
 have HR0 := Lib.hid r0
 have c00 := r0.c0
 have c01 := r0.c1
 have HR1 := Lib.hid r1
 have c10 := r1.c0
 have c11 := r1.c1
 have HZ := Lib.hid rz
 clear r0 r1 rz
 clear c00 c01 c10 c11
 refine region_free 11 1 [5, 6, 7, 8, 9, 10, 11, 12, 13, 14, 15] ?aF (fun wx => Below w1.heap.size w1 wx) (fun k v wx => match k with
  | 0 => v = .pointer (some ⟨w.heap.size, 0, none⟩)
  | 1 => v = .bool s
  | 2 => v = .pointer (some ⟨w.heap.size + 1, 0, none⟩)
  | 3 => v = .bool s'
  | 4 => v = .bool (s != s')
  | 5 => v = .pointer (some ⟨w.heap.size, 1, none⟩)
  | 6 => v = .slice A n c
  | 7 => v = .pointer (some ⟨w.heap.size + 1, 1, none⟩)
  | 8 => v = .slice A' n' c'
  | 9 => ∃ A2 n2 c2, v = .slice A2 n2 c2 ∧ NN wx A2 n2 c2 (limbs (x.natAbs * y.natAbs)) (x.natAbs * y.natAbs) K
  | _ => ∃ A2 n2 c2, v = .agg #[.bool (sg z), .slice A2 n2 c2] ∧ ZZ wx (sg z) A2 n2 c2 (limbs z.natAbs) z K)
  (fun _ => false) (by kernel_rfl) ?haF rfl (by kernel_rfl) (by kernel_rfl) (fun _ _ _ _ _ h => h) ?hSb ?hPb ?hS ?hop ?hfin
 case haF =>
  intro vals
  simp only [fillAll, List.getElem?_cons_zero, List.getElem?_cons_succ, Act.put, List.setIfInBounds_toArray, List.set_cons_zero, List.set_cons_succ]
  exact rfl
 case hSb => exact fun wx w2 hb hS => below_two hS hb
 case hPb =>
  intro k v wa wb hb h
  match k, h with
  | 0, h => exact h
  | 1, h => exact h
  | 2, h => exact h
  | 3, h => exact h
  | 4, h => exact h
  | 5, h => exact h
  | 6, h => exact h
  | 7, h => exact h
  | 8, h => exact h
  | 9, ⟨A2, n2, c2, h1, h2⟩ => exact ⟨A2, n2, c2, h1, h2.below hb⟩
  | _ + 10, ⟨A2, n2, c2, h1, h2⟩ => exact ⟨A2, n2, c2, h1, h2.below hb⟩
 case hS => exact (Below.refl _ _).drew
 case hop =>
  refine .cons (k := 0) ?_ (.cons (k := 1) ?_ (.cons (k := 2) ?_ (.cons (k := 3) ?_ (.cons (k := 4) ?_ (.cons (k := 5) ?_ (.cons (k := 6) ?_ (.cons (k := 7) ?_ (.cons (k := 8) ?_ (.cons (k := 9) ?_ (.cons (k := 10) ?_ (.nil)))))))))))
  all_goals intro vals wr hS hd KC hK
  all_goals (show Oper.wp _ _ _ _ _ _; dsimp only)
  · go_simp
    refine hK _ _ rfl (Below.refl _ _) rfl (fun h => by cases h)
  · have d0 : vals 0 = _ := hd 0 (by decide +kernel)
    rw [d0]
    have c0 := (HR0.out.below hS).c0
    go_simp
    refine hK _ _ rfl (Below.refl _ _) rfl (fun h => by cases h)
  · go_simp
    refine hK _ _ rfl (Below.refl _ _) rfl (fun h => by cases h)
  · have d2 : vals 2 = _ := hd 2 (by decide +kernel)
    rw [d2]
    have c0 := (HR1.out.below hS).c0
    go_simp
    refine hK _ _ rfl (Below.refl _ _) rfl (fun h => by cases h)
  · have d1 : vals 1 = _ := hd 1 (by decide +kernel)
    have d3 : vals 3 = _ := hd 3 (by decide +kernel)
    rw [d1, d3]
    go_simp
    refine hK _ _ rfl (Below.refl _ _) (by first | rfl | (simp)) (fun h => by cases h)
  · go_simp
    refine hK _ _ rfl (Below.refl _ _) rfl (fun h => by cases h)
  · have d5 : vals 5 = _ := hd 5 (by decide +kernel)
    rw [d5]
    have c0 := (HR0.out.below hS).c1
    go_simp
    refine hK _ _ rfl (Below.refl _ _) rfl (fun h => by cases h)
  · go_simp
    refine hK _ _ rfl (Below.refl _ _) rfl (fun h => by cases h)
  · have d7 : vals 7 = _ := hd 7 (by decide +kernel)
    rw [d7]
    have c0 := (HR1.out.below hS).c1
    go_simp
    refine hK _ _ rfl (Below.refl _ _) rfl (fun h => by cases h)
  · have d6 : vals 6 = _ := hd 6 (by decide +kernel)
    have d8 : vals 8 = _ := hd 8 (by decide +kernel)
    rw [d6, d8]
    go_simp
    go_at_call 61
    with_reducible refine (mulOf_c (HN.out.below hS) (HM.out.below hS) K (by omega) (by omega) h3).mono ?_
    rintro e w2 ⟨A_r, n_r, c_r, rfl, h_r, bn_r⟩
    refine hK _ _ rfl bn_r ⟨_, _, _, rfl, h_r⟩ (fun h => by cases h)
  · have d4 : vals 4 = _ := hd 4 (by decide +kernel)
    obtain ⟨A_m, n_m, c_m, d9, h_m⟩ := hd 9 (by decide +kernel)
    rw [d4, d9]
    go_simp
    go_at_call 99
    with_reducible refine (signed_c h_m _ z (by first | exact HS.out | simpa using HS.out)).mono ?_
    rintro e w2 ⟨rfl, h_r, bn_r⟩
    refine hK _ _ rfl bn_r ⟨_, _, _, rfl, h_r⟩ (fun h => by cases h)
 case hfin =>
  intro vals wr hS hP hne
  obtain ⟨A2, n2, c2, ez, h3⟩ := hP 10 (by decide)
  have hZ3 := HZ.out.below hS
  obtain ⟨e0, e1, f0, f1⟩ := hZ3.cells
  try dsimp only
  rw [ez]
  have HF := Lib.hid (hZ3.fill (.bool (sg z)) (.slice A2 n2 c2))
  have HP := Lib.hid (h3.put hZ3 (.bool (sg z)) (.slice A2 n2 c2))
  have HB := Lib.hid (below_fill (g := w.heap.size + 1 + 1) (below_two HW.out hS) (by omega) (.bool (sg z)) (.slice A2 n2 c2))
  refine wpAny_ready (rs := [11]) (by kernel_rfl) (by simp) (AllReady.cons rfl (fun KC hK => ?_) AllReady.nil)
  go_simp
  refine hK _ _ ?_
  clear hK KC
  refine wpAny_done (by kernel_rfl) ?_ _
  go_wp2
  refine bodyPost_ret (results_cell_row rfl _ _ (w.heap.size + 1 + 1) 31 #[.bool (sg z), .slice A2 n2 c2] (0, 0) _ rfl HF.out Tryz.underlying31 rfl int_size) rfl ?_
  exact ⟨A2, n2, c2, rfl, HP.out, HB.out⟩
end
end Go.Proofs.YtohokfbohdoijaaGreatDoor

/- What package whole's Trim answers, as a contract over memory: whole numbers in the shortest limbs, 0 not below 0. Conditions: sizes of at most so many limbs; the table of powers of ten where texts are made or read. -/
namespace Go.Proofs.YtohokfbohdoijaaGreatDoor
open Go.RowKit Limb
set_option linter.unusedVariables false
section
variable {w : World} {s s' : Bool} {A A' : Option Addr} {n c n' c' : Nat} {xs ys : List Nat} {x y : Int} {L L' : Nat}
set_option maxHeartbeats 4000000 in
set_option maxRecDepth 100000 in
theorem wTrim_c (hx : ZZ w s A n c xs x L) (h1 : L ≤ 100000) :
 Calls Tryz.prog 98 #[.agg #[.bool s, .slice A n c]] w fun e w' => ∃ A2 n2 c2, e = .returned (.agg #[.bool (sg x), .slice A2 n2 c2]) ∧ ZZ w' (sg x) A2 n2 c2 (limbs x.natAbs) x L ∧ Below w.heap.size w w' := by
 have HS := Lib.hid hx.zof
 have b0 := below_new w (.cells #[Value.bool s, Value.slice A n c] 31)
 have bz := below_new (w.alloc (.cells #[Value.bool s, Value.slice A n c] 31)) zbox
 have HW := Lib.hid (below_two b0 bz)
 have HN := Lib.hid (hx.nn.below HW.out)
 have r0 := (row2_new w 31 (.bool s) (.slice A n c)).below bz
 have rz : ZB ((w.alloc (.cells #[Value.bool s, Value.slice A n c] 31)).alloc zbox) (w.alloc (.cells #[Value.bool s, Value.slice A n c] 31)).heap.size := row2_new (w.alloc (.cells #[Value.bool s, Value.slice A n c] 31)) _ _ _
 simp only [World.size_alloc] at rz
 clear b0 bz hx
 go_enter Tryz.func98, Tryz.ntmps98
 go_wp2
 generalize (w.alloc (.cells #[Value.bool s, Value.slice A n c] 31)).alloc zbox = w1 at *
 have HR0 := Lib.hid r0
 have c00 := r0.c0
 have c01 := r0.c1
 have HZ := Lib.hid rz
 clear r0 rz
 clear c00 c01
 refine region_free 6 1 [3, 4, 5, 6, 7, 8] ?aF (fun wx => Below w1.heap.size w1 wx) (fun k v wx => match k with
  | 0 => v = .pointer (some ⟨w.heap.size, 0, none⟩)
  | 1 => v = .bool s
  | 2 => v = .pointer (some ⟨w.heap.size, 1, none⟩)
  | 3 => v = .slice A n c
  | 4 => ∃ A2 n2 c2, v = .slice A2 n2 c2 ∧ NN wx A2 n2 c2 (limbs x.natAbs) x.natAbs L
  | _ => ∃ A2 n2 c2, v = .agg #[.bool (sg x), .slice A2 n2 c2] ∧ ZZ wx (sg x) A2 n2 c2 (limbs x.natAbs) x L)
  (fun _ => false) (by kernel_rfl) ?haF rfl (by kernel_rfl) (by kernel_rfl) (fun _ _ _ _ _ h => h) ?hSb ?hPb ?hS ?hop ?hfin
 case haF =>
  intro vals
  simp only [fillAll, List.getElem?_cons_zero, List.getElem?_cons_succ, Act.put, List.setIfInBounds_toArray, List.set_cons_zero, List.set_cons_succ]
  exact rfl
 case hSb => exact fun wx w2 hb hS => below_two hS hb
 case hPb =>
  intro k v wa wb hb h
  match k, h with
  | 0, h => exact h
  | 1, h => exact h
  | 2, h => exact h
  | 3, h => exact h
  | 4, ⟨A2, n2, c2, h1, h2⟩ => exact ⟨A2, n2, c2, h1, h2.below hb⟩
  | _ + 5, ⟨A2, n2, c2, h1, h2⟩ => exact ⟨A2, n2, c2, h1, h2.below hb⟩
 case hS => exact (Below.refl _ _).drew
 case hop =>
  refine .cons (k := 0) ?_ (.cons (k := 1) ?_ (.cons (k := 2) ?_ (.cons (k := 3) ?_ (.cons (k := 4) ?_ (.cons (k := 5) ?_ (.nil))))))
  all_goals intro vals wr hS hd KC hK
  all_goals (show Oper.wp _ _ _ _ _ _; dsimp only)
  · go_simp
    refine hK _ _ rfl (Below.refl _ _) rfl (fun h => by cases h)
  · have d0 : vals 0 = _ := hd 0 (by decide +kernel)
    rw [d0]
    have c0 := (HR0.out.below hS).c0
    go_simp
    refine hK _ _ rfl (Below.refl _ _) rfl (fun h => by cases h)
  · go_simp
    refine hK _ _ rfl (Below.refl _ _) rfl (fun h => by cases h)
  · have d2 : vals 2 = _ := hd 2 (by decide +kernel)
    rw [d2]
    have c0 := (HR0.out.below hS).c1
    go_simp
    refine hK _ _ rfl (Below.refl _ _) rfl (fun h => by cases h)
  · have d3 : vals 3 = _ := hd 3 (by decide +kernel)
    rw [d3]
    go_simp
    go_at_call 102
    with_reducible refine (trim_c (HN.out.below hS) (by omega)).mono ?_
    rintro e w2 ⟨A_r, n_r, c_r, rfl, h_r, bn_r⟩
    refine hK _ _ rfl bn_r ⟨_, _, _, rfl, h_r⟩ (fun h => by cases h)
  · have d1 : vals 1 = _ := hd 1 (by decide +kernel)
    obtain ⟨A_m, n_m, c_m, d4, h_m⟩ := hd 4 (by decide +kernel)
    rw [d1, d4]
    go_simp
    go_at_call 99
    with_reducible refine (signed_c h_m _ x (by first | exact HS.out | simpa using HS.out)).mono ?_
    rintro e w2 ⟨rfl, h_r, bn_r⟩
    refine hK _ _ rfl bn_r ⟨_, _, _, rfl, h_r⟩ (fun h => by cases h)
 case hfin =>
  intro vals wr hS hP hne
  obtain ⟨A2, n2, c2, ez, h3⟩ := hP 5 (by decide)
  have hZ3 := HZ.out.below hS
  obtain ⟨e0, e1, f0, f1⟩ := hZ3.cells
  try dsimp only
  rw [ez]
  have HF := Lib.hid (hZ3.fill (.bool (sg x)) (.slice A2 n2 c2))
  have HP := Lib.hid (h3.put hZ3 (.bool (sg x)) (.slice A2 n2 c2))
  have HB := Lib.hid (below_fill (g := w.heap.size + 1) (below_two HW.out hS) (by omega) (.bool (sg x)) (.slice A2 n2 c2))
  refine wpAny_ready (rs := [6]) (by kernel_rfl) (by simp) (AllReady.cons rfl (fun KC hK => ?_) AllReady.nil)
  go_simp
  refine hK _ _ ?_
  clear hK KC
  refine wpAny_done (by kernel_rfl) ?_ _
  go_wp2
  refine bodyPost_ret (results_cell_row rfl _ _ (w.heap.size + 1) 31 #[.bool (sg x), .slice A2 n2 c2] (0, 0) _ rfl HF.out Tryz.underlying31 rfl int_size) rfl ?_
  exact ⟨A2, n2, c2, rfl, HP.out, HB.out⟩
end
end Go.Proofs.YtohokfbohdoijaaGreatDoor

/- What package whole's Cmp answers, as a contract over memory: whole numbers in the shortest limbs, 0 not below 0. Conditions: sizes of at most so many limbs; the table of powers of ten where texts are made or read. -/
namespace Go.Proofs.YtohokfbohdoijaaGreatDoor
open Go.RowKit Limb
set_option linter.unusedVariables false
section
variable {w : World} {s s' : Bool} {A A' : Option Addr} {n c n' c' : Nat} {xs ys : List Nat} {x y : Int} {L L' : Nat}
set_option maxHeartbeats 4000000 in
set_option maxRecDepth 100000 in
theorem wCmp_c (hx : ZZ w s A n c xs x L) (hy : ZZ w s' A' n' c' ys y L') (h1 : L ≤ 100000) (h2 : L' ≤ 100000) (v : Int) (hv : cmpZ x y = v) :
 Calls Tryz.prog 108 #[.agg #[.bool s, .slice A n c], .agg #[.bool s', .slice A' n' c']] w fun e w' => e = .returned (.int .i64 v) ∧ Below w.heap.size w w' := by
 have b0 := below_new w (.cells #[Value.bool s, Value.slice A n c] 31)
 have b1 := below_new (w.alloc (.cells #[Value.bool s, Value.slice A n c] 31)) (.cells #[Value.bool s', Value.slice A' n' c'] 31)
 have HW := Lib.hid (below_two b0 b1)
 have HN := Lib.hid (hx.below HW.out)
 have HM := Lib.hid (hy.below HW.out)
 have r0 := (row2_new w 31 (.bool s) (.slice A n c)).below b1
 have r1 := row2_new (w.alloc (.cells #[Value.bool s, Value.slice A n c] 31)) 31 (.bool s') (.slice A' n' c')
 simp only [World.size_alloc] at r1
 clear b0 b1 hx hy
 by_cases hx0 : x < 0
 · by_cases hy0 : y < 0
   · have hx2 : sg x = true := sg_neg hx0
     have hy2 : sg y = true := sg_neg hy0
     have HX2 := Lib.hid hx2
     have HY2 := Lib.hid hy2
     clear hx2 hy2
     have HV : RowKit.Hid (cmpI y.natAbs x.natAbs = v) := by
      show _ = _
      rw [← hv]; exact cmp_abs_neg hx0 hy0
     clear hv hx0 hy0
     go_enter Tryz.func108, Tryz.ntmps108
     go_wp2_with fail
     generalize (w.alloc (.cells #[Value.bool s, Value.slice A n c] 31)).alloc (.cells #[Value.bool s', Value.slice A' n' c'] 31) = w1 at *
     have HR0 := Lib.hid r0
     have HR1 := Lib.hid r1
     have c00 := r0.c0
     have c01 := r0.c1
     have c10 := r1.c0
     have c11 := r1.c1
     clear r0 r1
     refine (isBelow_c HN.out (by omega) true HX2.out).mono ?_
     rintro e w2 ⟨rfl, bn⟩
     replace HN := Lib.hid (HN.out.below bn)
     replace HM := Lib.hid (HM.out.below bn)
     replace HW := Lib.hid (below_two HW.out bn)
     replace HR0 := Lib.hid (HR0.out.below bn)
     replace HR1 := Lib.hid (HR1.out.below bn)
     clear bn c00 c01 c10 c11
     have c00 := HR0.out.c0
     have c01 := HR0.out.c1
     have c10 := HR1.out.c0
     have c11 := HR1.out.c1
     go_wp2_with fail
     refine (isBelow_c HM.out (by omega) true HY2.out).mono ?_
     rintro e w3 ⟨rfl, bn⟩
     replace HN := Lib.hid (HN.out.below bn)
     replace HM := Lib.hid (HM.out.below bn)
     replace HW := Lib.hid (below_two HW.out bn)
     replace HR0 := Lib.hid (HR0.out.below bn)
     replace HR1 := Lib.hid (HR1.out.below bn)
     clear bn c00 c01 c10 c11
     have c00 := HR0.out.c0
     have c01 := HR0.out.c1
     have c10 := HR1.out.c0
     have c11 := HR1.out.c1
     go_wp2_with fail
     refine (cmp_c HM.out.nn HN.out.nn (by omega) (by omega) v HV.out).mono ?_
     rintro e w9 ⟨rfl, bn⟩
     replace HW := Lib.hid (below_two HW.out bn)
     clear bn c00 c01 c10 c11
     go_wp2
     go_ret
     exact ⟨rfl, HW.out⟩
   · have hx2 : sg x = true := sg_neg hx0
     have hy2 : sg y = false := sg_pos (by omega)
     have HX2 := Lib.hid hx2
     have HY2 := Lib.hid hy2
     clear hx2 hy2
     obtain rfl : v = -1 := by rw [← hv]; exact cmpZ_lt (by omega)
     clear hv hx0 hy0
     go_enter Tryz.func108, Tryz.ntmps108
     go_wp2_with fail
     generalize (w.alloc (.cells #[Value.bool s, Value.slice A n c] 31)).alloc (.cells #[Value.bool s', Value.slice A' n' c'] 31) = w1 at *
     have HR0 := Lib.hid r0
     have HR1 := Lib.hid r1
     have c00 := r0.c0
     have c01 := r0.c1
     have c10 := r1.c0
     have c11 := r1.c1
     clear r0 r1
     refine (isBelow_c HN.out (by omega) true HX2.out).mono ?_
     rintro e w2 ⟨rfl, bn⟩
     replace HN := Lib.hid (HN.out.below bn)
     replace HM := Lib.hid (HM.out.below bn)
     replace HW := Lib.hid (below_two HW.out bn)
     replace HR0 := Lib.hid (HR0.out.below bn)
     replace HR1 := Lib.hid (HR1.out.below bn)
     clear bn c00 c01 c10 c11
     have c00 := HR0.out.c0
     have c01 := HR0.out.c1
     have c10 := HR1.out.c0
     have c11 := HR1.out.c1
     go_wp2_with fail
     refine (isBelow_c HM.out (by omega) false HY2.out).mono ?_
     rintro e w3 ⟨rfl, bn⟩
     replace HN := Lib.hid (HN.out.below bn)
     replace HM := Lib.hid (HM.out.below bn)
     replace HW := Lib.hid (below_two HW.out bn)
     replace HR0 := Lib.hid (HR0.out.below bn)
     replace HR1 := Lib.hid (HR1.out.below bn)
     clear bn c00 c01 c10 c11
     have c00 := HR0.out.c0
     have c01 := HR0.out.c1
     have c10 := HR1.out.c0
     have c11 := HR1.out.c1
     go_wp2_with fail
     refine (isBelow_c HN.out (by omega) true HX2.out).mono ?_
     rintro e w4 ⟨rfl, bn⟩
     replace HN := Lib.hid (HN.out.below bn)
     replace HM := Lib.hid (HM.out.below bn)
     replace HW := Lib.hid (below_two HW.out bn)
     replace HR0 := Lib.hid (HR0.out.below bn)
     replace HR1 := Lib.hid (HR1.out.below bn)
     clear bn c00 c01 c10 c11
     have c00 := HR0.out.c0
     have c01 := HR0.out.c1
     have c10 := HR1.out.c0
     have c11 := HR1.out.c1
     go_wp2
     go_ret
     exact ⟨rfl, HW.out⟩
 · by_cases hy0 : y < 0
   · have hx2 : sg x = false := sg_pos (by omega)
     have hy2 : sg y = true := sg_neg hy0
     have HX2 := Lib.hid hx2
     have HY2 := Lib.hid hy2
     clear hx2 hy2
     obtain rfl : v = 1 := by rw [← hv]; exact cmpZ_gt (by omega)
     clear hv hx0 hy0
     go_enter Tryz.func108, Tryz.ntmps108
     go_wp2_with fail
     generalize (w.alloc (.cells #[Value.bool s, Value.slice A n c] 31)).alloc (.cells #[Value.bool s', Value.slice A' n' c'] 31) = w1 at *
     have HR0 := Lib.hid r0
     have HR1 := Lib.hid r1
     have c00 := r0.c0
     have c01 := r0.c1
     have c10 := r1.c0
     have c11 := r1.c1
     clear r0 r1
     refine (isBelow_c HN.out (by omega) false HX2.out).mono ?_
     rintro e w2 ⟨rfl, bn⟩
     replace HN := Lib.hid (HN.out.below bn)
     replace HM := Lib.hid (HM.out.below bn)
     replace HW := Lib.hid (below_two HW.out bn)
     replace HR0 := Lib.hid (HR0.out.below bn)
     replace HR1 := Lib.hid (HR1.out.below bn)
     clear bn c00 c01 c10 c11
     have c00 := HR0.out.c0
     have c01 := HR0.out.c1
     have c10 := HR1.out.c0
     have c11 := HR1.out.c1
     go_wp2_with fail
     refine (isBelow_c HN.out (by omega) false HX2.out).mono ?_
     rintro e w3 ⟨rfl, bn⟩
     replace HN := Lib.hid (HN.out.below bn)
     replace HM := Lib.hid (HM.out.below bn)
     replace HW := Lib.hid (below_two HW.out bn)
     replace HR0 := Lib.hid (HR0.out.below bn)
     replace HR1 := Lib.hid (HR1.out.below bn)
     clear bn c00 c01 c10 c11
     have c00 := HR0.out.c0
     have c01 := HR0.out.c1
     have c10 := HR1.out.c0
     have c11 := HR1.out.c1
     go_wp2_with fail
     refine (isBelow_c HM.out (by omega) true HY2.out).mono ?_
     rintro e w4 ⟨rfl, bn⟩
     replace HN := Lib.hid (HN.out.below bn)
     replace HM := Lib.hid (HM.out.below bn)
     replace HW := Lib.hid (below_two HW.out bn)
     replace HR0 := Lib.hid (HR0.out.below bn)
     replace HR1 := Lib.hid (HR1.out.below bn)
     clear bn c00 c01 c10 c11
     have c00 := HR0.out.c0
     have c01 := HR0.out.c1
     have c10 := HR1.out.c0
     have c11 := HR1.out.c1
     go_wp2
     go_ret
     exact ⟨rfl, HW.out⟩
   · have hx2 : sg x = false := sg_pos (by omega)
     have hy2 : sg y = false := sg_pos (by omega)
     have HX2 := Lib.hid hx2
     have HY2 := Lib.hid hy2
     clear hx2 hy2
     have HV : RowKit.Hid (cmpI x.natAbs y.natAbs = v) := by
      show _ = _
      rw [← hv]; exact cmp_abs_pos (by omega) (by omega)
     clear hv hx0 hy0
     go_enter Tryz.func108, Tryz.ntmps108
     go_wp2_with fail
     generalize (w.alloc (.cells #[Value.bool s, Value.slice A n c] 31)).alloc (.cells #[Value.bool s', Value.slice A' n' c'] 31) = w1 at *
     have HR0 := Lib.hid r0
     have HR1 := Lib.hid r1
     have c00 := r0.c0
     have c01 := r0.c1
     have c10 := r1.c0
     have c11 := r1.c1
     clear r0 r1
     refine (isBelow_c HN.out (by omega) false HX2.out).mono ?_
     rintro e w2 ⟨rfl, bn⟩
     replace HN := Lib.hid (HN.out.below bn)
     replace HM := Lib.hid (HM.out.below bn)
     replace HW := Lib.hid (below_two HW.out bn)
     replace HR0 := Lib.hid (HR0.out.below bn)
     replace HR1 := Lib.hid (HR1.out.below bn)
     clear bn c00 c01 c10 c11
     have c00 := HR0.out.c0
     have c01 := HR0.out.c1
     have c10 := HR1.out.c0
     have c11 := HR1.out.c1
     go_wp2_with fail
     refine (isBelow_c HN.out (by omega) false HX2.out).mono ?_
     rintro e w3 ⟨rfl, bn⟩
     replace HN := Lib.hid (HN.out.below bn)
     replace HM := Lib.hid (HM.out.below bn)
     replace HW := Lib.hid (below_two HW.out bn)
     replace HR0 := Lib.hid (HR0.out.below bn)
     replace HR1 := Lib.hid (HR1.out.below bn)
     clear bn c00 c01 c10 c11
     have c00 := HR0.out.c0
     have c01 := HR0.out.c1
     have c10 := HR1.out.c0
     have c11 := HR1.out.c1
     go_wp2_with fail
     refine (isBelow_c HM.out (by omega) false HY2.out).mono ?_
     rintro e w4 ⟨rfl, bn⟩
     replace HN := Lib.hid (HN.out.below bn)
     replace HM := Lib.hid (HM.out.below bn)
     replace HW := Lib.hid (below_two HW.out bn)
     replace HR0 := Lib.hid (HR0.out.below bn)
     replace HR1 := Lib.hid (HR1.out.below bn)
     clear bn c00 c01 c10 c11
     have c00 := HR0.out.c0
     have c01 := HR0.out.c1
     have c10 := HR1.out.c0
     have c11 := HR1.out.c1
     go_wp2_with fail
     refine (cmp_c HN.out.nn HM.out.nn (by omega) (by omega) v HV.out).mono ?_
     rintro e w9 ⟨rfl, bn⟩
     replace HW := Lib.hid (below_two HW.out bn)
     clear bn c00 c01 c10 c11
     go_wp2
     go_ret
     exact ⟨rfl, HW.out⟩
end
end Go.Proofs.YtohokfbohdoijaaGreatDoor

/- What package whole's Of answers, as a contract over memory: whole numbers in the shortest limbs, 0 not below 0. Conditions: sizes of at most so many limbs; the table of powers of ten where texts are made or read. -/
namespace Go.Proofs.YtohokfbohdoijaaGreatDoor
open Go.RowKit Limb
set_option linter.unusedVariables false
set_option maxHeartbeats 4000000 in
set_option maxRecDepth 100000 in
theorem wOf_c (v : Int) (h0 : -9223372036854775808 ≤ v) (h1 : v ≤ 9223372036854775807) (w : World) :
 Calls Tryz.prog 65 #[.int .i64 v] w fun e w' => ∃ A2 n2 c2, e = .returned (.agg #[.bool (sg v), .slice A2 n2 c2]) ∧ ZZ w' (sg v) A2 n2 c2 (limbs v.natAbs) v 2 ∧ Below w.heap.size w w' := by
 have HW := Lib.hid (below_new w zbox)
 have HZ : RowKit.Hid (ZB (w.alloc zbox) w.heap.size) := row2_new w _ _ _
 by_cases hv0 : v < 0
 · obtain ⟨u, hu⟩ : ∃ u, u = v.natAbs := ⟨_, rfl⟩
   have hlt : u < 18446744073709551616 := by omega
   have ec : IntKind.u64.wrap v = v + 18446744073709551616 := by rw [conv_u64 h0 h1, if_pos hv0]
   have en : IntKind.u64.wrap (-(v + 18446744073709551616)) = (u : Int) := by rw [IntKind.wrap_u64]; omega
   have HS : RowKit.Hid (zOf true u = v) := by
    show _ = _
    rw [hu]; unfold zOf; simp; omega
   have HSd : RowKit.Hid (zOf (decide (v < 0)) u = v) := by
    show _ = _
    rw [hu]; exact zz_zof
   have HC := Lib.hid (of_c u _ rfl hlt (w.alloc zbox))
   clear hu h0 h1
   go_enter Tryz.func65, Tryz.ntmps65
   go_wp2_with fail
   refine HC.out.mono ?_
   rintro e w2 ⟨A2, n2, c2, rfl, h2, bn⟩
   have BN2 := Lib.hid bn
   clear bn
   go_wp2_with fail
   refine (signed_c h2 _ v (by first | exact HS.out | simpa using HS.out | exact HSd.out)).mono ?_
   rintro e w4 ⟨rfl, h4, bm⟩
   have BN4 := Lib.hid (below_two BN2.out bm)
   obtain ⟨e0, e1, f0, f1⟩ := (HZ.out.below BN4.out).cells
   have HF := Lib.hid ((HZ.out.below BN4.out).fill (.bool (sg v)) (.slice A2 n2 c2))
   have HP := Lib.hid (h4.put (HZ.out.below BN4.out) (.bool (sg v)) (.slice A2 n2 c2))
   have HB := Lib.hid (below_fill (g := w.heap.size) (below_two HW.out BN4.out) (by omega) (.bool (sg v)) (.slice A2 n2 c2))
   clear bm
   go_wp2
   refine bodyPost_ret (results_cell_row rfl _ _ (w.heap.size) 31 #[.bool (sg v), .slice A2 n2 c2] (0, 0) _ rfl HF.out Tryz.underlying31 rfl int_size) rfl ?_
   exact ⟨A2, n2, c2, rfl, HP.out, HB.out⟩
 · obtain ⟨u, hu⟩ : ∃ u, u = v.natAbs := ⟨_, rfl⟩
   have hlt : u < 18446744073709551616 := by omega
   have ec : IntKind.u64.wrap v = (u : Int) := by rw [conv_u64 h0 h1, if_neg hv0]; omega
   have hv1 : 0 ≤ v := by omega
   have HS : RowKit.Hid (zOf false u = v) := by
    show _ = _
    rw [hu]; unfold zOf; simp; omega
   have HSd : RowKit.Hid (zOf (decide (v < 0)) u = v) := by
    show _ = _
    rw [hu]; exact zz_zof
   have HC := Lib.hid (of_c u _ rfl hlt (w.alloc zbox))
   clear hu h0 h1 hv0
   go_enter Tryz.func65, Tryz.ntmps65
   go_wp2_with fail
   refine HC.out.mono ?_
   rintro e w2 ⟨A2, n2, c2, rfl, h2, bn⟩
   have BN2 := Lib.hid bn
   clear bn
   go_wp2_with fail
   refine (signed_c h2 _ v (by first | exact HS.out | simpa using HS.out | exact HSd.out)).mono ?_
   rintro e w4 ⟨rfl, h4, bm⟩
   have BN4 := Lib.hid (below_two BN2.out bm)
   obtain ⟨e0, e1, f0, f1⟩ := (HZ.out.below BN4.out).cells
   have HF := Lib.hid ((HZ.out.below BN4.out).fill (.bool (sg v)) (.slice A2 n2 c2))
   have HP := Lib.hid (h4.put (HZ.out.below BN4.out) (.bool (sg v)) (.slice A2 n2 c2))
   have HB := Lib.hid (below_fill (g := w.heap.size) (below_two HW.out BN4.out) (by omega) (.bool (sg v)) (.slice A2 n2 c2))
   clear bm
   go_wp2
   refine bodyPost_ret (results_cell_row rfl _ _ (w.heap.size) 31 #[.bool (sg v), .slice A2 n2 c2] (0, 0) _ rfl HF.out Tryz.underlying31 rfl int_size) rfl ?_
   exact ⟨A2, n2, c2, rfl, HP.out, HB.out⟩
end Go.Proofs.YtohokfbohdoijaaGreatDoor

/- What the reference's product of layer 6 answers, as a contract over memory. Conditions: sizes of at most so many limbs. -/
namespace Go.Proofs.YtohokfbohdoijaaGreatDoor
open Go.RowKit Limb
set_option linter.unusedVariables false
theorem sg_zof {x : Int} : zOf (sg x) x.natAbs = x := by
 unfold zOf sg
 by_cases h : x < 0
 · simp [h]; omega
 · simp [h]; omega
section
variable {w : World} {s s' : Bool} {A A' : Option Addr} {n c n' c' : Nat} {xs ys : List Nat} {x y : Int} {L L' : Nat}
set_option maxHeartbeats 4000000 in
set_option maxRecDepth 100000 in
theorem refIMul_c (hx : ZZ w s A n c xs x L) (hy : ZZ w s' A' n' c' ys y L') (h1 : L ≤ 100000) (h2 : L' ≤ 100000) (z : Int) (hz : x * y = z) :
 Calls Tryz.prog 104 #[.agg #[.bool s, .slice A n c], .agg #[.bool s', .slice A' n' c']] w fun e w' => ∃ A2 n2 c2, e = .returned (.agg #[.bool (sg z), .slice A2 n2 c2]) ∧ ZZ w' (sg z) A2 n2 c2 (limbs z.natAbs) z (L + L') ∧ Below w.heap.size w w' := by
 have HS : RowKit.Hid (zOf (sg x != sg y) (x.natAbs * y.natAbs) = z) := (zOf_mul sg_zof sg_zof).trans hz
 have HX0 := Lib.hid hx
 have HY0 := Lib.hid hy
 clear hz
 have b0 := below_new w (.cells #[Value.bool s, Value.slice A n c] 31)
 have b1 := below_new (w.alloc (.cells #[Value.bool s, Value.slice A n c] 31)) (.cells #[Value.bool s', Value.slice A' n' c'] 31)
 have bz := below_new ((w.alloc (.cells #[Value.bool s, Value.slice A n c] 31)).alloc (.cells #[Value.bool s', Value.slice A' n' c'] 31)) zbox
 have HW := Lib.hid (below_two (below_two b0 b1) bz)
 have HN := Lib.hid (hx.nn.below HW.out)
 have HM := Lib.hid (hy.nn.below HW.out)
 have r0 := ((row2_new w 31 (.bool s) (.slice A n c)).below b1).below bz
 have r1 := (row2_new (w.alloc (.cells #[Value.bool s, Value.slice A n c] 31)) 31 (.bool s') (.slice A' n' c')).below bz
 have rz : ZB (((w.alloc (.cells #[Value.bool s, Value.slice A n c] 31)).alloc (.cells #[Value.bool s', Value.slice A' n' c'] 31)).alloc zbox) ((w.alloc (.cells #[Value.bool s, Value.slice A n c] 31)).alloc (.cells #[Value.bool s', Value.slice A' n' c'] 31)).heap.size := row2_new ((w.alloc (.cells #[Value.bool s, Value.slice A n c] 31)).alloc (.cells #[Value.bool s', Value.slice A' n' c'] 31)) _ _ _
 simp only [World.size_alloc] at r1 rz
 clear b0 b1 bz hx hy
 go_enter Tryz.func104, Tryz.ntmps104
 go_wp2
 have HX := Lib.hid (HX0.out.below HW.out)
 have HY := Lib.hid (HY0.out.below HW.out)
 generalize ((w.alloc (.cells #[Value.bool s, Value.slice A n c] 31)).alloc (.cells #[Value.bool s', Value.slice A' n' c'] 31)).alloc zbox = wS at *
 have HR0 := Lib.hid r0
 have c00 := r0.c0
 have c01 := r0.c1
 have HR1 := Lib.hid r1
 have c10 := r1.c0
 have c11 := r1.c1
 have HZ := Lib.hid rz
 clear r0 r1 rz
 have Hq : RowKit.Hid (w.heap.size ≤ w.heap.size + 1 + 1) := by show _ ≤ _; omega
 clear c00 c01 c10 c11
 refine region_free 13 1 [5, 6, 7, 8, 9, 10, 11, 12, 13, 14, 15, 16, 17] ?aF1 (fun wx => Below wS.heap.size wS wx) (fun k v wx => match k with
  | 0 => v = .agg #[.bool s, .slice A n c]
  | 1 => ∃ A2 n2 c2, v = .agg #[.bool (sg x), .slice A2 n2 c2] ∧ ZZ wx (sg x) A2 n2 c2 (limbs x.natAbs) x L
  | 2 => v = .bool (sg x)
  | 3 => v = .agg #[.bool s', .slice A' n' c']
  | 4 => ∃ A2 n2 c2, v = .agg #[.bool (sg y), .slice A2 n2 c2] ∧ ZZ wx (sg y) A2 n2 c2 (limbs y.natAbs) y L'
  | 5 => v = .bool (sg y)
  | 6 => v = .bool (sg x != sg y)
  | 7 => v = .pointer (some ⟨w.heap.size, 1, none⟩)
  | 8 => v = .slice A n c
  | 9 => v = .pointer (some ⟨w.heap.size + 1, 1, none⟩)
  | 10 => v = .slice A' n' c'
  | 11 => ∃ A2 n2 c2, v = .slice A2 n2 c2 ∧ NN wx A2 n2 c2 (limbs (x.natAbs * y.natAbs)) (x.natAbs * y.natAbs) (L + L')
  | _ => ∃ A2 n2 c2, v = .agg #[.bool (sg z), .slice A2 n2 c2] ∧ ZZ wx (sg z) A2 n2 c2 (limbs z.natAbs) z (L + L'))
  (fun _ => false) (by kernel_rfl) ?haF1 rfl (by kernel_rfl) (by kernel_rfl) (fun _ _ _ _ _ h => h) ?hSb1 ?hPb1 ?hS1 ?hop1 ?hfin1
 case haF1 =>
  intro vals
  simp only [fillAll, List.getElem?_cons_zero, List.getElem?_cons_succ, Act.put, List.setIfInBounds_toArray, List.set_cons_zero, List.set_cons_succ]
  exact rfl
 case hSb1 => exact fun wx w2 hb hS => below_two hS hb
 case hPb1 =>
  intro k v wa wb hb h
  match k, h with
  | 0, h => exact h
  | 1, ⟨A2, n2, c2, h1, h2⟩ => exact ⟨A2, n2, c2, h1, h2.below hb⟩
  | 2, h => exact h
  | 3, h => exact h
  | 4, ⟨A2, n2, c2, h1, h2⟩ => exact ⟨A2, n2, c2, h1, h2.below hb⟩
  | 5, h => exact h
  | 6, h => exact h
  | 7, h => exact h
  | 8, h => exact h
  | 9, h => exact h
  | 10, h => exact h
  | 11, ⟨A2, n2, c2, h1, h2⟩ => exact ⟨A2, n2, c2, h1, h2.below hb⟩
  | _ + 12, ⟨A2, n2, c2, h1, h2⟩ => exact ⟨A2, n2, c2, h1, h2.below hb⟩
 case hS1 => exact (Below.refl _ _).drew
 case hop1 =>
  refine .cons (k := 0) ?_ (.cons (k := 1) ?_ (.cons (k := 2) ?_ (.cons (k := 3) ?_ (.cons (k := 4) ?_ (.cons (k := 5) ?_ (.cons (k := 6) ?_ (.cons (k := 7) ?_ (.cons (k := 8) ?_ (.cons (k := 9) ?_ (.cons (k := 10) ?_ (.cons (k := 11) ?_ (.cons (k := 12) ?_ (.nil)))))))))))))
  all_goals intro vals wr hS hd KC hK
  all_goals (show Oper.wp _ _ _ _ _ _; dsimp only)
  · have c0 := (HR0.out.below hS).c0
    have c1 := (HR0.out.below hS).c1
    go_simp
    refine hK _ _ rfl (Below.refl _ _) (by first | rfl | simp) (fun h => by cases h)
  · have d0 : vals 0 = _ := hd 0 (by decide +kernel)
    rw [d0]
    go_simp
    go_at_call 135
    with_reducible refine (refITrim_c (HX.out.below hS) (by omega)).mono ?_
    rintro e w2 ⟨A_r, n_r, c_r, rfl, h_r, bn_r⟩
    refine hK _ _ rfl bn_r ⟨_, _, _, rfl, h_r⟩ (fun h => by cases h)
  · obtain ⟨A_1, n_1, c_1, d1, h_1⟩ := hd 1 (by decide +kernel)
    rw [d1]
    have hfld : ∀ W, (Instr.field 31 (.agg #[.bool (sg x), .slice A_1 n_1 c_1]) 0).run Tryz.prog W = .ok (.bool (sg x)) W := fun _ => by kernel_rfl
    go_simp
    refine hK _ _ rfl (Below.refl _ _) (by first | rfl | simp) (fun h => by cases h)
  · have c0 := (HR1.out.below hS).c0
    have c1 := (HR1.out.below hS).c1
    go_simp
    refine hK _ _ rfl (Below.refl _ _) (by first | rfl | simp) (fun h => by cases h)
  · have d3 : vals 3 = _ := hd 3 (by decide +kernel)
    rw [d3]
    go_simp
    go_at_call 135
    with_reducible refine (refITrim_c (HY.out.below hS) (by omega)).mono ?_
    rintro e w2 ⟨A_r, n_r, c_r, rfl, h_r, bn_r⟩
    refine hK _ _ rfl bn_r ⟨_, _, _, rfl, h_r⟩ (fun h => by cases h)
  · obtain ⟨A_4, n_4, c_4, d4, h_4⟩ := hd 4 (by decide +kernel)
    rw [d4]
    have hfld : ∀ W, (Instr.field 31 (.agg #[.bool (sg y), .slice A_4 n_4 c_4]) 0).run Tryz.prog W = .ok (.bool (sg y)) W := fun _ => by kernel_rfl
    go_simp
    refine hK _ _ rfl (Below.refl _ _) (by first | rfl | simp) (fun h => by cases h)
  · have d2 : vals 2 = _ := hd 2 (by decide +kernel)
    have d5 : vals 5 = _ := hd 5 (by decide +kernel)
    rw [d2, d5]
    go_simp
    refine hK _ _ rfl (Below.refl _ _) (by first | rfl | simp) (fun h => by cases h)
  · go_simp
    refine hK _ _ rfl (Below.refl _ _) (by first | rfl | simp) (fun h => by cases h)
  · have d7 : vals 7 = _ := hd 7 (by decide +kernel)
    rw [d7]
    have c0 := (HR0.out.below hS).c1
    go_simp
    refine hK _ _ rfl (Below.refl _ _) (by first | rfl | simp) (fun h => by cases h)
  · go_simp
    refine hK _ _ rfl (Below.refl _ _) (by first | rfl | simp) (fun h => by cases h)
  · have d9 : vals 9 = _ := hd 9 (by decide +kernel)
    rw [d9]
    have c0 := (HR1.out.below hS).c1
    go_simp
    refine hK _ _ rfl (Below.refl _ _) (by first | rfl | simp) (fun h => by cases h)
  · have d8 : vals 8 = _ := hd 8 (by decide +kernel)
    have d10 : vals 10 = _ := hd 10 (by decide +kernel)
    rw [d8, d10]
    go_simp
    go_at_call 105
    with_reducible refine (refMul_c (HX.out.nn.below hS) (HY.out.nn.below hS) (by omega) (by omega)).mono ?_
    rintro e w2 ⟨A_r, n_r, c_r, rfl, h_r, bn_r⟩
    refine hK _ _ rfl bn_r ⟨_, _, _, rfl, h_r⟩ (fun h => by cases h)
  · have d6 : vals 6 = _ := hd 6 (by decide +kernel)
    obtain ⟨A_11, n_11, c_11, d11, h_11⟩ := hd 11 (by decide +kernel)
    rw [d6, d11]
    go_simp
    go_at_call 85
    with_reducible refine (refMake_c h_11 (by omega) z (by first | exact HS.out | simpa using HS.out)).mono ?_
    rintro e w2 ⟨A_r, n_r, c_r, rfl, h_r, bn_r⟩
    refine hK _ _ rfl bn_r ⟨_, _, _, rfl, h_r⟩ (fun h => by cases h)
 case hfin1 =>
  intro vals wr hS hP hne
  obtain ⟨A2, n2, c2, ez, h3⟩ := hP 12 (by decide)
  have hZ3 := HZ.out.below hS
  obtain ⟨e0, e1, f0, f1⟩ := hZ3.cells
  try dsimp only
  rw [ez]
  have HF := Lib.hid (hZ3.fill (.bool (sg z)) (.slice A2 n2 c2))
  have HP := Lib.hid (h3.put hZ3 (.bool (sg z)) (.slice A2 n2 c2))
  have HB := Lib.hid (below_fill (below_two HW.out hS) Hq.out (.bool (sg z)) (.slice A2 n2 c2))
  refine wpAny_ready (rs := [13]) (by kernel_rfl) (by simp) (AllReady.cons rfl (fun KC hK => ?_) AllReady.nil)
  go_simp
  refine hK _ _ ?_
  clear hK KC
  refine wpAny_done (by kernel_rfl) ?_ _
  go_wp2
  refine bodyPost_ret (results_cell_row rfl _ _ (w.heap.size + 1 + 1) 31 #[.bool (sg z), .slice A2 n2 c2] (0, 0) _ rfl HF.out Tryz.underlying31 rfl int_size) rfl ?_
  exact ⟨A2, n2, c2, rfl, HP.out, HB.out⟩
end
end Go.Proofs.YtohokfbohdoijaaGreatDoor

/- What the reference's sum of layer 6 answers, as a contract over memory. Conditions: sizes of at most so many limbs. -/
namespace Go.Proofs.YtohokfbohdoijaaGreatDoor
open Go.RowKit Limb
set_option linter.unusedVariables false
end Go.Proofs.YtohokfbohdoijaaGreatDoor

/- What the reference's comparison of layer 6 answers, as a contract over memory. Conditions: sizes of at most so many limbs. -/
namespace Go.Proofs.YtohokfbohdoijaaGreatDoor
open Go.RowKit Limb
set_option linter.unusedVariables false
set_option maxHeartbeats 40000000 in
set_option maxRecDepth 100000 in
theorem refICmp_c {g_x g_y : Bool} {A_x A_y : Option Addr} {n_x c_x n_y c_y : Nat} {xs_x xs_y : List Nat} {z_x z_y : Int} {L_x L_y : Nat} {w : World} (h_x : ZZ w g_x A_x n_x c_x xs_x z_x L_x) (h_y : ZZ w g_y A_y n_y c_y xs_y z_y L_y) (h1 : L_x ≤ 100000) (h2 : L_y ≤ 100000) (v : Int) (hv : cmpZ z_x z_y = v) :
 Calls Tryz.prog 161 #[.agg #[.bool g_x, .slice A_x n_x c_x], .agg #[.bool g_y, .slice A_y n_y c_y]] w fun e w' => e = .returned (.int .i64 v) ∧ Below w.heap.size w w' := by
 have hl1 := h1
 have hl2 := h2
 have bw := bel_refl w
 have h_rx := row2_new w 31 (.bool g_x) (.slice A_x n_x c_x)
 have bn := below_new w (.cells #[Value.bool g_x, Value.slice A_x n_x c_x] 31)
 replace h_x := h_x.below bn
 replace h_y := h_y.below bn
 replace bw := below_two bw bn
 clear bn
 have h_ry := row2_new (w.alloc (.cells #[Value.bool g_x, Value.slice A_x n_x c_x] 31)) 31 (.bool g_y) (.slice A_y n_y c_y)
 have bn := below_new (w.alloc (.cells #[Value.bool g_x, Value.slice A_x n_x c_x] 31)) (.cells #[Value.bool g_y, Value.slice A_y n_y c_y] 31)
 replace h_x := h_x.below bn
 replace h_y := h_y.below bn
 replace h_rx := h_rx.below bn
 replace bw := below_two bw bn
 clear bn
 simp only [World.size_alloc] at h_rx h_ry
 go_enter Tryz.func161, Tryz.ntmps161
 go_wp2
 generalize ((w.alloc (.cells #[Value.bool g_x, Value.slice A_x n_x c_x] 31)).alloc (.cells #[Value.bool g_y, Value.slice A_y n_y c_y] 31)) = wP at *
 obtain ⟨q_y, eg⟩ : ∃ g, g = w.heap.size + 1 := ⟨_, rfl⟩
 rw [← eg] at h_ry ⊢
 have E_y := Lib.hid eg
 clear eg
 obtain ⟨q_x, eg⟩ : ∃ g, g = w.heap.size := ⟨_, rfl⟩
 rw [← eg] at h_rx ⊢
 have E_x := Lib.hid eg
 clear eg
 generalize wP = wS at *
 have KA : RowKit.Hid (∀ wx, Below wS.heap.size wS wx → (wx.cell? ⟨q_x, 0, none⟩ = some (.bool g_x) ∧ wx.cell? ⟨q_x, 1, none⟩ = some (.slice A_x n_x c_x) ∧ wx.cell? ⟨q_y, 0, none⟩ = some (.bool g_y) ∧ wx.cell? ⟨q_y, 1, none⟩ = some (.slice A_y n_y c_y) ∧ Below wS.heap.size wS wx)) := fun wx hb => ⟨(h_rx.below hb).c0, (h_rx.below hb).c1, (h_ry.below hb).c0, (h_ry.below hb).c1, hb⟩
 have KS : RowKit.Hid (∀ wx w2, (wx.cell? ⟨q_x, 0, none⟩ = some (.bool g_x) ∧ wx.cell? ⟨q_x, 1, none⟩ = some (.slice A_x n_x c_x) ∧ wx.cell? ⟨q_y, 0, none⟩ = some (.bool g_y) ∧ wx.cell? ⟨q_y, 1, none⟩ = some (.slice A_y n_y c_y) ∧ Below wS.heap.size wS wx) → Below wx.heap.size wx w2 → (w2.cell? ⟨q_x, 0, none⟩ = some (.bool g_x) ∧ w2.cell? ⟨q_x, 1, none⟩ = some (.slice A_x n_x c_x) ∧ w2.cell? ⟨q_y, 0, none⟩ = some (.bool g_y) ∧ w2.cell? ⟨q_y, 1, none⟩ = some (.slice A_y n_y c_y) ∧ Below wS.heap.size wS w2)) := fun wx w2 hS bn => KA.out _ (below_two hS.2.2.2.2 bn)
 have KU : RowKit.Hid (∀ (wx : World) (q : Nat) (u v : Value), (wx.cell? ⟨q_x, 0, none⟩ = some (.bool g_x) ∧ wx.cell? ⟨q_x, 1, none⟩ = some (.slice A_x n_x c_x) ∧ wx.cell? ⟨q_y, 0, none⟩ = some (.bool g_y) ∧ wx.cell? ⟨q_y, 1, none⟩ = some (.slice A_y n_y c_y) ∧ Below wS.heap.size wS wx) → wS.heap.size ≤ q → (((wx.setCell ⟨q, 0, none⟩ u).setCell ⟨q, 1, none⟩ v).cell? ⟨q_x, 0, none⟩ = some (.bool g_x) ∧ ((wx.setCell ⟨q, 0, none⟩ u).setCell ⟨q, 1, none⟩ v).cell? ⟨q_x, 1, none⟩ = some (.slice A_x n_x c_x) ∧ ((wx.setCell ⟨q, 0, none⟩ u).setCell ⟨q, 1, none⟩ v).cell? ⟨q_y, 0, none⟩ = some (.bool g_y) ∧ ((wx.setCell ⟨q, 0, none⟩ u).setCell ⟨q, 1, none⟩ v).cell? ⟨q_y, 1, none⟩ = some (.slice A_y n_y c_y) ∧ Below wS.heap.size wS ((wx.setCell ⟨q, 0, none⟩ u).setCell ⟨q, 1, none⟩ v))) := fun wx q u v hS hq => KA.out _ ((hS.2.2.2.2.setCell (p := ⟨q, 0, none⟩) hq u).setCell (p := ⟨q, 1, none⟩) hq v)
 have K_x : RowKit.Hid (∀ wx, (wx.cell? ⟨q_x, 0, none⟩ = some (.bool g_x) ∧ wx.cell? ⟨q_x, 1, none⟩ = some (.slice A_x n_x c_x) ∧ wx.cell? ⟨q_y, 0, none⟩ = some (.bool g_y) ∧ wx.cell? ⟨q_y, 1, none⟩ = some (.slice A_y n_y c_y) ∧ Below wS.heap.size wS wx) → ZZ wx g_x A_x n_x c_x xs_x z_x L_x) := fun wx hS => h_x.below hS.2.2.2.2
 have K_y : RowKit.Hid (∀ wx, (wx.cell? ⟨q_x, 0, none⟩ = some (.bool g_x) ∧ wx.cell? ⟨q_x, 1, none⟩ = some (.slice A_x n_x c_x) ∧ wx.cell? ⟨q_y, 0, none⟩ = some (.bool g_y) ∧ wx.cell? ⟨q_y, 1, none⟩ = some (.slice A_y n_y c_y) ∧ Below wS.heap.size wS wx) → ZZ wx g_y A_y n_y c_y xs_y z_y L_y) := fun wx hS => h_y.below hS.2.2.2.2
 have KR_x : RowKit.Hid (∀ wx, (wx.cell? ⟨q_x, 0, none⟩ = some (.bool g_x) ∧ wx.cell? ⟨q_x, 1, none⟩ = some (.slice A_x n_x c_x) ∧ wx.cell? ⟨q_y, 0, none⟩ = some (.bool g_y) ∧ wx.cell? ⟨q_y, 1, none⟩ = some (.slice A_y n_y c_y) ∧ Below wS.heap.size wS wx) → Row2 wx q_x 31 (.bool g_x) (.slice A_x n_x c_x)) := fun wx hS => h_rx.below hS.2.2.2.2
 have KR_y : RowKit.Hid (∀ wx, (wx.cell? ⟨q_x, 0, none⟩ = some (.bool g_x) ∧ wx.cell? ⟨q_x, 1, none⟩ = some (.slice A_x n_x c_x) ∧ wx.cell? ⟨q_y, 0, none⟩ = some (.bool g_y) ∧ wx.cell? ⟨q_y, 1, none⟩ = some (.slice A_y n_y c_y) ∧ Below wS.heap.size wS wx) → Row2 wx q_y 31 (.bool g_y) (.slice A_y n_y c_y)) := fun wx hS => h_ry.below hS.2.2.2.2
 have HF := Lib.hid bw
 have KF : RowKit.Hid (∀ wx, (wx.cell? ⟨q_x, 0, none⟩ = some (.bool g_x) ∧ wx.cell? ⟨q_x, 1, none⟩ = some (.slice A_x n_x c_x) ∧ wx.cell? ⟨q_y, 0, none⟩ = some (.bool g_y) ∧ wx.cell? ⟨q_y, 1, none⟩ = some (.slice A_y n_y c_y) ∧ Below wS.heap.size wS wx) → Below w.heap.size w wx) := fun wx hS => below_two HF.out hS.2.2.2.2
 obtain ⟨d_x0, d_x1, d_y0, d_y1, _⟩ := KA.out _ (Below.refl _ _)
 clear h_x h_y h_rx h_ry bw
 clear HF
 go_cut [5, 6] from 7 to 10 (fun s5 s6 wx => ∃ (q_p : Nat) (A_p : Option Addr) (n_p c_p : Nat) (q_q : Nat) (A_q : Option Addr) (n_q c_q : Nat), s5 = .pointer (some ⟨q_p, 0, none⟩) ∧ s6 = .pointer (some ⟨q_q, 0, none⟩) ∧ RowKit.Hid (Row2 wx q_p 31 (.bool (sg z_x)) (.slice A_p n_p c_p) ∧ ZZ wx (sg z_x) A_p n_p c_p (limbs z_x.natAbs) z_x L_x ∧ Row2 wx q_q 31 (.bool (sg z_y)) (.slice A_q n_q c_q) ∧ ZZ wx (sg z_y) A_q n_q c_q (limbs z_y.natAbs) z_y L_y ∧ Below wS.heap.size wS wx))
 case first =>
  refine region_free 6 2 [7, 8, 9, 10, 5, 6] ?aF (fun wx => wx.cell? ⟨q_x, 0, none⟩ = some (.bool g_x) ∧ wx.cell? ⟨q_x, 1, none⟩ = some (.slice A_x n_x c_x) ∧ wx.cell? ⟨q_y, 0, none⟩ = some (.bool g_y) ∧ wx.cell? ⟨q_y, 1, none⟩ = some (.slice A_y n_y c_y) ∧ Below wS.heap.size wS wx) (fun k v w => match k with
   | 0 => v = .agg #[.bool g_x, .slice A_x n_x c_x]
   | 1 => ∃ A n c, v = .agg #[.bool (sg z_x), .slice A n c] ∧ ZZ w (sg z_x) A n c (limbs z_x.natAbs) z_x L_x
   | 2 => v = .agg #[.bool g_y, .slice A_y n_y c_y]
   | 3 => ∃ A n c, v = .agg #[.bool (sg z_y), .slice A n c] ∧ ZZ w (sg z_y) A n c (limbs z_y.natAbs) z_y L_y
   | 4 => ∃ q, v = .pointer (some ⟨q, 0, none⟩) ∧ ZB w q ∧ wS.heap.size ≤ q
   | _ => ∃ q, v = .pointer (some ⟨q, 0, none⟩) ∧ ZB w q ∧ wS.heap.size ≤ q)
   (fun k => k == 4 || k == 5) (by kernel_rfl) ?haF rfl (by kernel_rfl) (by kernel_rfl) (fun _ _ _ _ _ h => h) ?hSb ?hPb ?hS ?hop ?hfin
  case haF =>
   intro vals
   simp only [fillAll, List.getElem?_cons_zero, List.getElem?_cons_succ, Act.put, List.setIfInBounds_toArray, List.set_cons_zero, List.set_cons_succ]
   exact rfl
  case hSb => exact fun wx w2 hb hS => KS.out wx w2 hS hb
  case hPb =>
   intro k v w1 w2 hb h
   match k, h with
   | 0, h => exact h
   | 1, ⟨A, n, c, h1, h2⟩ => exact ⟨A, n, c, h1, h2.below hb⟩
   | 2, h => exact h
   | 3, ⟨A, n, c, h1, h2⟩ => exact ⟨A, n, c, h1, h2.below hb⟩
   | 4, ⟨q, h1, h2, h3⟩ => exact ⟨q, h1, h2.below hb, h3⟩
   | _ + 5, ⟨q, h1, h2, h3⟩ => exact ⟨q, h1, h2.below hb, h3⟩
  case hS => exact KA.out _ ((Below.refl _ _).drew)
  case hop =>
   refine .cons (k := 0) ?_ (.cons (k := 1) ?_ (.cons (k := 2) ?_ (.cons (k := 3) ?_ (.cons (k := 4) ?_ (.cons (k := 5) ?_ (.nil))))))
   all_goals intro vals wr hS hd K hK
   all_goals (show Oper.wp _ _ _ _ _ _; dsimp only)
   · obtain ⟨b0, b1, b2, b3, bS⟩ := hS
     go_simp
     refine hK _ _ rfl (Below.refl _ _) rfl (fun h => by cases h)
   · have d0 : vals 0 = _ := hd 0 (by decide +kernel)
     rw [d0]
     go_simp
     go_at_call 135
     with_reducible refine (refITrim_c (K_x.out _ hS) (by omega)).mono ?_
     rintro e w2 ⟨A_r, n_r, c_r, rfl, h_r, bn_r⟩
     refine hK _ _ rfl bn_r ⟨_, _, _, rfl, h_r⟩ (fun h => by cases h)
   · obtain ⟨b0, b1, b2, b3, bS⟩ := hS
     go_simp
     refine hK _ _ rfl (Below.refl _ _) rfl (fun h => by cases h)
   · have d2 : vals 2 = _ := hd 2 (by decide +kernel)
     rw [d2]
     go_simp
     go_at_call 135
     with_reducible refine (refITrim_c (K_y.out _ hS) (by omega)).mono ?_
     rintro e w2 ⟨A_r, n_r, c_r, rfl, h_r, bn_r⟩
     refine hK _ _ rfl bn_r ⟨_, _, _, rfl, h_r⟩ (fun h => by cases h)
   · go_simp
     refine hK _ _ rfl (below_new _ _) ⟨_, rfl, row2_new wr 31 _ _, hS.2.2.2.2.size⟩ (fun _ => ⟨_, rfl, Nat.le_refl _, by rw [World.size_alloc]; omega⟩)
   · go_simp
     refine hK _ _ rfl (below_new _ _) ⟨_, rfl, row2_new wr 31 _ _, hS.2.2.2.2.size⟩ (fun _ => ⟨_, rfl, Nat.le_refl _, by rw [World.size_alloc]; omega⟩)
  case hfin =>
   intro vals wr hS hP hne
   obtain ⟨A_p, n_p, c_p, e1, h_p⟩ := hP 1 (by decide)
   obtain ⟨A_q, n_q, c_q, e3, h_q⟩ := hP 3 (by decide)
   obtain ⟨q_p, e4, z_bp, l_bp⟩ := hP 4 (by decide)
   obtain ⟨q_q, e5, z_bq, l_bq⟩ := hP 5 (by decide)
   have nq01 : q_p ≠ q_q := hne 4 5 (by decide) (by decide) (by decide) rfl rfl _ _ e4 e5
   try dsimp only
   rw [e1, e3, e4, e5]
   have bS := hS.2.2.2.2
   replace h_p := h_p.put z_bp (.bool (sg z_x)) (.slice A_p n_p c_p)
   replace h_q := h_q.put z_bp (.bool (sg z_x)) (.slice A_p n_p c_p)
   have z_nq := Row2.far z_bq nq01 (.bool (sg z_x)) (.slice A_p n_p c_p)
   have r_p := Row2.filled z_bp (.bool (sg z_x)) (.slice A_p n_p c_p)
   replace bS := (bS.setCell (p := ⟨q_p, 0, none⟩) l_bp (.bool (sg z_x))).setCell (p := ⟨q_p, 1, none⟩) l_bp (.slice A_p n_p c_p)
   replace h_p := h_p.put z_nq (.bool (sg z_y)) (.slice A_q n_q c_q)
   replace h_q := h_q.put z_nq (.bool (sg z_y)) (.slice A_q n_q c_q)
   replace r_p := r_p.far (g := q_q) (Ne.symm nq01) (.bool (sg z_y)) (.slice A_q n_q c_q)
   have r_q := Row2.filled z_nq (.bool (sg z_y)) (.slice A_q n_q c_q)
   replace bS := (bS.setCell (p := ⟨q_q, 0, none⟩) l_bq (.bool (sg z_y))).setCell (p := ⟨q_q, 1, none⟩) l_bq (.slice A_q n_q c_q)
   obtain ⟨c00, c01, c02, c03⟩ := z_bp.cells
   obtain ⟨c10, c11, c12, c13⟩ := z_bq.cells
   have t := Lib.hid (And.intro r_p (And.intro h_p (And.intro r_q (And.intro h_q bS))))
   clear bS h_p h_q r_p r_q
   refine wpAny_ready (rs := [6]) (by kernel_rfl) (by simp) (AllReady.cons rfl (fun K hK => ?_) AllReady.nil)
   go_simp
   refine hK _ _ ?_
   clear hK K
   refine wpAny_ready (rs := [7]) (by kernel_rfl) (by simp) (AllReady.cons rfl (fun K hK => ?_) AllReady.nil)
   go_simp
   refine hK _ _ ?_
   clear hK K
   refine wpAny_done (by kernel_rfl) ?_ _
   go_wp2
   go_meet
   case rel => exact ⟨q_p, A_p, n_p, c_p, q_q, A_q, n_q, c_q, rfl, rfl, t⟩
 case rest =>
  obtain ⟨q_p, A_p, n_p, c_p, q_q, A_q, n_q, c_q, rfl, rfl, t⟩ := hcut
  obtain ⟨h_rp, h_p, h_rq, h_q, bn⟩ := t.out
  clear t
  have hS0 := KA.out _ bn
  have h_x := K_x.out _ hS0
  have h_y := K_y.out _ hS0
  have h_rx := KR_x.out _ hS0
  have h_ry := KR_y.out _ hS0
  have bw := KF.out _ hS0
  clear hS0 bn KA KS KU KF K_x K_y KR_x KR_y d_x0 d_x1 d_y0 d_y1
  have HP := Lib.hid h_p
  have HQ := Lib.hid h_q
  have d_p0 := h_rp.c0
  have d_p1 := h_rp.c1
  have d_q0 := h_rq.c0
  have d_q1 := h_rq.c1
  have HB := Lib.hid bw
  clear bw h_x h_y h_rx h_ry h_p h_rp h_q h_rq
  by_cases hx0 : z_x < 0
  · by_cases hy0 : z_y < 0
    · rw [sg_neg hx0] at d_p0
      rw [sg_neg hy0] at d_q0
      have HV : RowKit.Hid (cmpI z_y.natAbs z_x.natAbs = v) := by
       show _ = _
       rw [← hv]; exact cmp_abs_neg hx0 hy0
      clear hv hx0 hy0
      go_wp2_with fail
      refine (refCmp_c HQ.out.nn HP.out.nn (by omega) (by omega) v HV.out).mono ?_
      rintro e w9 ⟨rfl, rfl⟩
      go_wp2
      go_ret
      exact ⟨rfl, HB.out⟩
    · rw [sg_neg hx0] at d_p0
      rw [sg_pos (by omega)] at d_q0
      obtain rfl : v = -1 := by rw [← hv]; exact cmpZ_lt (by omega)
      clear hv hx0 hy0
      go_wp2
      go_ret
      exact ⟨rfl, HB.out⟩
  · by_cases hy0 : z_y < 0
    · rw [sg_pos (by omega)] at d_p0
      rw [sg_neg hy0] at d_q0
      obtain rfl : v = 1 := by rw [← hv]; exact cmpZ_gt (by omega)
      clear hv hx0 hy0
      go_wp2
      go_ret
      exact ⟨rfl, HB.out⟩
    · rw [sg_pos (by omega)] at d_p0
      rw [sg_pos (by omega)] at d_q0
      have HV : RowKit.Hid (cmpI z_x.natAbs z_y.natAbs = v) := by
       show _ = _
       rw [← hv]; exact cmp_abs_pos (by omega) (by omega)
      clear hv hx0 hy0
      go_wp2_with fail
      refine (refCmp_c HP.out.nn HQ.out.nn (by omega) (by omega) v HV.out).mono ?_
      rintro e w9 ⟨rfl, rfl⟩
      go_wp2
      go_ret
      exact ⟨rfl, HB.out⟩
end Go.Proofs.YtohokfbohdoijaaGreatDoor

/- What the reference of layer 7 answers (Times, Plus), as contracts over memory. Conditions: sizes of at most so many limbs. -/
namespace Go.Proofs.YtohokfbohdoijaaGreatDoor
open Go.RowKit Limb
set_option linter.unusedVariables false
section
variable {w : World} {s s' : Bool} {A B A' B' : Option Addr} {n c m d n' c' m' d' : Nat} {xs ys xs' ys' : List Nat} {x y : Int} {a b L L' : Nat}
set_option maxHeartbeats 4000000 in
set_option maxRecDepth 100000 in
theorem refTimes_c (hx : ZZ w s A n c xs x L) (hy : NN w B m d ys a L) (hx' : ZZ w s' A' n' c' xs' y L') (hy' : NN w B' m' d' ys' b L') (h1 : L ≤ 1000) (h2 : L' ≤ 1000) (ha : a ≠ 0) (hb : b ≠ 0) (q : Rat) (hq : mkRat (x * y) (a * b) = q) :
 Calls Tryz.prog 68 #[.agg #[.bool s, .slice A n c, .slice B m d], .agg #[.bool s', .slice A' n' c', .slice B' m' d']] w fun e w' => ∃ A2 n2 c2 B2 m2 d2, e = .returned (.agg #[.bool (sg q.num), .slice A2 n2 c2, .slice B2 m2 d2]) ∧ ZZ w' (sg q.num) A2 n2 c2 (limbs q.num.natAbs) q.num (L + L') ∧ NN w' B2 m2 d2 (limbs q.den) q.den (L + L') ∧ Below w.heap.size w w' := by
 have hab : a * b ≠ 0 := Nat.mul_ne_zero ha hb
 have b0 := below_new w (.cells #[Value.bool s, Value.slice A n c, Value.slice B m d] 33)
 have b1 := below_new (w.alloc (.cells #[Value.bool s, Value.slice A n c, Value.slice B m d] 33)) (.cells #[Value.bool s', Value.slice A' n' c', Value.slice B' m' d'] 33)
 have b2 := below_new ((w.alloc (.cells #[Value.bool s, Value.slice A n c, Value.slice B m d] 33)).alloc (.cells #[Value.bool s', Value.slice A' n' c', Value.slice B' m' d'] 33)) (.cells #[Value.bool false, Value.slice none 0 0, Value.slice none 0 0] 33)
 have HW := Lib.hid (below_two (below_two b0 b1) b2)
 have HX := Lib.hid (hx.below HW.out)
 have HY := Lib.hid (hy.below HW.out)
 have HX1 := Lib.hid (hx'.below HW.out)
 have HY1 := Lib.hid (hy'.below HW.out)
 have r0 := ((row3_new w 33 (.bool s) (.slice A n c) (.slice B m d)).below b1).below b2
 have r1 := (row3_new (w.alloc (.cells #[Value.bool s, Value.slice A n c, Value.slice B m d] 33)) 33 (.bool s') (.slice A' n' c') (.slice B' m' d')).below b2
 have rz := row3_new ((w.alloc (.cells #[Value.bool s, Value.slice A n c, Value.slice B m d] 33)).alloc (.cells #[Value.bool s', Value.slice A' n' c', Value.slice B' m' d'] 33)) 33 (.bool false) (.slice none 0 0) (.slice none 0 0)
 simp only [World.size_alloc] at r1 rz
 clear b0 b1 b2 hx hy hx' hy'
 go_enter Tryz.func68, Tryz.ntmps68
 go_wp2
 generalize ((w.alloc (.cells #[Value.bool s, Value.slice A n c, Value.slice B m d] 33)).alloc (.cells #[Value.bool s', Value.slice A' n' c', Value.slice B' m' d'] 33)).alloc (.cells #[Value.bool false, Value.slice none 0 0, Value.slice none 0 0] 33) = wS at *
 have HR0 := Lib.hid r0
 have HR1 := Lib.hid r1
 have HZ := Lib.hid rz
 have Hq : RowKit.Hid (w.heap.size ≤ w.heap.size + 1 + 1) := by show _ ≤ _; omega
 clear r0 r1 rz
 refine region_free 11 1 [5, 6, 7, 8, 9, 10, 11, 12, 13, 14, 15] ?aF2 (fun wx => Below wS.heap.size wS wx) (fun k vv wx => match k with
  | 0 => vv = .pointer (some ⟨w.heap.size, 0, none⟩)
  | 1 => vv = .agg #[.bool s, .slice A n c]
  | 2 => vv = .pointer (some ⟨w.heap.size + 1, 0, none⟩)
  | 3 => vv = .agg #[.bool s', .slice A' n' c']
  | 4 => ∃ (e0 : Option Addr) (e1 : Nat) (e2 : Nat), vv = .agg #[.bool (sg (x * y)), .slice e0 e1 e2] ∧ ZZ wx (sg (x * y)) e0 e1 e2 (limbs (x * y).natAbs) (x * y) (L + L')
  | 5 => vv = .pointer (some ⟨w.heap.size, 2, none⟩)
  | 6 => vv = .slice B m d
  | 7 => vv = .pointer (some ⟨w.heap.size + 1, 2, none⟩)
  | 8 => vv = .slice B' m' d'
  | 9 => ∃ (e0 : Option Addr) (e1 : Nat) (e2 : Nat), vv = .slice e0 e1 e2 ∧ NN wx e0 e1 e2 (limbs (a * b)) (a * b) (L + L')
  | _ => ∃ (e0 : Option Addr) (e1 : Nat) (e2 : Nat) (e3 : Option Addr) (e4 : Nat) (e5 : Nat), vv = .agg #[.bool (sg q.num), .slice e0 e1 e2, .slice e3 e4 e5] ∧ ZZ wx (sg q.num) e0 e1 e2 (limbs q.num.natAbs) q.num (L + L') ∧ NN wx e3 e4 e5 (limbs q.den) q.den (L + L'))
  (fun k => false) (by kernel_rfl) ?haF2 rfl (by kernel_rfl) (by kernel_rfl) (fun _ _ _ _ _ h => h) ?hSb2 ?hPb2 ?hS2 ?hop2 ?hfin2
 case haF2 =>
  intro vals
  simp only [fillAll, List.getElem?_cons_zero, List.getElem?_cons_succ, Act.put, List.setIfInBounds_toArray, List.set_cons_zero, List.set_cons_succ]
  exact rfl
 case hSb2 => exact fun wx w2 hb hS => below_two hS hb
 case hPb2 =>
  intro k v wa wb hb h
  match k, h with
  | 0, h => exact h
  | 1, h => exact h
  | 2, h => exact h
  | 3, h => exact h
  | 4, ⟨e0, e1, e2, h1, g0⟩ => exact ⟨e0, e1, e2, h1, g0.below hb⟩
  | 5, h => exact h
  | 6, h => exact h
  | 7, h => exact h
  | 8, h => exact h
  | 9, ⟨e0, e1, e2, h1, g0⟩ => exact ⟨e0, e1, e2, h1, g0.below hb⟩
  | _ + 10, ⟨e0, e1, e2, e3, e4, e5, h1, g0, g1⟩ => exact ⟨e0, e1, e2, e3, e4, e5, h1, g0.below hb, g1.below hb⟩
 case hS2 => exact (Below.refl _ _).drew
 case hop2 =>
  refine .cons (k := 0) ?_ (.cons (k := 1) ?_ (.cons (k := 2) ?_ (.cons (k := 3) ?_ (.cons (k := 4) ?_ (.cons (k := 5) ?_ (.cons (k := 6) ?_ (.cons (k := 7) ?_ (.cons (k := 8) ?_ (.cons (k := 9) ?_ (.cons (k := 10) ?_ (.nil)))))))))))
  all_goals intro vals wr hS hd KC hK
  all_goals (show Oper.wp _ _ _ _ _ _; dsimp only)
  · go_simp
    refine hK _ _ rfl (Below.refl _ _) (by first | rfl | simp) (fun h => by cases h)
  · have d0 : vals 0 = _ := hd 0 (by decide +kernel)
    rw [d0]
    have z0 := (HR0.out.below hS).c0
    have z1 := (HR0.out.below hS).c1
    go_simp
    refine hK _ _ rfl (Below.refl _ _) (by first | rfl | simp) (fun h => by cases h)
  · go_simp
    refine hK _ _ rfl (Below.refl _ _) (by first | rfl | simp) (fun h => by cases h)
  · have d2 : vals 2 = _ := hd 2 (by decide +kernel)
    rw [d2]
    have z0 := (HR1.out.below hS).c0
    have z1 := (HR1.out.below hS).c1
    go_simp
    refine hK _ _ rfl (Below.refl _ _) (by first | rfl | simp) (fun h => by cases h)
  · have d1 : vals 1 = _ := hd 1 (by decide +kernel)
    have d3 : vals 3 = _ := hd 3 (by decide +kernel)
    rw [d1, d3]
    go_simp
    go_at_call 104
    with_reducible refine (refIMul_c (HX.out.below hS) (HX1.out.below hS) (by omega) (by omega) (x * y) rfl).mono ?_
    rintro e w2 ⟨r0, r1, r2, rfl, f0, bn_r⟩
    refine hK _ _ rfl bn_r ⟨_, _, _, rfl, f0⟩ (fun h => by cases h)
  · go_simp
    refine hK _ _ rfl (Below.refl _ _) (by first | rfl | simp) (fun h => by cases h)
  · have d5 : vals 5 = _ := hd 5 (by decide +kernel)
    rw [d5]
    have z0 := (HR0.out.below hS).c2
    go_simp
    refine hK _ _ rfl (Below.refl _ _) (by first | rfl | simp) (fun h => by cases h)
  · go_simp
    refine hK _ _ rfl (Below.refl _ _) (by first | rfl | simp) (fun h => by cases h)
  · have d7 : vals 7 = _ := hd 7 (by decide +kernel)
    rw [d7]
    have z0 := (HR1.out.below hS).c2
    go_simp
    refine hK _ _ rfl (Below.refl _ _) (by first | rfl | simp) (fun h => by cases h)
  · have d6 : vals 6 = _ := hd 6 (by decide +kernel)
    have d8 : vals 8 = _ := hd 8 (by decide +kernel)
    rw [d6, d8]
    go_simp
    go_at_call 105
    with_reducible refine (refMul_c (HY.out.below hS) (HY1.out.below hS) (by omega) (by omega)).mono ?_
    rintro e w2 ⟨r0, r1, r2, rfl, f0, bn_r⟩
    refine hK _ _ rfl bn_r ⟨_, _, _, rfl, f0⟩ (fun h => by cases h)
  · obtain ⟨A_4_0, n_4_1, n_4_2, d4, h_4_0⟩ := hd 4 (by decide +kernel)
    obtain ⟨A_9_0, n_9_1, n_9_2, d9, h_9_0⟩ := hd 9 (by decide +kernel)
    rw [d4, d9]
    go_simp
    go_at_call 103
    with_reducible refine (refWide_c h_4_0 h_9_0 (by omega) (by omega) hab q hq).mono ?_
    rintro e w2 ⟨r0, r1, r2, r3, r4, r5, rfl, f0, f1, bn_r⟩
    refine hK _ _ rfl bn_r ⟨_, _, _, _, _, _, rfl, f0, f1⟩ (fun h => by cases h)
 case hfin2 =>
  intro vals wr hS hP hne
  obtain ⟨y0, y1, y2, y3, y4, y5, ez, h3_0, h3_1⟩ := hP 10 (by decide)
  have hZ3 := HZ.out.below hS
  have hNo := hZ3.noLimb (by intro v e; cases e) (by intro v e; cases e) (by intro v e; cases e)
  have e0 := hZ3.c0
  have e1 := hZ3.c1
  have e2 := hZ3.c2
  have f0 := hZ3.free 0
  have f1 := hZ3.free 1
  have f2 := hZ3.free 2
  have HF := Lib.hid (hZ3.fill (.bool (sg q.num)) (.slice y0 y1 y2) (.slice y3 y4 y5))
  have HP1 := Lib.hid (h3_0.fillR3 hNo (.bool (sg q.num)) (.slice y0 y1 y2) (.slice y3 y4 y5))
  have HP2 := Lib.hid (h3_1.fillR3 hNo (.bool (sg q.num)) (.slice y0 y1 y2) (.slice y3 y4 y5))
  have HB := Lib.hid (below_fill3' (below_two HW.out hS) Hq.out (.bool (sg q.num)) (.slice y0 y1 y2) (.slice y3 y4 y5))
  try dsimp only
  rw [ez]
  refine wpAny_ready (rs := [11]) (by kernel_rfl) (by simp) (AllReady.cons rfl (fun KC hK => ?_) AllReady.nil)
  go_simp
  refine hK _ _ ?_
  clear hK KC
  refine wpAny_done (by kernel_rfl) ?_ _
  go_wp2
  refine bodyPost_ret (results_cell_row rfl _ _ _ 33 #[.bool (sg q.num), .slice y0 y1 y2, .slice y3 y4 y5] (0, 0) _ rfl HF.out Tryz.underlying33 rfl rat_size) rfl ?_
  exact ⟨y0, y1, y2, y3, y4, y5, rfl, HP1.out, HP2.out, HB.out⟩
end
end Go.Proofs.YtohokfbohdoijaaGreatDoor

/- What the reference of layer 7 answers (Limit, Whole), as contracts over memory. Conditions: sizes of at most so many limbs. -/
namespace Go.Proofs.YtohokfbohdoijaaGreatDoor
open Go.RowKit Limb
set_option linter.unusedVariables false
theorem got7_size : (Tryz.prog.info? 98).map (·.size) = some 4 := by kernel_rfl
section
variable {w : World} {s s' : Bool} {A B A' B' : Option Addr} {n c m d n' c' m' d' : Nat} {xs ys xs' ys' : List Nat} {x y : Int} {a b L L' : Nat}
set_option maxHeartbeats 4000000 in
set_option maxRecDepth 100000 in
theorem refLimit_c {q : Rat} (hz : ZZ w (sg q.num) A n c (limbs q.num.natAbs) q.num L) (hn : NN w B m d (limbs q.den) q.den L') :
 Calls Tryz.prog 67 #[.agg #[.bool (sg q.num), .slice A n c, .slice B m d]] w fun e w' => ∃ A2 n2 c2 B2 m2 d2, e = .returned (.agg #[.bool (sg (oTop (limQ q))), .slice A2 n2 c2, .slice B2 m2 d2, .int .i64 (limE q)]) ∧ QT w' A2 n2 c2 B2 m2 d2 (limQ q) ∧ Below w.heap.size w w' := by
 have hf1 := hz.nn.isN.len
 have hf2 := hn.isN.len
 have HX := Lib.hid hz
 have HY := Lib.hid hn
 clear hz hn
 by_cases h5 : 64 < n
 · have hf : RowKit.Hid (fitsQ q = false) := by
    show _ = _
    rw [Bool.eq_false_iff]
    intro h
    simp only [fitsQ, Bool.and_eq_true, decide_eq_true_eq] at h
    have := length_limbs_le h.1
    omega
   have n5 : decide ((64 : Int) < (n : Int)) = true := by rw [decide_eq_true_eq]; omega
   clear h5
   clear hf1 hf2
   go_enter Tryz.func67, Tryz.ntmps67
   go_wp2
   refine bodyPost_ret (results_cell_row rfl _ _ (w.heap.size + 1) 98 #[.bool false, .slice none 0 0, .slice none 0 0, .int .i64 2] (0, 0) _ rfl (heap_alloc2_new _ _ _) Tryz.underlying98 rfl got7_size) rfl ?_
   exact ⟨none, 0, 0, none, 0, 0, by rw [limQ_no hf.out, limE_no hf.out]; rfl, by rw [limQ_no hf.out]; exact qt_none _ 0 0, below_two (below_new _ _) (below_new _ _)⟩
 · by_cases h6 : 64 < m
   · have hf : RowKit.Hid (fitsQ q = false) := by
      show _ = _
      rw [Bool.eq_false_iff]
      intro h
      simp only [fitsQ, Bool.and_eq_true, decide_eq_true_eq] at h
      have := length_limbs_le h.2
      omega
     have n5 : decide ((64 : Int) < (n : Int)) = false := by rw [decide_eq_false_iff_not]; omega
     have n6 : decide ((64 : Int) < (m : Int)) = true := by rw [decide_eq_true_eq]; omega
     clear h5 h6
     clear hf1 hf2
     go_enter Tryz.func67, Tryz.ntmps67
     go_wp2
     refine bodyPost_ret (results_cell_row rfl _ _ (w.heap.size + 1) 98 #[.bool false, .slice none 0 0, .slice none 0 0, .int .i64 2] (0, 0) _ rfl (heap_alloc2_new _ _ _) Tryz.underlying98 rfl got7_size) rfl ?_
     exact ⟨none, 0, 0, none, 0, 0, by rw [limQ_no hf.out, limE_no hf.out]; rfl, by rw [limQ_no hf.out]; exact qt_none _ 0 0, below_two (below_new _ _) (below_new _ _)⟩
   · have hf : RowKit.Hid (fitsQ q = true) := by
      show _ = _
      simp only [fitsQ, Bool.and_eq_true, decide_eq_true_eq]
      refine ⟨?_, ?_⟩
      · rcases Nat.lt_or_ge q.num.natAbs (4294967296 ^ 64) with h | h
        · exact h
        · have := lt_length_limbs h; omega
      · rcases Nat.lt_or_ge q.den (4294967296 ^ 64) with h | h
        · exact h
        · have := lt_length_limbs h; omega
     have n5 : decide ((64 : Int) < (n : Int)) = false := by rw [decide_eq_false_iff_not]; omega
     have n6 : decide ((64 : Int) < (m : Int)) = false := by rw [decide_eq_false_iff_not]; omega
     clear h5 h6 hf1 hf2
     go_enter Tryz.func67, Tryz.ntmps67
     go_wp2
     refine bodyPost_ret (results_cell_row rfl _ _ (w.heap.size + 1) 98 #[.bool (sg q.num), .slice A n c, .slice B m d, .int .i64 0] (0, 0) _ rfl (heap_alloc2_new _ _ _) Tryz.underlying98 rfl got7_size) rfl ?_
     exact ⟨A, n, c, B, m, d, by rw [limQ_yes hf.out, limE_yes hf.out]; rfl, by rw [limQ_yes hf.out]; exact qt_some (HX.out.below (below_two (below_new _ _) (below_new _ _))) (HY.out.below (below_two (below_new _ _) (below_new _ _))) hf.out, below_two (below_new _ _) (below_new _ _)⟩
end
set_option maxHeartbeats 4000000 in
set_option maxRecDepth 100000 in
theorem refQWhole_c (v : Int) (h0 : -9223372036854775808 ≤ v) (h1 : v ≤ 9223372036854775807) (w : World) :
 Calls Tryz.prog 45 #[.int .i64 v] w fun e w' => ∃ A2 n2 c2 B2 m2 d2, e = .returned (.agg #[.bool (sg (oTop (some (v : Rat)))), .slice A2 n2 c2, .slice B2 m2 d2]) ∧ QT w' A2 n2 c2 B2 m2 d2 (some (v : Rat)) ∧ Below w.heap.size w w' := by
 have HW := Lib.hid (below_new w (.cells #[Value.bool false, Value.slice none 0 0, Value.slice none 0 0] 33))
 have HZ := Lib.hid (row3_new w 33 (.bool false) (.slice none 0 0) (.slice none 0 0))
 go_enter Tryz.func45, Tryz.ntmps45
 go_wp2_with fail
 refine (refIOf_c v h0 h1 _).mono ?_
 rintro e w2 ⟨A2, n2, c2, rfl, h2, bn⟩
 have bl := below_new w2 (.cells #[Value.int IntKind.u32 1] 84)
 have HL : RowKit.Hid (NN (w2.alloc (.cells #[Value.int IntKind.u32 1] 84)) (some ⟨w2.heap.size, 0, none⟩) 1 1 (limbs 1) 1 1) := by
  show NN _ _ _ _ _ _ _
  have h := lit_c w2 [1] (by intro x hx; simp at hx; omega) 1 rfl
  have e1 : limbs 1 = [1] := by simp [limbs, limbsTo]
  rw [e1]; exact h
 have hZ3 := (HZ.out.below bn).below bl
 have hNo := hZ3.noLimb (by intro v e; cases e) (by intro v e; cases e) (by intro v e; cases e)
 have H2 := Lib.hid (h2.below bl)
 have e0 := hZ3.c0
 have e1 := hZ3.c1
 have e2 := hZ3.c2
 have f0 := hZ3.free 0
 have f1 := hZ3.free 1
 have f2 := hZ3.free 2
 have HF := Lib.hid (hZ3.fill (.bool (sg v)) (.slice A2 n2 c2) (.slice (some ⟨w2.heap.size, 0, none⟩) 1 1))
 have HP1 := Lib.hid (H2.out.fillR3 hNo (.bool (sg v)) (.slice A2 n2 c2) (.slice (some ⟨w2.heap.size, 0, none⟩) 1 1))
 have HP2 := Lib.hid (HL.out.fillR3 hNo (.bool (sg v)) (.slice A2 n2 c2) (.slice (some ⟨w2.heap.size, 0, none⟩) 1 1))
 have HB := Lib.hid (below_fill3' (below_two (below_two HW.out bn) bl) (Nat.le_refl _) (.bool (sg v)) (.slice A2 n2 c2) (.slice (some ⟨w2.heap.size, 0, none⟩) 1 1))
 clear h2 bn bl hZ3 hNo H2 HL
 go_wp2
 refine bodyPost_ret (results_cell_row rfl _ _ w.heap.size 33 #[.bool (sg v), .slice A2 n2 c2, .slice (some ⟨w2.heap.size, 0, none⟩) 1 1] (0, 0) _ rfl HF.out Tryz.underlying33 rfl rat_size) rfl ?_
 exact ⟨A2, n2, c2, _, 1, 1, rfl, qt_some (q := (v : Rat)) HP1.out HP2.out (whole_fits h0 h1), HB.out⟩
end Go.Proofs.YtohokfbohdoijaaGreatDoor
