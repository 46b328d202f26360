/- Part 6 of the texts that the statements of this seat lean on: mathematics, and what functions answer, as contracts over memory; each part says its own conditions. -/
import Derived.Test.YtjikaojffgjndaaGreatDoorM5
import Derived.Deep.RegionHeld3
import Derived.Deep.CutRange
/- What the reference of layer 6 answers (Make, Trim, Neg, Text, Of), as contracts over memory. Conditions: sizes of at most so many limbs. -/
namespace Go.Proofs.YtjikaojffgjndaaGreatDoor
open Go.RowKit Limb
set_option linter.unusedVariables false
section
variable {w : World} {s s' : Bool} {A A' : Option Addr} {n c n' c' : Nat} {xs ys : List Nat} {x y : Int} {L L' : Nat}
set_option maxHeartbeats 4000000 in
set_option maxRecDepth 100000 in
theorem refMake_c {a : Nat} (hx : NN w A n c xs a L) (h1 : L ≤ 1000000000) (z : Int) (hz : zOf s a = z) :
 Calls Tryz.prog 66 #[.bool s, .slice A n c] w fun e w' => ∃ A2 n2 c2, e = .returned (.agg #[.bool (sg z), .slice A2 n2 c2]) ∧ ZZ w' (sg z) A2 n2 c2 (limbs z.natAbs) z L ∧ Below w.heap.size w w' := by
 have HW := Lib.hid (below_new w zbox)
 have HZ : RowKit.Hid (ZB (w.alloc zbox) w.heap.size) := row2_new w _ _ _
 have HN := Lib.hid (hx.below HW.out)
 clear hx
 go_enter Tryz.func66, Tryz.ntmps66
 go_wp2_with fail
 refine (refTrim_c HN.out h1).mono ?_
 rintro e w2 ⟨A2, n2, c2, rfl, h2, bn⟩
 have BN := Lib.hid bn
 have hn : n2 = 0 ↔ a = 0 := by rw [← h2.isN.len]; exact len_limbs_zero
 have HZ2 : RowKit.Hid (ZZ w2 (sg z) A2 n2 c2 (limbs z.natAbs) z L) := ZZ.mk' (by rw [← hz, zOf_abs]; exact h2)
 obtain ⟨e0, e1, f0, f1⟩ := (HZ.out.below BN.out).cells
 clear h2 bn
 by_cases hb : s = true
 · by_cases h0 : a = 0
   · have es : sg z = false := by rw [← hz, h0]; cases s <;> rfl
     subst hb
     have e2 : n2 = 0 := hn.2 h0
     subst e2
     have Hes := Lib.hid es
     rw [es] at HZ2
     clear es hn hz h0
     have HF := Lib.hid ((HZ.out.below BN.out).fill (.bool false) (.slice A2 0 c2))
     have HP := Lib.hid (HZ2.out.put (HZ.out.below BN.out) (.bool false) (.slice A2 0 c2))
     have HB := Lib.hid (below_fill (g := w.heap.size) (below_two HW.out BN.out) (Nat.le_refl _) (.bool false) (.slice A2 0 c2))
     go_wp2
     refine bodyPost_ret (results_cell_row rfl _ _ w.heap.size 25 #[.bool false, .slice A2 0 c2] (0, 0) _ rfl HF.out Tryz.underlying25 rfl int_size) rfl ?_
     exact ⟨A2, 0, c2, by rw [Hes.out], by rw [Hes.out]; exact HP.out, HB.out⟩
   · have es : sg z = true := by
      rw [← hz, hb]; apply sg_neg
      unfold zOf; rw [if_pos rfl]; omega
     have Hp : RowKit.Hid (decide (0 < n2) = true) := by
      have : n2 ≠ 0 := fun h => h0 (hn.1 h)
      show _ = _
      rw [decide_eq_true_eq]; omega
     subst hb
     have Hes := Lib.hid es
     rw [es] at HZ2
     clear es hn hz h0
     have HF := Lib.hid ((HZ.out.below BN.out).fill (.bool (decide (0 < n2))) (.slice A2 n2 c2))
     have HP := Lib.hid (HZ2.out.put (HZ.out.below BN.out) (.bool (decide (0 < n2))) (.slice A2 n2 c2))
     have HB := Lib.hid (below_fill (g := w.heap.size) (below_two HW.out BN.out) (Nat.le_refl _) (.bool (decide (0 < n2))) (.slice A2 n2 c2))
     go_wp2
     refine bodyPost_ret (results_cell_row rfl _ _ w.heap.size 25 #[.bool (decide (0 < n2)), .slice A2 n2 c2] (0, 0) _ rfl HF.out Tryz.underlying25 rfl int_size) rfl ?_
     exact ⟨A2, n2, c2, by rw [Hes.out, Hp.out], by rw [Hes.out]; exact HP.out, HB.out⟩
 · have hb2 : s = false := by simpa using hb
   have es : sg z = false := by rw [← hz, hb2]; apply sg_pos; unfold zOf; simp
   subst hb2
   have Hes := Lib.hid es
   rw [es] at HZ2
   clear es hn hz hb
   have HF := Lib.hid ((HZ.out.below BN.out).fill (.bool false) (.slice A2 n2 c2))
   have HP := Lib.hid (HZ2.out.put (HZ.out.below BN.out) (.bool false) (.slice A2 n2 c2))
   have HB := Lib.hid (below_fill (g := w.heap.size) (below_two HW.out BN.out) (Nat.le_refl _) (.bool false) (.slice A2 n2 c2))
   go_wp2
   refine bodyPost_ret (results_cell_row rfl _ _ w.heap.size 25 #[.bool false, .slice A2 n2 c2] (0, 0) _ rfl HF.out Tryz.underlying25 rfl int_size) rfl ?_
   exact ⟨A2, n2, c2, by rw [Hes.out], by rw [Hes.out]; exact HP.out, HB.out⟩
set_option maxHeartbeats 4000000 in
set_option maxRecDepth 100000 in
theorem refITrim_c (hx : ZZ w s A n c xs x L) (h1 : L ≤ 100000) :
 Calls Tryz.prog 114 #[.agg #[.bool s, .slice A n c]] w fun e w' => ∃ A2 n2 c2, e = .returned (.agg #[.bool (sg x), .slice A2 n2 c2]) ∧ ZZ w' (sg x) A2 n2 c2 (limbs x.natAbs) x L ∧ Below w.heap.size w w' := by
 have HS := Lib.hid hx.zof
 have b0 := below_new w (.cells #[Value.bool s, Value.slice A n c] 25)
 have bz := below_new (w.alloc (.cells #[Value.bool s, Value.slice A n c] 25)) zbox
 have HW := Lib.hid (below_two b0 bz)
 have HN := Lib.hid (hx.nn.below HW.out)
 have r0 := (row2_new w 25 (.bool s) (.slice A n c)).below bz
 have rz : ZB ((w.alloc (.cells #[Value.bool s, Value.slice A n c] 25)).alloc zbox) (w.alloc (.cells #[Value.bool s, Value.slice A n c] 25)).heap.size := row2_new (w.alloc (.cells #[Value.bool s, Value.slice A n c] 25)) _ _ _
 simp only [World.size_alloc] at rz
 clear b0 bz hx
 go_enter Tryz.func114, Tryz.ntmps114
 go_wp2_with fail
 generalize (w.alloc (.cells #[Value.bool s, Value.slice A n c] 25)).alloc zbox = w1 at *
 have HR0 := Lib.hid r0
 have c00 := r0.c0
 have c01 := r0.c1
 have HZ := Lib.hid rz
 clear r0 rz
 refine (refMake_c HN.out (by omega) x (by first | exact HS.out | simpa using HS.out)).mono ?_
 rintro e w2 ⟨A2, n2, c2, rfl, h4, bm⟩
 have BN4 := Lib.hid bm
 obtain ⟨e0, e1, f0, f1⟩ := (HZ.out.below BN4.out).cells
 have HF := Lib.hid ((HZ.out.below BN4.out).fill (.bool (sg x)) (.slice A2 n2 c2))
 have HP := Lib.hid (h4.put (HZ.out.below BN4.out) (.bool (sg x)) (.slice A2 n2 c2))
 have HB := Lib.hid (below_fill (g := w.heap.size + 1) (below_two HW.out BN4.out) (by omega) (.bool (sg x)) (.slice A2 n2 c2))
 clear bm h4 c00 c01
 go_wp2
 refine bodyPost_ret (results_cell_row rfl _ _ (w.heap.size + 1) 25 #[.bool (sg x), .slice A2 n2 c2] (0, 0) _ rfl HF.out Tryz.underlying25 rfl int_size) rfl ?_
 exact ⟨A2, n2, c2, rfl, HP.out, HB.out⟩
set_option maxHeartbeats 4000000 in
set_option maxRecDepth 100000 in
theorem refINeg_c (hx : ZZ w s A n c xs x L) (h1 : L ≤ 100000) (z : Int) (hz : -x = z) :
 Calls Tryz.prog 68 #[.agg #[.bool s, .slice A n c]] w fun e w' => ∃ A2 n2 c2, e = .returned (.agg #[.bool (sg z), .slice A2 n2 c2]) ∧ ZZ w' (sg z) A2 n2 c2 (limbs z.natAbs) z L ∧ Below w.heap.size w w' := by
 have HS : RowKit.Hid (zOf (!s) x.natAbs = z) := (zOf_not hx.zof).trans hz
 clear hz
 have b0 := below_new w (.cells #[Value.bool s, Value.slice A n c] 25)
 have bz := below_new (w.alloc (.cells #[Value.bool s, Value.slice A n c] 25)) zbox
 have HW := Lib.hid (below_two b0 bz)
 have HN := Lib.hid (hx.nn.below HW.out)
 have r0 := (row2_new w 25 (.bool s) (.slice A n c)).below bz
 have rz : ZB ((w.alloc (.cells #[Value.bool s, Value.slice A n c] 25)).alloc zbox) (w.alloc (.cells #[Value.bool s, Value.slice A n c] 25)).heap.size := row2_new (w.alloc (.cells #[Value.bool s, Value.slice A n c] 25)) _ _ _
 simp only [World.size_alloc] at rz
 clear b0 bz hx
 go_enter Tryz.func68, Tryz.ntmps68
 go_wp2_with fail
 generalize (w.alloc (.cells #[Value.bool s, Value.slice A n c] 25)).alloc zbox = w1 at *
 have HR0 := Lib.hid r0
 have c00 := r0.c0
 have c01 := r0.c1
 have HZ := Lib.hid rz
 clear r0 rz
 refine (refMake_c HN.out (by omega) z (by first | exact HS.out | simpa using HS.out)).mono ?_
 rintro e w2 ⟨A2, n2, c2, rfl, h4, bm⟩
 have BN4 := Lib.hid bm
 obtain ⟨e0, e1, f0, f1⟩ := (HZ.out.below BN4.out).cells
 have HF := Lib.hid ((HZ.out.below BN4.out).fill (.bool (sg z)) (.slice A2 n2 c2))
 have HP := Lib.hid (h4.put (HZ.out.below BN4.out) (.bool (sg z)) (.slice A2 n2 c2))
 have HB := Lib.hid (below_fill (g := w.heap.size + 1) (below_two HW.out BN4.out) (by omega) (.bool (sg z)) (.slice A2 n2 c2))
 clear bm h4 c00 c01
 go_wp2
 refine bodyPost_ret (results_cell_row rfl _ _ (w.heap.size + 1) 25 #[.bool (sg z), .slice A2 n2 c2] (0, 0) _ rfl HF.out Tryz.underlying25 rfl int_size) rfl ?_
 exact ⟨A2, n2, c2, rfl, HP.out, HB.out⟩
set_option maxHeartbeats 4000000 in
set_option maxRecDepth 100000 in
theorem refIText_c (hx : ZZ w s A n c xs x L) (h1 : L ≤ 10000) (S : ByteArray) (hS : strOf (zT x) = S) :
 Calls Tryz.prog 56 #[.agg #[.bool s, .slice A n c]] w fun e w' => e = .returned (.string S) ∧ Below w.heap.size w w' := by
 have b0 := below_new w (.cells #[Value.bool s, Value.slice A n c] 25)
 have HW := Lib.hid b0
 have HN := Lib.hid (hx.below b0)
 have r0 := row2_new w 25 (.bool s) (.slice A n c)
 have c00 := r0.c0
 have c01 := r0.c1
 clear b0 hx
 by_cases hx0 : x < 0
 · have hx2 : sg x = true := sg_neg hx0
   have HX2 := Lib.hid hx2
   clear hx2
   rw [zT_neg hx0] at hS
   obtain ⟨D, hD⟩ : ∃ D, strOf (decT x.natAbs) = D := ⟨_, rfl⟩
   have ed : (⟨#[45]⟩ : ByteArray) ++ D = S := by rw [← hD, minus_text]; exact hS
   have hDl : D.size ≤ 100001 := by
    have := decT_len_limbs (lt_pow HN.out.nn)
    rw [← hD, size_strOf]; omega
   have HD := Lib.hid hD
   clear hD hS
   clear hx0
   go_enter Tryz.func56, Tryz.ntmps56
   go_wp2_with fail
   refine (refITrim_c HN.out (by omega)).mono ?_
   rintro e w2 ⟨A2, n2, c2, rfl, _, bn⟩
   rw [HX2.out]
   have hfld : ∀ W, (Instr.field 25 (.agg #[.bool true, .slice A2 n2 c2]) 0).run Tryz.prog W = .ok (.bool true) W := fun _ => by kernel_rfl
   replace HN := Lib.hid (HN.out.below bn)
   replace HW := Lib.hid (below_two HW.out bn)
   replace r0 := r0.below bn
   clear c00 c01 bn
   have c00 := r0.c0
   have c01 := r0.c1
   clear r0
   go_wp2_with fail
   refine (refText_c HN.out.nn h1).mono ?_
   rintro e w3 ⟨rfl, bn⟩
   rw [HD.out]
   replace HW := Lib.hid (below_two HW.out bn)
   clear c00 c01 bn
   go_wp2
   go_ret
   exact ⟨rfl, HW.out⟩
 · have hx2 : sg x = false := sg_pos (by omega)
   have HX2 := Lib.hid hx2
   clear hx2
   rw [zT_pos (by omega)] at hS
   have HD := Lib.hid hS
   clear hS
   clear hx0
   go_enter Tryz.func56, Tryz.ntmps56
   go_wp2_with fail
   refine (refITrim_c HN.out (by omega)).mono ?_
   rintro e w2 ⟨A2, n2, c2, rfl, _, bn⟩
   rw [HX2.out]
   have hfld : ∀ W, (Instr.field 25 (.agg #[.bool false, .slice A2 n2 c2]) 0).run Tryz.prog W = .ok (.bool false) W := fun _ => by kernel_rfl
   replace HN := Lib.hid (HN.out.below bn)
   replace HW := Lib.hid (below_two HW.out bn)
   replace r0 := r0.below bn
   clear c00 c01 bn
   have c00 := r0.c0
   have c01 := r0.c1
   clear r0
   go_wp2_with fail
   refine (refText_c HN.out.nn h1).mono ?_
   rintro e w3 ⟨rfl, bn⟩
   rw [HD.out]
   replace HW := Lib.hid (below_two HW.out bn)
   clear c00 c01 bn
   go_wp2
   go_ret
   exact ⟨rfl, HW.out⟩
end
set_option maxHeartbeats 4000000 in
set_option maxRecDepth 100000 in
theorem refIOf_c (v : Int) (h0 : -9223372036854775808 ≤ v) (h1 : v ≤ 9223372036854775807) (w : World) :
 Calls Tryz.prog 63 #[.int .i64 v] w fun e w' => ∃ A2 n2 c2, e = .returned (.agg #[.bool (sg v), .slice A2 n2 c2]) ∧ ZZ w' (sg v) A2 n2 c2 (limbs v.natAbs) v 2 ∧ Below w.heap.size w w' := by
 have HW := Lib.hid (below_new w zbox)
 have HZ : RowKit.Hid (ZB (w.alloc zbox) w.heap.size) := row2_new w _ _ _
 by_cases hv0 : v < 0
 · obtain ⟨u, hu⟩ : ∃ u, u = v.natAbs := ⟨_, rfl⟩
   have hlt : u < 18446744073709551616 := by omega
   obtain ⟨q, hq⟩ : ∃ q : Nat, -(v + 1) = (q : Int) := ⟨(-(v + 1)).toNat, by omega⟩
   have hq2 : q < 9223372036854775808 := by omega
   have e0 : IntKind.i64.wrap (v + 1) = v + 1 := by rw [IntKind.wrap_i64]; omega
   have e0b : wrap64 (v + 1) = v + 1 := by unfold wrap64; omega
   have e1 : IntKind.i64.wrap (-(v + 1)) = (q : Int) := by rw [hq, IntKind.wrap_i64]; omega
   have e1b : wrap64 (-(v + 1)) = (q : Int) := by rw [hq]; unfold wrap64; omega
   have e2 : IntKind.u64.wrap (q : Int) = (q : Int) := by rw [IntKind.wrap_u64]; omega
   have e3 : IntKind.u64.wrap ((q : Int) + 1) = (u : Int) := by rw [IntKind.wrap_u64]; omega
   have eu : q + 1 = u := by omega
   have HS : RowKit.Hid (zOf true u = v) := by
    show _ = _
    rw [hu]; unfold zOf; simp; omega
   have HC := Lib.hid (refOf_c u _ rfl hlt (w.alloc zbox))
   clear hu h0 h1 hq hq2 eu
   go_enter Tryz.func63, Tryz.ntmps63
   go_wp2_with fail
   refine HC.out.mono ?_
   rintro e w2 ⟨A2, n2, c2, rfl, h2, bn⟩
   have BN2 := Lib.hid bn
   clear bn
   go_wp2_with fail
   refine (refMake_c h2 (by decide) v (by first | exact HS.out | simpa using HS.out)).mono ?_
   rintro e w4 ⟨A3, n3, c3, rfl, h4, bm⟩
   have BN4 := Lib.hid (below_two BN2.out bm)
   obtain ⟨e0, e1, f0, f1⟩ := (HZ.out.below BN4.out).cells
   have HF := Lib.hid ((HZ.out.below BN4.out).fill (.bool (sg v)) (.slice A3 n3 c3))
   have HP := Lib.hid (h4.put (HZ.out.below BN4.out) (.bool (sg v)) (.slice A3 n3 c3))
   have HB := Lib.hid (below_fill (g := w.heap.size) (below_two HW.out BN4.out) (Nat.le_refl _) (.bool (sg v)) (.slice A3 n3 c3))
   clear bm h2 h4
   go_wp2
   refine bodyPost_ret (results_cell_row rfl _ _ w.heap.size 25 #[.bool (sg v), .slice A3 n3 c3] (0, 0) _ rfl HF.out Tryz.underlying25 rfl int_size) rfl ?_
   exact ⟨A3, n3, c3, rfl, HP.out, HB.out⟩
 · obtain ⟨u, hu⟩ : ∃ u, u = v.natAbs := ⟨_, rfl⟩
   have hlt : u < 18446744073709551616 := by omega
   have ec : IntKind.u64.wrap v = (u : Int) := by rw [conv_u64 h0 h1, if_neg hv0]; omega
   have hv1 : 0 ≤ v := by omega
   have HS : RowKit.Hid (zOf false u = v) := by
    show _ = _
    rw [hu]; unfold zOf; simp; omega
   have HC := Lib.hid (refOf_c u _ rfl hlt (w.alloc zbox))
   clear hu h0 h1 hv0
   go_enter Tryz.func63, Tryz.ntmps63
   go_wp2_with fail
   refine HC.out.mono ?_
   rintro e w2 ⟨A2, n2, c2, rfl, h2, bn⟩
   have BN2 := Lib.hid bn
   clear bn
   go_wp2_with fail
   refine (refMake_c h2 (by decide) v (by first | exact HS.out | simpa using HS.out)).mono ?_
   rintro e w4 ⟨A3, n3, c3, rfl, h4, bm⟩
   have BN4 := Lib.hid (below_two BN2.out bm)
   obtain ⟨e0, e1, f0, f1⟩ := (HZ.out.below BN4.out).cells
   have HF := Lib.hid ((HZ.out.below BN4.out).fill (.bool (sg v)) (.slice A3 n3 c3))
   have HP := Lib.hid (h4.put (HZ.out.below BN4.out) (.bool (sg v)) (.slice A3 n3 c3))
   have HB := Lib.hid (below_fill (g := w.heap.size) (below_two HW.out BN4.out) (Nat.le_refl _) (.bool (sg v)) (.slice A3 n3 c3))
   clear bm h2 h4
   go_wp2
   refine bodyPost_ret (results_cell_row rfl _ _ w.heap.size 25 #[.bool (sg v), .slice A3 n3 c3] (0, 0) _ rfl HF.out Tryz.underlying25 rfl int_size) rfl ?_
   exact ⟨A3, n3, c3, rfl, HP.out, HB.out⟩
end Go.Proofs.YtjikaojffgjndaaGreatDoor

/- What the reference of layer 7 answers (trimmed, pos, Wide), as contracts over memory. Conditions: sizes of at most so many limbs. -/
namespace Go.Proofs.YtjikaojffgjndaaGreatDoor
open Go.RowKit Limb
set_option linter.unusedVariables false
theorem rat_size : (Tryz.prog.info? 27).map (·.size) = some 3 := by kernel_rfl
theorem trimmed_iff {xs : List Nat} (h : Small xs) : xs = limbs (Limb.val xs) ↔ xs = [] ∨ lim xs (xs.length - 1) ≠ 0 := by
 constructor
 · intro e
   rcases Nat.eq_zero_or_pos (Limb.val xs) with h0 | h0
   · left; rw [e, h0, limbs_zero]
   · right
     intro hl
     have hp : 0 < xs.length := by
      rcases xs with _ | ⟨y, l⟩
      · simp [Limb.val] at h0
      · simp
     have h1 := trim_take_last (xs := xs) (k := xs.length - 1) (by omega) (by simpa [lim] using hl)
     rw [show xs.length - 1 + 1 = xs.length by omega, List.take_length, trim_eq_limbs h, ← e] at h1
     have h2 := trim_len_le (xs.take (xs.length - 1))
     rw [← h1, List.length_take] at h2
     omega
 · rintro (e | e)
   · subst e; rfl
   · have hp : 0 < xs.length := by
      rcases xs with _ | ⟨y, l⟩
      · simp [lim] at e
      · simp
     have h1 := trim_take_full (xs := xs) (k := xs.length - 1) (by omega) (by simpa [lim] using e)
     rw [show xs.length - 1 + 1 = xs.length by omega, List.take_length, trim_eq_limbs h] at h1
     exact h1.symm
section
variable {w : World} {s s' : Bool} {A B A' B' : Option Addr} {n c m d n' c' m' d' : Nat} {xs ys xs' ys' : List Nat} {x : Int} {a b L L' : Nat}
set_option maxHeartbeats 4000000 in
set_option maxRecDepth 100000 in
theorem refTrimmed_c (hx : NN w A n c xs a L) (h1 : L ≤ 9223372036854775807) (v : Bool) (hv : decide (xs = limbs a) = v) :
 Calls Tryz.prog 74 #[.slice A n c] w fun e w' => e = .returned (.bool v) ∧ w = w' := by
 have Hv := Lib.hid hv
 have Hx := Lib.hid hx
 have hsm := hx.isN.small
 have hlen := hx.isN.len
 have hle := hx.le
 have htr := trimmed_iff hsm
 rw [hx.val] at htr
 clear hx hv
 by_cases h0 : n = 0
 · have hB : RowKit.Hid (v = true) := by
    show _ = _
    rw [← Hv.out, decide_eq_true_eq, htr]
    exact .inl (List.eq_nil_of_length_eq_zero (by omega))
   subst h0
   clear hlen htr
   go_enter Tryz.func74, Tryz.ntmps74
   go_wp2
   go_ret
   exact ⟨by rw [hB.out]; rfl, rfl⟩
 · obtain ⟨g, o, eA, hlt, hc⟩ := Hx.out.isN.2.2 (by omega)
   obtain ⟨k, hk⟩ : ∃ k, n = k + 1 := ⟨n - 1, by omega⟩
   have hcell := hc k (by omega)
   obtain ⟨u, hu⟩ : ∃ u, lim xs k = u := ⟨_, rfl⟩
   rw [hu] at hcell
   have h00 : ((n : Int) == 0) = false := by rw [beq_eq_false_iff_ne]; omega
   have h0k : (n : Int) - 1 = (k : Int) := by omega
   have hB : RowKit.Hid (decide (u ≠ 0) = v) := by
    show _ = _
    rw [← Hv.out, decide_eq_decide, htr, ← hu, show xs.length - 1 = k by omega]
    constructor
    · exact fun h => .inr h
    · rintro (h | h)
      · rw [h] at hlen; simp at hlen; omega
      · exact h
   subst eA
   clear htr hc hu hsm
   subst hk
   go_enter Tryz.func74, Tryz.ntmps74
   go_wp2
   go_ret
   refine ⟨?_, rfl⟩
   rw [← hB.out]
   show Ending.returned (Value.bool (((k : Int) + 1 == 0) || ((u : Int) != 0))) = _
   rw [show ((k : Int) + 1 == 0) = false by rw [beq_eq_false_iff_ne]; omega, Bool.false_or]
   congr 2
   rw [Bool.eq_iff_iff]
   simp
set_option maxHeartbeats 4000000 in
set_option maxRecDepth 100000 in
theorem refPos_c (hx : NN w A n c xs a L) (h1 : L ≤ 1000000000) :
 Calls Tryz.prog 120 #[.slice A n c] w fun e w' => ∃ A2 n2 c2, e = .returned (.agg #[.bool (sg (a : Int)), .slice A2 n2 c2]) ∧ ZZ w' (sg (a : Int)) A2 n2 c2 (limbs (a : Int).natAbs) (a : Int) L ∧ Below w.heap.size w w' := by
 have HW := Lib.hid (below_new w zbox)
 have HZ : RowKit.Hid (ZB (w.alloc zbox) w.heap.size) := row2_new w _ _ _
 have HN := Lib.hid (hx.below HW.out)
 clear hx
 go_enter Tryz.func120, Tryz.ntmps120
 go_wp2_with fail
 refine (refMake_c HN.out h1 (a : Int) (by simp [zOf])).mono ?_
 rintro e w2 ⟨A2, n2, c2, rfl, h4, bm⟩
 have BN4 := Lib.hid bm
 obtain ⟨e0, e1, f0, f1⟩ := (HZ.out.below BN4.out).cells
 have HF := Lib.hid ((HZ.out.below BN4.out).fill (.bool (sg (a : Int))) (.slice A2 n2 c2))
 have HP := Lib.hid (h4.put (HZ.out.below BN4.out) (.bool (sg (a : Int))) (.slice A2 n2 c2))
 have HB := Lib.hid (below_fill (g := w.heap.size) (below_two HW.out BN4.out) (Nat.le_refl _) (.bool (sg (a : Int))) (.slice A2 n2 c2))
 clear bm h4
 go_wp2
 refine bodyPost_ret (results_cell_row rfl _ _ w.heap.size 25 #[.bool (sg (a : Int)), .slice A2 n2 c2] (0, 0) _ rfl HF.out Tryz.underlying25 rfl int_size) rfl ?_
 exact ⟨A2, n2, c2, rfl, HP.out, HB.out⟩
set_option maxHeartbeats 4000000 in
set_option maxRecDepth 100000 in
theorem refWide_c (hx : ZZ w s A n c xs x L) (hy : NN w B m d ys b L') (h1 : L ≤ 10000) (h2 : L' ≤ 10000) (hb : b ≠ 0) (q : Rat) (hq : mkRat x b = q) :
 Calls Tryz.prog 102 #[.agg #[.bool s, .slice A n c], .slice B m d] w fun e w' => ∃ A2 n2 c2 B2 m2 d2, e = .returned (.agg #[.bool (sg q.num), .slice A2 n2 c2, .slice B2 m2 d2]) ∧ ZZ w' (sg q.num) A2 n2 c2 (limbs q.num.natAbs) q.num L ∧ NN w' B2 m2 d2 (limbs q.den) q.den L' ∧ Below w.heap.size w w' := by
 obtain ⟨g, hg⟩ : ∃ g, gcdN x.natAbs b = g := ⟨_, rfl⟩
 have hg2 : Nat.gcd x.natAbs b = g := hg
 have hg0 : g ≠ 0 := by rw [← hg2]; exact Nat.pos_iff_ne_zero.1 (Nat.gcd_pos_of_pos_right _ (Nat.pos_of_ne_zero hb))
 obtain ⟨m1, m2⟩ := mk_num (x := x) hb
 have m3 := mk_den (x := x) hb
 rw [hq, hg2] at m1 m3
 rw [hq] at m2
 have HS : RowKit.Hid (zOf (sg x) (x.natAbs / g) = q.num) := by
  show _ = _
  rw [← m1, ← m2]; exact zOf_sg
 have HD : RowKit.Hid (b / g = q.den) := m3.symm
 have Hg := Lib.hid hg
 have Hgl : RowKit.Hid (g < 4294967296 ^ (L + L')) := by
  show _ < _
  rw [← hg2]
  exact Nat.lt_of_le_of_lt (Nat.gcd_le_right _ (Nat.pos_of_ne_zero hb)) (Nat.lt_of_lt_of_le (lt_pow hy) (Nat.pow_le_pow_right (by decide) (Nat.le_add_left _ _)))
 clear hq m1 m2 m3 hg hg2 hb
 have b0 := below_new w (.cells #[Value.bool s, Value.slice A n c] 25)
 have b1 := below_new (w.alloc (.cells #[Value.bool s, Value.slice A n c] 25)) (.cells #[Value.bool false, Value.slice none 0 0, Value.slice none 0 0] 27)
 have HW := Lib.hid (below_two b0 b1)
 have HX := Lib.hid (hx.below HW.out)
 have HY := Lib.hid (hy.below HW.out)
 have r0 := (row2_new w 25 (.bool s) (.slice A n c)).below b1
 have rz := row3_new (w.alloc (.cells #[Value.bool s, Value.slice A n c] 25)) 27 (.bool false) (.slice none 0 0) (.slice none 0 0)
 simp only [World.size_alloc] at rz
 clear b0 b1 hx hy
 go_enter Tryz.func102, Tryz.ntmps102
 go_wp2_with fail
 generalize (w.alloc (.cells #[Value.bool s, Value.slice A n c] 25)).alloc (.cells #[Value.bool false, Value.slice none 0 0, Value.slice none 0 0] 27) = w1 at *
 have HZ := Lib.hid rz
 clear r0 rz
 refine (refITrim_c HX.out (by omega)).mono ?_
 rintro e w2 ⟨A5, n5, c5, rfl, h5, bn⟩
 have bx := below_new w2 (.cells #[Value.bool (sg x), Value.slice A5 n5 c5] 25)
 have H5 := Lib.hid (h5.below bx)
 have HR5 := Lib.hid (row2_new w2 25 (.bool (sg x)) (.slice A5 n5 c5))
 replace HY := Lib.hid ((HY.out.below bn).below bx)
 replace HZ := Lib.hid ((HZ.out.below bn).below bx)
 replace HW := Lib.hid (below_two (below_two HW.out bn) bx)
 have y0 := HR5.out.c0
 have y1 := HR5.out.c1
 clear h5 bn bx
 go_wp2_with fail
 clear y0 y1
 generalize w2.alloc (.cells #[Value.bool (sg x), Value.slice A5 n5 c5] 25) = w3 at *
 obtain ⟨q5, eg⟩ : ∃ g, g = w2.heap.size := ⟨_, rfl⟩
 rw [← eg] at HR5 ⊢
 clear eg
 refine (refGcd_c H5.out.nn HY.out (by omega) (by omega)).mono ?_
 rw [Hg.out]
 rintro e wS ⟨A6, n6, c6, rfl, h6, bn⟩
 have HG := Lib.hid h6
 replace H5 := Lib.hid (H5.out.below bn)
 replace HR5 := Lib.hid (HR5.out.below bn)
 replace HY := Lib.hid (HY.out.below bn)
 replace HZ := Lib.hid (HZ.out.below bn)
 replace HW := Lib.hid (below_two HW.out bn)
 have Hq : RowKit.Hid (w.heap.size ≤ w.heap.size + 1) := Nat.le_succ _
 have c0 := HR5.out.c0
 have c1 := HR5.out.c1
 clear h6 bn
 go_wp2_with fail
 clear c0 c1
 refine region_free 13 1 [13, 14, 15, 16, 17, 18, 19, 20, 21, 22, 23, 24, 25] ?aF1 (fun wx => Below wS.heap.size wS wx) (fun k vv wx => match k with
  | 0 => vv = .pointer (some ⟨q5, 0, none⟩)
  | 1 => vv = .bool (sg x)
  | 2 => vv = .pointer (some ⟨q5, 1, none⟩)
  | 3 => vv = .slice A5 n5 c5
  | 4 => vv = .slice A6 n6 c6
  | 5 => ∃ (e0 : Option Addr) (e1 : Nat) (e2 : Nat) (e3 : Option Addr) (e4 : Nat) (e5 : Nat), vv = .agg #[.slice e0 e1 e2, .slice e3 e4 e5, .bool true] ∧ NN wx e0 e1 e2 (limbs (x.natAbs / g)) (x.natAbs / g) L ∧ NN wx e3 e4 e5 (limbs (x.natAbs % g)) (x.natAbs % g) L
  | 6 => ∃ (e0 : Option Addr) (e1 : Nat) (e2 : Nat), vv = .slice e0 e1 e2 ∧ NN wx e0 e1 e2 (limbs (x.natAbs / g)) (x.natAbs / g) L
  | 7 => ∃ (e0 : Option Addr) (e1 : Nat) (e2 : Nat), vv = .agg #[.bool (sg q.num), .slice e0 e1 e2] ∧ ZZ wx (sg q.num) e0 e1 e2 (limbs q.num.natAbs) q.num L
  | 8 => vv = .slice B m d
  | 9 => vv = .slice A6 n6 c6
  | 10 => ∃ (e0 : Option Addr) (e1 : Nat) (e2 : Nat) (e3 : Option Addr) (e4 : Nat) (e5 : Nat), vv = .agg #[.slice e0 e1 e2, .slice e3 e4 e5, .bool true] ∧ NN wx e0 e1 e2 (limbs (b / g)) (b / g) L' ∧ NN wx e3 e4 e5 (limbs (b % g)) (b % g) L'
  | 11 => ∃ (e0 : Option Addr) (e1 : Nat) (e2 : Nat), vv = .slice e0 e1 e2 ∧ NN wx e0 e1 e2 (limbs (b / g)) (b / g) L'
  | _ => ∃ (e0 : Option Addr) (e1 : Nat) (e2 : Nat) (e3 : Option Addr) (e4 : Nat) (e5 : Nat), vv = .agg #[.bool (sg q.num), .slice e0 e1 e2, .slice e3 e4 e5] ∧ ZZ wx (sg q.num) e0 e1 e2 (limbs q.num.natAbs) q.num L ∧ NN wx e3 e4 e5 (limbs (b / g)) (b / g) L')
  (fun k => false) (by kernel_rfl) ?haF1 rfl (by kernel_rfl) (by kernel_rfl) (fun _ _ _ _ _ h => h) ?hSb1 ?hPb1 ?hS1 ?hop1 ?hfin1
 case haF1 =>
  intro vals
  simp only [fillAll, List.getElem?_cons_zero, List.getElem?_cons_succ, Act.put, List.setIfInBounds_toArray, List.set_cons_zero, List.set_cons_succ]
  exact rfl
 case hSb1 => exact fun wx w2 hb hS => below_two hS hb
 case hPb1 =>
  intro k v wa wb hb h
  match k, h with
  | 0, h => exact h
  | 1, h => exact h
  | 2, h => exact h
  | 3, h => exact h
  | 4, h => exact h
  | 5, ⟨e0, e1, e2, e3, e4, e5, h1, g0, g1⟩ => exact ⟨e0, e1, e2, e3, e4, e5, h1, g0.below hb, g1.below hb⟩
  | 6, ⟨e0, e1, e2, h1, g0⟩ => exact ⟨e0, e1, e2, h1, g0.below hb⟩
  | 7, ⟨e0, e1, e2, h1, g0⟩ => exact ⟨e0, e1, e2, h1, g0.below hb⟩
  | 8, h => exact h
  | 9, h => exact h
  | 10, ⟨e0, e1, e2, e3, e4, e5, h1, g0, g1⟩ => exact ⟨e0, e1, e2, e3, e4, e5, h1, g0.below hb, g1.below hb⟩
  | 11, ⟨e0, e1, e2, h1, g0⟩ => exact ⟨e0, e1, e2, h1, g0.below hb⟩
  | _ + 12, ⟨e0, e1, e2, e3, e4, e5, h1, g0, g1⟩ => exact ⟨e0, e1, e2, e3, e4, e5, h1, g0.below hb, g1.below hb⟩
 case hS1 => exact (Below.refl _ _).drew
 case hop1 =>
  refine .cons (k := 0) ?_ (.cons (k := 1) ?_ (.cons (k := 2) ?_ (.cons (k := 3) ?_ (.cons (k := 4) ?_ (.cons (k := 5) ?_ (.cons (k := 6) ?_ (.cons (k := 7) ?_ (.cons (k := 8) ?_ (.cons (k := 9) ?_ (.cons (k := 10) ?_ (.cons (k := 11) ?_ (.cons (k := 12) ?_ (.nil)))))))))))))
  all_goals intro vals wr hS hd KC hK
  all_goals (show Oper.wp _ _ _ _ _ _; dsimp only)
  · go_simp
    refine hK _ _ rfl (Below.refl _ _) (by first | rfl | simp) (fun h => by cases h)
  · have d0 : vals 0 = _ := hd 0 (by decide +kernel)
    rw [d0]
    have z0 := (HR5.out.below hS).c0
    go_simp
    refine hK _ _ rfl (Below.refl _ _) (by first | rfl | simp) (fun h => by cases h)
  · go_simp
    refine hK _ _ rfl (Below.refl _ _) (by first | rfl | simp) (fun h => by cases h)
  · have d2 : vals 2 = _ := hd 2 (by decide +kernel)
    rw [d2]
    have z0 := (HR5.out.below hS).c1
    go_simp
    refine hK _ _ rfl (Below.refl _ _) (by first | rfl | simp) (fun h => by cases h)
  · go_simp
    refine hK _ _ rfl (Below.refl _ _) (by first | rfl | simp) (fun h => by cases h)
  · have d3 : vals 3 = _ := hd 3 (by decide +kernel)
    have d4 : vals 4 = _ := hd 4 (by decide +kernel)
    rw [d3, d4]
    go_simp
    go_at_call 72
    with_reducible refine (refRem_yes (H5.out.nn.below hS) (HG.out.below hS) (by omega) (by omega) hg0).mono ?_
    rintro e w2 ⟨r0, r1, r2, r3, r4, r5, rfl, f0, f1, bn_r⟩
    refine hK _ _ rfl bn_r ⟨_, _, _, _, _, _, rfl, f0, f1⟩ (fun h => by cases h)
  · obtain ⟨A_5_0, n_5_1, n_5_2, A_5_3, n_5_4, n_5_5, d5, h_5_0, h_5_1⟩ := hd 5 (by decide +kernel)
    rw [d5]
    have hfld : ∀ W, (Instr.field 96 (.agg #[.slice A_5_0 n_5_1 n_5_2, .slice A_5_3 n_5_4 n_5_5, .bool true]) 0).run Tryz.prog W = .ok (.slice A_5_0 n_5_1 n_5_2) W := fun _ => by kernel_rfl
    go_simp
    refine hK _ _ rfl (Below.refl _ _) ⟨_, _, _, rfl, h_5_0⟩ (fun h => by cases h)
  · have d1 : vals 1 = _ := hd 1 (by decide +kernel)
    obtain ⟨A_6_0, n_6_1, n_6_2, d6, h_6_0⟩ := hd 6 (by decide +kernel)
    rw [d1, d6]
    go_simp
    go_at_call 66
    with_reducible refine (refMake_c h_6_0 (by omega) q.num HS.out).mono ?_
    rintro e w2 ⟨r0, r1, r2, rfl, f0, bn_r⟩
    refine hK _ _ rfl bn_r ⟨_, _, _, rfl, f0⟩ (fun h => by cases h)
  · go_simp
    refine hK _ _ rfl (Below.refl _ _) (by first | rfl | simp) (fun h => by cases h)
  · go_simp
    refine hK _ _ rfl (Below.refl _ _) (by first | rfl | simp) (fun h => by cases h)
  · have d8 : vals 8 = _ := hd 8 (by decide +kernel)
    have d9 : vals 9 = _ := hd 9 (by decide +kernel)
    rw [d8, d9]
    go_simp
    go_at_call 72
    with_reducible refine (refRem_yes (HY.out.below hS) (HG.out.below hS) (by omega) (by omega) hg0).mono ?_
    rintro e w2 ⟨r0, r1, r2, r3, r4, r5, rfl, f0, f1, bn_r⟩
    refine hK _ _ rfl bn_r ⟨_, _, _, _, _, _, rfl, f0, f1⟩ (fun h => by cases h)
  · obtain ⟨A_10_0, n_10_1, n_10_2, A_10_3, n_10_4, n_10_5, d10, h_10_0, h_10_1⟩ := hd 10 (by decide +kernel)
    rw [d10]
    have hfld : ∀ W, (Instr.field 96 (.agg #[.slice A_10_0 n_10_1 n_10_2, .slice A_10_3 n_10_4 n_10_5, .bool true]) 0).run Tryz.prog W = .ok (.slice A_10_0 n_10_1 n_10_2) W := fun _ => by kernel_rfl
    go_simp
    refine hK _ _ rfl (Below.refl _ _) ⟨_, _, _, rfl, h_10_0⟩ (fun h => by cases h)
  · obtain ⟨A_7_0, n_7_1, n_7_2, d7, h_7_0⟩ := hd 7 (by decide +kernel)
    obtain ⟨A_11_0, n_11_1, n_11_2, d11, h_11_0⟩ := hd 11 (by decide +kernel)
    rw [d7, d11]
    go_simp
    refine hK _ _ rfl (Below.refl _ _) ⟨_, _, _, _, _, _, rfl, h_7_0, h_11_0⟩ (fun h => by cases h)
 case hfin1 =>
  intro vals wr hS hP hne
  obtain ⟨y0, y1, y2, y3, y4, y5, ez, h3_0, h3_1⟩ := hP 12 (by decide)
  have hZ3 := HZ.out.below hS
  have hNo := hZ3.noLimb (by intro v e; cases e) (by intro v e; cases e) (by intro v e; cases e)
  have e0 := hZ3.c0
  have e1 := hZ3.c1
  have e2 := hZ3.c2
  have f0 := hZ3.free 0
  have f1 := hZ3.free 1
  have f2 := hZ3.free 2
  have HF := Lib.hid (hZ3.fill (.bool (sg q.num)) (.slice y0 y1 y2) (.slice y3 y4 y5))
  have HP1 := Lib.hid (h3_0.fillR3 hNo (.bool (sg q.num)) (.slice y0 y1 y2) (.slice y3 y4 y5))
  have HP2 := Lib.hid ((show NN wr y3 y4 y5 (limbs q.den) q.den L' from by rw [← HD.out]; exact h3_1).fillR3 hNo (.bool (sg q.num)) (.slice y0 y1 y2) (.slice y3 y4 y5))
  have HB := Lib.hid (below_fill3' (below_two HW.out hS) Hq.out (.bool (sg q.num)) (.slice y0 y1 y2) (.slice y3 y4 y5))
  try dsimp only
  rw [ez]
  refine wpAny_ready (rs := [13]) (by kernel_rfl) (by simp) (AllReady.cons rfl (fun KC hK => ?_) AllReady.nil)
  go_simp
  refine hK _ _ ?_
  clear hK KC
  refine wpAny_done (by kernel_rfl) ?_ _
  go_wp2
  refine bodyPost_ret (results_cell_row rfl _ _ _ 27 #[.bool (sg q.num), .slice y0 y1 y2, .slice y3 y4 y5] (0, 0) _ rfl HF.out Tryz.underlying27 rfl rat_size) rfl ?_
  exact ⟨y0, y1, y2, y3, y4, y5, rfl, HP1.out, HP2.out, HB.out⟩
end
end Go.Proofs.YtjikaojffgjndaaGreatDoor

/- What package whole's Mul answers, as a contract over memory: whole numbers in the shortest limbs, 0 not below 0. Conditions: sizes of at most so many limbs; the table of powers of ten where texts are made or read. -/
namespace Go.Proofs.YtjikaojffgjndaaGreatDoor
open Go.RowKit Limb
set_option linter.unusedVariables false
section
variable {w : World} {s s' : Bool} {A A' : Option Addr} {n c n' c' : Nat} {xs ys : List Nat} {x y : Int} {L L' : Nat}
set_option maxHeartbeats 4000000 in
set_option maxRecDepth 100000 in
theorem wMul_c (hx : ZZ w s A n c xs x L) (hy : ZZ w s' A' n' c' ys y L') (K : Nat) (h1 : L ≤ 100000) (h2 : L' ≤ 100000) (h3 : L + L' ≤ K) (z : Int) (hz : x * y = z) :
 Calls Tryz.prog 124 #[.agg #[.bool s, .slice A n c], .agg #[.bool s', .slice A' n' c']] w fun e w' => ∃ A2 n2 c2, e = .returned (.agg #[.bool (sg z), .slice A2 n2 c2]) ∧ ZZ w' (sg z) A2 n2 c2 (limbs z.natAbs) z K ∧ Below w.heap.size w w' := by
 have HS : RowKit.Hid (zOf (s != s') (x.natAbs * y.natAbs) = z) := (zOf_mul hx.zof hy.zof).trans hz
 clear hz
 have b0 := below_new w (.cells #[Value.bool s, Value.slice A n c] 25)
 have b1 := below_new (w.alloc (.cells #[Value.bool s, Value.slice A n c] 25)) (.cells #[Value.bool s', Value.slice A' n' c'] 25)
 have bz := below_new ((w.alloc (.cells #[Value.bool s, Value.slice A n c] 25)).alloc (.cells #[Value.bool s', Value.slice A' n' c'] 25)) zbox
 have HW := Lib.hid (below_two (below_two b0 b1) bz)
 have HN := Lib.hid (hx.nn.below HW.out)
 have HM := Lib.hid (hy.nn.below HW.out)
 have r0 := ((row2_new w 25 (.bool s) (.slice A n c)).below b1).below bz
 have r1 := (row2_new (w.alloc (.cells #[Value.bool s, Value.slice A n c] 25)) 25 (.bool s') (.slice A' n' c')).below bz
 have rz : ZB (((w.alloc (.cells #[Value.bool s, Value.slice A n c] 25)).alloc (.cells #[Value.bool s', Value.slice A' n' c'] 25)).alloc zbox) ((w.alloc (.cells #[Value.bool s, Value.slice A n c] 25)).alloc (.cells #[Value.bool s', Value.slice A' n' c'] 25)).heap.size := row2_new ((w.alloc (.cells #[Value.bool s, Value.slice A n c] 25)).alloc (.cells #[Value.bool s', Value.slice A' n' c'] 25)) _ _ _
 simp only [World.size_alloc] at r1 rz
 clear b0 b1 bz hx hy
 go_enter Tryz.func124, Tryz.ntmps124
 go_wp2
 generalize ((w.alloc (.cells #[Value.bool s, Value.slice A n c] 25)).alloc (.cells #[Value.bool s', Value.slice A' n' c'] 25)).alloc zbox = w1 at *
 have HR0 := Lib.hid r0
 have c00 := r0.c0
 have c01 := r0.c1
 have HR1 := Lib.hid r1
 have c10 := r1.c0
 have c11 := r1.c1
 have HZ := Lib.hid rz
 clear r0 r1 rz
 clear c00 c01 c10 c11
 refine region_free 11 1 [5, 6, 7, 8, 9, 10, 11, 12, 13, 14, 15] ?aF (fun wx => Below w1.heap.size w1 wx) (fun k v wx => match k with
  | 0 => v = .pointer (some ⟨w.heap.size, 0, none⟩)
  | 1 => v = .bool s
  | 2 => v = .pointer (some ⟨w.heap.size + 1, 0, none⟩)
  | 3 => v = .bool s'
  | 4 => v = .bool (s != s')
  | 5 => v = .pointer (some ⟨w.heap.size, 1, none⟩)
  | 6 => v = .slice A n c
  | 7 => v = .pointer (some ⟨w.heap.size + 1, 1, none⟩)
  | 8 => v = .slice A' n' c'
  | 9 => ∃ A2 n2 c2, v = .slice A2 n2 c2 ∧ NN wx A2 n2 c2 (limbs (x.natAbs * y.natAbs)) (x.natAbs * y.natAbs) K
  | _ => ∃ A2 n2 c2, v = .agg #[.bool (sg z), .slice A2 n2 c2] ∧ ZZ wx (sg z) A2 n2 c2 (limbs z.natAbs) z K)
  (fun _ => false) (by kernel_rfl) ?haF rfl (by kernel_rfl) (by kernel_rfl) (fun _ _ _ _ _ h => h) ?hSb ?hPb ?hS ?hop ?hfin
 case haF =>
  intro vals
  simp only [fillAll, List.getElem?_cons_zero, List.getElem?_cons_succ, Act.put, List.setIfInBounds_toArray, List.set_cons_zero, List.set_cons_succ]
  exact rfl
 case hSb => exact fun wx w2 hb hS => below_two hS hb
 case hPb =>
  intro k v wa wb hb h
  match k, h with
  | 0, h => exact h
  | 1, h => exact h
  | 2, h => exact h
  | 3, h => exact h
  | 4, h => exact h
  | 5, h => exact h
  | 6, h => exact h
  | 7, h => exact h
  | 8, h => exact h
  | 9, ⟨A2, n2, c2, h1, h2⟩ => exact ⟨A2, n2, c2, h1, h2.below hb⟩
  | _ + 10, ⟨A2, n2, c2, h1, h2⟩ => exact ⟨A2, n2, c2, h1, h2.below hb⟩
 case hS => exact (Below.refl _ _).drew
 case hop =>
  refine .cons (k := 0) ?_ (.cons (k := 1) ?_ (.cons (k := 2) ?_ (.cons (k := 3) ?_ (.cons (k := 4) ?_ (.cons (k := 5) ?_ (.cons (k := 6) ?_ (.cons (k := 7) ?_ (.cons (k := 8) ?_ (.cons (k := 9) ?_ (.cons (k := 10) ?_ (.nil)))))))))))
  all_goals intro vals wr hS hd KC hK
  all_goals (show Oper.wp _ _ _ _ _ _; dsimp only)
  · go_simp
    refine hK _ _ rfl (Below.refl _ _) rfl (fun h => by cases h)
  · have d0 : vals 0 = _ := hd 0 (by decide +kernel)
    rw [d0]
    have c0 := (HR0.out.below hS).c0
    go_simp
    refine hK _ _ rfl (Below.refl _ _) rfl (fun h => by cases h)
  · go_simp
    refine hK _ _ rfl (Below.refl _ _) rfl (fun h => by cases h)
  · have d2 : vals 2 = _ := hd 2 (by decide +kernel)
    rw [d2]
    have c0 := (HR1.out.below hS).c0
    go_simp
    refine hK _ _ rfl (Below.refl _ _) rfl (fun h => by cases h)
  · have d1 : vals 1 = _ := hd 1 (by decide +kernel)
    have d3 : vals 3 = _ := hd 3 (by decide +kernel)
    rw [d1, d3]
    go_simp
    refine hK _ _ rfl (Below.refl _ _) (by first | rfl | (simp)) (fun h => by cases h)
  · go_simp
    refine hK _ _ rfl (Below.refl _ _) rfl (fun h => by cases h)
  · have d5 : vals 5 = _ := hd 5 (by decide +kernel)
    rw [d5]
    have c0 := (HR0.out.below hS).c1
    go_simp
    refine hK _ _ rfl (Below.refl _ _) rfl (fun h => by cases h)
  · go_simp
    refine hK _ _ rfl (Below.refl _ _) rfl (fun h => by cases h)
  · have d7 : vals 7 = _ := hd 7 (by decide +kernel)
    rw [d7]
    have c0 := (HR1.out.below hS).c1
    go_simp
    refine hK _ _ rfl (Below.refl _ _) rfl (fun h => by cases h)
  · have d6 : vals 6 = _ := hd 6 (by decide +kernel)
    have d8 : vals 8 = _ := hd 8 (by decide +kernel)
    rw [d6, d8]
    go_simp
    go_at_call 79
    with_reducible refine (mulOf_c (HN.out.below hS) (HM.out.below hS) K (by omega) (by omega) h3).mono ?_
    rintro e w2 ⟨A_r, n_r, c_r, rfl, h_r, bn_r⟩
    refine hK _ _ rfl bn_r ⟨_, _, _, rfl, h_r⟩ (fun h => by cases h)
  · have d4 : vals 4 = _ := hd 4 (by decide +kernel)
    obtain ⟨A_m, n_m, c_m, d9, h_m⟩ := hd 9 (by decide +kernel)
    rw [d4, d9]
    go_simp
    go_at_call 88
    with_reducible refine (signed_c h_m _ z (by first | exact HS.out | simpa using HS.out)).mono ?_
    rintro e w2 ⟨rfl, h_r, bn_r⟩
    refine hK _ _ rfl bn_r ⟨_, _, _, rfl, h_r⟩ (fun h => by cases h)
 case hfin =>
  intro vals wr hS hP hne
  obtain ⟨A2, n2, c2, ez, h3⟩ := hP 10 (by decide)
  have hZ3 := HZ.out.below hS
  obtain ⟨e0, e1, f0, f1⟩ := hZ3.cells
  try dsimp only
  rw [ez]
  have HF := Lib.hid (hZ3.fill (.bool (sg z)) (.slice A2 n2 c2))
  have HP := Lib.hid (h3.put hZ3 (.bool (sg z)) (.slice A2 n2 c2))
  have HB := Lib.hid (below_fill (g := w.heap.size + 1 + 1) (below_two HW.out hS) (by omega) (.bool (sg z)) (.slice A2 n2 c2))
  refine wpAny_ready (rs := [11]) (by kernel_rfl) (by simp) (AllReady.cons rfl (fun KC hK => ?_) AllReady.nil)
  go_simp
  refine hK _ _ ?_
  clear hK KC
  refine wpAny_done (by kernel_rfl) ?_ _
  go_wp2
  refine bodyPost_ret (results_cell_row rfl _ _ (w.heap.size + 1 + 1) 25 #[.bool (sg z), .slice A2 n2 c2] (0, 0) _ rfl HF.out Tryz.underlying25 rfl int_size) rfl ?_
  exact ⟨A2, n2, c2, rfl, HP.out, HB.out⟩
end
end Go.Proofs.YtjikaojffgjndaaGreatDoor

/- Mathematics of exact texts of rational numbers: a top, and a bottom behind a slash where it is not 1; the number of a text. No condition. -/
namespace Go.Proofs.YtjikaojffgjndaaGreatDoor
open Go.RowKit Limb
set_option linter.unusedVariables false
def exT (q : Rat) : List Nat := zT q.num ++ (if q.den = 1 then [] else 47 :: decT q.den)
def exO : Option Rat → List Nat
 | some q => exT q
 | none => []
def cutA (l : List Nat) : List Nat := l.takeWhile (fun x => x != 47)
def cutS (l : List Nat) : List Nat := l.dropWhile (fun x => x != 47)
def exOk (l : List Nat) : Bool := zOk (cutA l) && (decide (cutS l = []) || (numOk ((cutS l).drop 1) && decide (numV ((cutS l).drop 1) ≠ 0)))
def exB (l : List Nat) : Nat := if cutS l = [] then 1 else numV ((cutS l).drop 1)
def exR (l : List Nat) : Option Rat × Int :=
 if exOk l = true then (match (ofR (zV (cutA l)) (exB l)).1 with | some q => if exT q = l then (some q, 0) else (none, 12) | none => (none, 12)) else (none, 12)
theorem dec_no47 (n : Nat) : ∀ x ∈ decT n, (x != 47) = true := fun x hx => by
 have := allDig_iff.1 (decT_dig n) x hx
 rw [bne_iff_ne]; omega
theorem zT_no47 (z : Int) : ∀ x ∈ zT z, (x != 47) = true := fun x hx => by
 unfold zT at hx
 split at hx
 · rcases List.mem_cons.1 hx with rfl | h
   · decide
   · exact dec_no47 _ x h
 · exact dec_no47 _ x hx
theorem cut_ex (q : Rat) : cutA (exT q) = zT q.num ∧ cutS (exT q) = (if q.den = 1 then [] else 47 :: decT q.den) := by
 unfold cutA cutS exT
 rw [List.takeWhile_append_of_pos (zT_no47 _), List.dropWhile_append_of_pos (zT_no47 _)]
 split
 · exact ⟨by simp, rfl⟩
 · exact ⟨by simp, by simp⟩
theorem exT_inj {p q : Rat} (h : exT p = exT q) : p = q := by
 obtain ⟨a1, a2⟩ := cut_ex p
 obtain ⟨b1, b2⟩ := cut_ex q
 rw [h, b1] at a1
 rw [h, b2] at a2
 have hn : q.num = p.num := zT_inj a1
 have hd : q.den = p.den := by
  split at a2
  · rename_i h1
    split at a2
    · rename_i h2; omega
    · cases a2
  · rename_i h1
    split at a2
    · cases a2
    · injection a2 with _ a3
      exact decT_inj a3
 exact Rat.ext hn.symm hd.symm
theorem ofR_self {q : Rat} (h : fitsQ q = true) : ofR q.num q.den = (some q, 0) := by
 unfold ofR
 rw [if_neg q.den_nz, Rat.mkRat_self]
 exact limR_yes h
theorem exR_ex {q : Rat} (h : fitsQ q = true) : exR (exT q) = (some q, 0) := by
 have hf := h
 simp only [fitsQ, Bool.and_eq_true, decide_eq_true_eq] at hf
 have l1 : (decT q.num.natAbs).length ≤ 2000 := Nat.le_trans (decT_len_limbs hf.1) (by decide)
 have l2 : (decT q.den).length ≤ 2000 := Nat.le_trans (decT_len_limbs hf.2) (by decide)
 obtain ⟨c1, c2⟩ := cut_ex q
 have hb : exB (exT q) = q.den := by
  unfold exB
  rw [c2]
  by_cases h1 : q.den = 1
  · rw [if_pos h1, if_pos rfl]; exact h1.symm
  · rw [if_neg h1, if_neg (by simp)]
    show numV (decT q.den) = _
    rw [numV_yes (numOk_dec l2), decV_decT]
 have hok : exOk (exT q) = true := by
  unfold exOk
  rw [c1, c2, zOk_T l1, Bool.true_and]
  split
  · rfl
  · show (decide (47 :: decT q.den = []) || (numOk (decT q.den) && decide (numV (decT q.den) ≠ 0))) = true
    rw [numV_yes (numOk_dec l2), decV_decT, numOk_dec l2, decide_eq_true q.den_nz]
    simp
 unfold exR
 rw [if_pos hok, hb, c1, zV_T l1, ofR_self h]
 show (if exT q = exT q then (some q, (0 : Int)) else (none, 12)) = _
 rw [if_pos rfl]
theorem exR_some {l : List Nat} {q : Rat} {e : Int} (h : exR l = (some q, e)) : exT q = l ∧ fitsQ q = true ∧ e = 0 := by
 unfold exR at h
 split at h
 · split at h
   · rename_i q' hq
     split at h
     · rename_i hl
       injection h with h1 h2
       injection h1 with h1
       subst h1
       refine ⟨hl, ?_, h2.symm⟩
       unfold ofR at hq
       split at hq
       · cases hq
       · cases hf : fitsQ (mkRat (zV (cutA l)) (exB l)) with
         | true =>
          rw [show (limR (mkRat (zV (cutA l)) (exB l))).1 = some (mkRat (zV (cutA l)) (exB l)) from limQ_yes hf] at hq
          injection hq with hq
          rw [← hq]; exact hf
         | false =>
          rw [show (limR (mkRat (zV (cutA l)) (exB l))).1 = none from limQ_no hf] at hq
          cases hq
     · cases h
   · cases h
 · cases h
theorem exR_cases (l : List Nat) : exR l = (none, 12) ∨ ∃ q, exR l = (some q, 0) := by
 cases h : exR l with
 | mk o e =>
  cases o with
  | some q => obtain ⟨_, _, rfl⟩ := exR_some h; exact .inr ⟨q, rfl⟩
  | none =>
   left
   unfold exR at h
   split at h
   · split at h
     · split at h
       · cases h
       · injection h with _ h2; rw [← h2]
     · injection h with _ h2; rw [← h2]
   · injection h with _ h2; rw [← h2]
theorem exT_bytes (q : Rat) : Bytes (exT q) := by
 unfold exT
 refine bytes_append.2 ⟨zT_bytes _, ?_⟩
 split
 · exact bytes_nil
 · exact bytes_cons.2 ⟨by decide, decT_bytes _⟩
end Go.Proofs.YtjikaojffgjndaaGreatDoor

/- Mathematics of reading a decimal text byte by byte, and of what functions of rounding answer. No condition. -/
namespace Go.Proofs.YtjikaojffgjndaaGreatDoor
open Go.RowKit Limb
set_option linter.unusedVariables false
theorem lim_left {a b : List Nat} {i : Nat} (h : i < a.length) : lim (a ++ b) i = lim a i := by
 rw [lim, lim, List.getD_eq_getElem?_getD, List.getD_eq_getElem?_getD, List.getElem?_append_left h]
theorem lim_right {a b : List Nat} {i : Nat} (h : a.length ≤ i) : lim (a ++ b) i = lim b (i - a.length) := by
 simp [lim, List.getD_eq_getElem?_getD, List.getElem?_append_right h]
theorem lim_mem {l : List Nat} {i : Nat} (h : i < l.length) : lim l i ∈ l := by
 have e : lim l i = l[i] := by simp [lim, List.getD_eq_getElem?_getD, List.getElem?_eq_getElem h]
 rw [e]; exact List.getElem_mem h
theorem dig_lim {l : List Nat} (h : allDig l = true) {i : Nat} (hi : i < l.length) : 48 ≤ lim l i ∧ lim l i ≤ 57 := allDig_iff.1 h _ (lim_mem hi)
theorem step_point {t : LitSt} {c : Nat} (h : c ≠ 46) : (litStep t c).point = t.point := by
 unfold litStep
 rw [if_neg h]
 split
 · rfl
 · split
   · rfl
   · split <;> rfl
theorem fold_point : ∀ (l : List Nat) (t : LitSt), (∀ x ∈ l, x ≠ 46) → (l.foldl litStep t).point = t.point
 | [], _, _ => rfl
 | c :: l, t, h => by
  rw [List.foldl_cons, fold_point l _ (fun x hx => h x (List.mem_cons_of_mem _ hx)), step_point (h c (by simp))]
theorem dig_no46 {l : List Nat} (h : allDig l = true) : ∀ x ∈ l, x ≠ 46 := fun x hx => by have := allDig_iff.1 h x hx; omega
theorem point_byte {v : Int} {p i : Nat} (hi : i < (pointT v p).length) {d : Nat} (hd : lim (pointT v p) i = d) :
 (d = 45 ∧ i = 0) ∨ (d = 46 ∧ (litRead ((pointT v p).take i)).point = false) ∨ (48 ≤ d ∧ d ≤ 57) := by
 have hdig := padL_dig (p := p) (decT_dig v.natAbs)
 unfold pointT at hi hd ⊢
 have hs : (litSg (sg v)).length ≤ 1 := by cases sg v <;> decide
 rcases Nat.lt_or_ge i (litSg (sg v)).length with h1 | h1
 · left
   rw [lim_left h1] at hd
   obtain rfl : i = 0 := by omega
   refine ⟨?_, rfl⟩
   rw [← hd]
   cases hv : sg v with
   | true => rfl
   | false => rw [hv] at h1; exact absurd h1 (by decide)
 · rw [lim_right h1] at hd
   rw [List.length_append] at hi
   by_cases h0 : p = 0
   · rw [if_pos h0] at hd hi
     right; right
     rw [← hd]; exact dig_lim hdig (by omega)
   · rw [if_neg h0] at hd hi ⊢
     rcases Nat.lt_trichotomy (i - (litSg (sg v)).length) (headL v p).length with h2 | h2 | h2
     · right; right
       rw [lim_left h2] at hd
       rw [← hd]; exact dig_lim (head_dig v p) h2
     · right; left
       rw [lim_right (Nat.le_of_eq h2.symm), h2, Nat.sub_self] at hd
       refine ⟨hd.symm, ?_⟩
       have e : (litSg (sg v) ++ (headL v p ++ 46 :: tailL v p)).take i = litSg (sg v) ++ headL v p := by
        rw [← List.append_assoc]
        exact List.take_left' (by rw [List.length_append]; omega)
       rw [e]
       unfold litRead
       rw [fold_point]
       intro x hx
       rcases List.mem_append.1 hx with hx | hx
       · cases hv : sg v with
         | true => rw [hv] at hx; simp [litSg] at hx; omega
         | false => rw [hv] at hx; simp [litSg] at hx
       · exact dig_no46 (head_dig v p) x hx
     · right; right
       rw [List.length_append, List.length_cons] at hi
       rw [lim_right (Nat.le_of_lt h2)] at hd
       obtain ⟨k, hk⟩ : ∃ k, i - (litSg (sg v)).length - (headL v p).length = k + 1 := ⟨i - (litSg (sg v)).length - (headL v p).length - 1, by omega⟩
       rw [hk] at hd
       have h3 : lim (tailL v p) k = d := hd
       rw [← h3]; exact dig_lim (tail_dig v p) (by omega)
def decR (f : Rat → Int) (o : Option Rat) (p : Int) : ByteArray × Int :=
 match o with
 | some q => if 0 ≤ p ∧ p ≤ 60 then (strOf (pointT (f (movedQ q p.toNat)) p.toNat), 0) else (⟨#[]⟩, 1)
 | none => (⟨#[]⟩, 1)
def decF (o : Option Rat) (p : Int) : Int × Int :=
 match o with
 | some q => if 0 ≤ p ∧ p ≤ 60 then ((movedQ q p.toNat).floor, 0) else (0, 1)
 | none => (0, 1)
theorem decR_yes (f : Rat → Int) {q : Rat} {p : Nat} (hp : p ≤ 60) {S : ByteArray} (h : strOf (pointT (f (movedQ q p)) p) = S) : decR f (some q) (p : Int) = (S, 0) := by
 show (if 0 ≤ (p : Int) ∧ (p : Int) ≤ 60 then _ else _) = _
 rw [if_pos ⟨by omega, by omega⟩, ← h]
 rfl
theorem decR_no (f : Rat → Int) {o : Option Rat} {p : Int} (h : (o.isSome && (decide (0 ≤ p) && decide (p ≤ 60))) = false) : decR f o p = (⟨#[]⟩, 1) := by
 cases o with
 | none => rfl
 | some q =>
  show (if 0 ≤ p ∧ p ≤ 60 then _ else _) = _
  rw [if_neg]
  rintro ⟨h1, h2⟩
  rw [decide_eq_true h1, decide_eq_true h2] at h
  cases h
theorem decF_yes {q : Rat} {p : Nat} (hp : p ≤ 60) {z : Int} (h : (movedQ q p).floor = z) : decF (some q) (p : Int) = (z, 0) := by
 show (if 0 ≤ (p : Int) ∧ (p : Int) ≤ 60 then _ else _) = _
 rw [if_pos ⟨by omega, by omega⟩, ← h]
 rfl
theorem decF_no {o : Option Rat} {p : Int} (h : (o.isSome && (decide (0 ≤ p) && decide (p ≤ 60))) = false) : decF o p = (0, 1) := by
 cases o with
 | none => rfl
 | some q =>
  show (if 0 ≤ p ∧ p ≤ 60 then _ else _) = _
  rw [if_neg]
  rintro ⟨h1, h2⟩
  rw [decide_eq_true h1, decide_eq_true h2] at h
  cases h
end Go.Proofs.YtjikaojffgjndaaGreatDoor

/- What package whole's Trim answers, as a contract over memory: whole numbers in the shortest limbs, 0 not below 0. Conditions: sizes of at most so many limbs; the table of powers of ten where texts are made or read. -/
namespace Go.Proofs.YtjikaojffgjndaaGreatDoor
open Go.RowKit Limb
set_option linter.unusedVariables false
section
variable {w : World} {s s' : Bool} {A A' : Option Addr} {n c n' c' : Nat} {xs ys : List Nat} {x y : Int} {L L' : Nat}
set_option maxHeartbeats 4000000 in
set_option maxRecDepth 100000 in
theorem wTrim_c (hx : ZZ w s A n c xs x L) (h1 : L ≤ 100000) :
 Calls Tryz.prog 86 #[.agg #[.bool s, .slice A n c]] w fun e w' => ∃ A2 n2 c2, e = .returned (.agg #[.bool (sg x), .slice A2 n2 c2]) ∧ ZZ w' (sg x) A2 n2 c2 (limbs x.natAbs) x L ∧ Below w.heap.size w w' := by
 have HS := Lib.hid hx.zof
 have b0 := below_new w (.cells #[Value.bool s, Value.slice A n c] 25)
 have bz := below_new (w.alloc (.cells #[Value.bool s, Value.slice A n c] 25)) zbox
 have HW := Lib.hid (below_two b0 bz)
 have HN := Lib.hid (hx.nn.below HW.out)
 have r0 := (row2_new w 25 (.bool s) (.slice A n c)).below bz
 have rz : ZB ((w.alloc (.cells #[Value.bool s, Value.slice A n c] 25)).alloc zbox) (w.alloc (.cells #[Value.bool s, Value.slice A n c] 25)).heap.size := row2_new (w.alloc (.cells #[Value.bool s, Value.slice A n c] 25)) _ _ _
 simp only [World.size_alloc] at rz
 clear b0 bz hx
 go_enter Tryz.func86, Tryz.ntmps86
 go_wp2
 generalize (w.alloc (.cells #[Value.bool s, Value.slice A n c] 25)).alloc zbox = w1 at *
 have HR0 := Lib.hid r0
 have c00 := r0.c0
 have c01 := r0.c1
 have HZ := Lib.hid rz
 clear r0 rz
 clear c00 c01
 refine region_free 6 1 [3, 4, 5, 6, 7, 8] ?aF (fun wx => Below w1.heap.size w1 wx) (fun k v wx => match k with
  | 0 => v = .pointer (some ⟨w.heap.size, 0, none⟩)
  | 1 => v = .bool s
  | 2 => v = .pointer (some ⟨w.heap.size, 1, none⟩)
  | 3 => v = .slice A n c
  | 4 => ∃ A2 n2 c2, v = .slice A2 n2 c2 ∧ NN wx A2 n2 c2 (limbs x.natAbs) x.natAbs L
  | _ => ∃ A2 n2 c2, v = .agg #[.bool (sg x), .slice A2 n2 c2] ∧ ZZ wx (sg x) A2 n2 c2 (limbs x.natAbs) x L)
  (fun _ => false) (by kernel_rfl) ?haF rfl (by kernel_rfl) (by kernel_rfl) (fun _ _ _ _ _ h => h) ?hSb ?hPb ?hS ?hop ?hfin
 case haF =>
  intro vals
  simp only [fillAll, List.getElem?_cons_zero, List.getElem?_cons_succ, Act.put, List.setIfInBounds_toArray, List.set_cons_zero, List.set_cons_succ]
  exact rfl
 case hSb => exact fun wx w2 hb hS => below_two hS hb
 case hPb =>
  intro k v wa wb hb h
  match k, h with
  | 0, h => exact h
  | 1, h => exact h
  | 2, h => exact h
  | 3, h => exact h
  | 4, ⟨A2, n2, c2, h1, h2⟩ => exact ⟨A2, n2, c2, h1, h2.below hb⟩
  | _ + 5, ⟨A2, n2, c2, h1, h2⟩ => exact ⟨A2, n2, c2, h1, h2.below hb⟩
 case hS => exact (Below.refl _ _).drew
 case hop =>
  refine .cons (k := 0) ?_ (.cons (k := 1) ?_ (.cons (k := 2) ?_ (.cons (k := 3) ?_ (.cons (k := 4) ?_ (.cons (k := 5) ?_ (.nil))))))
  all_goals intro vals wr hS hd KC hK
  all_goals (show Oper.wp _ _ _ _ _ _; dsimp only)
  · go_simp
    refine hK _ _ rfl (Below.refl _ _) rfl (fun h => by cases h)
  · have d0 : vals 0 = _ := hd 0 (by decide +kernel)
    rw [d0]
    have c0 := (HR0.out.below hS).c0
    go_simp
    refine hK _ _ rfl (Below.refl _ _) rfl (fun h => by cases h)
  · go_simp
    refine hK _ _ rfl (Below.refl _ _) rfl (fun h => by cases h)
  · have d2 : vals 2 = _ := hd 2 (by decide +kernel)
    rw [d2]
    have c0 := (HR0.out.below hS).c1
    go_simp
    refine hK _ _ rfl (Below.refl _ _) rfl (fun h => by cases h)
  · have d3 : vals 3 = _ := hd 3 (by decide +kernel)
    rw [d3]
    go_simp
    go_at_call 125
    with_reducible refine (trim_c (HN.out.below hS) (by omega)).mono ?_
    rintro e w2 ⟨A_r, n_r, c_r, rfl, h_r, bn_r⟩
    refine hK _ _ rfl bn_r ⟨_, _, _, rfl, h_r⟩ (fun h => by cases h)
  · have d1 : vals 1 = _ := hd 1 (by decide +kernel)
    obtain ⟨A_m, n_m, c_m, d4, h_m⟩ := hd 4 (by decide +kernel)
    rw [d1, d4]
    go_simp
    go_at_call 88
    with_reducible refine (signed_c h_m _ x (by first | exact HS.out | simpa using HS.out)).mono ?_
    rintro e w2 ⟨rfl, h_r, bn_r⟩
    refine hK _ _ rfl bn_r ⟨_, _, _, rfl, h_r⟩ (fun h => by cases h)
 case hfin =>
  intro vals wr hS hP hne
  obtain ⟨A2, n2, c2, ez, h3⟩ := hP 5 (by decide)
  have hZ3 := HZ.out.below hS
  obtain ⟨e0, e1, f0, f1⟩ := hZ3.cells
  try dsimp only
  rw [ez]
  have HF := Lib.hid (hZ3.fill (.bool (sg x)) (.slice A2 n2 c2))
  have HP := Lib.hid (h3.put hZ3 (.bool (sg x)) (.slice A2 n2 c2))
  have HB := Lib.hid (below_fill (g := w.heap.size + 1) (below_two HW.out hS) (by omega) (.bool (sg x)) (.slice A2 n2 c2))
  refine wpAny_ready (rs := [6]) (by kernel_rfl) (by simp) (AllReady.cons rfl (fun KC hK => ?_) AllReady.nil)
  go_simp
  refine hK _ _ ?_
  clear hK KC
  refine wpAny_done (by kernel_rfl) ?_ _
  go_wp2
  refine bodyPost_ret (results_cell_row rfl _ _ (w.heap.size + 1) 25 #[.bool (sg x), .slice A2 n2 c2] (0, 0) _ rfl HF.out Tryz.underlying25 rfl int_size) rfl ?_
  exact ⟨A2, n2, c2, rfl, HP.out, HB.out⟩
end
end Go.Proofs.YtjikaojffgjndaaGreatDoor

/- What the reference's product of layer 6 answers, as a contract over memory. Conditions: sizes of at most so many limbs. -/
namespace Go.Proofs.YtjikaojffgjndaaGreatDoor
open Go.RowKit Limb
set_option linter.unusedVariables false
theorem sg_zof {x : Int} : zOf (sg x) x.natAbs = x := by
 unfold zOf sg
 by_cases h : x < 0
 · simp [h]; omega
 · simp [h]; omega
section
variable {w : World} {s s' : Bool} {A A' : Option Addr} {n c n' c' : Nat} {xs ys : List Nat} {x y : Int} {L L' : Nat}
set_option maxHeartbeats 4000000 in
set_option maxRecDepth 100000 in
theorem refIMul_c (hx : ZZ w s A n c xs x L) (hy : ZZ w s' A' n' c' ys y L') (h1 : L ≤ 100000) (h2 : L' ≤ 100000) (z : Int) (hz : x * y = z) :
 Calls Tryz.prog 119 #[.agg #[.bool s, .slice A n c], .agg #[.bool s', .slice A' n' c']] w fun e w' => ∃ A2 n2 c2, e = .returned (.agg #[.bool (sg z), .slice A2 n2 c2]) ∧ ZZ w' (sg z) A2 n2 c2 (limbs z.natAbs) z (L + L') ∧ Below w.heap.size w w' := by
 have HS : RowKit.Hid (zOf (sg x != sg y) (x.natAbs * y.natAbs) = z) := (zOf_mul sg_zof sg_zof).trans hz
 have HX0 := Lib.hid hx
 have HY0 := Lib.hid hy
 clear hz
 have b0 := below_new w (.cells #[Value.bool s, Value.slice A n c] 25)
 have b1 := below_new (w.alloc (.cells #[Value.bool s, Value.slice A n c] 25)) (.cells #[Value.bool s', Value.slice A' n' c'] 25)
 have bz := below_new ((w.alloc (.cells #[Value.bool s, Value.slice A n c] 25)).alloc (.cells #[Value.bool s', Value.slice A' n' c'] 25)) zbox
 have HW := Lib.hid (below_two (below_two b0 b1) bz)
 have HN := Lib.hid (hx.nn.below HW.out)
 have HM := Lib.hid (hy.nn.below HW.out)
 have r0 := ((row2_new w 25 (.bool s) (.slice A n c)).below b1).below bz
 have r1 := (row2_new (w.alloc (.cells #[Value.bool s, Value.slice A n c] 25)) 25 (.bool s') (.slice A' n' c')).below bz
 have rz : ZB (((w.alloc (.cells #[Value.bool s, Value.slice A n c] 25)).alloc (.cells #[Value.bool s', Value.slice A' n' c'] 25)).alloc zbox) ((w.alloc (.cells #[Value.bool s, Value.slice A n c] 25)).alloc (.cells #[Value.bool s', Value.slice A' n' c'] 25)).heap.size := row2_new ((w.alloc (.cells #[Value.bool s, Value.slice A n c] 25)).alloc (.cells #[Value.bool s', Value.slice A' n' c'] 25)) _ _ _
 simp only [World.size_alloc] at r1 rz
 clear b0 b1 bz hx hy
 go_enter Tryz.func119, Tryz.ntmps119
 go_wp2
 have HX := Lib.hid (HX0.out.below HW.out)
 have HY := Lib.hid (HY0.out.below HW.out)
 generalize ((w.alloc (.cells #[Value.bool s, Value.slice A n c] 25)).alloc (.cells #[Value.bool s', Value.slice A' n' c'] 25)).alloc zbox = wS at *
 have HR0 := Lib.hid r0
 have c00 := r0.c0
 have c01 := r0.c1
 have HR1 := Lib.hid r1
 have c10 := r1.c0
 have c11 := r1.c1
 have HZ := Lib.hid rz
 clear r0 r1 rz
 have Hq : RowKit.Hid (w.heap.size ≤ w.heap.size + 1 + 1) := by show _ ≤ _; omega
 clear c00 c01 c10 c11
 refine region_free 13 1 [5, 6, 7, 8, 9, 10, 11, 12, 13, 14, 15, 16, 17] ?aF1 (fun wx => Below wS.heap.size wS wx) (fun k v wx => match k with
  | 0 => v = .agg #[.bool s, .slice A n c]
  | 1 => ∃ A2 n2 c2, v = .agg #[.bool (sg x), .slice A2 n2 c2] ∧ ZZ wx (sg x) A2 n2 c2 (limbs x.natAbs) x L
  | 2 => v = .bool (sg x)
  | 3 => v = .agg #[.bool s', .slice A' n' c']
  | 4 => ∃ A2 n2 c2, v = .agg #[.bool (sg y), .slice A2 n2 c2] ∧ ZZ wx (sg y) A2 n2 c2 (limbs y.natAbs) y L'
  | 5 => v = .bool (sg y)
  | 6 => v = .bool (sg x != sg y)
  | 7 => v = .pointer (some ⟨w.heap.size, 1, none⟩)
  | 8 => v = .slice A n c
  | 9 => v = .pointer (some ⟨w.heap.size + 1, 1, none⟩)
  | 10 => v = .slice A' n' c'
  | 11 => ∃ A2 n2 c2, v = .slice A2 n2 c2 ∧ NN wx A2 n2 c2 (limbs (x.natAbs * y.natAbs)) (x.natAbs * y.natAbs) (L + L')
  | _ => ∃ A2 n2 c2, v = .agg #[.bool (sg z), .slice A2 n2 c2] ∧ ZZ wx (sg z) A2 n2 c2 (limbs z.natAbs) z (L + L'))
  (fun _ => false) (by kernel_rfl) ?haF1 rfl (by kernel_rfl) (by kernel_rfl) (fun _ _ _ _ _ h => h) ?hSb1 ?hPb1 ?hS1 ?hop1 ?hfin1
 case haF1 =>
  intro vals
  simp only [fillAll, List.getElem?_cons_zero, List.getElem?_cons_succ, Act.put, List.setIfInBounds_toArray, List.set_cons_zero, List.set_cons_succ]
  exact rfl
 case hSb1 => exact fun wx w2 hb hS => below_two hS hb
 case hPb1 =>
  intro k v wa wb hb h
  match k, h with
  | 0, h => exact h
  | 1, ⟨A2, n2, c2, h1, h2⟩ => exact ⟨A2, n2, c2, h1, h2.below hb⟩
  | 2, h => exact h
  | 3, h => exact h
  | 4, ⟨A2, n2, c2, h1, h2⟩ => exact ⟨A2, n2, c2, h1, h2.below hb⟩
  | 5, h => exact h
  | 6, h => exact h
  | 7, h => exact h
  | 8, h => exact h
  | 9, h => exact h
  | 10, h => exact h
  | 11, ⟨A2, n2, c2, h1, h2⟩ => exact ⟨A2, n2, c2, h1, h2.below hb⟩
  | _ + 12, ⟨A2, n2, c2, h1, h2⟩ => exact ⟨A2, n2, c2, h1, h2.below hb⟩
 case hS1 => exact (Below.refl _ _).drew
 case hop1 =>
  refine .cons (k := 0) ?_ (.cons (k := 1) ?_ (.cons (k := 2) ?_ (.cons (k := 3) ?_ (.cons (k := 4) ?_ (.cons (k := 5) ?_ (.cons (k := 6) ?_ (.cons (k := 7) ?_ (.cons (k := 8) ?_ (.cons (k := 9) ?_ (.cons (k := 10) ?_ (.cons (k := 11) ?_ (.cons (k := 12) ?_ (.nil)))))))))))))
  all_goals intro vals wr hS hd KC hK
  all_goals (show Oper.wp _ _ _ _ _ _; dsimp only)
  · have c0 := (HR0.out.below hS).c0
    have c1 := (HR0.out.below hS).c1
    go_simp
    refine hK _ _ rfl (Below.refl _ _) (by first | rfl | simp) (fun h => by cases h)
  · have d0 : vals 0 = _ := hd 0 (by decide +kernel)
    rw [d0]
    go_simp
    go_at_call 114
    with_reducible refine (refITrim_c (HX.out.below hS) (by omega)).mono ?_
    rintro e w2 ⟨A_r, n_r, c_r, rfl, h_r, bn_r⟩
    refine hK _ _ rfl bn_r ⟨_, _, _, rfl, h_r⟩ (fun h => by cases h)
  · obtain ⟨A_1, n_1, c_1, d1, h_1⟩ := hd 1 (by decide +kernel)
    rw [d1]
    have hfld : ∀ W, (Instr.field 25 (.agg #[.bool (sg x), .slice A_1 n_1 c_1]) 0).run Tryz.prog W = .ok (.bool (sg x)) W := fun _ => by kernel_rfl
    go_simp
    refine hK _ _ rfl (Below.refl _ _) (by first | rfl | simp) (fun h => by cases h)
  · have c0 := (HR1.out.below hS).c0
    have c1 := (HR1.out.below hS).c1
    go_simp
    refine hK _ _ rfl (Below.refl _ _) (by first | rfl | simp) (fun h => by cases h)
  · have d3 : vals 3 = _ := hd 3 (by decide +kernel)
    rw [d3]
    go_simp
    go_at_call 114
    with_reducible refine (refITrim_c (HY.out.below hS) (by omega)).mono ?_
    rintro e w2 ⟨A_r, n_r, c_r, rfl, h_r, bn_r⟩
    refine hK _ _ rfl bn_r ⟨_, _, _, rfl, h_r⟩ (fun h => by cases h)
  · obtain ⟨A_4, n_4, c_4, d4, h_4⟩ := hd 4 (by decide +kernel)
    rw [d4]
    have hfld : ∀ W, (Instr.field 25 (.agg #[.bool (sg y), .slice A_4 n_4 c_4]) 0).run Tryz.prog W = .ok (.bool (sg y)) W := fun _ => by kernel_rfl
    go_simp
    refine hK _ _ rfl (Below.refl _ _) (by first | rfl | simp) (fun h => by cases h)
  · have d2 : vals 2 = _ := hd 2 (by decide +kernel)
    have d5 : vals 5 = _ := hd 5 (by decide +kernel)
    rw [d2, d5]
    go_simp
    refine hK _ _ rfl (Below.refl _ _) (by first | rfl | simp) (fun h => by cases h)
  · go_simp
    refine hK _ _ rfl (Below.refl _ _) (by first | rfl | simp) (fun h => by cases h)
  · have d7 : vals 7 = _ := hd 7 (by decide +kernel)
    rw [d7]
    have c0 := (HR0.out.below hS).c1
    go_simp
    refine hK _ _ rfl (Below.refl _ _) (by first | rfl | simp) (fun h => by cases h)
  · go_simp
    refine hK _ _ rfl (Below.refl _ _) (by first | rfl | simp) (fun h => by cases h)
  · have d9 : vals 9 = _ := hd 9 (by decide +kernel)
    rw [d9]
    have c0 := (HR1.out.below hS).c1
    go_simp
    refine hK _ _ rfl (Below.refl _ _) (by first | rfl | simp) (fun h => by cases h)
  · have d8 : vals 8 = _ := hd 8 (by decide +kernel)
    have d10 : vals 10 = _ := hd 10 (by decide +kernel)
    rw [d8, d10]
    go_simp
    go_at_call 73
    with_reducible refine (refMul_c (HX.out.nn.below hS) (HY.out.nn.below hS) (by omega) (by omega)).mono ?_
    rintro e w2 ⟨A_r, n_r, c_r, rfl, h_r, bn_r⟩
    refine hK _ _ rfl bn_r ⟨_, _, _, rfl, h_r⟩ (fun h => by cases h)
  · have d6 : vals 6 = _ := hd 6 (by decide +kernel)
    obtain ⟨A_11, n_11, c_11, d11, h_11⟩ := hd 11 (by decide +kernel)
    rw [d6, d11]
    go_simp
    go_at_call 66
    with_reducible refine (refMake_c h_11 (by omega) z (by first | exact HS.out | simpa using HS.out)).mono ?_
    rintro e w2 ⟨A_r, n_r, c_r, rfl, h_r, bn_r⟩
    refine hK _ _ rfl bn_r ⟨_, _, _, rfl, h_r⟩ (fun h => by cases h)
 case hfin1 =>
  intro vals wr hS hP hne
  obtain ⟨A2, n2, c2, ez, h3⟩ := hP 12 (by decide)
  have hZ3 := HZ.out.below hS
  obtain ⟨e0, e1, f0, f1⟩ := hZ3.cells
  try dsimp only
  rw [ez]
  have HF := Lib.hid (hZ3.fill (.bool (sg z)) (.slice A2 n2 c2))
  have HP := Lib.hid (h3.put hZ3 (.bool (sg z)) (.slice A2 n2 c2))
  have HB := Lib.hid (below_fill (below_two HW.out hS) Hq.out (.bool (sg z)) (.slice A2 n2 c2))
  refine wpAny_ready (rs := [13]) (by kernel_rfl) (by simp) (AllReady.cons rfl (fun KC hK => ?_) AllReady.nil)
  go_simp
  refine hK _ _ ?_
  clear hK KC
  refine wpAny_done (by kernel_rfl) ?_ _
  go_wp2
  refine bodyPost_ret (results_cell_row rfl _ _ (w.heap.size + 1 + 1) 25 #[.bool (sg z), .slice A2 n2 c2] (0, 0) _ rfl HF.out Tryz.underlying25 rfl int_size) rfl ?_
  exact ⟨A2, n2, c2, rfl, HP.out, HB.out⟩
end
end Go.Proofs.YtjikaojffgjndaaGreatDoor

/- What the reference's sum of layer 6 answers, as a contract over memory. Conditions: sizes of at most so many limbs. -/
namespace Go.Proofs.YtjikaojffgjndaaGreatDoor
open Go.RowKit Limb
set_option linter.unusedVariables false
theorem lt_of_sum {w : World} {A : Option Addr} {n c a L K : Nat} {xs : List Nat} (h : NN w A n c xs a L) (hK : L ≤ K) : a < 4294967296 ^ K :=
 Nat.lt_of_lt_of_le (lt_pow h) (Nat.pow_le_pow_right (by decide) hK)
set_option maxHeartbeats 40000000 in
set_option maxRecDepth 100000 in
theorem refIAdd_c {g_x g_y : Bool} {A_x A_y : Option Addr} {n_x c_x n_y c_y : Nat} {xs_x xs_y : List Nat} {z_x z_y : Int} {L_x L_y : Nat} {w : World} (h_x : ZZ w g_x A_x n_x c_x xs_x z_x L_x) (h_y : ZZ w g_y A_y n_y c_y xs_y z_y L_y) (h1 : L_x ≤ 50000) (h2 : L_y ≤ 50000) (z : Int) (hz : z_x + z_y = z) :
 Calls Tryz.prog 62 #[.agg #[.bool g_x, .slice A_x n_x c_x], .agg #[.bool g_y, .slice A_y n_y c_y]] w fun e w' => ∃ A2 n2 c2, e = .returned (.agg #[.bool (sg z), .slice A2 n2 c2]) ∧ ZZ w' (sg z) A2 n2 c2 (limbs z.natAbs) z (L_x + L_y + 1) ∧ Below w.heap.size w w' := by
 have bw := bel_refl w
 have h_rx := row2_new w 25 (.bool g_x) (.slice A_x n_x c_x)
 have bn := below_new w (.cells #[Value.bool g_x, Value.slice A_x n_x c_x] 25)
 replace h_x := h_x.below bn
 replace h_y := h_y.below bn
 replace bw := below_two bw bn
 clear bn
 have h_ry := row2_new (w.alloc (.cells #[Value.bool g_x, Value.slice A_x n_x c_x] 25)) 25 (.bool g_y) (.slice A_y n_y c_y)
 have bn := below_new (w.alloc (.cells #[Value.bool g_x, Value.slice A_x n_x c_x] 25)) (.cells #[Value.bool g_y, Value.slice A_y n_y c_y] 25)
 replace h_x := h_x.below bn
 replace h_y := h_y.below bn
 replace h_rx := h_rx.below bn
 replace bw := below_two bw bn
 clear bn
 have h_rr := row2_new ((w.alloc (.cells #[Value.bool g_x, Value.slice A_x n_x c_x] 25)).alloc (.cells #[Value.bool g_y, Value.slice A_y n_y c_y] 25)) 25 (.bool false) (.slice none 0 0)
 have bn := below_new ((w.alloc (.cells #[Value.bool g_x, Value.slice A_x n_x c_x] 25)).alloc (.cells #[Value.bool g_y, Value.slice A_y n_y c_y] 25)) zbox
 replace h_x := h_x.below bn
 replace h_y := h_y.below bn
 replace h_rx := h_rx.below bn
 replace h_ry := h_ry.below bn
 replace bw := below_two bw bn
 clear bn
 simp only [World.size_alloc] at h_rx h_ry h_rr
 go_enter Tryz.func62, Tryz.ntmps62
 go_wp2
 generalize (((w.alloc (.cells #[Value.bool g_x, Value.slice A_x n_x c_x] 25)).alloc (.cells #[Value.bool g_y, Value.slice A_y n_y c_y] 25)).alloc zbox) = wP at *
 obtain ⟨q_r, eg⟩ : ∃ g, g = w.heap.size + 1 + 1 := ⟨_, rfl⟩
 rw [← eg] at h_rr ⊢
 have E_r := Lib.hid eg
 clear eg
 obtain ⟨q_y, eg⟩ : ∃ g, g = w.heap.size + 1 := ⟨_, rfl⟩
 rw [← eg] at h_ry ⊢
 have E_y := Lib.hid eg
 clear eg
 obtain ⟨q_x, eg⟩ : ∃ g, g = w.heap.size := ⟨_, rfl⟩
 rw [← eg] at h_rx ⊢
 have E_x := Lib.hid eg
 clear eg
 generalize wP = wS at *
 have KA : RowKit.Hid (∀ wx, Below wS.heap.size wS wx → (wx.cell? ⟨q_x, 0, none⟩ = some (.bool g_x) ∧ wx.cell? ⟨q_x, 1, none⟩ = some (.slice A_x n_x c_x) ∧ wx.cell? ⟨q_y, 0, none⟩ = some (.bool g_y) ∧ wx.cell? ⟨q_y, 1, none⟩ = some (.slice A_y n_y c_y) ∧ wx.cell? ⟨q_r, 0, none⟩ = some (.bool false) ∧ wx.cell? ⟨q_r, 1, none⟩ = some (.slice none 0 0) ∧ Below wS.heap.size wS wx)) := fun wx hb => ⟨(h_rx.below hb).c0, (h_rx.below hb).c1, (h_ry.below hb).c0, (h_ry.below hb).c1, (h_rr.below hb).c0, (h_rr.below hb).c1, hb⟩
 have KS : RowKit.Hid (∀ wx w2, (wx.cell? ⟨q_x, 0, none⟩ = some (.bool g_x) ∧ wx.cell? ⟨q_x, 1, none⟩ = some (.slice A_x n_x c_x) ∧ wx.cell? ⟨q_y, 0, none⟩ = some (.bool g_y) ∧ wx.cell? ⟨q_y, 1, none⟩ = some (.slice A_y n_y c_y) ∧ wx.cell? ⟨q_r, 0, none⟩ = some (.bool false) ∧ wx.cell? ⟨q_r, 1, none⟩ = some (.slice none 0 0) ∧ Below wS.heap.size wS wx) → Below wx.heap.size wx w2 → (w2.cell? ⟨q_x, 0, none⟩ = some (.bool g_x) ∧ w2.cell? ⟨q_x, 1, none⟩ = some (.slice A_x n_x c_x) ∧ w2.cell? ⟨q_y, 0, none⟩ = some (.bool g_y) ∧ w2.cell? ⟨q_y, 1, none⟩ = some (.slice A_y n_y c_y) ∧ w2.cell? ⟨q_r, 0, none⟩ = some (.bool false) ∧ w2.cell? ⟨q_r, 1, none⟩ = some (.slice none 0 0) ∧ Below wS.heap.size wS w2)) := fun wx w2 hS bn => KA.out _ (below_two hS.2.2.2.2.2.2 bn)
 have KU : RowKit.Hid (∀ (wx : World) (q : Nat) (u v : Value), (wx.cell? ⟨q_x, 0, none⟩ = some (.bool g_x) ∧ wx.cell? ⟨q_x, 1, none⟩ = some (.slice A_x n_x c_x) ∧ wx.cell? ⟨q_y, 0, none⟩ = some (.bool g_y) ∧ wx.cell? ⟨q_y, 1, none⟩ = some (.slice A_y n_y c_y) ∧ wx.cell? ⟨q_r, 0, none⟩ = some (.bool false) ∧ wx.cell? ⟨q_r, 1, none⟩ = some (.slice none 0 0) ∧ Below wS.heap.size wS wx) → wS.heap.size ≤ q → (((wx.setCell ⟨q, 0, none⟩ u).setCell ⟨q, 1, none⟩ v).cell? ⟨q_x, 0, none⟩ = some (.bool g_x) ∧ ((wx.setCell ⟨q, 0, none⟩ u).setCell ⟨q, 1, none⟩ v).cell? ⟨q_x, 1, none⟩ = some (.slice A_x n_x c_x) ∧ ((wx.setCell ⟨q, 0, none⟩ u).setCell ⟨q, 1, none⟩ v).cell? ⟨q_y, 0, none⟩ = some (.bool g_y) ∧ ((wx.setCell ⟨q, 0, none⟩ u).setCell ⟨q, 1, none⟩ v).cell? ⟨q_y, 1, none⟩ = some (.slice A_y n_y c_y) ∧ ((wx.setCell ⟨q, 0, none⟩ u).setCell ⟨q, 1, none⟩ v).cell? ⟨q_r, 0, none⟩ = some (.bool false) ∧ ((wx.setCell ⟨q, 0, none⟩ u).setCell ⟨q, 1, none⟩ v).cell? ⟨q_r, 1, none⟩ = some (.slice none 0 0) ∧ Below wS.heap.size wS ((wx.setCell ⟨q, 0, none⟩ u).setCell ⟨q, 1, none⟩ v))) := fun wx q u v hS hq => KA.out _ ((hS.2.2.2.2.2.2.setCell (p := ⟨q, 0, none⟩) hq u).setCell (p := ⟨q, 1, none⟩) hq v)
 have K_x : RowKit.Hid (∀ wx, (wx.cell? ⟨q_x, 0, none⟩ = some (.bool g_x) ∧ wx.cell? ⟨q_x, 1, none⟩ = some (.slice A_x n_x c_x) ∧ wx.cell? ⟨q_y, 0, none⟩ = some (.bool g_y) ∧ wx.cell? ⟨q_y, 1, none⟩ = some (.slice A_y n_y c_y) ∧ wx.cell? ⟨q_r, 0, none⟩ = some (.bool false) ∧ wx.cell? ⟨q_r, 1, none⟩ = some (.slice none 0 0) ∧ Below wS.heap.size wS wx) → ZZ wx g_x A_x n_x c_x xs_x z_x L_x) := fun wx hS => h_x.below hS.2.2.2.2.2.2
 have K_y : RowKit.Hid (∀ wx, (wx.cell? ⟨q_x, 0, none⟩ = some (.bool g_x) ∧ wx.cell? ⟨q_x, 1, none⟩ = some (.slice A_x n_x c_x) ∧ wx.cell? ⟨q_y, 0, none⟩ = some (.bool g_y) ∧ wx.cell? ⟨q_y, 1, none⟩ = some (.slice A_y n_y c_y) ∧ wx.cell? ⟨q_r, 0, none⟩ = some (.bool false) ∧ wx.cell? ⟨q_r, 1, none⟩ = some (.slice none 0 0) ∧ Below wS.heap.size wS wx) → ZZ wx g_y A_y n_y c_y xs_y z_y L_y) := fun wx hS => h_y.below hS.2.2.2.2.2.2
 have KR_x : RowKit.Hid (∀ wx, (wx.cell? ⟨q_x, 0, none⟩ = some (.bool g_x) ∧ wx.cell? ⟨q_x, 1, none⟩ = some (.slice A_x n_x c_x) ∧ wx.cell? ⟨q_y, 0, none⟩ = some (.bool g_y) ∧ wx.cell? ⟨q_y, 1, none⟩ = some (.slice A_y n_y c_y) ∧ wx.cell? ⟨q_r, 0, none⟩ = some (.bool false) ∧ wx.cell? ⟨q_r, 1, none⟩ = some (.slice none 0 0) ∧ Below wS.heap.size wS wx) → Row2 wx q_x 25 (.bool g_x) (.slice A_x n_x c_x)) := fun wx hS => h_rx.below hS.2.2.2.2.2.2
 have KR_y : RowKit.Hid (∀ wx, (wx.cell? ⟨q_x, 0, none⟩ = some (.bool g_x) ∧ wx.cell? ⟨q_x, 1, none⟩ = some (.slice A_x n_x c_x) ∧ wx.cell? ⟨q_y, 0, none⟩ = some (.bool g_y) ∧ wx.cell? ⟨q_y, 1, none⟩ = some (.slice A_y n_y c_y) ∧ wx.cell? ⟨q_r, 0, none⟩ = some (.bool false) ∧ wx.cell? ⟨q_r, 1, none⟩ = some (.slice none 0 0) ∧ Below wS.heap.size wS wx) → Row2 wx q_y 25 (.bool g_y) (.slice A_y n_y c_y)) := fun wx hS => h_ry.below hS.2.2.2.2.2.2
 have KR_r : RowKit.Hid (∀ wx, (wx.cell? ⟨q_x, 0, none⟩ = some (.bool g_x) ∧ wx.cell? ⟨q_x, 1, none⟩ = some (.slice A_x n_x c_x) ∧ wx.cell? ⟨q_y, 0, none⟩ = some (.bool g_y) ∧ wx.cell? ⟨q_y, 1, none⟩ = some (.slice A_y n_y c_y) ∧ wx.cell? ⟨q_r, 0, none⟩ = some (.bool false) ∧ wx.cell? ⟨q_r, 1, none⟩ = some (.slice none 0 0) ∧ Below wS.heap.size wS wx) → Row2 wx q_r 25 (.bool false) (.slice none 0 0)) := fun wx hS => h_rr.below hS.2.2.2.2.2.2
 have HF := Lib.hid bw
 have KF : RowKit.Hid (∀ wx, (wx.cell? ⟨q_x, 0, none⟩ = some (.bool g_x) ∧ wx.cell? ⟨q_x, 1, none⟩ = some (.slice A_x n_x c_x) ∧ wx.cell? ⟨q_y, 0, none⟩ = some (.bool g_y) ∧ wx.cell? ⟨q_y, 1, none⟩ = some (.slice A_y n_y c_y) ∧ wx.cell? ⟨q_r, 0, none⟩ = some (.bool false) ∧ wx.cell? ⟨q_r, 1, none⟩ = some (.slice none 0 0) ∧ Below wS.heap.size wS wx) → Below w.heap.size w wx) := fun wx hS => below_two HF.out hS.2.2.2.2.2.2
 obtain ⟨d_x0, d_x1, d_y0, d_y1, d_r0, d_r1, _⟩ := KA.out _ (Below.refl _ _)
 clear h_x h_y h_rx h_ry h_rr bw
 clear HF
 go_cut [5, 6] from 7 to 10 (fun s5 s6 wx => ∃ (q_p : Nat) (A_p : Option Addr) (n_p c_p : Nat) (q_q : Nat) (A_q : Option Addr) (n_q c_q : Nat), s5 = .pointer (some ⟨q_p, 0, none⟩) ∧ s6 = .pointer (some ⟨q_q, 0, none⟩) ∧ RowKit.Hid (Row2 wx q_p 25 (.bool (sg z_x)) (.slice A_p n_p c_p) ∧ ZZ wx (sg z_x) A_p n_p c_p (limbs z_x.natAbs) z_x L_x ∧ Row2 wx q_q 25 (.bool (sg z_y)) (.slice A_q n_q c_q) ∧ ZZ wx (sg z_y) A_q n_q c_q (limbs z_y.natAbs) z_y L_y ∧ Below wS.heap.size wS wx))
 case first =>
  refine region_free 6 2 [7, 8, 9, 10, 5, 6] ?aF (fun wx => wx.cell? ⟨q_x, 0, none⟩ = some (.bool g_x) ∧ wx.cell? ⟨q_x, 1, none⟩ = some (.slice A_x n_x c_x) ∧ wx.cell? ⟨q_y, 0, none⟩ = some (.bool g_y) ∧ wx.cell? ⟨q_y, 1, none⟩ = some (.slice A_y n_y c_y) ∧ wx.cell? ⟨q_r, 0, none⟩ = some (.bool false) ∧ wx.cell? ⟨q_r, 1, none⟩ = some (.slice none 0 0) ∧ Below wS.heap.size wS wx) (fun k v w => match k with
   | 0 => v = .agg #[.bool g_x, .slice A_x n_x c_x]
   | 1 => ∃ A n c, v = .agg #[.bool (sg z_x), .slice A n c] ∧ ZZ w (sg z_x) A n c (limbs z_x.natAbs) z_x L_x
   | 2 => v = .agg #[.bool g_y, .slice A_y n_y c_y]
   | 3 => ∃ A n c, v = .agg #[.bool (sg z_y), .slice A n c] ∧ ZZ w (sg z_y) A n c (limbs z_y.natAbs) z_y L_y
   | 4 => ∃ q, v = .pointer (some ⟨q, 0, none⟩) ∧ ZB w q ∧ wS.heap.size ≤ q
   | _ => ∃ q, v = .pointer (some ⟨q, 0, none⟩) ∧ ZB w q ∧ wS.heap.size ≤ q)
   (fun k => k == 4 || k == 5) (by kernel_rfl) ?haF rfl (by kernel_rfl) (by kernel_rfl) (fun _ _ _ _ _ h => h) ?hSb ?hPb ?hS ?hop ?hfin
  case haF =>
   intro vals
   simp only [fillAll, List.getElem?_cons_zero, List.getElem?_cons_succ, Act.put, List.setIfInBounds_toArray, List.set_cons_zero, List.set_cons_succ]
   exact rfl
  case hSb => exact fun wx w2 hb hS => KS.out wx w2 hS hb
  case hPb =>
   intro k v w1 w2 hb h
   match k, h with
   | 0, h => exact h
   | 1, ⟨A, n, c, h1, h2⟩ => exact ⟨A, n, c, h1, h2.below hb⟩
   | 2, h => exact h
   | 3, ⟨A, n, c, h1, h2⟩ => exact ⟨A, n, c, h1, h2.below hb⟩
   | 4, ⟨q, h1, h2, h3⟩ => exact ⟨q, h1, h2.below hb, h3⟩
   | _ + 5, ⟨q, h1, h2, h3⟩ => exact ⟨q, h1, h2.below hb, h3⟩
  case hS => exact KA.out _ ((Below.refl _ _).drew)
  case hop =>
   refine .cons (k := 0) ?_ (.cons (k := 1) ?_ (.cons (k := 2) ?_ (.cons (k := 3) ?_ (.cons (k := 4) ?_ (.cons (k := 5) ?_ (.nil))))))
   all_goals intro vals wr hS hd K hK
   all_goals (show Oper.wp _ _ _ _ _ _; dsimp only)
   · obtain ⟨b0, b1, b2, b3, b4, b5, bS⟩ := hS
     go_simp
     refine hK _ _ rfl (Below.refl _ _) rfl (fun h => by cases h)
   · have d0 : vals 0 = _ := hd 0 (by decide +kernel)
     rw [d0]
     go_simp
     go_at_call 114
     with_reducible refine (refITrim_c (K_x.out _ hS) (by omega)).mono ?_
     rintro e w2 ⟨A_r, n_r, c_r, rfl, h_r, bn_r⟩
     refine hK _ _ rfl bn_r ⟨_, _, _, rfl, h_r⟩ (fun h => by cases h)
   · obtain ⟨b0, b1, b2, b3, b4, b5, bS⟩ := hS
     go_simp
     refine hK _ _ rfl (Below.refl _ _) rfl (fun h => by cases h)
   · have d2 : vals 2 = _ := hd 2 (by decide +kernel)
     rw [d2]
     go_simp
     go_at_call 114
     with_reducible refine (refITrim_c (K_y.out _ hS) (by omega)).mono ?_
     rintro e w2 ⟨A_r, n_r, c_r, rfl, h_r, bn_r⟩
     refine hK _ _ rfl bn_r ⟨_, _, _, rfl, h_r⟩ (fun h => by cases h)
   · go_simp
     refine hK _ _ rfl (below_new _ _) ⟨_, rfl, row2_new wr 25 _ _, hS.2.2.2.2.2.2.size⟩ (fun _ => ⟨_, rfl, Nat.le_refl _, by rw [World.size_alloc]; omega⟩)
   · go_simp
     refine hK _ _ rfl (below_new _ _) ⟨_, rfl, row2_new wr 25 _ _, hS.2.2.2.2.2.2.size⟩ (fun _ => ⟨_, rfl, Nat.le_refl _, by rw [World.size_alloc]; omega⟩)
  case hfin =>
   intro vals wr hS hP hne
   obtain ⟨A_p, n_p, c_p, e1, h_p⟩ := hP 1 (by decide)
   obtain ⟨A_q, n_q, c_q, e3, h_q⟩ := hP 3 (by decide)
   obtain ⟨q_p, e4, z_bp, l_bp⟩ := hP 4 (by decide)
   obtain ⟨q_q, e5, z_bq, l_bq⟩ := hP 5 (by decide)
   have nq01 : q_p ≠ q_q := hne 4 5 (by decide) (by decide) (by decide) rfl rfl _ _ e4 e5
   try dsimp only
   rw [e1, e3, e4, e5]
   have bS := hS.2.2.2.2.2.2
   replace h_p := h_p.put z_bp (.bool (sg z_x)) (.slice A_p n_p c_p)
   replace h_q := h_q.put z_bp (.bool (sg z_x)) (.slice A_p n_p c_p)
   have z_nq := Row2.far z_bq nq01 (.bool (sg z_x)) (.slice A_p n_p c_p)
   have r_p := Row2.filled z_bp (.bool (sg z_x)) (.slice A_p n_p c_p)
   replace bS := (bS.setCell (p := ⟨q_p, 0, none⟩) l_bp (.bool (sg z_x))).setCell (p := ⟨q_p, 1, none⟩) l_bp (.slice A_p n_p c_p)
   replace h_p := h_p.put z_nq (.bool (sg z_y)) (.slice A_q n_q c_q)
   replace h_q := h_q.put z_nq (.bool (sg z_y)) (.slice A_q n_q c_q)
   replace r_p := r_p.far (g := q_q) (Ne.symm nq01) (.bool (sg z_y)) (.slice A_q n_q c_q)
   have r_q := Row2.filled z_nq (.bool (sg z_y)) (.slice A_q n_q c_q)
   replace bS := (bS.setCell (p := ⟨q_q, 0, none⟩) l_bq (.bool (sg z_y))).setCell (p := ⟨q_q, 1, none⟩) l_bq (.slice A_q n_q c_q)
   obtain ⟨c00, c01, c02, c03⟩ := z_bp.cells
   obtain ⟨c10, c11, c12, c13⟩ := z_bq.cells
   have t := Lib.hid (And.intro r_p (And.intro h_p (And.intro r_q (And.intro h_q bS))))
   clear bS h_p h_q r_p r_q
   refine wpAny_ready (rs := [6]) (by kernel_rfl) (by simp) (AllReady.cons rfl (fun K hK => ?_) AllReady.nil)
   go_simp
   refine hK _ _ ?_
   clear hK K
   refine wpAny_ready (rs := [7]) (by kernel_rfl) (by simp) (AllReady.cons rfl (fun K hK => ?_) AllReady.nil)
   go_simp
   refine hK _ _ ?_
   clear hK K
   refine wpAny_done (by kernel_rfl) ?_ _
   go_wp2
   go_meet
   case rel => exact ⟨q_p, A_p, n_p, c_p, q_q, A_q, n_q, c_q, rfl, rfl, t⟩
 case rest =>
  obtain ⟨q_p, A_p, n_p, c_p, q_q, A_q, n_q, c_q, rfl, rfl, t⟩ := hcut
  obtain ⟨h_rp, h_p, h_rq, h_q, bn⟩ := t.out
  clear t
  have hS0 := KA.out _ bn
  have h_x := K_x.out _ hS0
  have h_y := K_y.out _ hS0
  have h_rx := KR_x.out _ hS0
  have h_ry := KR_y.out _ hS0
  have h_rr := KR_r.out _ hS0
  have bw := KF.out _ hS0
  clear hS0 bn KA KS KU KF K_x K_y KR_x KR_y KR_r d_x0 d_x1 d_y0 d_y1 d_r0 d_r1
  generalize wc = wS at *
  have HP := Lib.hid h_p
  have HQ := Lib.hid h_q
  have HRp := Lib.hid h_rp
  have HRq := Lib.hid h_rq
  have HZ : RowKit.Hid (ZB wS q_r) := h_rr
  have HW := Lib.hid bw
  have Hq : RowKit.Hid (w.heap.size ≤ q_r) := by have := E_r.out; show _ ≤ _; omega
  have d_p0 := h_rp.c0
  have d_p1 := h_rp.c1
  have d_q0 := h_rq.c0
  have d_q1 := h_rq.c1
  clear bw h_x h_y h_rx h_ry h_rr h_p h_rp h_q h_rq
  by_cases hs : sg z_x = sg z_y
  · have hs2 : (sg z_x == sg z_y) = true := by simpa using hs
    have HS : RowKit.Hid (zOf (sg z_x) (z_x.natAbs + z_y.natAbs) = z) := (zOf_add sg_zof (by rw [hs]; exact sg_zof)).trans hz
    clear hz hs
    go_wp2_with fail
    clear d_p0 d_p1 d_q0 d_q1
    refine region_free 8 1 [16, 17, 18, 19, 20, 21, 22, 23] ?aF2 (fun wx => Below wS.heap.size wS wx) (fun k v wx => match k with
     | 0 => v = .pointer (some ⟨q_p, 0, none⟩)
     | 1 => v = .bool (sg z_x)
     | 2 => v = .pointer (some ⟨q_p, 1, none⟩)
     | 3 => v = .slice A_p n_p c_p
     | 4 => v = .pointer (some ⟨q_q, 1, none⟩)
     | 5 => v = .slice A_q n_q c_q
     | 6 => ∃ A2 n2 c2, v = .slice A2 n2 c2 ∧ NN wx A2 n2 c2 (limbs (z_x.natAbs + z_y.natAbs)) (z_x.natAbs + z_y.natAbs) (L_x + L_y + 1)
     | _ => ∃ A2 n2 c2, v = .agg #[.bool (sg z), .slice A2 n2 c2] ∧ ZZ wx (sg z) A2 n2 c2 (limbs z.natAbs) z (L_x + L_y + 1))
     (fun _ => false) (by kernel_rfl) ?haF2 rfl (by kernel_rfl) (by kernel_rfl) (fun _ _ _ _ _ h => h) ?hSb2 ?hPb2 ?hS2 ?hop2 ?hfin2
    case haF2 =>
     intro vals
     simp only [fillAll, List.getElem?_cons_zero, List.getElem?_cons_succ, Act.put, List.setIfInBounds_toArray, List.set_cons_zero, List.set_cons_succ]
     exact rfl
    case hSb2 => exact fun wx w2 hb hS => below_two hS hb
    case hPb2 =>
     intro k v wa wb hb h
     match k, h with
     | 0, h => exact h
     | 1, h => exact h
     | 2, h => exact h
     | 3, h => exact h
     | 4, h => exact h
     | 5, h => exact h
     | 6, ⟨A2, n2, c2, h1, h2⟩ => exact ⟨A2, n2, c2, h1, h2.below hb⟩
     | _ + 7, ⟨A2, n2, c2, h1, h2⟩ => exact ⟨A2, n2, c2, h1, h2.below hb⟩
    case hS2 => exact (Below.refl _ _).drew
    case hop2 =>
     refine .cons (k := 0) ?_ (.cons (k := 1) ?_ (.cons (k := 2) ?_ (.cons (k := 3) ?_ (.cons (k := 4) ?_ (.cons (k := 5) ?_ (.cons (k := 6) ?_ (.cons (k := 7) ?_ (.nil))))))))
     all_goals intro vals wr hS hd KC hK
     all_goals (show Oper.wp _ _ _ _ _ _; dsimp only)
     · go_simp
       refine hK _ _ rfl (Below.refl _ _) (by first | rfl | simp) (fun h => by cases h)
     · have d0 : vals 0 = _ := hd 0 (by decide +kernel)
       rw [d0]
       have c0 := (HRp.out.below hS).c0
       go_simp
       refine hK _ _ rfl (Below.refl _ _) (by first | rfl | simp) (fun h => by cases h)
     · go_simp
       refine hK _ _ rfl (Below.refl _ _) (by first | rfl | simp) (fun h => by cases h)
     · have d2 : vals 2 = _ := hd 2 (by decide +kernel)
       rw [d2]
       have c0 := (HRp.out.below hS).c1
       go_simp
       refine hK _ _ rfl (Below.refl _ _) (by first | rfl | simp) (fun h => by cases h)
     · go_simp
       refine hK _ _ rfl (Below.refl _ _) (by first | rfl | simp) (fun h => by cases h)
     · have d4 : vals 4 = _ := hd 4 (by decide +kernel)
       rw [d4]
       have c0 := (HRq.out.below hS).c1
       go_simp
       refine hK _ _ rfl (Below.refl _ _) (by first | rfl | simp) (fun h => by cases h)
     · have d3 : vals 3 = _ := hd 3 (by decide +kernel)
       have d5 : vals 5 = _ := hd 5 (by decide +kernel)
       rw [d3, d5]
       go_simp
       go_at_call 97
       with_reducible refine (refAdd_c (HP.out.nn.below hS) (HQ.out.nn.below hS) (by omega) (by omega)).mono ?_
       rintro e w2 ⟨A_r, n_r, c_r, rfl, h_r, bn_r⟩
       refine hK _ _ rfl bn_r ⟨_, _, _, rfl, h_r⟩ (fun h => by cases h)
     · have d1 : vals 1 = _ := hd 1 (by decide +kernel)
       obtain ⟨A_6, n_6, c_6, d6, h_6⟩ := hd 6 (by decide +kernel)
       rw [d1, d6]
       go_simp
       go_at_call 66
       with_reducible refine (refMake_c h_6 (by omega) z HS.out).mono ?_
       rintro e w2 ⟨A_r, n_r, c_r, rfl, h_r, bn_r⟩
       refine hK _ _ rfl bn_r ⟨_, _, _, rfl, h_r⟩ (fun h => by cases h)
    case hfin2 =>
     intro vals wr hS hP hne
     obtain ⟨A2, n2, c2, ez, h3⟩ := hP 7 (by decide)
     have hZ3 := HZ.out.below hS
     obtain ⟨e0, e1, f0, f1⟩ := hZ3.cells
     try dsimp only
     rw [ez]
     have HF := Lib.hid (hZ3.fill (.bool (sg z)) (.slice A2 n2 c2))
     have HPz := Lib.hid (h3.put hZ3 (.bool (sg z)) (.slice A2 n2 c2))
     have HB := Lib.hid (below_fill (below_two HW.out hS) Hq.out (.bool (sg z)) (.slice A2 n2 c2))
     refine wpAny_ready (rs := [8]) (by kernel_rfl) (by simp) (AllReady.cons rfl (fun KC hK => ?_) AllReady.nil)
     go_simp
     refine hK _ _ ?_
     clear hK KC
     refine wpAny_done (by kernel_rfl) ?_ _
     go_wp2
     refine bodyPost_ret (results_cell_row rfl _ _ (q_r) 25 #[.bool (sg z), .slice A2 n2 c2] (0, 0) _ rfl HF.out Tryz.underlying25 rfl int_size) rfl ?_
     exact ⟨A2, n2, c2, rfl, ⟨HPz.out.nn.relax (lt_of_sum HPz.out.nn (by omega)), HPz.out.sgn⟩, HB.out⟩
  · by_cases hab : z_y.natAbs ≤ z_x.natAbs
    · have hs2 : (sg z_x == sg z_y) = false := by simpa using hs
      have HS : RowKit.Hid (zOf (sg z_x) (z_x.natAbs - z_y.natAbs) = z) := (zOf_sub sg_zof sg_zof hs hab).trans hz
      obtain ⟨d, hd⟩ : ∃ d, cmpI z_x.natAbs z_y.natAbs = d := ⟨_, rfl⟩
      have hd0 : 0 ≤ d := by
       rw [← hd]
       rcases Nat.lt_or_eq_of_le hab with h | h
       · rw [cmpI_gt h]; decide
       · rw [cmpI_same h.symm]; decide
      have HV := Lib.hid hd
      clear hz hs hd
      go_wp2_with fail
      refine (refCmp_c HP.out.nn HQ.out.nn (by omega) (by omega) d HV.out).mono ?_
      rintro e w9 ⟨rfl, rfl⟩
      go_wp2_with fail
      clear d_p0 d_p1 d_q0 d_q1
      refine region_free 8 1 [30, 31, 32, 33, 34, 35, 36, 37] ?aF3 (fun wx => Below wS.heap.size wS wx) (fun k v wx => match k with
       | 0 => v = .pointer (some ⟨q_p, 0, none⟩)
       | 1 => v = .bool (sg z_x)
       | 2 => v = .pointer (some ⟨q_p, 1, none⟩)
       | 3 => v = .slice A_p n_p c_p
       | 4 => v = .pointer (some ⟨q_q, 1, none⟩)
       | 5 => v = .slice A_q n_q c_q
       | 6 => ∃ A2 n2 c2, v = .slice A2 n2 c2 ∧ NN wx A2 n2 c2 (limbs (z_x.natAbs - z_y.natAbs)) (z_x.natAbs - z_y.natAbs) L_x
       | _ => ∃ A2 n2 c2, v = .agg #[.bool (sg z), .slice A2 n2 c2] ∧ ZZ wx (sg z) A2 n2 c2 (limbs z.natAbs) z L_x)
       (fun _ => false) (by kernel_rfl) ?haF3 rfl (by kernel_rfl) (by kernel_rfl) (fun _ _ _ _ _ h => h) ?hSb3 ?hPb3 ?hS3 ?hop3 ?hfin3
      case haF3 =>
       intro vals
       simp only [fillAll, List.getElem?_cons_zero, List.getElem?_cons_succ, Act.put, List.setIfInBounds_toArray, List.set_cons_zero, List.set_cons_succ]
       exact rfl
      case hSb3 => exact fun wx w2 hb hS => below_two hS hb
      case hPb3 =>
       intro k v wa wb hb h
       match k, h with
       | 0, h => exact h
       | 1, h => exact h
       | 2, h => exact h
       | 3, h => exact h
       | 4, h => exact h
       | 5, h => exact h
       | 6, ⟨A2, n2, c2, h1, h2⟩ => exact ⟨A2, n2, c2, h1, h2.below hb⟩
       | _ + 7, ⟨A2, n2, c2, h1, h2⟩ => exact ⟨A2, n2, c2, h1, h2.below hb⟩
      case hS3 => exact (Below.refl _ _).drew
      case hop3 =>
       refine .cons (k := 0) ?_ (.cons (k := 1) ?_ (.cons (k := 2) ?_ (.cons (k := 3) ?_ (.cons (k := 4) ?_ (.cons (k := 5) ?_ (.cons (k := 6) ?_ (.cons (k := 7) ?_ (.nil))))))))
       all_goals intro vals wr hS hd KC hK
       all_goals (show Oper.wp _ _ _ _ _ _; dsimp only)
       · go_simp
         refine hK _ _ rfl (Below.refl _ _) (by first | rfl | simp) (fun h => by cases h)
       · have d0 : vals 0 = _ := hd 0 (by decide +kernel)
         rw [d0]
         have c0 := (HRp.out.below hS).c0
         go_simp
         refine hK _ _ rfl (Below.refl _ _) (by first | rfl | simp) (fun h => by cases h)
       · go_simp
         refine hK _ _ rfl (Below.refl _ _) (by first | rfl | simp) (fun h => by cases h)
       · have d2 : vals 2 = _ := hd 2 (by decide +kernel)
         rw [d2]
         have c0 := (HRp.out.below hS).c1
         go_simp
         refine hK _ _ rfl (Below.refl _ _) (by first | rfl | simp) (fun h => by cases h)
       · go_simp
         refine hK _ _ rfl (Below.refl _ _) (by first | rfl | simp) (fun h => by cases h)
       · have d4 : vals 4 = _ := hd 4 (by decide +kernel)
         rw [d4]
         have c0 := (HRq.out.below hS).c1
         go_simp
         refine hK _ _ rfl (Below.refl _ _) (by first | rfl | simp) (fun h => by cases h)
       · have d3 : vals 3 = _ := hd 3 (by decide +kernel)
         have d5 : vals 5 = _ := hd 5 (by decide +kernel)
         rw [d3, d5]
         go_simp
         go_at_call 117
         with_reducible refine (refSub_c (HP.out.nn.below hS) (HQ.out.nn.below hS) (by omega) (by omega) hab).mono ?_
         rintro e w2 ⟨A_r, n_r, c_r, rfl, h_r, bn_r⟩
         refine hK _ _ rfl bn_r ⟨_, _, _, rfl, h_r⟩ (fun h => by cases h)
       · have d1 : vals 1 = _ := hd 1 (by decide +kernel)
         obtain ⟨A_6, n_6, c_6, d6, h_6⟩ := hd 6 (by decide +kernel)
         rw [d1, d6]
         go_simp
         go_at_call 66
         with_reducible refine (refMake_c h_6 (by omega) z HS.out).mono ?_
         rintro e w2 ⟨A_r, n_r, c_r, rfl, h_r, bn_r⟩
         refine hK _ _ rfl bn_r ⟨_, _, _, rfl, h_r⟩ (fun h => by cases h)
      case hfin3 =>
       intro vals wr hS hP hne
       obtain ⟨A2, n2, c2, ez, h3⟩ := hP 7 (by decide)
       have hZ3 := HZ.out.below hS
       obtain ⟨e0, e1, f0, f1⟩ := hZ3.cells
       try dsimp only
       rw [ez]
       have HF := Lib.hid (hZ3.fill (.bool (sg z)) (.slice A2 n2 c2))
       have HPz := Lib.hid (h3.put hZ3 (.bool (sg z)) (.slice A2 n2 c2))
       have HB := Lib.hid (below_fill (below_two HW.out hS) Hq.out (.bool (sg z)) (.slice A2 n2 c2))
       refine wpAny_ready (rs := [8]) (by kernel_rfl) (by simp) (AllReady.cons rfl (fun KC hK => ?_) AllReady.nil)
       go_simp
       refine hK _ _ ?_
       clear hK KC
       refine wpAny_done (by kernel_rfl) ?_ _
       go_wp2
       refine bodyPost_ret (results_cell_row rfl _ _ (q_r) 25 #[.bool (sg z), .slice A2 n2 c2] (0, 0) _ rfl HF.out Tryz.underlying25 rfl int_size) rfl ?_
       exact ⟨A2, n2, c2, rfl, ⟨HPz.out.nn.relax (lt_of_sum HPz.out.nn (by omega)), HPz.out.sgn⟩, HB.out⟩
    · have hs2 : (sg z_x == sg z_y) = false := by simpa using hs
      have hba : z_x.natAbs ≤ z_y.natAbs := by omega
      have HS : RowKit.Hid (zOf (sg z_y) (z_y.natAbs - z_x.natAbs) = z) := (zOf_sub sg_zof sg_zof (Ne.symm hs) hba).trans ((Int.add_comm _ _).trans hz)
      obtain ⟨d, hd⟩ : ∃ d, cmpI z_x.natAbs z_y.natAbs = d := ⟨_, rfl⟩
      have hd0 : d < 0 := by
       rw [← hd, cmpI_lt (by omega)]; decide
      have HV := Lib.hid hd
      clear hz hs hd
      go_wp2_with fail
      refine (refCmp_c HP.out.nn HQ.out.nn (by omega) (by omega) d HV.out).mono ?_
      rintro e w9 ⟨rfl, rfl⟩
      go_wp2_with fail
      clear d_p0 d_p1 d_q0 d_q1
      refine region_free 8 1 [38, 39, 40, 41, 42, 43, 44, 45] ?aF4 (fun wx => Below wS.heap.size wS wx) (fun k v wx => match k with
       | 0 => v = .pointer (some ⟨q_q, 0, none⟩)
       | 1 => v = .bool (sg z_y)
       | 2 => v = .pointer (some ⟨q_q, 1, none⟩)
       | 3 => v = .slice A_q n_q c_q
       | 4 => v = .pointer (some ⟨q_p, 1, none⟩)
       | 5 => v = .slice A_p n_p c_p
       | 6 => ∃ A2 n2 c2, v = .slice A2 n2 c2 ∧ NN wx A2 n2 c2 (limbs (z_y.natAbs - z_x.natAbs)) (z_y.natAbs - z_x.natAbs) L_y
       | _ => ∃ A2 n2 c2, v = .agg #[.bool (sg z), .slice A2 n2 c2] ∧ ZZ wx (sg z) A2 n2 c2 (limbs z.natAbs) z L_y)
       (fun _ => false) (by kernel_rfl) ?haF4 rfl (by kernel_rfl) (by kernel_rfl) (fun _ _ _ _ _ h => h) ?hSb4 ?hPb4 ?hS4 ?hop4 ?hfin4
      case haF4 =>
       intro vals
       simp only [fillAll, List.getElem?_cons_zero, List.getElem?_cons_succ, Act.put, List.setIfInBounds_toArray, List.set_cons_zero, List.set_cons_succ]
       exact rfl
      case hSb4 => exact fun wx w2 hb hS => below_two hS hb
      case hPb4 =>
       intro k v wa wb hb h
       match k, h with
       | 0, h => exact h
       | 1, h => exact h
       | 2, h => exact h
       | 3, h => exact h
       | 4, h => exact h
       | 5, h => exact h
       | 6, ⟨A2, n2, c2, h1, h2⟩ => exact ⟨A2, n2, c2, h1, h2.below hb⟩
       | _ + 7, ⟨A2, n2, c2, h1, h2⟩ => exact ⟨A2, n2, c2, h1, h2.below hb⟩
      case hS4 => exact (Below.refl _ _).drew
      case hop4 =>
       refine .cons (k := 0) ?_ (.cons (k := 1) ?_ (.cons (k := 2) ?_ (.cons (k := 3) ?_ (.cons (k := 4) ?_ (.cons (k := 5) ?_ (.cons (k := 6) ?_ (.cons (k := 7) ?_ (.nil))))))))
       all_goals intro vals wr hS hd KC hK
       all_goals (show Oper.wp _ _ _ _ _ _; dsimp only)
       · go_simp
         refine hK _ _ rfl (Below.refl _ _) (by first | rfl | simp) (fun h => by cases h)
       · have d0 : vals 0 = _ := hd 0 (by decide +kernel)
         rw [d0]
         have c0 := (HRq.out.below hS).c0
         go_simp
         refine hK _ _ rfl (Below.refl _ _) (by first | rfl | simp) (fun h => by cases h)
       · go_simp
         refine hK _ _ rfl (Below.refl _ _) (by first | rfl | simp) (fun h => by cases h)
       · have d2 : vals 2 = _ := hd 2 (by decide +kernel)
         rw [d2]
         have c0 := (HRq.out.below hS).c1
         go_simp
         refine hK _ _ rfl (Below.refl _ _) (by first | rfl | simp) (fun h => by cases h)
       · go_simp
         refine hK _ _ rfl (Below.refl _ _) (by first | rfl | simp) (fun h => by cases h)
       · have d4 : vals 4 = _ := hd 4 (by decide +kernel)
         rw [d4]
         have c0 := (HRp.out.below hS).c1
         go_simp
         refine hK _ _ rfl (Below.refl _ _) (by first | rfl | simp) (fun h => by cases h)
       · have d3 : vals 3 = _ := hd 3 (by decide +kernel)
         have d5 : vals 5 = _ := hd 5 (by decide +kernel)
         rw [d3, d5]
         go_simp
         go_at_call 117
         with_reducible refine (refSub_c (HQ.out.nn.below hS) (HP.out.nn.below hS) (by omega) (by omega) hba).mono ?_
         rintro e w2 ⟨A_r, n_r, c_r, rfl, h_r, bn_r⟩
         refine hK _ _ rfl bn_r ⟨_, _, _, rfl, h_r⟩ (fun h => by cases h)
       · have d1 : vals 1 = _ := hd 1 (by decide +kernel)
         obtain ⟨A_6, n_6, c_6, d6, h_6⟩ := hd 6 (by decide +kernel)
         rw [d1, d6]
         go_simp
         go_at_call 66
         with_reducible refine (refMake_c h_6 (by omega) z HS.out).mono ?_
         rintro e w2 ⟨A_r, n_r, c_r, rfl, h_r, bn_r⟩
         refine hK _ _ rfl bn_r ⟨_, _, _, rfl, h_r⟩ (fun h => by cases h)
      case hfin4 =>
       intro vals wr hS hP hne
       obtain ⟨A2, n2, c2, ez, h3⟩ := hP 7 (by decide)
       have hZ3 := HZ.out.below hS
       obtain ⟨e0, e1, f0, f1⟩ := hZ3.cells
       try dsimp only
       rw [ez]
       have HF := Lib.hid (hZ3.fill (.bool (sg z)) (.slice A2 n2 c2))
       have HPz := Lib.hid (h3.put hZ3 (.bool (sg z)) (.slice A2 n2 c2))
       have HB := Lib.hid (below_fill (below_two HW.out hS) Hq.out (.bool (sg z)) (.slice A2 n2 c2))
       refine wpAny_ready (rs := [8]) (by kernel_rfl) (by simp) (AllReady.cons rfl (fun KC hK => ?_) AllReady.nil)
       go_simp
       refine hK _ _ ?_
       clear hK KC
       refine wpAny_done (by kernel_rfl) ?_ _
       go_wp2
       refine bodyPost_ret (results_cell_row rfl _ _ (q_r) 25 #[.bool (sg z), .slice A2 n2 c2] (0, 0) _ rfl HF.out Tryz.underlying25 rfl int_size) rfl ?_
       exact ⟨A2, n2, c2, rfl, ⟨HPz.out.nn.relax (lt_of_sum HPz.out.nn (by omega)), HPz.out.sgn⟩, HB.out⟩
end Go.Proofs.YtjikaojffgjndaaGreatDoor

/- What the reference's comparison of layer 6 answers, as a contract over memory. Conditions: sizes of at most so many limbs. -/
namespace Go.Proofs.YtjikaojffgjndaaGreatDoor
open Go.RowKit Limb
set_option linter.unusedVariables false
set_option maxHeartbeats 40000000 in
set_option maxRecDepth 100000 in
theorem refICmp_c {g_x g_y : Bool} {A_x A_y : Option Addr} {n_x c_x n_y c_y : Nat} {xs_x xs_y : List Nat} {z_x z_y : Int} {L_x L_y : Nat} {w : World} (h_x : ZZ w g_x A_x n_x c_x xs_x z_x L_x) (h_y : ZZ w g_y A_y n_y c_y xs_y z_y L_y) (h1 : L_x ≤ 100000) (h2 : L_y ≤ 100000) (v : Int) (hv : cmpZ z_x z_y = v) :
 Calls Tryz.prog 121 #[.agg #[.bool g_x, .slice A_x n_x c_x], .agg #[.bool g_y, .slice A_y n_y c_y]] w fun e w' => e = .returned (.int .i64 v) ∧ Below w.heap.size w w' := by
 have hl1 := h1
 have hl2 := h2
 have bw := bel_refl w
 have h_rx := row2_new w 25 (.bool g_x) (.slice A_x n_x c_x)
 have bn := below_new w (.cells #[Value.bool g_x, Value.slice A_x n_x c_x] 25)
 replace h_x := h_x.below bn
 replace h_y := h_y.below bn
 replace bw := below_two bw bn
 clear bn
 have h_ry := row2_new (w.alloc (.cells #[Value.bool g_x, Value.slice A_x n_x c_x] 25)) 25 (.bool g_y) (.slice A_y n_y c_y)
 have bn := below_new (w.alloc (.cells #[Value.bool g_x, Value.slice A_x n_x c_x] 25)) (.cells #[Value.bool g_y, Value.slice A_y n_y c_y] 25)
 replace h_x := h_x.below bn
 replace h_y := h_y.below bn
 replace h_rx := h_rx.below bn
 replace bw := below_two bw bn
 clear bn
 simp only [World.size_alloc] at h_rx h_ry
 go_enter Tryz.func121, Tryz.ntmps121
 go_wp2
 generalize ((w.alloc (.cells #[Value.bool g_x, Value.slice A_x n_x c_x] 25)).alloc (.cells #[Value.bool g_y, Value.slice A_y n_y c_y] 25)) = wP at *
 obtain ⟨q_y, eg⟩ : ∃ g, g = w.heap.size + 1 := ⟨_, rfl⟩
 rw [← eg] at h_ry ⊢
 have E_y := Lib.hid eg
 clear eg
 obtain ⟨q_x, eg⟩ : ∃ g, g = w.heap.size := ⟨_, rfl⟩
 rw [← eg] at h_rx ⊢
 have E_x := Lib.hid eg
 clear eg
 generalize wP = wS at *
 have KA : RowKit.Hid (∀ wx, Below wS.heap.size wS wx → (wx.cell? ⟨q_x, 0, none⟩ = some (.bool g_x) ∧ wx.cell? ⟨q_x, 1, none⟩ = some (.slice A_x n_x c_x) ∧ wx.cell? ⟨q_y, 0, none⟩ = some (.bool g_y) ∧ wx.cell? ⟨q_y, 1, none⟩ = some (.slice A_y n_y c_y) ∧ Below wS.heap.size wS wx)) := fun wx hb => ⟨(h_rx.below hb).c0, (h_rx.below hb).c1, (h_ry.below hb).c0, (h_ry.below hb).c1, hb⟩
 have KS : RowKit.Hid (∀ wx w2, (wx.cell? ⟨q_x, 0, none⟩ = some (.bool g_x) ∧ wx.cell? ⟨q_x, 1, none⟩ = some (.slice A_x n_x c_x) ∧ wx.cell? ⟨q_y, 0, none⟩ = some (.bool g_y) ∧ wx.cell? ⟨q_y, 1, none⟩ = some (.slice A_y n_y c_y) ∧ Below wS.heap.size wS wx) → Below wx.heap.size wx w2 → (w2.cell? ⟨q_x, 0, none⟩ = some (.bool g_x) ∧ w2.cell? ⟨q_x, 1, none⟩ = some (.slice A_x n_x c_x) ∧ w2.cell? ⟨q_y, 0, none⟩ = some (.bool g_y) ∧ w2.cell? ⟨q_y, 1, none⟩ = some (.slice A_y n_y c_y) ∧ Below wS.heap.size wS w2)) := fun wx w2 hS bn => KA.out _ (below_two hS.2.2.2.2 bn)
 have KU : RowKit.Hid (∀ (wx : World) (q : Nat) (u v : Value), (wx.cell? ⟨q_x, 0, none⟩ = some (.bool g_x) ∧ wx.cell? ⟨q_x, 1, none⟩ = some (.slice A_x n_x c_x) ∧ wx.cell? ⟨q_y, 0, none⟩ = some (.bool g_y) ∧ wx.cell? ⟨q_y, 1, none⟩ = some (.slice A_y n_y c_y) ∧ Below wS.heap.size wS wx) → wS.heap.size ≤ q → (((wx.setCell ⟨q, 0, none⟩ u).setCell ⟨q, 1, none⟩ v).cell? ⟨q_x, 0, none⟩ = some (.bool g_x) ∧ ((wx.setCell ⟨q, 0, none⟩ u).setCell ⟨q, 1, none⟩ v).cell? ⟨q_x, 1, none⟩ = some (.slice A_x n_x c_x) ∧ ((wx.setCell ⟨q, 0, none⟩ u).setCell ⟨q, 1, none⟩ v).cell? ⟨q_y, 0, none⟩ = some (.bool g_y) ∧ ((wx.setCell ⟨q, 0, none⟩ u).setCell ⟨q, 1, none⟩ v).cell? ⟨q_y, 1, none⟩ = some (.slice A_y n_y c_y) ∧ Below wS.heap.size wS ((wx.setCell ⟨q, 0, none⟩ u).setCell ⟨q, 1, none⟩ v))) := fun wx q u v hS hq => KA.out _ ((hS.2.2.2.2.setCell (p := ⟨q, 0, none⟩) hq u).setCell (p := ⟨q, 1, none⟩) hq v)
 have K_x : RowKit.Hid (∀ wx, (wx.cell? ⟨q_x, 0, none⟩ = some (.bool g_x) ∧ wx.cell? ⟨q_x, 1, none⟩ = some (.slice A_x n_x c_x) ∧ wx.cell? ⟨q_y, 0, none⟩ = some (.bool g_y) ∧ wx.cell? ⟨q_y, 1, none⟩ = some (.slice A_y n_y c_y) ∧ Below wS.heap.size wS wx) → ZZ wx g_x A_x n_x c_x xs_x z_x L_x) := fun wx hS => h_x.below hS.2.2.2.2
 have K_y : RowKit.Hid (∀ wx, (wx.cell? ⟨q_x, 0, none⟩ = some (.bool g_x) ∧ wx.cell? ⟨q_x, 1, none⟩ = some (.slice A_x n_x c_x) ∧ wx.cell? ⟨q_y, 0, none⟩ = some (.bool g_y) ∧ wx.cell? ⟨q_y, 1, none⟩ = some (.slice A_y n_y c_y) ∧ Below wS.heap.size wS wx) → ZZ wx g_y A_y n_y c_y xs_y z_y L_y) := fun wx hS => h_y.below hS.2.2.2.2
 have KR_x : RowKit.Hid (∀ wx, (wx.cell? ⟨q_x, 0, none⟩ = some (.bool g_x) ∧ wx.cell? ⟨q_x, 1, none⟩ = some (.slice A_x n_x c_x) ∧ wx.cell? ⟨q_y, 0, none⟩ = some (.bool g_y) ∧ wx.cell? ⟨q_y, 1, none⟩ = some (.slice A_y n_y c_y) ∧ Below wS.heap.size wS wx) → Row2 wx q_x 25 (.bool g_x) (.slice A_x n_x c_x)) := fun wx hS => h_rx.below hS.2.2.2.2
 have KR_y : RowKit.Hid (∀ wx, (wx.cell? ⟨q_x, 0, none⟩ = some (.bool g_x) ∧ wx.cell? ⟨q_x, 1, none⟩ = some (.slice A_x n_x c_x) ∧ wx.cell? ⟨q_y, 0, none⟩ = some (.bool g_y) ∧ wx.cell? ⟨q_y, 1, none⟩ = some (.slice A_y n_y c_y) ∧ Below wS.heap.size wS wx) → Row2 wx q_y 25 (.bool g_y) (.slice A_y n_y c_y)) := fun wx hS => h_ry.below hS.2.2.2.2
 have HF := Lib.hid bw
 have KF : RowKit.Hid (∀ wx, (wx.cell? ⟨q_x, 0, none⟩ = some (.bool g_x) ∧ wx.cell? ⟨q_x, 1, none⟩ = some (.slice A_x n_x c_x) ∧ wx.cell? ⟨q_y, 0, none⟩ = some (.bool g_y) ∧ wx.cell? ⟨q_y, 1, none⟩ = some (.slice A_y n_y c_y) ∧ Below wS.heap.size wS wx) → Below w.heap.size w wx) := fun wx hS => below_two HF.out hS.2.2.2.2
 obtain ⟨d_x0, d_x1, d_y0, d_y1, _⟩ := KA.out _ (Below.refl _ _)
 clear h_x h_y h_rx h_ry bw
 clear HF
 go_cut [5, 6] from 7 to 10 (fun s5 s6 wx => ∃ (q_p : Nat) (A_p : Option Addr) (n_p c_p : Nat) (q_q : Nat) (A_q : Option Addr) (n_q c_q : Nat), s5 = .pointer (some ⟨q_p, 0, none⟩) ∧ s6 = .pointer (some ⟨q_q, 0, none⟩) ∧ RowKit.Hid (Row2 wx q_p 25 (.bool (sg z_x)) (.slice A_p n_p c_p) ∧ ZZ wx (sg z_x) A_p n_p c_p (limbs z_x.natAbs) z_x L_x ∧ Row2 wx q_q 25 (.bool (sg z_y)) (.slice A_q n_q c_q) ∧ ZZ wx (sg z_y) A_q n_q c_q (limbs z_y.natAbs) z_y L_y ∧ Below wS.heap.size wS wx))
 case first =>
  refine region_free 6 2 [7, 8, 9, 10, 5, 6] ?aF (fun wx => wx.cell? ⟨q_x, 0, none⟩ = some (.bool g_x) ∧ wx.cell? ⟨q_x, 1, none⟩ = some (.slice A_x n_x c_x) ∧ wx.cell? ⟨q_y, 0, none⟩ = some (.bool g_y) ∧ wx.cell? ⟨q_y, 1, none⟩ = some (.slice A_y n_y c_y) ∧ Below wS.heap.size wS wx) (fun k v w => match k with
   | 0 => v = .agg #[.bool g_x, .slice A_x n_x c_x]
   | 1 => ∃ A n c, v = .agg #[.bool (sg z_x), .slice A n c] ∧ ZZ w (sg z_x) A n c (limbs z_x.natAbs) z_x L_x
   | 2 => v = .agg #[.bool g_y, .slice A_y n_y c_y]
   | 3 => ∃ A n c, v = .agg #[.bool (sg z_y), .slice A n c] ∧ ZZ w (sg z_y) A n c (limbs z_y.natAbs) z_y L_y
   | 4 => ∃ q, v = .pointer (some ⟨q, 0, none⟩) ∧ ZB w q ∧ wS.heap.size ≤ q
   | _ => ∃ q, v = .pointer (some ⟨q, 0, none⟩) ∧ ZB w q ∧ wS.heap.size ≤ q)
   (fun k => k == 4 || k == 5) (by kernel_rfl) ?haF rfl (by kernel_rfl) (by kernel_rfl) (fun _ _ _ _ _ h => h) ?hSb ?hPb ?hS ?hop ?hfin
  case haF =>
   intro vals
   simp only [fillAll, List.getElem?_cons_zero, List.getElem?_cons_succ, Act.put, List.setIfInBounds_toArray, List.set_cons_zero, List.set_cons_succ]
   exact rfl
  case hSb => exact fun wx w2 hb hS => KS.out wx w2 hS hb
  case hPb =>
   intro k v w1 w2 hb h
   match k, h with
   | 0, h => exact h
   | 1, ⟨A, n, c, h1, h2⟩ => exact ⟨A, n, c, h1, h2.below hb⟩
   | 2, h => exact h
   | 3, ⟨A, n, c, h1, h2⟩ => exact ⟨A, n, c, h1, h2.below hb⟩
   | 4, ⟨q, h1, h2, h3⟩ => exact ⟨q, h1, h2.below hb, h3⟩
   | _ + 5, ⟨q, h1, h2, h3⟩ => exact ⟨q, h1, h2.below hb, h3⟩
  case hS => exact KA.out _ ((Below.refl _ _).drew)
  case hop =>
   refine .cons (k := 0) ?_ (.cons (k := 1) ?_ (.cons (k := 2) ?_ (.cons (k := 3) ?_ (.cons (k := 4) ?_ (.cons (k := 5) ?_ (.nil))))))
   all_goals intro vals wr hS hd K hK
   all_goals (show Oper.wp _ _ _ _ _ _; dsimp only)
   · obtain ⟨b0, b1, b2, b3, bS⟩ := hS
     go_simp
     refine hK _ _ rfl (Below.refl _ _) rfl (fun h => by cases h)
   · have d0 : vals 0 = _ := hd 0 (by decide +kernel)
     rw [d0]
     go_simp
     go_at_call 114
     with_reducible refine (refITrim_c (K_x.out _ hS) (by omega)).mono ?_
     rintro e w2 ⟨A_r, n_r, c_r, rfl, h_r, bn_r⟩
     refine hK _ _ rfl bn_r ⟨_, _, _, rfl, h_r⟩ (fun h => by cases h)
   · obtain ⟨b0, b1, b2, b3, bS⟩ := hS
     go_simp
     refine hK _ _ rfl (Below.refl _ _) rfl (fun h => by cases h)
   · have d2 : vals 2 = _ := hd 2 (by decide +kernel)
     rw [d2]
     go_simp
     go_at_call 114
     with_reducible refine (refITrim_c (K_y.out _ hS) (by omega)).mono ?_
     rintro e w2 ⟨A_r, n_r, c_r, rfl, h_r, bn_r⟩
     refine hK _ _ rfl bn_r ⟨_, _, _, rfl, h_r⟩ (fun h => by cases h)
   · go_simp
     refine hK _ _ rfl (below_new _ _) ⟨_, rfl, row2_new wr 25 _ _, hS.2.2.2.2.size⟩ (fun _ => ⟨_, rfl, Nat.le_refl _, by rw [World.size_alloc]; omega⟩)
   · go_simp
     refine hK _ _ rfl (below_new _ _) ⟨_, rfl, row2_new wr 25 _ _, hS.2.2.2.2.size⟩ (fun _ => ⟨_, rfl, Nat.le_refl _, by rw [World.size_alloc]; omega⟩)
  case hfin =>
   intro vals wr hS hP hne
   obtain ⟨A_p, n_p, c_p, e1, h_p⟩ := hP 1 (by decide)
   obtain ⟨A_q, n_q, c_q, e3, h_q⟩ := hP 3 (by decide)
   obtain ⟨q_p, e4, z_bp, l_bp⟩ := hP 4 (by decide)
   obtain ⟨q_q, e5, z_bq, l_bq⟩ := hP 5 (by decide)
   have nq01 : q_p ≠ q_q := hne 4 5 (by decide) (by decide) (by decide) rfl rfl _ _ e4 e5
   try dsimp only
   rw [e1, e3, e4, e5]
   have bS := hS.2.2.2.2
   replace h_p := h_p.put z_bp (.bool (sg z_x)) (.slice A_p n_p c_p)
   replace h_q := h_q.put z_bp (.bool (sg z_x)) (.slice A_p n_p c_p)
   have z_nq := Row2.far z_bq nq01 (.bool (sg z_x)) (.slice A_p n_p c_p)
   have r_p := Row2.filled z_bp (.bool (sg z_x)) (.slice A_p n_p c_p)
   replace bS := (bS.setCell (p := ⟨q_p, 0, none⟩) l_bp (.bool (sg z_x))).setCell (p := ⟨q_p, 1, none⟩) l_bp (.slice A_p n_p c_p)
   replace h_p := h_p.put z_nq (.bool (sg z_y)) (.slice A_q n_q c_q)
   replace h_q := h_q.put z_nq (.bool (sg z_y)) (.slice A_q n_q c_q)
   replace r_p := r_p.far (g := q_q) (Ne.symm nq01) (.bool (sg z_y)) (.slice A_q n_q c_q)
   have r_q := Row2.filled z_nq (.bool (sg z_y)) (.slice A_q n_q c_q)
   replace bS := (bS.setCell (p := ⟨q_q, 0, none⟩) l_bq (.bool (sg z_y))).setCell (p := ⟨q_q, 1, none⟩) l_bq (.slice A_q n_q c_q)
   obtain ⟨c00, c01, c02, c03⟩ := z_bp.cells
   obtain ⟨c10, c11, c12, c13⟩ := z_bq.cells
   have t := Lib.hid (And.intro r_p (And.intro h_p (And.intro r_q (And.intro h_q bS))))
   clear bS h_p h_q r_p r_q
   refine wpAny_ready (rs := [6]) (by kernel_rfl) (by simp) (AllReady.cons rfl (fun K hK => ?_) AllReady.nil)
   go_simp
   refine hK _ _ ?_
   clear hK K
   refine wpAny_ready (rs := [7]) (by kernel_rfl) (by simp) (AllReady.cons rfl (fun K hK => ?_) AllReady.nil)
   go_simp
   refine hK _ _ ?_
   clear hK K
   refine wpAny_done (by kernel_rfl) ?_ _
   go_wp2
   go_meet
   case rel => exact ⟨q_p, A_p, n_p, c_p, q_q, A_q, n_q, c_q, rfl, rfl, t⟩
 case rest =>
  obtain ⟨q_p, A_p, n_p, c_p, q_q, A_q, n_q, c_q, rfl, rfl, t⟩ := hcut
  obtain ⟨h_rp, h_p, h_rq, h_q, bn⟩ := t.out
  clear t
  have hS0 := KA.out _ bn
  have h_x := K_x.out _ hS0
  have h_y := K_y.out _ hS0
  have h_rx := KR_x.out _ hS0
  have h_ry := KR_y.out _ hS0
  have bw := KF.out _ hS0
  clear hS0 bn KA KS KU KF K_x K_y KR_x KR_y d_x0 d_x1 d_y0 d_y1
  have HP := Lib.hid h_p
  have HQ := Lib.hid h_q
  have d_p0 := h_rp.c0
  have d_p1 := h_rp.c1
  have d_q0 := h_rq.c0
  have d_q1 := h_rq.c1
  have HB := Lib.hid bw
  clear bw h_x h_y h_rx h_ry h_p h_rp h_q h_rq
  by_cases hx0 : z_x < 0
  · by_cases hy0 : z_y < 0
    · rw [sg_neg hx0] at d_p0
      rw [sg_neg hy0] at d_q0
      have HV : RowKit.Hid (cmpI z_y.natAbs z_x.natAbs = v) := by
       show _ = _
       rw [← hv]; exact cmp_abs_neg hx0 hy0
      clear hv hx0 hy0
      go_wp2_with fail
      refine (refCmp_c HQ.out.nn HP.out.nn (by omega) (by omega) v HV.out).mono ?_
      rintro e w9 ⟨rfl, rfl⟩
      go_wp2
      go_ret
      exact ⟨rfl, HB.out⟩
    · rw [sg_neg hx0] at d_p0
      rw [sg_pos (by omega)] at d_q0
      obtain rfl : v = -1 := by rw [← hv]; exact cmpZ_lt (by omega)
      clear hv hx0 hy0
      go_wp2
      go_ret
      exact ⟨rfl, HB.out⟩
  · by_cases hy0 : z_y < 0
    · rw [sg_pos (by omega)] at d_p0
      rw [sg_neg hy0] at d_q0
      obtain rfl : v = 1 := by rw [← hv]; exact cmpZ_gt (by omega)
      clear hv hx0 hy0
      go_wp2
      go_ret
      exact ⟨rfl, HB.out⟩
    · rw [sg_pos (by omega)] at d_p0
      rw [sg_pos (by omega)] at d_q0
      have HV : RowKit.Hid (cmpI z_x.natAbs z_y.natAbs = v) := by
       show _ = _
       rw [← hv]; exact cmp_abs_pos (by omega) (by omega)
      clear hv hx0 hy0
      go_wp2_with fail
      refine (refCmp_c HP.out.nn HQ.out.nn (by omega) (by omega) v HV.out).mono ?_
      rintro e w9 ⟨rfl, rfl⟩
      go_wp2
      go_ret
      exact ⟨rfl, HB.out⟩
end Go.Proofs.YtjikaojffgjndaaGreatDoor
