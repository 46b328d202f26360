/- Part 9 of the texts that the statements of this seat lean on: mathematics, and what functions answer, as contracts over memory; each part says its own conditions. -/
import Derived.Test.YtohciicocaoagaaGreatM8
/- What package whole's Add answers, as a contract over memory: whole numbers in the shortest limbs, 0 not below 0. Conditions: sizes of at most so many limbs; the table of powers of ten where texts are made or read. -/
namespace Go.Proofs.YtohciicocaoagaaGreat
open Go.RowKit Limb
set_option linter.unusedVariables false
section
variable {w : World} {s s' : Bool} {A A' : Option Addr} {n c n' c' : Nat} {xs ys : List Nat} {x y : Int} {L L' : Nat}
set_option maxHeartbeats 4000000 in
set_option maxRecDepth 100000 in
theorem wAdd_c (hx : ZZ w s A n c xs x L) (hy : ZZ w s' A' n' c' ys y L') (K : Nat) (h1 : L < K) (h2 : L' < K) (h3 : K ≤ 100000) (z : Int) (hz : x + y = z) :
    Calls Tryz.prog 32 #[.agg #[.bool s, .slice A n c], .agg #[.bool s', .slice A' n' c']] w fun e w' => ∃ A2 n2 c2, e = .returned (.agg #[.bool (sg z), .slice A2 n2 c2]) ∧ ZZ w' (sg z) A2 n2 c2 (limbs z.natAbs) z K ∧ Below w.heap.size w w' := by
  have HX := Lib.hid hx.zof
  have HY := Lib.hid hy.zof
  by_cases hs : s = s'
  · subst hs
    have HS : RowKit.Hid (zOf s (x.natAbs + y.natAbs) = z) := (zOf_add HX.out HY.out).trans hz
    clear hz HX HY
    have b0 := below_new w (.cells #[Value.bool s, Value.slice A n c] 25)
    have b1 := below_new (w.alloc (.cells #[Value.bool s, Value.slice A n c] 25)) (.cells #[Value.bool s, Value.slice A' n' c'] 25)
    have bz := below_new ((w.alloc (.cells #[Value.bool s, Value.slice A n c] 25)).alloc (.cells #[Value.bool s, Value.slice A' n' c'] 25)) zbox
    have HW := Lib.hid (below_two (below_two b0 b1) bz)
    have HN := Lib.hid (hx.nn.below HW.out)
    have HM := Lib.hid (hy.nn.below HW.out)
    have r0 := ((row2_new w 25 (.bool s) (.slice A n c)).below b1).below bz
    have r1 := (row2_new (w.alloc (.cells #[Value.bool s, Value.slice A n c] 25)) 25 (.bool s) (.slice A' n' c')).below bz
    have rz : ZB (((w.alloc (.cells #[Value.bool s, Value.slice A n c] 25)).alloc (.cells #[Value.bool s, Value.slice A' n' c'] 25)).alloc zbox) ((w.alloc (.cells #[Value.bool s, Value.slice A n c] 25)).alloc (.cells #[Value.bool s, Value.slice A' n' c'] 25)).heap.size := row2_new ((w.alloc (.cells #[Value.bool s, Value.slice A n c] 25)).alloc (.cells #[Value.bool s, Value.slice A' n' c'] 25)) _ _ _
    simp only [World.size_alloc] at r1 rz
    clear b0 b1 bz hx hy
    go_enter Tryz.func32, Tryz.ntmps32
    go_wp2_with fail
    generalize ((w.alloc (.cells #[Value.bool s, Value.slice A n c] 25)).alloc (.cells #[Value.bool s, Value.slice A' n' c'] 25)).alloc zbox = w1 at *
    have HR0 := Lib.hid r0
    have c00 := r0.c0
    have c01 := r0.c1
    have HR1 := Lib.hid r1
    have c10 := r1.c0
    have c11 := r1.c1
    have HZ := Lib.hid rz
    clear r0 r1 rz
    clear c00 c01 c10 c11
    refine region_free 8 1 [14, 15, 16, 17, 18, 19, 20, 21] ?aF (fun wx => Below w1.heap.size w1 wx) (fun k v wx => match k with
        | 0 => v = .pointer (some ⟨w.heap.size, 0, none⟩)
        | 1 => v = .bool s
        | 2 => v = .pointer (some ⟨w.heap.size, 1, none⟩)
        | 3 => v = .slice A n c
        | 4 => v = .pointer (some ⟨w.heap.size + 1, 1, none⟩)
        | 5 => v = .slice A' n' c'
        | 6 => ∃ A2 n2 c2, v = .slice A2 n2 c2 ∧ NN wx A2 n2 c2 (limbs (x.natAbs + y.natAbs)) (x.natAbs + y.natAbs) K
        | _ => ∃ A2 n2 c2, v = .agg #[.bool (sg z), .slice A2 n2 c2] ∧ ZZ wx (sg z) A2 n2 c2 (limbs z.natAbs) z K)
      (fun _ => false) (by kernel_rfl) ?haF rfl (by kernel_rfl) (by kernel_rfl) (fun _ _ _ _ _ h => h) ?hSb ?hPb ?hS ?hop ?hfin
    case haF =>
      intro vals
      simp only [fillAll, List.getElem?_cons_zero, List.getElem?_cons_succ, Act.put, List.setIfInBounds_toArray, List.set_cons_zero, List.set_cons_succ]
      exact rfl
    case hSb => exact fun wx w2 hb hS => below_two hS hb
    case hPb =>
      intro k v wa wb hb h
      match k, h with
      | 0, h => exact h
      | 1, h => exact h
      | 2, h => exact h
      | 3, h => exact h
      | 4, h => exact h
      | 5, h => exact h
      | 6, ⟨A2, n2, c2, h1, h2⟩ => exact ⟨A2, n2, c2, h1, h2.below hb⟩
      | _ + 7, ⟨A2, n2, c2, h1, h2⟩ => exact ⟨A2, n2, c2, h1, h2.below hb⟩
    case hS => exact (Below.refl _ _).drew
    case hop =>
      refine .cons (k := 0) ?_ (.cons (k := 1) ?_ (.cons (k := 2) ?_ (.cons (k := 3) ?_ (.cons (k := 4) ?_ (.cons (k := 5) ?_ (.cons (k := 6) ?_ (.cons (k := 7) ?_ (.nil))))))))
      all_goals intro vals wr hS hd KC hK
      all_goals (show Oper.wp _ _ _ _ _ _; dsimp only)
      · go_simp
        refine hK _ _ rfl (Below.refl _ _) rfl (fun h => by cases h)
      · have d0 : vals 0 = _ := hd 0 (by decide +kernel)
        rw [d0]
        have c0 := (HR0.out.below hS).c0
        go_simp
        refine hK _ _ rfl (Below.refl _ _) rfl (fun h => by cases h)
      · go_simp
        refine hK _ _ rfl (Below.refl _ _) rfl (fun h => by cases h)
      · have d2 : vals 2 = _ := hd 2 (by decide +kernel)
        rw [d2]
        have c0 := (HR0.out.below hS).c1
        go_simp
        refine hK _ _ rfl (Below.refl _ _) rfl (fun h => by cases h)
      · go_simp
        refine hK _ _ rfl (Below.refl _ _) rfl (fun h => by cases h)
      · have d4 : vals 4 = _ := hd 4 (by decide +kernel)
        rw [d4]
        have c0 := (HR1.out.below hS).c1
        go_simp
        refine hK _ _ rfl (Below.refl _ _) rfl (fun h => by cases h)
      · have d3 : vals 3 = _ := hd 3 (by decide +kernel)
        have d5 : vals 5 = _ := hd 5 (by decide +kernel)
        rw [d3, d5]
        go_simp
        go_at_call 62
        with_reducible refine (add_c (HN.out.below hS) (HM.out.below hS) K h1 h2 (by omega)).mono ?_
        rintro e w2 ⟨A_r, n_r, c_r, rfl, h_r, bn_r⟩
        refine hK _ _ rfl bn_r ⟨_, _, _, rfl, h_r⟩ (fun h => by cases h)
      · have d1 : vals 1 = _ := hd 1 (by decide +kernel)
        obtain ⟨A_m, n_m, c_m, d6, h_m⟩ := hd 6 (by decide +kernel)
        rw [d1, d6]
        go_simp
        go_at_call 61
        with_reducible refine (signed_c h_m _ z (by first | exact HS.out | simpa using HS.out)).mono ?_
        rintro e w2 ⟨rfl, h_r, bn_r⟩
        refine hK _ _ rfl bn_r ⟨_, _, _, rfl, h_r⟩ (fun h => by cases h)
    case hfin =>
      intro vals wr hS hP hne
      obtain ⟨A2, n2, c2, ez, h3⟩ := hP 7 (by decide)
      have hZ3 := HZ.out.below hS
      obtain ⟨e0, e1, f0, f1⟩ := hZ3.cells
      try dsimp only
      rw [ez]
      have HF := Lib.hid (hZ3.fill (.bool (sg z)) (.slice A2 n2 c2))
      have HP := Lib.hid (h3.put hZ3 (.bool (sg z)) (.slice A2 n2 c2))
      have HB := Lib.hid (below_fill (g := w.heap.size + 1 + 1) (below_two HW.out hS) (by omega) (.bool (sg z)) (.slice A2 n2 c2))
      refine wpAny_ready (rs := [8]) (by kernel_rfl) (by simp) (AllReady.cons rfl (fun KC hK => ?_) AllReady.nil)
      go_simp
      refine hK _ _ ?_
      clear hK KC
      refine wpAny_done (by kernel_rfl) ?_ _
      go_wp2
      refine bodyPost_ret (results_cell_row rfl _ _ (w.heap.size + 1 + 1) 25 #[.bool (sg z), .slice A2 n2 c2] (0, 0) _ rfl HF.out Tryz.underlying25 rfl int_size) rfl ?_
      exact ⟨A2, n2, c2, rfl, HP.out, HB.out⟩
  · by_cases hab : y.natAbs ≤ x.natAbs
    · have HS : RowKit.Hid (zOf s (x.natAbs - y.natAbs) = z) := (zOf_sub HX.out HY.out hs hab).trans hz
      have HK : RowKit.Hid (x.natAbs - y.natAbs < 4294967296 ^ K) := Nat.lt_of_le_of_lt (Nat.sub_le _ _) (Nat.lt_of_lt_of_le (lt_pow hx.nn) (Nat.pow_le_pow_right (by decide) (by omega)))
      clear hz HX HY
      have hs2 : (s == s') = false := by simpa using hs
      clear hs
      have b0 := below_new w (.cells #[Value.bool s, Value.slice A n c] 25)
      have b1 := below_new (w.alloc (.cells #[Value.bool s, Value.slice A n c] 25)) (.cells #[Value.bool s', Value.slice A' n' c'] 25)
      have bz := below_new ((w.alloc (.cells #[Value.bool s, Value.slice A n c] 25)).alloc (.cells #[Value.bool s', Value.slice A' n' c'] 25)) zbox
      have HW := Lib.hid (below_two (below_two b0 b1) bz)
      have HN := Lib.hid (hx.nn.below HW.out)
      have HM := Lib.hid (hy.nn.below HW.out)
      have r0 := ((row2_new w 25 (.bool s) (.slice A n c)).below b1).below bz
      have r1 := (row2_new (w.alloc (.cells #[Value.bool s, Value.slice A n c] 25)) 25 (.bool s') (.slice A' n' c')).below bz
      have rz : ZB (((w.alloc (.cells #[Value.bool s, Value.slice A n c] 25)).alloc (.cells #[Value.bool s', Value.slice A' n' c'] 25)).alloc zbox) ((w.alloc (.cells #[Value.bool s, Value.slice A n c] 25)).alloc (.cells #[Value.bool s', Value.slice A' n' c'] 25)).heap.size := row2_new ((w.alloc (.cells #[Value.bool s, Value.slice A n c] 25)).alloc (.cells #[Value.bool s', Value.slice A' n' c'] 25)) _ _ _
      simp only [World.size_alloc] at r1 rz
      clear b0 b1 bz hx hy
      go_enter Tryz.func32, Tryz.ntmps32
      go_wp2_with fail
      generalize ((w.alloc (.cells #[Value.bool s, Value.slice A n c] 25)).alloc (.cells #[Value.bool s', Value.slice A' n' c'] 25)).alloc zbox = w1 at *
      have HR0 := Lib.hid r0
      have c00 := r0.c0
      have c01 := r0.c1
      have HR1 := Lib.hid r1
      have c10 := r1.c0
      have c11 := r1.c1
      have HZ := Lib.hid rz
      clear r0 r1 rz
      go_wp2_with fail
      refine (sub_yes HN.out HM.out (by omega) (by omega) hab).mono ?_
      rintro e w2 ⟨A2, n2, c2, rfl, h2, bn2⟩
      have BN2 := Lib.hid bn2
      have d200 := (HR0.out.below BN2.out).c0
      have d201 := (HR0.out.below BN2.out).c1
      have d210 := (HR1.out.below BN2.out).c0
      have d211 := (HR1.out.below BN2.out).c1
      clear bn2
      go_wp2_with fail
      refine (signed_c (h2.relax HK.out) _ z (by first | exact HS.out | simpa using HS.out)).mono ?_
      rintro e w4 ⟨rfl, h4, bm⟩
      have BN4 := Lib.hid (below_two BN2.out bm)
      obtain ⟨e0, e1, f0, f1⟩ := (HZ.out.below BN4.out).cells
      have HF := Lib.hid ((HZ.out.below BN4.out).fill (.bool (sg z)) (.slice A2 n2 c2))
      have HP := Lib.hid (h4.put (HZ.out.below BN4.out) (.bool (sg z)) (.slice A2 n2 c2))
      have HB := Lib.hid (below_fill (g := w.heap.size + 1 + 1) (below_two HW.out BN4.out) (by omega) (.bool (sg z)) (.slice A2 n2 c2))
      clear bm
      go_wp2
      refine bodyPost_ret (results_cell_row rfl _ _ (w.heap.size + 1 + 1) 25 #[.bool (sg z), .slice A2 n2 c2] (0, 0) _ rfl HF.out Tryz.underlying25 rfl int_size) rfl ?_
      exact ⟨A2, n2, c2, rfl, HP.out, HB.out⟩
    · have HS : RowKit.Hid (zOf s' (y.natAbs - x.natAbs) = z) := (zOf_sub HY.out HX.out (Ne.symm hs) (by omega)).trans ((Int.add_comm _ _).trans hz)
      have HK : RowKit.Hid (y.natAbs - x.natAbs < 4294967296 ^ K) := Nat.lt_of_le_of_lt (Nat.sub_le _ _) (Nat.lt_of_lt_of_le (lt_pow hy.nn) (Nat.pow_le_pow_right (by decide) (by omega)))
      have hba : x.natAbs ≤ y.natAbs := by omega
      clear hz HX HY
      have hs2 : (s == s') = false := by simpa using hs
      clear hs
      have b0 := below_new w (.cells #[Value.bool s, Value.slice A n c] 25)
      have b1 := below_new (w.alloc (.cells #[Value.bool s, Value.slice A n c] 25)) (.cells #[Value.bool s', Value.slice A' n' c'] 25)
      have bz := below_new ((w.alloc (.cells #[Value.bool s, Value.slice A n c] 25)).alloc (.cells #[Value.bool s', Value.slice A' n' c'] 25)) zbox
      have HW := Lib.hid (below_two (below_two b0 b1) bz)
      have HN := Lib.hid (hx.nn.below HW.out)
      have HM := Lib.hid (hy.nn.below HW.out)
      have r0 := ((row2_new w 25 (.bool s) (.slice A n c)).below b1).below bz
      have r1 := (row2_new (w.alloc (.cells #[Value.bool s, Value.slice A n c] 25)) 25 (.bool s') (.slice A' n' c')).below bz
      have rz : ZB (((w.alloc (.cells #[Value.bool s, Value.slice A n c] 25)).alloc (.cells #[Value.bool s', Value.slice A' n' c'] 25)).alloc zbox) ((w.alloc (.cells #[Value.bool s, Value.slice A n c] 25)).alloc (.cells #[Value.bool s', Value.slice A' n' c'] 25)).heap.size := row2_new ((w.alloc (.cells #[Value.bool s, Value.slice A n c] 25)).alloc (.cells #[Value.bool s', Value.slice A' n' c'] 25)) _ _ _
      simp only [World.size_alloc] at r1 rz
      clear b0 b1 bz hx hy
      go_enter Tryz.func32, Tryz.ntmps32
      go_wp2_with fail
      generalize ((w.alloc (.cells #[Value.bool s, Value.slice A n c] 25)).alloc (.cells #[Value.bool s', Value.slice A' n' c'] 25)).alloc zbox = w1 at *
      have HR0 := Lib.hid r0
      have c00 := r0.c0
      have c01 := r0.c1
      have HR1 := Lib.hid r1
      have c10 := r1.c0
      have c11 := r1.c1
      have HZ := Lib.hid rz
      clear r0 r1 rz
      go_wp2_with fail
      refine (sub_no HN.out HM.out (by omega) (by omega) (by omega)).mono ?_
      rintro e w2 ⟨Au, nu, cu, rfl, h2, bn2⟩
      have BN2 := Lib.hid bn2
      have d200 := (HR0.out.below BN2.out).c0
      have d201 := (HR0.out.below BN2.out).c1
      have d210 := (HR1.out.below BN2.out).c0
      have d211 := (HR1.out.below BN2.out).c1
      clear bn2
      clear h2
      go_wp2_with fail
      refine (sub_yes (HM.out.below BN2.out) (HN.out.below BN2.out) (by omega) (by omega) hba).mono ?_
      rintro e w3 ⟨A2, n2, c2, rfl, h3, bn3⟩
      have BN3 := Lib.hid (below_two BN2.out bn3)
      have d300 := (HR0.out.below BN3.out).c0
      have d301 := (HR0.out.below BN3.out).c1
      have d310 := (HR1.out.below BN3.out).c0
      have d311 := (HR1.out.below BN3.out).c1
      clear bn3
      go_wp2_with fail
      refine (signed_c (h3.relax HK.out) _ z (by first | exact HS.out | simpa using HS.out)).mono ?_
      rintro e w4 ⟨rfl, h4, bm⟩
      have BN4 := Lib.hid (below_two BN3.out bm)
      obtain ⟨e0, e1, f0, f1⟩ := (HZ.out.below BN4.out).cells
      have HF := Lib.hid ((HZ.out.below BN4.out).fill (.bool (sg z)) (.slice A2 n2 c2))
      have HP := Lib.hid (h4.put (HZ.out.below BN4.out) (.bool (sg z)) (.slice A2 n2 c2))
      have HB := Lib.hid (below_fill (g := w.heap.size + 1 + 1) (below_two HW.out BN4.out) (by omega) (.bool (sg z)) (.slice A2 n2 c2))
      clear bm
      go_wp2
      refine bodyPost_ret (results_cell_row rfl _ _ (w.heap.size + 1 + 1) 25 #[.bool (sg z), .slice A2 n2 c2] (0, 0) _ rfl HF.out Tryz.underlying25 rfl int_size) rfl ?_
      exact ⟨A2, n2, c2, rfl, HP.out, HB.out⟩
end

end Go.Proofs.YtohciicocaoagaaGreat

/- What package rat's Add, Sub and Mul answer, as contracts over memory. Conditions: sizes of at most so many limbs. -/
namespace Go.Proofs.YtohciicocaoagaaGreat
open Go.RowKit Limb
set_option linter.unusedVariables false
section
variable {w : World} {s s' : Bool} {A B A' B' : Option Addr} {n c m d n' c' m' d' : Nat} {xs ys xs' ys' : List Nat} {x y : Int} {o o' : Option Rat} {a b L L' : Nat}
set_option maxHeartbeats 4000000 in
set_option maxRecDepth 100000 in
theorem rAdd_c (hx : QQ w s A n c xs B m d ys o L) (hx' : QQ w s' A' n' c' xs' B' m' d' ys' o' L') (h1 : L ≤ 1000) (h2 : L' ≤ 1000) (r : Option Rat) (e : Int) (hR : addR o o' = (r, e)) :
    Calls Tryz.prog 7 #[.agg #[.bool s, .slice A n c, .slice B m d], .agg #[.bool s', .slice A' n' c', .slice B' m' d']] w fun ee w' => ∃ A2 n2 c2 B2 m2 d2, ee = .returned (.tuple #[.agg #[.bool (sg (oTop r)), .slice A2 n2 c2, .slice B2 m2 d2], .int .i64 e]) ∧ QT w' A2 n2 c2 B2 m2 d2 r ∧ Below w.heap.size w w' := by
  cases o with
  | none =>
    have hR2 : ((none : Option Rat), (1 : Int)) = (r, e) := hR
    cases hR2
    clear hR
    have b0 := below_new w (.cells #[Value.bool s, Value.slice A n c, Value.slice B m d] 27)
    have b1 := below_new (w.alloc (.cells #[Value.bool s, Value.slice A n c, Value.slice B m d] 27)) (.cells #[Value.bool s', Value.slice A' n' c', Value.slice B' m' d'] 27)
    have b2 := below_new ((w.alloc (.cells #[Value.bool s, Value.slice A n c, Value.slice B m d] 27)).alloc (.cells #[Value.bool s', Value.slice A' n' c', Value.slice B' m' d'] 27)) (.cells #[Value.bool false, Value.slice none 0 0, Value.slice none 0 0] 27)
    have HW := Lib.hid (below_two (below_two b0 b1) b2)
    have HQ0 := Lib.hid (hx.below HW.out)
    have HQ1 := Lib.hid (hx'.below HW.out)
    have r0 := ((row3_new w 27 (.bool s) (.slice A n c) (.slice B m d)).below b1).below b2
    have r1 := (row3_new (w.alloc (.cells #[Value.bool s, Value.slice A n c, Value.slice B m d] 27)) 27 (.bool s') (.slice A' n' c') (.slice B' m' d')).below b2
    have rz := row3_new ((w.alloc (.cells #[Value.bool s, Value.slice A n c, Value.slice B m d] 27)).alloc (.cells #[Value.bool s', Value.slice A' n' c', Value.slice B' m' d'] 27)) 27 (.bool false) (.slice none 0 0) (.slice none 0 0)
    simp only [World.size_alloc] at r1 rz
    clear b0 b1 b2 hx hx'
    go_enter Tryz.func7, Tryz.ntmps7
    go_wp2_with fail
    generalize ((w.alloc (.cells #[Value.bool s, Value.slice A n c, Value.slice B m d] 27)).alloc (.cells #[Value.bool s', Value.slice A' n' c', Value.slice B' m' d'] 27)).alloc (.cells #[Value.bool false, Value.slice none 0 0, Value.slice none 0 0] 27) = w1 at *
    have HR0 := Lib.hid r0
    have HR1 := Lib.hid r1
    have HZ := Lib.hid rz
    have Hq : RowKit.Hid (w.heap.size ≤ w.heap.size + 1 + 1) := by show _ ≤ _; omega
    clear r0 r1 rz
    refine (rGood_c HQ0.out (by omega) false rfl).mono ?_
    rintro e w2 ⟨rfl, bn⟩
    replace HQ0 := Lib.hid (HQ0.out.below bn)
    replace HR0 := Lib.hid (HR0.out.below bn)
    replace HQ1 := Lib.hid (HQ1.out.below bn)
    replace HR1 := Lib.hid (HR1.out.below bn)
    replace HZ := Lib.hid (HZ.out.below bn)
    replace HW := Lib.hid (below_two HW.out bn)
    clear bn
    have e0 := HZ.out.c0
    have e1 := HZ.out.c1
    have e2 := HZ.out.c2
    have f0 := HZ.out.free 0
    have f1 := HZ.out.free 1
    have f2 := HZ.out.free 2
    have HF := Lib.hid (HZ.out.fill (.bool false) (.slice none 0 0) (.slice none 0 0))
    have HB := Lib.hid (below_fill3' HW.out Hq.out (.bool false) (.slice none 0 0) (.slice none 0 0))
    go_wp2
    refine bodyPost_ret (results_mixed rfl _ _ _ 27 #[.bool false, .slice none 0 0, .slice none 0 0] (0, 0) _ (.int .i64 1) rfl rfl HF.out Tryz.underlying27 rfl rat_size) rfl ?_
    exact ⟨none, 0, 0, none, 0, 0, rfl, qt_none _ 0 0, HB.out⟩
  | some p =>
    cases o' with
    | none =>
      have hR2 : ((none : Option Rat), (1 : Int)) = (r, e) := hR
      cases hR2
      clear hR
      have b0 := below_new w (.cells #[Value.bool s, Value.slice A n c, Value.slice B m d] 27)
      have b1 := below_new (w.alloc (.cells #[Value.bool s, Value.slice A n c, Value.slice B m d] 27)) (.cells #[Value.bool s', Value.slice A' n' c', Value.slice B' m' d'] 27)
      have b2 := below_new ((w.alloc (.cells #[Value.bool s, Value.slice A n c, Value.slice B m d] 27)).alloc (.cells #[Value.bool s', Value.slice A' n' c', Value.slice B' m' d'] 27)) (.cells #[Value.bool false, Value.slice none 0 0, Value.slice none 0 0] 27)
      have HW := Lib.hid (below_two (below_two b0 b1) b2)
      have HQ0 := Lib.hid (hx.below HW.out)
      have HQ1 := Lib.hid (hx'.below HW.out)
      have r0 := ((row3_new w 27 (.bool s) (.slice A n c) (.slice B m d)).below b1).below b2
      have r1 := (row3_new (w.alloc (.cells #[Value.bool s, Value.slice A n c, Value.slice B m d] 27)) 27 (.bool s') (.slice A' n' c') (.slice B' m' d')).below b2
      have rz := row3_new ((w.alloc (.cells #[Value.bool s, Value.slice A n c, Value.slice B m d] 27)).alloc (.cells #[Value.bool s', Value.slice A' n' c', Value.slice B' m' d'] 27)) 27 (.bool false) (.slice none 0 0) (.slice none 0 0)
      simp only [World.size_alloc] at r1 rz
      clear b0 b1 b2 hx hx'
      go_enter Tryz.func7, Tryz.ntmps7
      go_wp2_with fail
      generalize ((w.alloc (.cells #[Value.bool s, Value.slice A n c, Value.slice B m d] 27)).alloc (.cells #[Value.bool s', Value.slice A' n' c', Value.slice B' m' d'] 27)).alloc (.cells #[Value.bool false, Value.slice none 0 0, Value.slice none 0 0] 27) = w1 at *
      have HR0 := Lib.hid r0
      have HR1 := Lib.hid r1
      have HZ := Lib.hid rz
      have Hq : RowKit.Hid (w.heap.size ≤ w.heap.size + 1 + 1) := by show _ ≤ _; omega
      clear r0 r1 rz
      refine (rGood_c HQ0.out (by omega) true rfl).mono ?_
      rintro e w2 ⟨rfl, bn⟩
      replace HQ0 := Lib.hid (HQ0.out.below bn)
      replace HR0 := Lib.hid (HR0.out.below bn)
      replace HQ1 := Lib.hid (HQ1.out.below bn)
      replace HR1 := Lib.hid (HR1.out.below bn)
      replace HZ := Lib.hid (HZ.out.below bn)
      replace HW := Lib.hid (below_two HW.out bn)
      clear bn
      have c10 := HR1.out.c0
      have c11 := HR1.out.c1
      have c12 := HR1.out.c2
      go_wp2_with fail
      clear c10 c11 c12
      refine (rGood_c HQ1.out (by omega) false rfl).mono ?_
      rintro e w2 ⟨rfl, bn⟩
      replace HQ0 := Lib.hid (HQ0.out.below bn)
      replace HR0 := Lib.hid (HR0.out.below bn)
      replace HQ1 := Lib.hid (HQ1.out.below bn)
      replace HR1 := Lib.hid (HR1.out.below bn)
      replace HZ := Lib.hid (HZ.out.below bn)
      replace HW := Lib.hid (below_two HW.out bn)
      clear bn
      have e0 := HZ.out.c0
      have e1 := HZ.out.c1
      have e2 := HZ.out.c2
      have f0 := HZ.out.free 0
      have f1 := HZ.out.free 1
      have f2 := HZ.out.free 2
      have HF := Lib.hid (HZ.out.fill (.bool false) (.slice none 0 0) (.slice none 0 0))
      have HB := Lib.hid (below_fill3' HW.out Hq.out (.bool false) (.slice none 0 0) (.slice none 0 0))
      go_wp2
      refine bodyPost_ret (results_mixed rfl _ _ _ 27 #[.bool false, .slice none 0 0, .slice none 0 0] (0, 0) _ (.int .i64 1) rfl rfl HF.out Tryz.underlying27 rfl rat_size) rfl ?_
      exact ⟨none, 0, 0, none, 0, 0, rfl, qt_none _ 0 0, HB.out⟩
    | some q =>
      have HO : RowKit.Hid (ofR (p.num * (q.den : Int) + q.num * (p.den : Int)) (p.den * q.den) = (r, e)) := by
        show _ = _
        rw [← hR]; unfold ofR; rw [if_neg (Nat.mul_ne_zero p.den_nz q.den_nz)]
        show limR _ = limR _
        rw [add_mk]
      clear hR
      have b0 := below_new w (.cells #[Value.bool s, Value.slice A n c, Value.slice B m d] 27)
      have b1 := below_new (w.alloc (.cells #[Value.bool s, Value.slice A n c, Value.slice B m d] 27)) (.cells #[Value.bool s', Value.slice A' n' c', Value.slice B' m' d'] 27)
      have b2 := below_new ((w.alloc (.cells #[Value.bool s, Value.slice A n c, Value.slice B m d] 27)).alloc (.cells #[Value.bool s', Value.slice A' n' c', Value.slice B' m' d'] 27)) (.cells #[Value.bool false, Value.slice none 0 0, Value.slice none 0 0] 27)
      have HW := Lib.hid (below_two (below_two b0 b1) b2)
      have HQ0 := Lib.hid (hx.below HW.out)
      have HQ1 := Lib.hid (hx'.below HW.out)
      have r0 := ((row3_new w 27 (.bool s) (.slice A n c) (.slice B m d)).below b1).below b2
      have r1 := (row3_new (w.alloc (.cells #[Value.bool s, Value.slice A n c, Value.slice B m d] 27)) 27 (.bool s') (.slice A' n' c') (.slice B' m' d')).below b2
      have rz := row3_new ((w.alloc (.cells #[Value.bool s, Value.slice A n c, Value.slice B m d] 27)).alloc (.cells #[Value.bool s', Value.slice A' n' c', Value.slice B' m' d'] 27)) 27 (.bool false) (.slice none 0 0) (.slice none 0 0)
      simp only [World.size_alloc] at r1 rz
      clear b0 b1 b2 hx hx'
      go_enter Tryz.func7, Tryz.ntmps7
      go_wp2_with fail
      generalize ((w.alloc (.cells #[Value.bool s, Value.slice A n c, Value.slice B m d] 27)).alloc (.cells #[Value.bool s', Value.slice A' n' c', Value.slice B' m' d'] 27)).alloc (.cells #[Value.bool false, Value.slice none 0 0, Value.slice none 0 0] 27) = w1 at *
      have HR0 := Lib.hid r0
      have HR1 := Lib.hid r1
      have HZ := Lib.hid rz
      have Hq : RowKit.Hid (w.heap.size ≤ w.heap.size + 1 + 1) := by show _ ≤ _; omega
      clear r0 r1 rz
      refine (rGood_c HQ0.out (by omega) true rfl).mono ?_
      rintro e w2 ⟨rfl, bn⟩
      replace HQ0 := Lib.hid (HQ0.out.below bn)
      replace HR0 := Lib.hid (HR0.out.below bn)
      replace HQ1 := Lib.hid (HQ1.out.below bn)
      replace HR1 := Lib.hid (HR1.out.below bn)
      replace HZ := Lib.hid (HZ.out.below bn)
      replace HW := Lib.hid (below_two HW.out bn)
      clear bn
      have c10 := HR1.out.c0
      have c11 := HR1.out.c1
      have c12 := HR1.out.c2
      go_wp2_with fail
      clear c10 c11 c12
      refine (rGood_c HQ1.out (by omega) true rfl).mono ?_
      rintro e wS ⟨rfl, bn⟩
      replace HQ0 := Lib.hid (HQ0.out.below bn)
      replace HR0 := Lib.hid (HR0.out.below bn)
      replace HQ1 := Lib.hid (HQ1.out.below bn)
      replace HR1 := Lib.hid (HR1.out.below bn)
      replace HZ := Lib.hid (HZ.out.below bn)
      replace HW := Lib.hid (below_two HW.out bn)
      clear bn
      have HX := Lib.hid HQ0.out.some.2.2.2.2.1
      have HY := Lib.hid HQ0.out.some.2.2.2.2.2.1
      have HX1 := Lib.hid HQ1.out.some.2.2.2.2.1
      have HY1 := Lib.hid HQ1.out.some.2.2.2.2.2.1
      go_wp2_with fail
      refine region_free 15 2 [15, 16, 17, 18, 19, 20, 21, 22, 23, 24, 25, 26, 27, 28, 29] ?aF6 (fun wx => Below wS.heap.size wS wx) (fun k vv wx => match k with
          | 0 => vv = .agg #[.bool s, .slice A n c, .slice B m d]
          | 1 => vv = .agg #[.bool s', .slice A' n' c', .slice B' m' d']
          | 2 => ∃ (e0 : Option Addr) (e1 : Nat) (e2 : Nat), vv = .agg #[.bool (sg (p.num * (q.den : Int))), .slice e0 e1 e2] ∧ ZZ wx (sg (p.num * (q.den : Int))) e0 e1 e2 (limbs (p.num * (q.den : Int)).natAbs) (p.num * (q.den : Int)) 128
          | 3 => vv = .agg #[.bool s', .slice A' n' c', .slice B' m' d']
          | 4 => vv = .agg #[.bool s, .slice A n c, .slice B m d]
          | 5 => ∃ (e0 : Option Addr) (e1 : Nat) (e2 : Nat), vv = .agg #[.bool (sg (q.num * (p.den : Int))), .slice e0 e1 e2] ∧ ZZ wx (sg (q.num * (p.den : Int))) e0 e1 e2 (limbs (q.num * (p.den : Int)).natAbs) (q.num * (p.den : Int)) 128
          | 6 => ∃ (e0 : Option Addr) (e1 : Nat) (e2 : Nat), vv = .agg #[.bool (sg (p.num * (q.den : Int) + q.num * (p.den : Int))), .slice e0 e1 e2] ∧ ZZ wx (sg (p.num * (q.den : Int) + q.num * (p.den : Int))) e0 e1 e2 (limbs (p.num * (q.den : Int) + q.num * (p.den : Int)).natAbs) (p.num * (q.den : Int) + q.num * (p.den : Int)) 129
          | 7 => vv = .pointer (some ⟨w.heap.size, 2, none⟩)
          | 8 => vv = .slice B m d
          | 9 => vv = .pointer (some ⟨w.heap.size + 1, 2, none⟩)
          | 10 => vv = .slice B' m' d'
          | 11 => ∃ (e0 : Option Addr) (e1 : Nat) (e2 : Nat), vv = .slice e0 e1 e2 ∧ NN wx e0 e1 e2 (limbs (p.den * q.den)) (p.den * q.den) 128
          | 12 => ∃ (e0 : Option Addr) (e1 : Nat) (e2 : Nat) (e3 : Option Addr) (e4 : Nat) (e5 : Nat), vv = .tuple #[.agg #[.bool (sg (oTop r)), .slice e0 e1 e2, .slice e3 e4 e5], .int .i64 e] ∧ QT wx e0 e1 e2 e3 e4 e5 r
          | 13 => ∃ (e0 : Option Addr) (e1 : Nat) (e2 : Nat) (e3 : Option Addr) (e4 : Nat) (e5 : Nat), vv = .agg #[.bool (sg (oTop r)), .slice e0 e1 e2, .slice e3 e4 e5] ∧ QT wx e0 e1 e2 e3 e4 e5 r
          | _ => vv = .int .i64 e)
        (fun k => false) (by kernel_rfl) ?haF6 rfl (by kernel_rfl) (by kernel_rfl) (fun _ _ _ _ _ h => h) ?hSb6 ?hPb6 ?hS6 ?hop6 ?hfin6
      case haF6 =>
        intro vals
        simp only [fillAll, List.getElem?_cons_zero, List.getElem?_cons_succ, Act.put, List.setIfInBounds_toArray, List.set_cons_zero, List.set_cons_succ]
        exact rfl
      case hSb6 => exact fun wx w2 hb hS => below_two hS hb
      case hPb6 =>
        intro k v wa wb hb h
        match k, h with
        | 0, h => exact h
        | 1, h => exact h
        | 2, ⟨e0, e1, e2, h1, g0⟩ => exact ⟨e0, e1, e2, h1, g0.below hb⟩
        | 3, h => exact h
        | 4, h => exact h
        | 5, ⟨e0, e1, e2, h1, g0⟩ => exact ⟨e0, e1, e2, h1, g0.below hb⟩
        | 6, ⟨e0, e1, e2, h1, g0⟩ => exact ⟨e0, e1, e2, h1, g0.below hb⟩
        | 7, h => exact h
        | 8, h => exact h
        | 9, h => exact h
        | 10, h => exact h
        | 11, ⟨e0, e1, e2, h1, g0⟩ => exact ⟨e0, e1, e2, h1, g0.below hb⟩
        | 12, ⟨e0, e1, e2, e3, e4, e5, h1, g0⟩ => exact ⟨e0, e1, e2, e3, e4, e5, h1, g0.below hb⟩
        | 13, ⟨e0, e1, e2, e3, e4, e5, h1, g0⟩ => exact ⟨e0, e1, e2, e3, e4, e5, h1, g0.below hb⟩
        | _ + 14, h => exact h
      case hS6 => exact (Below.refl _ _).drew
      case hop6 =>
        refine .cons (k := 0) ?_ (.cons (k := 1) ?_ (.cons (k := 2) ?_ (.cons (k := 3) ?_ (.cons (k := 4) ?_ (.cons (k := 5) ?_ (.cons (k := 6) ?_ (.cons (k := 7) ?_ (.cons (k := 8) ?_ (.cons (k := 9) ?_ (.cons (k := 10) ?_ (.cons (k := 11) ?_ (.cons (k := 12) ?_ (.cons (k := 13) ?_ (.cons (k := 14) ?_ (.nil)))))))))))))))
        all_goals intro vals wr hS hd KC hK
        all_goals (show Oper.wp _ _ _ _ _ _; dsimp only)
        · have z0 := (HR0.out.below hS).c0
          have z1 := (HR0.out.below hS).c1
          have z2 := (HR0.out.below hS).c2
          go_simp
          refine hK _ _ rfl (Below.refl _ _) (by first | rfl | simp) (fun h => by cases h)
        · have z0 := (HR1.out.below hS).c0
          have z1 := (HR1.out.below hS).c1
          have z2 := (HR1.out.below hS).c2
          go_simp
          refine hK _ _ rfl (Below.refl _ _) (by first | rfl | simp) (fun h => by cases h)
        · have d0 : vals 0 = _ := hd 0 (by decide +kernel)
          have d1 : vals 1 = _ := hd 1 (by decide +kernel)
          rw [d0, d1]
          go_simp
          go_at_call 33
          with_reducible refine (rCross_c (HX.out.below hS) (HY1.out.below hS) (by decide) (by decide) (p.num * (q.den : Int)) rfl).mono ?_
          rintro e w2 ⟨r0, r1, r2, rfl, f0, bn_r⟩
          refine hK _ _ rfl bn_r ⟨_, _, _, rfl, f0⟩ (fun h => by cases h)
        · have z0 := (HR1.out.below hS).c0
          have z1 := (HR1.out.below hS).c1
          have z2 := (HR1.out.below hS).c2
          go_simp
          refine hK _ _ rfl (Below.refl _ _) (by first | rfl | simp) (fun h => by cases h)
        · have z0 := (HR0.out.below hS).c0
          have z1 := (HR0.out.below hS).c1
          have z2 := (HR0.out.below hS).c2
          go_simp
          refine hK _ _ rfl (Below.refl _ _) (by first | rfl | simp) (fun h => by cases h)
        · have d3 : vals 3 = _ := hd 3 (by decide +kernel)
          have d4 : vals 4 = _ := hd 4 (by decide +kernel)
          rw [d3, d4]
          go_simp
          go_at_call 33
          with_reducible refine (rCross_c (HX1.out.below hS) (HY.out.below hS) (by decide) (by decide) (q.num * (p.den : Int)) rfl).mono ?_
          rintro e w2 ⟨r0, r1, r2, rfl, f0, bn_r⟩
          refine hK _ _ rfl bn_r ⟨_, _, _, rfl, f0⟩ (fun h => by cases h)
        · obtain ⟨A_2_0, n_2_1, n_2_2, d2, h_2_0⟩ := hd 2 (by decide +kernel)
          obtain ⟨A_5_0, n_5_1, n_5_2, d5, h_5_0⟩ := hd 5 (by decide +kernel)
          rw [d2, d5]
          go_simp
          go_at_call 32
          with_reducible refine (wAdd_c h_2_0 h_5_0 129 (by decide) (by decide) (by decide) (p.num * (q.den : Int) + q.num * (p.den : Int)) rfl).mono ?_
          rintro e w2 ⟨r0, r1, r2, rfl, f0, bn_r⟩
          refine hK _ _ rfl bn_r ⟨_, _, _, rfl, f0⟩ (fun h => by cases h)
        · go_simp
          refine hK _ _ rfl (Below.refl _ _) (by first | rfl | simp) (fun h => by cases h)
        · have d7 : vals 7 = _ := hd 7 (by decide +kernel)
          rw [d7]
          have z0 := (HR0.out.below hS).c2
          go_simp
          refine hK _ _ rfl (Below.refl _ _) (by first | rfl | simp) (fun h => by cases h)
        · go_simp
          refine hK _ _ rfl (Below.refl _ _) (by first | rfl | simp) (fun h => by cases h)
        · have d9 : vals 9 = _ := hd 9 (by decide +kernel)
          rw [d9]
          have z0 := (HR1.out.below hS).c2
          go_simp
          refine hK _ _ rfl (Below.refl _ _) (by first | rfl | simp) (fun h => by cases h)
        · have d8 : vals 8 = _ := hd 8 (by decide +kernel)
          have d10 : vals 10 = _ := hd 10 (by decide +kernel)
          rw [d8, d10]
          go_simp
          go_at_call 34
          with_reducible refine (mulOf_c (HY.out.below hS) (HY1.out.below hS) 128 (by decide) (by decide) (by decide)).mono ?_
          rintro e w2 ⟨r0, r1, r2, rfl, f0, bn_r⟩
          refine hK _ _ rfl bn_r ⟨_, _, _, rfl, f0⟩ (fun h => by cases h)
        · obtain ⟨A_6_0, n_6_1, n_6_2, d6, h_6_0⟩ := hd 6 (by decide +kernel)
          obtain ⟨A_11_0, n_11_1, n_11_2, d11, h_11_0⟩ := hd 11 (by decide +kernel)
          rw [d6, d11]
          go_simp
          go_at_call 28
          with_reducible refine (rOf_c h_6_0 h_11_0 (by decide) (by decide) r e HO.out).mono ?_
          rintro e w2 ⟨r0, r1, r2, r3, r4, r5, rfl, f0, bn_r⟩
          refine hK _ _ rfl bn_r ⟨_, _, _, _, _, _, rfl, f0⟩ (fun h => by cases h)
        · obtain ⟨A_12_0, n_12_1, n_12_2, A_12_3, n_12_4, n_12_5, d12, h_12_0⟩ := hd 12 (by decide +kernel)
          rw [d12]
          go_simp
          refine hK _ _ rfl (Below.refl _ _) ⟨_, _, _, _, _, _, rfl, h_12_0⟩ (fun h => by cases h)
        · obtain ⟨A_12_0, n_12_1, n_12_2, A_12_3, n_12_4, n_12_5, d12, h_12_0⟩ := hd 12 (by decide +kernel)
          rw [d12]
          go_simp
          refine hK _ _ rfl (Below.refl _ _) rfl (fun h => by cases h)
      case hfin6 =>
        intro vals wr hS hP hne
        obtain ⟨A_13_0, n_13_1, n_13_2, A_13_3, n_13_4, n_13_5, ez_13, h_13_0⟩ := hP 13 (by decide)
        have ez_14 : vals 14 = _ := hP 14 (by decide)
        have hZ3 := HZ.out.below hS
        have hNo := hZ3.noLimb (by intro v e; cases e) (by intro v e; cases e) (by intro v e; cases e)
        have e0 := hZ3.c0
        have e1 := hZ3.c1
        have e2 := hZ3.c2
        have f0 := hZ3.free 0
        have f1 := hZ3.free 1
        have f2 := hZ3.free 2
        have HF := Lib.hid (hZ3.fill (.bool (sg (oTop r))) (.slice A_13_0 n_13_1 n_13_2) (.slice A_13_3 n_13_4 n_13_5))
        have HP := Lib.hid (QQ.fillR3 h_13_0 hNo (.bool (sg (oTop r))) (.slice A_13_0 n_13_1 n_13_2) (.slice A_13_3 n_13_4 n_13_5))
        have HB := Lib.hid (below_fill3' (below_two HW.out hS) Hq.out (.bool (sg (oTop r))) (.slice A_13_0 n_13_1 n_13_2) (.slice A_13_3 n_13_4 n_13_5))
        try dsimp only
        rw [ez_13, ez_14]
        refine wpAny_ready (rs := [15]) (by kernel_rfl) (by simp) (AllReady.cons rfl (fun KC hK => ?_) AllReady.nil)
        go_simp
        refine hK _ _ ?_
        clear hK KC
        refine wpAny_ready (rs := [16]) (by kernel_rfl) (by simp) (AllReady.cons rfl (fun KC hK => ?_) AllReady.nil)
        go_simp
        refine hK _ _ ?_
        clear hK KC
        refine wpAny_done (by kernel_rfl) ?_ _
        go_wp2
        refine bodyPost_ret (results_mixed rfl _ _ _ 27 #[.bool (sg (oTop r)), .slice A_13_0 n_13_1 n_13_2, .slice A_13_3 n_13_4 n_13_5] (0, 0) _ (.int .i64 e) rfl rfl HF.out Tryz.underlying27 rfl rat_size) rfl ?_
        exact ⟨A_13_0, n_13_1, n_13_2, A_13_3, n_13_4, n_13_5, rfl, HP.out, HB.out⟩

set_option maxHeartbeats 4000000 in
set_option maxRecDepth 100000 in
theorem rSub_c (hx : QQ w s A n c xs B m d ys o L) (hx' : QQ w s' A' n' c' xs' B' m' d' ys' o' L') (h1 : L ≤ 1000) (h2 : L' ≤ 1000) (r : Option Rat) (e : Int) (hR : subR o o' = (r, e)) :
    Calls Tryz.prog 8 #[.agg #[.bool s, .slice A n c, .slice B m d], .agg #[.bool s', .slice A' n' c', .slice B' m' d']] w fun ee w' => ∃ A2 n2 c2 B2 m2 d2, ee = .returned (.tuple #[.agg #[.bool (sg (oTop r)), .slice A2 n2 c2, .slice B2 m2 d2], .int .i64 e]) ∧ QT w' A2 n2 c2 B2 m2 d2 r ∧ Below w.heap.size w w' := by
  cases o with
  | none =>
    have hR2 : ((none : Option Rat), (1 : Int)) = (r, e) := hR
    cases hR2
    clear hR
    have b0 := below_new w (.cells #[Value.bool s, Value.slice A n c, Value.slice B m d] 27)
    have b1 := below_new (w.alloc (.cells #[Value.bool s, Value.slice A n c, Value.slice B m d] 27)) (.cells #[Value.bool s', Value.slice A' n' c', Value.slice B' m' d'] 27)
    have b2 := below_new ((w.alloc (.cells #[Value.bool s, Value.slice A n c, Value.slice B m d] 27)).alloc (.cells #[Value.bool s', Value.slice A' n' c', Value.slice B' m' d'] 27)) (.cells #[Value.bool false, Value.slice none 0 0, Value.slice none 0 0] 27)
    have HW := Lib.hid (below_two (below_two b0 b1) b2)
    have HQ0 := Lib.hid (hx.below HW.out)
    have HQ1 := Lib.hid (hx'.below HW.out)
    have r0 := ((row3_new w 27 (.bool s) (.slice A n c) (.slice B m d)).below b1).below b2
    have r1 := (row3_new (w.alloc (.cells #[Value.bool s, Value.slice A n c, Value.slice B m d] 27)) 27 (.bool s') (.slice A' n' c') (.slice B' m' d')).below b2
    have rz := row3_new ((w.alloc (.cells #[Value.bool s, Value.slice A n c, Value.slice B m d] 27)).alloc (.cells #[Value.bool s', Value.slice A' n' c', Value.slice B' m' d'] 27)) 27 (.bool false) (.slice none 0 0) (.slice none 0 0)
    simp only [World.size_alloc] at r1 rz
    clear b0 b1 b2 hx hx'
    go_enter Tryz.func8, Tryz.ntmps8
    go_wp2_with fail
    generalize ((w.alloc (.cells #[Value.bool s, Value.slice A n c, Value.slice B m d] 27)).alloc (.cells #[Value.bool s', Value.slice A' n' c', Value.slice B' m' d'] 27)).alloc (.cells #[Value.bool false, Value.slice none 0 0, Value.slice none 0 0] 27) = w1 at *
    have HR0 := Lib.hid r0
    have HR1 := Lib.hid r1
    have HZ := Lib.hid rz
    have Hq : RowKit.Hid (w.heap.size ≤ w.heap.size + 1 + 1) := by show _ ≤ _; omega
    clear r0 r1 rz
    refine (rGood_c HQ0.out (by omega) false rfl).mono ?_
    rintro e w2 ⟨rfl, bn⟩
    replace HQ0 := Lib.hid (HQ0.out.below bn)
    replace HR0 := Lib.hid (HR0.out.below bn)
    replace HQ1 := Lib.hid (HQ1.out.below bn)
    replace HR1 := Lib.hid (HR1.out.below bn)
    replace HZ := Lib.hid (HZ.out.below bn)
    replace HW := Lib.hid (below_two HW.out bn)
    clear bn
    have e0 := HZ.out.c0
    have e1 := HZ.out.c1
    have e2 := HZ.out.c2
    have f0 := HZ.out.free 0
    have f1 := HZ.out.free 1
    have f2 := HZ.out.free 2
    have HF := Lib.hid (HZ.out.fill (.bool false) (.slice none 0 0) (.slice none 0 0))
    have HB := Lib.hid (below_fill3' HW.out Hq.out (.bool false) (.slice none 0 0) (.slice none 0 0))
    go_wp2
    refine bodyPost_ret (results_mixed rfl _ _ _ 27 #[.bool false, .slice none 0 0, .slice none 0 0] (0, 0) _ (.int .i64 1) rfl rfl HF.out Tryz.underlying27 rfl rat_size) rfl ?_
    exact ⟨none, 0, 0, none, 0, 0, rfl, qt_none _ 0 0, HB.out⟩
  | some p =>
    cases o' with
    | none =>
      have hR2 : ((none : Option Rat), (1 : Int)) = (r, e) := hR
      cases hR2
      clear hR
      have b0 := below_new w (.cells #[Value.bool s, Value.slice A n c, Value.slice B m d] 27)
      have b1 := below_new (w.alloc (.cells #[Value.bool s, Value.slice A n c, Value.slice B m d] 27)) (.cells #[Value.bool s', Value.slice A' n' c', Value.slice B' m' d'] 27)
      have b2 := below_new ((w.alloc (.cells #[Value.bool s, Value.slice A n c, Value.slice B m d] 27)).alloc (.cells #[Value.bool s', Value.slice A' n' c', Value.slice B' m' d'] 27)) (.cells #[Value.bool false, Value.slice none 0 0, Value.slice none 0 0] 27)
      have HW := Lib.hid (below_two (below_two b0 b1) b2)
      have HQ0 := Lib.hid (hx.below HW.out)
      have HQ1 := Lib.hid (hx'.below HW.out)
      have r0 := ((row3_new w 27 (.bool s) (.slice A n c) (.slice B m d)).below b1).below b2
      have r1 := (row3_new (w.alloc (.cells #[Value.bool s, Value.slice A n c, Value.slice B m d] 27)) 27 (.bool s') (.slice A' n' c') (.slice B' m' d')).below b2
      have rz := row3_new ((w.alloc (.cells #[Value.bool s, Value.slice A n c, Value.slice B m d] 27)).alloc (.cells #[Value.bool s', Value.slice A' n' c', Value.slice B' m' d'] 27)) 27 (.bool false) (.slice none 0 0) (.slice none 0 0)
      simp only [World.size_alloc] at r1 rz
      clear b0 b1 b2 hx hx'
      go_enter Tryz.func8, Tryz.ntmps8
      go_wp2_with fail
      generalize ((w.alloc (.cells #[Value.bool s, Value.slice A n c, Value.slice B m d] 27)).alloc (.cells #[Value.bool s', Value.slice A' n' c', Value.slice B' m' d'] 27)).alloc (.cells #[Value.bool false, Value.slice none 0 0, Value.slice none 0 0] 27) = w1 at *
      have HR0 := Lib.hid r0
      have HR1 := Lib.hid r1
      have HZ := Lib.hid rz
      have Hq : RowKit.Hid (w.heap.size ≤ w.heap.size + 1 + 1) := by show _ ≤ _; omega
      clear r0 r1 rz
      refine (rGood_c HQ0.out (by omega) true rfl).mono ?_
      rintro e w2 ⟨rfl, bn⟩
      replace HQ0 := Lib.hid (HQ0.out.below bn)
      replace HR0 := Lib.hid (HR0.out.below bn)
      replace HQ1 := Lib.hid (HQ1.out.below bn)
      replace HR1 := Lib.hid (HR1.out.below bn)
      replace HZ := Lib.hid (HZ.out.below bn)
      replace HW := Lib.hid (below_two HW.out bn)
      clear bn
      have c10 := HR1.out.c0
      have c11 := HR1.out.c1
      have c12 := HR1.out.c2
      go_wp2_with fail
      clear c10 c11 c12
      refine (rGood_c HQ1.out (by omega) false rfl).mono ?_
      rintro e w2 ⟨rfl, bn⟩
      replace HQ0 := Lib.hid (HQ0.out.below bn)
      replace HR0 := Lib.hid (HR0.out.below bn)
      replace HQ1 := Lib.hid (HQ1.out.below bn)
      replace HR1 := Lib.hid (HR1.out.below bn)
      replace HZ := Lib.hid (HZ.out.below bn)
      replace HW := Lib.hid (below_two HW.out bn)
      clear bn
      have e0 := HZ.out.c0
      have e1 := HZ.out.c1
      have e2 := HZ.out.c2
      have f0 := HZ.out.free 0
      have f1 := HZ.out.free 1
      have f2 := HZ.out.free 2
      have HF := Lib.hid (HZ.out.fill (.bool false) (.slice none 0 0) (.slice none 0 0))
      have HB := Lib.hid (below_fill3' HW.out Hq.out (.bool false) (.slice none 0 0) (.slice none 0 0))
      go_wp2
      refine bodyPost_ret (results_mixed rfl _ _ _ 27 #[.bool false, .slice none 0 0, .slice none 0 0] (0, 0) _ (.int .i64 1) rfl rfl HF.out Tryz.underlying27 rfl rat_size) rfl ?_
      exact ⟨none, 0, 0, none, 0, 0, rfl, qt_none _ 0 0, HB.out⟩
    | some q =>
      have HO : RowKit.Hid (ofR (p.num * (q.den : Int) + -(q.num * (p.den : Int))) (p.den * q.den) = (r, e)) := by
        show _ = _
        rw [← hR]; unfold ofR; rw [if_neg (Nat.mul_ne_zero p.den_nz q.den_nz)]
        show limR _ = limR _
        rw [sub_mk]
      clear hR
      have b0 := below_new w (.cells #[Value.bool s, Value.slice A n c, Value.slice B m d] 27)
      have b1 := below_new (w.alloc (.cells #[Value.bool s, Value.slice A n c, Value.slice B m d] 27)) (.cells #[Value.bool s', Value.slice A' n' c', Value.slice B' m' d'] 27)
      have b2 := below_new ((w.alloc (.cells #[Value.bool s, Value.slice A n c, Value.slice B m d] 27)).alloc (.cells #[Value.bool s', Value.slice A' n' c', Value.slice B' m' d'] 27)) (.cells #[Value.bool false, Value.slice none 0 0, Value.slice none 0 0] 27)
      have HW := Lib.hid (below_two (below_two b0 b1) b2)
      have HQ0 := Lib.hid (hx.below HW.out)
      have HQ1 := Lib.hid (hx'.below HW.out)
      have r0 := ((row3_new w 27 (.bool s) (.slice A n c) (.slice B m d)).below b1).below b2
      have r1 := (row3_new (w.alloc (.cells #[Value.bool s, Value.slice A n c, Value.slice B m d] 27)) 27 (.bool s') (.slice A' n' c') (.slice B' m' d')).below b2
      have rz := row3_new ((w.alloc (.cells #[Value.bool s, Value.slice A n c, Value.slice B m d] 27)).alloc (.cells #[Value.bool s', Value.slice A' n' c', Value.slice B' m' d'] 27)) 27 (.bool false) (.slice none 0 0) (.slice none 0 0)
      simp only [World.size_alloc] at r1 rz
      clear b0 b1 b2 hx hx'
      go_enter Tryz.func8, Tryz.ntmps8
      go_wp2_with fail
      generalize ((w.alloc (.cells #[Value.bool s, Value.slice A n c, Value.slice B m d] 27)).alloc (.cells #[Value.bool s', Value.slice A' n' c', Value.slice B' m' d'] 27)).alloc (.cells #[Value.bool false, Value.slice none 0 0, Value.slice none 0 0] 27) = w1 at *
      have HR0 := Lib.hid r0
      have HR1 := Lib.hid r1
      have HZ := Lib.hid rz
      have Hq : RowKit.Hid (w.heap.size ≤ w.heap.size + 1 + 1) := by show _ ≤ _; omega
      clear r0 r1 rz
      refine (rGood_c HQ0.out (by omega) true rfl).mono ?_
      rintro e w2 ⟨rfl, bn⟩
      replace HQ0 := Lib.hid (HQ0.out.below bn)
      replace HR0 := Lib.hid (HR0.out.below bn)
      replace HQ1 := Lib.hid (HQ1.out.below bn)
      replace HR1 := Lib.hid (HR1.out.below bn)
      replace HZ := Lib.hid (HZ.out.below bn)
      replace HW := Lib.hid (below_two HW.out bn)
      clear bn
      have c10 := HR1.out.c0
      have c11 := HR1.out.c1
      have c12 := HR1.out.c2
      go_wp2_with fail
      clear c10 c11 c12
      refine (rGood_c HQ1.out (by omega) true rfl).mono ?_
      rintro e wS ⟨rfl, bn⟩
      replace HQ0 := Lib.hid (HQ0.out.below bn)
      replace HR0 := Lib.hid (HR0.out.below bn)
      replace HQ1 := Lib.hid (HQ1.out.below bn)
      replace HR1 := Lib.hid (HR1.out.below bn)
      replace HZ := Lib.hid (HZ.out.below bn)
      replace HW := Lib.hid (below_two HW.out bn)
      clear bn
      have HX := Lib.hid HQ0.out.some.2.2.2.2.1
      have HY := Lib.hid HQ0.out.some.2.2.2.2.2.1
      have HX1 := Lib.hid HQ1.out.some.2.2.2.2.1
      have HY1 := Lib.hid HQ1.out.some.2.2.2.2.2.1
      go_wp2_with fail
      refine region_free 16 2 [15, 16, 17, 18, 19, 20, 21, 22, 23, 24, 25, 26, 27, 28, 29, 30] ?aF7 (fun wx => Below wS.heap.size wS wx) (fun k vv wx => match k with
          | 0 => vv = .agg #[.bool s, .slice A n c, .slice B m d]
          | 1 => vv = .agg #[.bool s', .slice A' n' c', .slice B' m' d']
          | 2 => ∃ (e0 : Option Addr) (e1 : Nat) (e2 : Nat), vv = .agg #[.bool (sg (p.num * (q.den : Int))), .slice e0 e1 e2] ∧ ZZ wx (sg (p.num * (q.den : Int))) e0 e1 e2 (limbs (p.num * (q.den : Int)).natAbs) (p.num * (q.den : Int)) 128
          | 3 => vv = .agg #[.bool s', .slice A' n' c', .slice B' m' d']
          | 4 => vv = .agg #[.bool s, .slice A n c, .slice B m d]
          | 5 => ∃ (e0 : Option Addr) (e1 : Nat) (e2 : Nat), vv = .agg #[.bool (sg (q.num * (p.den : Int))), .slice e0 e1 e2] ∧ ZZ wx (sg (q.num * (p.den : Int))) e0 e1 e2 (limbs (q.num * (p.den : Int)).natAbs) (q.num * (p.den : Int)) 128
          | 6 => ∃ (e0 : Option Addr) (e1 : Nat) (e2 : Nat), vv = .agg #[.bool (sg (-(q.num * (p.den : Int)))), .slice e0 e1 e2] ∧ ZZ wx (sg (-(q.num * (p.den : Int)))) e0 e1 e2 (limbs (-(q.num * (p.den : Int))).natAbs) (-(q.num * (p.den : Int))) 128
          | 7 => ∃ (e0 : Option Addr) (e1 : Nat) (e2 : Nat), vv = .agg #[.bool (sg (p.num * (q.den : Int) + -(q.num * (p.den : Int)))), .slice e0 e1 e2] ∧ ZZ wx (sg (p.num * (q.den : Int) + -(q.num * (p.den : Int)))) e0 e1 e2 (limbs (p.num * (q.den : Int) + -(q.num * (p.den : Int))).natAbs) (p.num * (q.den : Int) + -(q.num * (p.den : Int))) 129
          | 8 => vv = .pointer (some ⟨w.heap.size, 2, none⟩)
          | 9 => vv = .slice B m d
          | 10 => vv = .pointer (some ⟨w.heap.size + 1, 2, none⟩)
          | 11 => vv = .slice B' m' d'
          | 12 => ∃ (e0 : Option Addr) (e1 : Nat) (e2 : Nat), vv = .slice e0 e1 e2 ∧ NN wx e0 e1 e2 (limbs (p.den * q.den)) (p.den * q.den) 128
          | 13 => ∃ (e0 : Option Addr) (e1 : Nat) (e2 : Nat) (e3 : Option Addr) (e4 : Nat) (e5 : Nat), vv = .tuple #[.agg #[.bool (sg (oTop r)), .slice e0 e1 e2, .slice e3 e4 e5], .int .i64 e] ∧ QT wx e0 e1 e2 e3 e4 e5 r
          | 14 => ∃ (e0 : Option Addr) (e1 : Nat) (e2 : Nat) (e3 : Option Addr) (e4 : Nat) (e5 : Nat), vv = .agg #[.bool (sg (oTop r)), .slice e0 e1 e2, .slice e3 e4 e5] ∧ QT wx e0 e1 e2 e3 e4 e5 r
          | _ => vv = .int .i64 e)
        (fun k => false) (by kernel_rfl) ?haF7 rfl (by kernel_rfl) (by kernel_rfl) (fun _ _ _ _ _ h => h) ?hSb7 ?hPb7 ?hS7 ?hop7 ?hfin7
      case haF7 =>
        intro vals
        simp only [fillAll, List.getElem?_cons_zero, List.getElem?_cons_succ, Act.put, List.setIfInBounds_toArray, List.set_cons_zero, List.set_cons_succ]
        exact rfl
      case hSb7 => exact fun wx w2 hb hS => below_two hS hb
      case hPb7 =>
        intro k v wa wb hb h
        match k, h with
        | 0, h => exact h
        | 1, h => exact h
        | 2, ⟨e0, e1, e2, h1, g0⟩ => exact ⟨e0, e1, e2, h1, g0.below hb⟩
        | 3, h => exact h
        | 4, h => exact h
        | 5, ⟨e0, e1, e2, h1, g0⟩ => exact ⟨e0, e1, e2, h1, g0.below hb⟩
        | 6, ⟨e0, e1, e2, h1, g0⟩ => exact ⟨e0, e1, e2, h1, g0.below hb⟩
        | 7, ⟨e0, e1, e2, h1, g0⟩ => exact ⟨e0, e1, e2, h1, g0.below hb⟩
        | 8, h => exact h
        | 9, h => exact h
        | 10, h => exact h
        | 11, h => exact h
        | 12, ⟨e0, e1, e2, h1, g0⟩ => exact ⟨e0, e1, e2, h1, g0.below hb⟩
        | 13, ⟨e0, e1, e2, e3, e4, e5, h1, g0⟩ => exact ⟨e0, e1, e2, e3, e4, e5, h1, g0.below hb⟩
        | 14, ⟨e0, e1, e2, e3, e4, e5, h1, g0⟩ => exact ⟨e0, e1, e2, e3, e4, e5, h1, g0.below hb⟩
        | _ + 15, h => exact h
      case hS7 => exact (Below.refl _ _).drew
      case hop7 =>
        refine .cons (k := 0) ?_ (.cons (k := 1) ?_ (.cons (k := 2) ?_ (.cons (k := 3) ?_ (.cons (k := 4) ?_ (.cons (k := 5) ?_ (.cons (k := 6) ?_ (.cons (k := 7) ?_ (.cons (k := 8) ?_ (.cons (k := 9) ?_ (.cons (k := 10) ?_ (.cons (k := 11) ?_ (.cons (k := 12) ?_ (.cons (k := 13) ?_ (.cons (k := 14) ?_ (.cons (k := 15) ?_ (.nil))))))))))))))))
        all_goals intro vals wr hS hd KC hK
        all_goals (show Oper.wp _ _ _ _ _ _; dsimp only)
        · have z0 := (HR0.out.below hS).c0
          have z1 := (HR0.out.below hS).c1
          have z2 := (HR0.out.below hS).c2
          go_simp
          refine hK _ _ rfl (Below.refl _ _) (by first | rfl | simp) (fun h => by cases h)
        · have z0 := (HR1.out.below hS).c0
          have z1 := (HR1.out.below hS).c1
          have z2 := (HR1.out.below hS).c2
          go_simp
          refine hK _ _ rfl (Below.refl _ _) (by first | rfl | simp) (fun h => by cases h)
        · have d0 : vals 0 = _ := hd 0 (by decide +kernel)
          have d1 : vals 1 = _ := hd 1 (by decide +kernel)
          rw [d0, d1]
          go_simp
          go_at_call 33
          with_reducible refine (rCross_c (HX.out.below hS) (HY1.out.below hS) (by decide) (by decide) (p.num * (q.den : Int)) rfl).mono ?_
          rintro e w2 ⟨r0, r1, r2, rfl, f0, bn_r⟩
          refine hK _ _ rfl bn_r ⟨_, _, _, rfl, f0⟩ (fun h => by cases h)
        · have z0 := (HR1.out.below hS).c0
          have z1 := (HR1.out.below hS).c1
          have z2 := (HR1.out.below hS).c2
          go_simp
          refine hK _ _ rfl (Below.refl _ _) (by first | rfl | simp) (fun h => by cases h)
        · have z0 := (HR0.out.below hS).c0
          have z1 := (HR0.out.below hS).c1
          have z2 := (HR0.out.below hS).c2
          go_simp
          refine hK _ _ rfl (Below.refl _ _) (by first | rfl | simp) (fun h => by cases h)
        · have d3 : vals 3 = _ := hd 3 (by decide +kernel)
          have d4 : vals 4 = _ := hd 4 (by decide +kernel)
          rw [d3, d4]
          go_simp
          go_at_call 33
          with_reducible refine (rCross_c (HX1.out.below hS) (HY.out.below hS) (by decide) (by decide) (q.num * (p.den : Int)) rfl).mono ?_
          rintro e w2 ⟨r0, r1, r2, rfl, f0, bn_r⟩
          refine hK _ _ rfl bn_r ⟨_, _, _, rfl, f0⟩ (fun h => by cases h)
        · obtain ⟨A_5_0, n_5_1, n_5_2, d5, h_5_0⟩ := hd 5 (by decide +kernel)
          rw [d5]
          go_simp
          go_at_call 35
          with_reducible refine (wNeg_c h_5_0 (by decide) (-(q.num * (p.den : Int))) rfl).mono ?_
          rintro e w2 ⟨r0, r1, r2, rfl, f0, bn_r⟩
          refine hK _ _ rfl bn_r ⟨_, _, _, rfl, f0⟩ (fun h => by cases h)
        · obtain ⟨A_2_0, n_2_1, n_2_2, d2, h_2_0⟩ := hd 2 (by decide +kernel)
          obtain ⟨A_6_0, n_6_1, n_6_2, d6, h_6_0⟩ := hd 6 (by decide +kernel)
          rw [d2, d6]
          go_simp
          go_at_call 32
          with_reducible refine (wAdd_c h_2_0 h_6_0 129 (by decide) (by decide) (by decide) (p.num * (q.den : Int) + -(q.num * (p.den : Int))) rfl).mono ?_
          rintro e w2 ⟨r0, r1, r2, rfl, f0, bn_r⟩
          refine hK _ _ rfl bn_r ⟨_, _, _, rfl, f0⟩ (fun h => by cases h)
        · go_simp
          refine hK _ _ rfl (Below.refl _ _) (by first | rfl | simp) (fun h => by cases h)
        · have d8 : vals 8 = _ := hd 8 (by decide +kernel)
          rw [d8]
          have z0 := (HR0.out.below hS).c2
          go_simp
          refine hK _ _ rfl (Below.refl _ _) (by first | rfl | simp) (fun h => by cases h)
        · go_simp
          refine hK _ _ rfl (Below.refl _ _) (by first | rfl | simp) (fun h => by cases h)
        · have d10 : vals 10 = _ := hd 10 (by decide +kernel)
          rw [d10]
          have z0 := (HR1.out.below hS).c2
          go_simp
          refine hK _ _ rfl (Below.refl _ _) (by first | rfl | simp) (fun h => by cases h)
        · have d9 : vals 9 = _ := hd 9 (by decide +kernel)
          have d11 : vals 11 = _ := hd 11 (by decide +kernel)
          rw [d9, d11]
          go_simp
          go_at_call 34
          with_reducible refine (mulOf_c (HY.out.below hS) (HY1.out.below hS) 128 (by decide) (by decide) (by decide)).mono ?_
          rintro e w2 ⟨r0, r1, r2, rfl, f0, bn_r⟩
          refine hK _ _ rfl bn_r ⟨_, _, _, rfl, f0⟩ (fun h => by cases h)
        · obtain ⟨A_7_0, n_7_1, n_7_2, d7, h_7_0⟩ := hd 7 (by decide +kernel)
          obtain ⟨A_12_0, n_12_1, n_12_2, d12, h_12_0⟩ := hd 12 (by decide +kernel)
          rw [d7, d12]
          go_simp
          go_at_call 28
          with_reducible refine (rOf_c h_7_0 h_12_0 (by decide) (by decide) r e HO.out).mono ?_
          rintro e w2 ⟨r0, r1, r2, r3, r4, r5, rfl, f0, bn_r⟩
          refine hK _ _ rfl bn_r ⟨_, _, _, _, _, _, rfl, f0⟩ (fun h => by cases h)
        · obtain ⟨A_13_0, n_13_1, n_13_2, A_13_3, n_13_4, n_13_5, d13, h_13_0⟩ := hd 13 (by decide +kernel)
          rw [d13]
          go_simp
          refine hK _ _ rfl (Below.refl _ _) ⟨_, _, _, _, _, _, rfl, h_13_0⟩ (fun h => by cases h)
        · obtain ⟨A_13_0, n_13_1, n_13_2, A_13_3, n_13_4, n_13_5, d13, h_13_0⟩ := hd 13 (by decide +kernel)
          rw [d13]
          go_simp
          refine hK _ _ rfl (Below.refl _ _) rfl (fun h => by cases h)
      case hfin7 =>
        intro vals wr hS hP hne
        obtain ⟨A_14_0, n_14_1, n_14_2, A_14_3, n_14_4, n_14_5, ez_14, h_14_0⟩ := hP 14 (by decide)
        have ez_15 : vals 15 = _ := hP 15 (by decide)
        have hZ3 := HZ.out.below hS
        have hNo := hZ3.noLimb (by intro v e; cases e) (by intro v e; cases e) (by intro v e; cases e)
        have e0 := hZ3.c0
        have e1 := hZ3.c1
        have e2 := hZ3.c2
        have f0 := hZ3.free 0
        have f1 := hZ3.free 1
        have f2 := hZ3.free 2
        have HF := Lib.hid (hZ3.fill (.bool (sg (oTop r))) (.slice A_14_0 n_14_1 n_14_2) (.slice A_14_3 n_14_4 n_14_5))
        have HP := Lib.hid (QQ.fillR3 h_14_0 hNo (.bool (sg (oTop r))) (.slice A_14_0 n_14_1 n_14_2) (.slice A_14_3 n_14_4 n_14_5))
        have HB := Lib.hid (below_fill3' (below_two HW.out hS) Hq.out (.bool (sg (oTop r))) (.slice A_14_0 n_14_1 n_14_2) (.slice A_14_3 n_14_4 n_14_5))
        try dsimp only
        rw [ez_14, ez_15]
        refine wpAny_ready (rs := [16]) (by kernel_rfl) (by simp) (AllReady.cons rfl (fun KC hK => ?_) AllReady.nil)
        go_simp
        refine hK _ _ ?_
        clear hK KC
        refine wpAny_ready (rs := [17]) (by kernel_rfl) (by simp) (AllReady.cons rfl (fun KC hK => ?_) AllReady.nil)
        go_simp
        refine hK _ _ ?_
        clear hK KC
        refine wpAny_done (by kernel_rfl) ?_ _
        go_wp2
        refine bodyPost_ret (results_mixed rfl _ _ _ 27 #[.bool (sg (oTop r)), .slice A_14_0 n_14_1 n_14_2, .slice A_14_3 n_14_4 n_14_5] (0, 0) _ (.int .i64 e) rfl rfl HF.out Tryz.underlying27 rfl rat_size) rfl ?_
        exact ⟨A_14_0, n_14_1, n_14_2, A_14_3, n_14_4, n_14_5, rfl, HP.out, HB.out⟩

set_option maxHeartbeats 4000000 in
set_option maxRecDepth 100000 in
theorem rMul_c (hx : QQ w s A n c xs B m d ys o L) (hx' : QQ w s' A' n' c' xs' B' m' d' ys' o' L') (h1 : L ≤ 1000) (h2 : L' ≤ 1000) (r : Option Rat) (e : Int) (hR : mulR o o' = (r, e)) :
    Calls Tryz.prog 9 #[.agg #[.bool s, .slice A n c, .slice B m d], .agg #[.bool s', .slice A' n' c', .slice B' m' d']] w fun ee w' => ∃ A2 n2 c2 B2 m2 d2, ee = .returned (.tuple #[.agg #[.bool (sg (oTop r)), .slice A2 n2 c2, .slice B2 m2 d2], .int .i64 e]) ∧ QT w' A2 n2 c2 B2 m2 d2 r ∧ Below w.heap.size w w' := by
  cases o with
  | none =>
    have hR2 : ((none : Option Rat), (1 : Int)) = (r, e) := hR
    cases hR2
    clear hR
    have b0 := below_new w (.cells #[Value.bool s, Value.slice A n c, Value.slice B m d] 27)
    have b1 := below_new (w.alloc (.cells #[Value.bool s, Value.slice A n c, Value.slice B m d] 27)) (.cells #[Value.bool s', Value.slice A' n' c', Value.slice B' m' d'] 27)
    have b2 := below_new ((w.alloc (.cells #[Value.bool s, Value.slice A n c, Value.slice B m d] 27)).alloc (.cells #[Value.bool s', Value.slice A' n' c', Value.slice B' m' d'] 27)) (.cells #[Value.bool false, Value.slice none 0 0, Value.slice none 0 0] 27)
    have HW := Lib.hid (below_two (below_two b0 b1) b2)
    have HQ0 := Lib.hid (hx.below HW.out)
    have HQ1 := Lib.hid (hx'.below HW.out)
    have r0 := ((row3_new w 27 (.bool s) (.slice A n c) (.slice B m d)).below b1).below b2
    have r1 := (row3_new (w.alloc (.cells #[Value.bool s, Value.slice A n c, Value.slice B m d] 27)) 27 (.bool s') (.slice A' n' c') (.slice B' m' d')).below b2
    have rz := row3_new ((w.alloc (.cells #[Value.bool s, Value.slice A n c, Value.slice B m d] 27)).alloc (.cells #[Value.bool s', Value.slice A' n' c', Value.slice B' m' d'] 27)) 27 (.bool false) (.slice none 0 0) (.slice none 0 0)
    simp only [World.size_alloc] at r1 rz
    clear b0 b1 b2 hx hx'
    go_enter Tryz.func9, Tryz.ntmps9
    go_wp2_with fail
    generalize ((w.alloc (.cells #[Value.bool s, Value.slice A n c, Value.slice B m d] 27)).alloc (.cells #[Value.bool s', Value.slice A' n' c', Value.slice B' m' d'] 27)).alloc (.cells #[Value.bool false, Value.slice none 0 0, Value.slice none 0 0] 27) = w1 at *
    have HR0 := Lib.hid r0
    have HR1 := Lib.hid r1
    have HZ := Lib.hid rz
    have Hq : RowKit.Hid (w.heap.size ≤ w.heap.size + 1 + 1) := by show _ ≤ _; omega
    clear r0 r1 rz
    refine (rGood_c HQ0.out (by omega) false rfl).mono ?_
    rintro e w2 ⟨rfl, bn⟩
    replace HQ0 := Lib.hid (HQ0.out.below bn)
    replace HR0 := Lib.hid (HR0.out.below bn)
    replace HQ1 := Lib.hid (HQ1.out.below bn)
    replace HR1 := Lib.hid (HR1.out.below bn)
    replace HZ := Lib.hid (HZ.out.below bn)
    replace HW := Lib.hid (below_two HW.out bn)
    clear bn
    have e0 := HZ.out.c0
    have e1 := HZ.out.c1
    have e2 := HZ.out.c2
    have f0 := HZ.out.free 0
    have f1 := HZ.out.free 1
    have f2 := HZ.out.free 2
    have HF := Lib.hid (HZ.out.fill (.bool false) (.slice none 0 0) (.slice none 0 0))
    have HB := Lib.hid (below_fill3' HW.out Hq.out (.bool false) (.slice none 0 0) (.slice none 0 0))
    go_wp2
    refine bodyPost_ret (results_mixed rfl _ _ _ 27 #[.bool false, .slice none 0 0, .slice none 0 0] (0, 0) _ (.int .i64 1) rfl rfl HF.out Tryz.underlying27 rfl rat_size) rfl ?_
    exact ⟨none, 0, 0, none, 0, 0, rfl, qt_none _ 0 0, HB.out⟩
  | some p =>
    cases o' with
    | none =>
      have hR2 : ((none : Option Rat), (1 : Int)) = (r, e) := hR
      cases hR2
      clear hR
      have b0 := below_new w (.cells #[Value.bool s, Value.slice A n c, Value.slice B m d] 27)
      have b1 := below_new (w.alloc (.cells #[Value.bool s, Value.slice A n c, Value.slice B m d] 27)) (.cells #[Value.bool s', Value.slice A' n' c', Value.slice B' m' d'] 27)
      have b2 := below_new ((w.alloc (.cells #[Value.bool s, Value.slice A n c, Value.slice B m d] 27)).alloc (.cells #[Value.bool s', Value.slice A' n' c', Value.slice B' m' d'] 27)) (.cells #[Value.bool false, Value.slice none 0 0, Value.slice none 0 0] 27)
      have HW := Lib.hid (below_two (below_two b0 b1) b2)
      have HQ0 := Lib.hid (hx.below HW.out)
      have HQ1 := Lib.hid (hx'.below HW.out)
      have r0 := ((row3_new w 27 (.bool s) (.slice A n c) (.slice B m d)).below b1).below b2
      have r1 := (row3_new (w.alloc (.cells #[Value.bool s, Value.slice A n c, Value.slice B m d] 27)) 27 (.bool s') (.slice A' n' c') (.slice B' m' d')).below b2
      have rz := row3_new ((w.alloc (.cells #[Value.bool s, Value.slice A n c, Value.slice B m d] 27)).alloc (.cells #[Value.bool s', Value.slice A' n' c', Value.slice B' m' d'] 27)) 27 (.bool false) (.slice none 0 0) (.slice none 0 0)
      simp only [World.size_alloc] at r1 rz
      clear b0 b1 b2 hx hx'
      go_enter Tryz.func9, Tryz.ntmps9
      go_wp2_with fail
      generalize ((w.alloc (.cells #[Value.bool s, Value.slice A n c, Value.slice B m d] 27)).alloc (.cells #[Value.bool s', Value.slice A' n' c', Value.slice B' m' d'] 27)).alloc (.cells #[Value.bool false, Value.slice none 0 0, Value.slice none 0 0] 27) = w1 at *
      have HR0 := Lib.hid r0
      have HR1 := Lib.hid r1
      have HZ := Lib.hid rz
      have Hq : RowKit.Hid (w.heap.size ≤ w.heap.size + 1 + 1) := by show _ ≤ _; omega
      clear r0 r1 rz
      refine (rGood_c HQ0.out (by omega) true rfl).mono ?_
      rintro e w2 ⟨rfl, bn⟩
      replace HQ0 := Lib.hid (HQ0.out.below bn)
      replace HR0 := Lib.hid (HR0.out.below bn)
      replace HQ1 := Lib.hid (HQ1.out.below bn)
      replace HR1 := Lib.hid (HR1.out.below bn)
      replace HZ := Lib.hid (HZ.out.below bn)
      replace HW := Lib.hid (below_two HW.out bn)
      clear bn
      have c10 := HR1.out.c0
      have c11 := HR1.out.c1
      have c12 := HR1.out.c2
      go_wp2_with fail
      clear c10 c11 c12
      refine (rGood_c HQ1.out (by omega) false rfl).mono ?_
      rintro e w2 ⟨rfl, bn⟩
      replace HQ0 := Lib.hid (HQ0.out.below bn)
      replace HR0 := Lib.hid (HR0.out.below bn)
      replace HQ1 := Lib.hid (HQ1.out.below bn)
      replace HR1 := Lib.hid (HR1.out.below bn)
      replace HZ := Lib.hid (HZ.out.below bn)
      replace HW := Lib.hid (below_two HW.out bn)
      clear bn
      have e0 := HZ.out.c0
      have e1 := HZ.out.c1
      have e2 := HZ.out.c2
      have f0 := HZ.out.free 0
      have f1 := HZ.out.free 1
      have f2 := HZ.out.free 2
      have HF := Lib.hid (HZ.out.fill (.bool false) (.slice none 0 0) (.slice none 0 0))
      have HB := Lib.hid (below_fill3' HW.out Hq.out (.bool false) (.slice none 0 0) (.slice none 0 0))
      go_wp2
      refine bodyPost_ret (results_mixed rfl _ _ _ 27 #[.bool false, .slice none 0 0, .slice none 0 0] (0, 0) _ (.int .i64 1) rfl rfl HF.out Tryz.underlying27 rfl rat_size) rfl ?_
      exact ⟨none, 0, 0, none, 0, 0, rfl, qt_none _ 0 0, HB.out⟩
    | some q =>
      have HO : RowKit.Hid (ofR (p.num * q.num) (p.den * q.den) = (r, e)) := by
        show _ = _
        rw [← hR]; unfold ofR; rw [if_neg (Nat.mul_ne_zero p.den_nz q.den_nz)]
        show limR _ = limR _
        rw [mul_mk]
      clear hR
      have b0 := below_new w (.cells #[Value.bool s, Value.slice A n c, Value.slice B m d] 27)
      have b1 := below_new (w.alloc (.cells #[Value.bool s, Value.slice A n c, Value.slice B m d] 27)) (.cells #[Value.bool s', Value.slice A' n' c', Value.slice B' m' d'] 27)
      have b2 := below_new ((w.alloc (.cells #[Value.bool s, Value.slice A n c, Value.slice B m d] 27)).alloc (.cells #[Value.bool s', Value.slice A' n' c', Value.slice B' m' d'] 27)) (.cells #[Value.bool false, Value.slice none 0 0, Value.slice none 0 0] 27)
      have HW := Lib.hid (below_two (below_two b0 b1) b2)
      have HQ0 := Lib.hid (hx.below HW.out)
      have HQ1 := Lib.hid (hx'.below HW.out)
      have r0 := ((row3_new w 27 (.bool s) (.slice A n c) (.slice B m d)).below b1).below b2
      have r1 := (row3_new (w.alloc (.cells #[Value.bool s, Value.slice A n c, Value.slice B m d] 27)) 27 (.bool s') (.slice A' n' c') (.slice B' m' d')).below b2
      have rz := row3_new ((w.alloc (.cells #[Value.bool s, Value.slice A n c, Value.slice B m d] 27)).alloc (.cells #[Value.bool s', Value.slice A' n' c', Value.slice B' m' d'] 27)) 27 (.bool false) (.slice none 0 0) (.slice none 0 0)
      simp only [World.size_alloc] at r1 rz
      clear b0 b1 b2 hx hx'
      go_enter Tryz.func9, Tryz.ntmps9
      go_wp2_with fail
      generalize ((w.alloc (.cells #[Value.bool s, Value.slice A n c, Value.slice B m d] 27)).alloc (.cells #[Value.bool s', Value.slice A' n' c', Value.slice B' m' d'] 27)).alloc (.cells #[Value.bool false, Value.slice none 0 0, Value.slice none 0 0] 27) = w1 at *
      have HR0 := Lib.hid r0
      have HR1 := Lib.hid r1
      have HZ := Lib.hid rz
      have Hq : RowKit.Hid (w.heap.size ≤ w.heap.size + 1 + 1) := by show _ ≤ _; omega
      clear r0 r1 rz
      refine (rGood_c HQ0.out (by omega) true rfl).mono ?_
      rintro e w2 ⟨rfl, bn⟩
      replace HQ0 := Lib.hid (HQ0.out.below bn)
      replace HR0 := Lib.hid (HR0.out.below bn)
      replace HQ1 := Lib.hid (HQ1.out.below bn)
      replace HR1 := Lib.hid (HR1.out.below bn)
      replace HZ := Lib.hid (HZ.out.below bn)
      replace HW := Lib.hid (below_two HW.out bn)
      clear bn
      have c10 := HR1.out.c0
      have c11 := HR1.out.c1
      have c12 := HR1.out.c2
      go_wp2_with fail
      clear c10 c11 c12
      refine (rGood_c HQ1.out (by omega) true rfl).mono ?_
      rintro e wS ⟨rfl, bn⟩
      replace HQ0 := Lib.hid (HQ0.out.below bn)
      replace HR0 := Lib.hid (HR0.out.below bn)
      replace HQ1 := Lib.hid (HQ1.out.below bn)
      replace HR1 := Lib.hid (HR1.out.below bn)
      replace HZ := Lib.hid (HZ.out.below bn)
      replace HW := Lib.hid (below_two HW.out bn)
      clear bn
      have HX := Lib.hid HQ0.out.some.2.2.2.2.1
      have HY := Lib.hid HQ0.out.some.2.2.2.2.2.1
      have HX1 := Lib.hid HQ1.out.some.2.2.2.2.1
      have HY1 := Lib.hid HQ1.out.some.2.2.2.2.2.1
      go_wp2_with fail
      refine region_free 13 2 [15, 16, 17, 18, 19, 20, 21, 22, 23, 24, 25, 26, 27] ?aF8 (fun wx => Below wS.heap.size wS wx) (fun k vv wx => match k with
          | 0 => vv = .pointer (some ⟨w.heap.size, 0, none⟩)
          | 1 => vv = .agg #[.bool s, .slice A n c]
          | 2 => vv = .pointer (some ⟨w.heap.size + 1, 0, none⟩)
          | 3 => vv = .agg #[.bool s', .slice A' n' c']
          | 4 => ∃ (e0 : Option Addr) (e1 : Nat) (e2 : Nat), vv = .agg #[.bool (sg (p.num * q.num)), .slice e0 e1 e2] ∧ ZZ wx (sg (p.num * q.num)) e0 e1 e2 (limbs (p.num * q.num).natAbs) (p.num * q.num) 128
          | 5 => vv = .pointer (some ⟨w.heap.size, 2, none⟩)
          | 6 => vv = .slice B m d
          | 7 => vv = .pointer (some ⟨w.heap.size + 1, 2, none⟩)
          | 8 => vv = .slice B' m' d'
          | 9 => ∃ (e0 : Option Addr) (e1 : Nat) (e2 : Nat), vv = .slice e0 e1 e2 ∧ NN wx e0 e1 e2 (limbs (p.den * q.den)) (p.den * q.den) 128
          | 10 => ∃ (e0 : Option Addr) (e1 : Nat) (e2 : Nat) (e3 : Option Addr) (e4 : Nat) (e5 : Nat), vv = .tuple #[.agg #[.bool (sg (oTop r)), .slice e0 e1 e2, .slice e3 e4 e5], .int .i64 e] ∧ QT wx e0 e1 e2 e3 e4 e5 r
          | 11 => ∃ (e0 : Option Addr) (e1 : Nat) (e2 : Nat) (e3 : Option Addr) (e4 : Nat) (e5 : Nat), vv = .agg #[.bool (sg (oTop r)), .slice e0 e1 e2, .slice e3 e4 e5] ∧ QT wx e0 e1 e2 e3 e4 e5 r
          | _ => vv = .int .i64 e)
        (fun k => false) (by kernel_rfl) ?haF8 rfl (by kernel_rfl) (by kernel_rfl) (fun _ _ _ _ _ h => h) ?hSb8 ?hPb8 ?hS8 ?hop8 ?hfin8
      case haF8 =>
        intro vals
        simp only [fillAll, List.getElem?_cons_zero, List.getElem?_cons_succ, Act.put, List.setIfInBounds_toArray, List.set_cons_zero, List.set_cons_succ]
        exact rfl
      case hSb8 => exact fun wx w2 hb hS => below_two hS hb
      case hPb8 =>
        intro k v wa wb hb h
        match k, h with
        | 0, h => exact h
        | 1, h => exact h
        | 2, h => exact h
        | 3, h => exact h
        | 4, ⟨e0, e1, e2, h1, g0⟩ => exact ⟨e0, e1, e2, h1, g0.below hb⟩
        | 5, h => exact h
        | 6, h => exact h
        | 7, h => exact h
        | 8, h => exact h
        | 9, ⟨e0, e1, e2, h1, g0⟩ => exact ⟨e0, e1, e2, h1, g0.below hb⟩
        | 10, ⟨e0, e1, e2, e3, e4, e5, h1, g0⟩ => exact ⟨e0, e1, e2, e3, e4, e5, h1, g0.below hb⟩
        | 11, ⟨e0, e1, e2, e3, e4, e5, h1, g0⟩ => exact ⟨e0, e1, e2, e3, e4, e5, h1, g0.below hb⟩
        | _ + 12, h => exact h
      case hS8 => exact (Below.refl _ _).drew
      case hop8 =>
        refine .cons (k := 0) ?_ (.cons (k := 1) ?_ (.cons (k := 2) ?_ (.cons (k := 3) ?_ (.cons (k := 4) ?_ (.cons (k := 5) ?_ (.cons (k := 6) ?_ (.cons (k := 7) ?_ (.cons (k := 8) ?_ (.cons (k := 9) ?_ (.cons (k := 10) ?_ (.cons (k := 11) ?_ (.cons (k := 12) ?_ (.nil)))))))))))))
        all_goals intro vals wr hS hd KC hK
        all_goals (show Oper.wp _ _ _ _ _ _; dsimp only)
        · go_simp
          refine hK _ _ rfl (Below.refl _ _) (by first | rfl | simp) (fun h => by cases h)
        · have d0 : vals 0 = _ := hd 0 (by decide +kernel)
          rw [d0]
          have z0 := (HR0.out.below hS).c0
          have z1 := (HR0.out.below hS).c1
          go_simp
          refine hK _ _ rfl (Below.refl _ _) (by first | rfl | simp) (fun h => by cases h)
        · go_simp
          refine hK _ _ rfl (Below.refl _ _) (by first | rfl | simp) (fun h => by cases h)
        · have d2 : vals 2 = _ := hd 2 (by decide +kernel)
          rw [d2]
          have z0 := (HR1.out.below hS).c0
          have z1 := (HR1.out.below hS).c1
          go_simp
          refine hK _ _ rfl (Below.refl _ _) (by first | rfl | simp) (fun h => by cases h)
        · have d1 : vals 1 = _ := hd 1 (by decide +kernel)
          have d3 : vals 3 = _ := hd 3 (by decide +kernel)
          rw [d1, d3]
          go_simp
          go_at_call 36
          with_reducible refine (wMul_c (HX.out.below hS) (HX1.out.below hS) 128 (by decide) (by decide) (by decide) (p.num * q.num) rfl).mono ?_
          rintro e w2 ⟨r0, r1, r2, rfl, f0, bn_r⟩
          refine hK _ _ rfl bn_r ⟨_, _, _, rfl, f0⟩ (fun h => by cases h)
        · go_simp
          refine hK _ _ rfl (Below.refl _ _) (by first | rfl | simp) (fun h => by cases h)
        · have d5 : vals 5 = _ := hd 5 (by decide +kernel)
          rw [d5]
          have z0 := (HR0.out.below hS).c2
          go_simp
          refine hK _ _ rfl (Below.refl _ _) (by first | rfl | simp) (fun h => by cases h)
        · go_simp
          refine hK _ _ rfl (Below.refl _ _) (by first | rfl | simp) (fun h => by cases h)
        · have d7 : vals 7 = _ := hd 7 (by decide +kernel)
          rw [d7]
          have z0 := (HR1.out.below hS).c2
          go_simp
          refine hK _ _ rfl (Below.refl _ _) (by first | rfl | simp) (fun h => by cases h)
        · have d6 : vals 6 = _ := hd 6 (by decide +kernel)
          have d8 : vals 8 = _ := hd 8 (by decide +kernel)
          rw [d6, d8]
          go_simp
          go_at_call 34
          with_reducible refine (mulOf_c (HY.out.below hS) (HY1.out.below hS) 128 (by decide) (by decide) (by decide)).mono ?_
          rintro e w2 ⟨r0, r1, r2, rfl, f0, bn_r⟩
          refine hK _ _ rfl bn_r ⟨_, _, _, rfl, f0⟩ (fun h => by cases h)
        · obtain ⟨A_4_0, n_4_1, n_4_2, d4, h_4_0⟩ := hd 4 (by decide +kernel)
          obtain ⟨A_9_0, n_9_1, n_9_2, d9, h_9_0⟩ := hd 9 (by decide +kernel)
          rw [d4, d9]
          go_simp
          go_at_call 28
          with_reducible refine (rOf_c h_4_0 h_9_0 (by decide) (by decide) r e HO.out).mono ?_
          rintro e w2 ⟨r0, r1, r2, r3, r4, r5, rfl, f0, bn_r⟩
          refine hK _ _ rfl bn_r ⟨_, _, _, _, _, _, rfl, f0⟩ (fun h => by cases h)
        · obtain ⟨A_10_0, n_10_1, n_10_2, A_10_3, n_10_4, n_10_5, d10, h_10_0⟩ := hd 10 (by decide +kernel)
          rw [d10]
          go_simp
          refine hK _ _ rfl (Below.refl _ _) ⟨_, _, _, _, _, _, rfl, h_10_0⟩ (fun h => by cases h)
        · obtain ⟨A_10_0, n_10_1, n_10_2, A_10_3, n_10_4, n_10_5, d10, h_10_0⟩ := hd 10 (by decide +kernel)
          rw [d10]
          go_simp
          refine hK _ _ rfl (Below.refl _ _) rfl (fun h => by cases h)
      case hfin8 =>
        intro vals wr hS hP hne
        obtain ⟨A_11_0, n_11_1, n_11_2, A_11_3, n_11_4, n_11_5, ez_11, h_11_0⟩ := hP 11 (by decide)
        have ez_12 : vals 12 = _ := hP 12 (by decide)
        have hZ3 := HZ.out.below hS
        have hNo := hZ3.noLimb (by intro v e; cases e) (by intro v e; cases e) (by intro v e; cases e)
        have e0 := hZ3.c0
        have e1 := hZ3.c1
        have e2 := hZ3.c2
        have f0 := hZ3.free 0
        have f1 := hZ3.free 1
        have f2 := hZ3.free 2
        have HF := Lib.hid (hZ3.fill (.bool (sg (oTop r))) (.slice A_11_0 n_11_1 n_11_2) (.slice A_11_3 n_11_4 n_11_5))
        have HP := Lib.hid (QQ.fillR3 h_11_0 hNo (.bool (sg (oTop r))) (.slice A_11_0 n_11_1 n_11_2) (.slice A_11_3 n_11_4 n_11_5))
        have HB := Lib.hid (below_fill3' (below_two HW.out hS) Hq.out (.bool (sg (oTop r))) (.slice A_11_0 n_11_1 n_11_2) (.slice A_11_3 n_11_4 n_11_5))
        try dsimp only
        rw [ez_11, ez_12]
        refine wpAny_ready (rs := [13]) (by kernel_rfl) (by simp) (AllReady.cons rfl (fun KC hK => ?_) AllReady.nil)
        go_simp
        refine hK _ _ ?_
        clear hK KC
        refine wpAny_ready (rs := [14]) (by kernel_rfl) (by simp) (AllReady.cons rfl (fun KC hK => ?_) AllReady.nil)
        go_simp
        refine hK _ _ ?_
        clear hK KC
        refine wpAny_done (by kernel_rfl) ?_ _
        go_wp2
        refine bodyPost_ret (results_mixed rfl _ _ _ 27 #[.bool (sg (oTop r)), .slice A_11_0 n_11_1 n_11_2, .slice A_11_3 n_11_4 n_11_5] (0, 0) _ (.int .i64 e) rfl rfl HF.out Tryz.underlying27 rfl rat_size) rfl ?_
        exact ⟨A_11_0, n_11_1, n_11_2, A_11_3, n_11_4, n_11_5, rfl, HP.out, HB.out⟩

end
end Go.Proofs.YtohciicocaoagaaGreat

/- What package rat's Div answers, as a contract over memory. Conditions: sizes of at most so many limbs. -/
namespace Go.Proofs.YtohciicocaoagaaGreat
open Go.RowKit Limb
set_option linter.unusedVariables false
section
variable {w : World} {s s' : Bool} {A B A' B' : Option Addr} {n c m d n' c' m' d' : Nat} {xs ys xs' ys' : List Nat} {x y : Int} {o o' : Option Rat} {a b L L' : Nat}
set_option maxHeartbeats 4000000 in
set_option maxRecDepth 100000 in
theorem rDiv_c (hx : QQ w s A n c xs B m d ys o L) (hx' : QQ w s' A' n' c' xs' B' m' d' ys' o' L') (h1 : L ≤ 1000) (h2 : L' ≤ 1000) (r : Option Rat) (e : Int) (hR : divR o o' = (r, e)) :
    Calls Tryz.prog 10 #[.agg #[.bool s, .slice A n c, .slice B m d], .agg #[.bool s', .slice A' n' c', .slice B' m' d']] w fun ee w' => ∃ A2 n2 c2 B2 m2 d2, ee = .returned (.tuple #[.agg #[.bool (sg (oTop r)), .slice A2 n2 c2, .slice B2 m2 d2], .int .i64 e]) ∧ QT w' A2 n2 c2 B2 m2 d2 r ∧ Below w.heap.size w w' := by
  cases o with
  | none =>
    have hR2 : ((none : Option Rat), (1 : Int)) = (r, e) := hR
    cases hR2
    clear hR
    have b0 := below_new w (.cells #[Value.bool s, Value.slice A n c, Value.slice B m d] 27)
    have b1 := below_new (w.alloc (.cells #[Value.bool s, Value.slice A n c, Value.slice B m d] 27)) (.cells #[Value.bool s', Value.slice A' n' c', Value.slice B' m' d'] 27)
    have b2 := below_new ((w.alloc (.cells #[Value.bool s, Value.slice A n c, Value.slice B m d] 27)).alloc (.cells #[Value.bool s', Value.slice A' n' c', Value.slice B' m' d'] 27)) (.cells #[Value.bool false, Value.slice none 0 0, Value.slice none 0 0] 27)
    have HW := Lib.hid (below_two (below_two b0 b1) b2)
    have HQ0 := Lib.hid (hx.below HW.out)
    have HQ1 := Lib.hid (hx'.below HW.out)
    have r0 := ((row3_new w 27 (.bool s) (.slice A n c) (.slice B m d)).below b1).below b2
    have r1 := (row3_new (w.alloc (.cells #[Value.bool s, Value.slice A n c, Value.slice B m d] 27)) 27 (.bool s') (.slice A' n' c') (.slice B' m' d')).below b2
    have rz := row3_new ((w.alloc (.cells #[Value.bool s, Value.slice A n c, Value.slice B m d] 27)).alloc (.cells #[Value.bool s', Value.slice A' n' c', Value.slice B' m' d'] 27)) 27 (.bool false) (.slice none 0 0) (.slice none 0 0)
    simp only [World.size_alloc] at r1 rz
    clear b0 b1 b2 hx hx'
    go_enter Tryz.func10, Tryz.ntmps10
    go_wp2_with fail
    generalize ((w.alloc (.cells #[Value.bool s, Value.slice A n c, Value.slice B m d] 27)).alloc (.cells #[Value.bool s', Value.slice A' n' c', Value.slice B' m' d'] 27)).alloc (.cells #[Value.bool false, Value.slice none 0 0, Value.slice none 0 0] 27) = w1 at *
    have HR0 := Lib.hid r0
    have HR1 := Lib.hid r1
    have HZ := Lib.hid rz
    have Hq : RowKit.Hid (w.heap.size ≤ w.heap.size + 1 + 1) := by show _ ≤ _; omega
    clear r0 r1 rz
    refine (rGood_c HQ0.out (by omega) false rfl).mono ?_
    rintro e w2 ⟨rfl, bn⟩
    replace HQ0 := Lib.hid (HQ0.out.below bn)
    replace HR0 := Lib.hid (HR0.out.below bn)
    replace HQ1 := Lib.hid (HQ1.out.below bn)
    replace HR1 := Lib.hid (HR1.out.below bn)
    replace HZ := Lib.hid (HZ.out.below bn)
    replace HW := Lib.hid (below_two HW.out bn)
    clear bn
    have e0 := HZ.out.c0
    have e1 := HZ.out.c1
    have e2 := HZ.out.c2
    have f0 := HZ.out.free 0
    have f1 := HZ.out.free 1
    have f2 := HZ.out.free 2
    have HF := Lib.hid (HZ.out.fill (.bool false) (.slice none 0 0) (.slice none 0 0))
    have HB := Lib.hid (below_fill3' HW.out Hq.out (.bool false) (.slice none 0 0) (.slice none 0 0))
    go_wp2
    refine bodyPost_ret (results_mixed rfl _ _ _ 27 #[.bool false, .slice none 0 0, .slice none 0 0] (0, 0) _ (.int .i64 1) rfl rfl HF.out Tryz.underlying27 rfl rat_size) rfl ?_
    exact ⟨none, 0, 0, none, 0, 0, rfl, qt_none _ 0 0, HB.out⟩
  | some p =>
    cases o' with
    | none =>
      have hR2 : ((none : Option Rat), (1 : Int)) = (r, e) := hR
      cases hR2
      clear hR
      have b0 := below_new w (.cells #[Value.bool s, Value.slice A n c, Value.slice B m d] 27)
      have b1 := below_new (w.alloc (.cells #[Value.bool s, Value.slice A n c, Value.slice B m d] 27)) (.cells #[Value.bool s', Value.slice A' n' c', Value.slice B' m' d'] 27)
      have b2 := below_new ((w.alloc (.cells #[Value.bool s, Value.slice A n c, Value.slice B m d] 27)).alloc (.cells #[Value.bool s', Value.slice A' n' c', Value.slice B' m' d'] 27)) (.cells #[Value.bool false, Value.slice none 0 0, Value.slice none 0 0] 27)
      have HW := Lib.hid (below_two (below_two b0 b1) b2)
      have HQ0 := Lib.hid (hx.below HW.out)
      have HQ1 := Lib.hid (hx'.below HW.out)
      have r0 := ((row3_new w 27 (.bool s) (.slice A n c) (.slice B m d)).below b1).below b2
      have r1 := (row3_new (w.alloc (.cells #[Value.bool s, Value.slice A n c, Value.slice B m d] 27)) 27 (.bool s') (.slice A' n' c') (.slice B' m' d')).below b2
      have rz := row3_new ((w.alloc (.cells #[Value.bool s, Value.slice A n c, Value.slice B m d] 27)).alloc (.cells #[Value.bool s', Value.slice A' n' c', Value.slice B' m' d'] 27)) 27 (.bool false) (.slice none 0 0) (.slice none 0 0)
      simp only [World.size_alloc] at r1 rz
      clear b0 b1 b2 hx hx'
      go_enter Tryz.func10, Tryz.ntmps10
      go_wp2_with fail
      generalize ((w.alloc (.cells #[Value.bool s, Value.slice A n c, Value.slice B m d] 27)).alloc (.cells #[Value.bool s', Value.slice A' n' c', Value.slice B' m' d'] 27)).alloc (.cells #[Value.bool false, Value.slice none 0 0, Value.slice none 0 0] 27) = w1 at *
      have HR0 := Lib.hid r0
      have HR1 := Lib.hid r1
      have HZ := Lib.hid rz
      have Hq : RowKit.Hid (w.heap.size ≤ w.heap.size + 1 + 1) := by show _ ≤ _; omega
      clear r0 r1 rz
      refine (rGood_c HQ0.out (by omega) true rfl).mono ?_
      rintro e w2 ⟨rfl, bn⟩
      replace HQ0 := Lib.hid (HQ0.out.below bn)
      replace HR0 := Lib.hid (HR0.out.below bn)
      replace HQ1 := Lib.hid (HQ1.out.below bn)
      replace HR1 := Lib.hid (HR1.out.below bn)
      replace HZ := Lib.hid (HZ.out.below bn)
      replace HW := Lib.hid (below_two HW.out bn)
      clear bn
      have c10 := HR1.out.c0
      have c11 := HR1.out.c1
      have c12 := HR1.out.c2
      go_wp2_with fail
      clear c10 c11 c12
      refine (rGood_c HQ1.out (by omega) false rfl).mono ?_
      rintro e w2 ⟨rfl, bn⟩
      replace HQ0 := Lib.hid (HQ0.out.below bn)
      replace HR0 := Lib.hid (HR0.out.below bn)
      replace HQ1 := Lib.hid (HQ1.out.below bn)
      replace HR1 := Lib.hid (HR1.out.below bn)
      replace HZ := Lib.hid (HZ.out.below bn)
      replace HW := Lib.hid (below_two HW.out bn)
      clear bn
      have e0 := HZ.out.c0
      have e1 := HZ.out.c1
      have e2 := HZ.out.c2
      have f0 := HZ.out.free 0
      have f1 := HZ.out.free 1
      have f2 := HZ.out.free 2
      have HF := Lib.hid (HZ.out.fill (.bool false) (.slice none 0 0) (.slice none 0 0))
      have HB := Lib.hid (below_fill3' HW.out Hq.out (.bool false) (.slice none 0 0) (.slice none 0 0))
      go_wp2
      refine bodyPost_ret (results_mixed rfl _ _ _ 27 #[.bool false, .slice none 0 0, .slice none 0 0] (0, 0) _ (.int .i64 1) rfl rfl HF.out Tryz.underlying27 rfl rat_size) rfl ?_
      exact ⟨none, 0, 0, none, 0, 0, rfl, qt_none _ 0 0, HB.out⟩
    | some q =>
      have HO : RowKit.Hid (ofR (zOf (sg (p.num * (q.den : Int)) != sg (q.num * (p.den : Int))) (p.num * (q.den : Int)).natAbs) (q.num * (p.den : Int)).natAbs = (r, e)) := ofR_cross.trans hR
      clear hR
      have b0 := below_new w (.cells #[Value.bool s, Value.slice A n c, Value.slice B m d] 27)
      have b1 := below_new (w.alloc (.cells #[Value.bool s, Value.slice A n c, Value.slice B m d] 27)) (.cells #[Value.bool s', Value.slice A' n' c', Value.slice B' m' d'] 27)
      have b2 := below_new ((w.alloc (.cells #[Value.bool s, Value.slice A n c, Value.slice B m d] 27)).alloc (.cells #[Value.bool s', Value.slice A' n' c', Value.slice B' m' d'] 27)) (.cells #[Value.bool false, Value.slice none 0 0, Value.slice none 0 0] 27)
      have HW := Lib.hid (below_two (below_two b0 b1) b2)
      have HQ0 := Lib.hid (hx.below HW.out)
      have HQ1 := Lib.hid (hx'.below HW.out)
      have r0 := ((row3_new w 27 (.bool s) (.slice A n c) (.slice B m d)).below b1).below b2
      have r1 := (row3_new (w.alloc (.cells #[Value.bool s, Value.slice A n c, Value.slice B m d] 27)) 27 (.bool s') (.slice A' n' c') (.slice B' m' d')).below b2
      have rz := row3_new ((w.alloc (.cells #[Value.bool s, Value.slice A n c, Value.slice B m d] 27)).alloc (.cells #[Value.bool s', Value.slice A' n' c', Value.slice B' m' d'] 27)) 27 (.bool false) (.slice none 0 0) (.slice none 0 0)
      simp only [World.size_alloc] at r1 rz
      clear b0 b1 b2 hx hx'
      go_enter Tryz.func10, Tryz.ntmps10
      go_wp2_with fail
      generalize ((w.alloc (.cells #[Value.bool s, Value.slice A n c, Value.slice B m d] 27)).alloc (.cells #[Value.bool s', Value.slice A' n' c', Value.slice B' m' d'] 27)).alloc (.cells #[Value.bool false, Value.slice none 0 0, Value.slice none 0 0] 27) = w1 at *
      have HR0 := Lib.hid r0
      have HR1 := Lib.hid r1
      have HZ := Lib.hid rz
      have Hq : RowKit.Hid (w.heap.size ≤ w.heap.size + 1 + 1) := by show _ ≤ _; omega
      clear r0 r1 rz
      refine (rGood_c HQ0.out (by omega) true rfl).mono ?_
      rintro e w2 ⟨rfl, bn⟩
      replace HQ0 := Lib.hid (HQ0.out.below bn)
      replace HR0 := Lib.hid (HR0.out.below bn)
      replace HQ1 := Lib.hid (HQ1.out.below bn)
      replace HR1 := Lib.hid (HR1.out.below bn)
      replace HZ := Lib.hid (HZ.out.below bn)
      replace HW := Lib.hid (below_two HW.out bn)
      clear bn
      have c10 := HR1.out.c0
      have c11 := HR1.out.c1
      have c12 := HR1.out.c2
      go_wp2_with fail
      clear c10 c11 c12
      refine (rGood_c HQ1.out (by omega) true rfl).mono ?_
      rintro e wS ⟨rfl, bn⟩
      replace HQ0 := Lib.hid (HQ0.out.below bn)
      replace HR0 := Lib.hid (HR0.out.below bn)
      replace HQ1 := Lib.hid (HQ1.out.below bn)
      replace HR1 := Lib.hid (HR1.out.below bn)
      replace HZ := Lib.hid (HZ.out.below bn)
      replace HW := Lib.hid (below_two HW.out bn)
      clear bn
      have HX := Lib.hid HQ0.out.some.2.2.2.2.1
      have HY := Lib.hid HQ0.out.some.2.2.2.2.2.1
      have HX1 := Lib.hid HQ1.out.some.2.2.2.2.1
      have HY1 := Lib.hid HQ1.out.some.2.2.2.2.2.1
      go_wp2_with fail
      refine region_free 8 2 [17, 18, 19, 20, 21, 22, 6, 7] ?aF9 (fun wx => Below wS.heap.size wS wx) (fun k vv wx => match k with
          | 0 => vv = .agg #[.bool s, .slice A n c, .slice B m d]
          | 1 => vv = .agg #[.bool s', .slice A' n' c', .slice B' m' d']
          | 2 => ∃ (e0 : Option Addr) (e1 : Nat) (e2 : Nat), vv = .agg #[.bool (sg (p.num * (q.den : Int))), .slice e0 e1 e2] ∧ ZZ wx (sg (p.num * (q.den : Int))) e0 e1 e2 (limbs (p.num * (q.den : Int)).natAbs) (p.num * (q.den : Int)) 128
          | 3 => vv = .agg #[.bool s', .slice A' n' c', .slice B' m' d']
          | 4 => vv = .agg #[.bool s, .slice A n c, .slice B m d]
          | 5 => ∃ (e0 : Option Addr) (e1 : Nat) (e2 : Nat), vv = .agg #[.bool (sg (q.num * (p.den : Int))), .slice e0 e1 e2] ∧ ZZ wx (sg (q.num * (p.den : Int))) e0 e1 e2 (limbs (q.num * (p.den : Int)).natAbs) (q.num * (p.den : Int)) 128
          | 6 => ∃ (e0 : Nat), vv = .pointer (some ⟨e0, 0, none⟩) ∧ ZB wx e0 ∧ Over wS e0 wx
          | _ => ∃ (e0 : Nat), vv = .pointer (some ⟨e0, 0, none⟩) ∧ ZB wx e0 ∧ Over wS e0 wx)
        (fun k => k == 6 || k == 7) (by kernel_rfl) ?haF9 rfl (by kernel_rfl) (by kernel_rfl) (fun _ _ _ _ _ h => h) ?hSb9 ?hPb9 ?hS9 ?hop9 ?hfin9
      case haF9 =>
        intro vals
        simp only [fillAll, List.getElem?_cons_zero, List.getElem?_cons_succ, Act.put, List.setIfInBounds_toArray, List.set_cons_zero, List.set_cons_succ]
        exact rfl
      case hSb9 => exact fun wx w2 hb hS => below_two hS hb
      case hPb9 =>
        intro k v wa wb hb h
        match k, h with
        | 0, h => exact h
        | 1, h => exact h
        | 2, ⟨e0, e1, e2, h1, g0⟩ => exact ⟨e0, e1, e2, h1, g0.below hb⟩
        | 3, h => exact h
        | 4, h => exact h
        | 5, ⟨e0, e1, e2, h1, g0⟩ => exact ⟨e0, e1, e2, h1, g0.below hb⟩
        | 6, ⟨e0, h1, g0, g1⟩ => exact ⟨e0, h1, g0.below hb, g1.below hb⟩
        | _ + 7, ⟨e0, h1, g0, g1⟩ => exact ⟨e0, h1, g0.below hb, g1.below hb⟩
      case hS9 => exact (Below.refl _ _).drew
      case hop9 =>
        refine .cons (k := 0) ?_ (.cons (k := 1) ?_ (.cons (k := 2) ?_ (.cons (k := 3) ?_ (.cons (k := 4) ?_ (.cons (k := 5) ?_ (.cons (k := 6) ?_ (.cons (k := 7) ?_ (.nil))))))))
        all_goals intro vals wr hS hd KC hK
        all_goals (show Oper.wp _ _ _ _ _ _; dsimp only)
        · have z0 := (HR0.out.below hS).c0
          have z1 := (HR0.out.below hS).c1
          have z2 := (HR0.out.below hS).c2
          go_simp
          refine hK _ _ rfl (Below.refl _ _) (by first | rfl | simp) (fun h => by cases h)
        · have z0 := (HR1.out.below hS).c0
          have z1 := (HR1.out.below hS).c1
          have z2 := (HR1.out.below hS).c2
          go_simp
          refine hK _ _ rfl (Below.refl _ _) (by first | rfl | simp) (fun h => by cases h)
        · have d0 : vals 0 = _ := hd 0 (by decide +kernel)
          have d1 : vals 1 = _ := hd 1 (by decide +kernel)
          rw [d0, d1]
          go_simp
          go_at_call 33
          with_reducible refine (rCross_c (HX.out.below hS) (HY1.out.below hS) (by decide) (by decide) (p.num * (q.den : Int)) rfl).mono ?_
          rintro e w2 ⟨r0, r1, r2, rfl, f0, bn_r⟩
          refine hK _ _ rfl bn_r ⟨_, _, _, rfl, f0⟩ (fun h => by cases h)
        · have z0 := (HR1.out.below hS).c0
          have z1 := (HR1.out.below hS).c1
          have z2 := (HR1.out.below hS).c2
          go_simp
          refine hK _ _ rfl (Below.refl _ _) (by first | rfl | simp) (fun h => by cases h)
        · have z0 := (HR0.out.below hS).c0
          have z1 := (HR0.out.below hS).c1
          have z2 := (HR0.out.below hS).c2
          go_simp
          refine hK _ _ rfl (Below.refl _ _) (by first | rfl | simp) (fun h => by cases h)
        · have d3 : vals 3 = _ := hd 3 (by decide +kernel)
          have d4 : vals 4 = _ := hd 4 (by decide +kernel)
          rw [d3, d4]
          go_simp
          go_at_call 33
          with_reducible refine (rCross_c (HX1.out.below hS) (HY.out.below hS) (by decide) (by decide) (q.num * (p.den : Int)) rfl).mono ?_
          rintro e w2 ⟨r0, r1, r2, rfl, f0, bn_r⟩
          refine hK _ _ rfl bn_r ⟨_, _, _, rfl, f0⟩ (fun h => by cases h)
        · go_simp
          refine hK _ _ rfl (below_new _ _) ⟨_, rfl, row2_new wr 25 _ _, hS.size⟩ (fun _ => ⟨_, rfl, Nat.le_refl _, by rw [World.size_alloc]; omega⟩)
        · go_simp
          refine hK _ _ rfl (below_new _ _) ⟨_, rfl, row2_new wr 25 _ _, hS.size⟩ (fun _ => ⟨_, rfl, Nat.le_refl _, by rw [World.size_alloc]; omega⟩)
      case hfin9 =>
        intro vals wr hS hP hne
        obtain ⟨A_2_0, n_2_1, n_2_2, ez_2, h_2_0⟩ := hP 2 (by decide)
        obtain ⟨A_5_0, n_5_1, n_5_2, ez_5, h_5_0⟩ := hP 5 (by decide)
        obtain ⟨n_6_0, ez_6, h_6_0, h_6_1⟩ := hP 6 (by decide)
        obtain ⟨n_7_0, ez_7, h_7_0, h_7_1⟩ := hP 7 (by decide)
        have ne_6_7 : n_6_0 ≠ n_7_0 := hne 6 7 (by decide) (by decide) (by decide) rfl rfl _ _ ez_6 ez_7
        have ne_7_6 : n_7_0 ≠ n_6_0 := hne 7 6 (by decide) (by decide) (by decide) rfl rfl _ _ ez_7 ez_6
        have HT := Lib.hid (two_pp h_2_0 h_5_0 hS h_6_0 h_7_0 ne_6_7 h_6_1 h_7_1)
        obtain ⟨c00, c01, f00, f01⟩ := h_6_0.cells
        obtain ⟨c10, c11, f10, f11⟩ := h_7_0.cells
        try dsimp only
        rw [ez_2, ez_5, ez_6, ez_7]
        refine wpAny_ready (rs := [8]) (by kernel_rfl) (by simp) (AllReady.cons rfl (fun KC hK => ?_) AllReady.nil)
        go_simp
        refine hK _ _ ?_
        clear hK KC
        refine wpAny_ready (rs := [9]) (by kernel_rfl) (by simp) (AllReady.cons rfl (fun KC hK => ?_) AllReady.nil)
        go_simp
        refine hK _ _ ?_
        clear hK KC
        refine wpAny_done (by kernel_rfl) ?_ _
        generalize (((wr.setCell ⟨n_6_0, 0, none⟩ (.bool (sg (p.num * (q.den : Int))))).setCell ⟨n_6_0, 1, none⟩ (.slice A_2_0 n_2_1 n_2_2)).setCell ⟨n_7_0, 0, none⟩ (.bool (sg (q.num * (p.den : Int))))).setCell ⟨n_7_0, 1, none⟩ (.slice A_5_0 n_5_1 n_5_2) = w9 at *
        clear c00 c01 f00 f01 c10 c11 f10 f11
        replace HZ := Lib.hid (HZ.out.below HT.out.b)
        replace HW := Lib.hid (below_two HW.out HT.out.b)
        have y0 := HT.out.q.c0
        have y1 := HT.out.q.c1
        have y2 := HT.out.r.c0
        have y3 := HT.out.r.c1
        go_wp2_with fail
        clear y0 y1 y2 y3
        refine (rOf_c (ZZ.of HT.out.z.nn) HT.out.z'.nn (by decide) (by decide) r e HO.out).mono ?_
        rintro ee w10 ⟨A9, n9, c9, B9, m9, d9, rfl, h9, bn⟩
        have hZ3 := HZ.out.below bn
        have hNo := hZ3.noLimb (by intro v e; cases e) (by intro v e; cases e) (by intro v e; cases e)
        have e0 := hZ3.c0
        have e1 := hZ3.c1
        have e2 := hZ3.c2
        have f0 := hZ3.free 0
        have f1 := hZ3.free 1
        have f2 := hZ3.free 2
        have HF := Lib.hid (hZ3.fill (.bool (sg (oTop r))) (.slice A9 n9 c9) (.slice B9 m9 d9))
        have HP := Lib.hid (QQ.fillR3 h9 hNo (.bool (sg (oTop r))) (.slice A9 n9 c9) (.slice B9 m9 d9))
        have HB := Lib.hid (below_fill3' (below_two HW.out bn) Hq.out (.bool (sg (oTop r))) (.slice A9 n9 c9) (.slice B9 m9 d9))
        clear hNo bn h9 hZ3
        go_wp2
        refine bodyPost_ret (results_mixed rfl _ _ _ 27 #[.bool (sg (oTop r)), .slice A9 n9 c9, .slice B9 m9 d9] (0, 0) _ (.int .i64 e) rfl rfl HF.out Tryz.underlying27 rfl rat_size) rfl ?_
        exact ⟨A9, n9, c9, B9, m9, d9, rfl, HP.out, HB.out⟩

end
end Go.Proofs.YtohciicocaoagaaGreat
