/- Part 4 of the texts that the statements of this seat lean on: mathematics, and what functions answer, as contracts over memory; each part says its own conditions. -/
import Derived.Test.YtgdchljbjnhchaaGreatDoorM3
import Derived.Deep.RegionHeld3
/- What package whole's Trim answers, as a contract over memory: whole numbers in the shortest limbs, 0 not below 0. Conditions: sizes of at most so many limbs; the table of powers of ten where texts are made or read. -/
namespace Go.Proofs.YtgdchljbjnhchaaGreatDoor
open Go.RowKit Limb
set_option linter.unusedVariables false
section
variable {w : World} {s s' : Bool} {A A' : Option Addr} {n c n' c' : Nat} {xs ys : List Nat} {x y : Int} {L L' : Nat}
set_option maxHeartbeats 4000000 in
set_option maxRecDepth 100000 in
theorem wTrim_c (hx : ZZ w s A n c xs x L) (h1 : L ≤ 100000) :
    Calls Tryz.prog 20 #[.agg #[.bool s, .slice A n c]] w fun e w' => ∃ A2 n2 c2, e = .returned (.agg #[.bool (sg x), .slice A2 n2 c2]) ∧ ZZ w' (sg x) A2 n2 c2 (limbs x.natAbs) x L ∧ Below w.heap.size w w' := by
  have HS := Lib.hid hx.zof
  have b0 := below_new w (.cells #[Value.bool s, Value.slice A n c] 25)
  have bz := below_new (w.alloc (.cells #[Value.bool s, Value.slice A n c] 25)) zbox
  have HW := Lib.hid (below_two b0 bz)
  have HN := Lib.hid (hx.nn.below HW.out)
  have r0 := (row2_new w 25 (.bool s) (.slice A n c)).below bz
  have rz : ZB ((w.alloc (.cells #[Value.bool s, Value.slice A n c] 25)).alloc zbox) (w.alloc (.cells #[Value.bool s, Value.slice A n c] 25)).heap.size := row2_new (w.alloc (.cells #[Value.bool s, Value.slice A n c] 25)) _ _ _
  simp only [World.size_alloc] at rz
  clear b0 bz hx
  go_enter Tryz.func20, Tryz.ntmps20
  go_wp2
  generalize (w.alloc (.cells #[Value.bool s, Value.slice A n c] 25)).alloc zbox = w1 at *
  have HR0 := Lib.hid r0
  have c00 := r0.c0
  have c01 := r0.c1
  have HZ := Lib.hid rz
  clear r0 rz
  clear c00 c01
  refine region_free 6 1 [3, 4, 5, 6, 7, 8] ?aF (fun wx => Below w1.heap.size w1 wx) (fun k v wx => match k with
      | 0 => v = .pointer (some ⟨w.heap.size, 0, none⟩)
      | 1 => v = .bool s
      | 2 => v = .pointer (some ⟨w.heap.size, 1, none⟩)
      | 3 => v = .slice A n c
      | 4 => ∃ A2 n2 c2, v = .slice A2 n2 c2 ∧ NN wx A2 n2 c2 (limbs x.natAbs) x.natAbs L
      | _ => ∃ A2 n2 c2, v = .agg #[.bool (sg x), .slice A2 n2 c2] ∧ ZZ wx (sg x) A2 n2 c2 (limbs x.natAbs) x L)
    (fun _ => false) (by kernel_rfl) ?haF rfl (by kernel_rfl) (by kernel_rfl) (fun _ _ _ _ _ h => h) ?hSb ?hPb ?hS ?hop ?hfin
  case haF =>
    intro vals
    simp only [fillAll, List.getElem?_cons_zero, List.getElem?_cons_succ, Act.put, List.setIfInBounds_toArray, List.set_cons_zero, List.set_cons_succ]
    exact rfl
  case hSb => exact fun wx w2 hb hS => below_two hS hb
  case hPb =>
    intro k v wa wb hb h
    match k, h with
    | 0, h => exact h
    | 1, h => exact h
    | 2, h => exact h
    | 3, h => exact h
    | 4, ⟨A2, n2, c2, h1, h2⟩ => exact ⟨A2, n2, c2, h1, h2.below hb⟩
    | _ + 5, ⟨A2, n2, c2, h1, h2⟩ => exact ⟨A2, n2, c2, h1, h2.below hb⟩
  case hS => exact (Below.refl _ _).drew
  case hop =>
    refine .cons (k := 0) ?_ (.cons (k := 1) ?_ (.cons (k := 2) ?_ (.cons (k := 3) ?_ (.cons (k := 4) ?_ (.cons (k := 5) ?_ (.nil))))))
    all_goals intro vals wr hS hd KC hK
    all_goals (show Oper.wp _ _ _ _ _ _; dsimp only)
    · go_simp
      refine hK _ _ rfl (Below.refl _ _) rfl (fun h => by cases h)
    · have d0 : vals 0 = _ := hd 0 (by decide +kernel)
      rw [d0]
      have c0 := (HR0.out.below hS).c0
      go_simp
      refine hK _ _ rfl (Below.refl _ _) rfl (fun h => by cases h)
    · go_simp
      refine hK _ _ rfl (Below.refl _ _) rfl (fun h => by cases h)
    · have d2 : vals 2 = _ := hd 2 (by decide +kernel)
      rw [d2]
      have c0 := (HR0.out.below hS).c1
      go_simp
      refine hK _ _ rfl (Below.refl _ _) rfl (fun h => by cases h)
    · have d3 : vals 3 = _ := hd 3 (by decide +kernel)
      rw [d3]
      go_simp
      go_at_call 39
      with_reducible refine (trim_c (HN.out.below hS) (by omega)).mono ?_
      rintro e w2 ⟨A_r, n_r, c_r, rfl, h_r, bn_r⟩
      refine hK _ _ rfl bn_r ⟨_, _, _, rfl, h_r⟩ (fun h => by cases h)
    · have d1 : vals 1 = _ := hd 1 (by decide +kernel)
      obtain ⟨A_m, n_m, c_m, d4, h_m⟩ := hd 4 (by decide +kernel)
      rw [d1, d4]
      go_simp
      go_at_call 28
      with_reducible refine (signed_c h_m _ x (by first | exact HS.out | simpa using HS.out)).mono ?_
      rintro e w2 ⟨rfl, h_r, bn_r⟩
      refine hK _ _ rfl bn_r ⟨_, _, _, rfl, h_r⟩ (fun h => by cases h)
  case hfin =>
    intro vals wr hS hP hne
    obtain ⟨A2, n2, c2, ez, h3⟩ := hP 5 (by decide)
    have hZ3 := HZ.out.below hS
    obtain ⟨e0, e1, f0, f1⟩ := hZ3.cells
    try dsimp only
    rw [ez]
    have HF := Lib.hid (hZ3.fill (.bool (sg x)) (.slice A2 n2 c2))
    have HP := Lib.hid (h3.put hZ3 (.bool (sg x)) (.slice A2 n2 c2))
    have HB := Lib.hid (below_fill (g := w.heap.size + 1) (below_two HW.out hS) (by omega) (.bool (sg x)) (.slice A2 n2 c2))
    refine wpAny_ready (rs := [6]) (by kernel_rfl) (by simp) (AllReady.cons rfl (fun KC hK => ?_) AllReady.nil)
    go_simp
    refine hK _ _ ?_
    clear hK KC
    refine wpAny_done (by kernel_rfl) ?_ _
    go_wp2
    refine bodyPost_ret (results_cell_row rfl _ _ (w.heap.size + 1) 25 #[.bool (sg x), .slice A2 n2 c2] (0, 0) _ rfl HF.out Tryz.underlying25 rfl int_size) rfl ?_
    exact ⟨A2, n2, c2, rfl, HP.out, HB.out⟩
end

end Go.Proofs.YtgdchljbjnhchaaGreatDoor

/- What package whole's Neg answers, as a contract over memory: whole numbers in the shortest limbs, 0 not below 0. Conditions: sizes of at most so many limbs; the table of powers of ten where texts are made or read. -/
namespace Go.Proofs.YtgdchljbjnhchaaGreatDoor
open Go.RowKit Limb
set_option linter.unusedVariables false
section
variable {w : World} {s s' : Bool} {A A' : Option Addr} {n c n' c' : Nat} {xs ys : List Nat} {x y : Int} {L L' : Nat}
set_option maxHeartbeats 4000000 in
set_option maxRecDepth 100000 in
theorem wNeg_c (hx : ZZ w s A n c xs x L) (h1 : L ≤ 100000) (z : Int) (hz : -x = z) :
    Calls Tryz.prog 14 #[.agg #[.bool s, .slice A n c]] w fun e w' => ∃ A2 n2 c2, e = .returned (.agg #[.bool (sg z), .slice A2 n2 c2]) ∧ ZZ w' (sg z) A2 n2 c2 (limbs z.natAbs) z L ∧ Below w.heap.size w w' := by
  have HS : RowKit.Hid (zOf (!s) x.natAbs = z) := (zOf_not hx.zof).trans hz
  clear hz
  have b0 := below_new w (.cells #[Value.bool s, Value.slice A n c] 25)
  have bz := below_new (w.alloc (.cells #[Value.bool s, Value.slice A n c] 25)) zbox
  have HW := Lib.hid (below_two b0 bz)
  have HN := Lib.hid (hx.nn.below HW.out)
  have r0 := (row2_new w 25 (.bool s) (.slice A n c)).below bz
  have rz : ZB ((w.alloc (.cells #[Value.bool s, Value.slice A n c] 25)).alloc zbox) (w.alloc (.cells #[Value.bool s, Value.slice A n c] 25)).heap.size := row2_new (w.alloc (.cells #[Value.bool s, Value.slice A n c] 25)) _ _ _
  simp only [World.size_alloc] at rz
  clear b0 bz hx
  go_enter Tryz.func14, Tryz.ntmps14
  go_wp2
  generalize (w.alloc (.cells #[Value.bool s, Value.slice A n c] 25)).alloc zbox = w1 at *
  have HR0 := Lib.hid r0
  have c00 := r0.c0
  have c01 := r0.c1
  have HZ := Lib.hid rz
  clear r0 rz
  clear c00 c01
  refine region_free 7 1 [3, 4, 5, 6, 7, 8, 9] ?aF (fun wx => Below w1.heap.size w1 wx) (fun k v wx => match k with
      | 0 => v = .pointer (some ⟨w.heap.size, 0, none⟩)
      | 1 => v = .bool s
      | 2 => v = .bool (!s)
      | 3 => v = .pointer (some ⟨w.heap.size, 1, none⟩)
      | 4 => v = .slice A n c
      | 5 => ∃ A2 n2 c2, v = .slice A2 n2 c2 ∧ NN wx A2 n2 c2 (limbs x.natAbs) x.natAbs L
      | _ => ∃ A2 n2 c2, v = .agg #[.bool (sg z), .slice A2 n2 c2] ∧ ZZ wx (sg z) A2 n2 c2 (limbs z.natAbs) z L)
    (fun _ => false) (by kernel_rfl) ?haF rfl (by kernel_rfl) (by kernel_rfl) (fun _ _ _ _ _ h => h) ?hSb ?hPb ?hS ?hop ?hfin
  case haF =>
    intro vals
    simp only [fillAll, List.getElem?_cons_zero, List.getElem?_cons_succ, Act.put, List.setIfInBounds_toArray, List.set_cons_zero, List.set_cons_succ]
    exact rfl
  case hSb => exact fun wx w2 hb hS => below_two hS hb
  case hPb =>
    intro k v wa wb hb h
    match k, h with
    | 0, h => exact h
    | 1, h => exact h
    | 2, h => exact h
    | 3, h => exact h
    | 4, h => exact h
    | 5, ⟨A2, n2, c2, h1, h2⟩ => exact ⟨A2, n2, c2, h1, h2.below hb⟩
    | _ + 6, ⟨A2, n2, c2, h1, h2⟩ => exact ⟨A2, n2, c2, h1, h2.below hb⟩
  case hS => exact (Below.refl _ _).drew
  case hop =>
    refine .cons (k := 0) ?_ (.cons (k := 1) ?_ (.cons (k := 2) ?_ (.cons (k := 3) ?_ (.cons (k := 4) ?_ (.cons (k := 5) ?_ (.cons (k := 6) ?_ (.nil)))))))
    all_goals intro vals wr hS hd KC hK
    all_goals (show Oper.wp _ _ _ _ _ _; dsimp only)
    · go_simp
      refine hK _ _ rfl (Below.refl _ _) rfl (fun h => by cases h)
    · have d0 : vals 0 = _ := hd 0 (by decide +kernel)
      rw [d0]
      have c0 := (HR0.out.below hS).c0
      go_simp
      refine hK _ _ rfl (Below.refl _ _) rfl (fun h => by cases h)
    · have d1 : vals 1 = _ := hd 1 (by decide +kernel)
      rw [d1]
      go_simp
      refine hK _ _ rfl (Below.refl _ _) (by first | rfl | (simp)) (fun h => by cases h)
    · go_simp
      refine hK _ _ rfl (Below.refl _ _) rfl (fun h => by cases h)
    · have d3 : vals 3 = _ := hd 3 (by decide +kernel)
      rw [d3]
      have c0 := (HR0.out.below hS).c1
      go_simp
      refine hK _ _ rfl (Below.refl _ _) rfl (fun h => by cases h)
    · have d4 : vals 4 = _ := hd 4 (by decide +kernel)
      rw [d4]
      go_simp
      go_at_call 39
      with_reducible refine (trim_c (HN.out.below hS) (by omega)).mono ?_
      rintro e w2 ⟨A_r, n_r, c_r, rfl, h_r, bn_r⟩
      refine hK _ _ rfl bn_r ⟨_, _, _, rfl, h_r⟩ (fun h => by cases h)
    · have d2 : vals 2 = _ := hd 2 (by decide +kernel)
      obtain ⟨A_m, n_m, c_m, d5, h_m⟩ := hd 5 (by decide +kernel)
      rw [d2, d5]
      go_simp
      go_at_call 28
      with_reducible refine (signed_c h_m _ z (by first | exact HS.out | simpa using HS.out)).mono ?_
      rintro e w2 ⟨rfl, h_r, bn_r⟩
      refine hK _ _ rfl bn_r ⟨_, _, _, rfl, h_r⟩ (fun h => by cases h)
  case hfin =>
    intro vals wr hS hP hne
    obtain ⟨A2, n2, c2, ez, h3⟩ := hP 6 (by decide)
    have hZ3 := HZ.out.below hS
    obtain ⟨e0, e1, f0, f1⟩ := hZ3.cells
    try dsimp only
    rw [ez]
    have HF := Lib.hid (hZ3.fill (.bool (sg z)) (.slice A2 n2 c2))
    have HP := Lib.hid (h3.put hZ3 (.bool (sg z)) (.slice A2 n2 c2))
    have HB := Lib.hid (below_fill (g := w.heap.size + 1) (below_two HW.out hS) (by omega) (.bool (sg z)) (.slice A2 n2 c2))
    refine wpAny_ready (rs := [7]) (by kernel_rfl) (by simp) (AllReady.cons rfl (fun KC hK => ?_) AllReady.nil)
    go_simp
    refine hK _ _ ?_
    clear hK KC
    refine wpAny_done (by kernel_rfl) ?_ _
    go_wp2
    refine bodyPost_ret (results_cell_row rfl _ _ (w.heap.size + 1) 25 #[.bool (sg z), .slice A2 n2 c2] (0, 0) _ rfl HF.out Tryz.underlying25 rfl int_size) rfl ?_
    exact ⟨A2, n2, c2, rfl, HP.out, HB.out⟩
end

end Go.Proofs.YtgdchljbjnhchaaGreatDoor

/- What package whole's Mul answers, as a contract over memory: whole numbers in the shortest limbs, 0 not below 0. Conditions: sizes of at most so many limbs; the table of powers of ten where texts are made or read. -/
namespace Go.Proofs.YtgdchljbjnhchaaGreatDoor
open Go.RowKit Limb
set_option linter.unusedVariables false
section
variable {w : World} {s s' : Bool} {A A' : Option Addr} {n c n' c' : Nat} {xs ys : List Nat} {x y : Int} {L L' : Nat}
set_option maxHeartbeats 4000000 in
set_option maxRecDepth 100000 in
theorem wMul_c (hx : ZZ w s A n c xs x L) (hy : ZZ w s' A' n' c' ys y L') (K : Nat) (h1 : L ≤ 100000) (h2 : L' ≤ 100000) (h3 : L + L' ≤ K) (z : Int) (hz : x * y = z) :
    Calls Tryz.prog 12 #[.agg #[.bool s, .slice A n c], .agg #[.bool s', .slice A' n' c']] w fun e w' => ∃ A2 n2 c2, e = .returned (.agg #[.bool (sg z), .slice A2 n2 c2]) ∧ ZZ w' (sg z) A2 n2 c2 (limbs z.natAbs) z K ∧ Below w.heap.size w w' := by
  have HS : RowKit.Hid (zOf (s != s') (x.natAbs * y.natAbs) = z) := (zOf_mul hx.zof hy.zof).trans hz
  clear hz
  have b0 := below_new w (.cells #[Value.bool s, Value.slice A n c] 25)
  have b1 := below_new (w.alloc (.cells #[Value.bool s, Value.slice A n c] 25)) (.cells #[Value.bool s', Value.slice A' n' c'] 25)
  have bz := below_new ((w.alloc (.cells #[Value.bool s, Value.slice A n c] 25)).alloc (.cells #[Value.bool s', Value.slice A' n' c'] 25)) zbox
  have HW := Lib.hid (below_two (below_two b0 b1) bz)
  have HN := Lib.hid (hx.nn.below HW.out)
  have HM := Lib.hid (hy.nn.below HW.out)
  have r0 := ((row2_new w 25 (.bool s) (.slice A n c)).below b1).below bz
  have r1 := (row2_new (w.alloc (.cells #[Value.bool s, Value.slice A n c] 25)) 25 (.bool s') (.slice A' n' c')).below bz
  have rz : ZB (((w.alloc (.cells #[Value.bool s, Value.slice A n c] 25)).alloc (.cells #[Value.bool s', Value.slice A' n' c'] 25)).alloc zbox) ((w.alloc (.cells #[Value.bool s, Value.slice A n c] 25)).alloc (.cells #[Value.bool s', Value.slice A' n' c'] 25)).heap.size := row2_new ((w.alloc (.cells #[Value.bool s, Value.slice A n c] 25)).alloc (.cells #[Value.bool s', Value.slice A' n' c'] 25)) _ _ _
  simp only [World.size_alloc] at r1 rz
  clear b0 b1 bz hx hy
  go_enter Tryz.func12, Tryz.ntmps12
  go_wp2
  generalize ((w.alloc (.cells #[Value.bool s, Value.slice A n c] 25)).alloc (.cells #[Value.bool s', Value.slice A' n' c'] 25)).alloc zbox = w1 at *
  have HR0 := Lib.hid r0
  have c00 := r0.c0
  have c01 := r0.c1
  have HR1 := Lib.hid r1
  have c10 := r1.c0
  have c11 := r1.c1
  have HZ := Lib.hid rz
  clear r0 r1 rz
  clear c00 c01 c10 c11
  refine region_free 11 1 [5, 6, 7, 8, 9, 10, 11, 12, 13, 14, 15] ?aF (fun wx => Below w1.heap.size w1 wx) (fun k v wx => match k with
      | 0 => v = .pointer (some ⟨w.heap.size, 0, none⟩)
      | 1 => v = .bool s
      | 2 => v = .pointer (some ⟨w.heap.size + 1, 0, none⟩)
      | 3 => v = .bool s'
      | 4 => v = .bool (s != s')
      | 5 => v = .pointer (some ⟨w.heap.size, 1, none⟩)
      | 6 => v = .slice A n c
      | 7 => v = .pointer (some ⟨w.heap.size + 1, 1, none⟩)
      | 8 => v = .slice A' n' c'
      | 9 => ∃ A2 n2 c2, v = .slice A2 n2 c2 ∧ NN wx A2 n2 c2 (limbs (x.natAbs * y.natAbs)) (x.natAbs * y.natAbs) K
      | _ => ∃ A2 n2 c2, v = .agg #[.bool (sg z), .slice A2 n2 c2] ∧ ZZ wx (sg z) A2 n2 c2 (limbs z.natAbs) z K)
    (fun _ => false) (by kernel_rfl) ?haF rfl (by kernel_rfl) (by kernel_rfl) (fun _ _ _ _ _ h => h) ?hSb ?hPb ?hS ?hop ?hfin
  case haF =>
    intro vals
    simp only [fillAll, List.getElem?_cons_zero, List.getElem?_cons_succ, Act.put, List.setIfInBounds_toArray, List.set_cons_zero, List.set_cons_succ]
    exact rfl
  case hSb => exact fun wx w2 hb hS => below_two hS hb
  case hPb =>
    intro k v wa wb hb h
    match k, h with
    | 0, h => exact h
    | 1, h => exact h
    | 2, h => exact h
    | 3, h => exact h
    | 4, h => exact h
    | 5, h => exact h
    | 6, h => exact h
    | 7, h => exact h
    | 8, h => exact h
    | 9, ⟨A2, n2, c2, h1, h2⟩ => exact ⟨A2, n2, c2, h1, h2.below hb⟩
    | _ + 10, ⟨A2, n2, c2, h1, h2⟩ => exact ⟨A2, n2, c2, h1, h2.below hb⟩
  case hS => exact (Below.refl _ _).drew
  case hop =>
    refine .cons (k := 0) ?_ (.cons (k := 1) ?_ (.cons (k := 2) ?_ (.cons (k := 3) ?_ (.cons (k := 4) ?_ (.cons (k := 5) ?_ (.cons (k := 6) ?_ (.cons (k := 7) ?_ (.cons (k := 8) ?_ (.cons (k := 9) ?_ (.cons (k := 10) ?_ (.nil)))))))))))
    all_goals intro vals wr hS hd KC hK
    all_goals (show Oper.wp _ _ _ _ _ _; dsimp only)
    · go_simp
      refine hK _ _ rfl (Below.refl _ _) rfl (fun h => by cases h)
    · have d0 : vals 0 = _ := hd 0 (by decide +kernel)
      rw [d0]
      have c0 := (HR0.out.below hS).c0
      go_simp
      refine hK _ _ rfl (Below.refl _ _) rfl (fun h => by cases h)
    · go_simp
      refine hK _ _ rfl (Below.refl _ _) rfl (fun h => by cases h)
    · have d2 : vals 2 = _ := hd 2 (by decide +kernel)
      rw [d2]
      have c0 := (HR1.out.below hS).c0
      go_simp
      refine hK _ _ rfl (Below.refl _ _) rfl (fun h => by cases h)
    · have d1 : vals 1 = _ := hd 1 (by decide +kernel)
      have d3 : vals 3 = _ := hd 3 (by decide +kernel)
      rw [d1, d3]
      go_simp
      refine hK _ _ rfl (Below.refl _ _) (by first | rfl | (simp)) (fun h => by cases h)
    · go_simp
      refine hK _ _ rfl (Below.refl _ _) rfl (fun h => by cases h)
    · have d5 : vals 5 = _ := hd 5 (by decide +kernel)
      rw [d5]
      have c0 := (HR0.out.below hS).c1
      go_simp
      refine hK _ _ rfl (Below.refl _ _) rfl (fun h => by cases h)
    · go_simp
      refine hK _ _ rfl (Below.refl _ _) rfl (fun h => by cases h)
    · have d7 : vals 7 = _ := hd 7 (by decide +kernel)
      rw [d7]
      have c0 := (HR1.out.below hS).c1
      go_simp
      refine hK _ _ rfl (Below.refl _ _) rfl (fun h => by cases h)
    · have d6 : vals 6 = _ := hd 6 (by decide +kernel)
      have d8 : vals 8 = _ := hd 8 (by decide +kernel)
      rw [d6, d8]
      go_simp
      go_at_call 37
      with_reducible refine (mulOf_c (HN.out.below hS) (HM.out.below hS) K (by omega) (by omega) h3).mono ?_
      rintro e w2 ⟨A_r, n_r, c_r, rfl, h_r, bn_r⟩
      refine hK _ _ rfl bn_r ⟨_, _, _, rfl, h_r⟩ (fun h => by cases h)
    · have d4 : vals 4 = _ := hd 4 (by decide +kernel)
      obtain ⟨A_m, n_m, c_m, d9, h_m⟩ := hd 9 (by decide +kernel)
      rw [d4, d9]
      go_simp
      go_at_call 28
      with_reducible refine (signed_c h_m _ z (by first | exact HS.out | simpa using HS.out)).mono ?_
      rintro e w2 ⟨rfl, h_r, bn_r⟩
      refine hK _ _ rfl bn_r ⟨_, _, _, rfl, h_r⟩ (fun h => by cases h)
  case hfin =>
    intro vals wr hS hP hne
    obtain ⟨A2, n2, c2, ez, h3⟩ := hP 10 (by decide)
    have hZ3 := HZ.out.below hS
    obtain ⟨e0, e1, f0, f1⟩ := hZ3.cells
    try dsimp only
    rw [ez]
    have HF := Lib.hid (hZ3.fill (.bool (sg z)) (.slice A2 n2 c2))
    have HP := Lib.hid (h3.put hZ3 (.bool (sg z)) (.slice A2 n2 c2))
    have HB := Lib.hid (below_fill (g := w.heap.size + 1 + 1) (below_two HW.out hS) (by omega) (.bool (sg z)) (.slice A2 n2 c2))
    refine wpAny_ready (rs := [11]) (by kernel_rfl) (by simp) (AllReady.cons rfl (fun KC hK => ?_) AllReady.nil)
    go_simp
    refine hK _ _ ?_
    clear hK KC
    refine wpAny_done (by kernel_rfl) ?_ _
    go_wp2
    refine bodyPost_ret (results_cell_row rfl _ _ (w.heap.size + 1 + 1) 25 #[.bool (sg z), .slice A2 n2 c2] (0, 0) _ rfl HF.out Tryz.underlying25 rfl int_size) rfl ?_
    exact ⟨A2, n2, c2, rfl, HP.out, HB.out⟩
end

end Go.Proofs.YtgdchljbjnhchaaGreatDoor

/- What package whole's Add answers, as a contract over memory: whole numbers in the shortest limbs, 0 not below 0. Conditions: sizes of at most so many limbs; the table of powers of ten where texts are made or read. -/
namespace Go.Proofs.YtgdchljbjnhchaaGreatDoor
open Go.RowKit Limb
set_option linter.unusedVariables false
section
variable {w : World} {s s' : Bool} {A A' : Option Addr} {n c n' c' : Nat} {xs ys : List Nat} {x y : Int} {L L' : Nat}
set_option maxHeartbeats 4000000 in
set_option maxRecDepth 100000 in
theorem wAdd_c (hx : ZZ w s A n c xs x L) (hy : ZZ w s' A' n' c' ys y L') (K : Nat) (h1 : L < K) (h2 : L' < K) (h3 : K ≤ 100000) (z : Int) (hz : x + y = z) :
    Calls Tryz.prog 10 #[.agg #[.bool s, .slice A n c], .agg #[.bool s', .slice A' n' c']] w fun e w' => ∃ A2 n2 c2, e = .returned (.agg #[.bool (sg z), .slice A2 n2 c2]) ∧ ZZ w' (sg z) A2 n2 c2 (limbs z.natAbs) z K ∧ Below w.heap.size w w' := by
  have HX := Lib.hid hx.zof
  have HY := Lib.hid hy.zof
  by_cases hs : s = s'
  · subst hs
    have HS : RowKit.Hid (zOf s (x.natAbs + y.natAbs) = z) := (zOf_add HX.out HY.out).trans hz
    clear hz HX HY
    have b0 := below_new w (.cells #[Value.bool s, Value.slice A n c] 25)
    have b1 := below_new (w.alloc (.cells #[Value.bool s, Value.slice A n c] 25)) (.cells #[Value.bool s, Value.slice A' n' c'] 25)
    have bz := below_new ((w.alloc (.cells #[Value.bool s, Value.slice A n c] 25)).alloc (.cells #[Value.bool s, Value.slice A' n' c'] 25)) zbox
    have HW := Lib.hid (below_two (below_two b0 b1) bz)
    have HN := Lib.hid (hx.nn.below HW.out)
    have HM := Lib.hid (hy.nn.below HW.out)
    have r0 := ((row2_new w 25 (.bool s) (.slice A n c)).below b1).below bz
    have r1 := (row2_new (w.alloc (.cells #[Value.bool s, Value.slice A n c] 25)) 25 (.bool s) (.slice A' n' c')).below bz
    have rz : ZB (((w.alloc (.cells #[Value.bool s, Value.slice A n c] 25)).alloc (.cells #[Value.bool s, Value.slice A' n' c'] 25)).alloc zbox) ((w.alloc (.cells #[Value.bool s, Value.slice A n c] 25)).alloc (.cells #[Value.bool s, Value.slice A' n' c'] 25)).heap.size := row2_new ((w.alloc (.cells #[Value.bool s, Value.slice A n c] 25)).alloc (.cells #[Value.bool s, Value.slice A' n' c'] 25)) _ _ _
    simp only [World.size_alloc] at r1 rz
    clear b0 b1 bz hx hy
    go_enter Tryz.func10, Tryz.ntmps10
    go_wp2_with fail
    generalize ((w.alloc (.cells #[Value.bool s, Value.slice A n c] 25)).alloc (.cells #[Value.bool s, Value.slice A' n' c'] 25)).alloc zbox = w1 at *
    have HR0 := Lib.hid r0
    have c00 := r0.c0
    have c01 := r0.c1
    have HR1 := Lib.hid r1
    have c10 := r1.c0
    have c11 := r1.c1
    have HZ := Lib.hid rz
    clear r0 r1 rz
    clear c00 c01 c10 c11
    refine region_free 8 1 [14, 15, 16, 17, 18, 19, 20, 21] ?aF (fun wx => Below w1.heap.size w1 wx) (fun k v wx => match k with
        | 0 => v = .pointer (some ⟨w.heap.size, 0, none⟩)
        | 1 => v = .bool s
        | 2 => v = .pointer (some ⟨w.heap.size, 1, none⟩)
        | 3 => v = .slice A n c
        | 4 => v = .pointer (some ⟨w.heap.size + 1, 1, none⟩)
        | 5 => v = .slice A' n' c'
        | 6 => ∃ A2 n2 c2, v = .slice A2 n2 c2 ∧ NN wx A2 n2 c2 (limbs (x.natAbs + y.natAbs)) (x.natAbs + y.natAbs) K
        | _ => ∃ A2 n2 c2, v = .agg #[.bool (sg z), .slice A2 n2 c2] ∧ ZZ wx (sg z) A2 n2 c2 (limbs z.natAbs) z K)
      (fun _ => false) (by kernel_rfl) ?haF rfl (by kernel_rfl) (by kernel_rfl) (fun _ _ _ _ _ h => h) ?hSb ?hPb ?hS ?hop ?hfin
    case haF =>
      intro vals
      simp only [fillAll, List.getElem?_cons_zero, List.getElem?_cons_succ, Act.put, List.setIfInBounds_toArray, List.set_cons_zero, List.set_cons_succ]
      exact rfl
    case hSb => exact fun wx w2 hb hS => below_two hS hb
    case hPb =>
      intro k v wa wb hb h
      match k, h with
      | 0, h => exact h
      | 1, h => exact h
      | 2, h => exact h
      | 3, h => exact h
      | 4, h => exact h
      | 5, h => exact h
      | 6, ⟨A2, n2, c2, h1, h2⟩ => exact ⟨A2, n2, c2, h1, h2.below hb⟩
      | _ + 7, ⟨A2, n2, c2, h1, h2⟩ => exact ⟨A2, n2, c2, h1, h2.below hb⟩
    case hS => exact (Below.refl _ _).drew
    case hop =>
      refine .cons (k := 0) ?_ (.cons (k := 1) ?_ (.cons (k := 2) ?_ (.cons (k := 3) ?_ (.cons (k := 4) ?_ (.cons (k := 5) ?_ (.cons (k := 6) ?_ (.cons (k := 7) ?_ (.nil))))))))
      all_goals intro vals wr hS hd KC hK
      all_goals (show Oper.wp _ _ _ _ _ _; dsimp only)
      · go_simp
        refine hK _ _ rfl (Below.refl _ _) rfl (fun h => by cases h)
      · have d0 : vals 0 = _ := hd 0 (by decide +kernel)
        rw [d0]
        have c0 := (HR0.out.below hS).c0
        go_simp
        refine hK _ _ rfl (Below.refl _ _) rfl (fun h => by cases h)
      · go_simp
        refine hK _ _ rfl (Below.refl _ _) rfl (fun h => by cases h)
      · have d2 : vals 2 = _ := hd 2 (by decide +kernel)
        rw [d2]
        have c0 := (HR0.out.below hS).c1
        go_simp
        refine hK _ _ rfl (Below.refl _ _) rfl (fun h => by cases h)
      · go_simp
        refine hK _ _ rfl (Below.refl _ _) rfl (fun h => by cases h)
      · have d4 : vals 4 = _ := hd 4 (by decide +kernel)
        rw [d4]
        have c0 := (HR1.out.below hS).c1
        go_simp
        refine hK _ _ rfl (Below.refl _ _) rfl (fun h => by cases h)
      · have d3 : vals 3 = _ := hd 3 (by decide +kernel)
        have d5 : vals 5 = _ := hd 5 (by decide +kernel)
        rw [d3, d5]
        go_simp
        go_at_call 32
        with_reducible refine (add_c (HN.out.below hS) (HM.out.below hS) K h1 h2 (by omega)).mono ?_
        rintro e w2 ⟨A_r, n_r, c_r, rfl, h_r, bn_r⟩
        refine hK _ _ rfl bn_r ⟨_, _, _, rfl, h_r⟩ (fun h => by cases h)
      · have d1 : vals 1 = _ := hd 1 (by decide +kernel)
        obtain ⟨A_m, n_m, c_m, d6, h_m⟩ := hd 6 (by decide +kernel)
        rw [d1, d6]
        go_simp
        go_at_call 28
        with_reducible refine (signed_c h_m _ z (by first | exact HS.out | simpa using HS.out)).mono ?_
        rintro e w2 ⟨rfl, h_r, bn_r⟩
        refine hK _ _ rfl bn_r ⟨_, _, _, rfl, h_r⟩ (fun h => by cases h)
    case hfin =>
      intro vals wr hS hP hne
      obtain ⟨A2, n2, c2, ez, h3⟩ := hP 7 (by decide)
      have hZ3 := HZ.out.below hS
      obtain ⟨e0, e1, f0, f1⟩ := hZ3.cells
      try dsimp only
      rw [ez]
      have HF := Lib.hid (hZ3.fill (.bool (sg z)) (.slice A2 n2 c2))
      have HP := Lib.hid (h3.put hZ3 (.bool (sg z)) (.slice A2 n2 c2))
      have HB := Lib.hid (below_fill (g := w.heap.size + 1 + 1) (below_two HW.out hS) (by omega) (.bool (sg z)) (.slice A2 n2 c2))
      refine wpAny_ready (rs := [8]) (by kernel_rfl) (by simp) (AllReady.cons rfl (fun KC hK => ?_) AllReady.nil)
      go_simp
      refine hK _ _ ?_
      clear hK KC
      refine wpAny_done (by kernel_rfl) ?_ _
      go_wp2
      refine bodyPost_ret (results_cell_row rfl _ _ (w.heap.size + 1 + 1) 25 #[.bool (sg z), .slice A2 n2 c2] (0, 0) _ rfl HF.out Tryz.underlying25 rfl int_size) rfl ?_
      exact ⟨A2, n2, c2, rfl, HP.out, HB.out⟩
  · by_cases hab : y.natAbs ≤ x.natAbs
    · have HS : RowKit.Hid (zOf s (x.natAbs - y.natAbs) = z) := (zOf_sub HX.out HY.out hs hab).trans hz
      have HK : RowKit.Hid (x.natAbs - y.natAbs < 4294967296 ^ K) := Nat.lt_of_le_of_lt (Nat.sub_le _ _) (Nat.lt_of_lt_of_le (lt_pow hx.nn) (Nat.pow_le_pow_right (by decide) (by omega)))
      clear hz HX HY
      have hs2 : (s == s') = false := by simpa using hs
      clear hs
      have b0 := below_new w (.cells #[Value.bool s, Value.slice A n c] 25)
      have b1 := below_new (w.alloc (.cells #[Value.bool s, Value.slice A n c] 25)) (.cells #[Value.bool s', Value.slice A' n' c'] 25)
      have bz := below_new ((w.alloc (.cells #[Value.bool s, Value.slice A n c] 25)).alloc (.cells #[Value.bool s', Value.slice A' n' c'] 25)) zbox
      have HW := Lib.hid (below_two (below_two b0 b1) bz)
      have HN := Lib.hid (hx.nn.below HW.out)
      have HM := Lib.hid (hy.nn.below HW.out)
      have r0 := ((row2_new w 25 (.bool s) (.slice A n c)).below b1).below bz
      have r1 := (row2_new (w.alloc (.cells #[Value.bool s, Value.slice A n c] 25)) 25 (.bool s') (.slice A' n' c')).below bz
      have rz : ZB (((w.alloc (.cells #[Value.bool s, Value.slice A n c] 25)).alloc (.cells #[Value.bool s', Value.slice A' n' c'] 25)).alloc zbox) ((w.alloc (.cells #[Value.bool s, Value.slice A n c] 25)).alloc (.cells #[Value.bool s', Value.slice A' n' c'] 25)).heap.size := row2_new ((w.alloc (.cells #[Value.bool s, Value.slice A n c] 25)).alloc (.cells #[Value.bool s', Value.slice A' n' c'] 25)) _ _ _
      simp only [World.size_alloc] at r1 rz
      clear b0 b1 bz hx hy
      go_enter Tryz.func10, Tryz.ntmps10
      go_wp2_with fail
      generalize ((w.alloc (.cells #[Value.bool s, Value.slice A n c] 25)).alloc (.cells #[Value.bool s', Value.slice A' n' c'] 25)).alloc zbox = w1 at *
      have HR0 := Lib.hid r0
      have c00 := r0.c0
      have c01 := r0.c1
      have HR1 := Lib.hid r1
      have c10 := r1.c0
      have c11 := r1.c1
      have HZ := Lib.hid rz
      clear r0 r1 rz
      go_wp2_with fail
      refine (sub_yes HN.out HM.out (by omega) (by omega) hab).mono ?_
      rintro e w2 ⟨A2, n2, c2, rfl, h2, bn2⟩
      have BN2 := Lib.hid bn2
      have d200 := (HR0.out.below BN2.out).c0
      have d201 := (HR0.out.below BN2.out).c1
      have d210 := (HR1.out.below BN2.out).c0
      have d211 := (HR1.out.below BN2.out).c1
      clear bn2
      go_wp2_with fail
      refine (signed_c (h2.relax HK.out) _ z (by first | exact HS.out | simpa using HS.out)).mono ?_
      rintro e w4 ⟨rfl, h4, bm⟩
      have BN4 := Lib.hid (below_two BN2.out bm)
      obtain ⟨e0, e1, f0, f1⟩ := (HZ.out.below BN4.out).cells
      have HF := Lib.hid ((HZ.out.below BN4.out).fill (.bool (sg z)) (.slice A2 n2 c2))
      have HP := Lib.hid (h4.put (HZ.out.below BN4.out) (.bool (sg z)) (.slice A2 n2 c2))
      have HB := Lib.hid (below_fill (g := w.heap.size + 1 + 1) (below_two HW.out BN4.out) (by omega) (.bool (sg z)) (.slice A2 n2 c2))
      clear bm
      go_wp2
      refine bodyPost_ret (results_cell_row rfl _ _ (w.heap.size + 1 + 1) 25 #[.bool (sg z), .slice A2 n2 c2] (0, 0) _ rfl HF.out Tryz.underlying25 rfl int_size) rfl ?_
      exact ⟨A2, n2, c2, rfl, HP.out, HB.out⟩
    · have HS : RowKit.Hid (zOf s' (y.natAbs - x.natAbs) = z) := (zOf_sub HY.out HX.out (Ne.symm hs) (by omega)).trans ((Int.add_comm _ _).trans hz)
      have HK : RowKit.Hid (y.natAbs - x.natAbs < 4294967296 ^ K) := Nat.lt_of_le_of_lt (Nat.sub_le _ _) (Nat.lt_of_lt_of_le (lt_pow hy.nn) (Nat.pow_le_pow_right (by decide) (by omega)))
      have hba : x.natAbs ≤ y.natAbs := by omega
      clear hz HX HY
      have hs2 : (s == s') = false := by simpa using hs
      clear hs
      have b0 := below_new w (.cells #[Value.bool s, Value.slice A n c] 25)
      have b1 := below_new (w.alloc (.cells #[Value.bool s, Value.slice A n c] 25)) (.cells #[Value.bool s', Value.slice A' n' c'] 25)
      have bz := below_new ((w.alloc (.cells #[Value.bool s, Value.slice A n c] 25)).alloc (.cells #[Value.bool s', Value.slice A' n' c'] 25)) zbox
      have HW := Lib.hid (below_two (below_two b0 b1) bz)
      have HN := Lib.hid (hx.nn.below HW.out)
      have HM := Lib.hid (hy.nn.below HW.out)
      have r0 := ((row2_new w 25 (.bool s) (.slice A n c)).below b1).below bz
      have r1 := (row2_new (w.alloc (.cells #[Value.bool s, Value.slice A n c] 25)) 25 (.bool s') (.slice A' n' c')).below bz
      have rz : ZB (((w.alloc (.cells #[Value.bool s, Value.slice A n c] 25)).alloc (.cells #[Value.bool s', Value.slice A' n' c'] 25)).alloc zbox) ((w.alloc (.cells #[Value.bool s, Value.slice A n c] 25)).alloc (.cells #[Value.bool s', Value.slice A' n' c'] 25)).heap.size := row2_new ((w.alloc (.cells #[Value.bool s, Value.slice A n c] 25)).alloc (.cells #[Value.bool s', Value.slice A' n' c'] 25)) _ _ _
      simp only [World.size_alloc] at r1 rz
      clear b0 b1 bz hx hy
      go_enter Tryz.func10, Tryz.ntmps10
      go_wp2_with fail
      generalize ((w.alloc (.cells #[Value.bool s, Value.slice A n c] 25)).alloc (.cells #[Value.bool s', Value.slice A' n' c'] 25)).alloc zbox = w1 at *
      have HR0 := Lib.hid r0
      have c00 := r0.c0
      have c01 := r0.c1
      have HR1 := Lib.hid r1
      have c10 := r1.c0
      have c11 := r1.c1
      have HZ := Lib.hid rz
      clear r0 r1 rz
      go_wp2_with fail
      refine (sub_no HN.out HM.out (by omega) (by omega) (by omega)).mono ?_
      rintro e w2 ⟨Au, nu, cu, rfl, h2, bn2⟩
      have BN2 := Lib.hid bn2
      have d200 := (HR0.out.below BN2.out).c0
      have d201 := (HR0.out.below BN2.out).c1
      have d210 := (HR1.out.below BN2.out).c0
      have d211 := (HR1.out.below BN2.out).c1
      clear bn2
      clear h2
      go_wp2_with fail
      refine (sub_yes (HM.out.below BN2.out) (HN.out.below BN2.out) (by omega) (by omega) hba).mono ?_
      rintro e w3 ⟨A2, n2, c2, rfl, h3, bn3⟩
      have BN3 := Lib.hid (below_two BN2.out bn3)
      have d300 := (HR0.out.below BN3.out).c0
      have d301 := (HR0.out.below BN3.out).c1
      have d310 := (HR1.out.below BN3.out).c0
      have d311 := (HR1.out.below BN3.out).c1
      clear bn3
      go_wp2_with fail
      refine (signed_c (h3.relax HK.out) _ z (by first | exact HS.out | simpa using HS.out)).mono ?_
      rintro e w4 ⟨rfl, h4, bm⟩
      have BN4 := Lib.hid (below_two BN3.out bm)
      obtain ⟨e0, e1, f0, f1⟩ := (HZ.out.below BN4.out).cells
      have HF := Lib.hid ((HZ.out.below BN4.out).fill (.bool (sg z)) (.slice A2 n2 c2))
      have HP := Lib.hid (h4.put (HZ.out.below BN4.out) (.bool (sg z)) (.slice A2 n2 c2))
      have HB := Lib.hid (below_fill (g := w.heap.size + 1 + 1) (below_two HW.out BN4.out) (by omega) (.bool (sg z)) (.slice A2 n2 c2))
      clear bm
      go_wp2
      refine bodyPost_ret (results_cell_row rfl _ _ (w.heap.size + 1 + 1) 25 #[.bool (sg z), .slice A2 n2 c2] (0, 0) _ rfl HF.out Tryz.underlying25 rfl int_size) rfl ?_
      exact ⟨A2, n2, c2, rfl, HP.out, HB.out⟩
end

end Go.Proofs.YtgdchljbjnhchaaGreatDoor

/- What package whole's Cmp answers, as a contract over memory: whole numbers in the shortest limbs, 0 not below 0. Conditions: sizes of at most so many limbs; the table of powers of ten where texts are made or read. -/
namespace Go.Proofs.YtgdchljbjnhchaaGreatDoor
open Go.RowKit Limb
set_option linter.unusedVariables false
section
variable {w : World} {s s' : Bool} {A A' : Option Addr} {n c n' c' : Nat} {xs ys : List Nat} {x y : Int} {L L' : Nat}
set_option maxHeartbeats 4000000 in
set_option maxRecDepth 100000 in
theorem wCmp_c (hx : ZZ w s A n c xs x L) (hy : ZZ w s' A' n' c' ys y L') (h1 : L ≤ 100000) (h2 : L' ≤ 100000) (v : Int) (hv : cmpZ x y = v) :
    Calls Tryz.prog 16 #[.agg #[.bool s, .slice A n c], .agg #[.bool s', .slice A' n' c']] w fun e w' => e = .returned (.int .i64 v) ∧ Below w.heap.size w w' := by
  have b0 := below_new w (.cells #[Value.bool s, Value.slice A n c] 25)
  have b1 := below_new (w.alloc (.cells #[Value.bool s, Value.slice A n c] 25)) (.cells #[Value.bool s', Value.slice A' n' c'] 25)
  have HW := Lib.hid (below_two b0 b1)
  have HN := Lib.hid (hx.below HW.out)
  have HM := Lib.hid (hy.below HW.out)
  have r0 := (row2_new w 25 (.bool s) (.slice A n c)).below b1
  have r1 := row2_new (w.alloc (.cells #[Value.bool s, Value.slice A n c] 25)) 25 (.bool s') (.slice A' n' c')
  simp only [World.size_alloc] at r1
  clear b0 b1 hx hy
  by_cases hx0 : x < 0
  · by_cases hy0 : y < 0
    · have hx2 : sg x = true := sg_neg hx0
      have hy2 : sg y = true := sg_neg hy0
      have HX2 := Lib.hid hx2
      have HY2 := Lib.hid hy2
      clear hx2 hy2
      have HV : RowKit.Hid (cmpI y.natAbs x.natAbs = v) := by
        show _ = _
        rw [← hv]; exact cmp_abs_neg hx0 hy0
      clear hv hx0 hy0
      go_enter Tryz.func16, Tryz.ntmps16
      go_wp2_with fail
      generalize (w.alloc (.cells #[Value.bool s, Value.slice A n c] 25)).alloc (.cells #[Value.bool s', Value.slice A' n' c'] 25) = w1 at *
      have HR0 := Lib.hid r0
      have HR1 := Lib.hid r1
      have c00 := r0.c0
      have c01 := r0.c1
      have c10 := r1.c0
      have c11 := r1.c1
      clear r0 r1
      refine (isBelow_c HN.out (by omega) true HX2.out).mono ?_
      rintro e w2 ⟨rfl, bn⟩
      replace HN := Lib.hid (HN.out.below bn)
      replace HM := Lib.hid (HM.out.below bn)
      replace HW := Lib.hid (below_two HW.out bn)
      replace HR0 := Lib.hid (HR0.out.below bn)
      replace HR1 := Lib.hid (HR1.out.below bn)
      clear bn c00 c01 c10 c11
      have c00 := HR0.out.c0
      have c01 := HR0.out.c1
      have c10 := HR1.out.c0
      have c11 := HR1.out.c1
      go_wp2_with fail
      refine (isBelow_c HM.out (by omega) true HY2.out).mono ?_
      rintro e w3 ⟨rfl, bn⟩
      replace HN := Lib.hid (HN.out.below bn)
      replace HM := Lib.hid (HM.out.below bn)
      replace HW := Lib.hid (below_two HW.out bn)
      replace HR0 := Lib.hid (HR0.out.below bn)
      replace HR1 := Lib.hid (HR1.out.below bn)
      clear bn c00 c01 c10 c11
      have c00 := HR0.out.c0
      have c01 := HR0.out.c1
      have c10 := HR1.out.c0
      have c11 := HR1.out.c1
      go_wp2_with fail
      refine (cmp_c HM.out.nn HN.out.nn (by omega) (by omega) v HV.out).mono ?_
      rintro e w9 ⟨rfl, bn⟩
      replace HW := Lib.hid (below_two HW.out bn)
      clear bn c00 c01 c10 c11
      go_wp2
      go_ret
      exact ⟨rfl, HW.out⟩
    · have hx2 : sg x = true := sg_neg hx0
      have hy2 : sg y = false := sg_pos (by omega)
      have HX2 := Lib.hid hx2
      have HY2 := Lib.hid hy2
      clear hx2 hy2
      obtain rfl : v = -1 := by rw [← hv]; exact cmpZ_lt (by omega)
      clear hv hx0 hy0
      go_enter Tryz.func16, Tryz.ntmps16
      go_wp2_with fail
      generalize (w.alloc (.cells #[Value.bool s, Value.slice A n c] 25)).alloc (.cells #[Value.bool s', Value.slice A' n' c'] 25) = w1 at *
      have HR0 := Lib.hid r0
      have HR1 := Lib.hid r1
      have c00 := r0.c0
      have c01 := r0.c1
      have c10 := r1.c0
      have c11 := r1.c1
      clear r0 r1
      refine (isBelow_c HN.out (by omega) true HX2.out).mono ?_
      rintro e w2 ⟨rfl, bn⟩
      replace HN := Lib.hid (HN.out.below bn)
      replace HM := Lib.hid (HM.out.below bn)
      replace HW := Lib.hid (below_two HW.out bn)
      replace HR0 := Lib.hid (HR0.out.below bn)
      replace HR1 := Lib.hid (HR1.out.below bn)
      clear bn c00 c01 c10 c11
      have c00 := HR0.out.c0
      have c01 := HR0.out.c1
      have c10 := HR1.out.c0
      have c11 := HR1.out.c1
      go_wp2_with fail
      refine (isBelow_c HM.out (by omega) false HY2.out).mono ?_
      rintro e w3 ⟨rfl, bn⟩
      replace HN := Lib.hid (HN.out.below bn)
      replace HM := Lib.hid (HM.out.below bn)
      replace HW := Lib.hid (below_two HW.out bn)
      replace HR0 := Lib.hid (HR0.out.below bn)
      replace HR1 := Lib.hid (HR1.out.below bn)
      clear bn c00 c01 c10 c11
      have c00 := HR0.out.c0
      have c01 := HR0.out.c1
      have c10 := HR1.out.c0
      have c11 := HR1.out.c1
      go_wp2_with fail
      refine (isBelow_c HN.out (by omega) true HX2.out).mono ?_
      rintro e w4 ⟨rfl, bn⟩
      replace HN := Lib.hid (HN.out.below bn)
      replace HM := Lib.hid (HM.out.below bn)
      replace HW := Lib.hid (below_two HW.out bn)
      replace HR0 := Lib.hid (HR0.out.below bn)
      replace HR1 := Lib.hid (HR1.out.below bn)
      clear bn c00 c01 c10 c11
      have c00 := HR0.out.c0
      have c01 := HR0.out.c1
      have c10 := HR1.out.c0
      have c11 := HR1.out.c1
      go_wp2
      go_ret
      exact ⟨rfl, HW.out⟩
  · by_cases hy0 : y < 0
    · have hx2 : sg x = false := sg_pos (by omega)
      have hy2 : sg y = true := sg_neg hy0
      have HX2 := Lib.hid hx2
      have HY2 := Lib.hid hy2
      clear hx2 hy2
      obtain rfl : v = 1 := by rw [← hv]; exact cmpZ_gt (by omega)
      clear hv hx0 hy0
      go_enter Tryz.func16, Tryz.ntmps16
      go_wp2_with fail
      generalize (w.alloc (.cells #[Value.bool s, Value.slice A n c] 25)).alloc (.cells #[Value.bool s', Value.slice A' n' c'] 25) = w1 at *
      have HR0 := Lib.hid r0
      have HR1 := Lib.hid r1
      have c00 := r0.c0
      have c01 := r0.c1
      have c10 := r1.c0
      have c11 := r1.c1
      clear r0 r1
      refine (isBelow_c HN.out (by omega) false HX2.out).mono ?_
      rintro e w2 ⟨rfl, bn⟩
      replace HN := Lib.hid (HN.out.below bn)
      replace HM := Lib.hid (HM.out.below bn)
      replace HW := Lib.hid (below_two HW.out bn)
      replace HR0 := Lib.hid (HR0.out.below bn)
      replace HR1 := Lib.hid (HR1.out.below bn)
      clear bn c00 c01 c10 c11
      have c00 := HR0.out.c0
      have c01 := HR0.out.c1
      have c10 := HR1.out.c0
      have c11 := HR1.out.c1
      go_wp2_with fail
      refine (isBelow_c HN.out (by omega) false HX2.out).mono ?_
      rintro e w3 ⟨rfl, bn⟩
      replace HN := Lib.hid (HN.out.below bn)
      replace HM := Lib.hid (HM.out.below bn)
      replace HW := Lib.hid (below_two HW.out bn)
      replace HR0 := Lib.hid (HR0.out.below bn)
      replace HR1 := Lib.hid (HR1.out.below bn)
      clear bn c00 c01 c10 c11
      have c00 := HR0.out.c0
      have c01 := HR0.out.c1
      have c10 := HR1.out.c0
      have c11 := HR1.out.c1
      go_wp2_with fail
      refine (isBelow_c HM.out (by omega) true HY2.out).mono ?_
      rintro e w4 ⟨rfl, bn⟩
      replace HN := Lib.hid (HN.out.below bn)
      replace HM := Lib.hid (HM.out.below bn)
      replace HW := Lib.hid (below_two HW.out bn)
      replace HR0 := Lib.hid (HR0.out.below bn)
      replace HR1 := Lib.hid (HR1.out.below bn)
      clear bn c00 c01 c10 c11
      have c00 := HR0.out.c0
      have c01 := HR0.out.c1
      have c10 := HR1.out.c0
      have c11 := HR1.out.c1
      go_wp2
      go_ret
      exact ⟨rfl, HW.out⟩
    · have hx2 : sg x = false := sg_pos (by omega)
      have hy2 : sg y = false := sg_pos (by omega)
      have HX2 := Lib.hid hx2
      have HY2 := Lib.hid hy2
      clear hx2 hy2
      have HV : RowKit.Hid (cmpI x.natAbs y.natAbs = v) := by
        show _ = _
        rw [← hv]; exact cmp_abs_pos (by omega) (by omega)
      clear hv hx0 hy0
      go_enter Tryz.func16, Tryz.ntmps16
      go_wp2_with fail
      generalize (w.alloc (.cells #[Value.bool s, Value.slice A n c] 25)).alloc (.cells #[Value.bool s', Value.slice A' n' c'] 25) = w1 at *
      have HR0 := Lib.hid r0
      have HR1 := Lib.hid r1
      have c00 := r0.c0
      have c01 := r0.c1
      have c10 := r1.c0
      have c11 := r1.c1
      clear r0 r1
      refine (isBelow_c HN.out (by omega) false HX2.out).mono ?_
      rintro e w2 ⟨rfl, bn⟩
      replace HN := Lib.hid (HN.out.below bn)
      replace HM := Lib.hid (HM.out.below bn)
      replace HW := Lib.hid (below_two HW.out bn)
      replace HR0 := Lib.hid (HR0.out.below bn)
      replace HR1 := Lib.hid (HR1.out.below bn)
      clear bn c00 c01 c10 c11
      have c00 := HR0.out.c0
      have c01 := HR0.out.c1
      have c10 := HR1.out.c0
      have c11 := HR1.out.c1
      go_wp2_with fail
      refine (isBelow_c HN.out (by omega) false HX2.out).mono ?_
      rintro e w3 ⟨rfl, bn⟩
      replace HN := Lib.hid (HN.out.below bn)
      replace HM := Lib.hid (HM.out.below bn)
      replace HW := Lib.hid (below_two HW.out bn)
      replace HR0 := Lib.hid (HR0.out.below bn)
      replace HR1 := Lib.hid (HR1.out.below bn)
      clear bn c00 c01 c10 c11
      have c00 := HR0.out.c0
      have c01 := HR0.out.c1
      have c10 := HR1.out.c0
      have c11 := HR1.out.c1
      go_wp2_with fail
      refine (isBelow_c HM.out (by omega) false HY2.out).mono ?_
      rintro e w4 ⟨rfl, bn⟩
      replace HN := Lib.hid (HN.out.below bn)
      replace HM := Lib.hid (HM.out.below bn)
      replace HW := Lib.hid (below_two HW.out bn)
      replace HR0 := Lib.hid (HR0.out.below bn)
      replace HR1 := Lib.hid (HR1.out.below bn)
      clear bn c00 c01 c10 c11
      have c00 := HR0.out.c0
      have c01 := HR0.out.c1
      have c10 := HR1.out.c0
      have c11 := HR1.out.c1
      go_wp2_with fail
      refine (cmp_c HN.out.nn HM.out.nn (by omega) (by omega) v HV.out).mono ?_
      rintro e w9 ⟨rfl, bn⟩
      replace HW := Lib.hid (below_two HW.out bn)
      clear bn c00 c01 c10 c11
      go_wp2
      go_ret
      exact ⟨rfl, HW.out⟩
end

end Go.Proofs.YtgdchljbjnhchaaGreatDoor

/- What package whole's Text answers, as a contract over memory: whole numbers in the shortest limbs, 0 not below 0. Conditions: sizes of at most so many limbs; the table of powers of ten where texts are made or read. -/
namespace Go.Proofs.YtgdchljbjnhchaaGreatDoor
open Go.RowKit Limb
set_option linter.unusedVariables false
section
variable {w : World} {s s' : Bool} {A A' : Option Addr} {n c n' c' : Nat} {xs ys : List Nat} {x y : Int} {L L' : Nat}
set_option maxHeartbeats 4000000 in
set_option maxRecDepth 100000 in
theorem wText_c (T : Tab w) (hx : ZZ w s A n c xs x L) (h1 : L ≤ 10000) (S : ByteArray) (hS : strOf (zT x) = S) :
    Calls Tryz.prog 18 #[.agg #[.bool s, .slice A n c]] w fun e w' => e = .returned (.string S) ∧ Below w.heap.size w w' := by
  have b0 := below_new w (.cells #[Value.bool s, Value.slice A n c] 25)
  have HW := Lib.hid b0
  have HN := Lib.hid (hx.below b0)
  have r0 := row2_new w 25 (.bool s) (.slice A n c)
  have c00 := r0.c0
  have c01 := r0.c1
  have HT := Lib.hid T
  clear b0 hx T
  by_cases hx0 : x < 0
  · have hx2 : sg x = true := sg_neg hx0
    have HX2 := Lib.hid hx2
    clear hx2
    rw [zT_neg hx0] at hS
    obtain ⟨D, hD⟩ : ∃ D, strOf (decT x.natAbs) = D := ⟨_, rfl⟩
    have ed : (⟨#[45]⟩ : ByteArray) ++ D = S := by rw [← hD, minus_text]; exact hS
    have hDl : D.size ≤ 100001 := by
      have := decT_len_limbs (lt_pow HN.out.nn)
      rw [← hD, size_strOf]; omega
    have HD := Lib.hid hD
    clear hD hS
    clear hx0
    go_enter Tryz.func18, Tryz.ntmps18
    go_wp2_with fail
    refine (digText_c (HT.out.below HW.out) HN.out.nn h1 _ HD.out).mono ?_
    rintro e w2 ⟨rfl, bn⟩
    replace HN := Lib.hid (HN.out.below bn)
    replace HW := Lib.hid (below_two HW.out bn)
    replace r0 := r0.below bn
    clear c00 c01 bn
    have c00 := r0.c0
    have c01 := r0.c1
    clear r0
    go_wp2_with fail
    refine (isBelow_c HN.out (by omega) true HX2.out).mono ?_
    rintro e w3 ⟨rfl, bn⟩
    replace HW := Lib.hid (below_two HW.out bn)
    clear c00 c01 bn
    go_wp2
    go_ret
    exact ⟨rfl, HW.out⟩
  · have hx2 : sg x = false := sg_pos (by omega)
    have HX2 := Lib.hid hx2
    clear hx2
    rw [zT_pos (by omega)] at hS
    have HD := Lib.hid hS
    clear hS
    clear hx0
    go_enter Tryz.func18, Tryz.ntmps18
    go_wp2_with fail
    refine (digText_c (HT.out.below HW.out) HN.out.nn h1 _ HD.out).mono ?_
    rintro e w2 ⟨rfl, bn⟩
    replace HN := Lib.hid (HN.out.below bn)
    replace HW := Lib.hid (below_two HW.out bn)
    replace r0 := r0.below bn
    clear c00 c01 bn
    have c00 := r0.c0
    have c01 := r0.c1
    clear r0
    go_wp2_with fail
    refine (isBelow_c HN.out (by omega) false HX2.out).mono ?_
    rintro e w3 ⟨rfl, bn⟩
    replace HW := Lib.hid (below_two HW.out bn)
    clear c00 c01 bn
    go_wp2
    go_ret
    exact ⟨rfl, HW.out⟩
end

end Go.Proofs.YtgdchljbjnhchaaGreatDoor

/- What package whole's Of answers, as a contract over memory: whole numbers in the shortest limbs, 0 not below 0. Conditions: sizes of at most so many limbs; the table of powers of ten where texts are made or read. -/
namespace Go.Proofs.YtgdchljbjnhchaaGreatDoor
open Go.RowKit Limb
set_option linter.unusedVariables false
set_option maxHeartbeats 4000000 in
set_option maxRecDepth 100000 in
theorem wOf_c (v : Int) (h0 : -9223372036854775808 ≤ v) (h1 : v ≤ 9223372036854775807) (w : World) :
    Calls Tryz.prog 22 #[.int .i64 v] w fun e w' => ∃ A2 n2 c2, e = .returned (.agg #[.bool (sg v), .slice A2 n2 c2]) ∧ ZZ w' (sg v) A2 n2 c2 (limbs v.natAbs) v 2 ∧ Below w.heap.size w w' := by
  have HW := Lib.hid (below_new w zbox)
  have HZ : RowKit.Hid (ZB (w.alloc zbox) w.heap.size) := row2_new w _ _ _
  by_cases hv0 : v < 0
  · obtain ⟨u, hu⟩ : ∃ u, u = v.natAbs := ⟨_, rfl⟩
    have hlt : u < 18446744073709551616 := by omega
    have ec : IntKind.u64.wrap v = v + 18446744073709551616 := by rw [conv_u64 h0 h1, if_pos hv0]
    have en : IntKind.u64.wrap (-(v + 18446744073709551616)) = (u : Int) := by rw [IntKind.wrap_u64]; omega
    have HS : RowKit.Hid (zOf true u = v) := by
      show _ = _
      rw [hu]; unfold zOf; simp; omega
    have HSd : RowKit.Hid (zOf (decide (v < 0)) u = v) := by
      show _ = _
      rw [hu]; exact zz_zof
    have HC := Lib.hid (of_c u _ rfl hlt (w.alloc zbox))
    clear hu h0 h1
    go_enter Tryz.func22, Tryz.ntmps22
    go_wp2_with fail
    refine HC.out.mono ?_
    rintro e w2 ⟨A2, n2, c2, rfl, h2, bn⟩
    have BN2 := Lib.hid bn
    clear bn
    go_wp2_with fail
    refine (signed_c h2 _ v (by first | exact HS.out | simpa using HS.out | exact HSd.out)).mono ?_
    rintro e w4 ⟨rfl, h4, bm⟩
    have BN4 := Lib.hid (below_two BN2.out bm)
    obtain ⟨e0, e1, f0, f1⟩ := (HZ.out.below BN4.out).cells
    have HF := Lib.hid ((HZ.out.below BN4.out).fill (.bool (sg v)) (.slice A2 n2 c2))
    have HP := Lib.hid (h4.put (HZ.out.below BN4.out) (.bool (sg v)) (.slice A2 n2 c2))
    have HB := Lib.hid (below_fill (g := w.heap.size) (below_two HW.out BN4.out) (by omega) (.bool (sg v)) (.slice A2 n2 c2))
    clear bm
    go_wp2
    refine bodyPost_ret (results_cell_row rfl _ _ (w.heap.size) 25 #[.bool (sg v), .slice A2 n2 c2] (0, 0) _ rfl HF.out Tryz.underlying25 rfl int_size) rfl ?_
    exact ⟨A2, n2, c2, rfl, HP.out, HB.out⟩
  · obtain ⟨u, hu⟩ : ∃ u, u = v.natAbs := ⟨_, rfl⟩
    have hlt : u < 18446744073709551616 := by omega
    have ec : IntKind.u64.wrap v = (u : Int) := by rw [conv_u64 h0 h1, if_neg hv0]; omega
    have hv1 : 0 ≤ v := by omega
    have HS : RowKit.Hid (zOf false u = v) := by
      show _ = _
      rw [hu]; unfold zOf; simp; omega
    have HSd : RowKit.Hid (zOf (decide (v < 0)) u = v) := by
      show _ = _
      rw [hu]; exact zz_zof
    have HC := Lib.hid (of_c u _ rfl hlt (w.alloc zbox))
    clear hu h0 h1 hv0
    go_enter Tryz.func22, Tryz.ntmps22
    go_wp2_with fail
    refine HC.out.mono ?_
    rintro e w2 ⟨A2, n2, c2, rfl, h2, bn⟩
    have BN2 := Lib.hid bn
    clear bn
    go_wp2_with fail
    refine (signed_c h2 _ v (by first | exact HS.out | simpa using HS.out | exact HSd.out)).mono ?_
    rintro e w4 ⟨rfl, h4, bm⟩
    have BN4 := Lib.hid (below_two BN2.out bm)
    obtain ⟨e0, e1, f0, f1⟩ := (HZ.out.below BN4.out).cells
    have HF := Lib.hid ((HZ.out.below BN4.out).fill (.bool (sg v)) (.slice A2 n2 c2))
    have HP := Lib.hid (h4.put (HZ.out.below BN4.out) (.bool (sg v)) (.slice A2 n2 c2))
    have HB := Lib.hid (below_fill (g := w.heap.size) (below_two HW.out BN4.out) (by omega) (.bool (sg v)) (.slice A2 n2 c2))
    clear bm
    go_wp2
    refine bodyPost_ret (results_cell_row rfl _ _ (w.heap.size) 25 #[.bool (sg v), .slice A2 n2 c2] (0, 0) _ rfl HF.out Tryz.underlying25 rfl int_size) rfl ?_
    exact ⟨A2, n2, c2, rfl, HP.out, HB.out⟩

end Go.Proofs.YtgdchljbjnhchaaGreatDoor

/- What package whole's Parse answers, as a contract over memory: whole numbers in the shortest limbs, 0 not below 0. Conditions: sizes of at most so many limbs; the table of powers of ten where texts are made or read. -/
namespace Go.Proofs.YtgdchljbjnhchaaGreatDoor
open Go.RowKit Limb
set_option linter.unusedVariables false
set_option maxHeartbeats 4000000 in
set_option maxRecDepth 100000 in
theorem wParse_c (t : ByteArray) (w : World) (T : Tab w) (v : Bool) (hv : zOk (bytesOf t) = v) (z : Int) (hz : zV (bytesOf t) = z) :
    Calls Tryz.prog 7 #[.string t] w fun e w' => ∃ A2 n2 c2, e = .returned (.tuple #[.agg #[.bool (sg z), .slice A2 n2 c2], .bool v]) ∧ ZZ w' (sg z) A2 n2 c2 (limbs z.natAbs) z 223 ∧ Below w.heap.size w w' := by
  have HT := Lib.hid T
  have HW := Lib.hid (below_new w zbox)
  have HZ : RowKit.Hid (ZB (w.alloc zbox) w.heap.size) := row2_new w _ _ _
  clear T
  by_cases hm : (bytesOf t).head? = some 45
  · rw [zOk_minus hm] at hv
    rw [zV_minus hm] at hz
    have HC := Lib.hid (cutMinus_yes t hm (w.alloc zbox))
    clear hm
    obtain ⟨k, hk⟩ : ∃ k, numOk (bytesOf t).tail = k := ⟨_, rfl⟩
    obtain ⟨m, hm⟩ : ∃ m, numV (bytesOf t).tail = m := ⟨_, rfl⟩
    rw [hk, hm] at hv
    rw [hm] at hz
    have HK := Lib.hid hk
    have HM := Lib.hid hm
    have hk0 : k = false → m = 0 := fun h => by rw [← hm]; exact numV_no (hk.trans h)
    clear hk hm
    go_enter Tryz.func7, Tryz.ntmps7
    go_wp2_with fail
    refine HC.out.mono ?_
    rintro e w2 ⟨R, rfl, hR, rfl⟩
    have HK2 : RowKit.Hid (numOk (bytesOf R) = k) := by
      show _ = _
      rw [hR]; exact HK.out
    have HM2 : RowKit.Hid (numV (bytesOf R) = m) := by
      show _ = _
      rw [hR]; exact HM.out
    clear hR HK HM
    go_wp2_with fail
    refine (digParse_c R _ (HT.out.below HW.out) k HK2.out m HM2.out).mono ?_
    rintro e w3 ⟨A2, n2, c2, rfl, h2, bn⟩
    have BN3 := Lib.hid bn
    clear bn
    obtain ⟨e0, e1, f0, f1⟩ := (HZ.out.below BN3.out).cells
    by_cases hk1 : k = true
    · subst hk1
      by_cases em : m = 0
      · subst em
        have ev : v = false := by rw [← hv]; simp
        subst ev
        have ez : z = 0 := by rw [← hz]; rfl
        subst ez
        have HBits := Lib.hid (bits_c h2 (by decide) 0 rfl)
        clear hv hz hk0
        go_wp2_with fail
        refine HBits.out.mono ?_
        rintro e w4 ⟨rfl, rfl⟩
        have HF := Lib.hid ((HZ.out.below BN3.out).fill (.bool false) (.slice none 0 0))
        have HB := Lib.hid (below_fill (g := w.heap.size) (below_two HW.out BN3.out) (by omega) (.bool false) (.slice none 0 0))
        clear h2
        go_wp2
        refine bodyPost_ret (results_mixed rfl _ _ w.heap.size 25 #[.bool false, .slice none 0 0] (0, 0) _ (.bool false) rfl rfl HF.out Tryz.underlying25 rfl int_size) rfl ?_
        exact ⟨none, 0, 0, rfl, ⟨⟨IsN.nil _ _, rfl, Nat.le_refl _, Nat.zero_le _⟩, rfl⟩, HB.out⟩
      · have ev : v = true := by rw [← hv]; simp [em]
        subst ev
        obtain ⟨b, hb⟩ : ∃ b : Int, ((blen m : Nat) : Int) = b := ⟨_, rfl⟩
        have hb0 : (b == 0) = false := by
          rw [beq_eq_false_iff_ne, ← hb]
          have := mt blen_eq_zero.1 em
          omega
        have HBits := Lib.hid (bits_c h2 (by decide) b hb)
        have HS : RowKit.Hid (zOf true m = z) := by
          show _ = _
          rw [← hz]; rfl
        clear hv hz hk0 hb
        go_wp2_with fail
        refine HBits.out.mono ?_
        rintro e w4 ⟨rfl, rfl⟩
        go_wp2_with fail
        refine (signed_c h2 _ z (by first | exact HS.out | simpa using HS.out)).mono ?_
        rintro e w5 ⟨rfl, h4, bm⟩
        have BN4 := Lib.hid (below_two BN3.out bm)
        clear e0 e1 f0 f1
        obtain ⟨e0, e1, f0, f1⟩ := (HZ.out.below BN4.out).cells
        have HF := Lib.hid ((HZ.out.below BN4.out).fill (.bool (sg z)) (.slice A2 n2 c2))
        have HP := Lib.hid (h4.put (HZ.out.below BN4.out) (.bool (sg z)) (.slice A2 n2 c2))
        have HB := Lib.hid (below_fill (g := w.heap.size) (below_two HW.out BN4.out) (by omega) (.bool (sg z)) (.slice A2 n2 c2))
        clear bm
        go_wp2
        refine bodyPost_ret (results_mixed rfl _ _ w.heap.size 25 #[.bool (sg z), .slice A2 n2 c2] (0, 0) _ (.bool true) rfl rfl HF.out Tryz.underlying25 rfl int_size) rfl ?_
        exact ⟨A2, n2, c2, rfl, HP.out, HB.out⟩
    · have hk2 : k = false := by simpa using hk1
      have em : m = 0 := hk0 hk2
      subst hk2
      subst em
      have ev : v = false := by rw [← hv]; rfl
      subst ev
      have ez : z = 0 := by rw [← hz]; rfl
      subst ez
      clear hv hz hk0 hk1
      have HF := Lib.hid ((HZ.out.below BN3.out).fill (.bool false) (.slice none 0 0))
      have HB := Lib.hid (below_fill (g := w.heap.size) (below_two HW.out BN3.out) (by omega) (.bool false) (.slice none 0 0))
      clear h2
      go_wp2
      refine bodyPost_ret (results_mixed rfl _ _ w.heap.size 25 #[.bool false, .slice none 0 0] (0, 0) _ (.bool false) rfl rfl HF.out Tryz.underlying25 rfl int_size) rfl ?_
      exact ⟨none, 0, 0, rfl, ⟨⟨IsN.nil _ _, rfl, Nat.le_refl _, Nat.zero_le _⟩, rfl⟩, HB.out⟩
  · rw [zOk_plain hm] at hv
    rw [zV_plain hm] at hz
    have HC := Lib.hid (cutMinus_no t hm (w.alloc zbox))
    clear hm
    obtain ⟨k, hk⟩ : ∃ k, numOk (bytesOf t) = k := ⟨_, rfl⟩
    obtain ⟨m, hm⟩ : ∃ m, numV (bytesOf t) = m := ⟨_, rfl⟩
    rw [hk] at hv
    rw [hm] at hz
    have HK := Lib.hid hk
    have HM := Lib.hid hm
    have hk0 : k = false → m = 0 := fun h => by rw [← hm]; exact numV_no (hk.trans h)
    clear hk hm
    go_enter Tryz.func7, Tryz.ntmps7
    go_wp2_with fail
    refine HC.out.mono ?_
    rintro e w2 ⟨rfl, rfl⟩
    have HK2 := HK
    have HM2 := HM
    go_wp2_with fail
    refine (digParse_c t _ (HT.out.below HW.out) k HK2.out m HM2.out).mono ?_
    rintro e w3 ⟨A2, n2, c2, rfl, h2, bn⟩
    have BN3 := Lib.hid bn
    clear bn
    obtain ⟨e0, e1, f0, f1⟩ := (HZ.out.below BN3.out).cells
    by_cases hk1 : k = true
    · subst hk1
      have ev : v = true := hv.symm
      subst ev
      have HS : RowKit.Hid (zOf false m = z) := by
        show _ = _
        rw [← hz]; rfl
      clear hv hz hk0
      go_wp2_with fail
      refine (signed_c h2 _ z (by first | exact HS.out | simpa using HS.out)).mono ?_
      rintro e w5 ⟨rfl, h4, bm⟩
      have BN4 := Lib.hid (below_two BN3.out bm)
      clear e0 e1 f0 f1
      obtain ⟨e0, e1, f0, f1⟩ := (HZ.out.below BN4.out).cells
      have HF := Lib.hid ((HZ.out.below BN4.out).fill (.bool (sg z)) (.slice A2 n2 c2))
      have HP := Lib.hid (h4.put (HZ.out.below BN4.out) (.bool (sg z)) (.slice A2 n2 c2))
      have HB := Lib.hid (below_fill (g := w.heap.size) (below_two HW.out BN4.out) (by omega) (.bool (sg z)) (.slice A2 n2 c2))
      clear bm
      go_wp2
      refine bodyPost_ret (results_mixed rfl _ _ w.heap.size 25 #[.bool (sg z), .slice A2 n2 c2] (0, 0) _ (.bool true) rfl rfl HF.out Tryz.underlying25 rfl int_size) rfl ?_
      exact ⟨A2, n2, c2, rfl, HP.out, HB.out⟩
    · have hk2 : k = false := by simpa using hk1
      have em : m = 0 := hk0 hk2
      subst hk2
      subst em
      have ev : v = false := by rw [← hv]
      subst ev
      have ez : z = 0 := by rw [← hz]; rfl
      subst ez
      clear hv hz hk0 hk1
      have HF := Lib.hid ((HZ.out.below BN3.out).fill (.bool false) (.slice none 0 0))
      have HB := Lib.hid (below_fill (g := w.heap.size) (below_two HW.out BN3.out) (by omega) (.bool false) (.slice none 0 0))
      clear h2
      go_wp2
      refine bodyPost_ret (results_mixed rfl _ _ w.heap.size 25 #[.bool false, .slice none 0 0] (0, 0) _ (.bool false) rfl rfl HF.out Tryz.underlying25 rfl int_size) rfl ?_
      exact ⟨none, 0, 0, rfl, ⟨⟨IsN.nil _ _, rfl, Nat.le_refl _, Nat.zero_le _⟩, rfl⟩, HB.out⟩

end Go.Proofs.YtgdchljbjnhchaaGreatDoor

/- All contracts of package whole. No condition. -/
namespace Go.Proofs.YtgdchljbjnhchaaGreatDoor
end Go.Proofs.YtgdchljbjnhchaaGreatDoor

/- The statements' check that package whole is there (wakes) answers true, whatever the memory is, where the table of powers of ten reads as it is laid. Condition: the table. -/
namespace Go.Proofs.YtgdchljbjnhchaaGreatDoor
open Go.RowKit Limb
set_option linter.unusedVariables false

theorem ww0a : zOk (bytesOf ⟨#[45, 49, 50]⟩) = true := by decide +kernel
theorem ww0b : zV (bytesOf ⟨#[45, 49, 50]⟩) = -12 := by decide +kernel
theorem ww1a : zOk (bytesOf ⟨#[45, 48]⟩) = false := by decide +kernel
theorem ww1b : zV (bytesOf ⟨#[45, 48]⟩) = 0 := by decide +kernel
theorem wt0 : strOf (zT (-9223372036854775808)) = ⟨#[45, 57, 50, 50, 51, 51, 55, 50, 48, 51, 54, 56, 53, 52, 55, 55, 53, 56, 48, 56]⟩ := by kernel_rfl
theorem wt1 : strOf (zT 12) = ⟨#[49, 50]⟩ := by kernel_rfl
theorem wl12 : [12] = limbs 12 := by
  have h := eq_limbs (xs := [12]) (by intro x hx; simp at hx; omega) (.inr (by decide))
  have e : Limb.val [12] = 12 := by decide +kernel
  rw [e] at h
  exact h
theorem sg_m12 : sg (-12) = true := rfl
theorem sg_0 : sg 0 = false := rfl
theorem zz_nil (w : World) (L : Nat) : ZZ w false none 0 0 [] 0 L := ⟨⟨IsN.nil _ _, rfl, Nat.le_refl _, Nat.zero_le _⟩, rfl⟩

set_option maxHeartbeats 4000000 in
set_option maxRecDepth 100000 in
theorem wakes_any (w : World) (T : Tab w) : Calls Tryz.prog 5 #[] w fun e w' => e = .returned (.bool true) ∧ Below w.heap.size w w' := by
  have bw := bel_refl w
  have HTab := Lib.hid T
  clear T
  go_enter Tryz.func5, Tryz.ntmps5
  go_wp2_with fail
  refine (wOf_c (-9223372036854775808) (by decide) (by decide) w).mono ?_
  rintro e w1 ⟨A_a, n_a, c_a, rfl, h_a, bn⟩
  replace HTab := Lib.hid (HTab.out.below bn)
  replace bw := below_two bw bn
  clear bn
  go_wp2_with fail
  have h_ra := row2_new w1 25 (.bool (sg (-9223372036854775808))) (.slice A_a n_a c_a)
  have bn := below_new w1 (.cells #[Value.bool (sg (-9223372036854775808)), Value.slice A_a n_a c_a] 25)
  replace h_a := h_a.below bn
  replace HTab := Lib.hid (HTab.out.below bn)
  replace bw := below_two bw bn
  clear bn
  generalize w1.alloc (.cells #[Value.bool (sg (-9223372036854775808)), Value.slice A_a n_a c_a] 25) = w2 at *
  obtain ⟨q_a, eg⟩ : ∃ g, g = w1.heap.size := ⟨_, rfl⟩
  rw [← eg] at h_ra ⊢
  clear eg
  refine (wParse_c ⟨#[45, 49, 50]⟩ w2 HTab.out true ww0a _ ww0b).mono ?_
  rintro e w3 ⟨A_p, n_p, c_p, rfl, h_p, bn⟩
  replace h_a := h_a.below bn
  replace h_ra := h_ra.below bn
  replace HTab := Lib.hid (HTab.out.below bn)
  replace bw := below_two bw bn
  clear bn
  go_wp2_with fail
  have h_rp := row2_new w3 25 (.bool (sg (-12))) (.slice A_p n_p c_p)
  have bn := below_new w3 (.cells #[Value.bool (sg (-12)), Value.slice A_p n_p c_p] 25)
  replace h_a := h_a.below bn
  replace h_ra := h_ra.below bn
  replace h_p := h_p.below bn
  replace HTab := Lib.hid (HTab.out.below bn)
  replace bw := below_two bw bn
  clear bn
  generalize w3.alloc (.cells #[Value.bool (sg (-12)), Value.slice A_p n_p c_p] 25) = w4 at *
  obtain ⟨q_p, eg⟩ : ∃ g, g = w3.heap.size := ⟨_, rfl⟩
  rw [← eg] at h_rp ⊢
  clear eg
  refine (wParse_c ⟨#[45, 48]⟩ w4 HTab.out false ww1a _ ww1b).mono ?_
  rintro e w5 ⟨A_n, n_n, c_n, rfl, h_n, bn⟩
  replace h_a := h_a.below bn
  replace h_ra := h_ra.below bn
  replace h_p := h_p.below bn
  replace h_rp := h_rp.below bn
  replace HTab := Lib.hid (HTab.out.below bn)
  replace bw := below_two bw bn
  clear bn
  go_wp2_with fail
  clear h_n
  have l0 := lit_c (w5.alloc (.cells #[Value.bool (sg 0), Value.slice A_n n_n c_n] 25)) [0] (by intro x hx; simp at hx; omega) 1 rfl
  have bn := below_two (below_new w5 (.cells #[Value.bool (sg 0), Value.slice A_n n_n c_n] 25)) (below_new _ (.cells #[Value.int IntKind.u32 0] 42))
  replace h_a := h_a.below bn
  replace h_ra := h_ra.below bn
  replace h_p := h_p.below bn
  replace h_rp := h_rp.below bn
  replace HTab := Lib.hid (HTab.out.below bn)
  replace bw := below_two bw bn
  clear bn
  rw [World.size_alloc] at l0
  have h_l : ZZ ((w5.alloc (.cells #[Value.bool (sg 0), Value.slice A_n n_n c_n] 25)).alloc (.cells #[Value.int IntKind.u32 0] 42)) true (some ⟨w5.heap.size + 1, 0, none⟩) 1 1 [0] 0 1 := ⟨l0, rfl⟩
  clear l0
  generalize (w5.alloc (.cells #[Value.bool (sg 0), Value.slice A_n n_n c_n] 25)).alloc (.cells #[Value.int IntKind.u32 0] 42) = w6 at *
  refine (wTrim_c h_l (by decide)).mono ?_
  rintro e w7 ⟨A_z, n_z, c_z, rfl, h_z, bn⟩
  replace h_a := h_a.below bn
  replace h_ra := h_ra.below bn
  replace h_p := h_p.below bn
  replace h_rp := h_rp.below bn
  replace HTab := Lib.hid (HTab.out.below bn)
  replace bw := below_two bw bn
  clear bn
  clear h_l
  rw [sg_0] at h_z ⊢
  obtain rfl : n_z = 0 := by have h := h_z.nn.isN.len; rw [← h]; rfl
  go_wp2
  have h_rz := row2_new w7 25 (.bool false) (.slice A_z 0 c_z)
  have bn := below_new w7 (.cells #[Value.bool false, Value.slice A_z 0 c_z] 25)
  replace h_a := h_a.below bn
  replace h_ra := h_ra.below bn
  replace h_p := h_p.below bn
  replace h_rp := h_rp.below bn
  replace h_z := h_z.below bn
  replace HTab := Lib.hid (HTab.out.below bn)
  replace bw := below_two bw bn
  clear bn
  generalize w7.alloc (.cells #[Value.bool false, Value.slice A_z 0 c_z] 25) = w8 at *
  obtain ⟨q_z, eg⟩ : ∃ g, g = w7.heap.size := ⟨_, rfl⟩
  rw [← eg] at h_rz ⊢
  clear eg
  have KL : RowKit.Hid (∀ wx : World, ZZ (wx.alloc (.cells #[Value.int IntKind.u32 12] 42)) true (some ⟨wx.heap.size, 0, none⟩) 1 1 [12] (-12) 1) := fun wx => ⟨lit_c wx [12] (by intro x hx; simp at hx; omega) 1 rfl, rfl⟩
  generalize w8 = wS at *
  have KA : RowKit.Hid (∀ wx, Below wS.heap.size wS wx → (wx.cell? ⟨q_a, 0, none⟩ = some (.bool (sg (-9223372036854775808))) ∧ wx.cell? ⟨q_a, 1, none⟩ = some (.slice A_a n_a c_a) ∧ wx.cell? ⟨q_p, 0, none⟩ = some (.bool (sg (-12))) ∧ wx.cell? ⟨q_p, 1, none⟩ = some (.slice A_p n_p c_p) ∧ wx.cell? ⟨q_z, 0, none⟩ = some (.bool false) ∧ wx.cell? ⟨q_z, 1, none⟩ = some (.slice A_z 0 c_z) ∧ Below wS.heap.size wS wx)) := fun wx hb => ⟨(h_ra.below hb).c0, (h_ra.below hb).c1, (h_rp.below hb).c0, (h_rp.below hb).c1, (h_rz.below hb).c0, (h_rz.below hb).c1, hb⟩
  have KS : RowKit.Hid (∀ wx w2, (wx.cell? ⟨q_a, 0, none⟩ = some (.bool (sg (-9223372036854775808))) ∧ wx.cell? ⟨q_a, 1, none⟩ = some (.slice A_a n_a c_a) ∧ wx.cell? ⟨q_p, 0, none⟩ = some (.bool (sg (-12))) ∧ wx.cell? ⟨q_p, 1, none⟩ = some (.slice A_p n_p c_p) ∧ wx.cell? ⟨q_z, 0, none⟩ = some (.bool false) ∧ wx.cell? ⟨q_z, 1, none⟩ = some (.slice A_z 0 c_z) ∧ Below wS.heap.size wS wx) → Below wx.heap.size wx w2 → (w2.cell? ⟨q_a, 0, none⟩ = some (.bool (sg (-9223372036854775808))) ∧ w2.cell? ⟨q_a, 1, none⟩ = some (.slice A_a n_a c_a) ∧ w2.cell? ⟨q_p, 0, none⟩ = some (.bool (sg (-12))) ∧ w2.cell? ⟨q_p, 1, none⟩ = some (.slice A_p n_p c_p) ∧ w2.cell? ⟨q_z, 0, none⟩ = some (.bool false) ∧ w2.cell? ⟨q_z, 1, none⟩ = some (.slice A_z 0 c_z) ∧ Below wS.heap.size wS w2)) := fun wx w2 hS bn => KA.out _ (below_two hS.2.2.2.2.2.2 bn)
  have KU : RowKit.Hid (∀ (wx : World) (q : Nat) (u v : Value), (wx.cell? ⟨q_a, 0, none⟩ = some (.bool (sg (-9223372036854775808))) ∧ wx.cell? ⟨q_a, 1, none⟩ = some (.slice A_a n_a c_a) ∧ wx.cell? ⟨q_p, 0, none⟩ = some (.bool (sg (-12))) ∧ wx.cell? ⟨q_p, 1, none⟩ = some (.slice A_p n_p c_p) ∧ wx.cell? ⟨q_z, 0, none⟩ = some (.bool false) ∧ wx.cell? ⟨q_z, 1, none⟩ = some (.slice A_z 0 c_z) ∧ Below wS.heap.size wS wx) → wS.heap.size ≤ q → (((wx.setCell ⟨q, 0, none⟩ u).setCell ⟨q, 1, none⟩ v).cell? ⟨q_a, 0, none⟩ = some (.bool (sg (-9223372036854775808))) ∧ ((wx.setCell ⟨q, 0, none⟩ u).setCell ⟨q, 1, none⟩ v).cell? ⟨q_a, 1, none⟩ = some (.slice A_a n_a c_a) ∧ ((wx.setCell ⟨q, 0, none⟩ u).setCell ⟨q, 1, none⟩ v).cell? ⟨q_p, 0, none⟩ = some (.bool (sg (-12))) ∧ ((wx.setCell ⟨q, 0, none⟩ u).setCell ⟨q, 1, none⟩ v).cell? ⟨q_p, 1, none⟩ = some (.slice A_p n_p c_p) ∧ ((wx.setCell ⟨q, 0, none⟩ u).setCell ⟨q, 1, none⟩ v).cell? ⟨q_z, 0, none⟩ = some (.bool false) ∧ ((wx.setCell ⟨q, 0, none⟩ u).setCell ⟨q, 1, none⟩ v).cell? ⟨q_z, 1, none⟩ = some (.slice A_z 0 c_z) ∧ Below wS.heap.size wS ((wx.setCell ⟨q, 0, none⟩ u).setCell ⟨q, 1, none⟩ v))) := fun wx q u v hS hq => KA.out _ ((hS.2.2.2.2.2.2.setCell (p := ⟨q, 0, none⟩) hq u).setCell (p := ⟨q, 1, none⟩) hq v)
  have K_a : RowKit.Hid (∀ wx, (wx.cell? ⟨q_a, 0, none⟩ = some (.bool (sg (-9223372036854775808))) ∧ wx.cell? ⟨q_a, 1, none⟩ = some (.slice A_a n_a c_a) ∧ wx.cell? ⟨q_p, 0, none⟩ = some (.bool (sg (-12))) ∧ wx.cell? ⟨q_p, 1, none⟩ = some (.slice A_p n_p c_p) ∧ wx.cell? ⟨q_z, 0, none⟩ = some (.bool false) ∧ wx.cell? ⟨q_z, 1, none⟩ = some (.slice A_z 0 c_z) ∧ Below wS.heap.size wS wx) → ZZ wx (sg (-9223372036854775808)) A_a n_a c_a (limbs ((-9223372036854775808) : Int).natAbs) (-9223372036854775808) 2) := fun wx hS => h_a.below hS.2.2.2.2.2.2
  have K_p : RowKit.Hid (∀ wx, (wx.cell? ⟨q_a, 0, none⟩ = some (.bool (sg (-9223372036854775808))) ∧ wx.cell? ⟨q_a, 1, none⟩ = some (.slice A_a n_a c_a) ∧ wx.cell? ⟨q_p, 0, none⟩ = some (.bool (sg (-12))) ∧ wx.cell? ⟨q_p, 1, none⟩ = some (.slice A_p n_p c_p) ∧ wx.cell? ⟨q_z, 0, none⟩ = some (.bool false) ∧ wx.cell? ⟨q_z, 1, none⟩ = some (.slice A_z 0 c_z) ∧ Below wS.heap.size wS wx) → ZZ wx (sg (-12)) A_p n_p c_p (limbs (-12 : Int).natAbs) (-12) 223) := fun wx hS => h_p.below hS.2.2.2.2.2.2
  have K_z : RowKit.Hid (∀ wx, (wx.cell? ⟨q_a, 0, none⟩ = some (.bool (sg (-9223372036854775808))) ∧ wx.cell? ⟨q_a, 1, none⟩ = some (.slice A_a n_a c_a) ∧ wx.cell? ⟨q_p, 0, none⟩ = some (.bool (sg (-12))) ∧ wx.cell? ⟨q_p, 1, none⟩ = some (.slice A_p n_p c_p) ∧ wx.cell? ⟨q_z, 0, none⟩ = some (.bool false) ∧ wx.cell? ⟨q_z, 1, none⟩ = some (.slice A_z 0 c_z) ∧ Below wS.heap.size wS wx) → ZZ wx false A_z 0 c_z (limbs (0 : Int).natAbs) 0 1) := fun wx hS => h_z.below hS.2.2.2.2.2.2
  have KR_a : RowKit.Hid (∀ wx, (wx.cell? ⟨q_a, 0, none⟩ = some (.bool (sg (-9223372036854775808))) ∧ wx.cell? ⟨q_a, 1, none⟩ = some (.slice A_a n_a c_a) ∧ wx.cell? ⟨q_p, 0, none⟩ = some (.bool (sg (-12))) ∧ wx.cell? ⟨q_p, 1, none⟩ = some (.slice A_p n_p c_p) ∧ wx.cell? ⟨q_z, 0, none⟩ = some (.bool false) ∧ wx.cell? ⟨q_z, 1, none⟩ = some (.slice A_z 0 c_z) ∧ Below wS.heap.size wS wx) → Row2 wx q_a 25 (.bool (sg (-9223372036854775808))) (.slice A_a n_a c_a)) := fun wx hS => h_ra.below hS.2.2.2.2.2.2
  have KR_p : RowKit.Hid (∀ wx, (wx.cell? ⟨q_a, 0, none⟩ = some (.bool (sg (-9223372036854775808))) ∧ wx.cell? ⟨q_a, 1, none⟩ = some (.slice A_a n_a c_a) ∧ wx.cell? ⟨q_p, 0, none⟩ = some (.bool (sg (-12))) ∧ wx.cell? ⟨q_p, 1, none⟩ = some (.slice A_p n_p c_p) ∧ wx.cell? ⟨q_z, 0, none⟩ = some (.bool false) ∧ wx.cell? ⟨q_z, 1, none⟩ = some (.slice A_z 0 c_z) ∧ Below wS.heap.size wS wx) → Row2 wx q_p 25 (.bool (sg (-12))) (.slice A_p n_p c_p)) := fun wx hS => h_rp.below hS.2.2.2.2.2.2
  have KR_z : RowKit.Hid (∀ wx, (wx.cell? ⟨q_a, 0, none⟩ = some (.bool (sg (-9223372036854775808))) ∧ wx.cell? ⟨q_a, 1, none⟩ = some (.slice A_a n_a c_a) ∧ wx.cell? ⟨q_p, 0, none⟩ = some (.bool (sg (-12))) ∧ wx.cell? ⟨q_p, 1, none⟩ = some (.slice A_p n_p c_p) ∧ wx.cell? ⟨q_z, 0, none⟩ = some (.bool false) ∧ wx.cell? ⟨q_z, 1, none⟩ = some (.slice A_z 0 c_z) ∧ Below wS.heap.size wS wx) → Row2 wx q_z 25 (.bool false) (.slice A_z 0 c_z)) := fun wx hS => h_rz.below hS.2.2.2.2.2.2
  have KT : RowKit.Hid (∀ wx, (wx.cell? ⟨q_a, 0, none⟩ = some (.bool (sg (-9223372036854775808))) ∧ wx.cell? ⟨q_a, 1, none⟩ = some (.slice A_a n_a c_a) ∧ wx.cell? ⟨q_p, 0, none⟩ = some (.bool (sg (-12))) ∧ wx.cell? ⟨q_p, 1, none⟩ = some (.slice A_p n_p c_p) ∧ wx.cell? ⟨q_z, 0, none⟩ = some (.bool false) ∧ wx.cell? ⟨q_z, 1, none⟩ = some (.slice A_z 0 c_z) ∧ Below wS.heap.size wS wx) → Tab wx) := fun wx hS => HTab.out.below hS.2.2.2.2.2.2
  have HF := Lib.hid bw
  have KF : RowKit.Hid (∀ wx, (wx.cell? ⟨q_a, 0, none⟩ = some (.bool (sg (-9223372036854775808))) ∧ wx.cell? ⟨q_a, 1, none⟩ = some (.slice A_a n_a c_a) ∧ wx.cell? ⟨q_p, 0, none⟩ = some (.bool (sg (-12))) ∧ wx.cell? ⟨q_p, 1, none⟩ = some (.slice A_p n_p c_p) ∧ wx.cell? ⟨q_z, 0, none⟩ = some (.bool false) ∧ wx.cell? ⟨q_z, 1, none⟩ = some (.slice A_z 0 c_z) ∧ Below wS.heap.size wS wx) → Below w.heap.size w wx) := fun wx hS => below_two HF.out hS.2.2.2.2.2.2
  obtain ⟨d_a0, d_a1, d_p0, d_p1, d_z0, d_z1, _⟩ := KA.out _ (Below.refl _ _)
  clear h_a h_ra h_p h_rp h_z h_rz HTab bw
  clear HF
  try dsimp only [List.append]
  go_region_held3 (fun wx => wx.cell? ⟨q_a, 0, none⟩ = some (.bool (sg (-9223372036854775808))) ∧ wx.cell? ⟨q_a, 1, none⟩ = some (.slice A_a n_a c_a) ∧ wx.cell? ⟨q_p, 0, none⟩ = some (.bool (sg (-12))) ∧ wx.cell? ⟨q_p, 1, none⟩ = some (.slice A_p n_p c_p) ∧ wx.cell? ⟨q_z, 0, none⟩ = some (.bool false) ∧ wx.cell? ⟨q_z, 1, none⟩ = some (.slice A_z 0 c_z) ∧ Below wS.heap.size wS wx) (first | assumption | exact KA.out _ ((Below.refl _ _).drew) | (with_reducible refine KS.out _ _ ?_ (below_new _ _); assumption)) (first
    | (go_at_call 18; (have mk := bn_e; clear mk); (with_reducible refine (wText_c (KT.out _ (by assumption)) h_e (by decide) _ wt1).mono ?_); rintro e w2 ⟨rfl, bn_te⟩; have hS2 := KS.out _ _ (by assumption) bn_te)
    | (go_at_call 14; (have mk := bn_ky; clear mk); (with_reducible refine (wNeg_c (K_p.out _ (by assumption)) (by decide) 12 (by decide)).mono ?_); rintro e w2 ⟨A_e, n_e, c_e, rfl, h_e, bn_e⟩; have hS2 := KS.out _ _ (by assumption) bn_e)
    | (go_at_call 9; (have mk := bn_v; clear mk); (with_reducible refine (keepInt_c (h_y.below bn_v) h_v (by decide) (by decide) true (zsame rfl)).mono ?_); rintro e w2 ⟨rfl, bn_ky⟩; have hS2 := KS.out _ _ (by assumption) bn_ky)
    | (go_at_call 22; (have mk := bn_y; clear mk); (with_reducible refine (wOf_c (144) (by decide) (by decide) _).mono ?_); rintro e w2 ⟨A_v, n_v, c_v, rfl, h_v, bn_v⟩; have hS2 := KS.out _ _ (by assumption) bn_v)
    | (go_at_call 12; (have mk := bn_kx; clear mk); (with_reducible refine (wMul_c (K_p.out _ (by assumption)) (K_p.out _ (by assumption)) 446 (by decide) (by decide) (by decide) 144 (by decide)).mono ?_); rintro e w2 ⟨A_y, n_y, c_y, rfl, h_y, bn_y⟩; have hS2 := KS.out _ _ (by assumption) bn_y)
    | (go_at_call 9; (have mk := bn_x; clear mk); (with_reducible refine (keepInt_c h_x (K_z.out _ (by assumption)) (by decide) (by decide) true (by decide +kernel)).mono ?_); rintro e w2 ⟨rfl, bn_kx⟩; have hS2 := KS.out _ _ (by assumption) bn_kx)
    | (go_at_call 10; (have mk := bn_m; clear mk); (with_reducible refine (wAdd_c (K_p.out _ (by assumption)) h_m 224 (by decide) (by decide) (by decide) 0 (by decide)).mono ?_); rintro e w2 ⟨A_x, n_x, c_x, rfl, h_x, bn_x⟩; have hS2 := KS.out _ _ (by assumption) bn_x)
    | (go_at_call 22; (have mk := bn_c; clear mk); (with_reducible refine (wOf_c (12) (by decide) (by decide) _).mono ?_); rintro e w2 ⟨A_m, n_m, c_m, rfl, h_m, bn_m⟩; have hS2 := KS.out _ _ (by assumption) bn_m)
    | (go_at_call 16; (have mk := bn_o; clear mk); (with_reducible refine (wCmp_c (K_p.out _ (by assumption)) h_o (by decide) (by decide) 1 (by decide)).mono ?_); rintro e w2 ⟨rfl, bn_c⟩; have hS2 := KS.out _ _ (by assumption) bn_c)
    | (go_at_call 22; (have mk := bn_kp; clear mk); (with_reducible refine (wOf_c (-13) (by decide) (by decide) _).mono ?_); rintro e w2 ⟨A_o, n_o, c_o, rfl, h_o, bn_o⟩; have hS2 := KS.out _ _ (by assumption) bn_o)
    | (go_at_call 9; (have mk := bn_t; clear mk); (with_reducible refine (keepInt_c (K_p.out _ (by assumption)) (KL.out _) (by decide) (by decide) true (by decide +kernel)).mono ?_); rintro e w2 ⟨rfl, bn_kp⟩; have hS2 := KS.out _ _ (by assumption) bn_kp)
    | (go_at_call 18; (with_reducible refine (wText_c (KT.out _ (by assumption)) (K_a.out _ (by assumption)) (by decide) _ wt0).mono ?_); rintro e w2 ⟨rfl, bn_t⟩; have hS2 := KS.out _ _ (by assumption) bn_t))
  all_goals (go_wp2; go_ret; exact ⟨rfl, KF.out _ (by assumption)⟩)

end Go.Proofs.YtgdchljbjnhchaaGreatDoor

/- Mathematics of the order of whole numbers; a number's text and back. No condition. -/
namespace Go.Proofs.YtgdchljbjnhchaaGreatDoor
open Go.RowKit Limb

theorem cmpZ_swap (x y : Int) : cmpZ y x = -cmpZ x y := by unfold cmpZ; (repeat' split) <;> omega
theorem cmpZ_add (x y z : Int) : cmpZ (x + z) (y + z) = cmpZ x y := by unfold cmpZ; (repeat' split) <;> omega
theorem cmpZ_neg (x y : Int) : cmpZ (-x) (-y) = -cmpZ x y := by unfold cmpZ; (repeat' split) <;> omega
theorem cmpZ_mul (x y z : Int) : cmpZ (x * z) (y * z) = cmpZ x y * cmpZ z 0 := by
  rcases Int.lt_trichotomy z 0 with hz | rfl | hz
  · rw [cmpZ_lt hz]
    rcases Int.lt_trichotomy x y with h | rfl | h
    · rw [cmpZ_lt h, cmpZ_gt (Int.mul_lt_mul_of_neg_right h hz)]; rfl
    · rw [cmpZ_eq rfl, cmpZ_eq rfl]; rfl
    · rw [cmpZ_gt h, cmpZ_lt (Int.mul_lt_mul_of_neg_right h hz)]; rfl
  · rw [Int.mul_zero, Int.mul_zero, cmpZ_eq rfl, Int.mul_zero]
  · rw [cmpZ_gt hz, Int.mul_one]
    rcases Int.lt_trichotomy x y with h | rfl | h
    · rw [cmpZ_lt h, cmpZ_lt (Int.mul_lt_mul_of_pos_right h hz)]
    · rw [cmpZ_eq rfl, cmpZ_eq rfl]
    · rw [cmpZ_gt h, cmpZ_gt (Int.mul_lt_mul_of_pos_right h hz)]
theorem wrap_sign {v : Int} (h : -1 ≤ v ∧ v ≤ 1) : IntKind.i64.wrap v = v ∧ wrap64 v = v := by
  have : v = -1 ∨ v = 0 ∨ v = 1 := by omega
  rcases this with rfl | rfl | rfl <;> exact ⟨by decide +kernel, by decide +kernel⟩
theorem sign_mul {x y : Int} (hx : -1 ≤ x ∧ x ≤ 1) (hy : -1 ≤ y ∧ y ≤ 1) : -1 ≤ x * y ∧ x * y ≤ 1 := by
  have h1 : x = -1 ∨ x = 0 ∨ x = 1 := by omega
  rcases h1 with rfl | rfl | rfl <;> omega
theorem zback {z : Int} {S : ByteArray} (h : strOf (zT z) = S) (hl : (decT z.natAbs).length ≤ 2000) : zOk (bytesOf S) = true ∧ zV (bytesOf S) = z := by
  subst h
  rw [bytesOf_strOf (zT_bytes z)]
  exact ⟨zOk_T hl, zV_T hl⟩

end Go.Proofs.YtgdchljbjnhchaaGreatDoor

/- The statements' helper Long, and the mathematics of texts behind a sign. No condition. -/
namespace Go.Proofs.YtgdchljbjnhchaaGreatDoor
open Go.RowKit Limb
set_option linter.unusedVariables false

theorem long_c (s : Bool) (A : Option Addr) (n c : Nat) (v : Bool) (hv : decide (60 < n) = v) (w : World) :
    Calls Tryz.prog 4 #[.agg #[.bool s, .slice A n c]] w fun e w' => e = .returned (.bool v) ∧ Below w.heap.size w w' := by
  have HW := Lib.hid (below_new w (.cells #[Value.bool s, Value.slice A n c] 25))
  by_cases h : 60 < n
  · obtain rfl : v = true := by rw [← hv]; simp [h]
    have h2 : (60 : Int) < n := by omega
    clear hv
    go_enter Tryz.func4, Tryz.ntmps4
    go_wp2
    go_ret
    exact ⟨by first | rfl | (simp; omega), HW.out⟩
  · obtain rfl : v = false := by rw [← hv]; simp [h]
    have h2 : (n : Int) ≤ 60 := by omega
    clear hv
    go_enter Tryz.func4, Tryz.ntmps4
    go_wp2
    go_ret
    exact ⟨by first | rfl | (simp; omega), HW.out⟩

theorem cmpZ_zero (x y : Int) : (cmpZ x y == 0) = decide (x = y) := by
  rcases Int.lt_trichotomy x y with h | h | h
  · rw [cmpZ_lt h, decide_eq_false (by omega)]; rfl
  · rw [cmpZ_eq h, decide_eq_true h]; rfl
  · rw [cmpZ_gt h, decide_eq_false (by omega)]; rfl
theorem zT_beq (x y : Int) : ((strOf (zT x)).toList == (strOf (zT y)).toList) = decide (x = y) := by
  rw [str_beq (zT_bytes _) (zT_bytes _), decide_eq_decide]
  exact ⟨zT_inj, congrArg zT⟩
theorem zT_len (x : Int) : 0 < (zT x).length ∧ (zT x).length ≤ (decT x.natAbs).length + 1 := by
  by_cases h : x < 0
  · rw [zT_neg h]; simp
  · rw [zT_pos (by omega)]; have := decT_pos x.natAbs; omega
theorem zT_first_neg {x : Int} (h : x < 0) : lim (zT x) 0 = 45 := by rw [zT_neg h]; rfl
theorem zT_first_pos {x : Int} (h : 0 ≤ x) : lim (zT x) 0 ≠ 45 := by
  rw [zT_pos h]
  intro e
  cases hd : decT x.natAbs with
  | nil => exact absurd hd (decT_ne _)
  | cons y l =>
    rw [hd] at e
    have e2 : y = 45 := e
    exact dec_head x.natAbs (by rw [hd, e2]; rfl)
theorem minus_neg {x : Int} (h : x < 0) : zOk (45 :: zT x) = false := by
  rw [zOk_minus rfl]
  show (numOk (zT x) && _) = false
  have : numOk (zT x) = false := numOk_bad (k := 0) (zT_len x).1 (by rw [zT_first_neg h]; rfl)
  rw [this]; rfl
theorem minus_zero : zOk (45 :: zT 0) = false := by decide +kernel
theorem minus_pos {x : Int} (h : 0 < x) (hl : (decT x.natAbs).length ≤ 2000) : zOk (45 :: zT x) = true ∧ zV (45 :: zT x) = -x := by
  have e : 45 :: zT x = zT (-x) := by
    rw [zT_pos (by omega), zT_neg (by omega)]
    congr 2
    omega
  rw [e]
  have hl2 : (decT (-x).natAbs).length ≤ 2000 := by rw [Int.natAbs_neg]; exact hl
  exact ⟨zOk_T hl2, zV_T hl2⟩
theorem minus_bytes {x : Int} {S M : ByteArray} (h : strOf (zT x) = S) (hM : (⟨#[45]⟩ : ByteArray) ++ S = M) : bytesOf M = 45 :: zT x := by
  rw [← hM, ← h, minus_text, bytesOf_strOf (bytes_cons.2 ⟨by decide, zT_bytes x⟩)]

/-- A row of the call's own is no block of a struct. -/
theorem OwnN.noRow {w : World} {B q : Nat} {A : Option Addr} {n c : Nat} {zs : List Nat} {u v : Value} (h : OwnN w B A n c zs) (hq : Row2 w q 25 u v) : ∀ b o s, A = some ⟨b, o, s⟩ → b ≠ q := by
  rintro b o s rfl rfl
  rcases h.1.2 with ⟨hv, _⟩ | ⟨g, cap, cur, hv, hg, hh, _⟩
  · injection hv with hA; cases hA
  · injection hv with hA
    injection hA with hA
    injection hA with hA
    subst hA
    unfold Row2 at hq
    rw [hq] at hh
    injection hh with hh
    injection hh with _ ht
    exact absurd ht (by decide)
theorem Row2.keeps {w w' : World} {q : Nat} {T : TypeId} {u v : Value} (h : Row2 w q T u v) {o : Obj} {row : Option Nat} (hg : (w.alloc o).grownBy w' row) (hr : some q ≠ row) : Row2 w' q T u v := by
  have hlt := h.lt
  unfold Row2 at h ⊢
  rw [hg.block q (by simp; omega) hr, heap_alloc_old w o hlt]
  exact h
theorem noBlock {A : Option Addr} {n c q : Nat} (h : ∀ b o s, A = some ⟨b, o, s⟩ → b ≠ q) : some q ≠ (Value.slice A n c).ownBlock := by
  match A, h with
  | none, _ => simp [Value.ownBlock]
  | some ⟨b, o, s⟩, h =>
    intro e
    simp only [Value.ownBlock] at e
    injection e with e
    exact h b o s rfl e.symm
theorem Row2.set1 {w : World} {q : Nat} {T : TypeId} {u v : Value} (h : Row2 w q T u v) (x : Value) : Row2 (w.setCell ⟨q, 1, none⟩ x) q T u x := by
  unfold Row2 at h ⊢
  simp [World.setCell, Array.getElem?_modify, h]
theorem OwnN.set1 {w : World} {B q : Nat} {A : Option Addr} {n c : Nat} {zs : List Nat} (h : OwnN w B A n c zs) (hA : ∀ b o s, A = some ⟨b, o, s⟩ → b ≠ q) (k : Nat) (x : Value) : OwnN (w.setCell ⟨q, k, none⟩ x) B A n c zs :=
  h.others ((Others.refl q w).setCell k x) hA
theorem OwnN.set2 {w : World} {B q : Nat} {A : Option Addr} {n c : Nat} {zs : List Nat} (h : OwnN w B A n c zs) (hA : ∀ b o s, A = some ⟨b, o, s⟩ → b ≠ q) (x y : Value) : OwnN ((w.setCell ⟨q, 0, none⟩ x).setCell ⟨q, 1, none⟩ y) B A n c zs :=
  h.others (((Others.refl q w).setCell 0 x).setCell 1 y) hA
theorem replicate_next (xs : List Nat) (i : Nat) : xs ++ List.replicate i 0 ++ [0] = xs ++ List.replicate (i + 1) 0 := by
  rw [List.append_assoc, ← List.replicate_succ']
theorem val_noughts (xs : List Nat) (i : Nat) : Limb.val (xs ++ List.replicate i 0) = Limb.val xs := by
  have h := val_zeros i []
  rw [List.append_nil] at h
  rw [val_append, h]
  show _ + _ * (_ * 0) = _
  rw [Nat.mul_zero, Nat.mul_zero, Nat.add_zero]
theorem cmpZ_prod (x y : Int) : cmpZ (x * y) 0 = cmpZ x 0 * cmpZ y 0 := by
  have h := cmpZ_mul x 0 y
  rw [Int.zero_mul] at h
  exact h

/-- A copy of a list of limbs in a row of the call's own. -/
theorem own_o (A : Option Addr) (n c : Nat) (xs : List Nat) (a L : Nat) (w : World) (hx : NN w A n c xs a L) (h1 : L ≤ 1000000000) :
    Calls Tryz.prog 24 #[.slice A n c] w fun e w' => ∃ A2 c2, e = .returned (.slice A2 n c2) ∧ OwnN w' w.heap.size A2 n c2 xs ∧ Below w.heap.size w w' := by
  have hle := hx.le
  have Hx := Lib.hid (hx.below (below_new w (.cells #[] 42)))
  clear hx
  have Hown : RowKit.Hid ((w.alloc (.cells #[] 42)).ownsRow w.heap.size 42 1 (.slice (some ⟨w.heap.size, 0, none⟩) 0 0) 0 (([] : List Nat).map limV)) := own_lit w [] 0 rfl (by omega)
  have Hb : RowKit.Hid (0 ≤ 1000000000 ∧ L ≤ 1000000000 ∧ w.heap.size ≤ (w.alloc (.cells #[] 42)).heap.size ∧ Small []) := ⟨by omega, h1, by simp, small_nil⟩
  go_enter Tryz.func24, Tryz.ntmps24
  go_wp2_with (at_builtin; refine wpList_append_nat rfl _ _ rfl w.heap.size _ 0 [] rfl Hown A n c xs a L rfl Hx Hb ?_)
  intro A2 c2 w' how hgrow
  have hb2 := below_lit hgrow.out (Nat.le_refl _)
  have hn : OwnN w' w.heap.size A2 n c2 xs := by
    have h := how.out
    first | exact h | (rw [Nat.zero_add] at h; exact h)
  have Hn := Lib.hid hn
  clear how hgrow Hown Hb Hx hn
  go_wp2
  go_ret
  exact ⟨_, _, by first | rfl | (rw [Nat.zero_add]), Hn.out, hb2⟩

set_option maxHeartbeats 4000000 in
theorem ownInt_o {w : World} {s : Bool} {A : Option Addr} {n c : Nat} {xs : List Nat} {x : Int} {L : Nat} (hx : ZZ w s A n c xs x L) (h1 : L ≤ 1000000000) :
    Calls Tryz.prog 6 #[.agg #[.bool s, .slice A n c]] w fun e w' => ∃ A2 c2, e = .returned (.agg #[.bool s, .slice A2 n c2]) ∧ OwnN w' w.heap.size A2 n c2 xs ∧ Below w.heap.size w w' := by
  have b1 := below_new w (.cells #[Value.bool s, Value.slice A n c] 25)
  have b2 := below_new (w.alloc (.cells #[Value.bool s, Value.slice A n c] 25)) zbox
  have HW := Lib.hid (below_two b1 b2)
  have HN := Lib.hid (hx.nn.below HW.out)
  have r0 := (row2_new w 25 (.bool s) (.slice A n c)).below b2
  have rz : ZB ((w.alloc (.cells #[Value.bool s, Value.slice A n c] 25)).alloc zbox) (w.alloc (.cells #[Value.bool s, Value.slice A n c] 25)).heap.size := row2_new _ _ _ _
  simp only [World.size_alloc] at rz
  clear b1 b2 hx
  go_enter Tryz.func6, Tryz.ntmps6
  go_wp2
  generalize (w.alloc (.cells #[Value.bool s, Value.slice A n c] 25)).alloc zbox = w1 at *
  have HR0 := Lib.hid r0
  have HZ := Lib.hid rz
  have c00 := r0.c0
  have c01 := r0.c1
  clear r0 rz
  go_region_with (go_at_call 24; (with_reducible refine (own_o _ _ _ _ _ _ _ (by first | exact HN.out | exact HN.out.below (Below.refl _ _).drew) h1).mono ?_); rintro e w2 ⟨A2, c2, rfl, h2, bn⟩; have bn1 : Below w1.heap.size w1 w2 := (by first | exact bn | exact below_two (Below.refl _ _).drew bn); have d0 := (HR0.out.below bn1).c0; have d1 := (HR0.out.below bn1).c1; obtain ⟨e0, e1, f0, f1⟩ := (HZ.out.below bn1).cells)
  all_goals
    have HZ2 := HZ.out.below bn1
    have hno := h2.noRow HZ2
    have HO := Lib.hid ((h2.set2 hno (.bool s) (.slice A2 n c2)).mono (by first | exact HW.out.size | (have := HW.out.size; simpa using this)))
    have HB := Lib.hid (below_fill (g := w.heap.size + 1) (below_two HW.out bn1) (by omega) (.bool s) (.slice A2 n c2))
    have HF := Lib.hid (HZ2.fill (.bool s) (.slice A2 n c2))
    clear d0 d1 e0 e1 f0 f1 bn bn1 HZ2 h2 hno c00 c01
    go_wp2
    refine bodyPost_ret (results_cell_row rfl _ _ (w.heap.size + 1) 25 #[.bool s, .slice A2 n c2] (0, 0) _ rfl HF.out Tryz.underlying25 rfl int_size) rfl ?_
    exact ⟨A2, c2, rfl, HO.out, HB.out⟩

end Go.Proofs.YtgdchljbjnhchaaGreatDoor

/- What the reference of layer 6 answers (Make, Trim, Neg, Text, Of), as contracts over memory. Conditions: sizes of at most so many limbs. -/
namespace Go.Proofs.YtgdchljbjnhchaaGreatDoor
open Go.RowKit Limb
set_option linter.unusedVariables false
section
variable {w : World} {s s' : Bool} {A A' : Option Addr} {n c n' c' : Nat} {xs ys : List Nat} {x y : Int} {L L' : Nat}
set_option maxHeartbeats 4000000 in
set_option maxRecDepth 100000 in
theorem refMake_c {a : Nat} (hx : NN w A n c xs a L) (h1 : L ≤ 1000000000) (z : Int) (hz : zOf s a = z) :
    Calls Tryz.prog 30 #[.bool s, .slice A n c] w fun e w' => ∃ A2 n2 c2, e = .returned (.agg #[.bool (sg z), .slice A2 n2 c2]) ∧ ZZ w' (sg z) A2 n2 c2 (limbs z.natAbs) z L ∧ Below w.heap.size w w' := by
  have HW := Lib.hid (below_new w zbox)
  have HZ : RowKit.Hid (ZB (w.alloc zbox) w.heap.size) := row2_new w _ _ _
  have HN := Lib.hid (hx.below HW.out)
  clear hx
  go_enter Tryz.func30, Tryz.ntmps30
  go_wp2_with fail
  refine (refTrim_c HN.out h1).mono ?_
  rintro e w2 ⟨A2, n2, c2, rfl, h2, bn⟩
  have BN := Lib.hid bn
  have hn : n2 = 0 ↔ a = 0 := by rw [← h2.isN.len]; exact len_limbs_zero
  have HZ2 : RowKit.Hid (ZZ w2 (sg z) A2 n2 c2 (limbs z.natAbs) z L) := ZZ.mk' (by rw [← hz, zOf_abs]; exact h2)
  obtain ⟨e0, e1, f0, f1⟩ := (HZ.out.below BN.out).cells
  clear h2 bn
  by_cases hb : s = true
  · by_cases h0 : a = 0
    · have es : sg z = false := by rw [← hz, h0]; cases s <;> rfl
      subst hb
      have e2 : n2 = 0 := hn.2 h0
      subst e2
      have Hes := Lib.hid es
      rw [es] at HZ2
      clear es hn hz h0
      have HF := Lib.hid ((HZ.out.below BN.out).fill (.bool false) (.slice A2 0 c2))
      have HP := Lib.hid (HZ2.out.put (HZ.out.below BN.out) (.bool false) (.slice A2 0 c2))
      have HB := Lib.hid (below_fill (g := w.heap.size) (below_two HW.out BN.out) (Nat.le_refl _) (.bool false) (.slice A2 0 c2))
      go_wp2
      refine bodyPost_ret (results_cell_row rfl _ _ w.heap.size 25 #[.bool false, .slice A2 0 c2] (0, 0) _ rfl HF.out Tryz.underlying25 rfl int_size) rfl ?_
      exact ⟨A2, 0, c2, by rw [Hes.out], by rw [Hes.out]; exact HP.out, HB.out⟩
    · have es : sg z = true := by
        rw [← hz, hb]; apply sg_neg
        unfold zOf; rw [if_pos rfl]; omega
      have Hp : RowKit.Hid (decide (0 < n2) = true) := by
        have : n2 ≠ 0 := fun h => h0 (hn.1 h)
        show _ = _
        rw [decide_eq_true_eq]; omega
      subst hb
      have Hes := Lib.hid es
      rw [es] at HZ2
      clear es hn hz h0
      have HF := Lib.hid ((HZ.out.below BN.out).fill (.bool (decide (0 < n2))) (.slice A2 n2 c2))
      have HP := Lib.hid (HZ2.out.put (HZ.out.below BN.out) (.bool (decide (0 < n2))) (.slice A2 n2 c2))
      have HB := Lib.hid (below_fill (g := w.heap.size) (below_two HW.out BN.out) (Nat.le_refl _) (.bool (decide (0 < n2))) (.slice A2 n2 c2))
      go_wp2
      refine bodyPost_ret (results_cell_row rfl _ _ w.heap.size 25 #[.bool (decide (0 < n2)), .slice A2 n2 c2] (0, 0) _ rfl HF.out Tryz.underlying25 rfl int_size) rfl ?_
      exact ⟨A2, n2, c2, by rw [Hes.out, Hp.out], by rw [Hes.out]; exact HP.out, HB.out⟩
  · have hb2 : s = false := by simpa using hb
    have es : sg z = false := by rw [← hz, hb2]; apply sg_pos; unfold zOf; simp
    subst hb2
    have Hes := Lib.hid es
    rw [es] at HZ2
    clear es hn hz hb
    have HF := Lib.hid ((HZ.out.below BN.out).fill (.bool false) (.slice A2 n2 c2))
    have HP := Lib.hid (HZ2.out.put (HZ.out.below BN.out) (.bool false) (.slice A2 n2 c2))
    have HB := Lib.hid (below_fill (g := w.heap.size) (below_two HW.out BN.out) (Nat.le_refl _) (.bool false) (.slice A2 n2 c2))
    go_wp2
    refine bodyPost_ret (results_cell_row rfl _ _ w.heap.size 25 #[.bool false, .slice A2 n2 c2] (0, 0) _ rfl HF.out Tryz.underlying25 rfl int_size) rfl ?_
    exact ⟨A2, n2, c2, by rw [Hes.out], by rw [Hes.out]; exact HP.out, HB.out⟩

set_option maxHeartbeats 4000000 in
set_option maxRecDepth 100000 in
theorem refITrim_c (hx : ZZ w s A n c xs x L) (h1 : L ≤ 100000) :
    Calls Tryz.prog 21 #[.agg #[.bool s, .slice A n c]] w fun e w' => ∃ A2 n2 c2, e = .returned (.agg #[.bool (sg x), .slice A2 n2 c2]) ∧ ZZ w' (sg x) A2 n2 c2 (limbs x.natAbs) x L ∧ Below w.heap.size w w' := by
  have HS := Lib.hid hx.zof
  have b0 := below_new w (.cells #[Value.bool s, Value.slice A n c] 25)
  have bz := below_new (w.alloc (.cells #[Value.bool s, Value.slice A n c] 25)) zbox
  have HW := Lib.hid (below_two b0 bz)
  have HN := Lib.hid (hx.nn.below HW.out)
  have r0 := (row2_new w 25 (.bool s) (.slice A n c)).below bz
  have rz : ZB ((w.alloc (.cells #[Value.bool s, Value.slice A n c] 25)).alloc zbox) (w.alloc (.cells #[Value.bool s, Value.slice A n c] 25)).heap.size := row2_new (w.alloc (.cells #[Value.bool s, Value.slice A n c] 25)) _ _ _
  simp only [World.size_alloc] at rz
  clear b0 bz hx
  go_enter Tryz.func21, Tryz.ntmps21
  go_wp2_with fail
  generalize (w.alloc (.cells #[Value.bool s, Value.slice A n c] 25)).alloc zbox = w1 at *
  have HR0 := Lib.hid r0
  have c00 := r0.c0
  have c01 := r0.c1
  have HZ := Lib.hid rz
  clear r0 rz
  refine (refMake_c HN.out (by omega) x (by first | exact HS.out | simpa using HS.out)).mono ?_
  rintro e w2 ⟨A2, n2, c2, rfl, h4, bm⟩
  have BN4 := Lib.hid bm
  obtain ⟨e0, e1, f0, f1⟩ := (HZ.out.below BN4.out).cells
  have HF := Lib.hid ((HZ.out.below BN4.out).fill (.bool (sg x)) (.slice A2 n2 c2))
  have HP := Lib.hid (h4.put (HZ.out.below BN4.out) (.bool (sg x)) (.slice A2 n2 c2))
  have HB := Lib.hid (below_fill (g := w.heap.size + 1) (below_two HW.out BN4.out) (by omega) (.bool (sg x)) (.slice A2 n2 c2))
  clear bm h4 c00 c01
  go_wp2
  refine bodyPost_ret (results_cell_row rfl _ _ (w.heap.size + 1) 25 #[.bool (sg x), .slice A2 n2 c2] (0, 0) _ rfl HF.out Tryz.underlying25 rfl int_size) rfl ?_
  exact ⟨A2, n2, c2, rfl, HP.out, HB.out⟩

set_option maxHeartbeats 4000000 in
set_option maxRecDepth 100000 in
theorem refINeg_c (hx : ZZ w s A n c xs x L) (h1 : L ≤ 100000) (z : Int) (hz : -x = z) :
    Calls Tryz.prog 15 #[.agg #[.bool s, .slice A n c]] w fun e w' => ∃ A2 n2 c2, e = .returned (.agg #[.bool (sg z), .slice A2 n2 c2]) ∧ ZZ w' (sg z) A2 n2 c2 (limbs z.natAbs) z L ∧ Below w.heap.size w w' := by
  have HS : RowKit.Hid (zOf (!s) x.natAbs = z) := (zOf_not hx.zof).trans hz
  clear hz
  have b0 := below_new w (.cells #[Value.bool s, Value.slice A n c] 25)
  have bz := below_new (w.alloc (.cells #[Value.bool s, Value.slice A n c] 25)) zbox
  have HW := Lib.hid (below_two b0 bz)
  have HN := Lib.hid (hx.nn.below HW.out)
  have r0 := (row2_new w 25 (.bool s) (.slice A n c)).below bz
  have rz : ZB ((w.alloc (.cells #[Value.bool s, Value.slice A n c] 25)).alloc zbox) (w.alloc (.cells #[Value.bool s, Value.slice A n c] 25)).heap.size := row2_new (w.alloc (.cells #[Value.bool s, Value.slice A n c] 25)) _ _ _
  simp only [World.size_alloc] at rz
  clear b0 bz hx
  go_enter Tryz.func15, Tryz.ntmps15
  go_wp2_with fail
  generalize (w.alloc (.cells #[Value.bool s, Value.slice A n c] 25)).alloc zbox = w1 at *
  have HR0 := Lib.hid r0
  have c00 := r0.c0
  have c01 := r0.c1
  have HZ := Lib.hid rz
  clear r0 rz
  refine (refMake_c HN.out (by omega) z (by first | exact HS.out | simpa using HS.out)).mono ?_
  rintro e w2 ⟨A2, n2, c2, rfl, h4, bm⟩
  have BN4 := Lib.hid bm
  obtain ⟨e0, e1, f0, f1⟩ := (HZ.out.below BN4.out).cells
  have HF := Lib.hid ((HZ.out.below BN4.out).fill (.bool (sg z)) (.slice A2 n2 c2))
  have HP := Lib.hid (h4.put (HZ.out.below BN4.out) (.bool (sg z)) (.slice A2 n2 c2))
  have HB := Lib.hid (below_fill (g := w.heap.size + 1) (below_two HW.out BN4.out) (by omega) (.bool (sg z)) (.slice A2 n2 c2))
  clear bm h4 c00 c01
  go_wp2
  refine bodyPost_ret (results_cell_row rfl _ _ (w.heap.size + 1) 25 #[.bool (sg z), .slice A2 n2 c2] (0, 0) _ rfl HF.out Tryz.underlying25 rfl int_size) rfl ?_
  exact ⟨A2, n2, c2, rfl, HP.out, HB.out⟩

set_option maxHeartbeats 4000000 in
set_option maxRecDepth 100000 in
theorem refIText_c (hx : ZZ w s A n c xs x L) (h1 : L ≤ 10000) (S : ByteArray) (hS : strOf (zT x) = S) :
    Calls Tryz.prog 19 #[.agg #[.bool s, .slice A n c]] w fun e w' => e = .returned (.string S) ∧ Below w.heap.size w w' := by
  have b0 := below_new w (.cells #[Value.bool s, Value.slice A n c] 25)
  have HW := Lib.hid b0
  have HN := Lib.hid (hx.below b0)
  have r0 := row2_new w 25 (.bool s) (.slice A n c)
  have c00 := r0.c0
  have c01 := r0.c1
  clear b0 hx
  by_cases hx0 : x < 0
  · have hx2 : sg x = true := sg_neg hx0
    have HX2 := Lib.hid hx2
    clear hx2
    rw [zT_neg hx0] at hS
    obtain ⟨D, hD⟩ : ∃ D, strOf (decT x.natAbs) = D := ⟨_, rfl⟩
    have ed : (⟨#[45]⟩ : ByteArray) ++ D = S := by rw [← hD, minus_text]; exact hS
    have hDl : D.size ≤ 100001 := by
      have := decT_len_limbs (lt_pow HN.out.nn)
      rw [← hD, size_strOf]; omega
    have HD := Lib.hid hD
    clear hD hS
    clear hx0
    go_enter Tryz.func19, Tryz.ntmps19
    go_wp2_with fail
    refine (refITrim_c HN.out (by omega)).mono ?_
    rintro e w2 ⟨A2, n2, c2, rfl, _, bn⟩
    rw [HX2.out]
    have hfld : ∀ W, (Instr.field 25 (.agg #[.bool true, .slice A2 n2 c2]) 0).run Tryz.prog W = .ok (.bool true) W := fun _ => by kernel_rfl
    replace HN := Lib.hid (HN.out.below bn)
    replace HW := Lib.hid (below_two HW.out bn)
    replace r0 := r0.below bn
    clear c00 c01 bn
    have c00 := r0.c0
    have c01 := r0.c1
    clear r0
    go_wp2_with fail
    refine (refText_c HN.out.nn h1).mono ?_
    rintro e w3 ⟨rfl, bn⟩
    rw [HD.out]
    replace HW := Lib.hid (below_two HW.out bn)
    clear c00 c01 bn
    go_wp2
    go_ret
    exact ⟨rfl, HW.out⟩
  · have hx2 : sg x = false := sg_pos (by omega)
    have HX2 := Lib.hid hx2
    clear hx2
    rw [zT_pos (by omega)] at hS
    have HD := Lib.hid hS
    clear hS
    clear hx0
    go_enter Tryz.func19, Tryz.ntmps19
    go_wp2_with fail
    refine (refITrim_c HN.out (by omega)).mono ?_
    rintro e w2 ⟨A2, n2, c2, rfl, _, bn⟩
    rw [HX2.out]
    have hfld : ∀ W, (Instr.field 25 (.agg #[.bool false, .slice A2 n2 c2]) 0).run Tryz.prog W = .ok (.bool false) W := fun _ => by kernel_rfl
    replace HN := Lib.hid (HN.out.below bn)
    replace HW := Lib.hid (below_two HW.out bn)
    replace r0 := r0.below bn
    clear c00 c01 bn
    have c00 := r0.c0
    have c01 := r0.c1
    clear r0
    go_wp2_with fail
    refine (refText_c HN.out.nn h1).mono ?_
    rintro e w3 ⟨rfl, bn⟩
    rw [HD.out]
    replace HW := Lib.hid (below_two HW.out bn)
    clear c00 c01 bn
    go_wp2
    go_ret
    exact ⟨rfl, HW.out⟩

end
set_option maxHeartbeats 4000000 in
set_option maxRecDepth 100000 in
theorem refIOf_c (v : Int) (h0 : -9223372036854775808 ≤ v) (h1 : v ≤ 9223372036854775807) (w : World) :
    Calls Tryz.prog 23 #[.int .i64 v] w fun e w' => ∃ A2 n2 c2, e = .returned (.agg #[.bool (sg v), .slice A2 n2 c2]) ∧ ZZ w' (sg v) A2 n2 c2 (limbs v.natAbs) v 2 ∧ Below w.heap.size w w' := by
  have HW := Lib.hid (below_new w zbox)
  have HZ : RowKit.Hid (ZB (w.alloc zbox) w.heap.size) := row2_new w _ _ _
  by_cases hv0 : v < 0
  · obtain ⟨u, hu⟩ : ∃ u, u = v.natAbs := ⟨_, rfl⟩
    have hlt : u < 18446744073709551616 := by omega
    obtain ⟨q, hq⟩ : ∃ q : Nat, -(v + 1) = (q : Int) := ⟨(-(v + 1)).toNat, by omega⟩
    have hq2 : q < 9223372036854775808 := by omega
    have e0 : IntKind.i64.wrap (v + 1) = v + 1 := by rw [IntKind.wrap_i64]; omega
    have e0b : wrap64 (v + 1) = v + 1 := by unfold wrap64; omega
    have e1 : IntKind.i64.wrap (-(v + 1)) = (q : Int) := by rw [hq, IntKind.wrap_i64]; omega
    have e1b : wrap64 (-(v + 1)) = (q : Int) := by rw [hq]; unfold wrap64; omega
    have e2 : IntKind.u64.wrap (q : Int) = (q : Int) := by rw [IntKind.wrap_u64]; omega
    have e3 : IntKind.u64.wrap ((q : Int) + 1) = (u : Int) := by rw [IntKind.wrap_u64]; omega
    have eu : q + 1 = u := by omega
    have HS : RowKit.Hid (zOf true u = v) := by
      show _ = _
      rw [hu]; unfold zOf; simp; omega
    have HC := Lib.hid (refOf_c u _ rfl hlt (w.alloc zbox))
    clear hu h0 h1 hq hq2 eu
    go_enter Tryz.func23, Tryz.ntmps23
    go_wp2_with fail
    refine HC.out.mono ?_
    rintro e w2 ⟨A2, n2, c2, rfl, h2, bn⟩
    have BN2 := Lib.hid bn
    clear bn
    go_wp2_with fail
    refine (refMake_c h2 (by decide) v (by first | exact HS.out | simpa using HS.out)).mono ?_
    rintro e w4 ⟨A3, n3, c3, rfl, h4, bm⟩
    have BN4 := Lib.hid (below_two BN2.out bm)
    obtain ⟨e0, e1, f0, f1⟩ := (HZ.out.below BN4.out).cells
    have HF := Lib.hid ((HZ.out.below BN4.out).fill (.bool (sg v)) (.slice A3 n3 c3))
    have HP := Lib.hid (h4.put (HZ.out.below BN4.out) (.bool (sg v)) (.slice A3 n3 c3))
    have HB := Lib.hid (below_fill (g := w.heap.size) (below_two HW.out BN4.out) (Nat.le_refl _) (.bool (sg v)) (.slice A3 n3 c3))
    clear bm h2 h4
    go_wp2
    refine bodyPost_ret (results_cell_row rfl _ _ w.heap.size 25 #[.bool (sg v), .slice A3 n3 c3] (0, 0) _ rfl HF.out Tryz.underlying25 rfl int_size) rfl ?_
    exact ⟨A3, n3, c3, rfl, HP.out, HB.out⟩
  · obtain ⟨u, hu⟩ : ∃ u, u = v.natAbs := ⟨_, rfl⟩
    have hlt : u < 18446744073709551616 := by omega
    have ec : IntKind.u64.wrap v = (u : Int) := by rw [conv_u64 h0 h1, if_neg hv0]; omega
    have hv1 : 0 ≤ v := by omega
    have HS : RowKit.Hid (zOf false u = v) := by
      show _ = _
      rw [hu]; unfold zOf; simp; omega
    have HC := Lib.hid (refOf_c u _ rfl hlt (w.alloc zbox))
    clear hu h0 h1 hv0
    go_enter Tryz.func23, Tryz.ntmps23
    go_wp2_with fail
    refine HC.out.mono ?_
    rintro e w2 ⟨A2, n2, c2, rfl, h2, bn⟩
    have BN2 := Lib.hid bn
    clear bn
    go_wp2_with fail
    refine (refMake_c h2 (by decide) v (by first | exact HS.out | simpa using HS.out)).mono ?_
    rintro e w4 ⟨A3, n3, c3, rfl, h4, bm⟩
    have BN4 := Lib.hid (below_two BN2.out bm)
    obtain ⟨e0, e1, f0, f1⟩ := (HZ.out.below BN4.out).cells
    have HF := Lib.hid ((HZ.out.below BN4.out).fill (.bool (sg v)) (.slice A3 n3 c3))
    have HP := Lib.hid (h4.put (HZ.out.below BN4.out) (.bool (sg v)) (.slice A3 n3 c3))
    have HB := Lib.hid (below_fill (g := w.heap.size) (below_two HW.out BN4.out) (Nat.le_refl _) (.bool (sg v)) (.slice A3 n3 c3))
    clear bm h2 h4
    go_wp2
    refine bodyPost_ret (results_cell_row rfl _ _ w.heap.size 25 #[.bool (sg v), .slice A3 n3 c3] (0, 0) _ rfl HF.out Tryz.underlying25 rfl int_size) rfl ?_
    exact ⟨A3, n3, c3, rfl, HP.out, HB.out⟩

end Go.Proofs.YtgdchljbjnhchaaGreatDoor

/- What the reference's product of layer 6 answers, as a contract over memory. Conditions: sizes of at most so many limbs. -/
namespace Go.Proofs.YtgdchljbjnhchaaGreatDoor
open Go.RowKit Limb
set_option linter.unusedVariables false
theorem sg_zof {x : Int} : zOf (sg x) x.natAbs = x := by
  unfold zOf sg
  by_cases h : x < 0
  · simp [h]; omega
  · simp [h]; omega

section
variable {w : World} {s s' : Bool} {A A' : Option Addr} {n c n' c' : Nat} {xs ys : List Nat} {x y : Int} {L L' : Nat}
set_option maxHeartbeats 4000000 in
set_option maxRecDepth 100000 in
theorem refIMul_c (hx : ZZ w s A n c xs x L) (hy : ZZ w s' A' n' c' ys y L') (h1 : L ≤ 100000) (h2 : L' ≤ 100000) (z : Int) (hz : x * y = z) :
    Calls Tryz.prog 13 #[.agg #[.bool s, .slice A n c], .agg #[.bool s', .slice A' n' c']] w fun e w' => ∃ A2 n2 c2, e = .returned (.agg #[.bool (sg z), .slice A2 n2 c2]) ∧ ZZ w' (sg z) A2 n2 c2 (limbs z.natAbs) z (L + L') ∧ Below w.heap.size w w' := by
  have HS : RowKit.Hid (zOf (sg x != sg y) (x.natAbs * y.natAbs) = z) := (zOf_mul sg_zof sg_zof).trans hz
  have HX0 := Lib.hid hx
  have HY0 := Lib.hid hy
  clear hz
  have b0 := below_new w (.cells #[Value.bool s, Value.slice A n c] 25)
  have b1 := below_new (w.alloc (.cells #[Value.bool s, Value.slice A n c] 25)) (.cells #[Value.bool s', Value.slice A' n' c'] 25)
  have bz := below_new ((w.alloc (.cells #[Value.bool s, Value.slice A n c] 25)).alloc (.cells #[Value.bool s', Value.slice A' n' c'] 25)) zbox
  have HW := Lib.hid (below_two (below_two b0 b1) bz)
  have HN := Lib.hid (hx.nn.below HW.out)
  have HM := Lib.hid (hy.nn.below HW.out)
  have r0 := ((row2_new w 25 (.bool s) (.slice A n c)).below b1).below bz
  have r1 := (row2_new (w.alloc (.cells #[Value.bool s, Value.slice A n c] 25)) 25 (.bool s') (.slice A' n' c')).below bz
  have rz : ZB (((w.alloc (.cells #[Value.bool s, Value.slice A n c] 25)).alloc (.cells #[Value.bool s', Value.slice A' n' c'] 25)).alloc zbox) ((w.alloc (.cells #[Value.bool s, Value.slice A n c] 25)).alloc (.cells #[Value.bool s', Value.slice A' n' c'] 25)).heap.size := row2_new ((w.alloc (.cells #[Value.bool s, Value.slice A n c] 25)).alloc (.cells #[Value.bool s', Value.slice A' n' c'] 25)) _ _ _
  simp only [World.size_alloc] at r1 rz
  clear b0 b1 bz hx hy
  go_enter Tryz.func13, Tryz.ntmps13
  go_wp2
  have HX := Lib.hid (HX0.out.below HW.out)
  have HY := Lib.hid (HY0.out.below HW.out)
  generalize ((w.alloc (.cells #[Value.bool s, Value.slice A n c] 25)).alloc (.cells #[Value.bool s', Value.slice A' n' c'] 25)).alloc zbox = wS at *
  have HR0 := Lib.hid r0
  have c00 := r0.c0
  have c01 := r0.c1
  have HR1 := Lib.hid r1
  have c10 := r1.c0
  have c11 := r1.c1
  have HZ := Lib.hid rz
  clear r0 r1 rz
  have Hq : RowKit.Hid (w.heap.size ≤ w.heap.size + 1 + 1) := by show _ ≤ _; omega
  clear c00 c01 c10 c11
  refine region_free 13 1 [5, 6, 7, 8, 9, 10, 11, 12, 13, 14, 15, 16, 17] ?aF1 (fun wx => Below wS.heap.size wS wx) (fun k v wx => match k with
      | 0 => v = .agg #[.bool s, .slice A n c]
      | 1 => ∃ A2 n2 c2, v = .agg #[.bool (sg x), .slice A2 n2 c2] ∧ ZZ wx (sg x) A2 n2 c2 (limbs x.natAbs) x L
      | 2 => v = .bool (sg x)
      | 3 => v = .agg #[.bool s', .slice A' n' c']
      | 4 => ∃ A2 n2 c2, v = .agg #[.bool (sg y), .slice A2 n2 c2] ∧ ZZ wx (sg y) A2 n2 c2 (limbs y.natAbs) y L'
      | 5 => v = .bool (sg y)
      | 6 => v = .bool (sg x != sg y)
      | 7 => v = .pointer (some ⟨w.heap.size, 1, none⟩)
      | 8 => v = .slice A n c
      | 9 => v = .pointer (some ⟨w.heap.size + 1, 1, none⟩)
      | 10 => v = .slice A' n' c'
      | 11 => ∃ A2 n2 c2, v = .slice A2 n2 c2 ∧ NN wx A2 n2 c2 (limbs (x.natAbs * y.natAbs)) (x.natAbs * y.natAbs) (L + L')
      | _ => ∃ A2 n2 c2, v = .agg #[.bool (sg z), .slice A2 n2 c2] ∧ ZZ wx (sg z) A2 n2 c2 (limbs z.natAbs) z (L + L'))
    (fun _ => false) (by kernel_rfl) ?haF1 rfl (by kernel_rfl) (by kernel_rfl) (fun _ _ _ _ _ h => h) ?hSb1 ?hPb1 ?hS1 ?hop1 ?hfin1
  case haF1 =>
    intro vals
    simp only [fillAll, List.getElem?_cons_zero, List.getElem?_cons_succ, Act.put, List.setIfInBounds_toArray, List.set_cons_zero, List.set_cons_succ]
    exact rfl
  case hSb1 => exact fun wx w2 hb hS => below_two hS hb
  case hPb1 =>
    intro k v wa wb hb h
    match k, h with
    | 0, h => exact h
    | 1, ⟨A2, n2, c2, h1, h2⟩ => exact ⟨A2, n2, c2, h1, h2.below hb⟩
    | 2, h => exact h
    | 3, h => exact h
    | 4, ⟨A2, n2, c2, h1, h2⟩ => exact ⟨A2, n2, c2, h1, h2.below hb⟩
    | 5, h => exact h
    | 6, h => exact h
    | 7, h => exact h
    | 8, h => exact h
    | 9, h => exact h
    | 10, h => exact h
    | 11, ⟨A2, n2, c2, h1, h2⟩ => exact ⟨A2, n2, c2, h1, h2.below hb⟩
    | _ + 12, ⟨A2, n2, c2, h1, h2⟩ => exact ⟨A2, n2, c2, h1, h2.below hb⟩
  case hS1 => exact (Below.refl _ _).drew
  case hop1 =>
    refine .cons (k := 0) ?_ (.cons (k := 1) ?_ (.cons (k := 2) ?_ (.cons (k := 3) ?_ (.cons (k := 4) ?_ (.cons (k := 5) ?_ (.cons (k := 6) ?_ (.cons (k := 7) ?_ (.cons (k := 8) ?_ (.cons (k := 9) ?_ (.cons (k := 10) ?_ (.cons (k := 11) ?_ (.cons (k := 12) ?_ (.nil)))))))))))))
    all_goals intro vals wr hS hd KC hK
    all_goals (show Oper.wp _ _ _ _ _ _; dsimp only)
    · have c0 := (HR0.out.below hS).c0
      have c1 := (HR0.out.below hS).c1
      go_simp
      refine hK _ _ rfl (Below.refl _ _) (by first | rfl | simp) (fun h => by cases h)
    · have d0 : vals 0 = _ := hd 0 (by decide +kernel)
      rw [d0]
      go_simp
      go_at_call 21
      with_reducible refine (refITrim_c (HX.out.below hS) (by omega)).mono ?_
      rintro e w2 ⟨A_r, n_r, c_r, rfl, h_r, bn_r⟩
      refine hK _ _ rfl bn_r ⟨_, _, _, rfl, h_r⟩ (fun h => by cases h)
    · obtain ⟨A_1, n_1, c_1, d1, h_1⟩ := hd 1 (by decide +kernel)
      rw [d1]
      have hfld : ∀ W, (Instr.field 25 (.agg #[.bool (sg x), .slice A_1 n_1 c_1]) 0).run Tryz.prog W = .ok (.bool (sg x)) W := fun _ => by kernel_rfl
      go_simp
      refine hK _ _ rfl (Below.refl _ _) (by first | rfl | simp) (fun h => by cases h)
    · have c0 := (HR1.out.below hS).c0
      have c1 := (HR1.out.below hS).c1
      go_simp
      refine hK _ _ rfl (Below.refl _ _) (by first | rfl | simp) (fun h => by cases h)
    · have d3 : vals 3 = _ := hd 3 (by decide +kernel)
      rw [d3]
      go_simp
      go_at_call 21
      with_reducible refine (refITrim_c (HY.out.below hS) (by omega)).mono ?_
      rintro e w2 ⟨A_r, n_r, c_r, rfl, h_r, bn_r⟩
      refine hK _ _ rfl bn_r ⟨_, _, _, rfl, h_r⟩ (fun h => by cases h)
    · obtain ⟨A_4, n_4, c_4, d4, h_4⟩ := hd 4 (by decide +kernel)
      rw [d4]
      have hfld : ∀ W, (Instr.field 25 (.agg #[.bool (sg y), .slice A_4 n_4 c_4]) 0).run Tryz.prog W = .ok (.bool (sg y)) W := fun _ => by kernel_rfl
      go_simp
      refine hK _ _ rfl (Below.refl _ _) (by first | rfl | simp) (fun h => by cases h)
    · have d2 : vals 2 = _ := hd 2 (by decide +kernel)
      have d5 : vals 5 = _ := hd 5 (by decide +kernel)
      rw [d2, d5]
      go_simp
      refine hK _ _ rfl (Below.refl _ _) (by first | rfl | simp) (fun h => by cases h)
    · go_simp
      refine hK _ _ rfl (Below.refl _ _) (by first | rfl | simp) (fun h => by cases h)
    · have d7 : vals 7 = _ := hd 7 (by decide +kernel)
      rw [d7]
      have c0 := (HR0.out.below hS).c1
      go_simp
      refine hK _ _ rfl (Below.refl _ _) (by first | rfl | simp) (fun h => by cases h)
    · go_simp
      refine hK _ _ rfl (Below.refl _ _) (by first | rfl | simp) (fun h => by cases h)
    · have d9 : vals 9 = _ := hd 9 (by decide +kernel)
      rw [d9]
      have c0 := (HR1.out.below hS).c1
      go_simp
      refine hK _ _ rfl (Below.refl _ _) (by first | rfl | simp) (fun h => by cases h)
    · have d8 : vals 8 = _ := hd 8 (by decide +kernel)
      have d10 : vals 10 = _ := hd 10 (by decide +kernel)
      rw [d8, d10]
      go_simp
      go_at_call 38
      with_reducible refine (refMul_c (HX.out.nn.below hS) (HY.out.nn.below hS) (by omega) (by omega)).mono ?_
      rintro e w2 ⟨A_r, n_r, c_r, rfl, h_r, bn_r⟩
      refine hK _ _ rfl bn_r ⟨_, _, _, rfl, h_r⟩ (fun h => by cases h)
    · have d6 : vals 6 = _ := hd 6 (by decide +kernel)
      obtain ⟨A_11, n_11, c_11, d11, h_11⟩ := hd 11 (by decide +kernel)
      rw [d6, d11]
      go_simp
      go_at_call 30
      with_reducible refine (refMake_c h_11 (by omega) z (by first | exact HS.out | simpa using HS.out)).mono ?_
      rintro e w2 ⟨A_r, n_r, c_r, rfl, h_r, bn_r⟩
      refine hK _ _ rfl bn_r ⟨_, _, _, rfl, h_r⟩ (fun h => by cases h)
  case hfin1 =>
    intro vals wr hS hP hne
    obtain ⟨A2, n2, c2, ez, h3⟩ := hP 12 (by decide)
    have hZ3 := HZ.out.below hS
    obtain ⟨e0, e1, f0, f1⟩ := hZ3.cells
    try dsimp only
    rw [ez]
    have HF := Lib.hid (hZ3.fill (.bool (sg z)) (.slice A2 n2 c2))
    have HP := Lib.hid (h3.put hZ3 (.bool (sg z)) (.slice A2 n2 c2))
    have HB := Lib.hid (below_fill (below_two HW.out hS) Hq.out (.bool (sg z)) (.slice A2 n2 c2))
    refine wpAny_ready (rs := [13]) (by kernel_rfl) (by simp) (AllReady.cons rfl (fun KC hK => ?_) AllReady.nil)
    go_simp
    refine hK _ _ ?_
    clear hK KC
    refine wpAny_done (by kernel_rfl) ?_ _
    go_wp2
    refine bodyPost_ret (results_cell_row rfl _ _ (w.heap.size + 1 + 1) 25 #[.bool (sg z), .slice A2 n2 c2] (0, 0) _ rfl HF.out Tryz.underlying25 rfl int_size) rfl ?_
    exact ⟨A2, n2, c2, rfl, HP.out, HB.out⟩

end
end Go.Proofs.YtgdchljbjnhchaaGreatDoor
