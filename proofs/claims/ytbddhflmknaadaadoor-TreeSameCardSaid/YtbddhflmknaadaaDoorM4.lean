/- Part 4 of the texts that the statements of this seat lean on: mathematics, and what functions answer, as contracts over memory; each part says its own conditions. -/
import Derived.Test.YtbddhflmknaadaaDoorM3
import Derived.Laws.CopyOwn
/- What package tree's moved answers, as a contract over memory. Conditions: texts of at most 10^6 bytes, children's places from 0 to 10^6. -/
namespace Go.Proofs.YtbddhflmknaadaaDoor
open Go.RowKit Limb
set_option linter.unusedVariables false
set_option maxHeartbeats 4000000 in
set_option maxRecDepth 100000 in
theorem tMoved_c (kk a b n : Int) (t u : ByteArray) (p : Int) (d : Nat) (ht : t.size ≤ 1000000) (hu : u.size ≤ 1000000) (a0 : 0 ≤ a) (a1 : a ≤ 1000000) (b0 : 0 ≤ b) (b1 : b ≤ 1000000) (hd6 : d ≤ 1000000) (V : Array Value) (hV : ndV (shiftN d ⟨kk, a, b, n, t, u, p⟩) = V) (w : World) :
 Calls Tryd.prog 42 #[.agg (ndC kk a b n t u p), .int .i64 (d : Int)] w fun e w' => e = .returned (.agg V) ∧ Below w.heap.size w w' := by
 have HV := Lib.hid hV
 clear hV
 have b1 := below_new w (.cells (ndC kk a b n t u p) 37)
 have b2 := below_new (w.alloc (.cells (ndC kk a b n t u p) 37)) (.cells zN 37)
 have h_rx := (rowA_new w 37 (ndC kk a b n t u p)).below b2
 have h_rz := rowA_new (w.alloc (.cells (ndC kk a b n t u p) 37)) 37 zN
 simp only [World.size_alloc] at h_rz
 have bw := below_two b1 b2
 clear b1 b2
 go_enter Tryd.func42, Tryd.ntmps42
 go_wp2_with fail
 generalize (w.alloc (.cells (ndC kk a b n t u p) 37)).alloc (.cells zN 37) = w1 at *
 obtain ⟨q_z, ez⟩ : ∃ g, g = w.heap.size + 1 := ⟨_, rfl⟩
 obtain ⟨q_x, ex⟩ : ∃ g, g = w.heap.size := ⟨_, rfl⟩
 rw [← ez] at h_rz ⊢
 rw [← ex] at h_rx ⊢
 have hne : Hid (q_x ≠ q_z) := by show _ ≠ _; omega
 have hxx : Hid (w.heap.size ≤ q_x ∧ w.heap.size ≤ q_z) := by constructor <;> omega
 clear ez ex
 have HZ := Lib.hid h_rz
 have HX := Lib.hid h_rx
 have HB := Lib.hid bw
 clear h_rz h_rx bw
 refine region_freeR 10 [some 5, some 6, some 7, some 8, some 9, some 10, some 11, none, some 12, none] ?aF (fun wx wy => (RowA wx q_x 37 (ndC kk a b n t u p) → RowA wy q_x 37 (ndC kk a b n t u p)) ∧ (RowA wx q_z 37 zN → RowA wy q_z 37 zN) ∧ (Below w.heap.size w wx → Below w.heap.size w wy)) (fun wx => RowA wx q_x 37 (ndC kk a b n t u p) ∧ RowA wx q_z 37 zN ∧ Below w.heap.size w wx) (fun k vv wx => match k with
  | 0 => vv = .pointer (some ⟨q_x, 4, none⟩)
  | 1 => vv = .string t
  | 2 => vv = .string t
  | 3 => vv = .pointer (some ⟨q_x, 5, none⟩)
  | 4 => vv = .string u
  | 5 => vv = .string u
  | 6 => vv = .pointer (some ⟨q_x, 4, none⟩)
  | 7 => True
  | 8 => vv = .pointer (some ⟨q_x, 5, none⟩)
  | _ => True)
  (by kernel_rfl) ?haF rfl (by kernel_rfl) (fun _ _ _ _ _ h => h) ?hSb ?hPb ?hS ?hop ?hfin
 case haF =>
  intro vals
  simp only [fillAll, dAt, Act.put, List.setIfInBounds_toArray, List.set_cons_zero, List.set_cons_succ]
  exact rfl
 case hSb => exact fun wx wy h k => ⟨h.1 k.1, h.2.1 k.2.1, h.2.2 k.2.2⟩
 case hPb =>
  intro k v wa wb hb hS h
  match k, h with
  | 0, h => exact h
  | 1, h => exact h
  | 2, h => exact h
  | 3, h => exact h
  | 4, h => exact h
  | 5, h => exact h
  | 6, h => exact h
  | 7, h => exact h
  | 8, h => exact h
  | _ + 9, h => exact h
 case hS => exact ⟨HX.out, HZ.out, HB.out.drew⟩
 case hop =>
  refine .cons (k := 0) ?_ (.cons (k := 1) ?_ (.cons (k := 2) ?_ (.cons (k := 3) ?_ (.cons (k := 4) ?_ (.cons (k := 5) ?_ (.cons (k := 6) ?_ (.cons (k := 7) ?_ (.cons (k := 8) ?_ (.cons (k := 9) ?_ (.nil))))))))))
  all_goals intro vals wr hS hd KC hK
  all_goals (show Oper.wp _ _ _ _ _ _; dsimp only)
  · go_simp
    refine hK _ _ rfl ⟨fun h => h, fun h => h, fun h => h⟩ (by first | rfl | simp)
  · have d0 : vals 0 = _ := hd 0 (by decide +kernel)
    rw [d0]
    have c0 := hS.1.cell (k := 4) (v := .string t) rfl
    go_simp
    refine hK _ _ rfl ⟨fun h => h, fun h => h, fun h => h⟩ (by first | rfl | simp)
  · have d1 : vals 1 = _ := hd 1 (by decide +kernel)
    rw [d1]
    go_simp
    go_at_call 49
    with_reducible refine (sClone_c t (by omega) _).mono ?_
    rintro e w2 ⟨rfl, bn⟩
    exact hK _ _ rfl ⟨fun h => h.below bn, fun h => h.below bn, fun h => below_two h bn⟩ rfl
  · go_simp
    refine hK _ _ rfl ⟨fun h => h, fun h => h, fun h => h⟩ (by first | rfl | simp)
  · have d3 : vals 3 = _ := hd 3 (by decide +kernel)
    rw [d3]
    have c0 := hS.1.cell (k := 5) (v := .string u) rfl
    go_simp
    refine hK _ _ rfl ⟨fun h => h, fun h => h, fun h => h⟩ (by first | rfl | simp)
  · have d4 : vals 4 = _ := hd 4 (by decide +kernel)
    rw [d4]
    go_simp
    go_at_call 49
    with_reducible refine (sClone_c u (by omega) _).mono ?_
    rintro e w2 ⟨rfl, bn⟩
    exact hK _ _ rfl ⟨fun h => h.below bn, fun h => h.below bn, fun h => below_two h bn⟩ rfl
  · go_simp
    refine hK _ _ rfl ⟨fun h => h, fun h => h, fun h => h⟩ (by first | rfl | simp)
  · have d2 : vals 2 = _ := hd 2 (by decide +kernel)
    have d6 : vals 6 = _ := hd 6 (by decide +kernel)
    rw [d2, d6]
    have c0 := hS.1.cell (k := 4) (v := .string t) rfl
    have f0 := hS.1.free 4
    go_simp
    exact hK _ _ rfl ⟨fun h => h.set 4 (.string t), fun h => h.far hne.out _ _, fun h => below_set h hxx.out.1 _ _⟩ trivial
  · go_simp
    refine hK _ _ rfl ⟨fun h => h, fun h => h, fun h => h⟩ (by first | rfl | simp)
  · have d5 : vals 5 = _ := hd 5 (by decide +kernel)
    have d8 : vals 8 = _ := hd 8 (by decide +kernel)
    rw [d5, d8]
    have c0 := hS.1.cell (k := 5) (v := .string u) rfl
    have f0 := hS.1.free 5
    go_simp
    exact hK _ _ rfl ⟨fun h => h.set 5 (.string u), fun h => h.far hne.out _ _, fun h => below_set h hxx.out.1 _ _⟩ trivial
 case hfin =>
  intro vals wr hS hP
  have h_rx := hS.1
  have h_rz := hS.2.1
  have HB2 := Lib.hid hS.2.2
  clear HX HZ HB hP hS
  refine wpAny_done (by kernel_rfl) ?_ _
  try dsimp only [Act.put]
  generalize wr = w2 at *
  by_cases h3 : kk = 3
  · subst h3
    have k0 := h_rx.cell (k := 0) (v := .int .i64 3) rfl
    have k1 := h_rx.cell (k := 1) (v := .int .i64 a) rfl
    have f1 := h_rx.free 1
    have k2 := h_rx.cell (k := 2) (v := .int .i64 b) rfl
    have f2 := h_rx.free 2
    have HI_x : Hid (InV ((w2.setCell ⟨q_x, 1, none⟩ (.int .i64 (a + (d : Int)))).setCell ⟨q_x, 2, none⟩ (.int .i64 (b + (d : Int)))) q_x 0 (ndC 3 (a + (d : Int)) (b + (d : Int)) n t u p)) := RowA.inV (show RowA ((w2.setCell ⟨q_x, 1, none⟩ (.int .i64 (a + (d : Int)))).setCell ⟨q_x, 2, none⟩ (.int .i64 (b + (d : Int)))) q_x 37 (ndC 3 (a + (d : Int)) (b + (d : Int)) n t u p) from ((h_rx.set 1 (.int .i64 (a + (d : Int)))).set 2 (.int .i64 (b + (d : Int)))))
    have HM_x : Hid (Many Tryd.prog 37 (ndC 3 (a + (d : Int)) (b + (d : Int)) n t u p).size) := manyNd _ _ _ _ _ _ _
    have HZ : Hid (RowA ((w2.setCell ⟨q_x, 1, none⟩ (.int .i64 (a + (d : Int)))).setCell ⟨q_x, 2, none⟩ (.int .i64 (b + (d : Int)))) q_z 37 zN) := ((h_rz.far hne.out 1 (.int .i64 (a + (d : Int)))).far hne.out 2 (.int .i64 (b + (d : Int))))
    have HU : Hid (Many Tryd.prog 37 (ndC 3 (a + (d : Int)) (b + (d : Int)) n t u p).size ∧ zN.size = (ndC 3 (a + (d : Int)) (b + (d : Int)) n t u p).size ∧ ∀ v ∈ ndC 3 (a + (d : Int)) (b + (d : Int)) n t u p, v.oneCell' = true) := fitsNd ⟨_, _, _, _, _, _, _⟩ zNd
    have HR : Hid (RowA (((w2.setCell ⟨q_x, 1, none⟩ (.int .i64 (a + (d : Int)))).setCell ⟨q_x, 2, none⟩ (.int .i64 (b + (d : Int)))).setRow q_z (ndC 3 (a + (d : Int)) (b + (d : Int)) n t u p)) q_z 37 (ndC 3 (a + (d : Int)) (b + (d : Int)) n t u p)) := HZ.out.fill
    have HE : Hid (Below w.heap.size w (((w2.setCell ⟨q_x, 1, none⟩ (.int .i64 (a + (d : Int)))).setCell ⟨q_x, 2, none⟩ (.int .i64 (b + (d : Int)))).setRow q_z (ndC 3 (a + (d : Int)) (b + (d : Int)) n t u p))) := below_fillRow (below_set (below_set HB2.out hxx.out.1 1 (.int .i64 (a + (d : Int)))) hxx.out.1 2 (.int .i64 (b + (d : Int)))) hxx.out.2 _
    clear h_rx h_rz HB2
    go_wp2_with (first | (refine wpList_loadV (by rfl) _ _ (by rfl) _ _ (by rfl) _ (by assumption) (by assumption) ?_) | (refine wpList_storeV (by rfl) _ _ _ (by rfl) _ (by rfl) _ (by rfl) _ _ HZ HU ?_))
    refine bodyPost_ret (results_cell_row rfl _ _ _ 37 (ndC 3 (a + (d : Int)) (b + (d : Int)) n t u p) (0, 0) _ rfl HR.out Tryd.underlying37 rfl sizeNd) rfl ?_
    exact ⟨by rw [← HV.out]; rfl, HE.out⟩
  · have e3 : (kk == 3) = false := by rw [beq_eq_false_iff_ne]; exact h3
    by_cases h4 : kk = 4
    · subst h4
      have k0 := h_rx.cell (k := 0) (v := .int .i64 4) rfl
      have k1 := h_rx.cell (k := 1) (v := .int .i64 a) rfl
      have f1 := h_rx.free 1
      have k2 := h_rx.cell (k := 2) (v := .int .i64 b) rfl
      have f2 := h_rx.free 2
      have HI_x : Hid (InV ((w2.setCell ⟨q_x, 1, none⟩ (.int .i64 (a + (d : Int)))).setCell ⟨q_x, 2, none⟩ (.int .i64 (b + (d : Int)))) q_x 0 (ndC 4 (a + (d : Int)) (b + (d : Int)) n t u p)) := RowA.inV (show RowA ((w2.setCell ⟨q_x, 1, none⟩ (.int .i64 (a + (d : Int)))).setCell ⟨q_x, 2, none⟩ (.int .i64 (b + (d : Int)))) q_x 37 (ndC 4 (a + (d : Int)) (b + (d : Int)) n t u p) from ((h_rx.set 1 (.int .i64 (a + (d : Int)))).set 2 (.int .i64 (b + (d : Int)))))
      have HM_x : Hid (Many Tryd.prog 37 (ndC 4 (a + (d : Int)) (b + (d : Int)) n t u p).size) := manyNd _ _ _ _ _ _ _
      have HZ : Hid (RowA ((w2.setCell ⟨q_x, 1, none⟩ (.int .i64 (a + (d : Int)))).setCell ⟨q_x, 2, none⟩ (.int .i64 (b + (d : Int)))) q_z 37 zN) := ((h_rz.far hne.out 1 (.int .i64 (a + (d : Int)))).far hne.out 2 (.int .i64 (b + (d : Int))))
      have HU : Hid (Many Tryd.prog 37 (ndC 4 (a + (d : Int)) (b + (d : Int)) n t u p).size ∧ zN.size = (ndC 4 (a + (d : Int)) (b + (d : Int)) n t u p).size ∧ ∀ v ∈ ndC 4 (a + (d : Int)) (b + (d : Int)) n t u p, v.oneCell' = true) := fitsNd ⟨_, _, _, _, _, _, _⟩ zNd
      have HR : Hid (RowA (((w2.setCell ⟨q_x, 1, none⟩ (.int .i64 (a + (d : Int)))).setCell ⟨q_x, 2, none⟩ (.int .i64 (b + (d : Int)))).setRow q_z (ndC 4 (a + (d : Int)) (b + (d : Int)) n t u p)) q_z 37 (ndC 4 (a + (d : Int)) (b + (d : Int)) n t u p)) := HZ.out.fill
      have HE : Hid (Below w.heap.size w (((w2.setCell ⟨q_x, 1, none⟩ (.int .i64 (a + (d : Int)))).setCell ⟨q_x, 2, none⟩ (.int .i64 (b + (d : Int)))).setRow q_z (ndC 4 (a + (d : Int)) (b + (d : Int)) n t u p))) := below_fillRow (below_set (below_set HB2.out hxx.out.1 1 (.int .i64 (a + (d : Int)))) hxx.out.1 2 (.int .i64 (b + (d : Int)))) hxx.out.2 _
      clear h_rx h_rz HB2
      go_wp2_with (first | (refine wpList_loadV (by rfl) _ _ (by rfl) _ _ (by rfl) _ (by assumption) (by assumption) ?_) | (refine wpList_storeV (by rfl) _ _ _ (by rfl) _ (by rfl) _ (by rfl) _ _ HZ HU ?_))
      refine bodyPost_ret (results_cell_row rfl _ _ _ 37 (ndC 4 (a + (d : Int)) (b + (d : Int)) n t u p) (0, 0) _ rfl HR.out Tryd.underlying37 rfl sizeNd) rfl ?_
      exact ⟨by rw [← HV.out]; rfl, HE.out⟩
    · have e4 : (kk == 4) = false := by rw [beq_eq_false_iff_ne]; exact h4
      by_cases h5 : kk = 5
      · subst h5
        have k0 := h_rx.cell (k := 0) (v := .int .i64 5) rfl
        have k1 := h_rx.cell (k := 1) (v := .int .i64 a) rfl
        have f1 := h_rx.free 1
        have k2 := h_rx.cell (k := 2) (v := .int .i64 b) rfl
        have f2 := h_rx.free 2
        have HI_x : Hid (InV ((w2.setCell ⟨q_x, 1, none⟩ (.int .i64 (a + (d : Int)))).setCell ⟨q_x, 2, none⟩ (.int .i64 (b + (d : Int)))) q_x 0 (ndC 5 (a + (d : Int)) (b + (d : Int)) n t u p)) := RowA.inV (show RowA ((w2.setCell ⟨q_x, 1, none⟩ (.int .i64 (a + (d : Int)))).setCell ⟨q_x, 2, none⟩ (.int .i64 (b + (d : Int)))) q_x 37 (ndC 5 (a + (d : Int)) (b + (d : Int)) n t u p) from ((h_rx.set 1 (.int .i64 (a + (d : Int)))).set 2 (.int .i64 (b + (d : Int)))))
        have HM_x : Hid (Many Tryd.prog 37 (ndC 5 (a + (d : Int)) (b + (d : Int)) n t u p).size) := manyNd _ _ _ _ _ _ _
        have HZ : Hid (RowA ((w2.setCell ⟨q_x, 1, none⟩ (.int .i64 (a + (d : Int)))).setCell ⟨q_x, 2, none⟩ (.int .i64 (b + (d : Int)))) q_z 37 zN) := ((h_rz.far hne.out 1 (.int .i64 (a + (d : Int)))).far hne.out 2 (.int .i64 (b + (d : Int))))
        have HU : Hid (Many Tryd.prog 37 (ndC 5 (a + (d : Int)) (b + (d : Int)) n t u p).size ∧ zN.size = (ndC 5 (a + (d : Int)) (b + (d : Int)) n t u p).size ∧ ∀ v ∈ ndC 5 (a + (d : Int)) (b + (d : Int)) n t u p, v.oneCell' = true) := fitsNd ⟨_, _, _, _, _, _, _⟩ zNd
        have HR : Hid (RowA (((w2.setCell ⟨q_x, 1, none⟩ (.int .i64 (a + (d : Int)))).setCell ⟨q_x, 2, none⟩ (.int .i64 (b + (d : Int)))).setRow q_z (ndC 5 (a + (d : Int)) (b + (d : Int)) n t u p)) q_z 37 (ndC 5 (a + (d : Int)) (b + (d : Int)) n t u p)) := HZ.out.fill
        have HE : Hid (Below w.heap.size w (((w2.setCell ⟨q_x, 1, none⟩ (.int .i64 (a + (d : Int)))).setCell ⟨q_x, 2, none⟩ (.int .i64 (b + (d : Int)))).setRow q_z (ndC 5 (a + (d : Int)) (b + (d : Int)) n t u p))) := below_fillRow (below_set (below_set HB2.out hxx.out.1 1 (.int .i64 (a + (d : Int)))) hxx.out.1 2 (.int .i64 (b + (d : Int)))) hxx.out.2 _
        clear h_rx h_rz HB2
        go_wp2_with (first | (refine wpList_loadV (by rfl) _ _ (by rfl) _ _ (by rfl) _ (by assumption) (by assumption) ?_) | (refine wpList_storeV (by rfl) _ _ _ (by rfl) _ (by rfl) _ (by rfl) _ _ HZ HU ?_))
        refine bodyPost_ret (results_cell_row rfl _ _ _ 37 (ndC 5 (a + (d : Int)) (b + (d : Int)) n t u p) (0, 0) _ rfl HR.out Tryd.underlying37 rfl sizeNd) rfl ?_
        exact ⟨by rw [← HV.out]; rfl, HE.out⟩
      · have e5 : (kk == 5) = false := by rw [beq_eq_false_iff_ne]; exact h5
        by_cases h6 : kk = 6
        · subst h6
          have k0 := h_rx.cell (k := 0) (v := .int .i64 6) rfl
          have k1 := h_rx.cell (k := 1) (v := .int .i64 a) rfl
          have f1 := h_rx.free 1
          have k2 := h_rx.cell (k := 2) (v := .int .i64 b) rfl
          have f2 := h_rx.free 2
          have HI_x : Hid (InV ((w2.setCell ⟨q_x, 1, none⟩ (.int .i64 (a + (d : Int)))).setCell ⟨q_x, 2, none⟩ (.int .i64 (b + (d : Int)))) q_x 0 (ndC 6 (a + (d : Int)) (b + (d : Int)) n t u p)) := RowA.inV (show RowA ((w2.setCell ⟨q_x, 1, none⟩ (.int .i64 (a + (d : Int)))).setCell ⟨q_x, 2, none⟩ (.int .i64 (b + (d : Int)))) q_x 37 (ndC 6 (a + (d : Int)) (b + (d : Int)) n t u p) from ((h_rx.set 1 (.int .i64 (a + (d : Int)))).set 2 (.int .i64 (b + (d : Int)))))
          have HM_x : Hid (Many Tryd.prog 37 (ndC 6 (a + (d : Int)) (b + (d : Int)) n t u p).size) := manyNd _ _ _ _ _ _ _
          have HZ : Hid (RowA ((w2.setCell ⟨q_x, 1, none⟩ (.int .i64 (a + (d : Int)))).setCell ⟨q_x, 2, none⟩ (.int .i64 (b + (d : Int)))) q_z 37 zN) := ((h_rz.far hne.out 1 (.int .i64 (a + (d : Int)))).far hne.out 2 (.int .i64 (b + (d : Int))))
          have HU : Hid (Many Tryd.prog 37 (ndC 6 (a + (d : Int)) (b + (d : Int)) n t u p).size ∧ zN.size = (ndC 6 (a + (d : Int)) (b + (d : Int)) n t u p).size ∧ ∀ v ∈ ndC 6 (a + (d : Int)) (b + (d : Int)) n t u p, v.oneCell' = true) := fitsNd ⟨_, _, _, _, _, _, _⟩ zNd
          have HR : Hid (RowA (((w2.setCell ⟨q_x, 1, none⟩ (.int .i64 (a + (d : Int)))).setCell ⟨q_x, 2, none⟩ (.int .i64 (b + (d : Int)))).setRow q_z (ndC 6 (a + (d : Int)) (b + (d : Int)) n t u p)) q_z 37 (ndC 6 (a + (d : Int)) (b + (d : Int)) n t u p)) := HZ.out.fill
          have HE : Hid (Below w.heap.size w (((w2.setCell ⟨q_x, 1, none⟩ (.int .i64 (a + (d : Int)))).setCell ⟨q_x, 2, none⟩ (.int .i64 (b + (d : Int)))).setRow q_z (ndC 6 (a + (d : Int)) (b + (d : Int)) n t u p))) := below_fillRow (below_set (below_set HB2.out hxx.out.1 1 (.int .i64 (a + (d : Int)))) hxx.out.1 2 (.int .i64 (b + (d : Int)))) hxx.out.2 _
          clear h_rx h_rz HB2
          go_wp2_with (first | (refine wpList_loadV (by rfl) _ _ (by rfl) _ _ (by rfl) _ (by assumption) (by assumption) ?_) | (refine wpList_storeV (by rfl) _ _ _ (by rfl) _ (by rfl) _ (by rfl) _ _ HZ HU ?_))
          refine bodyPost_ret (results_cell_row rfl _ _ _ 37 (ndC 6 (a + (d : Int)) (b + (d : Int)) n t u p) (0, 0) _ rfl HR.out Tryd.underlying37 rfl sizeNd) rfl ?_
          exact ⟨by rw [← HV.out]; rfl, HE.out⟩
        · have e6 : (kk == 6) = false := by rw [beq_eq_false_iff_ne]; exact h6
          by_cases h7 : kk = 7
          · subst h7
            have k0 := h_rx.cell (k := 0) (v := .int .i64 7) rfl
            have k1 := h_rx.cell (k := 1) (v := .int .i64 a) rfl
            have f1 := h_rx.free 1
            have HI_x : Hid (InV (w2.setCell ⟨q_x, 1, none⟩ (.int .i64 (a + (d : Int)))) q_x 0 (ndC 7 (a + (d : Int)) b n t u p)) := RowA.inV (show RowA (w2.setCell ⟨q_x, 1, none⟩ (.int .i64 (a + (d : Int)))) q_x 37 (ndC 7 (a + (d : Int)) b n t u p) from (h_rx.set 1 (.int .i64 (a + (d : Int)))))
            have HM_x : Hid (Many Tryd.prog 37 (ndC 7 (a + (d : Int)) b n t u p).size) := manyNd _ _ _ _ _ _ _
            have HZ : Hid (RowA (w2.setCell ⟨q_x, 1, none⟩ (.int .i64 (a + (d : Int)))) q_z 37 zN) := (h_rz.far hne.out 1 (.int .i64 (a + (d : Int))))
            have HU : Hid (Many Tryd.prog 37 (ndC 7 (a + (d : Int)) b n t u p).size ∧ zN.size = (ndC 7 (a + (d : Int)) b n t u p).size ∧ ∀ v ∈ ndC 7 (a + (d : Int)) b n t u p, v.oneCell' = true) := fitsNd ⟨_, _, _, _, _, _, _⟩ zNd
            have HR : Hid (RowA ((w2.setCell ⟨q_x, 1, none⟩ (.int .i64 (a + (d : Int)))).setRow q_z (ndC 7 (a + (d : Int)) b n t u p)) q_z 37 (ndC 7 (a + (d : Int)) b n t u p)) := HZ.out.fill
            have HE : Hid (Below w.heap.size w ((w2.setCell ⟨q_x, 1, none⟩ (.int .i64 (a + (d : Int)))).setRow q_z (ndC 7 (a + (d : Int)) b n t u p))) := below_fillRow (below_set HB2.out hxx.out.1 1 (.int .i64 (a + (d : Int)))) hxx.out.2 _
            clear h_rx h_rz HB2
            go_wp2_with (first | (refine wpList_loadV (by rfl) _ _ (by rfl) _ _ (by rfl) _ (by assumption) (by assumption) ?_) | (refine wpList_storeV (by rfl) _ _ _ (by rfl) _ (by rfl) _ (by rfl) _ _ HZ HU ?_))
            refine bodyPost_ret (results_cell_row rfl _ _ _ 37 (ndC 7 (a + (d : Int)) b n t u p) (0, 0) _ rfl HR.out Tryd.underlying37 rfl sizeNd) rfl ?_
            exact ⟨by rw [← HV.out]; rfl, HE.out⟩
          · have e7 : (kk == 7) = false := by rw [beq_eq_false_iff_ne]; exact h7
            by_cases h8 : kk = 8
            · subst h8
              have k0 := h_rx.cell (k := 0) (v := .int .i64 8) rfl
              have k1 := h_rx.cell (k := 1) (v := .int .i64 a) rfl
              have f1 := h_rx.free 1
              have HI_x : Hid (InV (w2.setCell ⟨q_x, 1, none⟩ (.int .i64 (a + (d : Int)))) q_x 0 (ndC 8 (a + (d : Int)) b n t u p)) := RowA.inV (show RowA (w2.setCell ⟨q_x, 1, none⟩ (.int .i64 (a + (d : Int)))) q_x 37 (ndC 8 (a + (d : Int)) b n t u p) from (h_rx.set 1 (.int .i64 (a + (d : Int)))))
              have HM_x : Hid (Many Tryd.prog 37 (ndC 8 (a + (d : Int)) b n t u p).size) := manyNd _ _ _ _ _ _ _
              have HZ : Hid (RowA (w2.setCell ⟨q_x, 1, none⟩ (.int .i64 (a + (d : Int)))) q_z 37 zN) := (h_rz.far hne.out 1 (.int .i64 (a + (d : Int))))
              have HU : Hid (Many Tryd.prog 37 (ndC 8 (a + (d : Int)) b n t u p).size ∧ zN.size = (ndC 8 (a + (d : Int)) b n t u p).size ∧ ∀ v ∈ ndC 8 (a + (d : Int)) b n t u p, v.oneCell' = true) := fitsNd ⟨_, _, _, _, _, _, _⟩ zNd
              have HR : Hid (RowA ((w2.setCell ⟨q_x, 1, none⟩ (.int .i64 (a + (d : Int)))).setRow q_z (ndC 8 (a + (d : Int)) b n t u p)) q_z 37 (ndC 8 (a + (d : Int)) b n t u p)) := HZ.out.fill
              have HE : Hid (Below w.heap.size w ((w2.setCell ⟨q_x, 1, none⟩ (.int .i64 (a + (d : Int)))).setRow q_z (ndC 8 (a + (d : Int)) b n t u p))) := below_fillRow (below_set HB2.out hxx.out.1 1 (.int .i64 (a + (d : Int)))) hxx.out.2 _
              clear h_rx h_rz HB2
              go_wp2_with (first | (refine wpList_loadV (by rfl) _ _ (by rfl) _ _ (by rfl) _ (by assumption) (by assumption) ?_) | (refine wpList_storeV (by rfl) _ _ _ (by rfl) _ (by rfl) _ (by rfl) _ _ HZ HU ?_))
              refine bodyPost_ret (results_cell_row rfl _ _ _ 37 (ndC 8 (a + (d : Int)) b n t u p) (0, 0) _ rfl HR.out Tryd.underlying37 rfl sizeNd) rfl ?_
              exact ⟨by rw [← HV.out]; rfl, HE.out⟩
            · have e8 : (kk == 8) = false := by rw [beq_eq_false_iff_ne]; exact h8
              have k0 := h_rx.cell (k := 0) (v := .int .i64 kk) rfl
              have HI_x : Hid (InV w2 q_x 0 (ndC kk a b n t u p)) := RowA.inV (show RowA w2 q_x 37 (ndC kk a b n t u p) from h_rx)
              have HM_x : Hid (Many Tryd.prog 37 (ndC kk a b n t u p).size) := manyNd _ _ _ _ _ _ _
              have HZ : Hid (RowA w2 q_z 37 zN) := h_rz
              have HU : Hid (Many Tryd.prog 37 (ndC kk a b n t u p).size ∧ zN.size = (ndC kk a b n t u p).size ∧ ∀ v ∈ ndC kk a b n t u p, v.oneCell' = true) := fitsNd ⟨kk, a, b, n, t, u, p⟩ zNd
              have HR : Hid (RowA (w2.setRow q_z (ndC kk a b n t u p)) q_z 37 (ndC kk a b n t u p)) := HZ.out.fill
              have HE : Hid (Below w.heap.size w (w2.setRow q_z (ndC kk a b n t u p))) := below_fillRow HB2.out hxx.out.2 _
              have HVe : Hid (V = ndC kk a b n t u p) := by show _ = _; rw [← HV.out, shiftN_leaf (by rw [Bool.eq_false_iff]; exact two_no h3 h4 h5 h6) (by rw [Bool.eq_false_iff]; intro e; have h78 : kk = 7 ∨ kk = 8 := oneK_iff.1 e; omega)]; rfl
              clear h_rx h_rz HB2
              go_wp2_with (first | (refine wpList_loadV (by rfl) _ _ (by rfl) _ _ (by rfl) _ (by assumption) (by assumption) ?_) | (refine wpList_storeV (by rfl) _ _ _ (by rfl) _ (by rfl) _ (by rfl) _ _ HZ HU ?_))
              refine bodyPost_ret (results_cell_row rfl _ _ _ 37 (ndC kk a b n t u p) (0, 0) _ rfl HR.out Tryd.underlying37 rfl sizeNd) rfl ?_
              exact ⟨by rw [HVe.out], HE.out⟩
end Go.Proofs.YtbddhflmknaadaaDoor

/- Rows of nodes whole in a block: what is laid into them, what a store of one node, a copy of nodes leave. Of any program that has these types; no condition. -/
namespace Go.Proofs.YtbddhflmknaadaaDoor
open Go.RowKit Limb
set_option linter.unusedVariables false
def layL (L : List Nd) (k : Nat) (ts : List Nd) : List Nd := L.take k ++ (ts ++ L.drop (k + ts.length))
theorem ndCells_get : ∀ {ts : List Nd} {j : Nat} {v : Value}, (ndCells ts)[j]? = some v → ∃ (i r : Nat) (x : Nd), j = i * 7 + r ∧ ts[i]? = some x ∧ (ndV x)[r]? = some v
 | [], j, v, h => by simp [ndCells] at h
 | y :: ts, j, v, h => by
  have e : ndCells (y :: ts) = (ndV y).toList ++ ndCells ts := rfl
  rw [e] at h
  have hl : (ndV y).toList.length = 7 := rfl
  rcases Nat.lt_or_ge j 7 with h1 | h1
  · rw [List.getElem?_append_left (by rw [hl]; exact h1)] at h
    exact ⟨0, j, y, by omega, rfl, by simpa using h⟩
  · rw [List.getElem?_append_right (by rw [hl]; exact h1), hl] at h
    obtain ⟨i, r, x, h2, h3, h4⟩ := ndCells_get h
    exact ⟨i + 1, r, x, by omega, by simpa using h3, h4⟩
theorem ndCells_take (ts : List Nd) (k : Nat) : (ndCells ts).take (k * 7) = ndCells (ts.take k) := by
 induction ts generalizing k with
 | nil => simp [ndCells]
 | cons y ts ih =>
  cases k with
  | zero => simp [ndCells]
  | succ k =>
   show ((ndV y).toList ++ ndCells ts).take ((k + 1) * 7) = (ndV y).toList ++ ndCells (ts.take k)
   rw [← ih, List.take_append, show (ndV y).toList.length = 7 from rfl, show (k + 1) * 7 - 7 = k * 7 by omega, List.take_of_length_le (by show 7 ≤ _; omega)]
theorem ndCells_drop (ts : List Nd) (k : Nat) : (ndCells ts).drop (k * 7) = ndCells (ts.drop k) := by
 induction ts generalizing k with
 | nil => simp [ndCells]
 | cons y ts ih =>
  cases k with
  | zero => simp [ndCells]
  | succ k =>
   show ((ndV y).toList ++ ndCells ts).drop ((k + 1) * 7) = ndCells (ts.drop k)
   rw [← ih, List.drop_append, show (ndV y).toList.length = 7 from rfl, show (k + 1) * 7 - 7 = k * 7 by omega, List.drop_of_length_le (by show 7 ≤ _; omega), List.nil_append]
theorem ndCells_lay (L ts : List Nd) (k : Nat) : (ndCells L).take (k * 7) ++ (ndCells ts ++ (ndCells L).drop (k * 7 + (ndCells ts).length)) = ndCells (layL L k ts) := by
 rw [len_ndCells, ← Nat.add_mul, ndCells_take, ndCells_drop]
 unfold layL
 rw [ndCells_app, ndCells_app]
theorem set_lay {L : List Nd} {i : Nat} (h : i < L.length) (y : Nd) : layL L i [y] = L.set i y := by
 unfold layL
 rw [List.set_eq_take_append_cons_drop, if_pos h]
 rfl
def NdR (w : World) (g : Nat) (L : List Nd) : Prop := RowA w g 37 (ndCells L).toArray
theorem NdR.inV {w : World} {g : Nat} {L : List Nd} (h : NdR w g L) {i : Nat} {x : Nd} (hx : L[i]? = some x) : InV w g (i * 7) (ndV x) :=
 RowA.part h fun j v hv => by rw [List.getElem?_toArray]; exact ndCells_at hx j v hv
theorem NdR.tree {w : World} {g : Nat} {L : List Nd} (h : NdR w g L) (hm : L.length ≤ maxLen) : TreR w (some ⟨g, 0, none⟩) L.length L.length L :=
 ⟨rfl, Nat.le_refl _, hm, fun _ => ⟨g, 0, rfl, RowA.lt h, fun i x hx => by rw [Nat.zero_add]; exact h.inV hx⟩⟩
theorem NdR.below {w w' : World} {g : Nat} {L : List Nd} (h : NdR w g L) (hb : Below w.heap.size w w') : NdR w' g L := RowA.below h hb
theorem NdR.setCells {w : World} {g : Nat} {L : List Nd} (h : NdR w g L) {i : Nat} (hi : i < L.length) (y : Nd) : NdR (w.setRow g ((ndCells L).take (i * 7) ++ ((ndV y).toList ++ (ndCells L).drop (i * 7 + (ndV y).toList.length))).toArray) g (L.set i y) := by
 have e := ndCells_lay L [y] i
 rw [set_lay hi] at e
 unfold NdR
 rw [← e]
 have e2 : ndCells [y] = (ndV y).toList := by simp [ndCells]
 rw [e2]
 exact RowA.fill h
section
variable {ops : Array Oper} {rest : List Oper} {o : Oper} {a : Act} {w : World} {Q : Exit → Act → World → Prop}
theorem wpList_storeNd (hg : Region.wanted o (yielded ops a.tmps) = true) (x y : Operand) (ho : o.op = .store 37 x y) (g off : Nat) (hx : a.eval x = .pointer (some ⟨g, off, none⟩)) (V : Array Value) (hy : a.eval y = .agg V) (z : Nd) (L : List Nd) (i : Nat) (hc : Hid (NdR w g L ∧ V = ndV z ∧ off = i * 7 ∧ i < L.length))
 (h : ∀ w', Hid (NdR w' g (L.set i z)) → Hid (∀ B w0, B ≤ g → Below B w0 w → Below B w0 w') → wpList Tryd.prog ops Q rest (a.put o.dst undef) w') : wpList Tryd.prog ops Q (o :: rest) a w :=
 BigFrame.wpList_want hg fun K hK => by
  obtain ⟨h1, rfl, rfl, hi⟩ := hc.out
  have hl := len_ndCells L
  have hs := run_storeCells_at Tryd.prog g (i * 7) 37 (ndV z).toList 0 (ndCells L).toArray w h1 (by simp [hl, ndV]; omega) (fun v hv => ndV_one z v (by simpa using hv))
  have hr : (Instr.storeAt 37 (.pointer (some ⟨g, i * 7, none⟩)) (.agg (ndV z))).run Tryd.prog w = .ok () (w.setRow g ((ndCells L).take (i * 7) ++ ((ndV z).toList ++ (ndCells L).drop (i * 7 + (ndV z).toList.length))).toArray) := by
   have hi7 := sizeNd
   cases hq : Tryd.prog.info? 37 with
   | none => rw [hq] at hi7; cases hi7
   | some i7 =>
    have hs7 : (ndV z).size = i7.size := by rw [hq] at hi7; injection hi7 with hi7; exact hi7.symm
    simp only [Nat.add_zero, List.append_assoc] at hs
    simp [Instr.storeAt, Instr.sureAddr, storeVar, sizeOf, typeInfo, hq, Value.cells, hs7, hs]
  unfold Oper.wp execOp
  simp only [ho, hx, hy, hr, Sem.run_bind, Sem.run_pure, Result.andThen_ok]
  exact hK _ _ (h _ (h1.setCells hi z) (fun B w0 hB hb => below_setRow hb hB _))
theorem wpList_copy_nd (hgd : o.guard = none) (d s : Operand) (ho : o.op = .call { callee := .builtin .copy, args := #[d, s], argTypes := #[23, 23] })
 (g off dLen dCap : Nat) (sp : Option Addr) (sLen sCap : Nat) (hd : a.eval d = .slice (some ⟨g, off, none⟩) dLen dCap) (hs : a.eval s = .slice sp sLen sCap)
 (L ts : List Nd) (k : Nat) (hown : Hid (NdR w g L)) (hy : Hid (TreR w sp sLen sCap ts)) (hlen : Hid (0 < sLen ∧ sLen ≤ dLen ∧ off = k * 7 ∧ k + sLen ≤ L.length))
 (h : ∀ w', Hid (NdR w' g (layL L k ts)) → Hid (∀ B w0, B ≤ g → Below B w0 w → Below B w0 w') → wpList Tryd.prog ops Q rest (a.put o.dst (goInt sLen)) w') : wpList Tryd.prog ops Q (o :: rest) a w := by
 obtain ⟨l0, l1, rfl, l2⟩ := hlen.out
 obtain ⟨y1, y2, y3, y4⟩ := hy.out
 obtain ⟨gs, os, rfl, hgs, hin⟩ := y4 l0
 have hcl := len_ndCells ts
 have hLl := len_ndCells L
 refine wpList_plain hgd fun K hK => ?_
 have hsrc : ∀ j v, (ndCells ts)[j]? = some v → w.cell? ((⟨gs, os, none⟩ : Addr).add j) = some v := by
  intro j v hv
  obtain ⟨i, r, x, rfl, hx, hr⟩ := ndCells_get hv
  rw [Addr.add_mid, ← Nat.add_assoc]
  exact hin i x hx r v hr
 have hl := run_loadCells_list (P := Tryd.prog) w ⟨gs, os, none⟩ (ndCells ts) hsrc
 have hst := run_storeCells_at Tryd.prog g (k * 7) 37 (ndCells ts) 0 (ndCells L).toArray w hown.out (by simp [hLl, hcl]; omega) (ndCells_one ts)
 simp only [Nat.add_zero, List.append_assoc] at hst
 have hrun : (Builtin.copy_ #[23, 23] o.type #[.slice (some ⟨g, k * 7, none⟩) dLen dCap, .slice (some ⟨gs, os, none⟩) sLen sCap]).run Tryd.prog w = .ok (goInt sLen) (w.setRow g ((ndCells L).take (k * 7) ++ (ndCells ts ++ (ndCells L).drop (k * 7 + (ndCells ts).length))).toArray) := by
  have hi7 := sizeNd
  cases hq : Tryd.prog.info? 37 with
  | none => rw [hq] at hi7; cases hi7
  | some i7 =>
   have hs7 : i7.size = 7 := by rw [hq] at hi7; injection hi7
   have hmin : Nat.min sLen dLen = sLen := Nat.min_eq_left l1
   have hn7 : sLen * 7 = (ndCells ts).length := by rw [hcl, y1]
   simp [Builtin.copy_, run_underlying Tryd.underlying23, Builtin.lenOf, Builtin.firstCells, sizeOf, typeInfo, hq, hs7, hmin, hn7, hl, hst]
 unfold Oper.wp
 simp [execOp, ho, resolve, invoke, builtin, hd, hs, hrun, Result.andThen]
 refine hK _ _ (h _ ?_ (fun B w0 hB hb => below_setRow hb hB _))
 show RowA _ _ _ _
 rw [← ndCells_lay]
 exact RowA.fill hown.out
end
theorem made_nd (W : World) (n : Nat) (hn : n ≤ 1000000) : (Instr.makeSlice 23 (.int .i64 (n : Int)) (.int .i64 (n : Int))).run Tryd.prog W = .ok (.slice (some ⟨W.heap.size, 0, none⟩) n n) (W.alloc (.cells (ndCells (List.replicate n zNd)).toArray 37)) := by
 obtain ⟨i0, z, h1, h2, h3, h4, h5, h6, h7⟩ := nds_elem
 have hz : z = .agg zN := by
  have : (Tryd.prog.info? 37).map (·.zero) = some (some (.agg zN)) := by kernel_rfl
  rw [h2] at this
  simp [h3] at this
  exact this
 have hb : (i0.bytes : Int) * (n : Int) ≤ 1000000000 := by
  have : i0.bytes * n ≤ 1000 * 1000000 := Nat.mul_le_mul h7 hn
  have e : (i0.bytes : Int) * (n : Int) = ((i0.bytes * n : Nat) : Int) := by simp
  rw [e]; omega
 have h := run_make (P := Tryd.prog) W 23 37 i0 z h1 h2 h3 .i64 .i64 (n : Int) (n : Int) (by omega) (by omega) (by omega) (by omega)
 rw [h4, hz, Int.toNat_natCast] at h
 have e : madeCells (Value.agg zN).cells (n * 7) = (ndCells (List.replicate n zNd)).toArray := by
  apply Array.toList_inj.1
  rw [List.toList_toArray]
  apply List.ext_getElem?
  intro j
  have hl : (ndCells (List.replicate n zNd)).length = n * 7 := by rw [len_ndCells, List.length_replicate]
  by_cases hj : j < n * 7
  · have hz7 : (ndV zNd)[j % 7]? = some ((ndV zNd)[j % 7]'(by show j % 7 < 7; omega)) := Array.getElem?_eq_getElem _
    have h9 := ndCells_at (ts := List.replicate n zNd) (i := j / 7) (x := zNd) (by rw [List.getElem?_replicate, if_pos (by omega)]) (j % 7) _ hz7
    rw [show j / 7 * 7 + j % 7 = j by omega] at h9
    rw [h9]
    show (madeCells zN (n * 7)).toList[j]? = _
    have key : ∀ r (hr : r < 7), (zN.toList[r]?.getD default) = (ndV zNd)[r]'hr := by
     intro r hr
     match r, hr with
     | 0, _ => rfl
     | 1, _ => rfl
     | 2, _ => rfl
     | 3, _ => rfl
     | 4, _ => rfl
     | 5, _ => rfl
     | 6, _ => rfl
     | r + 7, h => omega
    unfold madeCells
    simp [hj]
    exact key _ (by omega)
  · rw [List.getElem?_eq_none (by show (madeCells zN (n * 7)).toList.length ≤ j; rw [Array.length_toList, size_madeCells]; omega), List.getElem?_eq_none (by rw [hl]; omega)]
 rw [e] at h
 exact h
end Go.Proofs.YtbddhflmknaadaaDoor

/- What package tree's lay answers, as a contract over memory. Conditions: a row of nodes whole in a block; a child of at least one node, texts of at most 10^6 bytes, places from 0 to 10^6. -/
namespace Go.Proofs.YtbddhflmknaadaaDoor
open Go.RowKit Limb
set_option linter.unusedVariables false
def Fair (x : Nd) : Prop := x.t.size ≤ 1000000 ∧ x.u.size ≤ 1000000 ∧ 0 ≤ x.a ∧ x.a ≤ 1000000 ∧ 0 ≤ x.b ∧ x.b ≤ 1000000
def mixL (L : List Nd) (k d : Nat) (ts : List Nd) (i : Nat) : List Nd := layL L k ((ts.take i).map (shiftN d) ++ ts.drop i)
theorem lay_step {L ts : List Nd} {d k i : Nat} {x : Nd} (hx : ts[i]? = some x) (hk : k + ts.length ≤ L.length) : (mixL L k d ts i).set (k + i) (shiftN d x) = mixL L k d ts (i + 1) := by
 unfold mixL
 have hi := (List.getElem?_eq_some_iff.1 hx).1
 have hxe := (List.getElem?_eq_some_iff.1 hx).2
 have h1 : (L.take k).length = k := by rw [List.length_take]; omega
 have h2 : ((ts.take i).map (shiftN d)).length = i := by simp; omega
 have hl1 : ((ts.take i).map (shiftN d) ++ ts.drop i).length = ts.length := by simp; omega
 have hl2 : ((ts.take (i + 1)).map (shiftN d) ++ ts.drop (i + 1)).length = ts.length := by simp; omega
 unfold layL
 rw [hl1, hl2, List.set_append_right (h := by rw [h1]; omega), h1, Nat.add_sub_cancel_left, List.append_assoc, List.set_append_right (h := by rw [h2]; exact Nat.le_refl _), h2, Nat.sub_self, List.drop_eq_getElem_cons hi, List.cons_append, List.set_cons_zero, List.take_add_one, hx]
 simp
theorem lay_at {L ts : List Nd} {d k i : Nat} {x : Nd} (hx : ts[i]? = some x) (hk : k + ts.length ≤ L.length) : (mixL L k d ts i)[k + i]? = some x := by
 unfold mixL
 have hi := (List.getElem?_eq_some_iff.1 hx).1
 have h1 : (L.take k).length = k := by rw [List.length_take]; omega
 have h2 : ((ts.take i).map (shiftN d)).length = i := by simp; omega
 unfold layL
 rw [List.getElem?_append_right (by rw [h1]; omega), h1, Nat.add_sub_cancel_left, List.append_assoc, List.getElem?_append_right (by rw [h2]; exact Nat.le_refl _), h2, Nat.sub_self, List.drop_eq_getElem_cons hi]
 rw [List.cons_append, List.getElem?_cons_zero, (List.getElem?_eq_some_iff.1 hx).2]
theorem len_mix {L ts : List Nd} {k d i : Nat} (h : k + ts.length ≤ L.length) (hi : i ≤ ts.length) : (mixL L k d ts i).length = L.length := by unfold mixL layL; simp; omega
theorem mix_start (L : List Nd) (k d : Nat) (ts : List Nd) : mixL L k d ts 0 = layL L k ts := by simp [mixL]
theorem mix_end (L : List Nd) (k d : Nat) (ts : List Nd) : mixL L k d ts ts.length = layL L k (ts.map (shiftN d)) := by simp [mixL]
set_option maxHeartbeats 4000000 in
set_option maxRecDepth 100000 in
theorem tLay_c {w : World} {g k rl rc d : Nat} {L0 : List Nd} (hr : NdR w g L0) (hrl : rl ≤ rc) (hrc : rc ≤ 1000000) {A : Option Addr} {n c : Nat} {ts : List Nd} (h : TreR w A n c ts) (h0 : 0 < n) (hn6 : n ≤ rl) (hk : k + n ≤ L0.length) (hd6 : d ≤ 1000000) (hf : ∀ x ∈ ts, Fair x) {D : Int} (hD : D = (d : Int)) :
 Calls Tryd.prog 33 #[.slice (some ⟨g, k * 7, none⟩) rl rc, .slice A n c, .int .i64 D] w fun e w' => e = .returned (.tuple #[]) ∧ NdR w' g (layL L0 k (ts.map (shiftN d))) ∧ Below g w w' := by
 subst hD
 obtain ⟨hn, hc, hcm, _⟩ := id h
 have HO := Lib.hid hr
 have HY := Lib.hid h
 have HL : Hid (0 < n ∧ n ≤ rl ∧ k * 7 = k * 7 ∧ k + n ≤ L0.length) := ⟨h0, hn6, rfl, hk⟩
 have HN := Lib.hid hn
 have HF := Lib.hid hf
 have HK : Hid (k + ts.length ≤ L0.length) := by show _ ≤ _; rw [← hn]; exact hk
 clear h hr hn hf hk
 go_enter Tryd.func33, Tryd.ntmps33
 go_wp2_with (refine wpList_copy_nd rfl _ _ rfl g (k * 7) rl rc A n c rfl rfl L0 ts k HO HY HL ?_)
 intro w1 HO1 HB1
 have HB2 := Lib.hid (HB1.out g w (Nat.le_refl _) (Below.refl _ _))
 have HO2 : Hid (NdR w1 g (mixL L0 k d ts 0)) := by show NdR _ _ _; rw [mix_start]; exact HO1.out
 clear HB1 HO1 HO HY
 go_wp2
 go_loopw [16] (fun i wr => ∃ i0 : Nat, i = .int .i64 (i0 : Int) ∧ i0 ≤ n ∧ Hid (NdR wr g (mixL L0 k d ts i0)) ∧ Hid (Below g w wr)) (fun i _ => n - (intOf i).toNat)
 case atStart => exact ⟨0, rfl, Nat.zero_le _, HO2, HB2⟩
 case round =>
  obtain ⟨i, rfl, hi, HO3, HB3⟩ := hrel
  by_cases hlt : i < n
  · skip
    obtain ⟨x, hx⟩ : ∃ x, ts[i]? = some x := ⟨_, List.getElem?_eq_getElem (by rw [← HN.out]; exact hlt)⟩
    have HX := Lib.hid hx
    have hin := HO3.out.inV (lay_at (d := d) hx HK.out)
    obtain ⟨ft, fu, fa0, fa1, fb0, fb1⟩ := HF.out x (List.mem_of_getElem? hx)
    obtain ⟨k1, a1, b1, m1, t1, u1, p1⟩ := x
    dsimp only at ft fu fa0 fa1 fb0 fb1
    obtain ⟨V, hV⟩ : ∃ V, ndV (shiftN d ⟨k1, a1, b1, m1, t1, u1, p1⟩) = V := ⟨_, rfl⟩
    have HV := Lib.hid hV
    have HI_x : Hid (InV wr g (k * 7 + i * 7) (ndC k1 a1 b1 m1 t1 u1 p1)) := by rw [← Nat.add_mul]; exact hin
    have HM_x := Lib.hid (manyNd k1 a1 b1 m1 t1 u1 p1)
    have HU_x : Hid (Many Tryd.prog 37 (ndC k1 a1 b1 m1 t1 u1 p1).size ∧ zN.size = (ndC k1 a1 b1 m1 t1 u1 p1).size ∧ ∀ v ∈ ndC k1 a1 b1 m1 t1 u1 p1, v.oneCell' = true) := fitsNd ⟨k1, a1, b1, m1, t1, u1, p1⟩ zNd
    have bn := below_new wr (.cells (ndC k1 a1 b1 m1 t1 u1 p1) 37)
    have hgl := RowA.lt HO3.out
    have HO4 := Lib.hid (HO3.out.below bn)
    have HB4 := Lib.hid (HB3.out.trans (bn.mono (Nat.le_of_lt hgl)))
    have HI_y : Hid (InV (wr.alloc (.cells (ndC k1 a1 b1 m1 t1 u1 p1) 37)) wr.heap.size 0 (ndC k1 a1 b1 m1 t1 u1 p1)) := (rowA_new wr 37 (ndC k1 a1 b1 m1 t1 u1 p1)).inV
    have Hgl := Lib.hid hgl
    clear hx hin bn HO3 HB3 hV hgl
    go_wp2_with (first | (refine wpList_loadV (by rfl) _ _ (by rfl) _ _ (by rfl) _ (by assumption) (by assumption) ?_) | (refine wpList_storeNew (by rfl) _ _ _ (by rfl) _ _ _ (by rfl) (by rfl) (by assumption) ?_))
    refine (tMoved_c k1 a1 b1 m1 t1 u1 p1 d ft fu fa0 fa1 fb0 fb1 hd6 V HV.out _).mono ?_
    rintro e w3 ⟨rfl, bn⟩
    have HO5 := HO4.out.below bn
    have HB5 := Lib.hid (HB4.out.trans (bn.mono (by have := Hgl.out; simp; omega)))
    have HC : Hid (NdR w3 g (mixL L0 k d ts i) ∧ V = ndV (shiftN d ⟨k1, a1, b1, m1, t1, u1, p1⟩) ∧ k * 7 + i * 7 = (k + i) * 7 ∧ k + i < (mixL L0 k d ts i).length) := ⟨HO5, HV.out.symm, by omega, by rw [len_mix HK.out (by rw [← HN.out]; exact hi)]; have := HL.out.2.2.2; omega⟩
    clear bn HO4 HB4 HO5 HI_x HI_y HU_x
    go_wp2_with (refine wpList_storeNd (by rfl) _ _ (by rfl) g (k * 7 + i * 7) (by rfl) V (by rfl) _ _ (k + i) HC ?_)
    intro w4 HO6 HB6
    have HB7 := Lib.hid (HB6.out g w (Nat.le_refl _) HB5.out)
    have HO7 : Hid (NdR w4 g (mixL L0 k d ts (i + 1))) := by show NdR _ _ _; rw [← lay_step HX.out HK.out]; exact HO6.out
    clear HO6 HB6 HC HB5
    go_wp2
    exact ⟨⟨i + 1, by go_num, hlt, HO7, HB7⟩, by simp [intOf]; omega⟩
  · obtain rfl : i = n := by omega
    have HOf : Hid (NdR wr g (layL L0 k (ts.map (shiftN d)))) := by
     have h := HO3.out
     rw [HN.out, mix_end] at h
     exact h
    go_wp2
    go_end0
    exact ⟨rfl, HOf.out, HB3.out⟩
end Go.Proofs.YtbddhflmknaadaaDoor

/- What package tree's Deep answers, as a contract over memory. Conditions: rows of nodes that can be read, texts of at most 10^6 bytes; the tables of kinds read as they are laid. -/
namespace Go.Proofs.YtbddhflmknaadaaDoor
open Go.RowKit Limb
set_option linter.unusedVariables false
theorem step_at {ts : List Nd} {o : List Nat} (h : begT ts = some o) {k : Nat} {x : Nd} (hx : ts[k]? = some x) : ∃ s, stepB (o.take k) x = some s ∧ (o.take k).length = k := by
 have hk := (List.getElem?_eq_some_iff.1 hx).1
 have h1 := begT_take h k
 cases hs : stepB (o.take k) x with
 | none => rw [begT_fall hx h1 hs] at h; cases h
 | some s => exact ⟨s, rfl, by rw [List.length_take, begT_len h]; omega⟩
theorem depS_leaf {d : List Nat} {x : Nd} (hk : x.k = 1 ∨ x.k = 2) : depS d x = 1 := by
 have e1 : twoK x.k = false := by rw [Bool.eq_false_iff]; intro e; have := twoK_iff.1 e; omega
 have e2 : oneK x.k = false := by rw [Bool.eq_false_iff]; intro e; have := oneK_iff.1 e; omega
 unfold depS
 rw [e1, e2]; rfl
theorem depS_one {d : List Nat} {x : Nd} {j : Nat} (hk : oneK x.k = true) (ha : x.a = (j : Int)) : depS d x = 1 + d.getD j 0 := by
 unfold depS
 rw [if_neg (by rw [one_not_two hk]; decide), if_pos hk, ha, Int.toNat_natCast]
theorem depS_two {d : List Nat} {x : Nd} {i j : Nat} (hk : twoK x.k = true) (ha : x.a = (i : Int)) (hb : x.b = (j : Int)) : depS d x = 1 + max (d.getD i 0) (d.getD j 0) := by
 unfold depS
 rw [if_pos hk, ha, hb, Int.toNat_natCast, Int.toNat_natCast]
set_option maxHeartbeats 4000000 in
set_option maxRecDepth 100000 in
theorem tDeep_no {w : World} {A : Option Addr} {n c : Nat} {ts : List Nd} (h : TreR w A n c ts) (hm : Mild ts) (T : XTab w) (hg : goodT ts = false) :
 Calls Tryd.prog 22 #[.slice A n c] w fun e w' => e = .returned (.int .i64 0) ∧ Below w.heap.size w w' := by
 have HG := Lib.hid (tGood_c h hm T false hg)
 clear h hm T hg
 go_enter Tryd.func22, Tryd.ntmps22
 go_wp2_with fail
 refine HG.out.mono ?_
 rintro e w1 ⟨rfl, bn⟩
 have HB := Lib.hid bn
 clear bn HG
 go_wp2
 go_ret
 exact ⟨rfl, HB.out⟩
set_option maxHeartbeats 4000000 in
set_option maxRecDepth 100000 in
theorem tDeep_yes {w : World} {A : Option Addr} {n c : Nat} {ts : List Nd} (h : TreR w A n c ts) (hm : Mild ts) (T : XTab w) (hg : goodT ts = true) :
 Calls Tryd.prog 22 #[.slice A n c] w fun e w' => e = .returned (.int .i64 ((depT ts).getD (n - 1) 0 : Nat)) ∧ Below w.heap.size w w' := by
 obtain ⟨hn, hc, hcm, _⟩ := id h
 obtain ⟨g1, g2, bs, hb, hbl, _, _⟩ := good_all hg
 have HG := Lib.hid (tGood_c h hm T true hg)
 have H := Lib.hid h
 have HN := Lib.hid hn
 have HBe := Lib.hid hb
 have HDo := Lib.hid (depT_dep hb)
 have HLo := Lib.hid (begT_low hb)
 have hn6 : n ≤ 2000 := by omega
 have hn1 : 1 ≤ n := by omega
 clear h hm T hg hn hb hbl g1 g2
 go_enter Tryd.func22, Tryd.ntmps22
 go_wp2_with fail
 refine HG.out.mono ?_
 rintro e w0 ⟨rfl, bn⟩
 have hmk := made_int w0 n (by omega)
 have bw := below_two bn (below_new w0 (.cells (ints .i64 (List.replicate n 0)) 3))
 have HS0 := Lib.hid (nuR_new w0 n)
 have HQ : Hid (w.heap.size ≤ w0.heap.size) := bn.size
 clear bn HG
 go_wp2
 generalize w0.alloc (.cells (ints .i64 (List.replicate n 0)) 3) = w1 at *
 generalize w0.heap.size = q at *
 clear hmk
 have HB0 := Lib.hid bw
 clear bw
 go_loopw [14] (fun i wr => ∃ ds : List Nat, i = .int .i64 (ds.length : Int) ∧ ds.length ≤ n ∧ Hid (depT (ts.take ds.length) = ds) ∧ Hid (NuR wr q 3 ds (n - ds.length)) ∧ Hid (Below w.heap.size w wr)) (fun i _ => n - (intOf i).toNat)
 case atStart => exact ⟨[], rfl, Nat.zero_le _, rfl, HS0, HB0⟩
 case round =>
  obtain ⟨ds, rfl, hk, HD, HS, HB⟩ := hrel
  by_cases hlt : ds.length < n
  · skip
    obtain ⟨x, hx⟩ : ∃ x, ts[ds.length]? = some x := ⟨_, List.getElem?_eq_getElem (by rw [← HN.out]; exact hlt)⟩
    obtain ⟨s, hs, hol⟩ := step_at HBe.out hx
    have hcs := (stepB_cases hs).2
    have HNx : Hid (depT (ts.take (ds.length + 1)) = ds ++ [depS ds x]) := by show _ = _; rw [depT_next hx, HD.out]
    have hdl : ∀ j, j < ds.length → ds.getD j 0 ≤ j + 1 := fun j hj => by
     have h3 := (HDo.out j (by rw [depT_len, ← HN.out]; omega)).2
     rw [← depT_at (ts := ts) (i := ds.length) (by rw [← HN.out]; exact hk) hj, HD.out] at h3
     exact h3
    obtain ⟨g, og, rfl, hg, hin⟩ := (H.out.below HB.out).at hx
    obtain ⟨kk, a, b, m, t, u, p⟩ := x
    have HI_x : Hid (InV wr g (og + ds.length * 7) (ndC kk a b m t u p)) := hin
    have HM_x := Lib.hid (manyNd kk a b m t u p)
    have HU_x : Hid (Many Tryd.prog 37 (ndC kk a b m t u p).size ∧ zN.size = (ndC kk a b m t u p).size ∧ ∀ v ∈ ndC kk a b m t u p, v.oneCell' = true) := fitsNd ⟨kk, a, b, m, t, u, p⟩ zNd
    have bn := below_new wr (.cells (ndC kk a b m t u p) 37)
    have hss := HS.out.below bn
    have HBs := Lib.hid (below_two HB.out bn)
    obtain ⟨j2, hj2⟩ : ∃ j, n - ds.length = j + 1 := ⟨n - ds.length - 1, by omega⟩
    rw [hj2] at hss
    obtain ⟨z0, c1, f1⟩ := hss.room
    have HSs := Lib.hid hss
    have rnd : Hid (∀ (W : World) (D : Nat) (V : Int), Below (wr.alloc (.cells (ndC kk a b m t u p) 37)).heap.size (wr.alloc (.cells (ndC kk a b m t u p) 37)) W → V = (D : Int) → depS ds ⟨kk, a, b, m, t, u, p⟩ = D → ∃ es : List Nat, es.length = ds.length + 1 ∧ depT (ts.take es.length) = es ∧ NuR (W.setCell ⟨q, ds.length, none⟩ (.int .i64 V)) q 3 es (n - es.length) ∧ Below w.heap.size w (W.setCell ⟨q, ds.length, none⟩ (.int .i64 V))) := by
     intro W D V hbW hV hD
     subst hV
     have el : (ds ++ [D]).length = ds.length + 1 := by simp
     refine ⟨ds ++ [D], el, ?_, ?_, below_set (below_two HBs.out hbW) HQ.out _ _⟩
     · rw [el, HNx.out, hD]
     · rw [el, show n - (ds.length + 1) = j2 by omega]; exact (HSs.out.below hbW).store D
    clear hx hin bn HS HB hg hs hss HNx hj2
    cases hcs with
    | leaf hkk _ =>
     dsimp only at hkk
     clear hdl
     obtain ⟨es, e1, e2, e3, e4⟩ := rnd.out (wr.alloc (.cells (ndC kk a b m t u p) 37)) 1 1 (Below.refl _ _) (by omega) (depS_leaf hkk)
     have HE1 := Lib.hid e1
     have HE2 := Lib.hid e2
     have HE3 := Lib.hid e3
     have HE4 := Lib.hid e4
     clear e1 e2 e3 e4
     clear rnd
     rcases hkk with rfl | rfl
     · go_wp2_with (first | (refine wpList_loadV (by rfl) _ _ (by rfl) _ _ (by rfl) _ (by assumption) (by assumption) ?_) | (refine wpList_storeNew (by rfl) _ _ _ (by rfl) _ _ _ (by rfl) (by rfl) (by assumption) ?_))
       go_roundw
       case rel => exact ⟨es, by rw [HE1.out]; first | rfl | (go_num), by rw [HE1.out]; exact hlt, HE2, HE3, HE4⟩
       case measure => simp [intOf]; omega
     · go_wp2_with (first | (refine wpList_loadV (by rfl) _ _ (by rfl) _ _ (by rfl) _ (by assumption) (by assumption) ?_) | (refine wpList_storeNew (by rfl) _ _ _ (by rfl) _ _ _ (by rfl) (by rfl) (by assumption) ?_))
       go_roundw
       case rel => exact ⟨es, by rw [HE1.out]; first | rfl | (go_num), by rw [HE1.out]; exact hlt, HE2, HE3, HE4⟩
       case measure => simp [intOf]; omega
    | one hkk j ha hlj _ =>
     dsimp only at hkk ha
     subst ha
     have hj : j < ds.length := by omega
     obtain ⟨y, hy⟩ : ∃ y, ds.getD j 0 = y := ⟨_, rfl⟩
     have cj := HSs.out.cell hj
     rw [hy] at cj
     have hy6 := hdl j hj
     rw [hy] at hy6
     obtain ⟨es, e1, e2, e3, e4⟩ := rnd.out (wr.alloc (.cells (ndC kk (j : Int) b m t u p) 37)) (1 + y) (1 + (y : Int)) (Below.refl _ _) (by omega) (by rw [depS_one hkk rfl, hy])
     have HE1 := Lib.hid e1
     have HE2 := Lib.hid e2
     have HE3 := Lib.hid e3
     have HE4 := Lib.hid e4
     clear e1 e2 e3 e4
     clear rnd hdl hlj hy
     rcases oneK_iff.1 hkk with rfl | rfl
     · clear hkk
       go_wp2_with (first | (refine wpList_loadV (by rfl) _ _ (by rfl) _ _ (by rfl) _ (by assumption) (by assumption) ?_) | (refine wpList_storeNew (by rfl) _ _ _ (by rfl) _ _ _ (by rfl) (by rfl) (by assumption) ?_))
       go_roundw
       case rel => exact ⟨es, by rw [HE1.out]; first | rfl | (go_num), by rw [HE1.out]; exact hlt, HE2, HE3, HE4⟩
       case measure => simp [intOf]; omega
     · clear hkk
       go_wp2_with (first | (refine wpList_loadV (by rfl) _ _ (by rfl) _ _ (by rfl) _ (by assumption) (by assumption) ?_) | (refine wpList_storeNew (by rfl) _ _ _ (by rfl) _ _ _ (by rfl) (by rfl) (by assumption) ?_))
       go_roundw
       case rel => exact ⟨es, by rw [HE1.out]; first | rfl | (go_num), by rw [HE1.out]; exact hlt, HE2, HE3, HE4⟩
       case measure => simp [intOf]; omega
    | two hkk j i hb hlj ha hi _ =>
     dsimp only at hkk ha hb
     subst ha
     subst hb
     have hlo := (begT_low (begT_take HBe.out ds.length)).le j
     have hj : j < ds.length := by omega
     have hij : i < ds.length := by omega
     obtain ⟨y, hy⟩ : ∃ y, ds.getD j 0 = y := ⟨_, rfl⟩
     obtain ⟨x, hx⟩ : ∃ x, ds.getD i 0 = x := ⟨_, rfl⟩
     have hy6 := hdl j hj
     have hx6 := hdl i hij
     rw [hy] at hy6
     rw [hx] at hx6
     obtain ⟨mx, hmx⟩ : ∃ mx, max x y = mx := ⟨_, rfl⟩
     have hmx6 : mx ≤ 2001 := by omega
     have hk2 := twoK_iff.1 hkk
     have e1 : (kk == 1) = false := by rw [beq_eq_false_iff_ne]; omega
     have e2 : (kk == 2) = false := by rw [beq_eq_false_iff_ne]; omega
     have e7 : (kk == 7) = false := by rw [beq_eq_false_iff_ne]; omega
     have e8 : (kk == 8) = false := by rw [beq_eq_false_iff_ne]; omega
     have HDD : Hid (depS ds ⟨kk, (i : Int), (j : Int), m, t, u, p⟩ = 1 + mx) := by show _ = _; rw [depS_two hkk rfl rfl, hx, hy, hmx]
     clear c1 f1
     have HX := Lib.hid hx
     have HY := Lib.hid hy
     have HMX := Lib.hid hmx
     clear hdl hlj hx hy hi hkk hmx hlo
     go_wp2_with (first | (refine wpList_loadV (by rfl) _ _ (by rfl) _ _ (by rfl) _ (by assumption) (by assumption) ?_) | (refine wpList_storeNew (by rfl) _ _ _ (by rfl) _ _ _ (by rfl) (by rfl) (by assumption) ?_))
     have hrx := rowA_new wr 37 (ndC kk (i : Int) (j : Int) m t u p)
     generalize hWs : wr.alloc (.cells (ndC kk (i : Int) (j : Int) m t u p) 37) = wS at *
     obtain ⟨q5, hq5⟩ : ∃ g, g = wr.heap.size := ⟨_, rfl⟩
     rw [← hq5] at hrx ⊢
     clear hq5 hWs HI_x HU_x
     refine region_freed 15 1 8 [21, 22, 23, 24, 25, 26, 27, 28, 29, 30, 31, 32, 33, 34, 35] ?aF4 (fun wx => Below wS.heap.size wS wx) (fun k vv wx => match k with
      | 0 => vv = .slice (some ⟨q, 0, none⟩) n n
      | 1 => vv = .int .i64 (ds.length : Int)
      | 2 => vv = .slice (some ⟨q, 0, none⟩) n n
      | 3 => vv = .pointer (some ⟨q5, 1, none⟩)
      | 4 => vv = .int .i64 (i : Int)
      | 5 => vv = .pointer (some ⟨q, i, none⟩)
      | 6 => vv = .int .i64 (x : Int)
      | 7 => vv = .slice (some ⟨q, 0, none⟩) n n
      | 8 => vv = .pointer (some ⟨q5, 2, none⟩)
      | 9 => vv = .int .i64 (j : Int)
      | 10 => vv = .pointer (some ⟨q, j, none⟩)
      | 11 => vv = .int .i64 (y : Int)
      | 12 => vv = .int .i64 (mx : Int)
      | 13 => vv = .int .i64 (1 + (mx : Int))
      | _ => vv = .pointer (some ⟨q, ds.length, none⟩))
      (fun k => false) (by kernel_rfl) ?haF4 rfl (by kernel_rfl) (by kernel_rfl) (fun _ _ _ _ _ h => h) ?hSb4 ?hPb4 ?hS4 ?hop4 ?hfin4
     case haF4 =>
      intro vals
      simp only [fillAll, List.getElem?_cons_zero, List.getElem?_cons_succ, Act.put, List.setIfInBounds_toArray, List.set_cons_zero, List.set_cons_succ]
      exact rfl
     case hSb4 => exact fun wx w2 hb hS => below_two hS hb
     case hPb4 =>
      intro k v wa wb hb h
      match k, h with
      | 0, h => exact h
      | 1, h => exact h
      | 2, h => exact h
      | 3, h => exact h
      | 4, h => exact h
      | 5, h => exact h
      | 6, h => exact h
      | 7, h => exact h
      | 8, h => exact h
      | 9, h => exact h
      | 10, h => exact h
      | 11, h => exact h
      | 12, h => exact h
      | 13, h => exact h
      | _ + 14, h => exact h
     case hS4 => exact (Below.refl _ _).drew
     case hop4 =>
      refine .cons (k := 0) (.plain rfl ?_) (.cons (k := 1) (.plain rfl ?_) (.cons (k := 2) (.plain rfl ?_) (.cons (k := 3) (.plain rfl ?_) (.cons (k := 4) (.plain rfl ?_) (.cons (k := 5) (.plain rfl ?_) (.cons (k := 6) (.plain rfl ?_) (.cons (k := 7) (.plain rfl ?_) (.cons (k := 8) (.plain rfl ?_) (.cons (k := 9) (.plain rfl ?_) (.cons (k := 10) (.plain rfl ?_) (.cons (k := 11) (.plain rfl ?_) (.cons (k := 12) (.plain rfl ?_) (.cons (k := 13) (.plain rfl ?_) (.cons (k := 14) (.plain rfl ?_) (.nil)))))))))))))))
      all_goals intro vals wr hS hd KC hK
      all_goals (show Oper.wp _ _ _ _ _ _; dsimp only)
      · go_simp
        refine hK _ _ rfl (Below.refl _ _) (by first | rfl | simp) (fun h => by cases h)
      · go_simp
        refine hK _ _ rfl (Below.refl _ _) (by first | rfl | simp) (fun h => by cases h)
      · go_simp
        refine hK _ _ rfl (Below.refl _ _) (by first | rfl | simp) (fun h => by cases h)
      · go_simp
        refine hK _ _ rfl (Below.refl _ _) (by first | rfl | simp) (fun h => by cases h)
      · have d3 : vals 3 = _ := hd 3 (by decide +kernel)
        rw [d3]
        have z0 := (hrx.below hS).cell (k := 1) (v := .int .i64 (i : Int)) rfl
        go_simp
        refine hK _ _ rfl (Below.refl _ _) (by first | rfl | simp) (fun h => by cases h)
      · have d2 : vals 2 = _ := hd 2 (by decide +kernel)
        have d4 : vals 4 = _ := hd 4 (by decide +kernel)
        rw [d2, d4]
        have g1 : (i : Int) < (n : Int) := by omega
        go_simp
        refine hK _ _ rfl (Below.refl _ _) (by first | rfl | simp) (fun h => by cases h)
      · have d5 : vals 5 = _ := hd 5 (by decide +kernel)
        rw [d5]
        have ci := (HSs.out.below hS).cell hij
        rw [HX.out] at ci
        go_simp
        refine hK _ _ rfl (Below.refl _ _) (by first | rfl | simp) (fun h => by cases h)
      · go_simp
        refine hK _ _ rfl (Below.refl _ _) (by first | rfl | simp) (fun h => by cases h)
      · go_simp
        refine hK _ _ rfl (Below.refl _ _) (by first | rfl | simp) (fun h => by cases h)
      · have d8 : vals 8 = _ := hd 8 (by decide +kernel)
        rw [d8]
        have z0 := (hrx.below hS).cell (k := 2) (v := .int .i64 (j : Int)) rfl
        go_simp
        refine hK _ _ rfl (Below.refl _ _) (by first | rfl | simp) (fun h => by cases h)
      · have d7 : vals 7 = _ := hd 7 (by decide +kernel)
        have d9 : vals 9 = _ := hd 9 (by decide +kernel)
        rw [d7, d9]
        have g1 : (j : Int) < (n : Int) := by omega
        go_simp
        refine hK _ _ rfl (Below.refl _ _) (by first | rfl | simp) (fun h => by cases h)
      · have d10 : vals 10 = _ := hd 10 (by decide +kernel)
        rw [d10]
        have ci := (HSs.out.below hS).cell hj
        rw [HY.out] at ci
        go_simp
        refine hK _ _ rfl (Below.refl _ _) (by first | rfl | simp) (fun h => by cases h)
      · have d6 : vals 6 = _ := hd 6 (by decide +kernel)
        have d11 : vals 11 = _ := hd 11 (by decide +kernel)
        rw [d6, d11]
        have hm1 : max (x : Int) (y : Int) = (mx : Int) := by have := HMX.out; omega
        go_simp
        refine hK _ _ rfl (Below.refl _ _) (by first | rfl | simp) (fun h => by cases h)
      · have d12 : vals 12 = _ := hd 12 (by decide +kernel)
        rw [d12]
        have hwr : IntKind.i64.wrap (1 + (mx : Int)) = 1 + (mx : Int) := by rw [IntKind.wrap_i64]; omega
        go_simp
        refine hK _ _ rfl (Below.refl _ _) (by first | rfl | simp) (fun h => by cases h)
      · have d0 : vals 0 = _ := hd 0 (by decide +kernel)
        have d1 : vals 1 = _ := hd 1 (by decide +kernel)
        rw [d0, d1]
        have g1 : (ds.length : Int) < (n : Int) := by omega
        go_simp
        refine hK _ _ rfl (Below.refl _ _) (by first | rfl | simp) (fun h => by cases h)
     case hfin4 =>
      intro vals wr hS hP hne
      have ez_13 : vals 13 = _ := hP 13 (by decide)
      have ez_14 : vals 14 = _ := hP 14 (by decide)
      have hs2 := HSs.out.below hS
      obtain ⟨z1, c2, f2⟩ := hs2.room
      obtain ⟨es, e1, e2, e3, e4⟩ := rnd.out wr (1 + mx) (1 + (mx : Int)) hS (by omega) HDD.out
      have HE1 := Lib.hid e1
      have HE2 := Lib.hid e2
      have HE3 := Lib.hid e3
      have HE4 := Lib.hid e4
      clear e1 e2 e3 e4
      try dsimp only
      rw [ez_13, ez_14]
      refine wpAny_ready (rs := [15]) (by kernel_rfl) (by simp) (AllReady.cons rfl (fun KC hK => ?_) AllReady.nil)
      go_simp
      refine hK _ _ ?_
      clear hK KC
      refine wpAny_done (by kernel_rfl) ?_ _
      go_wp2
      clear rnd hS hP hne hs2
      go_roundw
      case rel => exact ⟨es, by rw [HE1.out]; first | rfl | (go_num), by rw [HE1.out]; exact hlt, HE2, HE3, HE4⟩
      case measure => simp [intOf]; omega
  · skip
    obtain rfl : n = ds.length := by omega
    obtain ⟨j, hj⟩ : ∃ j, ds.length = j + 1 := ⟨ds.length - 1, by omega⟩
    have cl := HS.out.cell (j := j) (by omega)
    obtain ⟨z, hz⟩ : ∃ z, ds.getD j 0 = z := ⟨_, rfl⟩
    have HZ : Hid ((depT ts).getD (ds.length - 1) 0 = z) := by
     show _ = _
     have h := HD.out
     rw [HN.out, List.take_length] at h
     rw [h, hj, Nat.add_sub_cancel]
     exact hz
    rw [hz] at cl
    clear hz HS HD
    have hw1 : (ds.length : Int) - 1 = (j : Int) := by omega
    have hjl : (j : Int) < (ds.length : Int) := by omega
    go_wp2
    go_ret
    exact ⟨by rw [HZ.out]; rfl, HB.out⟩
end Go.Proofs.YtbddhflmknaadaaDoor

/- What package tree's grown answers. -/
namespace Go.Proofs.YtbddhflmknaadaaDoor
open Go.RowKit Limb
set_option linter.unusedVariables false
theorem fair_good {ts : List Nd} (hg : goodT ts = true) (hm : Mild ts) : ∀ x ∈ ts, Fair x := by
 intro x hx
 obtain ⟨i, hi, rfl⟩ := List.mem_iff_getElem.1 hx
 obtain ⟨g1, g2, o, hb, hl, hlo, _⟩ := good_all hg
 have hxe : ts[i]? = some ts[i] := List.getElem?_eq_getElem hi
 obtain ⟨s, hs, hol⟩ := step_at hb hxe
 obtain ⟨hf, hc⟩ := stepB_cases hs
 obtain ⟨h1, h2⟩ := hm.at hxe
 have hlo2 := begT_low (begT_take hb i)
 refine ⟨h1, h2, ?_⟩
 generalize ts[i] = y at *
 cases hc with
 | leaf hk _ =>
  unfold fitsN at hf
  rcases hk with hk | hk
  · rw [if_pos hk] at hf
    simp only [Bool.and_eq_true, decide_eq_true_eq] at hf
    omega
  · rw [if_neg (by omega), if_pos hk] at hf
    simp only [Bool.and_eq_true, decide_eq_true_eq] at hf
    omega
 | one hk j ha hj _ =>
  have hb0 : y.b = 0 := by
   have h78 := oneK_iff.1 hk
   unfold fitsN at hf
   rw [if_neg (by omega), if_neg (by omega), if_neg (by rw [one_not_two hk]; decide)] at hf
   rcases h78 with h | h
   · rw [if_pos h] at hf
     simp only [Bool.and_eq_true, decide_eq_true_eq] at hf
     omega
   · rw [if_neg (by omega), if_pos h] at hf
     simp only [Bool.and_eq_true, decide_eq_true_eq] at hf
     omega
  omega
 | two hk j i2 hb hj ha hi2 _ =>
  have := hlo2.le j
  omega
def packF (acc : List Nd) : List (List Nd) → List Nd
 | [] => acc
 | c :: r => packF (acc ++ c.map (shiftN acc.length)) r
def packL (us : List (List Nd)) : List Nd := packF [] us
def sumL (us : List (List Nd)) : Nat := (us.map List.length).sum
theorem packF_snoc (us : List (List Nd)) (c : List Nd) : ∀ acc, packF acc (us ++ [c]) = packF acc us ++ c.map (shiftN (packF acc us).length) := by
 induction us with
 | nil => intro acc; rfl
 | cons u us ih => intro acc; exact ih _
theorem packL_next {us : List (List Nd)} {k : Nat} {c : List Nd} (h : us[k]? = some c) : packL (us.take (k + 1)) = packL (us.take k) ++ c.map (shiftN (packL (us.take k)).length) := by
 rw [List.take_add_one, h, Option.toList_some]
 exact packF_snoc _ _ _
theorem packF_len (us : List (List Nd)) : ∀ acc, (packF acc us).length = acc.length + sumL us := by
 induction us with
 | nil => intro acc; rfl
 | cons u us ih =>
  intro acc
  show (packF _ us).length = _
  rw [ih]
  simp [sumL]
  omega
theorem packL_len (us : List (List Nd)) : (packL us).length = sumL us := by have := packF_len us []; simpa [packL] using this
theorem sumL_next {us : List (List Nd)} {k : Nat} {c : List Nd} (h : us[k]? = some c) : sumL (us.take (k + 1)) = sumL (us.take k) + c.length := by
 rw [List.take_add_one, h, Option.toList_some]
 simp [sumL]
theorem sumL_le (us : List (List Nd)) (k : Nat) : sumL (us.take k) ≤ sumL us := by
 have : sumL us = sumL (us.take k) + sumL (us.drop k) := by
  unfold sumL
  rw [List.map_take, List.map_drop, ← List.sum_append, List.take_append_drop]
 omega
theorem lay_pack {P : List Nd} {r : Nat} {c : List Nd} (h : c.length ≤ r) : layL (P ++ List.replicate r zNd) P.length c = P ++ c ++ List.replicate (r - c.length) zNd := by
 unfold layL
 rw [List.take_left, List.append_assoc, List.drop_append, List.drop_of_length_le (by omega), List.nil_append, Nat.add_sub_cancel_left, List.drop_replicate]
def packR (x : Nd) (us : List (List Nd)) : Option (List Nd) := if fitsN x = true ∧ us.all goodT = true ∧ 1 + sumL us ≤ 2000 then some (packL us ++ [x]) else none
def ChR (w : World) (A : Option Addr) (m : Nat) (us : List (List Nd)) : Prop := m = us.length ∧ m ≤ 10 ∧ ∀ i ts, us[i]? = some ts → ∃ g o B n c, A = some ⟨g, o, none⟩ ∧ g < w.heap.size ∧ w.cell? ⟨g, o + i, none⟩ = some (.slice B n c) ∧ TreR w B n c ts
theorem ChR.below {w w' : World} {A : Option Addr} {m : Nat} {us : List (List Nd)} (h : ChR w A m us) (hb : Below w.heap.size w w') : ChR w' A m us := by
 refine ⟨h.1, h.2.1, fun i ts hi => ?_⟩
 obtain ⟨g, o, B, n, c, e, hg, hc, ht⟩ := h.2.2 i ts hi
 exact ⟨g, o, B, n, c, e, Nat.lt_of_lt_of_le hg hb.size, (hb.cell (p := ⟨g, o + i, none⟩) hg).trans hc, ht.below hb⟩
theorem NdR.one {w : World} {g : Nat} {x : Nd} (h : RowA w g 37 (ndV x)) : NdR w g [x] := by
 unfold NdR
 have e : (ndCells [x]).toArray = ndV x := by simp [ndCells]
 rw [e]; exact h
set_option maxHeartbeats 4000000 in
set_option maxRecDepth 100000 in
theorem tGrown_c (kk a b m0 : Int) (t u : ByteArray) (p : Int) (ht : t.size ≤ 1000000) (hu : u.size ≤ 1000000) {w : World} (T : XTab w) {A : Option Addr} {m mc : Nat} (hmc : m ≤ mc ∧ mc ≤ maxLen) {us : List (List Nd)} (h : ChR w A m us) (hm : ∀ ts ∈ us, Mild ts) (hx : us.all goodT = true → 0 ≤ a ∧ a ≤ 1000000 ∧ 0 ≤ b ∧ b ≤ 1000000) (R : Option (List Nd)) (hR : packR ⟨kk, a, b, m0, t, u, p⟩ us = R) :
 Calls Tryd.prog 26 #[.agg (ndC kk a b m0 t u p), .slice A m mc] w fun e w' => ∃ A2 n2 c2, e = .returned (.tuple #[.slice A2 n2 c2, .bool R.isSome]) ∧ TreR w' A2 n2 c2 (R.getD []) ∧ Below w.heap.size w w' := by
 obtain ⟨hmu, hm10, _⟩ := id h
 obtain ⟨mc1, mc2⟩ := hmc
 have HR := Lib.hid hR
 have HC0 := Lib.hid h
 have HMi := Lib.hid hm
 have HT := Lib.hid T
 have HMU := Lib.hid hmu
 have HXf := Lib.hid hx
 have b0 := below_new w (.cells (ndC kk a b m0 t u p) 37)
 have hrx := rowA_new w 37 (ndC kk a b m0 t u p)
 have HB0 := Lib.hid b0
 have HM_x := Lib.hid (manyNd kk a b m0 t u p)
 have HI_x := Lib.hid hrx.inV
 clear hR h hm T hmu hx b0
 cases hf : fitsN ⟨kk, a, b, m0, t, u, p⟩
 · have HFt := Lib.hid hf
   clear hf
   go_enter Tryd.func26, Tryd.ntmps26
   go_wp2_with (refine wpList_loadV (by rfl) _ _ (by rfl) _ _ (by rfl) _ (by assumption) (by assumption) ?_)
   refine (tFits_c kk a b m0 t u p ht hu _ (HT.out.below HB0.out) false HFt.out).mono ?_
   rintro e w1 ⟨rfl, bn⟩
   have HB1 := Lib.hid (below_two HB0.out bn)
   have HX1 := Lib.hid (RowA.below hrx bn)
   clear bn HI_x hrx HB0
   have HR0 : Hid (R = Option.none) := by
    show _ = _
    rw [← HR.out]
    exact if_neg (fun h => by rw [HFt.out] at h; cases h.1)
   go_wp2
   go_ret2
   exact ⟨none, 0, 0, by rw [HR0.out]; rfl, by rw [HR0.out]; exact TreR.nil _ (Nat.zero_le _), HB1.out⟩
 · skip
   have HFt := Lib.hid hf
   clear hf
   go_enter Tryd.func26, Tryd.ntmps26
   go_wp2_with (refine wpList_loadV (by rfl) _ _ (by rfl) _ _ (by rfl) _ (by assumption) (by assumption) ?_)
   refine (tFits_c kk a b m0 t u p ht hu _ (HT.out.below HB0.out) true HFt.out).mono ?_
   rintro e w1 ⟨rfl, bn⟩
   have HB1 := Lib.hid (below_two HB0.out bn)
   have HX1 := Lib.hid (RowA.below hrx bn)
   clear bn HI_x hrx HB0
   go_wp2
   go_loopw [6, 18] (fun s i wr => ∃ k : Nat, s = .int .i64 (1 + (sumL (us.take k) : Int)) ∧ i = .int .i64 (k : Int) ∧ k ≤ m ∧ Hid (sumL (us.take k) ≤ k * 1000000) ∧ Hid (∀ j c, j < k → us[j]? = some c → goodT c = true) ∧ Hid (Below w1.heap.size w1 wr)) (fun _ i _ => m - (intOf i).toNat)
   case atStart => exact ⟨0, rfl, rfl, Nat.zero_le _, Nat.zero_le _, fun j c h => absurd h (Nat.not_lt_zero j), Below.refl _ _⟩
   case round =>
    obtain ⟨k, rfl, rfl, hk, HS, HG, HB⟩ := hrel
    have HBw := Lib.hid (below_two HB1.out HB.out)
    by_cases hlt : k < m
    · skip
      obtain ⟨ts, hts⟩ : ∃ x, us[k]? = some x := ⟨_, List.getElem?_eq_getElem (by rw [← HMU.out]; exact hlt)⟩
      have HTS := Lib.hid hts
      obtain ⟨g, og, B, n, c, rfl, hg, hc, htr⟩ := (HC0.out.below HBw.out).2.2 k ts hts
      have hmi := HMi.out ts (List.mem_of_getElem? hts)
      have hn6 := hmi.1
      rw [← htr.1] at hn6
      have HMt := Lib.hid hmi
      have HTR := Lib.hid htr
      have hs6 := HS.out
      obtain ⟨sm, hsm⟩ : ∃ s, sumL (us.take k) = s := ⟨_, rfl⟩
      have HSM := Lib.hid hsm
      rw [hsm] at hs6 ⊢
      have hs7 : sm ≤ 10000000 := by omega
      have HSB : Hid (sumL (us.take k) ≤ k * 1000000) := HS
      clear hts hg hmi htr hs6 hsm HS
      go_wp2_with fail
      cases hgd : goodT ts
      · have HGD := Lib.hid hgd
        clear hgd
        refine (tGood_c HTR.out HMt.out (HT.out.below HBw.out) false HGD.out).mono ?_
        rintro e w2 ⟨rfl, bn⟩
        have HB2 := Lib.hid (below_two HBw.out bn)
        clear bn
        have HR0 : Hid (R = Option.none) := by
         show _ = _
         rw [← HR.out]
         exact if_neg (fun h => by have h2 := List.all_eq_true.1 h.2.1 ts (List.mem_of_getElem? HTS.out); rw [HGD.out] at h2; cases h2)
        go_wp2
        go_ret2
        exact ⟨none, 0, 0, by rw [HR0.out]; rfl, by rw [HR0.out]; exact TreR.nil _ (Nat.zero_le _), HB2.out⟩
      · have HGD := Lib.hid hgd
        clear hgd
        refine (tGood_c HTR.out HMt.out (HT.out.below HBw.out) true HGD.out).mono ?_
        rintro e w2 ⟨rfl, bn⟩
        have HB2 := Lib.hid (below_two HB.out bn)
        have HS2 : Hid (sumL (us.take (k + 1)) = sm + n) := by show _ = _; rw [sumL_next HTS.out, HSM.out, HTR.out.1]
        have HS3 : Hid (sumL (us.take (k + 1)) ≤ (k + 1) * 1000000) := by
         show _ ≤ _
         rw [HS2.out]
         have : sm ≤ k * 1000000 := by rw [← HSM.out]; exact HSB.out
         omega
        have HG2 : Hid (∀ j c, j < k + 1 → us[j]? = some c → goodT c = true) := by
         intro j c2 hj h2c
         rcases Nat.lt_or_ge j k with h | h
         · exact HG.out j c2 h h2c
         · obtain rfl : j = k := by omega
           obtain rfl := Option.some.inj (HTS.out.symm.trans h2c)
           exact HGD.out
        clear bn hc HG
        go_wp2
        go_roundw
        case rel => exact ⟨k + 1, by rw [HS2.out]; first | rfl | (go_num), by go_num, hlt, HS3, HG2, HB2⟩
        case measure => simp [intOf]; omega
    · skip
      obtain rfl : m = k := by omega
      have hall : us.all goodT = true := List.all_eq_true.2 fun c hc => by
       obtain ⟨j, hj, e⟩ := List.mem_iff_getElem.1 hc
       exact HG.out j c (by rw [HMU.out]; exact hj) (by rw [← e]; exact List.getElem?_eq_getElem hj)
      have HALL := Lib.hid hall
      have hs6 := HS.out
      obtain ⟨sm, hsm⟩ : ∃ s, sumL (us.take m) = s := ⟨_, rfl⟩
      rw [hsm] at hs6 ⊢
      have HSM : Hid (sumL us = sm) := by show _ = _; rw [← hsm, HMU.out, List.take_length]
      have hs7 : sm ≤ 10000000 := by omega
      have HX2 := Lib.hid (HX1.out.below HB.out)
      clear hall hs6 hsm HS HG HB
      by_cases hbig : 2000 < 1 + sm
      · have hb2 : (2000 : Int) < 1 + (sm : Int) := by omega
        have HR0 : Hid (R = Option.none) := by
         show _ = _
         rw [← HR.out]
         exact if_neg (fun h => by have := h.2.2; rw [HSM.out] at this; omega)
        go_wp2
        go_ret2
        exact ⟨none, 0, 0, by rw [HR0.out]; rfl, by rw [HR0.out]; exact TreR.nil _ (Nat.zero_le _), HBw.out⟩
      · have hb2 : ¬ (2000 : Int) < 1 + (sm : Int) := by omega
        have HRs : Hid (R = some (packL us ++ [⟨kk, a, b, m0, t, u, p⟩])) := by
         show _ = _
         rw [← HR.out]
         exact if_pos ⟨HFt.out, HALL.out, by rw [HSM.out]; omega⟩
        obtain ⟨S, hS1⟩ : ∃ S, 1 + sm = S := ⟨_, rfl⟩
        have hSi : (1 + (sm : Int)) = (S : Int) := by omega
        have hmk := made_nd wr S (by omega)
        have bnw := below_new wr (.cells (ndCells (List.replicate S zNd)).toArray 37)
        have HBz := Lib.hid (below_two HBw.out bnw)
        have HX3 := Lib.hid (HX2.out.below bnw)
        have HQ : Hid (w.heap.size ≤ wr.heap.size ∧ w.heap.size < (wr.alloc (.cells (ndCells (List.replicate S zNd)).toArray 37)).heap.size) := by have h1 := HBw.out.size; exact ⟨h1, by simp; omega⟩
        have HN0 : Hid (NdR (wr.alloc (.cells (ndCells (List.replicate S zNd)).toArray 37)) wr.heap.size (List.replicate S zNd)) := rowA_new _ _ _
        have HXq : Hid (w.heap.size < wr.heap.size) := RowA.lt HX2.out
        clear bnw HX2 HBw HX1 HB1
        go_wp2
        generalize wr.alloc (.cells (ndCells (List.replicate S zNd)).toArray 37) = w3 at *
        generalize wr.heap.size = q at *
        clear hmk hSi
        go_loopw [10, 36] (fun s i wr => ∃ k : Nat, s = .int .i64 ((packL (us.take k)).length : Int) ∧ i = .int .i64 (k : Int) ∧ k ≤ m ∧ Hid (NdR wr q ((packL (us.take k)) ++ List.replicate (S - (packL (us.take k)).length) zNd)) ∧ Hid (Below q w3 wr)) (fun _ i _ => m - (intOf i).toNat)
        case atStart => exact ⟨0, rfl, rfl, Nat.zero_le _, HN0, Below.refl _ _⟩
        case round =>
         obtain ⟨k, rfl, rfl, hk, HN, HB⟩ := hrel
         have HBw := Lib.hid (HBz.out.trans (HB.out.mono (Nat.le_of_lt HXq.out)))
         by_cases hlt : k < m
         · skip
           obtain ⟨ts, hts⟩ : ∃ x, us[k]? = some x := ⟨_, List.getElem?_eq_getElem (by rw [← HMU.out]; exact hlt)⟩
           have HTS := Lib.hid hts
           obtain ⟨g, og, B, n, c, rfl, hg, hc, htr⟩ := (HC0.out.below HBw.out).2.2 k ts hts
           have hmi := HMi.out ts (List.mem_of_getElem? hts)
           have hgd := List.all_eq_true.1 HALL.out ts (List.mem_of_getElem? hts)
           have hfr := Lib.hid (fair_good hgd hmi)
           have h1g := (good_all hgd).1
           rw [← htr.1] at h1g
           have hsn := sumL_next hts
           have hsl := sumL_le us (k + 1)
           rw [hsn, HSM.out, ← htr.1, ← packL_len (us.take k)] at hsl
           obtain ⟨P, hP⟩ : ∃ P, packL (us.take k) = P := ⟨_, rfl⟩
           have HP := Lib.hid hP
           rw [hP] at hsl HN ⊢
           have hPS : (P.length : Int) < (S : Int) := by omega
           have hPS2 : P.length < S := by omega
           have hPS3 : n ≤ S - P.length := by omega
           have HLn : Hid ((P ++ List.replicate (S - P.length) zNd).length = S) := by show _ = _; simp; omega
           have HTR := Lib.hid htr
           clear hts hg hmi hgd hsn hsl htr hP
           go_wp2_with fail
           refine (tLay_c (k := P.length) (d := P.length) HN.out (Nat.le_refl _) (by omega) HTR.out h1g hPS3 (by rw [HLn.out]; omega) (by omega) hfr.out rfl).mono ?_
           rintro e w4 ⟨rfl, hL, hb⟩
           have HB2 := Lib.hid (HB.out.trans hb)
           have HPn : Hid (packL (us.take (k + 1)) = P ++ ts.map (shiftN P.length)) := by show _ = _; rw [packL_next HTS.out, HP.out]
           have HLl : Hid ((packL (us.take (k + 1))).length = P.length + n) := by show _ = _; rw [HPn.out, List.length_append, List.length_map, HTR.out.1]
           have HN2 : Hid (NdR w4 q (packL (us.take (k + 1)) ++ List.replicate (S - (packL (us.take (k + 1))).length) zNd)) := by
            show NdR _ _ _
            rw [lay_pack (by rw [List.length_map, ← HTR.out.1]; exact hPS3)] at hL
            rw [HLl.out, HPn.out, show S - (P.length + n) = S - P.length - (ts.map (shiftN P.length)).length by rw [List.length_map, ← HTR.out.1]; omega]
            exact hL
           clear hL hb HN HB hc
           go_wp2
           go_roundw
           case rel => exact ⟨k + 1, by rw [HLl.out]; first | rfl | (go_num), by go_num, hlt, HN2, HB2⟩
           case measure => simp [intOf]; omega
         · skip
           obtain rfl : m = k := by omega
           have hPk : us.take m = us := by rw [HMU.out, List.take_length]
           rw [hPk] at HN ⊢
           have hpl := packL_len us
           rw [HSM.out] at hpl
           have HPL := Lib.hid hpl
           rw [hpl] at HN ⊢
           rw [show S - sm = 1 by omega] at HN
           obtain ⟨xa0, xa1, xb0, xb1⟩ := HXf.out HALL.out
           have hFair : Hid (∀ y ∈ [(⟨kk, a, b, m0, t, u, p⟩ : Nd)], Fair y) := fun y hy => by rw [List.mem_singleton.1 hy]; exact ⟨ht, hu, xa0, xa1, xb0, xb1⟩
           have HX4 : Hid (RowA wr w.heap.size 37 (ndC kk a b m0 t u p)) := (HB.out.block _ HXq.out).trans HX3.out
           have hsS : (sm : Int) < (S : Int) := by omega
           have hqw : q < wr.heap.size := RowA.lt HN.out
           clear hPk hpl HX3
           go_wp2
           generalize wr = wS at *
           have Hsub : Hid (S - sm = 1) := by show _ = _; omega
           have HLq : Hid (0 < 1 ∧ sm + 1 ≤ (packL us ++ List.replicate 1 zNd).length) := ⟨by omega, by simp [HPL.out]⟩
           refine region_free 5 1 [51, 52, 53, 54, 55] ?aF1 (fun wx => Below wS.heap.size wS wx) (fun k vv wx => match k with
            | 0 => vv = .slice (some ⟨q, 0, none⟩) S S
            | 1 => vv = .int .i64 (sm : Int)
            | 2 => vv = .slice (some ⟨q, sm * 7, none⟩) (S - sm) (S - sm)
            | 3 => vv = .agg (ndC kk a b m0 t u p)
            | _ => ∃ (e0 : Nat), vv = .slice (some ⟨e0, 0, none⟩) 1 1 ∧ RowA wx e0 37 (ndC kk a b m0 t u p))
            (fun k => false) (by kernel_rfl) ?haF1 rfl (by kernel_rfl) (by kernel_rfl) (fun _ _ _ _ _ h => h) ?hSb1 ?hPb1 ?hS1 ?hop1 ?hfin1
           case haF1 =>
            intro vals
            simp only [fillAll, List.getElem?_cons_zero, List.getElem?_cons_succ, Act.put, List.setIfInBounds_toArray, List.set_cons_zero, List.set_cons_succ]
            exact rfl
           case hSb1 => exact fun wx w2 hb hS => below_two hS hb
           case hPb1 =>
            intro k v wa wb hb h
            match k, h with
            | 0, h => exact h
            | 1, h => exact h
            | 2, h => exact h
            | 3, h => exact h
            | _ + 4, ⟨e0, h1, g0⟩ => exact ⟨e0, h1, g0.below hb⟩
           case hS1 => exact (Below.refl _ _).drew
           case hop1 =>
            refine .cons (k := 0) ?_ (.cons (k := 1) ?_ (.cons (k := 2) ?_ (.cons (k := 3) ?_ (.cons (k := 4) ?_ (.nil)))))
            all_goals intro vals wr hS hd KC hK
            all_goals (show Oper.wp _ _ _ _ _ _; dsimp only)
            · go_simp
              refine hK _ _ rfl (Below.refl _ _) (by first | rfl | simp) (fun h => by cases h)
            · go_simp
              refine hK _ _ rfl (Below.refl _ _) (by first | rfl | simp) (fun h => by cases h)
            · have d0 : vals 0 = _ := hd 0 (by decide +kernel)
              have d1 : vals 1 = _ := hd 1 (by decide +kernel)
              rw [d0, d1]
              have g1 : sm ≤ S := by omega
              have g2 : ¬ S = sm := by omega
              go_simp
              exact hK _ _ rfl (Below.refl _ _) rfl (fun h => by cases h)
            · refine wp_loadV 37 _ rfl w.heap.size 0 (by kernel_rfl) (ndC kk a b m0 t u p) (Lib.hid (HX4.out.below hS).inV) (Lib.hid HM_x.out) ?_
              refine hK _ _ rfl (Below.refl _ _) (by first | rfl | simp) (fun h => by cases h)
            · have d3 : vals 3 = _ := hd 3 (by decide +kernel)
              rw [d3]
              go_simp
              exact hK _ _ rfl (below_new _ _) ⟨_, rfl, rowA_new wr _ _⟩ (fun h => by cases h)
           case hfin1 =>
            intro vals wr hS hP hne
            have ez_2 : vals 2 = _ := hP 2 (by decide)
            obtain ⟨n_4_0, ez_4, h_4_0⟩ := hP 4 (by decide)
            have HN5 : Hid (NdR wr q (packL us ++ List.replicate 1 zNd)) := HN.out.below hS
            have hnd : NdR wr n_4_0 [⟨kk, a, b, m0, t, u, p⟩] := NdR.one h_4_0
            have HT5 : Hid (TreR wr (some ⟨n_4_0, 0, none⟩) 1 1 [⟨kk, a, b, m0, t, u, p⟩]) := hnd.tree (by show 1 ≤ maxLen; unfold maxLen; omega)
            try dsimp only
            rw [ez_2, ez_4]
            refine wpAny_ready (rs := [5]) (by kernel_rfl) (by simp) (AllReady.cons rfl (fun KC hK => ?_) AllReady.nil)
            go_simp
            rw [Hsub.out]
            go_at_call 33
            with_reducible refine (tLay_c (k := sm) (d := 0) (D := 0) (ts := [⟨kk, a, b, m0, t, u, p⟩]) HN5.out (Nat.le_refl 1) (by decide) HT5.out (by decide) (Nat.le_refl 1) HLq.out.2 (by decide) hFair.out rfl).mono ?_
            rintro e w6 ⟨rfl, hL6, hb6⟩
            refine hK _ _ ?_
            clear hK KC
            try dsimp only [Act.put]
            refine wpAny_done (by kernel_rfl) ?_ _
            have HNf : Hid (NdR w6 q (packL us ++ [⟨kk, a, b, m0, t, u, p⟩])) := by
             show NdR _ _ _
             have h := hL6
             rw [← HPL.out, lay_pack (by simp), List.map_singleton, shiftN_zero] at h
             simpa using h
            have HBf : Hid (Below w.heap.size w w6) := (below_two HBw.out hS).trans (hb6.mono HQ.out.1)
            have htr6 := HNf.out.tree (by simp [HPL.out]; unfold maxLen; omega)
            rw [show (packL us ++ [(⟨kk, a, b, m0, t, u, p⟩ : Nd)]).length = S by simp [HPL.out]; omega] at htr6
            have HTR6 := Lib.hid htr6
            clear htr6 hL6 hb6 hS hP hne
            go_wp2
            go_ret2
            exact ⟨_, _, _, by rw [HRs.out]; rfl, by rw [HRs.out]; exact HTR6.out, HBf.out⟩
end Go.Proofs.YtbddhflmknaadaaDoor

/- What package tree's Lit, Ref, Neg, Pow, Join answer, as contracts over memory. Conditions: texts of at most 10^6 bytes, trees of at most 10^6 nodes; the tables of kinds read as they are laid. -/
namespace Go.Proofs.YtbddhflmknaadaaDoor
open Go.RowKit Limb
set_option linter.unusedVariables false
theorem ChR.nil (w : World) : ChR w none 0 [] := ⟨rfl, by omega, fun i ts h => by simp at h⟩
theorem ChR.one {w : World} {g : Nat} {T : TypeId} {A : Option Addr} {n c : Nat} {ts : List Nd} (hg : RowA w g T #[.slice A n c]) (h : TreR w A n c ts) : ChR w (some ⟨g, 0, none⟩) 1 [ts] := by
 refine ⟨rfl, by omega, fun i us hi => ?_⟩
 match i, hi with
 | 0, hi =>
  cases hi
  exact ⟨g, 0, A, n, c, rfl, hg.lt, hg.cell (k := 0) rfl, h⟩
theorem ChR.two {w : World} {g : Nat} {T : TypeId} {A B : Option Addr} {n c m d : Nat} {ts us : List Nd} (hg : RowA w g T #[.slice A n c, .slice B m d]) (h : TreR w A n c ts) (h2 : TreR w B m d us) : ChR w (some ⟨g, 0, none⟩) 2 [ts, us] := by
 refine ⟨rfl, by omega, fun i vs hi => ?_⟩
 match i, hi with
 | 0, hi =>
  cases hi
  exact ⟨g, 0, A, n, c, rfl, hg.lt, hg.cell (k := 0) rfl, h⟩
 | 1, hi =>
  cases hi
  exact ⟨g, 0, B, m, d, rfl, hg.lt, hg.cell (k := 1) rfl, h2⟩
theorem all_one {ts : List Nd} : [ts].all goodT = true ↔ goodT ts = true := by simp
theorem all_two {ts us : List Nd} : [ts, us].all goodT = true ↔ goodT ts = true ∧ goodT us = true := by simp
set_option maxHeartbeats 4000000 in
set_option maxRecDepth 100000 in
theorem tLit_c (t u : ByteArray) (ht : t.size ≤ 1000000) (hu : u.size ≤ 1000000) {w : World} (T : XTab w) (R : Option (List Nd)) (hR : packR ⟨1, 0, 0, 0, t, u, 0⟩ [] = R) :
 Calls Tryd.prog 10 #[.string t, .string u] w fun e w' => ∃ A2 n2 c2, e = .returned (.tuple #[.slice A2 n2 c2, .bool R.isSome]) ∧ TreR w' A2 n2 c2 (R.getD []) ∧ Below w.heap.size w w' := by
 have HBd : Hid (∀ W, (Instr.build 37 ([(0, .int .i64 1), (4, .string t), (5, .string u)] : List (Nat × Value)).toArray).run Tryd.prog W = .ok (.agg (ndC 1 0 0 0 t u 0)) W) := fun W => by kernel_rfl
 have HR := Lib.hid hR
 have HT := Lib.hid T
 have HBw := Lib.hid (Below.refl w.heap.size w)
 clear hR T
 go_enter Tryd.func10, Tryd.ntmps10
 go_wp2_with (refine wpList_buildV (by rfl) _ _ (by rfl) _ (by rfl) _ (by assumption) ?_)
 refine (tGrown_c 1 0 0 0 t u 0 ht hu HT.out (m := 0) (mc := 0) ⟨by omega, by unfold maxLen; omega⟩ (ChR.nil w) (fun ts h => by cases h) (fun _ => by omega) R HR.out).mono ?_
 rintro e w2 ⟨A2, n2, c2, rfl, htr, bn⟩
 have HTR := Lib.hid htr
 have HB := Lib.hid (below_two HBw.out bn)
 clear htr bn
 go_wp2
 go_ret2
 exact ⟨_, _, _, rfl, HTR.out, HB.out⟩
set_option maxHeartbeats 4000000 in
set_option maxRecDepth 100000 in
theorem tRef_c (t : ByteArray) (ht : t.size ≤ 1000000) {w : World} (T : XTab w) (R : Option (List Nd)) (hR : packR ⟨2, 0, 0, 0, t, ⟨#[]⟩, 0⟩ [] = R) :
 Calls Tryd.prog 11 #[.string t] w fun e w' => ∃ A2 n2 c2, e = .returned (.tuple #[.slice A2 n2 c2, .bool R.isSome]) ∧ TreR w' A2 n2 c2 (R.getD []) ∧ Below w.heap.size w w' := by
 have HBd : Hid (∀ W, (Instr.build 37 ([(0, .int .i64 2), (4, .string t)] : List (Nat × Value)).toArray).run Tryd.prog W = .ok (.agg (ndC 2 0 0 0 t ⟨#[]⟩ 0)) W) := fun W => by kernel_rfl
 have HR := Lib.hid hR
 have HT := Lib.hid T
 have HBw := Lib.hid (Below.refl w.heap.size w)
 clear hR T
 go_enter Tryd.func11, Tryd.ntmps11
 go_wp2_with (refine wpList_buildV (by rfl) _ _ (by rfl) _ (by rfl) _ (by assumption) ?_)
 refine (tGrown_c 2 0 0 0 t ⟨#[]⟩ 0 ht (by decide) HT.out (m := 0) (mc := 0) ⟨by omega, by unfold maxLen; omega⟩ (ChR.nil w) (fun ts h => by cases h) (fun _ => by omega) R HR.out).mono ?_
 rintro e w2 ⟨A2, n2, c2, rfl, htr, bn⟩
 have HTR := Lib.hid htr
 have HB := Lib.hid (below_two HBw.out bn)
 clear htr bn
 go_wp2
 go_ret2
 exact ⟨_, _, _, rfl, HTR.out, HB.out⟩
set_option maxHeartbeats 4000000 in
set_option maxRecDepth 100000 in
theorem tNeg_c {w : World} (T : XTab w) {A : Option Addr} {n c : Nat} {ts : List Nd} (h : TreR w A n c ts) (hm : Mild ts) (R : Option (List Nd)) (hR : packR ⟨7, (n : Int) - 1, 0, 0, ⟨#[]⟩, ⟨#[]⟩, 0⟩ [ts] = R) :
 Calls Tryd.prog 13 #[.slice A n c] w fun e w' => ∃ A2 n2 c2, e = .returned (.tuple #[.slice A2 n2 c2, .bool R.isSome]) ∧ TreR w' A2 n2 c2 (R.getD []) ∧ Below w.heap.size w w' := by
 have hn6 := hm.1
 rw [← h.1] at hn6
 have HBd : Hid (∀ W, (Instr.build 37 ([(0, .int .i64 7), (1, .int .i64 ((n : Int) - 1))] : List (Nat × Value)).toArray).run Tryd.prog W = .ok (.agg (ndC 7 ((n : Int) - 1) 0 0 ⟨#[]⟩ ⟨#[]⟩ 0)) W) := fun W => by kernel_rfl
 have bn := below_new w (.cells #[.slice A n c] 23)
 have HC : Hid (ChR (w.alloc (.cells #[.slice A n c] 23)) (some ⟨w.heap.size, 0, none⟩) 1 [ts]) := ChR.one (rowA_new w 23 #[.slice A n c]) (h.below bn)
 have HT := Lib.hid (T.below bn)
 have HBw := Lib.hid bn
 have HR := Lib.hid hR
 have HM := Lib.hid hm
 have HN := Lib.hid h.1
 clear bn T hR hm h
 go_enter Tryd.func13, Tryd.ntmps13
 go_wp2_with (refine wpList_buildV (by rfl) _ _ (by rfl) _ (by rfl) _ (by assumption) ?_)
 refine (tGrown_c 7 ((n : Int) - 1) 0 0 ⟨#[]⟩ ⟨#[]⟩ 0 (by decide) (by decide) HT.out (m := 1) (mc := 1) ⟨by omega, by unfold maxLen; omega⟩ HC.out (fun us hu => by rw [List.mem_singleton.1 hu]; exact HM.out) (fun ha => by have h1 := (good_all (all_one.1 ha)).1; have := HN.out; omega) R HR.out).mono ?_
 rintro e w2 ⟨A2, n2, c2, rfl, htr, bn⟩
 have HTR := Lib.hid htr
 have HB := Lib.hid (below_two HBw.out bn)
 clear htr bn
 go_wp2
 go_ret2
 exact ⟨_, _, _, rfl, HTR.out, HB.out⟩
set_option maxHeartbeats 4000000 in
set_option maxRecDepth 100000 in
theorem tPow_c (j : Int) {w : World} (T : XTab w) {A : Option Addr} {n c : Nat} {ts : List Nd} (h : TreR w A n c ts) (hm : Mild ts) (R : Option (List Nd)) (hR : packR ⟨8, (n : Int) - 1, 0, j, ⟨#[]⟩, ⟨#[]⟩, 0⟩ [ts] = R) :
 Calls Tryd.prog 14 #[.slice A n c, .int .i64 j] w fun e w' => ∃ A2 n2 c2, e = .returned (.tuple #[.slice A2 n2 c2, .bool R.isSome]) ∧ TreR w' A2 n2 c2 (R.getD []) ∧ Below w.heap.size w w' := by
 have hn6 := hm.1
 rw [← h.1] at hn6
 have HBd : Hid (∀ W, (Instr.build 37 ([(0, .int .i64 8), (1, .int .i64 ((n : Int) - 1)), (3, .int .i64 j)] : List (Nat × Value)).toArray).run Tryd.prog W = .ok (.agg (ndC 8 ((n : Int) - 1) 0 j ⟨#[]⟩ ⟨#[]⟩ 0)) W) := fun W => by kernel_rfl
 have bn := below_new w (.cells #[.slice A n c] 23)
 have HC : Hid (ChR (w.alloc (.cells #[.slice A n c] 23)) (some ⟨w.heap.size, 0, none⟩) 1 [ts]) := ChR.one (rowA_new w 23 #[.slice A n c]) (h.below bn)
 have HT := Lib.hid (T.below bn)
 have HBw := Lib.hid bn
 have HR := Lib.hid hR
 have HM := Lib.hid hm
 have HN := Lib.hid h.1
 clear bn T hR hm h
 go_enter Tryd.func14, Tryd.ntmps14
 go_wp2_with (refine wpList_buildV (by rfl) _ _ (by rfl) _ (by rfl) _ (by assumption) ?_)
 refine (tGrown_c 8 ((n : Int) - 1) 0 j ⟨#[]⟩ ⟨#[]⟩ 0 (by decide) (by decide) HT.out (m := 1) (mc := 1) ⟨by omega, by unfold maxLen; omega⟩ HC.out (fun us hu => by rw [List.mem_singleton.1 hu]; exact HM.out) (fun ha => by have h1 := (good_all (all_one.1 ha)).1; have := HN.out; omega) R HR.out).mono ?_
 rintro e w2 ⟨A2, n2, c2, rfl, htr, bn⟩
 have HTR := Lib.hid htr
 have HB := Lib.hid (below_two HBw.out bn)
 clear htr bn
 go_wp2
 go_ret2
 exact ⟨_, _, _, rfl, HTR.out, HB.out⟩
set_option maxHeartbeats 4000000 in
set_option maxRecDepth 100000 in
theorem tJoin_c (kk : Int) {w : World} (T : XTab w) {A B : Option Addr} {n c m d : Nat} {ts us : List Nd} (h : TreR w A n c ts) (hm : Mild ts) (h2 : TreR w B m d us) (hm2 : Mild us) (R : Option (List Nd)) (hR : twoK kk = true → packR ⟨kk, (n : Int) - 1, (n : Int) + (m : Int) - 1, 0, ⟨#[]⟩, ⟨#[]⟩, 0⟩ [ts, us] = R) (hno0 : twoK kk = false → R = Option.none) :
 Calls Tryd.prog 12 #[.int .i64 kk, .slice A n c, .slice B m d] w fun e w' => ∃ A2 n2 c2, e = .returned (.tuple #[.slice A2 n2 c2, .bool R.isSome]) ∧ TreR w' A2 n2 c2 (R.getD []) ∧ Below w.heap.size w w' := by
 have hno : ¬ kk = 3 → ¬ kk = 4 → ¬ kk = 5 → ¬ kk = 6 → R = Option.none := fun h3 h4 h5 h6 => hno0 (by rw [Bool.eq_false_iff]; exact two_no h3 h4 h5 h6)
 clear hno0
 have hn6 := hm.1
 rw [← h.1] at hn6
 have hn7 := hm2.1
 rw [← h2.1] at hn7
 have bn := below_new w (.cells #[.slice A n c, .slice B m d] 23)
 have HC : Hid (ChR (w.alloc (.cells #[.slice A n c, .slice B m d] 23)) (some ⟨w.heap.size, 0, none⟩) 2 [ts, us]) := ChR.two (rowA_new w 23 #[.slice A n c, .slice B m d]) (h.below bn) (h2.below bn)
 have HT := Lib.hid (T.below bn)
 have HBw := Lib.hid bn
 have HR := Lib.hid hR
 have HM := Lib.hid hm
 have HM2 := Lib.hid hm2
 have HN := Lib.hid h.1
 have HN2 := Lib.hid h2.1
 clear bn T hR hm hm2 h h2
 by_cases h3 : kk = 3
 · subst h3
   have HBd : Hid (∀ W, (Instr.build 37 ([(0, .int .i64 3), (1, .int .i64 ((n : Int) - 1)), (2, .int .i64 ((n : Int) + (m : Int) - 1))] : List (Nat × Value)).toArray).run Tryd.prog W = .ok (.agg (ndC 3 ((n : Int) - 1) ((n : Int) + (m : Int) - 1) 0 ⟨#[]⟩ ⟨#[]⟩ 0)) W) := fun W => by kernel_rfl
   go_enter Tryd.func12, Tryd.ntmps12
   go_wp2_with (refine wpList_buildV (by rfl) _ _ (by rfl) _ (by rfl) _ (by assumption) ?_)
   refine (tGrown_c 3 ((n : Int) - 1) ((n : Int) + (m : Int) - 1) 0 ⟨#[]⟩ ⟨#[]⟩ 0 (by decide) (by decide) HT.out (m := 2) (mc := 2) ⟨by omega, by unfold maxLen; omega⟩ HC.out (fun vs hu => by rcases List.mem_cons.1 hu with rfl | hu; exact HM.out; rw [List.mem_singleton.1 hu]; exact HM2.out) (fun ha => by have h1 := (good_all (all_two.1 ha).1); have h2 := (good_all (all_two.1 ha).2); have h3 := h1.1; have h4 := h2.1; have := HN.out; have := HN2.out; have h5 := h1.2.1; have h6 := h2.2.1; omega) R (HR.out (by decide))).mono ?_
   rintro e w2 ⟨A2, n2, c2, rfl, htr, bn⟩
   have HTR := Lib.hid htr
   have HB := Lib.hid (below_two HBw.out bn)
   clear htr bn
   go_wp2
   go_ret2
   exact ⟨_, _, _, rfl, HTR.out, HB.out⟩
 · have e3 : (kk == 3) = false := by rw [beq_eq_false_iff_ne]; exact h3
   by_cases h4 : kk = 4
   · subst h4
     have HBd : Hid (∀ W, (Instr.build 37 ([(0, .int .i64 4), (1, .int .i64 ((n : Int) - 1)), (2, .int .i64 ((n : Int) + (m : Int) - 1))] : List (Nat × Value)).toArray).run Tryd.prog W = .ok (.agg (ndC 4 ((n : Int) - 1) ((n : Int) + (m : Int) - 1) 0 ⟨#[]⟩ ⟨#[]⟩ 0)) W) := fun W => by kernel_rfl
     go_enter Tryd.func12, Tryd.ntmps12
     go_wp2_with (refine wpList_buildV (by rfl) _ _ (by rfl) _ (by rfl) _ (by assumption) ?_)
     refine (tGrown_c 4 ((n : Int) - 1) ((n : Int) + (m : Int) - 1) 0 ⟨#[]⟩ ⟨#[]⟩ 0 (by decide) (by decide) HT.out (m := 2) (mc := 2) ⟨by omega, by unfold maxLen; omega⟩ HC.out (fun vs hu => by rcases List.mem_cons.1 hu with rfl | hu; exact HM.out; rw [List.mem_singleton.1 hu]; exact HM2.out) (fun ha => by have h1 := (good_all (all_two.1 ha).1); have h2 := (good_all (all_two.1 ha).2); have h3 := h1.1; have h4 := h2.1; have := HN.out; have := HN2.out; have h5 := h1.2.1; have h6 := h2.2.1; omega) R (HR.out (by decide))).mono ?_
     rintro e w2 ⟨A2, n2, c2, rfl, htr, bn⟩
     have HTR := Lib.hid htr
     have HB := Lib.hid (below_two HBw.out bn)
     clear htr bn
     go_wp2
     go_ret2
     exact ⟨_, _, _, rfl, HTR.out, HB.out⟩
   · have e4 : (kk == 4) = false := by rw [beq_eq_false_iff_ne]; exact h4
     by_cases h5 : kk = 5
     · subst h5
       have HBd : Hid (∀ W, (Instr.build 37 ([(0, .int .i64 5), (1, .int .i64 ((n : Int) - 1)), (2, .int .i64 ((n : Int) + (m : Int) - 1))] : List (Nat × Value)).toArray).run Tryd.prog W = .ok (.agg (ndC 5 ((n : Int) - 1) ((n : Int) + (m : Int) - 1) 0 ⟨#[]⟩ ⟨#[]⟩ 0)) W) := fun W => by kernel_rfl
       go_enter Tryd.func12, Tryd.ntmps12
       go_wp2_with (refine wpList_buildV (by rfl) _ _ (by rfl) _ (by rfl) _ (by assumption) ?_)
       refine (tGrown_c 5 ((n : Int) - 1) ((n : Int) + (m : Int) - 1) 0 ⟨#[]⟩ ⟨#[]⟩ 0 (by decide) (by decide) HT.out (m := 2) (mc := 2) ⟨by omega, by unfold maxLen; omega⟩ HC.out (fun vs hu => by rcases List.mem_cons.1 hu with rfl | hu; exact HM.out; rw [List.mem_singleton.1 hu]; exact HM2.out) (fun ha => by have h1 := (good_all (all_two.1 ha).1); have h2 := (good_all (all_two.1 ha).2); have h3 := h1.1; have h4 := h2.1; have := HN.out; have := HN2.out; have h5 := h1.2.1; have h6 := h2.2.1; omega) R (HR.out (by decide))).mono ?_
       rintro e w2 ⟨A2, n2, c2, rfl, htr, bn⟩
       have HTR := Lib.hid htr
       have HB := Lib.hid (below_two HBw.out bn)
       clear htr bn
       go_wp2
       go_ret2
       exact ⟨_, _, _, rfl, HTR.out, HB.out⟩
     · have e5 : (kk == 5) = false := by rw [beq_eq_false_iff_ne]; exact h5
       by_cases h6 : kk = 6
       · subst h6
         have HBd : Hid (∀ W, (Instr.build 37 ([(0, .int .i64 6), (1, .int .i64 ((n : Int) - 1)), (2, .int .i64 ((n : Int) + (m : Int) - 1))] : List (Nat × Value)).toArray).run Tryd.prog W = .ok (.agg (ndC 6 ((n : Int) - 1) ((n : Int) + (m : Int) - 1) 0 ⟨#[]⟩ ⟨#[]⟩ 0)) W) := fun W => by kernel_rfl
         go_enter Tryd.func12, Tryd.ntmps12
         go_wp2_with (refine wpList_buildV (by rfl) _ _ (by rfl) _ (by rfl) _ (by assumption) ?_)
         refine (tGrown_c 6 ((n : Int) - 1) ((n : Int) + (m : Int) - 1) 0 ⟨#[]⟩ ⟨#[]⟩ 0 (by decide) (by decide) HT.out (m := 2) (mc := 2) ⟨by omega, by unfold maxLen; omega⟩ HC.out (fun vs hu => by rcases List.mem_cons.1 hu with rfl | hu; exact HM.out; rw [List.mem_singleton.1 hu]; exact HM2.out) (fun ha => by have h1 := (good_all (all_two.1 ha).1); have h2 := (good_all (all_two.1 ha).2); have h3 := h1.1; have h4 := h2.1; have := HN.out; have := HN2.out; have h5 := h1.2.1; have h6 := h2.2.1; omega) R (HR.out (by decide))).mono ?_
         rintro e w2 ⟨A2, n2, c2, rfl, htr, bn⟩
         have HTR := Lib.hid htr
         have HB := Lib.hid (below_two HBw.out bn)
         clear htr bn
         go_wp2
         go_ret2
         exact ⟨_, _, _, rfl, HTR.out, HB.out⟩
       · have e6 : (kk == 6) = false := by rw [beq_eq_false_iff_ne]; exact h6
         clear HC HT HBw
         go_enter Tryd.func12, Tryd.ntmps12
         go_wp2
         go_ret2
         exact ⟨none, 0, 0, by rw [hno h3 h4 h5 h6]; rfl, by rw [hno h3 h4 h5 h6]; exact TreR.nil _ (Nat.zero_le _), Below.refl _ _⟩
end Go.Proofs.YtbddhflmknaadaaDoor

/- What slices.EqualFunc at nodes, package tree's Same answer, as contracts over memory. Condition: rows of nodes that can be read. -/
namespace Go.Proofs.YtbddhflmknaadaaDoor
open Go.RowKit Limb
set_option linter.unusedVariables false
set_option maxHeartbeats 4000000 in
set_option maxRecDepth 100000 in
theorem tEqf_c {w : World} {A B : Option Addr} {n c m0 d : Nat} {ts us : List Nd} (h1 : TreR w A n c ts) (h2 : TreR w B m0 d us) (v : Bool) (hv : sameT ts us = v) :
 Calls Tryd.prog 31 #[.slice A n c, .slice B m0 d, .func (.func 32) #[] #[]] w fun e w' => e = .returned (.bool v) ∧ Below w.heap.size w w' := by
 obtain ⟨hn, hc, hcm, _⟩ := id h1
 obtain ⟨hn2, hc2, hcm2, _⟩ := id h2
 have H1 := Lib.hid h1
 have H2 := Lib.hid h2
 have HN1 := Lib.hid hn
 have HN2 := Lib.hid hn2
 have HV := Lib.hid hv
 clear h1 h2 hn hn2 hv
 have eq1 : maxLen = 9223372036854775807 := rfl
 by_cases hl : n = m0
 · subst hl
   go_enter Tryd.func31, Tryd.ntmps31
   go_wp2
   go_loopw [17] (fun i wr => ∃ k : Nat, i = .int .i64 (k : Int) ∧ k ≤ n ∧ Hid (∀ i x y, i < k → ts[i]? = some x → us[i]? = some y → sameN x y = true) ∧ Hid (Below w.heap.size w wr)) (fun i _ => n - (intOf i).toNat)
   case atStart => exact ⟨0, rfl, Nat.zero_le _, fun i x y h => absurd h (Nat.not_lt_zero i), Below.refl _ _⟩
   case round =>
    obtain ⟨k, rfl, hk, HP, HB⟩ := hrel
    by_cases hlt : k < n
    · skip
      obtain ⟨x, hx⟩ : ∃ x, ts[k]? = some x := ⟨_, List.getElem?_eq_getElem (by rw [← HN1.out]; exact hlt)⟩
      obtain ⟨y, hy⟩ : ∃ y, us[k]? = some y := ⟨_, List.getElem?_eq_getElem (by rw [← HN2.out]; exact hlt)⟩
      have HX := Lib.hid hx
      have HY := Lib.hid hy
      obtain ⟨g, og, rfl, hg, hin⟩ := (H1.out.below HB.out).at hx
      obtain ⟨g2, og2, rfl, hg2, hin2⟩ := (H2.out.below HB.out).at hy
      obtain ⟨k1, a1, b1, m1, t1, u1, p1⟩ := x
      obtain ⟨k2, a2, b2, m2, t2, u2, p2⟩ := y
      have bn1 := below_new wr (.cells (ndC k1 a1 b1 m1 t1 u1 p1) 37)
      have bn2 := below_new (wr.alloc (.cells (ndC k1 a1 b1 m1 t1 u1 p1) 37)) (.cells (ndC k2 a2 b2 m2 t2 u2 p2) 37)
      have HI_1 : Hid (InV wr g (og + k * 7) (ndC k1 a1 b1 m1 t1 u1 p1)) := hin
      have HI_2 : Hid (InV (wr.alloc (.cells (ndC k1 a1 b1 m1 t1 u1 p1) 37)) g2 (og2 + k * 7) (ndC k2 a2 b2 m2 t2 u2 p2)) := InV.below hin2 hg2 bn1
      have HI_3 : Hid (InV ((wr.alloc (.cells (ndC k1 a1 b1 m1 t1 u1 p1) 37)).alloc (.cells (ndC k2 a2 b2 m2 t2 u2 p2) 37)) wr.heap.size 0 (ndC k1 a1 b1 m1 t1 u1 p1)) := ((rowA_new wr 37 (ndC k1 a1 b1 m1 t1 u1 p1)).below bn2).inV
      have HI_4 : Hid (InV ((wr.alloc (.cells (ndC k1 a1 b1 m1 t1 u1 p1) 37)).alloc (.cells (ndC k2 a2 b2 m2 t2 u2 p2) 37)) (wr.heap.size + 1) 0 (ndC k2 a2 b2 m2 t2 u2 p2)) := by have := (rowA_new (wr.alloc (.cells (ndC k1 a1 b1 m1 t1 u1 p1) 37)) 37 (ndC k2 a2 b2 m2 t2 u2 p2)).inV; rw [World.size_alloc] at this; exact this
      have HM_1 := Lib.hid (manyNd k1 a1 b1 m1 t1 u1 p1)
      have HM_2 := Lib.hid (manyNd k2 a2 b2 m2 t2 u2 p2)
      have HU_1 : Hid (Many Tryd.prog 37 (ndC k1 a1 b1 m1 t1 u1 p1).size ∧ zN.size = (ndC k1 a1 b1 m1 t1 u1 p1).size ∧ ∀ v ∈ ndC k1 a1 b1 m1 t1 u1 p1, v.oneCell' = true) := fitsNd ⟨k1, a1, b1, m1, t1, u1, p1⟩ zNd
      have HU_2 : Hid (Many Tryd.prog 37 (ndC k2 a2 b2 m2 t2 u2 p2).size ∧ zN.size = (ndC k2 a2 b2 m2 t2 u2 p2).size ∧ ∀ v ∈ ndC k2 a2 b2 m2 t2 u2 p2, v.oneCell' = true) := fitsNd ⟨k2, a2, b2, m2, t2, u2, p2⟩ zNd
      have HB2 := Lib.hid (below_two HB.out (below_two bn1 bn2))
      clear hx hy hin hin2 hg hg2 bn1 bn2 HB
      obtain ⟨z, hz⟩ : ∃ z, sameN ⟨k1, a1, b1, m1, t1, u1, p1⟩ ⟨k2, a2, b2, m2, t2, u2, p2⟩ = z := ⟨_, rfl⟩
      have HZ := Lib.hid hz
      clear hz
      go_wp2_with (first | (refine wpList_loadV (by rfl) _ _ (by rfl) _ _ (by rfl) _ (by assumption) (by assumption) ?_) | (refine wpList_storeNew (by rfl) _ _ _ (by rfl) _ _ _ (by rfl) (by rfl) (by assumption) ?_))
      refine (tAlike_c HZ.out _).mono ?_
      rintro e w3 ⟨rfl, bn⟩
      have HB3 := Lib.hid (below_two HB2.out bn)
      clear bn HB2 HI_1 HI_2 HI_3 HI_4 HU_1 HU_2
      cases z
      · have HV0 : Hid (v = false) := by
         show _ = _
         rw [← HV.out]
         refine Bool.eq_false_iff.2 fun e => ?_
         have := (sameT_iff.1 e).2 k _ _ HX.out HY.out
         rw [HZ.out] at this; cases this
        go_wp2
        go_ret
        exact ⟨by rw [HV0.out]; rfl, HB3.out⟩
      · have HP2 : Hid (∀ i x y, i < k + 1 → ts[i]? = some x → us[i]? = some y → sameN x y = true) := by
         intro i x y hi h1 h2
         rcases Nat.lt_or_ge i k with h | h
         · exact HP.out i x y h h1 h2
         · obtain rfl : i = k := by omega
           obtain rfl := Option.some.inj (HX.out.symm.trans h1)
           obtain rfl := Option.some.inj (HY.out.symm.trans h2)
           exact HZ.out
        clear HP
        go_wp2
        go_roundw
        case rel => exact ⟨k + 1, by go_num, hlt, HP2, HB3⟩
        case measure => simp [intOf]; omega
    · obtain rfl : k = n := by omega
      have HV1 : Hid (v = true) := by
       show _ = _
       rw [← HV.out]
       exact sameT_iff.2 ⟨HN1.out.symm.trans HN2.out, fun i x y h1 h2 => HP.out i x y (by have := (List.getElem?_eq_some_iff.1 h1).1; rw [HN1.out]; exact this) h1 h2⟩
      go_wp2
      go_ret
      exact ⟨by rw [HV1.out]; rfl, HB.out⟩
 · have HV0 : Hid (v = false) := by
    show _ = _
    rw [← HV.out]
    exact Bool.eq_false_iff.2 fun e => hl (by rw [HN1.out, HN2.out]; exact (sameT_iff.1 e).1)
   have e0 : ((n : Int) != (m0 : Int)) = true := by rw [bne_iff_ne]; omega
   go_enter Tryd.func31, Tryd.ntmps31
   go_wp2
   go_ret
   exact ⟨by rw [HV0.out]; rfl, Below.refl _ _⟩
set_option maxHeartbeats 4000000 in
set_option maxRecDepth 100000 in
theorem tSame_c {w : World} {A B : Option Addr} {n c m0 d : Nat} {ts us : List Nd} (h1 : TreR w A n c ts) (h2 : TreR w B m0 d us) (v : Bool) (hv : sameT ts us = v) :
 Calls Tryd.prog 23 #[.slice A n c, .slice B m0 d] w fun e w' => e = .returned (.bool v) ∧ Below w.heap.size w w' := by
 have HE := Lib.hid (tEqf_c h1 h2 v hv)
 clear h1 h2 hv
 go_enter Tryd.func23, Tryd.ntmps23
 go_wp2_with fail
 refine HE.out.mono ?_
 rintro e w1 ⟨rfl, bn⟩
 have HB := Lib.hid bn
 clear bn HE
 go_wp2
 go_ret
 exact ⟨rfl, HB.out⟩
end Go.Proofs.YtbddhflmknaadaaDoor

/- What the statements' helper wakes of layer 14 answers, as a contract over memory. Condition: the tables of kinds read as they are laid. -/
namespace Go.Proofs.YtbddhflmknaadaaDoor
open Go.RowKit Limb
set_option linter.unusedVariables false
def deepI (ts : List Nd) : Nat := if goodT ts = true then (depT ts).getD (ts.length - 1) 0 else 0
theorem tDeep_c {w : World} {A : Option Addr} {n c : Nat} {ts : List Nd} (h : TreR w A n c ts) (hm : Mild ts) (T : XTab w) (d : Nat) (hd : deepI ts = d) :
 Calls Tryd.prog 22 #[.slice A n c] w fun e w' => e = .returned (.int .i64 (d : Int)) ∧ Below w.heap.size w w' := by
 unfold deepI at hd
 cases hg : goodT ts with
 | false =>
  rw [hg] at hd
  have : d = 0 := hd.symm
  subst this
  exact tDeep_no h hm T hg
 | true =>
  rw [hg, if_pos rfl, ← h.1] at hd
  rw [← hd]
  exact tDeep_yes h hm T hg
def wLa : Nd := ⟨1, 0, 0, 0, ⟨#[49, 46, 53]⟩, ⟨#[109]⟩, 0⟩
def wLb : Nd := ⟨2, 0, 0, 0, ⟨#[118]⟩, ⟨#[]⟩, 0⟩
def wLc : Nd := ⟨5, 0, 1, 0, ⟨#[]⟩, ⟨#[]⟩, 0⟩
def wLd : Nd := ⟨8, 2, 0, -2, ⟨#[]⟩, ⟨#[]⟩, 0⟩
def wLe : Nd := ⟨7, 3, 0, 0, ⟨#[]⟩, ⟨#[]⟩, 0⟩
theorem wk_a : packR ⟨1, 0, 0, 0, ⟨#[49, 46, 53]⟩, ⟨#[109]⟩, 0⟩ [] = some [wLa] := by kernel_rfl
theorem wk_b : packR ⟨2, 0, 0, 0, ⟨#[118]⟩, ⟨#[]⟩, 0⟩ [] = some [wLb] := by kernel_rfl
theorem wk_c : packR ⟨5, ((1 : Nat) : Int) - 1, ((1 : Nat) : Int) + ((1 : Nat) : Int) - 1, 0, ⟨#[]⟩, ⟨#[]⟩, 0⟩ [[wLa], [wLb]] = some [wLa, wLb, wLc] := by kernel_rfl
theorem wk_d : packR ⟨8, ((3 : Nat) : Int) - 1, 0, -2, ⟨#[]⟩, ⟨#[]⟩, 0⟩ [[wLa, wLb, wLc]] = some [wLa, wLb, wLc, wLd] := by kernel_rfl
theorem wk_e : packR ⟨7, ((4 : Nat) : Int) - 1, 0, 0, ⟨#[]⟩, ⟨#[]⟩, 0⟩ [[wLa, wLb, wLc, wLd]] = some [wLa, wLb, wLc, wLd, wLe] := by kernel_rfl
theorem wk_f : packR ⟨1, 0, 0, 0, ⟨#[45, 49]⟩, ⟨#[]⟩, 0⟩ [] = Option.none := by kernel_rfl
theorem wk_g : packR ⟨8, ((3 : Nat) : Int) - 1, 0, 65, ⟨#[]⟩, ⟨#[]⟩, 0⟩ [[wLa, wLb, wLc]] = Option.none := by kernel_rfl
theorem wk_1 : goodT [wLa, wLb, wLc, wLd, wLe] = true := by kernel_rfl
theorem wk_2 : goodT [wLa, wLb] = false := by kernel_rfl
theorem wk_3 : deepI [wLa, wLb, wLc, wLd, wLe] = 4 := by kernel_rfl
theorem wk_4 : sameT [wLa, wLb, wLc, wLd, wLe] [wLa, wLb, wLc, wLd, wLe] = true := by decide +kernel
theorem mildW (ts : List Nd) (h : ts.all (fun x => decide (x.t.size ≤ 1000) && decide (x.u.size ≤ 1000)) = true) (hl : ts.length ≤ 10) : Mild ts := ⟨by omega, fun x hx => by have := List.all_eq_true.1 h x hx; simp only [Bool.and_eq_true, decide_eq_true_eq] at this; omega⟩
set_option maxHeartbeats 4000000 in
set_option maxRecDepth 100000 in
theorem wakes_any (w : World) (HT0 : Hid (XTab w)) : Calls Tryd.prog 8 #[] w fun e w' => e = .returned (.bool true) ∧ Below w.heap.size w w' := by
 have bw := bel_refl w
 go_enter Tryd.func8, Tryd.ntmps8
 go_wp2_with fail
 refine (tLit_c ⟨#[49, 46, 53]⟩ ⟨#[109]⟩ (by decide) (by decide) (HT0.out.below bw) _ wk_a).mono ?_
 rintro e w1 ⟨A_a, n_a, c_a, rfl, h_ta, bn⟩
 replace bw := below_two bw bn
 clear bn
 obtain rfl : n_a = 1 := h_ta.1
 go_wp2_with fail
 refine (tRef_c ⟨#[118]⟩ (by decide) (HT0.out.below bw) _ wk_b).mono ?_
 rintro e w2 ⟨A_b, n_b, c_b, rfl, h_tb, bn⟩
 replace h_ta := h_ta.below bn
 replace bw := below_two bw bn
 clear bn
 obtain rfl : n_b = 1 := h_tb.1
 go_wp2_with fail
 refine (tJoin_c 5 (HT0.out.below bw) h_ta (mildW _ (by decide +kernel) (by decide)) h_tb (mildW _ (by decide +kernel) (by decide)) _ (fun _ => wk_c) (fun h => by cases h)).mono ?_
 rintro e w3 ⟨A_c, n_c, c_c, rfl, h_tc, bn⟩
 replace h_ta := h_ta.below bn
 replace h_tb := h_tb.below bn
 replace bw := below_two bw bn
 clear bn
 obtain rfl : n_c = 3 := h_tc.1
 go_wp2_with fail
 refine (tPow_c (-2) (HT0.out.below bw) h_tc (mildW _ (by decide +kernel) (by decide)) _ wk_d).mono ?_
 rintro e w4 ⟨A_d, n_d, c_d, rfl, h_td, bn⟩
 replace h_ta := h_ta.below bn
 replace h_tb := h_tb.below bn
 replace h_tc := h_tc.below bn
 replace bw := below_two bw bn
 clear bn
 obtain rfl : n_d = 4 := h_td.1
 go_wp2_with fail
 refine (tNeg_c (HT0.out.below bw) h_td (mildW _ (by decide +kernel) (by decide)) _ wk_e).mono ?_
 rintro e w5 ⟨A_e, n_e, c_e, rfl, h_te, bn⟩
 replace h_ta := h_ta.below bn
 replace h_tb := h_tb.below bn
 replace h_tc := h_tc.below bn
 replace h_td := h_td.below bn
 replace bw := below_two bw bn
 clear bn
 obtain rfl : n_e = 5 := h_te.1
 go_wp2_with fail
 refine (tLit_c ⟨#[45, 49]⟩ ⟨#[]⟩ (by decide) (by decide) (HT0.out.below bw) _ wk_f).mono ?_
 rintro e w6 ⟨A_f, n_f, c_f, rfl, h_tf, bn⟩
 replace h_ta := h_ta.below bn
 replace h_tb := h_tb.below bn
 replace h_tc := h_tc.below bn
 replace h_td := h_td.below bn
 replace h_te := h_te.below bn
 replace bw := below_two bw bn
 clear bn
 obtain rfl : n_f = 0 := h_tf.1
 go_wp2_with fail
 refine (tPow_c 65 (HT0.out.below bw) h_tc (mildW _ (by decide +kernel) (by decide)) _ wk_g).mono ?_
 rintro e w7 ⟨A_g, n_g, c_g, rfl, h_tg, bn⟩
 replace h_ta := h_ta.below bn
 replace h_tb := h_tb.below bn
 replace h_tc := h_tc.below bn
 replace h_td := h_td.below bn
 replace h_te := h_te.below bn
 replace h_tf := h_tf.below bn
 replace bw := below_two bw bn
 clear bn
 obtain rfl : n_g = 0 := h_tg.1
 go_wp2_with fail
 refine (tJoin_c 7 (HT0.out.below bw) h_ta (mildW _ (by decide +kernel) (by decide)) h_tb (mildW _ (by decide +kernel) (by decide)) Option.none (fun h => by cases h) (fun _ => rfl)).mono ?_
 rintro e w8 ⟨A_h, n_h, c_h, rfl, h_th, bn⟩
 replace h_ta := h_ta.below bn
 replace h_tb := h_tb.below bn
 replace h_tc := h_tc.below bn
 replace h_td := h_td.below bn
 replace h_te := h_te.below bn
 replace h_tf := h_tf.below bn
 replace h_tg := h_tg.below bn
 replace bw := below_two bw bn
 clear bn
 obtain rfl : n_h = 0 := h_th.1
 have h5 : TreR w8 A_e 5 c_e [wLa, wLb, wLc, wLd, wLe] := h_te
 have hce := h5.2.1
 have hcm := h5.2.2.1
 obtain ⟨g, o, ea, _, hin⟩ := h5.2.2.2 (by decide)
 subst ea
 have q1 := hin 4 wLe rfl 0 (.int .i64 7) rfl
 have q2 := hin 3 wLd rfl 3 (.int .i64 (-2)) rfl
 have q3 := hin 2 wLc rfl 1 (.int .i64 0) rfl
 have q4 := hin 2 wLc rfl 2 (.int .i64 1) rfl
 have eq1 : maxLen = 9223372036854775807 := rfl
 clear hin
 go_wp2_with fail
 refine (tGood_c h_te (mildW _ (by decide +kernel) (by decide)) (HT0.out.below bw) true wk_1).mono ?_
 rintro e w9 ⟨rfl, bn⟩
 replace h_ta := h_ta.below bn
 replace h_tb := h_tb.below bn
 replace h_tc := h_tc.below bn
 replace h_td := h_td.below bn
 replace h_te := h_te.below bn
 replace h_tf := h_tf.below bn
 replace h_tg := h_tg.below bn
 replace h_th := h_th.below bn
 replace bw := below_two bw bn
 clear bn
 go_wp2_with fail
 have h_t2 : TreR w9 (some ⟨g, o, none⟩) 2 c_e [wLa, wLb] := h_te.take (m := 2) (by decide)
 refine (tGood_c h_t2 (mildW _ (by decide +kernel) (by decide)) (HT0.out.below bw) false wk_2).mono ?_
 rintro e w10 ⟨rfl, bn⟩
 replace h_ta := h_ta.below bn
 replace h_tb := h_tb.below bn
 replace h_tc := h_tc.below bn
 replace h_td := h_td.below bn
 replace h_te := h_te.below bn
 replace h_tf := h_tf.below bn
 replace h_tg := h_tg.below bn
 replace h_th := h_th.below bn
 replace h_t2 := h_t2.below bn
 replace bw := below_two bw bn
 clear bn
 go_wp2_with fail
 refine (tDeep_c h_te (mildW _ (by decide +kernel) (by decide)) (HT0.out.below bw) 4 wk_3).mono ?_
 rintro e w11 ⟨rfl, bn⟩
 replace h_ta := h_ta.below bn
 replace h_tb := h_tb.below bn
 replace h_tc := h_tc.below bn
 replace h_td := h_td.below bn
 replace h_te := h_te.below bn
 replace h_tf := h_tf.below bn
 replace h_tg := h_tg.below bn
 replace h_th := h_th.below bn
 replace h_t2 := h_t2.below bn
 replace bw := below_two bw bn
 clear bn
 go_wp2_with fail
 refine (tSame_c h_te h_te true wk_4).mono ?_
 rintro e w12 ⟨rfl, bn⟩
 replace h_ta := h_ta.below bn
 replace h_tb := h_tb.below bn
 replace h_tc := h_tc.below bn
 replace h_td := h_td.below bn
 replace h_te := h_te.below bn
 replace h_tf := h_tf.below bn
 replace h_tg := h_tg.below bn
 replace h_th := h_th.below bn
 replace h_t2 := h_t2.below bn
 replace bw := below_two bw bn
 clear bn
 go_wp2_with fail
 go_ret
 exact ⟨rfl, bw⟩
end Go.Proofs.YtbddhflmknaadaaDoor

/- What the reference of layer 14 answers (Units, Two), as contracts over memory. Condition: texts that can be read. -/
namespace Go.Proofs.YtbddhflmknaadaaDoor
open Go.RowKit Limb
set_option linter.unusedVariables false
set_option maxHeartbeats 4000000 in
set_option maxRecDepth 100000 in
theorem rUnits_c (s : ByteArray) (hs : s.size ≤ 1000000000) (v : Bool) (hv : unitOk s = v) (w : World) :
 Calls Tryd.prog 35 #[.string s] w fun e w' => e = .returned (.bool v) ∧ w = w' := by
 have HV := Lib.hid hv
 clear hv
 go_enter Tryd.func35, Tryd.ntmps35
 go_wp2
 go_loopw [3] (fun i wr => ∃ k : Nat, i = .int .i64 (k : Int) ∧ k ≤ s.size ∧ Hid (NoU s k) ∧ w = wr) (fun i _ => s.size - (intOf i).toNat)
 case atStart => exact ⟨0, rfl, Nat.zero_le _, fun j h => absurd h (Nat.not_lt_zero j), rfl⟩
 case round =>
  obtain ⟨k, rfl, hk, HN, rfl⟩ := hrel
  by_cases hlt : k < s.size
  · obtain ⟨d, hd⟩ : ∃ d, (s[k]'hlt).toNat = d := ⟨_, rfl⟩
    have HD : Hid ((s.get! k).toNat = d) := by show _ = _; rw [get_bang s k hlt, hd]
    have bad : okB d = false → Hid (v = false) := fun h => by
     show _ = _
     rw [← HV.out]
     unfold unitOk
     rw [Bool.and_eq_false_iff]
     right
     refine Bool.eq_false_iff.2 fun e => ?_
     have := (all_iff s).1 e k hlt hlt
     rw [HD.out, h] at this
     cases this
    by_cases h1 : d = 93
    · subst h1
      have HV0 := bad rfl
      clear bad
      go_wp2
      go_ret
      exact ⟨by rw [HV0.out]; rfl, rfl⟩
    · have e1 : ((d : Int) == 93) = false := by rw [beq_eq_false_iff_ne]; omega
      by_cases h2 : d = 10
      · subst h2
        have HV0 := bad rfl
        clear bad
        go_wp2
        go_ret
        exact ⟨by rw [HV0.out]; rfl, rfl⟩
      · have e2 : ((d : Int) == 10) = false := by rw [beq_eq_false_iff_ne]; omega
        have HN2 : Hid (NoU s (k + 1)) := HN.out.succ (by rw [HD.out]; unfold okB; simp; omega)
        clear bad
        go_wp2
        go_roundw
        case rel => exact ⟨k + 1, by go_num, hlt, HN2, by first | rfl | trivial⟩
        case measure => simp [intOf]; omega
  · obtain rfl : k = s.size := by omega
    have HV1 : Hid (v = decide (s.size ≤ 200)) := by show _ = _; rw [← HV.out]; unfold unitOk; rw [(all_iff s).2 HN.out, Bool.and_true]
    have e9 : decide ((s.size : Int) ≤ 200) = v := by rw [HV1.out, decide_eq_decide]; omega
    go_wp2
    go_ret
    exact ⟨rfl, rfl⟩
set_option maxHeartbeats 4000000 in
set_option maxRecDepth 100000 in
theorem rTwo_c (k : Int) (v : Bool) (hv : twoK k = v) (w : World) :
 Calls Tryd.prog 25 #[.int .i64 k] w fun e w' => e = .returned (.bool v) ∧ w = w' := by
 by_cases h3 : k = 3
 · subst h3
   have hv1 : v = true := by rw [← hv]; decide
   subst hv1
   clear hv
   go_enter Tryd.func25, Tryd.ntmps25
   go_wp2
   go_ret
   exact ⟨rfl, rfl⟩
 · have e3 : (k == 3) = false := by rw [beq_eq_false_iff_ne]; exact h3
   by_cases h4 : k = 4
   · subst h4
     have hv1 : v = true := by rw [← hv]; decide
     subst hv1
     clear hv
     go_enter Tryd.func25, Tryd.ntmps25
     go_wp2
     go_ret
     exact ⟨rfl, rfl⟩
   · have e4 : (k == 4) = false := by rw [beq_eq_false_iff_ne]; exact h4
     by_cases h5 : k = 5
     · subst h5
       have hv1 : v = true := by rw [← hv]; decide
       subst hv1
       clear hv
       go_enter Tryd.func25, Tryd.ntmps25
       go_wp2
       go_ret
       exact ⟨rfl, rfl⟩
     · have e5 : (k == 5) = false := by rw [beq_eq_false_iff_ne]; exact h5
       by_cases h6 : k = 6
       · subst h6
         have hv1 : v = true := by rw [← hv]; decide
         subst hv1
         clear hv
         go_enter Tryd.func25, Tryd.ntmps25
         go_wp2
         go_ret
         exact ⟨rfl, rfl⟩
       · have e6 : (k == 6) = false := by rw [beq_eq_false_iff_ne]; exact h6
         have hv0 : v = false := by rw [← hv, Bool.eq_false_iff]; exact two_no h3 h4 h5 h6
         subst hv0
         clear hv
         go_enter Tryd.func25, Tryd.ntmps25
         go_wp2
         go_ret
         exact ⟨rfl, rfl⟩
end Go.Proofs.YtbddhflmknaadaaDoor
