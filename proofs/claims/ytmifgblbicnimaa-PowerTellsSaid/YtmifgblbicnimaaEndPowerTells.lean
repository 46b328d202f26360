/- Of any rational number, any exponent, any power of ten: what package power tells is what the document tells. No condition. -/
import Derived.Test.YtmifgblbicnimaaM9
import Derived.LoopIn
import Derived.ChangeMaps5
/- What the reference of layer 8 answers (turned, wide), as contracts over memory. Conditions: sizes of at most so many limbs. -/
namespace Go.Proofs.Ytmifgblbicnimaa
open Go.RowKit Limb
set_option linter.unusedVariables false
theorem room_le {L N : Nat} (h1 : L ≤ 64) (hN : N ≤ 128) : L * N + 1 ≤ 8300 := by
  have := Nat.mul_le_mul h1 hN
  omega

section
variable {w : World} {s s' : Bool} {A B A' B' : Option Addr} {n c m d n' c' m' d' : Nat} {xs ys xs' ys' : List Nat} {x y : Int} {q : Rat} {a b L L' : Nat}
set_option maxHeartbeats 4000000 in
set_option maxRecDepth 100000 in
theorem refTurned_c (hx : ZZ w (sg q.num) A n c (limbs q.num.natAbs) q.num L) (hy : NN w B m d (limbs q.den) q.den L') (hq : q.num ≠ 0) (z : Rat) (hz : q⁻¹ = z) (h1 : L ≤ 1000000) (h2 : L' ≤ 1000000) :
    Calls Try.prog 29 #[.agg #[.bool (sg q.num), .slice A n c, .slice B m d]] w fun e w' => ∃ A2 n2 c2, e = .returned (.agg #[.bool (sg z.num), .slice A2 n2 c2, .slice A n c]) ∧ ZZ w' (sg z.num) A2 n2 c2 (limbs z.num.natAbs) z.num L' ∧ NN w' A n c (limbs z.den) z.den L ∧ Below w.heap.size w w' := by
  have b0 := below_new w (.cells #[Value.bool (sg q.num), Value.slice A n c, Value.slice B m d] 27)
  have b1 := below_new (w.alloc (.cells #[Value.bool (sg q.num), Value.slice A n c, Value.slice B m d] 27)) (.cells #[Value.bool false, Value.slice none 0 0, Value.slice none 0 0] 27)
  have HW := Lib.hid (below_two b0 b1)
  have HX := Lib.hid (hx.below HW.out)
  have HY := Lib.hid (hy.below HW.out)
  obtain ⟨i1, i2⟩ := inv_told hq
  rw [hz] at i1 i2
  have I1 : RowKit.Hid (zOf (sg q.num) q.den = z.num) := i1.symm
  have I2 : RowKit.Hid (z.den = q.num.natAbs) := i2
  have r0 := (row3_new w 27 (.bool (sg q.num)) (.slice A n c) (.slice B m d)).below b1
  have rz := row3_new (w.alloc (.cells #[Value.bool (sg q.num), Value.slice A n c, Value.slice B m d] 27)) 27 (.bool false) (.slice none 0 0) (.slice none 0 0)
  simp only [World.size_alloc] at rz
  have Hq : RowKit.Hid (w.heap.size ≤ w.heap.size + 1) := Nat.le_succ _
  clear b0 b1 hx hy i1 i2 hz
  go_enter Try.func29, Try.ntmps29
  go_wp2_with fail
  generalize (w.alloc (.cells #[Value.bool (sg q.num), Value.slice A n c, Value.slice B m d] 27)).alloc (.cells #[Value.bool false, Value.slice none 0 0, Value.slice none 0 0] 27) = wS at *
  have HR0 := Lib.hid r0
  have HZ := Lib.hid rz
  clear r0 rz
  refine region_free 10 1 [3, 4, 5, 6, 7, 8, 9, 10, 11, 12] ?aF16 (fun wx => Below wS.heap.size wS wx) (fun k vv wx => match k with
      | 0 => vv = .pointer (some ⟨w.heap.size, 0, none⟩)
      | 1 => vv = .pointer (some ⟨w.heap.size, 0, none⟩)
      | 2 => vv = .bool (sg q.num)
      | 3 => vv = .pointer (some ⟨w.heap.size, 2, none⟩)
      | 4 => vv = .slice B m d
      | 5 => ∃ (e0 : Option Addr) (e1 : Nat) (e2 : Nat), vv = .agg #[.bool (sg z.num), .slice e0 e1 e2] ∧ ZZ wx (sg z.num) e0 e1 e2 (limbs z.num.natAbs) z.num L'
      | 6 => vv = .pointer (some ⟨w.heap.size, 0, none⟩)
      | 7 => vv = .pointer (some ⟨w.heap.size, 1, none⟩)
      | 8 => vv = .slice A n c
      | _ => ∃ (e0 : Option Addr) (e1 : Nat) (e2 : Nat), vv = .agg #[.bool (sg z.num), .slice e0 e1 e2, .slice A n c] ∧ ZZ wx (sg z.num) e0 e1 e2 (limbs z.num.natAbs) z.num L')
    (fun k => false) (by kernel_rfl) ?haF16 rfl (by kernel_rfl) (by kernel_rfl) (fun _ _ _ _ _ h => h) ?hSb16 ?hPb16 ?hS16 ?hop16 ?hfin16
  case haF16 =>
    intro vals
    simp only [fillAll, List.getElem?_cons_zero, List.getElem?_cons_succ, Act.put, List.setIfInBounds_toArray, List.set_cons_zero, List.set_cons_succ]
    exact rfl
  case hSb16 => exact fun wx w2 hb hS => below_two hS hb
  case hPb16 =>
    intro k v wa wb hb h
    match k, h with
    | 0, h => exact h
    | 1, h => exact h
    | 2, h => exact h
    | 3, h => exact h
    | 4, h => exact h
    | 5, ⟨e0, e1, e2, h1, g0⟩ => exact ⟨e0, e1, e2, h1, g0.below hb⟩
    | 6, h => exact h
    | 7, h => exact h
    | 8, h => exact h
    | _ + 9, ⟨e0, e1, e2, h1, g0⟩ => exact ⟨e0, e1, e2, h1, g0.below hb⟩
  case hS16 => exact (Below.refl _ _).drew
  case hop16 =>
    refine .cons (k := 0) ?_ (.cons (k := 1) ?_ (.cons (k := 2) ?_ (.cons (k := 3) ?_ (.cons (k := 4) ?_ (.cons (k := 5) ?_ (.cons (k := 6) ?_ (.cons (k := 7) ?_ (.cons (k := 8) ?_ (.cons (k := 9) ?_ (.nil))))))))))
    all_goals intro vals wr hS hd KC hK
    all_goals (show Oper.wp _ _ _ _ _ _; dsimp only)
    · go_simp
      refine hK _ _ rfl (Below.refl _ _) (by first | rfl | simp) (fun h => by cases h)
    · have d0 : vals 0 = _ := hd 0 (by decide +kernel)
      rw [d0]
      go_simp
      refine hK _ _ rfl (Below.refl _ _) (by first | rfl | simp) (fun h => by cases h)
    · have d1 : vals 1 = _ := hd 1 (by decide +kernel)
      rw [d1]
      have z0 := (HR0.out.below hS).c0
      go_simp
      refine hK _ _ rfl (Below.refl _ _) (by first | rfl | simp) (fun h => by cases h)
    · go_simp
      refine hK _ _ rfl (Below.refl _ _) (by first | rfl | simp) (fun h => by cases h)
    · have d3 : vals 3 = _ := hd 3 (by decide +kernel)
      rw [d3]
      have z0 := (HR0.out.below hS).c2
      go_simp
      refine hK _ _ rfl (Below.refl _ _) (by first | rfl | simp) (fun h => by cases h)
    · have d2 : vals 2 = _ := hd 2 (by decide +kernel)
      have d4 : vals 4 = _ := hd 4 (by decide +kernel)
      rw [d2, d4]
      go_simp
      go_at_call 32
      with_reducible refine (refMake_c (HY.out.below hS) (by omega) z.num I1.out).mono ?_
      rintro e w2 ⟨r0, r1, r2, rfl, f0, bn_r⟩
      refine hK _ _ rfl bn_r ⟨_, _, _, rfl, f0⟩ (fun h => by cases h)
    · go_simp
      refine hK _ _ rfl (Below.refl _ _) (by first | rfl | simp) (fun h => by cases h)
    · have d6 : vals 6 = _ := hd 6 (by decide +kernel)
      rw [d6]
      go_simp
      refine hK _ _ rfl (Below.refl _ _) (by first | rfl | simp) (fun h => by cases h)
    · have d7 : vals 7 = _ := hd 7 (by decide +kernel)
      rw [d7]
      have z0 := (HR0.out.below hS).c1
      go_simp
      refine hK _ _ rfl (Below.refl _ _) (by first | rfl | simp) (fun h => by cases h)
    · obtain ⟨A_5_0, n_5_1, n_5_2, d5, h_5_0⟩ := hd 5 (by decide +kernel)
      have d8 : vals 8 = _ := hd 8 (by decide +kernel)
      rw [d5, d8]
      go_simp
      refine hK _ _ rfl (Below.refl _ _) ⟨_, _, _, rfl, h_5_0⟩ (fun h => by cases h)
  case hfin16 =>
    intro vals wr hS hP hne
    obtain ⟨A_9_0, n_9_1, n_9_2, ez_9, h_9_0⟩ := hP 9 (by decide)
    have hZ3 := HZ.out.below hS
    have hNo := hZ3.noLimb (by intro v e; cases e) (by intro v e; cases e) (by intro v e; cases e)
    have e0 := hZ3.c0
    have e1 := hZ3.c1
    have e2 := hZ3.c2
    have f0 := hZ3.free 0
    have f1 := hZ3.free 1
    have f2 := hZ3.free 2
    have HF := Lib.hid (hZ3.fill (.bool (sg z.num)) (.slice A_9_0 n_9_1 n_9_2) (.slice A n c))
    have HP1 := Lib.hid (h_9_0.fillR3 hNo (.bool (sg z.num)) (.slice A_9_0 n_9_1 n_9_2) (.slice A n c))
    have HP2 := Lib.hid ((show NN wr A n c (limbs z.den) z.den L from by rw [I2.out]; exact HX.out.nn.below hS).fillR3 hNo (.bool (sg z.num)) (.slice A_9_0 n_9_1 n_9_2) (.slice A n c))
    have HB := Lib.hid (below_fill3' (below_two HW.out hS) Hq.out (.bool (sg z.num)) (.slice A_9_0 n_9_1 n_9_2) (.slice A n c))
    try dsimp only
    rw [ez_9]
    refine wpAny_ready (rs := [10]) (by kernel_rfl) (by simp) (AllReady.cons rfl (fun KC hK => ?_) AllReady.nil)
    go_simp
    refine hK _ _ ?_
    clear hK KC
    refine wpAny_done (by kernel_rfl) ?_ _
    go_wp2
    refine bodyPost_ret (results_cell_row rfl _ _ _ 27 #[.bool (sg z.num), .slice A_9_0 n_9_1 n_9_2, .slice A n c] (0, 0) _ rfl HF.out Try.underlying27 rfl rat_size) rfl ?_
    exact ⟨A_9_0, n_9_1, n_9_2, rfl, HP1.out, HP2.out, HB.out⟩

set_option maxHeartbeats 4000000 in
set_option maxRecDepth 100000 in
theorem refWideN_c (hx : ZZ w (sg q.num) A n c (limbs q.num.natAbs) q.num L) (hy : NN w B m d (limbs q.den) q.den L') (h1 : L ≤ 64) (h2 : L' ≤ 64) (N : Nat) (hN : N ≤ 128) (z : Rat) (hz : q ^ N = z) (K : Nat) (hK : 8300 ≤ K) (hK2 : K ≤ 20000) :
    Calls Try.prog 28 #[.agg #[.bool (sg q.num), .slice A n c, .slice B m d], .int .i64 (N : Int)] w fun e w' => ∃ A2 n2 c2 B2 m2 d2, e = .returned (.agg #[.bool (sg z.num), .slice A2 n2 c2, .slice B2 m2 d2]) ∧ ZZ w' (sg z.num) A2 n2 c2 (limbs z.num.natAbs) z.num K ∧ NN w' B2 m2 d2 (limbs z.den) z.den K ∧ Below w.heap.size w w' := by
  have b0 := below_new w (.cells #[Value.bool (sg q.num), Value.slice A n c, Value.slice B m d] 27)
  have b1 := below_new (w.alloc (.cells #[Value.bool (sg q.num), Value.slice A n c, Value.slice B m d] 27)) (.cells #[Value.bool false, Value.slice none 0 0, Value.slice none 0 0] 27)
  have b2 := below_new ((w.alloc (.cells #[Value.bool (sg q.num), Value.slice A n c, Value.slice B m d] 27)).alloc (.cells #[Value.bool false, Value.slice none 0 0, Value.slice none 0 0] 27)) (.cells #[Value.int IntKind.u32 1] 62)
  have b3 := below_new (((w.alloc (.cells #[Value.bool (sg q.num), Value.slice A n c, Value.slice B m d] 27)).alloc (.cells #[Value.bool false, Value.slice none 0 0, Value.slice none 0 0] 27)).alloc (.cells #[Value.int IntKind.u32 1] 62)) (.cells #[Value.int IntKind.u32 1] 62)
  have HW := Lib.hid (below_two (below_two (below_two b0 b1) b2) b3)
  have HX := Lib.hid ((hx.below HW.out).nn)
  have HY := Lib.hid (hy.below HW.out)
  have HR0 := Lib.hid ((((row3_new w 27 (.bool (sg q.num)) (.slice A n c) (.slice B m d)).below b1).below b2).below b3)
  have HZ := Lib.hid (((row3_new (w.alloc (.cells #[Value.bool (sg q.num), Value.slice A n c, Value.slice B m d] 27)) 27 (.bool false) (.slice none 0 0) (.slice none 0 0)).below b2).below b3)
  have HL1 : RowKit.Hid (NN ((((w.alloc (.cells #[Value.bool (sg q.num), Value.slice A n c, Value.slice B m d] 27)).alloc (.cells #[Value.bool false, Value.slice none 0 0, Value.slice none 0 0] 27)).alloc (.cells #[Value.int IntKind.u32 1] 62)).alloc (.cells #[Value.int IntKind.u32 1] 62)) (some ⟨w.heap.size + 1 + 1, 0, none⟩) 1 1 (limbs 1) 1 1) := by
    have h0 : NN (((w.alloc (.cells #[Value.bool (sg q.num), Value.slice A n c, Value.slice B m d] 27)).alloc (.cells #[Value.bool false, Value.slice none 0 0, Value.slice none 0 0] 27)).alloc (.cells #[Value.int IntKind.u32 1] 62)) (some ⟨((w.alloc (.cells #[Value.bool (sg q.num), Value.slice A n c, Value.slice B m d] 27)).alloc (.cells #[Value.bool false, Value.slice none 0 0, Value.slice none 0 0] 27)).heap.size, 0, none⟩) 1 1 (limbs 1) 1 1 := by
      have h := lit_c ((w.alloc (.cells #[Value.bool (sg q.num), Value.slice A n c, Value.slice B m d] 27)).alloc (.cells #[Value.bool false, Value.slice none 0 0, Value.slice none 0 0] 27)) [1] (by intro x hx; simp at hx; omega) 1 rfl
      have e1 : limbs 1 = [1] := by simp [limbs, limbsTo]
      rw [e1]; exact h
    have h1 := h0.below b3
    simp only [World.size_alloc] at h1
    exact h1
  have HL2 : RowKit.Hid (NN ((((w.alloc (.cells #[Value.bool (sg q.num), Value.slice A n c, Value.slice B m d] 27)).alloc (.cells #[Value.bool false, Value.slice none 0 0, Value.slice none 0 0] 27)).alloc (.cells #[Value.int IntKind.u32 1] 62)).alloc (.cells #[Value.int IntKind.u32 1] 62)) (some ⟨w.heap.size + 1 + 1 + 1, 0, none⟩) 1 1 (limbs 1) 1 1) := by
    have h0 : NN ((((w.alloc (.cells #[Value.bool (sg q.num), Value.slice A n c, Value.slice B m d] 27)).alloc (.cells #[Value.bool false, Value.slice none 0 0, Value.slice none 0 0] 27)).alloc (.cells #[Value.int IntKind.u32 1] 62)).alloc (.cells #[Value.int IntKind.u32 1] 62)) (some ⟨(((w.alloc (.cells #[Value.bool (sg q.num), Value.slice A n c, Value.slice B m d] 27)).alloc (.cells #[Value.bool false, Value.slice none 0 0, Value.slice none 0 0] 27)).alloc (.cells #[Value.int IntKind.u32 1] 62)).heap.size, 0, none⟩) 1 1 (limbs 1) 1 1 := by
      have h := lit_c (((w.alloc (.cells #[Value.bool (sg q.num), Value.slice A n c, Value.slice B m d] 27)).alloc (.cells #[Value.bool false, Value.slice none 0 0, Value.slice none 0 0] 27)).alloc (.cells #[Value.int IntKind.u32 1] 62)) [1] (by intro x hx; simp at hx; omega) 1 rfl
      have e1 : limbs 1 = [1] := by simp [limbs, limbsTo]
      rw [e1]; exact h
    simp only [World.size_alloc] at h0
    exact h0
  have Hq : RowKit.Hid (w.heap.size ≤ w.heap.size + 1) := Nat.le_succ _
  have PX : RowKit.Hid (∀ i0, i0 ≤ N → q.num.natAbs ^ i0 < 4294967296 ^ K) := fun i0 hk => Nat.lt_of_lt_of_le (pow_room (lt_pow hx.nn)) (Nat.pow_le_pow_right (by decide) (Nat.le_trans (room_le h1 (Nat.le_trans hk hN)) hK))
  have PY : RowKit.Hid (∀ i0, i0 ≤ N → q.den ^ i0 < 4294967296 ^ K) := fun i0 hk => Nat.lt_of_lt_of_le (pow_room (lt_pow hy)) (Nat.pow_le_pow_right (by decide) (Nat.le_trans (room_le h2 (Nat.le_trans hk hN)) hK))
  simp only [World.size_alloc] at HZ
  have Hz1 : RowKit.Hid (q.num ^ N = z.num) := by show _ = _; rw [← hz, Rat.num_pow]
  have Hz2 : RowKit.Hid (q.den ^ N = z.den) := by show _ = _; rw [← hz, Rat.den_pow]
  clear b0 b1 b2 b3 hx hy hz
  go_enter Try.func28, Try.ntmps28
  go_wp2
  generalize (((w.alloc (.cells #[Value.bool (sg q.num), Value.slice A n c, Value.slice B m d] 27)).alloc (.cells #[Value.bool false, Value.slice none 0 0, Value.slice none 0 0] 27)).alloc (.cells #[Value.int IntKind.u32 1] 62)).alloc (.cells #[Value.int IntKind.u32 1] 62) = w1 at *
  go_loopw [5, 6, 7] (fun t b i wr => ∃ (i0 : Nat) (A1 : Option Addr) (n1 c1 : Nat) (A2 : Option Addr) (n2 c2 : Nat), i0 ≤ N ∧ t = .slice A1 n1 c1 ∧ b = .slice A2 n2 c2 ∧ i = .int .i64 i0 ∧ RowKit.Hid (NN wr A1 n1 c1 (limbs (q.num.natAbs ^ i0)) (q.num.natAbs ^ i0) K) ∧ RowKit.Hid (NN wr A2 n2 c2 (limbs (q.den ^ i0)) (q.den ^ i0) K) ∧ RowKit.Hid (Below w1.heap.size w1 wr)) (fun _ _ i _ => N - (intOf i).toNat)
  case atStart => exact ⟨0, _, _, _, _, _, _, Nat.zero_le _, rfl, rfl, rfl, HL1.out.short (by omega), HL2.out.short (by omega), Below.refl _ _⟩
  case round =>
    clear HL1 HL2
    obtain ⟨i0, A1, n1, c1, A2, n2, c2, hk, rfl, rfl, rfl, HT, HBt, HWr⟩ := hrel
    by_cases hkn : i0 < N
    · go_wp2
      generalize wr = wS at *
      have HR := Lib.hid (HR0.out.below HWr.out)
      have HXs := Lib.hid (HX.out.below HWr.out)
      have HYs := Lib.hid (HY.out.below HWr.out)
      refine region_free 9 2 [15, 16, 17, 18, 19, 20, 21, 22, 23] ?aF17 (fun wx => Below wS.heap.size wS wx) (fun k vv wx => match k with
          | 0 => vv = .slice A1 n1 c1
          | 1 => vv = .pointer (some ⟨w.heap.size, 0, none⟩)
          | 2 => vv = .pointer (some ⟨w.heap.size, 1, none⟩)
          | 3 => vv = .slice A n c
          | 4 => ∃ (e0 : Option Addr) (e1 : Nat) (e2 : Nat), vv = .slice e0 e1 e2 ∧ NN wx e0 e1 e2 (limbs (q.num.natAbs ^ i0 * q.num.natAbs)) (q.num.natAbs ^ i0 * q.num.natAbs) (K + L)
          | 5 => vv = .slice A2 n2 c2
          | 6 => vv = .pointer (some ⟨w.heap.size, 2, none⟩)
          | 7 => vv = .slice B m d
          | _ => ∃ (e0 : Option Addr) (e1 : Nat) (e2 : Nat), vv = .slice e0 e1 e2 ∧ NN wx e0 e1 e2 (limbs (q.den ^ i0 * q.den)) (q.den ^ i0 * q.den) (K + L'))
        (fun k => false) (by kernel_rfl) ?haF17 rfl (by kernel_rfl) (by kernel_rfl) (fun _ _ _ _ _ h => h) ?hSb17 ?hPb17 ?hS17 ?hop17 ?hfin17
      case haF17 =>
        intro vals
        simp only [fillAll, List.getElem?_cons_zero, List.getElem?_cons_succ, Act.put, List.setIfInBounds_toArray, List.set_cons_zero, List.set_cons_succ]
        exact rfl
      case hSb17 => exact fun wx w2 hb hS => below_two hS hb
      case hPb17 =>
        intro k v wa wb hb h
        match k, h with
        | 0, h => exact h
        | 1, h => exact h
        | 2, h => exact h
        | 3, h => exact h
        | 4, ⟨e0, e1, e2, h1, g0⟩ => exact ⟨e0, e1, e2, h1, g0.below hb⟩
        | 5, h => exact h
        | 6, h => exact h
        | 7, h => exact h
        | _ + 8, ⟨e0, e1, e2, h1, g0⟩ => exact ⟨e0, e1, e2, h1, g0.below hb⟩
      case hS17 => exact (Below.refl _ _).drew
      case hop17 =>
        refine .cons (k := 0) ?_ (.cons (k := 1) ?_ (.cons (k := 2) ?_ (.cons (k := 3) ?_ (.cons (k := 4) ?_ (.cons (k := 5) ?_ (.cons (k := 6) ?_ (.cons (k := 7) ?_ (.cons (k := 8) ?_ (.nil)))))))))
        all_goals intro vals wr hS hd KC hK
        all_goals (show Oper.wp _ _ _ _ _ _; dsimp only)
        · go_simp
          refine hK _ _ rfl (Below.refl _ _) (by first | rfl | simp) (fun h => by cases h)
        · go_simp
          refine hK _ _ rfl (Below.refl _ _) (by first | rfl | simp) (fun h => by cases h)
        · have d1 : vals 1 = _ := hd 1 (by decide +kernel)
          rw [d1]
          go_simp
          refine hK _ _ rfl (Below.refl _ _) (by first | rfl | simp) (fun h => by cases h)
        · have d2 : vals 2 = _ := hd 2 (by decide +kernel)
          rw [d2]
          have z0 := (HR.out.below hS).c1
          go_simp
          refine hK _ _ rfl (Below.refl _ _) (by first | rfl | simp) (fun h => by cases h)
        · have d0 : vals 0 = _ := hd 0 (by decide +kernel)
          have d3 : vals 3 = _ := hd 3 (by decide +kernel)
          rw [d0, d3]
          go_simp
          go_at_call 34
          with_reducible refine (refMul_c (HT.out.below hS) (HXs.out.below hS) (by omega) (by omega)).mono ?_
          rintro e w2 ⟨r0, r1, r2, rfl, f0, bn_r⟩
          refine hK _ _ rfl bn_r ⟨_, _, _, rfl, f0⟩ (fun h => by cases h)
        · go_simp
          refine hK _ _ rfl (Below.refl _ _) (by first | rfl | simp) (fun h => by cases h)
        · go_simp
          refine hK _ _ rfl (Below.refl _ _) (by first | rfl | simp) (fun h => by cases h)
        · have d6 : vals 6 = _ := hd 6 (by decide +kernel)
          rw [d6]
          have z0 := (HR.out.below hS).c2
          go_simp
          refine hK _ _ rfl (Below.refl _ _) (by first | rfl | simp) (fun h => by cases h)
        · have d5 : vals 5 = _ := hd 5 (by decide +kernel)
          have d7 : vals 7 = _ := hd 7 (by decide +kernel)
          rw [d5, d7]
          go_simp
          go_at_call 34
          with_reducible refine (refMul_c (HBt.out.below hS) (HYs.out.below hS) (by omega) (by omega)).mono ?_
          rintro e w2 ⟨r0, r1, r2, rfl, f0, bn_r⟩
          refine hK _ _ rfl bn_r ⟨_, _, _, rfl, f0⟩ (fun h => by cases h)
      case hfin17 =>
        intro vals wr hS hP hne
        obtain ⟨A_4_0, n_4_1, n_4_2, ez_4, h_4_0⟩ := hP 4 (by decide)
        obtain ⟨A_8_0, n_8_1, n_8_2, ez_8, h_8_0⟩ := hP 8 (by decide)
        have HT2 : RowKit.Hid (NN wr A_4_0 n_4_1 n_4_2 (limbs (q.num.natAbs ^ (i0 + 1))) (q.num.natAbs ^ (i0 + 1)) K) := by
          show NN _ _ _ _ _ _ _
          rw [Nat.pow_succ]; exact h_4_0.relax (by rw [← Nat.pow_succ]; exact PX.out _ hkn)
        have HB2 : RowKit.Hid (NN wr A_8_0 n_8_1 n_8_2 (limbs (q.den ^ (i0 + 1))) (q.den ^ (i0 + 1)) K) := by
          show NN _ _ _ _ _ _ _
          rw [Nat.pow_succ]; exact h_8_0.relax (by rw [← Nat.pow_succ]; exact PY.out _ hkn)
        have HW2 := Lib.hid (below_two HWr.out hS)
        try dsimp only
        rw [ez_4, ez_8]
        refine wpAny_ready (rs := [9]) (by kernel_rfl) (by simp) (AllReady.cons rfl (fun KC hK => ?_) AllReady.nil)
        go_simp
        refine hK _ _ ?_
        clear hK KC
        refine wpAny_ready (rs := [10]) (by kernel_rfl) (by simp) (AllReady.cons rfl (fun KC hK => ?_) AllReady.nil)
        go_simp
        refine hK _ _ ?_
        clear hK KC
        refine wpAny_done (by kernel_rfl) ?_ _
        go_wp2
        go_roundw
        case rel => exact ⟨i0 + 1, _, _, _, _, _, _, hkn, rfl, rfl, by go_num, HT2, HB2, HW2⟩
        case measure => simp [intOf]; omega
    · obtain rfl : i0 = N := by omega
      generalize wr = wS at *
      have HR := Lib.hid (HR0.out.below HWr.out)
      have HZ3 := Lib.hid (HZ.out.below HWr.out)
      have HWW := Lib.hid (below_two HW.out HWr.out)
      have HBz : RowKit.Hid (NN wS A2 n2 c2 (limbs z.den) z.den K) := by
        show NN _ _ _ _ _ _ _
        rw [← Hz2.out]; exact HBt.out
      have hp := (zOf_pow (x := q.num) i0).trans Hz1.out
      cases hs : sg q.num with
      | false =>
        have HS : RowKit.Hid (zOf false (q.num.natAbs ^ i0) = z.num) := by
          show _ = _
          rw [hs, Bool.false_and] at hp; exact hp
        clear hp
        have c0 := HR.out.c0
        rw [hs] at c0
        go_wp2_with fail
        refine (refMake_c HT.out (by omega) z.num HS.out).mono ?_
        rintro e w5 ⟨A5, n5, c5, rfl, h5, bn⟩
        clear c0
        have hZ3 := HZ3.out.below bn
        have hNo := hZ3.noLimb (by intro v e; cases e) (by intro v e; cases e) (by intro v e; cases e)
        have e0 := hZ3.c0
        have e1 := hZ3.c1
        have e2 := hZ3.c2
        have f0 := hZ3.free 0
        have f1 := hZ3.free 1
        have f2 := hZ3.free 2
        have HF := Lib.hid (hZ3.fill (.bool (sg z.num)) (.slice A5 n5 c5) (.slice A2 n2 c2))
        have HP1 := Lib.hid (h5.fillR3 hNo (.bool (sg z.num)) (.slice A5 n5 c5) (.slice A2 n2 c2))
        have HP2 := Lib.hid ((HBz.out.below bn).fillR3 hNo (.bool (sg z.num)) (.slice A5 n5 c5) (.slice A2 n2 c2))
        have HB := Lib.hid (below_fill3' (below_two HWW.out bn) Hq.out (.bool (sg z.num)) (.slice A5 n5 c5) (.slice A2 n2 c2))
        clear hNo bn h5 hZ3
        go_wp2
        refine bodyPost_ret (results_cell_row rfl _ _ _ 27 #[.bool (sg z.num), .slice A5 n5 c5, .slice A2 n2 c2] (0, 0) _ rfl HF.out Try.underlying27 rfl rat_size) rfl ?_
        exact ⟨A5, n5, c5, A2, n2, c2, rfl, HP1.out, HP2.out, HB.out⟩
      | true =>
        by_cases hodd : i0 % 2 = 1
        · have HS : RowKit.Hid (zOf true (q.num.natAbs ^ i0) = z.num) := by
            show _ = _
            rw [hs, decide_eq_true hodd] at hp; exact hp
          have h2 : ((i0 : Int).tmod 2 == 1) = true := by rw [Int.tmod_eq_emod_of_nonneg (by omega), beq_iff_eq]; omega
          have h3 : ((i0 : Int) % 2 == 1) = true := by rw [beq_iff_eq]; omega
          clear hp hodd
          have c0 := HR.out.c0
          rw [hs] at c0
          go_wp2_with fail
          refine (refMake_c HT.out (by omega) z.num HS.out).mono ?_
          rintro e w5 ⟨A5, n5, c5, rfl, h5, bn⟩
          clear c0
          have hZ3 := HZ3.out.below bn
          have hNo := hZ3.noLimb (by intro v e; cases e) (by intro v e; cases e) (by intro v e; cases e)
          have e0 := hZ3.c0
          have e1 := hZ3.c1
          have e2 := hZ3.c2
          have f0 := hZ3.free 0
          have f1 := hZ3.free 1
          have f2 := hZ3.free 2
          have HF := Lib.hid (hZ3.fill (.bool (sg z.num)) (.slice A5 n5 c5) (.slice A2 n2 c2))
          have HP1 := Lib.hid (h5.fillR3 hNo (.bool (sg z.num)) (.slice A5 n5 c5) (.slice A2 n2 c2))
          have HP2 := Lib.hid ((HBz.out.below bn).fillR3 hNo (.bool (sg z.num)) (.slice A5 n5 c5) (.slice A2 n2 c2))
          have HB := Lib.hid (below_fill3' (below_two HWW.out bn) Hq.out (.bool (sg z.num)) (.slice A5 n5 c5) (.slice A2 n2 c2))
          clear hNo bn h5 hZ3
          go_wp2
          refine bodyPost_ret (results_cell_row rfl _ _ _ 27 #[.bool (sg z.num), .slice A5 n5 c5, .slice A2 n2 c2] (0, 0) _ rfl HF.out Try.underlying27 rfl rat_size) rfl ?_
          exact ⟨A5, n5, c5, A2, n2, c2, rfl, HP1.out, HP2.out, HB.out⟩
        · have HS : RowKit.Hid (zOf false (q.num.natAbs ^ i0) = z.num) := by
            show _ = _
            rw [hs, decide_eq_false hodd] at hp; exact hp
          have h2 : ((i0 : Int).tmod 2 == 1) = false := by rw [Int.tmod_eq_emod_of_nonneg (by omega), beq_eq_false_iff_ne]; omega
          have h3 : ((i0 : Int) % 2 == 1) = false := by rw [beq_eq_false_iff_ne]; omega
          clear hp hodd
          have c0 := HR.out.c0
          rw [hs] at c0
          go_wp2_with fail
          refine (refMake_c HT.out (by omega) z.num HS.out).mono ?_
          rintro e w5 ⟨A5, n5, c5, rfl, h5, bn⟩
          clear c0
          have hZ3 := HZ3.out.below bn
          have hNo := hZ3.noLimb (by intro v e; cases e) (by intro v e; cases e) (by intro v e; cases e)
          have e0 := hZ3.c0
          have e1 := hZ3.c1
          have e2 := hZ3.c2
          have f0 := hZ3.free 0
          have f1 := hZ3.free 1
          have f2 := hZ3.free 2
          have HF := Lib.hid (hZ3.fill (.bool (sg z.num)) (.slice A5 n5 c5) (.slice A2 n2 c2))
          have HP1 := Lib.hid (h5.fillR3 hNo (.bool (sg z.num)) (.slice A5 n5 c5) (.slice A2 n2 c2))
          have HP2 := Lib.hid ((HBz.out.below bn).fillR3 hNo (.bool (sg z.num)) (.slice A5 n5 c5) (.slice A2 n2 c2))
          have HB := Lib.hid (below_fill3' (below_two HWW.out bn) Hq.out (.bool (sg z.num)) (.slice A5 n5 c5) (.slice A2 n2 c2))
          clear hNo bn h5 hZ3
          go_wp2
          refine bodyPost_ret (results_cell_row rfl _ _ _ 27 #[.bool (sg z.num), .slice A5 n5 c5, .slice A2 n2 c2] (0, 0) _ rfl HF.out Try.underlying27 rfl rat_size) rfl ?_
          exact ⟨A5, n5, c5, A2, n2, c2, rfl, HP1.out, HP2.out, HB.out⟩

end
end Go.Proofs.Ytmifgblbicnimaa

/- What the reference of layer 8 answers (Of), as a contract over memory. Conditions: sizes of at most so many limbs. -/
namespace Go.Proofs.Ytmifgblbicnimaa
open Go.RowKit Limb
set_option linter.unusedVariables false
section
variable {w : World} {s s' : Bool} {A B A' B' : Option Addr} {n c m d n' c' m' d' : Nat} {xs ys xs' ys' : List Nat} {x y : Int} {o : Option Rat} {a b L L' : Nat}
theorem refQWhole1_c (w : World) : Calls Try.prog 26 #[.int .i64 1] w fun e w' => ∃ A2 n2 c2 B2 m2 d2, e = .returned (.agg #[.bool (sg (oTop (some 1))), .slice A2 n2 c2, .slice B2 m2 d2]) ∧ QT w' A2 n2 c2 B2 m2 d2 (some 1) ∧ Below w.heap.size w w' := refQWhole_c 1 (by decide) (by decide) w

set_option maxHeartbeats 4000000 in
set_option maxRecDepth 100000 in
theorem refPOf_c (hx : QQ w s A n c xs B m d ys o L) (h1 : L ≤ 1000) (v : Int) (r : Option Rat) (e : Int) (hR : powR o v = (r, e)) :
    Calls Try.prog 13 #[.agg #[.bool s, .slice A n c, .slice B m d], .int .i64 v] w fun ee w' => ∃ A2 n2 c2 B2 m2 d2, ee = .returned (.agg #[.bool (sg (oTop r)), .slice A2 n2 c2, .slice B2 m2 d2, .int .i64 e]) ∧ QT w' A2 n2 c2 B2 m2 d2 r ∧ Below w.heap.size w w' := by
  cases o with
  | none =>
    have hR2 : ((none : Option Rat), (1 : Int)) = (r, e) := hR
    cases hR2
    clear hR
    have b0 := below_new w (.cells #[Value.bool s, Value.slice A n c, Value.slice B m d] 27)
    have b2 := below_new (w.alloc (.cells #[Value.bool s, Value.slice A n c, Value.slice B m d] 27)) (.cells #[Value.bool false, Value.slice none 0 0, Value.slice none 0 0, Value.int IntKind.i64 0] 35)
    have HW := Lib.hid (below_two b0 b2)
    have HQ0 := Lib.hid (hx.below HW.out)
    have r0 := ((row3_new w 27 (.bool s) (.slice A n c) (.slice B m d))).below b2
    have rz := row4_new (w.alloc (.cells #[Value.bool s, Value.slice A n c, Value.slice B m d] 27)) 35 (.bool false) (.slice none 0 0) (.slice none 0 0) (.int .i64 0)
    simp only [World.size_alloc] at rz
    clear b0 b2 hx
    go_enter Try.func13, Try.ntmps13
    go_wp2_with fail
    generalize (w.alloc (.cells #[Value.bool s, Value.slice A n c, Value.slice B m d] 27)).alloc (.cells #[Value.bool false, Value.slice none 0 0, Value.slice none 0 0, Value.int IntKind.i64 0] 35) = w1 at *
    have HR0 := Lib.hid r0
    have HZ := Lib.hid rz
    have Hq : RowKit.Hid (w.heap.size ≤ w.heap.size + 1) := by show _ ≤ _; omega
    clear r0 rz
    refine (refGood_c HQ0.out (by omega) false rfl).mono ?_
    rintro e wS ⟨rfl, bn⟩
    replace HQ0 := Lib.hid (HQ0.out.below bn)
    replace HR0 := Lib.hid (HR0.out.below bn)
    replace HZ := Lib.hid (HZ.out.below bn)
    replace HW := Lib.hid (below_two HW.out bn)
    clear bn
    have e0 := HZ.out.c0
    have e1 := HZ.out.c1
    have e2 := HZ.out.c2
    have e3 := HZ.out.c3
    have f0 := HZ.out.free 0
    have f1 := HZ.out.free 1
    have f2 := HZ.out.free 2
    have f3 := HZ.out.free 3
    have HF := Lib.hid (HZ.out.fill (.bool false) (.slice none 0 0) (.slice none 0 0) (.int .i64 1))
    have HB := Lib.hid (below_fill4 HW.out Hq.out (.bool false) (.slice none 0 0) (.slice none 0 0) (.int .i64 1))
    go_wp2
    refine bodyPost_ret (results_cell_row rfl _ _ _ 35 #[.bool false, .slice none 0 0, .slice none 0 0, .int .i64 1] (0, 0) _ rfl HF.out Try.underlying35 rfl got7_size) rfl ?_
    exact ⟨none, 0, 0, none, 0, 0, rfl, qt_none _ 0 0, HB.out⟩
  | some q =>
    obtain ⟨t1, t2, t3, t4, t5, t6, t7⟩ := hx.some
    subst t1
    subst t2
    subst t3
    have HX0 := Lib.hid t5
    have HY0 := Lib.hid t6
    clear t4 t5 t6 t7
    by_cases k1 : 128 < v
    · rw [powR_big (.inl k1)] at hR
      cases hR
      have b0 := below_new w (.cells #[Value.bool (sg q.num), Value.slice A n c, Value.slice B m d] 27)
      have b2 := below_new (w.alloc (.cells #[Value.bool (sg q.num), Value.slice A n c, Value.slice B m d] 27)) (.cells #[Value.bool false, Value.slice none 0 0, Value.slice none 0 0, Value.int IntKind.i64 0] 35)
      have HW := Lib.hid (below_two b0 b2)
      have HQ0 := Lib.hid (hx.below HW.out)
      have r0 := ((row3_new w 27 (.bool (sg q.num)) (.slice A n c) (.slice B m d))).below b2
      have rz := row4_new (w.alloc (.cells #[Value.bool (sg q.num), Value.slice A n c, Value.slice B m d] 27)) 35 (.bool false) (.slice none 0 0) (.slice none 0 0) (.int .i64 0)
      simp only [World.size_alloc] at rz
      clear b0 b2 hx
      go_enter Try.func13, Try.ntmps13
      go_wp2_with fail
      generalize (w.alloc (.cells #[Value.bool (sg q.num), Value.slice A n c, Value.slice B m d] 27)).alloc (.cells #[Value.bool false, Value.slice none 0 0, Value.slice none 0 0, Value.int IntKind.i64 0] 35) = w1 at *
      have HR0 := Lib.hid r0
      have HZ := Lib.hid rz
      have Hq : RowKit.Hid (w.heap.size ≤ w.heap.size + 1) := by show _ ≤ _; omega
      clear r0 rz
      refine (refGood_c HQ0.out (by omega) true rfl).mono ?_
      rintro e wS ⟨rfl, bn⟩
      replace HQ0 := Lib.hid (HQ0.out.below bn)
      replace HR0 := Lib.hid (HR0.out.below bn)
      replace HZ := Lib.hid (HZ.out.below bn)
      replace HW := Lib.hid (below_two HW.out bn)
      clear bn
      have e0 := HZ.out.c0
      have e1 := HZ.out.c1
      have e2 := HZ.out.c2
      have e3 := HZ.out.c3
      have f0 := HZ.out.free 0
      have f1 := HZ.out.free 1
      have f2 := HZ.out.free 2
      have f3 := HZ.out.free 3
      have HF := Lib.hid (HZ.out.fill (.bool false) (.slice none 0 0) (.slice none 0 0) (.int .i64 2))
      have HB := Lib.hid (below_fill4 HW.out Hq.out (.bool false) (.slice none 0 0) (.slice none 0 0) (.int .i64 2))
      go_wp2
      refine bodyPost_ret (results_cell_row rfl _ _ _ 35 #[.bool false, .slice none 0 0, .slice none 0 0, .int .i64 2] (0, 0) _ rfl HF.out Try.underlying35 rfl got7_size) rfl ?_
      exact ⟨none, 0, 0, none, 0, 0, rfl, qt_none _ 0 0, HB.out⟩
    · by_cases k2 : v < -128
      · rw [powR_big (.inr k2)] at hR
        cases hR
        have k3 : v ≤ 128 := by omega
        have b0 := below_new w (.cells #[Value.bool (sg q.num), Value.slice A n c, Value.slice B m d] 27)
        have b2 := below_new (w.alloc (.cells #[Value.bool (sg q.num), Value.slice A n c, Value.slice B m d] 27)) (.cells #[Value.bool false, Value.slice none 0 0, Value.slice none 0 0, Value.int IntKind.i64 0] 35)
        have HW := Lib.hid (below_two b0 b2)
        have HQ0 := Lib.hid (hx.below HW.out)
        have r0 := ((row3_new w 27 (.bool (sg q.num)) (.slice A n c) (.slice B m d))).below b2
        have rz := row4_new (w.alloc (.cells #[Value.bool (sg q.num), Value.slice A n c, Value.slice B m d] 27)) 35 (.bool false) (.slice none 0 0) (.slice none 0 0) (.int .i64 0)
        simp only [World.size_alloc] at rz
        clear b0 b2 hx
        go_enter Try.func13, Try.ntmps13
        go_wp2_with fail
        generalize (w.alloc (.cells #[Value.bool (sg q.num), Value.slice A n c, Value.slice B m d] 27)).alloc (.cells #[Value.bool false, Value.slice none 0 0, Value.slice none 0 0, Value.int IntKind.i64 0] 35) = w1 at *
        have HR0 := Lib.hid r0
        have HZ := Lib.hid rz
        have Hq : RowKit.Hid (w.heap.size ≤ w.heap.size + 1) := by show _ ≤ _; omega
        clear r0 rz
        refine (refGood_c HQ0.out (by omega) true rfl).mono ?_
        rintro e wS ⟨rfl, bn⟩
        replace HQ0 := Lib.hid (HQ0.out.below bn)
        replace HR0 := Lib.hid (HR0.out.below bn)
        replace HZ := Lib.hid (HZ.out.below bn)
        replace HW := Lib.hid (below_two HW.out bn)
        clear bn
        have e0 := HZ.out.c0
        have e1 := HZ.out.c1
        have e2 := HZ.out.c2
        have e3 := HZ.out.c3
        have f0 := HZ.out.free 0
        have f1 := HZ.out.free 1
        have f2 := HZ.out.free 2
        have f3 := HZ.out.free 3
        have HF := Lib.hid (HZ.out.fill (.bool false) (.slice none 0 0) (.slice none 0 0) (.int .i64 2))
        have HB := Lib.hid (below_fill4 HW.out Hq.out (.bool false) (.slice none 0 0) (.slice none 0 0) (.int .i64 2))
        go_wp2
        refine bodyPost_ret (results_cell_row rfl _ _ _ 35 #[.bool false, .slice none 0 0, .slice none 0 0, .int .i64 2] (0, 0) _ rfl HF.out Try.underlying35 rfl got7_size) rfl ?_
        exact ⟨none, 0, 0, none, 0, 0, rfl, qt_none _ 0 0, HB.out⟩
      · by_cases k3 : v = 0
        · rw [powR_zero k3] at hR
          cases hR
          subst k3
          have b0 := below_new w (.cells #[Value.bool (sg q.num), Value.slice A n c, Value.slice B m d] 27)
          have b2 := below_new (w.alloc (.cells #[Value.bool (sg q.num), Value.slice A n c, Value.slice B m d] 27)) (.cells #[Value.bool false, Value.slice none 0 0, Value.slice none 0 0, Value.int IntKind.i64 0] 35)
          have HW := Lib.hid (below_two b0 b2)
          have HQ0 := Lib.hid (hx.below HW.out)
          have r0 := ((row3_new w 27 (.bool (sg q.num)) (.slice A n c) (.slice B m d))).below b2
          have rz := row4_new (w.alloc (.cells #[Value.bool (sg q.num), Value.slice A n c, Value.slice B m d] 27)) 35 (.bool false) (.slice none 0 0) (.slice none 0 0) (.int .i64 0)
          simp only [World.size_alloc] at rz
          clear b0 b2 hx
          go_enter Try.func13, Try.ntmps13
          go_wp2_with fail
          generalize (w.alloc (.cells #[Value.bool (sg q.num), Value.slice A n c, Value.slice B m d] 27)).alloc (.cells #[Value.bool false, Value.slice none 0 0, Value.slice none 0 0, Value.int IntKind.i64 0] 35) = w1 at *
          have HR0 := Lib.hid r0
          have HZ := Lib.hid rz
          have Hq : RowKit.Hid (w.heap.size ≤ w.heap.size + 1) := by show _ ≤ _; omega
          clear r0 rz
          refine (refGood_c HQ0.out (by omega) true rfl).mono ?_
          rintro e wS ⟨rfl, bn⟩
          replace HQ0 := Lib.hid (HQ0.out.below bn)
          replace HR0 := Lib.hid (HR0.out.below bn)
          replace HZ := Lib.hid (HZ.out.below bn)
          replace HW := Lib.hid (below_two HW.out bn)
          clear bn
          go_wp2_with fail
          refine (refQWhole1_c _).mono ?_
          rintro ee w4 ⟨A9, n9, c9, B9, m9, d9, rfl, h9, bn⟩
          have hZ3 := HZ.out.below bn
          have hNo := hZ3.noLimb (by intro v e; cases e) (by intro v e; cases e) (by intro v e; cases e) (by intro v e; cases e)
          have e0 := hZ3.c0
          have e1 := hZ3.c1
          have e2 := hZ3.c2
          have e3 := hZ3.c3
          have f0 := hZ3.free 0
          have f1 := hZ3.free 1
          have f2 := hZ3.free 2
          have f3 := hZ3.free 3
          have HF := Lib.hid (hZ3.fill (.bool (sg (oTop (some 1)))) (.slice A9 n9 c9) (.slice B9 m9 d9) (.int .i64 0))
          have HP := Lib.hid (QQ.fillR4 h9 hNo (.bool (sg (oTop (some 1)))) (.slice A9 n9 c9) (.slice B9 m9 d9) (.int .i64 0))
          have HB := Lib.hid (below_fill4 (below_two HW.out bn) Hq.out (.bool (sg (oTop (some 1)))) (.slice A9 n9 c9) (.slice B9 m9 d9) (.int .i64 0))
          clear hNo bn h9 hZ3
          go_wp2
          refine bodyPost_ret (results_cell_row rfl _ _ _ 35 #[.bool (sg (oTop (some 1))), .slice A9 n9 c9, .slice B9 m9 d9, .int .i64 0] (0, 0) _ rfl HF.out Try.underlying35 rfl got7_size) rfl ?_
          exact ⟨A9, n9, c9, B9, m9, d9, rfl, HP.out, HB.out⟩
        · by_cases k4 : 0 < v
          · have k5 : v ≤ 128 := by omega
            have k6 : -128 ≤ v := by omega
            rw [powR_lim k5 k6 k3 (.inl k4)] at hR
            obtain ⟨N, hN⟩ : ∃ N : Nat, v = (N : Int) := ⟨v.toNat, by omega⟩
            subst hN
            rw [Rat.zpow_natCast] at hR
            obtain ⟨z, hz⟩ : ∃ z : Rat, q ^ N = z := ⟨_, rfl⟩
            rw [hz] at hR
            have hL2 : (limQ z, limE z) = (r, e) := hR
            cases hL2
            clear hR
            have Hz := Lib.hid hz
            have HN : RowKit.Hid (N ≤ 128) := by show _ ≤ _; omega
            have kz : ((N : Int) == 0) = false := by rw [beq_eq_false_iff_ne]; omega
            clear hz
            have b0 := below_new w (.cells #[Value.bool (sg q.num), Value.slice A n c, Value.slice B m d] 27)
            have b2 := below_new (w.alloc (.cells #[Value.bool (sg q.num), Value.slice A n c, Value.slice B m d] 27)) (.cells #[Value.bool false, Value.slice none 0 0, Value.slice none 0 0, Value.int IntKind.i64 0] 35)
            have HW := Lib.hid (below_two b0 b2)
            have HQ0 := Lib.hid (hx.below HW.out)
            have r0 := ((row3_new w 27 (.bool (sg q.num)) (.slice A n c) (.slice B m d))).below b2
            have rz := row4_new (w.alloc (.cells #[Value.bool (sg q.num), Value.slice A n c, Value.slice B m d] 27)) 35 (.bool false) (.slice none 0 0) (.slice none 0 0) (.int .i64 0)
            simp only [World.size_alloc] at rz
            clear b0 b2 hx
            go_enter Try.func13, Try.ntmps13
            go_wp2_with fail
            generalize (w.alloc (.cells #[Value.bool (sg q.num), Value.slice A n c, Value.slice B m d] 27)).alloc (.cells #[Value.bool false, Value.slice none 0 0, Value.slice none 0 0, Value.int IntKind.i64 0] 35) = w1 at *
            have HR0 := Lib.hid r0
            have HZ := Lib.hid rz
            have Hq : RowKit.Hid (w.heap.size ≤ w.heap.size + 1) := by show _ ≤ _; omega
            clear r0 rz
            refine (refGood_c HQ0.out (by omega) true rfl).mono ?_
            rintro e wS ⟨rfl, bn⟩
            replace HQ0 := Lib.hid (HQ0.out.below bn)
            replace HR0 := Lib.hid (HR0.out.below bn)
            replace HZ := Lib.hid (HZ.out.below bn)
            replace HW := Lib.hid (below_two HW.out bn)
            clear bn
            have HX := Lib.hid HQ0.out.some.2.2.2.2.1
            have HY := Lib.hid HQ0.out.some.2.2.2.2.2.1
            have c00 := HR0.out.c0
            have c01 := HR0.out.c1
            have c02 := HR0.out.c2
            go_wp2_with fail
            clear c00 c01 c02
            refine (refWideN_c HX.out HY.out (by decide) (by decide) N HN.out z Hz.out 8300 (by decide) (by decide)).mono ?_
            rintro ee w3 ⟨A8, n8, c8, B8, m8, d8, rfl, h7, h8, bn⟩
            have H7 := Lib.hid h7
            have H8 := Lib.hid h8
            replace HZ := Lib.hid (HZ.out.below bn)
            replace HW := Lib.hid (below_two HW.out bn)
            clear bn h7 h8
            go_wp2_with fail
            refine (refLimit_c H7.out H8.out).mono ?_
            rintro ee w4 ⟨A9, n9, c9, B9, m9, d9, rfl, h9, bn⟩
            have hZ3 := HZ.out.below bn
            have hNo := hZ3.noLimb (by intro v e; cases e) (by intro v e; cases e) (by intro v e; cases e) (by intro v e; cases e)
            have e0 := hZ3.c0
            have e1 := hZ3.c1
            have e2 := hZ3.c2
            have e3 := hZ3.c3
            have f0 := hZ3.free 0
            have f1 := hZ3.free 1
            have f2 := hZ3.free 2
            have f3 := hZ3.free 3
            have HF := Lib.hid (hZ3.fill (.bool (sg (oTop (limQ z)))) (.slice A9 n9 c9) (.slice B9 m9 d9) (.int .i64 (limE z)))
            have HP := Lib.hid (QQ.fillR4 h9 hNo (.bool (sg (oTop (limQ z)))) (.slice A9 n9 c9) (.slice B9 m9 d9) (.int .i64 (limE z)))
            have HB := Lib.hid (below_fill4 (below_two HW.out bn) Hq.out (.bool (sg (oTop (limQ z)))) (.slice A9 n9 c9) (.slice B9 m9 d9) (.int .i64 (limE z)))
            clear hNo bn h9 hZ3
            go_wp2
            refine bodyPost_ret (results_cell_row rfl _ _ _ 35 #[.bool (sg (oTop (limQ z))), .slice A9 n9 c9, .slice B9 m9 d9, .int .i64 (limE z)] (0, 0) _ rfl HF.out Try.underlying35 rfl got7_size) rfl ?_
            exact ⟨A9, n9, c9, B9, m9, d9, rfl, HP.out, HB.out⟩
          · have k7 : v ≤ 0 := by omega
            have k8 : v < 0 := by omega
            by_cases hq0 : q.num = 0
            · rw [pow_none ⟨by omega, by omega⟩ hq0] at hR
              cases hR
              have n0 : ((n : Int) == 0) = true := by
                rw [beq_iff_eq]
                have hl := HX0.out.nn.isN.len
                rw [hq0] at hl
                have hl2 : (limbs (0 : Int).natAbs).length = 0 := by rw [show (0 : Int).natAbs = 0 from rfl, limbs_zero]; rfl
                omega
              have k5 : v ≤ 128 := by omega
              have k6 : -128 ≤ v := by omega
              have kz : ((v : Int) == 0) = false := by rw [beq_eq_false_iff_ne]; omega
              clear hq0
              have b0 := below_new w (.cells #[Value.bool (sg q.num), Value.slice A n c, Value.slice B m d] 27)
              have b2 := below_new (w.alloc (.cells #[Value.bool (sg q.num), Value.slice A n c, Value.slice B m d] 27)) (.cells #[Value.bool false, Value.slice none 0 0, Value.slice none 0 0, Value.int IntKind.i64 0] 35)
              have HW := Lib.hid (below_two b0 b2)
              have HQ0 := Lib.hid (hx.below HW.out)
              have r0 := ((row3_new w 27 (.bool (sg q.num)) (.slice A n c) (.slice B m d))).below b2
              have rz := row4_new (w.alloc (.cells #[Value.bool (sg q.num), Value.slice A n c, Value.slice B m d] 27)) 35 (.bool false) (.slice none 0 0) (.slice none 0 0) (.int .i64 0)
              simp only [World.size_alloc] at rz
              clear b0 b2 hx
              go_enter Try.func13, Try.ntmps13
              go_wp2_with fail
              generalize (w.alloc (.cells #[Value.bool (sg q.num), Value.slice A n c, Value.slice B m d] 27)).alloc (.cells #[Value.bool false, Value.slice none 0 0, Value.slice none 0 0, Value.int IntKind.i64 0] 35) = w1 at *
              have HR0 := Lib.hid r0
              have HZ := Lib.hid rz
              have Hq : RowKit.Hid (w.heap.size ≤ w.heap.size + 1) := by show _ ≤ _; omega
              clear r0 rz
              refine (refGood_c HQ0.out (by omega) true rfl).mono ?_
              rintro e wS ⟨rfl, bn⟩
              replace HQ0 := Lib.hid (HQ0.out.below bn)
              replace HR0 := Lib.hid (HR0.out.below bn)
              replace HZ := Lib.hid (HZ.out.below bn)
              replace HW := Lib.hid (below_two HW.out bn)
              clear bn
              have c00 := HR0.out.c0
              have c01 := HR0.out.c1
              have c02 := HR0.out.c2
              have e0 := HZ.out.c0
              have e1 := HZ.out.c1
              have e2 := HZ.out.c2
              have e3 := HZ.out.c3
              have f0 := HZ.out.free 0
              have f1 := HZ.out.free 1
              have f2 := HZ.out.free 2
              have f3 := HZ.out.free 3
              have HF := Lib.hid (HZ.out.fill (.bool false) (.slice none 0 0) (.slice none 0 0) (.int .i64 3))
              have HB := Lib.hid (below_fill4 HW.out Hq.out (.bool false) (.slice none 0 0) (.slice none 0 0) (.int .i64 3))
              go_wp2
              refine bodyPost_ret (results_cell_row rfl _ _ _ 35 #[.bool false, .slice none 0 0, .slice none 0 0, .int .i64 3] (0, 0) _ rfl HF.out Try.underlying35 rfl got7_size) rfl ?_
              exact ⟨none, 0, 0, none, 0, 0, rfl, qt_none _ 0 0, HB.out⟩
            · have k5 : v ≤ 128 := by omega
              have k6 : -128 ≤ v := by omega
              rw [powR_lim k5 k6 k3 (.inr hq0)] at hR
              obtain ⟨N, hN⟩ : ∃ N : Nat, v = -(N : Int) := ⟨(-v).toNat, by omega⟩
              have e1 : IntKind.i64.wrap (-v) = (N : Int) := by rw [IntKind.wrap_i64]; omega
              have e1b : wrap64 (-v) = (N : Int) := by unfold wrap64; omega
              obtain ⟨y, hy0⟩ : ∃ y : Rat, q ^ N = y := ⟨_, rfl⟩
              have ey : q ^ v = y⁻¹ := by rw [hN, Rat.zpow_neg, Rat.zpow_natCast, hy0]
              rw [ey] at hR
              obtain ⟨z, hz⟩ : ∃ z : Rat, y⁻¹ = z := ⟨_, rfl⟩
              rw [hz] at hR
              have hL2 : (limQ z, limE z) = (r, e) := hR
              cases hL2
              clear hR
              have Hz := Lib.hid hz
              have Hy := Lib.hid hy0
              have Hy0 : RowKit.Hid (y.num ≠ 0) := by show _ ≠ _; rw [← hy0]; exact num_of_ne (npow_ne (num_ne hq0) N)
              have HN : RowKit.Hid (N ≤ 128) := by show _ ≤ _; omega
              have kz : ((v : Int) == 0) = false := by rw [beq_eq_false_iff_ne]; omega
              have n0 : ((n : Int) == 0) = false := by
                rw [beq_eq_false_iff_ne]
                intro h
                have hl := HX0.out.nn.isN.len
                have hl2 := len_limbs_zero.1 (hl.trans (by omega))
                omega
              clear hz hy0 hN ey hq0
              have b0 := below_new w (.cells #[Value.bool (sg q.num), Value.slice A n c, Value.slice B m d] 27)
              have b2 := below_new (w.alloc (.cells #[Value.bool (sg q.num), Value.slice A n c, Value.slice B m d] 27)) (.cells #[Value.bool false, Value.slice none 0 0, Value.slice none 0 0, Value.int IntKind.i64 0] 35)
              have HW := Lib.hid (below_two b0 b2)
              have HQ0 := Lib.hid (hx.below HW.out)
              have r0 := ((row3_new w 27 (.bool (sg q.num)) (.slice A n c) (.slice B m d))).below b2
              have rz := row4_new (w.alloc (.cells #[Value.bool (sg q.num), Value.slice A n c, Value.slice B m d] 27)) 35 (.bool false) (.slice none 0 0) (.slice none 0 0) (.int .i64 0)
              simp only [World.size_alloc] at rz
              clear b0 b2 hx
              go_enter Try.func13, Try.ntmps13
              go_wp2_with fail
              generalize (w.alloc (.cells #[Value.bool (sg q.num), Value.slice A n c, Value.slice B m d] 27)).alloc (.cells #[Value.bool false, Value.slice none 0 0, Value.slice none 0 0, Value.int IntKind.i64 0] 35) = w1 at *
              have HR0 := Lib.hid r0
              have HZ := Lib.hid rz
              have Hq : RowKit.Hid (w.heap.size ≤ w.heap.size + 1) := by show _ ≤ _; omega
              clear r0 rz
              refine (refGood_c HQ0.out (by omega) true rfl).mono ?_
              rintro e wS ⟨rfl, bn⟩
              replace HQ0 := Lib.hid (HQ0.out.below bn)
              replace HR0 := Lib.hid (HR0.out.below bn)
              replace HZ := Lib.hid (HZ.out.below bn)
              replace HW := Lib.hid (below_two HW.out bn)
              clear bn
              have HX := Lib.hid HQ0.out.some.2.2.2.2.1
              have HY := Lib.hid HQ0.out.some.2.2.2.2.2.1
              have c00 := HR0.out.c0
              have c01 := HR0.out.c1
              have c02 := HR0.out.c2
              go_wp2_with fail
              clear c00 c01 c02
              refine (refWideN_c HX.out HY.out (by decide) (by decide) N HN.out y Hy.out 8300 (by decide) (by decide)).mono ?_
              rintro ee w3 ⟨A7, n7, c7, B7, m7, d7, rfl, h7, h8, bn⟩
              have H7 := Lib.hid h7
              have H8 := Lib.hid h8
              replace HZ := Lib.hid (HZ.out.below bn)
              replace HW := Lib.hid (below_two HW.out bn)
              clear bn h7 h8
              go_wp2_with fail
              refine (refTurned_c H7.out H8.out Hy0.out z Hz.out (by decide) (by decide)).mono ?_
              rintro ee w5 ⟨A8, n8, c8, rfl, h7, h8, bn⟩
              replace H7 := Lib.hid h7
              replace H8 := Lib.hid h8
              replace HZ := Lib.hid (HZ.out.below bn)
              replace HW := Lib.hid (below_two HW.out bn)
              clear bn h7 h8
              go_wp2_with fail
              refine (refLimit_c H7.out H8.out).mono ?_
              rintro ee w4 ⟨A9, n9, c9, B9, m9, d9, rfl, h9, bn⟩
              have hZ3 := HZ.out.below bn
              have hNo := hZ3.noLimb (by intro v e; cases e) (by intro v e; cases e) (by intro v e; cases e) (by intro v e; cases e)
              have e0 := hZ3.c0
              have e1 := hZ3.c1
              have e2 := hZ3.c2
              have e3 := hZ3.c3
              have f0 := hZ3.free 0
              have f1 := hZ3.free 1
              have f2 := hZ3.free 2
              have f3 := hZ3.free 3
              have HF := Lib.hid (hZ3.fill (.bool (sg (oTop (limQ z)))) (.slice A9 n9 c9) (.slice B9 m9 d9) (.int .i64 (limE z)))
              have HP := Lib.hid (QQ.fillR4 h9 hNo (.bool (sg (oTop (limQ z)))) (.slice A9 n9 c9) (.slice B9 m9 d9) (.int .i64 (limE z)))
              have HB := Lib.hid (below_fill4 (below_two HW.out bn) Hq.out (.bool (sg (oTop (limQ z)))) (.slice A9 n9 c9) (.slice B9 m9 d9) (.int .i64 (limE z)))
              clear hNo bn h9 hZ3
              go_wp2
              refine bodyPost_ret (results_cell_row rfl _ _ _ 35 #[.bool (sg (oTop (limQ z))), .slice A9 n9 c9, .slice B9 m9 d9, .int .i64 (limE z)] (0, 0) _ rfl HF.out Try.underlying35 rfl got7_size) rfl ?_
              exact ⟨A9, n9, c9, B9, m9, d9, rfl, HP.out, HB.out⟩

end
end Go.Proofs.Ytmifgblbicnimaa

/- What the reference's Of of layer 7 answers, as a contract over memory. Conditions: sizes of at most so many limbs. -/
namespace Go.Proofs.Ytmifgblbicnimaa
open Go.RowKit Limb
set_option linter.unusedVariables false
section
variable {w : World} {s s' : Bool} {A B A' B' : Option Addr} {n c m d n' c' m' d' : Nat} {xs ys xs' ys' : List Nat} {x y : Int} {a b L L' : Nat}
set_option maxHeartbeats 4000000 in
set_option maxRecDepth 100000 in
theorem refQOf_c (hx : ZZ w s A n c xs x L) (hy : NN w B m d ys b L') (h1 : L ≤ 10000) (h2 : L' ≤ 10000) (r : Option Rat) (e : Int) (hR : ofR x b = (r, e)) :
    Calls Try.prog 30 #[.agg #[.bool s, .slice A n c], .slice B m d] w fun ee w' => ∃ A2 n2 c2 B2 m2 d2, ee = .returned (.agg #[.bool (sg (oTop r)), .slice A2 n2 c2, .slice B2 m2 d2, .int .i64 e]) ∧ QT w' A2 n2 c2 B2 m2 d2 r ∧ Below w.heap.size w w' := by
  have b0 := below_new w (.cells #[Value.bool s, Value.slice A n c] 25)
  have b1 := below_new (w.alloc (.cells #[Value.bool s, Value.slice A n c] 25)) (.cells #[Value.bool false, Value.slice none 0 0, Value.slice none 0 0, Value.int IntKind.i64 0] 35)
  have HW := Lib.hid (below_two b0 b1)
  have HX := Lib.hid (hx.below HW.out)
  have HY := Lib.hid (hy.below HW.out)
  have r0 := (row2_new w 25 (.bool s) (.slice A n c)).below b1
  have rz := row4_new (w.alloc (.cells #[Value.bool s, Value.slice A n c] 25)) 35 (.bool false) (.slice none 0 0) (.slice none 0 0) (.int .i64 0)
  simp only [World.size_alloc] at rz
  have Hq : RowKit.Hid (w.heap.size ≤ w.heap.size + 1) := Nat.le_succ _
  clear b0 b1 hx hy
  by_cases hb : b = 0
  · obtain ⟨rfl, rfl⟩ := ofR_zero hb hR
    clear hR
    have HB0 : RowKit.Hid (((blen b : Nat) : Int) = 0) := by show _ = _; rw [hb]; rfl
    clear hb
    go_enter Try.func30, Try.ntmps30
    go_wp2_with fail
    generalize (w.alloc (.cells #[Value.bool s, Value.slice A n c] 25)).alloc (.cells #[Value.bool false, Value.slice none 0 0, Value.slice none 0 0, Value.int IntKind.i64 0] 35) = w1 at *
    have HR0 := Lib.hid r0
    have HZ := Lib.hid rz
    clear r0 rz
    refine (refBits_c HY.out (by omega) 0 HB0.out).mono ?_
    rintro e w2 ⟨rfl, rfl⟩
    have e0 := HZ.out.c0
    have e1 := HZ.out.c1
    have e2 := HZ.out.c2
    have e3 := HZ.out.c3
    have f0 := HZ.out.free 0
    have f1 := HZ.out.free 1
    have f2 := HZ.out.free 2
    have f3 := HZ.out.free 3
    have HF := Lib.hid (HZ.out.fill (.bool false) (.slice none 0 0) (.slice none 0 0) (.int .i64 3))
    have HB := Lib.hid (below_fill4 HW.out Hq.out (.bool false) (.slice none 0 0) (.slice none 0 0) (.int .i64 3))
    go_wp2
    refine bodyPost_ret (results_cell_row rfl _ _ _ 35 #[.bool false, .slice none 0 0, .slice none 0 0, .int .i64 3] (0, 0) _ rfl HF.out Try.underlying35 rfl got7_size) rfl ?_
    exact ⟨none, 0, 0, none, 0, 0, rfl, qt_none _ 0 0, HB.out⟩
  · have hL := ofR_yes hb hR
    clear hR
    obtain ⟨z, hz⟩ : ∃ z, mkRat x b = z := ⟨_, rfl⟩
    rw [hz] at hL
    have hL2 : (limQ z, limE z) = (r, e) := hL
    cases hL2
    clear hL
    have HM := Lib.hid hz
    have HB := Lib.hid hb
    obtain ⟨u, hu⟩ : ∃ u : Int, ((blen b : Nat) : Int) = u := ⟨_, rfl⟩
    have hu0 : (u == 0) = false := by
      rw [beq_eq_false_iff_ne, ← hu]
      have := mt blen_eq_zero.1 hb
      omega
    have HB0 := Lib.hid hu
    clear hz hb hu
    go_enter Try.func30, Try.ntmps30
    go_wp2_with fail
    generalize (w.alloc (.cells #[Value.bool s, Value.slice A n c] 25)).alloc (.cells #[Value.bool false, Value.slice none 0 0, Value.slice none 0 0, Value.int IntKind.i64 0] 35) = w1 at *
    have HR0 := Lib.hid r0
    have HZ := Lib.hid rz
    clear r0 rz
    refine (refBits_c HY.out (by omega) u HB0.out).mono ?_
    rintro e w2 ⟨rfl, rfl⟩
    have c00 := HR0.out.c0
    have c01 := HR0.out.c1
    go_wp2_with fail
    clear c00 c01
    refine (refWide_c HX.out HY.out (by omega) (by omega) HB.out z HM.out).mono ?_
    rintro ee w3 ⟨A8, n8, c8, B8, m8, d8, rfl, h7, h8, bn⟩
    have H7 := Lib.hid h7
    have H8 := Lib.hid h8
    replace HZ := Lib.hid (HZ.out.below bn)
    replace HW := Lib.hid (below_two HW.out bn)
    clear bn h7 h8
    go_wp2_with fail
    refine (refLimit_c H7.out H8.out).mono ?_
    rintro ee w4 ⟨A9, n9, c9, B9, m9, d9, rfl, h9, bn⟩
    have hZ3 := HZ.out.below bn
    have hNo := hZ3.noLimb (by intro v e; cases e) (by intro v e; cases e) (by intro v e; cases e) (by intro v e; cases e)
    have e0 := hZ3.c0
    have e1 := hZ3.c1
    have e2 := hZ3.c2
    have e3 := hZ3.c3
    have f0 := hZ3.free 0
    have f1 := hZ3.free 1
    have f2 := hZ3.free 2
    have f3 := hZ3.free 3
    have HF := Lib.hid (hZ3.fill (.bool (sg (oTop (limQ z)))) (.slice A9 n9 c9) (.slice B9 m9 d9) (.int .i64 (limE z)))
    have HP := Lib.hid (QQ.fillR4 h9 hNo (.bool (sg (oTop (limQ z)))) (.slice A9 n9 c9) (.slice B9 m9 d9) (.int .i64 (limE z)))
    have HB := Lib.hid (below_fill4 (below_two HW.out bn) Hq.out (.bool (sg (oTop (limQ z)))) (.slice A9 n9 c9) (.slice B9 m9 d9) (.int .i64 (limE z)))
    clear hNo bn h9 hZ3
    go_wp2
    refine bodyPost_ret (results_cell_row rfl _ _ _ 35 #[.bool (sg (oTop (limQ z))), .slice A9 n9 c9, .slice B9 m9 d9, .int .i64 (limE z)] (0, 0) _ rfl HF.out Try.underlying35 rfl got7_size) rfl ?_
    exact ⟨A9, n9, c9, B9, m9, d9, rfl, HP.out, HB.out⟩

end
end Go.Proofs.Ytmifgblbicnimaa

/- What the reference of layer 8 answers (Scale), as a contract over memory. Conditions: sizes of at most so many limbs. -/
namespace Go.Proofs.Ytmifgblbicnimaa
open Go.RowKit Limb
set_option linter.unusedVariables false
theorem refTenT_c (N T : Nat) (hT : 10 ^ N = T) (w : World) (h1 : N ≤ 10000) (K : Nat) (hK : T < 4294967296 ^ K) :
    Calls Try.prog 33 #[.int .i64 (N : Int)] w fun e w' => ∃ A1 n1 c1, e = .returned (.slice A1 n1 c1) ∧ NN w' A1 n1 c1 (limbs T) T K ∧ Below w.heap.size w w' := by
  subst hT; exact refTen_c N w h1 K hK

section
variable {w : World} {s s' : Bool} {A B A' B' : Option Addr} {n c m d n' c' m' d' : Nat} {xs ys xs' ys' : List Nat} {x y : Int} {o : Option Rat} {a b L L' : Nat}
set_option maxHeartbeats 4000000 in
set_option maxRecDepth 100000 in
theorem refPScale_c (hx : QQ w s A n c xs B m d ys o L) (h1 : L ≤ 1000) (v : Int) (r : Option Rat) (e : Int) (hR : scaleR o v = (r, e)) :
    Calls Try.prog 14 #[.agg #[.bool s, .slice A n c, .slice B m d], .int .i64 v] w fun ee w' => ∃ A2 n2 c2 B2 m2 d2, ee = .returned (.agg #[.bool (sg (oTop r)), .slice A2 n2 c2, .slice B2 m2 d2, .int .i64 e]) ∧ QT w' A2 n2 c2 B2 m2 d2 r ∧ Below w.heap.size w w' := by
  cases o with
  | none =>
    have hR2 : ((none : Option Rat), (1 : Int)) = (r, e) := hR
    cases hR2
    clear hR
    have b0 := below_new w (.cells #[Value.bool s, Value.slice A n c, Value.slice B m d] 27)
    have b2 := below_new (w.alloc (.cells #[Value.bool s, Value.slice A n c, Value.slice B m d] 27)) (.cells #[Value.bool false, Value.slice none 0 0, Value.slice none 0 0, Value.int IntKind.i64 0] 35)
    have HW := Lib.hid (below_two b0 b2)
    have HQ0 := Lib.hid (hx.below HW.out)
    have r0 := ((row3_new w 27 (.bool s) (.slice A n c) (.slice B m d))).below b2
    have rz := row4_new (w.alloc (.cells #[Value.bool s, Value.slice A n c, Value.slice B m d] 27)) 35 (.bool false) (.slice none 0 0) (.slice none 0 0) (.int .i64 0)
    simp only [World.size_alloc] at rz
    clear b0 b2 hx
    go_enter Try.func14, Try.ntmps14
    go_wp2_with fail
    generalize (w.alloc (.cells #[Value.bool s, Value.slice A n c, Value.slice B m d] 27)).alloc (.cells #[Value.bool false, Value.slice none 0 0, Value.slice none 0 0, Value.int IntKind.i64 0] 35) = w1 at *
    have HR0 := Lib.hid r0
    have HZ := Lib.hid rz
    have Hq : RowKit.Hid (w.heap.size ≤ w.heap.size + 1) := by show _ ≤ _; omega
    clear r0 rz
    refine (refGood_c HQ0.out (by omega) false rfl).mono ?_
    rintro e wS ⟨rfl, bn⟩
    replace HQ0 := Lib.hid (HQ0.out.below bn)
    replace HR0 := Lib.hid (HR0.out.below bn)
    replace HZ := Lib.hid (HZ.out.below bn)
    replace HW := Lib.hid (below_two HW.out bn)
    clear bn
    have e0 := HZ.out.c0
    have e1 := HZ.out.c1
    have e2 := HZ.out.c2
    have e3 := HZ.out.c3
    have f0 := HZ.out.free 0
    have f1 := HZ.out.free 1
    have f2 := HZ.out.free 2
    have f3 := HZ.out.free 3
    have HF := Lib.hid (HZ.out.fill (.bool false) (.slice none 0 0) (.slice none 0 0) (.int .i64 1))
    have HB := Lib.hid (below_fill4 HW.out Hq.out (.bool false) (.slice none 0 0) (.slice none 0 0) (.int .i64 1))
    go_wp2
    refine bodyPost_ret (results_cell_row rfl _ _ _ 35 #[.bool false, .slice none 0 0, .slice none 0 0, .int .i64 1] (0, 0) _ rfl HF.out Try.underlying35 rfl got7_size) rfl ?_
    exact ⟨none, 0, 0, none, 0, 0, rfl, qt_none _ 0 0, HB.out⟩
  | some q =>
    obtain ⟨t1, t2, t3, t4, t5, t6, t7⟩ := hx.some
    subst t1
    subst t2
    subst t3
    have HX0 := Lib.hid t5
    have HY0 := Lib.hid t6
    clear t4 t5 t6 t7
    by_cases k1 : 600 < v
    · rw [scaleR_big (.inl k1)] at hR
      cases hR
      have b0 := below_new w (.cells #[Value.bool (sg q.num), Value.slice A n c, Value.slice B m d] 27)
      have b2 := below_new (w.alloc (.cells #[Value.bool (sg q.num), Value.slice A n c, Value.slice B m d] 27)) (.cells #[Value.bool false, Value.slice none 0 0, Value.slice none 0 0, Value.int IntKind.i64 0] 35)
      have HW := Lib.hid (below_two b0 b2)
      have HQ0 := Lib.hid (hx.below HW.out)
      have r0 := ((row3_new w 27 (.bool (sg q.num)) (.slice A n c) (.slice B m d))).below b2
      have rz := row4_new (w.alloc (.cells #[Value.bool (sg q.num), Value.slice A n c, Value.slice B m d] 27)) 35 (.bool false) (.slice none 0 0) (.slice none 0 0) (.int .i64 0)
      simp only [World.size_alloc] at rz
      clear b0 b2 hx
      go_enter Try.func14, Try.ntmps14
      go_wp2_with fail
      generalize (w.alloc (.cells #[Value.bool (sg q.num), Value.slice A n c, Value.slice B m d] 27)).alloc (.cells #[Value.bool false, Value.slice none 0 0, Value.slice none 0 0, Value.int IntKind.i64 0] 35) = w1 at *
      have HR0 := Lib.hid r0
      have HZ := Lib.hid rz
      have Hq : RowKit.Hid (w.heap.size ≤ w.heap.size + 1) := by show _ ≤ _; omega
      clear r0 rz
      refine (refGood_c HQ0.out (by omega) true rfl).mono ?_
      rintro e wS ⟨rfl, bn⟩
      replace HQ0 := Lib.hid (HQ0.out.below bn)
      replace HR0 := Lib.hid (HR0.out.below bn)
      replace HZ := Lib.hid (HZ.out.below bn)
      replace HW := Lib.hid (below_two HW.out bn)
      clear bn
      have e0 := HZ.out.c0
      have e1 := HZ.out.c1
      have e2 := HZ.out.c2
      have e3 := HZ.out.c3
      have f0 := HZ.out.free 0
      have f1 := HZ.out.free 1
      have f2 := HZ.out.free 2
      have f3 := HZ.out.free 3
      have HF := Lib.hid (HZ.out.fill (.bool false) (.slice none 0 0) (.slice none 0 0) (.int .i64 2))
      have HB := Lib.hid (below_fill4 HW.out Hq.out (.bool false) (.slice none 0 0) (.slice none 0 0) (.int .i64 2))
      go_wp2
      refine bodyPost_ret (results_cell_row rfl _ _ _ 35 #[.bool false, .slice none 0 0, .slice none 0 0, .int .i64 2] (0, 0) _ rfl HF.out Try.underlying35 rfl got7_size) rfl ?_
      exact ⟨none, 0, 0, none, 0, 0, rfl, qt_none _ 0 0, HB.out⟩
    · by_cases k2 : v < -600
      · rw [scaleR_big (.inr k2)] at hR
        cases hR
        have k3 : v ≤ 600 := by omega
        have b0 := below_new w (.cells #[Value.bool (sg q.num), Value.slice A n c, Value.slice B m d] 27)
        have b2 := below_new (w.alloc (.cells #[Value.bool (sg q.num), Value.slice A n c, Value.slice B m d] 27)) (.cells #[Value.bool false, Value.slice none 0 0, Value.slice none 0 0, Value.int IntKind.i64 0] 35)
        have HW := Lib.hid (below_two b0 b2)
        have HQ0 := Lib.hid (hx.below HW.out)
        have r0 := ((row3_new w 27 (.bool (sg q.num)) (.slice A n c) (.slice B m d))).below b2
        have rz := row4_new (w.alloc (.cells #[Value.bool (sg q.num), Value.slice A n c, Value.slice B m d] 27)) 35 (.bool false) (.slice none 0 0) (.slice none 0 0) (.int .i64 0)
        simp only [World.size_alloc] at rz
        clear b0 b2 hx
        go_enter Try.func14, Try.ntmps14
        go_wp2_with fail
        generalize (w.alloc (.cells #[Value.bool (sg q.num), Value.slice A n c, Value.slice B m d] 27)).alloc (.cells #[Value.bool false, Value.slice none 0 0, Value.slice none 0 0, Value.int IntKind.i64 0] 35) = w1 at *
        have HR0 := Lib.hid r0
        have HZ := Lib.hid rz
        have Hq : RowKit.Hid (w.heap.size ≤ w.heap.size + 1) := by show _ ≤ _; omega
        clear r0 rz
        refine (refGood_c HQ0.out (by omega) true rfl).mono ?_
        rintro e wS ⟨rfl, bn⟩
        replace HQ0 := Lib.hid (HQ0.out.below bn)
        replace HR0 := Lib.hid (HR0.out.below bn)
        replace HZ := Lib.hid (HZ.out.below bn)
        replace HW := Lib.hid (below_two HW.out bn)
        clear bn
        have e0 := HZ.out.c0
        have e1 := HZ.out.c1
        have e2 := HZ.out.c2
        have e3 := HZ.out.c3
        have f0 := HZ.out.free 0
        have f1 := HZ.out.free 1
        have f2 := HZ.out.free 2
        have f3 := HZ.out.free 3
        have HF := Lib.hid (HZ.out.fill (.bool false) (.slice none 0 0) (.slice none 0 0) (.int .i64 2))
        have HB := Lib.hid (below_fill4 HW.out Hq.out (.bool false) (.slice none 0 0) (.slice none 0 0) (.int .i64 2))
        go_wp2
        refine bodyPost_ret (results_cell_row rfl _ _ _ 35 #[.bool false, .slice none 0 0, .slice none 0 0, .int .i64 2] (0, 0) _ rfl HF.out Try.underlying35 rfl got7_size) rfl ?_
        exact ⟨none, 0, 0, none, 0, 0, rfl, qt_none _ 0 0, HB.out⟩
      · by_cases k4 : 0 ≤ v
        · have k5 : v ≤ 600 := by omega
          have k6 : -600 ≤ v := by omega
          rw [scaleR_lim k5 k6] at hR
          obtain ⟨N, hN⟩ : ∃ N : Nat, v = (N : Int) := ⟨v.toNat, by omega⟩
          subst hN
          rw [← scale_up] at hR
          have HN : RowKit.Hid (N ≤ 600) := by show _ ≤ _; omega
          obtain ⟨T, hT⟩ : ∃ T : Nat, 10 ^ N = T := ⟨_, rfl⟩
          rw [hT] at hR
          have HT := Lib.hid hT
          have HTl : RowKit.Hid (T < 4294967296 ^ 67) := by show _ < _; rw [← hT]; exact ten_fits HN.out
          clear hT
          have HO := Lib.hid hR
          clear hR
          have b0 := below_new w (.cells #[Value.bool (sg q.num), Value.slice A n c, Value.slice B m d] 27)
          have b2 := below_new (w.alloc (.cells #[Value.bool (sg q.num), Value.slice A n c, Value.slice B m d] 27)) (.cells #[Value.bool false, Value.slice none 0 0, Value.slice none 0 0, Value.int IntKind.i64 0] 35)
          have HW := Lib.hid (below_two b0 b2)
          have HQ0 := Lib.hid (hx.below HW.out)
          have r0 := ((row3_new w 27 (.bool (sg q.num)) (.slice A n c) (.slice B m d))).below b2
          have rz := row4_new (w.alloc (.cells #[Value.bool (sg q.num), Value.slice A n c, Value.slice B m d] 27)) 35 (.bool false) (.slice none 0 0) (.slice none 0 0) (.int .i64 0)
          simp only [World.size_alloc] at rz
          clear b0 b2 hx
          go_enter Try.func14, Try.ntmps14
          go_wp2_with fail
          generalize (w.alloc (.cells #[Value.bool (sg q.num), Value.slice A n c, Value.slice B m d] 27)).alloc (.cells #[Value.bool false, Value.slice none 0 0, Value.slice none 0 0, Value.int IntKind.i64 0] 35) = w1 at *
          have HR0 := Lib.hid r0
          have HZ := Lib.hid rz
          have Hq : RowKit.Hid (w.heap.size ≤ w.heap.size + 1) := by show _ ≤ _; omega
          clear r0 rz
          refine (refGood_c HQ0.out (by omega) true rfl).mono ?_
          rintro e wS ⟨rfl, bn⟩
          replace HQ0 := Lib.hid (HQ0.out.below bn)
          replace HR0 := Lib.hid (HR0.out.below bn)
          replace HZ := Lib.hid (HZ.out.below bn)
          replace HW := Lib.hid (below_two HW.out bn)
          clear bn
          have HX := Lib.hid HQ0.out.some.2.2.2.2.1
          have HY := Lib.hid HQ0.out.some.2.2.2.2.2.1
          go_wp2
          refine region_free 9 1 [21, 22, 23, 24, 25, 26, 27, 28, 29] ?aF18 (fun wx => Below wS.heap.size wS wx) (fun k vv wx => match k with
              | 0 => vv = .pointer (some ⟨w.heap.size, 0, none⟩)
              | 1 => vv = .agg #[.bool (sg q.num), .slice A n c]
              | 2 => vv = .int .i64 (N : Int)
              | 3 => ∃ (e0 : Option Addr) (e1 : Nat) (e2 : Nat), vv = .slice e0 e1 e2 ∧ NN wx e0 e1 e2 (limbs T) T 67
              | 4 => ∃ (e0 : Option Addr) (e1 : Nat) (e2 : Nat), vv = .agg #[.bool (sg (T : Int)), .slice e0 e1 e2] ∧ ZZ wx (sg (T : Int)) e0 e1 e2 (limbs (T : Int).natAbs) (T : Int) 67
              | 5 => ∃ (e0 : Option Addr) (e1 : Nat) (e2 : Nat), vv = .agg #[.bool (sg (q.num * (T : Int))), .slice e0 e1 e2] ∧ ZZ wx (sg (q.num * (T : Int))) e0 e1 e2 (limbs (q.num * (T : Int)).natAbs) (q.num * (T : Int)) (64 + 67)
              | 6 => vv = .pointer (some ⟨w.heap.size, 2, none⟩)
              | 7 => vv = .slice B m d
              | _ => ∃ (e0 : Option Addr) (e1 : Nat) (e2 : Nat) (e3 : Option Addr) (e4 : Nat) (e5 : Nat), vv = .agg #[.bool (sg (oTop r)), .slice e0 e1 e2, .slice e3 e4 e5, .int .i64 e] ∧ QT wx e0 e1 e2 e3 e4 e5 r)
            (fun k => false) (by kernel_rfl) ?haF18 rfl (by kernel_rfl) (by kernel_rfl) (fun _ _ _ _ _ h => h) ?hSb18 ?hPb18 ?hS18 ?hop18 ?hfin18
          case haF18 =>
            intro vals
            simp only [fillAll, List.getElem?_cons_zero, List.getElem?_cons_succ, Act.put, List.setIfInBounds_toArray, List.set_cons_zero, List.set_cons_succ]
            exact rfl
          case hSb18 => exact fun wx w2 hb hS => below_two hS hb
          case hPb18 =>
            intro k v wa wb hb h
            match k, h with
            | 0, h => exact h
            | 1, h => exact h
            | 2, h => exact h
            | 3, ⟨e0, e1, e2, h1, g0⟩ => exact ⟨e0, e1, e2, h1, g0.below hb⟩
            | 4, ⟨e0, e1, e2, h1, g0⟩ => exact ⟨e0, e1, e2, h1, g0.below hb⟩
            | 5, ⟨e0, e1, e2, h1, g0⟩ => exact ⟨e0, e1, e2, h1, g0.below hb⟩
            | 6, h => exact h
            | 7, h => exact h
            | _ + 8, ⟨e0, e1, e2, e3, e4, e5, h1, g0⟩ => exact ⟨e0, e1, e2, e3, e4, e5, h1, g0.below hb⟩
          case hS18 => exact (Below.refl _ _).drew
          case hop18 =>
            refine .cons (k := 0) ?_ (.cons (k := 1) ?_ (.cons (k := 2) ?_ (.cons (k := 3) ?_ (.cons (k := 4) ?_ (.cons (k := 5) ?_ (.cons (k := 6) ?_ (.cons (k := 7) ?_ (.cons (k := 8) ?_ (.nil)))))))))
            all_goals intro vals wr hS hd KC hK
            all_goals (show Oper.wp _ _ _ _ _ _; dsimp only)
            · go_simp
              refine hK _ _ rfl (Below.refl _ _) (by first | rfl | simp) (fun h => by cases h)
            · have d0 : vals 0 = _ := hd 0 (by decide +kernel)
              rw [d0]
              have z0 := (HR0.out.below hS).c0
              have z1 := (HR0.out.below hS).c1
              go_simp
              refine hK _ _ rfl (Below.refl _ _) (by first | rfl | simp) (fun h => by cases h)
            · go_simp
              refine hK _ _ rfl (Below.refl _ _) (by first | rfl | simp) (fun h => by cases h)
            · have d2 : vals 2 = _ := hd 2 (by decide +kernel)
              rw [d2]
              go_simp
              go_at_call 33
              with_reducible refine (refTenT_c N T HT.out _ (Nat.le_trans HN.out (by decide)) 67 HTl.out).mono ?_
              rintro e w2 ⟨r0, r1, r2, rfl, f0, bn_r⟩
              refine hK _ _ rfl bn_r ⟨_, _, _, rfl, f0⟩ (fun h => by cases h)
            · obtain ⟨A_3_0, n_3_1, n_3_2, d3, h_3_0⟩ := hd 3 (by decide +kernel)
              rw [d3]
              go_simp
              go_at_call 32
              with_reducible refine (refMake_c h_3_0 (by decide) (T : Int) rfl).mono ?_
              rintro e w2 ⟨r0, r1, r2, rfl, f0, bn_r⟩
              refine hK _ _ rfl bn_r ⟨_, _, _, rfl, f0⟩ (fun h => by cases h)
            · have d1 : vals 1 = _ := hd 1 (by decide +kernel)
              obtain ⟨A_4_0, n_4_1, n_4_2, d4, h_4_0⟩ := hd 4 (by decide +kernel)
              rw [d1, d4]
              go_simp
              go_at_call 31
              with_reducible refine (refIMul_c (HX.out.below hS) h_4_0 (by decide) (by decide) (q.num * (T : Int)) rfl).mono ?_
              rintro e w2 ⟨r0, r1, r2, rfl, f0, bn_r⟩
              refine hK _ _ rfl bn_r ⟨_, _, _, rfl, f0⟩ (fun h => by cases h)
            · go_simp
              refine hK _ _ rfl (Below.refl _ _) (by first | rfl | simp) (fun h => by cases h)
            · have d6 : vals 6 = _ := hd 6 (by decide +kernel)
              rw [d6]
              have z0 := (HR0.out.below hS).c2
              go_simp
              refine hK _ _ rfl (Below.refl _ _) (by first | rfl | simp) (fun h => by cases h)
            · obtain ⟨A_5_0, n_5_1, n_5_2, d5, h_5_0⟩ := hd 5 (by decide +kernel)
              have d7 : vals 7 = _ := hd 7 (by decide +kernel)
              rw [d5, d7]
              go_simp
              go_at_call 30
              with_reducible refine (refQOf_c h_5_0 (HY.out.below hS) (by decide) (by decide) r e HO.out).mono ?_
              rintro e w2 ⟨r0, r1, r2, r3, r4, r5, rfl, f0, bn_r⟩
              refine hK _ _ rfl bn_r ⟨_, _, _, _, _, _, rfl, f0⟩ (fun h => by cases h)
          case hfin18 =>
            intro vals wr hS hP hne
            obtain ⟨A_8_0, n_8_1, n_8_2, A_8_3, n_8_4, n_8_5, ez_8, h_8_0⟩ := hP 8 (by decide)
            have hZ3 := HZ.out.below hS
            have hNo := hZ3.noLimb (by intro v e; cases e) (by intro v e; cases e) (by intro v e; cases e) (by intro v e; cases e)
            have e0 := hZ3.c0
            have e1 := hZ3.c1
            have e2 := hZ3.c2
            have e3 := hZ3.c3
            have f0 := hZ3.free 0
            have f1 := hZ3.free 1
            have f2 := hZ3.free 2
            have f3 := hZ3.free 3
            have HF := Lib.hid (hZ3.fill (.bool (sg (oTop r))) (.slice A_8_0 n_8_1 n_8_2) (.slice A_8_3 n_8_4 n_8_5) (.int .i64 e))
            have HP := Lib.hid (QQ.fillR4 h_8_0 hNo (.bool (sg (oTop r))) (.slice A_8_0 n_8_1 n_8_2) (.slice A_8_3 n_8_4 n_8_5) (.int .i64 e))
            have HB := Lib.hid (below_fill4 (below_two HW.out hS) Hq.out (.bool (sg (oTop r))) (.slice A_8_0 n_8_1 n_8_2) (.slice A_8_3 n_8_4 n_8_5) (.int .i64 e))
            try dsimp only
            rw [ez_8]
            refine wpAny_ready (rs := [9]) (by kernel_rfl) (by simp) (AllReady.cons rfl (fun KC hK => ?_) AllReady.nil)
            go_simp
            refine hK _ _ ?_
            clear hK KC
            refine wpAny_done (by kernel_rfl) ?_ _
            go_wp2
            refine bodyPost_ret (results_cell_row rfl _ _ _ 35 #[.bool (sg (oTop r)), .slice A_8_0 n_8_1 n_8_2, .slice A_8_3 n_8_4 n_8_5, .int .i64 e] (0, 0) _ rfl HF.out Try.underlying35 rfl got7_size) rfl ?_
            exact ⟨A_8_0, n_8_1, n_8_2, A_8_3, n_8_4, n_8_5, rfl, HP.out, HB.out⟩
        · have k5 : v ≤ 600 := by omega
          have k6 : -600 ≤ v := by omega
          have k7 : v < 0 := by omega
          rw [scaleR_lim k5 k6] at hR
          obtain ⟨N, hN⟩ : ∃ N : Nat, v = -(N : Int) := ⟨(-v).toNat, by omega⟩
          have e1 : IntKind.i64.wrap (-v) = (N : Int) := by rw [IntKind.wrap_i64]; omega
          have e1b : wrap64 (-v) = (N : Int) := by unfold wrap64; omega
          have HN : RowKit.Hid (N ≤ 600) := by show _ ≤ _; omega
          rw [hN, ← scale_down] at hR
          obtain ⟨T, hT⟩ : ∃ T : Nat, 10 ^ N = T := ⟨_, rfl⟩
          rw [hT] at hR
          have HT := Lib.hid hT
          have HTl : RowKit.Hid (T < 4294967296 ^ 67) := by show _ < _; rw [← hT]; exact ten_fits HN.out
          clear hT
          have HO := Lib.hid hR
          clear hR hN
          have b0 := below_new w (.cells #[Value.bool (sg q.num), Value.slice A n c, Value.slice B m d] 27)
          have b2 := below_new (w.alloc (.cells #[Value.bool (sg q.num), Value.slice A n c, Value.slice B m d] 27)) (.cells #[Value.bool false, Value.slice none 0 0, Value.slice none 0 0, Value.int IntKind.i64 0] 35)
          have HW := Lib.hid (below_two b0 b2)
          have HQ0 := Lib.hid (hx.below HW.out)
          have r0 := ((row3_new w 27 (.bool (sg q.num)) (.slice A n c) (.slice B m d))).below b2
          have rz := row4_new (w.alloc (.cells #[Value.bool (sg q.num), Value.slice A n c, Value.slice B m d] 27)) 35 (.bool false) (.slice none 0 0) (.slice none 0 0) (.int .i64 0)
          simp only [World.size_alloc] at rz
          clear b0 b2 hx
          go_enter Try.func14, Try.ntmps14
          go_wp2_with fail
          generalize (w.alloc (.cells #[Value.bool (sg q.num), Value.slice A n c, Value.slice B m d] 27)).alloc (.cells #[Value.bool false, Value.slice none 0 0, Value.slice none 0 0, Value.int IntKind.i64 0] 35) = w1 at *
          have HR0 := Lib.hid r0
          have HZ := Lib.hid rz
          have Hq : RowKit.Hid (w.heap.size ≤ w.heap.size + 1) := by show _ ≤ _; omega
          clear r0 rz
          refine (refGood_c HQ0.out (by omega) true rfl).mono ?_
          rintro e wS ⟨rfl, bn⟩
          replace HQ0 := Lib.hid (HQ0.out.below bn)
          replace HR0 := Lib.hid (HR0.out.below bn)
          replace HZ := Lib.hid (HZ.out.below bn)
          replace HW := Lib.hid (below_two HW.out bn)
          clear bn
          have HX := Lib.hid HQ0.out.some.2.2.2.2.1
          have HY := Lib.hid HQ0.out.some.2.2.2.2.2.1
          go_wp2
          refine region_free 9 1 [30, 31, 32, 33, 34, 35, 36, 37, 38] ?aF19 (fun wx => Below wS.heap.size wS wx) (fun k vv wx => match k with
              | 0 => vv = .pointer (some ⟨w.heap.size, 0, none⟩)
              | 1 => vv = .agg #[.bool (sg q.num), .slice A n c]
              | 2 => vv = .pointer (some ⟨w.heap.size, 2, none⟩)
              | 3 => vv = .slice B m d
              | 4 => vv = .int .i64 v
              | 5 => vv = .int .i64 (N : Int)
              | 6 => ∃ (e0 : Option Addr) (e1 : Nat) (e2 : Nat), vv = .slice e0 e1 e2 ∧ NN wx e0 e1 e2 (limbs T) T 67
              | 7 => ∃ (e0 : Option Addr) (e1 : Nat) (e2 : Nat), vv = .slice e0 e1 e2 ∧ NN wx e0 e1 e2 (limbs (q.den * T)) (q.den * T) (64 + 67)
              | _ => ∃ (e0 : Option Addr) (e1 : Nat) (e2 : Nat) (e3 : Option Addr) (e4 : Nat) (e5 : Nat), vv = .agg #[.bool (sg (oTop r)), .slice e0 e1 e2, .slice e3 e4 e5, .int .i64 e] ∧ QT wx e0 e1 e2 e3 e4 e5 r)
            (fun k => false) (by kernel_rfl) ?haF19 rfl (by kernel_rfl) (by kernel_rfl) (fun _ _ _ _ _ h => h) ?hSb19 ?hPb19 ?hS19 ?hop19 ?hfin19
          case haF19 =>
            intro vals
            simp only [fillAll, List.getElem?_cons_zero, List.getElem?_cons_succ, Act.put, List.setIfInBounds_toArray, List.set_cons_zero, List.set_cons_succ]
            exact rfl
          case hSb19 => exact fun wx w2 hb hS => below_two hS hb
          case hPb19 =>
            intro k v wa wb hb h
            match k, h with
            | 0, h => exact h
            | 1, h => exact h
            | 2, h => exact h
            | 3, h => exact h
            | 4, h => exact h
            | 5, h => exact h
            | 6, ⟨e0, e1, e2, h1, g0⟩ => exact ⟨e0, e1, e2, h1, g0.below hb⟩
            | 7, ⟨e0, e1, e2, h1, g0⟩ => exact ⟨e0, e1, e2, h1, g0.below hb⟩
            | _ + 8, ⟨e0, e1, e2, e3, e4, e5, h1, g0⟩ => exact ⟨e0, e1, e2, e3, e4, e5, h1, g0.below hb⟩
          case hS19 => exact (Below.refl _ _).drew
          case hop19 =>
            refine .cons (k := 0) ?_ (.cons (k := 1) ?_ (.cons (k := 2) ?_ (.cons (k := 3) ?_ (.cons (k := 4) ?_ (.cons (k := 5) ?_ (.cons (k := 6) ?_ (.cons (k := 7) ?_ (.cons (k := 8) ?_ (.nil)))))))))
            all_goals intro vals wr hS hd KC hK
            all_goals (show Oper.wp _ _ _ _ _ _; dsimp only)
            · go_simp
              refine hK _ _ rfl (Below.refl _ _) (by first | rfl | simp) (fun h => by cases h)
            · have d0 : vals 0 = _ := hd 0 (by decide +kernel)
              rw [d0]
              have z0 := (HR0.out.below hS).c0
              have z1 := (HR0.out.below hS).c1
              go_simp
              refine hK _ _ rfl (Below.refl _ _) (by first | rfl | simp) (fun h => by cases h)
            · go_simp
              refine hK _ _ rfl (Below.refl _ _) (by first | rfl | simp) (fun h => by cases h)
            · have d2 : vals 2 = _ := hd 2 (by decide +kernel)
              rw [d2]
              have z0 := (HR0.out.below hS).c2
              go_simp
              refine hK _ _ rfl (Below.refl _ _) (by first | rfl | simp) (fun h => by cases h)
            · go_simp
              refine hK _ _ rfl (Below.refl _ _) (by first | rfl | simp) (fun h => by cases h)
            · have d4 : vals 4 = _ := hd 4 (by decide +kernel)
              rw [d4]
              go_simp
              refine hK _ _ rfl (Below.refl _ _) (by first | rfl | simp) (fun h => by cases h)
            · have d5 : vals 5 = _ := hd 5 (by decide +kernel)
              rw [d5]
              go_simp
              go_at_call 33
              with_reducible refine (refTenT_c N T HT.out _ (Nat.le_trans HN.out (by decide)) 67 HTl.out).mono ?_
              rintro e w2 ⟨r0, r1, r2, rfl, f0, bn_r⟩
              refine hK _ _ rfl bn_r ⟨_, _, _, rfl, f0⟩ (fun h => by cases h)
            · have d3 : vals 3 = _ := hd 3 (by decide +kernel)
              obtain ⟨A_6_0, n_6_1, n_6_2, d6, h_6_0⟩ := hd 6 (by decide +kernel)
              rw [d3, d6]
              go_simp
              go_at_call 34
              with_reducible refine (refMul_c (HY.out.below hS) h_6_0 (by decide) (by decide)).mono ?_
              rintro e w2 ⟨r0, r1, r2, rfl, f0, bn_r⟩
              refine hK _ _ rfl bn_r ⟨_, _, _, rfl, f0⟩ (fun h => by cases h)
            · have d1 : vals 1 = _ := hd 1 (by decide +kernel)
              obtain ⟨A_7_0, n_7_1, n_7_2, d7, h_7_0⟩ := hd 7 (by decide +kernel)
              rw [d1, d7]
              go_simp
              go_at_call 30
              with_reducible refine (refQOf_c (HX.out.below hS) h_7_0 (by decide) (by decide) r e HO.out).mono ?_
              rintro e w2 ⟨r0, r1, r2, r3, r4, r5, rfl, f0, bn_r⟩
              refine hK _ _ rfl bn_r ⟨_, _, _, _, _, _, rfl, f0⟩ (fun h => by cases h)
          case hfin19 =>
            intro vals wr hS hP hne
            obtain ⟨A_8_0, n_8_1, n_8_2, A_8_3, n_8_4, n_8_5, ez_8, h_8_0⟩ := hP 8 (by decide)
            have hZ3 := HZ.out.below hS
            have hNo := hZ3.noLimb (by intro v e; cases e) (by intro v e; cases e) (by intro v e; cases e) (by intro v e; cases e)
            have e0 := hZ3.c0
            have e1 := hZ3.c1
            have e2 := hZ3.c2
            have e3 := hZ3.c3
            have f0 := hZ3.free 0
            have f1 := hZ3.free 1
            have f2 := hZ3.free 2
            have f3 := hZ3.free 3
            have HF := Lib.hid (hZ3.fill (.bool (sg (oTop r))) (.slice A_8_0 n_8_1 n_8_2) (.slice A_8_3 n_8_4 n_8_5) (.int .i64 e))
            have HP := Lib.hid (QQ.fillR4 h_8_0 hNo (.bool (sg (oTop r))) (.slice A_8_0 n_8_1 n_8_2) (.slice A_8_3 n_8_4 n_8_5) (.int .i64 e))
            have HB := Lib.hid (below_fill4 (below_two HW.out hS) Hq.out (.bool (sg (oTop r))) (.slice A_8_0 n_8_1 n_8_2) (.slice A_8_3 n_8_4 n_8_5) (.int .i64 e))
            try dsimp only
            rw [ez_8]
            refine wpAny_ready (rs := [9]) (by kernel_rfl) (by simp) (AllReady.cons rfl (fun KC hK => ?_) AllReady.nil)
            go_simp
            refine hK _ _ ?_
            clear hK KC
            refine wpAny_done (by kernel_rfl) ?_ _
            go_wp2
            refine bodyPost_ret (results_cell_row rfl _ _ _ 35 #[.bool (sg (oTop r)), .slice A_8_0 n_8_1 n_8_2, .slice A_8_3 n_8_4 n_8_5, .int .i64 e] (0, 0) _ rfl HF.out Try.underlying35 rfl got7_size) rfl ?_
            exact ⟨A_8_0, n_8_1, n_8_2, A_8_3, n_8_4, n_8_5, rfl, HP.out, HB.out⟩

end
end Go.Proofs.Ytmifgblbicnimaa

/- Of any rational number, any exponent, any power of ten: what package power tells is what the document tells. No condition. -/
namespace Go.Proofs.Ytmifgblbicnimaa.lawPowerTells
open Go.ChangeShapes Go.WideShapes Go.ChangeAt Go.RowKit Limb
set_option linter.unusedVariables false

theorem qlong_c (s : Bool) (A B : Option Addr) (n c m d : Nat) (v : Bool) (hv : (decide (70 < n) || decide (70 < m)) = v) (w : World) :
    Calls Try.prog 8 #[.agg #[.bool s, .slice A n c, .slice B m d]] w fun e w' => e = .returned (.bool v) ∧ Below w.heap.size w w' := by
  have HW := Lib.hid (below_new w (.cells #[Value.bool s, Value.slice A n c, Value.slice B m d] 27))
  have Hv := Lib.hid hv
  clear hv
  by_cases h1 : 70 < n
  · have e1 : decide ((70 : Int) < (n : Int)) = true := by rw [decide_eq_true_eq]; omega
    have HV : RowKit.Hid (true = v) := by
      show _ = _
      rw [← Hv.out, decide_eq_true h1]; rfl
    clear h1 Hv
    go_enter Try.func8, Try.ntmps8
    go_wp2
    go_ret
    exact ⟨by rw [← HV.out]; rfl, HW.out⟩
  · have e1 : decide ((70 : Int) < (n : Int)) = false := by rw [decide_eq_false_iff_not]; omega
    have HV : RowKit.Hid (decide ((70 : Int) < (m : Int)) = v) := by
      show _ = _
      rw [← Hv.out, decide_eq_false h1, Bool.false_or, decide_eq_decide]; omega
    clear h1 Hv
    go_enter Try.func8, Try.ntmps8
    go_wp2
    go_ret
    exact ⟨by rw [← HV.out]; rfl, HW.out⟩

set_option maxHeartbeats 4000000 in
set_option maxRecDepth 100000 in
theorem walk (g_a : Bool) (A_a : Option Addr) (n_a c_a : Nat) (xs_a : List Nat) (B_a : Option Addr) (m_a d_a : Nat) (ys_a : List Nat) (v_n : Int) (v_m : Int) (w : World) (i_a : IsN w A_a n_a xs_a) (hc_a : n_a ≤ c_a) (hm_a : c_a ≤ maxLen) (j_a : IsN w B_a m_a ys_a) (kc_a : m_a ≤ d_a) (km_a : d_a ≤ maxLen) (f_n : (Lit.int .i64 v_n).wf = true) (f_m : (Lit.int .i64 v_m).wf = true) :
    Calls Try.prog 3 #[.agg #[.bool g_a, .slice A_a n_a c_a, .slice B_a m_a d_a], .int .i64 v_n, .int .i64 v_m] w fun e w' => e = .returned (.bool true) ∧ Below w.heap.size w w' := by
  clear f_n f_m
  by_cases l_a : n_a ≤ 70 ∧ m_a ≤ 70
  case neg =>
    have T_a : RowKit.Hid ((decide (70 < n_a) || decide (70 < m_a)) = true) := by show _ = _; simp; omega
    have bw := bel_refl w
    clear l_a
    have h_ra := row3_new w 27 (.bool g_a) (.slice A_a n_a c_a) (.slice B_a m_a d_a)
    have bn := below_new w (.cells #[Value.bool g_a, Value.slice A_a n_a c_a, Value.slice B_a m_a d_a] 27)
    replace bw := below_two bw bn
    clear bn
    go_enter Try.func3, Try.ntmps3
    go_wp2_with fail
    generalize w.alloc (.cells #[Value.bool g_a, Value.slice A_a n_a c_a, Value.slice B_a m_a d_a] 27) = wP at *
    obtain ⟨q_a, eg⟩ : ∃ g, g = w.heap.size := ⟨_, rfl⟩
    rw [← eg] at h_ra ⊢
    clear eg
    refine (qlong_c g_a A_a B_a n_a c_a m_a d_a true T_a.out _).mono ?_
    rintro e w1 ⟨rfl, bn⟩
    replace h_ra := h_ra.below bn
    replace bw := below_two bw bn
    clear bn
    go_wp2_with fail
    refine (wakes_any _).mono ?_
    rintro e w2 ⟨rfl, bn⟩
    replace h_ra := h_ra.below bn
    replace bw := below_two bw bn
    clear bn
    go_wp2
    go_ret
    exact ⟨rfl, bw⟩
  have T_a : RowKit.Hid ((decide (70 < n_a) || decide (70 < m_a)) = false) := by show _ = _; simp; omega
  have h_a := QQ.of (s := g_a) i_a hc_a j_a kc_a l_a.1 l_a.2
  generalize readQ g_a xs_a ys_a = o_a at h_a
  obtain ⟨r0, k0, H0⟩ : ∃ r e, powR o_a v_n = (r, e) := ⟨_, _, rfl⟩
  have H0 := Lib.hid H0
  obtain ⟨r1, k1, H1⟩ : ∃ r e, scaleR o_a v_m = (r, e) := ⟨_, _, rfl⟩
  have H1 := Lib.hid H1
  have bw := bel_refl w
  clear l_a i_a j_a
  by_cases q1 : 8 < n_a
  · have q2 : (8 : Int) < n_a := by omega
    clear q1
    by_cases e1 : 3 < v_n
    · by_cases e2 : v_n ≤ 128
      · skip
        have e3 : -128 ≤ v_n := by omega
        have h_ra := row3_new w 27 (.bool g_a) (.slice A_a n_a c_a) (.slice B_a m_a d_a)
        have bn := below_new w (.cells #[Value.bool g_a, Value.slice A_a n_a c_a, Value.slice B_a m_a d_a] 27)
        replace h_a := h_a.below bn
        replace bw := below_two bw bn
        clear bn
        go_enter Try.func3, Try.ntmps3
        go_wp2_with fail
        generalize w.alloc (.cells #[Value.bool g_a, Value.slice A_a n_a c_a, Value.slice B_a m_a d_a] 27) = wP at *
        obtain ⟨q_a, eg⟩ : ∃ g, g = w.heap.size := ⟨_, rfl⟩
        rw [← eg] at h_ra ⊢
        clear eg
        refine (qlong_c g_a A_a B_a n_a c_a m_a d_a false T_a.out _).mono ?_
        rintro e w3 ⟨rfl, bn⟩
        replace h_a := h_a.below bn
        replace h_ra := h_ra.below bn
        replace bw := below_two bw bn
        clear bn
        have c_a0 := h_ra.c0
        have c_a1 := h_ra.c1
        have c_a2 := h_ra.c2
        go_wp2_with fail
        clear c_a0 c_a1 c_a2
        refine (wakes_any _).mono ?_
        rintro e w4 ⟨rfl, bn⟩
        replace h_a := h_a.below bn
        replace h_ra := h_ra.below bn
        replace bw := below_two bw bn
        clear bn
        go_wp2
        go_ret
        exact ⟨rfl, bw⟩
      · skip
        have e3 : 128 < v_n := by omega
        clear e2
        have h_ra := row3_new w 27 (.bool g_a) (.slice A_a n_a c_a) (.slice B_a m_a d_a)
        have bn := below_new w (.cells #[Value.bool g_a, Value.slice A_a n_a c_a, Value.slice B_a m_a d_a] 27)
        replace h_a := h_a.below bn
        replace bw := below_two bw bn
        clear bn
        go_enter Try.func3, Try.ntmps3
        go_wp2_with fail
        generalize w.alloc (.cells #[Value.bool g_a, Value.slice A_a n_a c_a, Value.slice B_a m_a d_a] 27) = wP at *
        obtain ⟨q_a, eg⟩ : ∃ g, g = w.heap.size := ⟨_, rfl⟩
        rw [← eg] at h_ra ⊢
        clear eg
        refine (qlong_c g_a A_a B_a n_a c_a m_a d_a false T_a.out _).mono ?_
        rintro e w5 ⟨rfl, bn⟩
        replace h_a := h_a.below bn
        replace h_ra := h_ra.below bn
        replace bw := below_two bw bn
        clear bn
        have c_a0 := h_ra.c0
        have c_a1 := h_ra.c1
        have c_a2 := h_ra.c2
        go_wp2_with fail
        clear c_a0 c_a1 c_a2
        refine (ownRat_c h_a (by decide)).mono ?_
        rintro e w6 ⟨A_p, n_p, c_p, B_p, m_p, d_p, rfl, h_p, bn⟩
        replace h_a := h_a.below bn
        replace h_ra := h_ra.below bn
        replace bw := below_two bw bn
        clear bn
        have h_rp := row3_new w6 27 (.bool g_a) (.slice A_p n_p c_p) (.slice B_p m_p d_p)
        have bn := below_new w6 (.cells #[Value.bool g_a, Value.slice A_p n_p c_p, Value.slice B_p m_p d_p] 27)
        replace h_a := h_a.below bn
        replace h_ra := h_ra.below bn
        replace h_p := h_p.below bn
        replace bw := below_two bw bn
        clear bn
        have c_p0 := h_rp.c0
        have c_p1 := h_rp.c1
        have c_p2 := h_rp.c2
        go_wp2_with fail
        clear c_p0 c_p1 c_p2
        generalize w6.alloc (.cells #[Value.bool g_a, Value.slice A_p n_p c_p, Value.slice B_p m_p d_p] 27) = w7 at *
        obtain ⟨q_p, eg⟩ : ∃ g, g = w6.heap.size := ⟨_, rfl⟩
        rw [← eg] at h_rp ⊢
        clear eg
        refine (pOf_c h_p (by decide) v_n _ _ H0.out).mono ?_
        rintro e w8 ⟨A_x, n_x, c_x, B_x, m_x, d_x, rfl, h_x, bn⟩
        replace h_a := h_a.below bn
        replace h_ra := h_ra.below bn
        replace h_p := h_p.below bn
        replace h_rp := h_rp.below bn
        replace bw := below_two bw bn
        clear bn
        have h_rx := row3_new w8 27 (.bool (sg (oTop r0))) (.slice A_x n_x c_x) (.slice B_x m_x d_x)
        have bn := below_new w8 (.cells #[Value.bool (sg (oTop r0)), Value.slice A_x n_x c_x, Value.slice B_x m_x d_x] 27)
        replace h_a := h_a.below bn
        replace h_ra := h_ra.below bn
        replace h_p := h_p.below bn
        replace h_rp := h_rp.below bn
        replace h_x := h_x.below bn
        replace bw := below_two bw bn
        clear bn
        have c_p0 := h_rp.c0
        have c_p1 := h_rp.c1
        have c_p2 := h_rp.c2
        go_wp2_with fail
        clear c_p0 c_p1 c_p2
        generalize w8.alloc (.cells #[Value.bool (sg (oTop r0)), Value.slice A_x n_x c_x, Value.slice B_x m_x d_x] 27) = w9 at *
        obtain ⟨q_x, eg⟩ : ∃ g, g = w8.heap.size := ⟨_, rfl⟩
        rw [← eg] at h_rx ⊢
        clear eg
        refine (pScale_c h_p (by decide) v_m _ _ H1.out).mono ?_
        rintro e w10 ⟨A_y, n_y, c_y, B_y, m_y, d_y, rfl, h_y, bn⟩
        replace h_a := h_a.below bn
        replace h_ra := h_ra.below bn
        replace h_p := h_p.below bn
        replace h_rp := h_rp.below bn
        replace h_x := h_x.below bn
        replace h_rx := h_rx.below bn
        replace bw := below_two bw bn
        clear bn
        have h_ry := row3_new w10 27 (.bool (sg (oTop r1))) (.slice A_y n_y c_y) (.slice B_y m_y d_y)
        have bn := below_new w10 (.cells #[Value.bool (sg (oTop r1)), Value.slice A_y n_y c_y, Value.slice B_y m_y d_y] 27)
        replace h_a := h_a.below bn
        replace h_ra := h_ra.below bn
        replace h_p := h_p.below bn
        replace h_rp := h_rp.below bn
        replace h_x := h_x.below bn
        replace h_rx := h_rx.below bn
        replace h_y := h_y.below bn
        replace bw := below_two bw bn
        clear bn
        go_wp2
        generalize w10.alloc (.cells #[Value.bool (sg (oTop r1)), Value.slice A_y n_y c_y, Value.slice B_y m_y d_y] 27) = w11 at *
        obtain ⟨q_y, eg⟩ : ∃ g, g = w10.heap.size := ⟨_, rfl⟩
        rw [← eg] at h_ry ⊢
        clear eg
        generalize w11 = wS at *
        refine region_freed 8 2 6 [60, 61, 62, 63, 64, 65, 12, 13] ?aF30 (fun wx => Below wS.heap.size wS wx) (fun k vv wx => match k with
            | 0 => vv = .agg #[.bool g_a, .slice A_a n_a c_a, .slice B_a m_a d_a]
            | 1 => vv = .int .i64 v_n
            | 2 => ∃ (e0 : Option Addr) (e1 : Nat) (e2 : Nat) (e3 : Option Addr) (e4 : Nat) (e5 : Nat), vv = .agg #[.bool (sg (oTop r0)), .slice e0 e1 e2, .slice e3 e4 e5, .int .i64 k0] ∧ QT wx e0 e1 e2 e3 e4 e5 r0
            | 3 => vv = .agg #[.bool g_a, .slice A_a n_a c_a, .slice B_a m_a d_a]
            | 4 => vv = .int .i64 v_m
            | 5 => ∃ (e0 : Option Addr) (e1 : Nat) (e2 : Nat) (e3 : Option Addr) (e4 : Nat) (e5 : Nat), vv = .agg #[.bool (sg (oTop r1)), .slice e0 e1 e2, .slice e3 e4 e5, .int .i64 k1] ∧ QT wx e0 e1 e2 e3 e4 e5 r1
            | 6 => ∃ (e0 : Nat), vv = .pointer (some ⟨e0, 0, none⟩) ∧ Row4 wx e0 35 (.bool false) (.slice none 0 0) (.slice none 0 0) (.int .i64 0) ∧ Over wS e0 wx
            | _ => ∃ (e0 : Nat), vv = .pointer (some ⟨e0, 0, none⟩) ∧ Row4 wx e0 35 (.bool false) (.slice none 0 0) (.slice none 0 0) (.int .i64 0) ∧ Over wS e0 wx)
          (fun k => k == 6 || k == 7) (by kernel_rfl) ?haF30 rfl (by kernel_rfl) (by kernel_rfl) (fun _ _ _ _ _ h => h) ?hSb30 ?hPb30 ?hS30 ?hop30 ?hfin30
        case haF30 =>
          intro vals
          simp only [fillAll, List.getElem?_cons_zero, List.getElem?_cons_succ, Act.put, List.setIfInBounds_toArray, List.set_cons_zero, List.set_cons_succ]
          exact rfl
        case hSb30 => exact fun wx w2 hb hS => below_two hS hb
        case hPb30 =>
          intro k v wa wb hb h
          match k, h with
          | 0, h => exact h
          | 1, h => exact h
          | 2, ⟨e0, e1, e2, e3, e4, e5, h1, g0⟩ => exact ⟨e0, e1, e2, e3, e4, e5, h1, g0.below hb⟩
          | 3, h => exact h
          | 4, h => exact h
          | 5, ⟨e0, e1, e2, e3, e4, e5, h1, g0⟩ => exact ⟨e0, e1, e2, e3, e4, e5, h1, g0.below hb⟩
          | 6, ⟨e0, h1, g0, g1⟩ => exact ⟨e0, h1, g0.below hb, g1.below hb⟩
          | _ + 7, ⟨e0, h1, g0, g1⟩ => exact ⟨e0, h1, g0.below hb, g1.below hb⟩
        case hS30 => exact (Below.refl _ _).drew
        case hop30 =>
          refine .cons (k := 0) (.plain rfl ?_) (.cons (k := 1) (.plain rfl ?_) (.cons (k := 2) (.plain rfl ?_) (.cons (k := 3) (.plain rfl ?_) (.cons (k := 4) (.plain rfl ?_) (.cons (k := 5) (.plain rfl ?_) (.cons (k := 6) (.plain rfl ?_) (.cons (k := 7) (.plain rfl ?_) (.nil))))))))
          all_goals intro vals wr hS hd KC hK
          all_goals (show Oper.wp _ _ _ _ _ _; dsimp only)
          · have z0 := (h_ra.below hS).c0
            have z1 := (h_ra.below hS).c1
            have z2 := (h_ra.below hS).c2
            go_simp
            refine hK _ _ rfl (Below.refl _ _) (by first | rfl | simp) (fun h => by cases h)
          · go_simp
            refine hK _ _ rfl (Below.refl _ _) (by first | rfl | simp) (fun h => by cases h)
          · have d0 : vals 0 = _ := hd 0 (by decide +kernel)
            have d1 : vals 1 = _ := hd 1 (by decide +kernel)
            rw [d0, d1]
            go_simp
            go_at_call 13
            with_reducible refine (refPOf_c (h_a.below hS) (by decide) v_n _ _ H0.out).mono ?_
            rintro e w2 ⟨r0, r1, r2, r3, r4, r5, rfl, f0, bn_r⟩
            refine hK _ _ rfl bn_r ⟨_, _, _, _, _, _, rfl, f0⟩ (fun h => by cases h)
          · have z0 := (h_ra.below hS).c0
            have z1 := (h_ra.below hS).c1
            have z2 := (h_ra.below hS).c2
            go_simp
            refine hK _ _ rfl (Below.refl _ _) (by first | rfl | simp) (fun h => by cases h)
          · go_simp
            refine hK _ _ rfl (Below.refl _ _) (by first | rfl | simp) (fun h => by cases h)
          · have d3 : vals 3 = _ := hd 3 (by decide +kernel)
            have d4 : vals 4 = _ := hd 4 (by decide +kernel)
            rw [d3, d4]
            go_simp
            go_at_call 14
            with_reducible refine (refPScale_c (h_a.below hS) (by decide) v_m _ _ H1.out).mono ?_
            rintro e w2 ⟨r0, r1, r2, r3, r4, r5, rfl, f0, bn_r⟩
            refine hK _ _ rfl bn_r ⟨_, _, _, _, _, _, rfl, f0⟩ (fun h => by cases h)
          · go_simp
            refine hK _ _ rfl (below_new _ _) ⟨_, rfl, row4_new wr _ _ _ _ _ , hS.size⟩ (fun _ => ⟨_, rfl, Nat.le_refl _, by rw [World.size_alloc]; omega⟩)
          · go_simp
            refine hK _ _ rfl (below_new _ _) ⟨_, rfl, row4_new wr _ _ _ _ _ , hS.size⟩ (fun _ => ⟨_, rfl, Nat.le_refl _, by rw [World.size_alloc]; omega⟩)
        case hfin30 =>
          intro vals wr hS hP hne
          obtain ⟨A_2_0, n_2_1, n_2_2, A_2_3, n_2_4, n_2_5, ez_2, h_2_0⟩ := hP 2 (by decide)
          obtain ⟨A_5_0, n_5_1, n_5_2, A_5_3, n_5_4, n_5_5, ez_5, h_5_0⟩ := hP 5 (by decide)
          obtain ⟨n_6_0, ez_6, h_6_0, h_6_1⟩ := hP 6 (by decide)
          obtain ⟨n_7_0, ez_7, h_7_0, h_7_1⟩ := hP 7 (by decide)
          have ne_6_7 : n_6_0 ≠ n_7_0 := hne 6 7 (by decide) (by decide) (by decide) rfl rfl _ _ ez_6 ez_7
          have ne_7_6 : n_7_0 ≠ n_6_0 := hne 7 6 (by decide) (by decide) (by decide) rfl rfl _ _ ez_7 ez_6
          have v0_0 := Row4.c0 h_6_0
          have v0_1 := Row4.c1 h_6_0
          have v0_2 := Row4.c2 h_6_0
          have v0_3 := Row4.c3 h_6_0
          have y0_0 := Row4.free h_6_0 0
          have y0_1 := Row4.free h_6_0 1
          have y0_2 := Row4.free h_6_0 2
          have y0_3 := Row4.free h_6_0 3
          have v1_0 := Row4.c0 h_7_0
          have v1_1 := Row4.c1 h_7_0
          have v1_2 := Row4.c2 h_7_0
          have v1_3 := Row4.c3 h_7_0
          have y1_0 := Row4.free h_7_0 0
          have y1_1 := Row4.free h_7_0 1
          have y1_2 := Row4.free h_7_0 2
          have y1_3 := Row4.free h_7_0 3
          have bS := hS
          have hNo := Row4.noLimb h_6_0 (by intro v e; cases e) (by intro v e; cases e) (by intro v e; cases e) (by intro v e; cases e)
          replace h_2_0 := QQ.fillR4 h_2_0 hNo (.bool (sg (oTop r0))) (.slice A_2_0 n_2_1 n_2_2) (.slice A_2_3 n_2_4 n_2_5) (.int .i64 k0)
          replace h_5_0 := QQ.fillR4 h_5_0 hNo (.bool (sg (oTop r0))) (.slice A_2_0 n_2_1 n_2_2) (.slice A_2_3 n_2_4 n_2_5) (.int .i64 k0)
          replace h_7_0 := ((((h_7_0.set ne_6_7 0 (.bool (sg (oTop r0)))).set ne_6_7 1 (.slice A_2_0 n_2_1 n_2_2)).set ne_6_7 2 (.slice A_2_3 n_2_4 n_2_5)).set ne_6_7 3 (.int .i64 k0))
          have k_6 := Row4.fill h_6_0 (.bool (sg (oTop r0))) (.slice A_2_0 n_2_1 n_2_2) (.slice A_2_3 n_2_4 n_2_5) (.int .i64 k0)
          replace bS := below_fill4 bS h_6_1 (.bool (sg (oTop r0))) (.slice A_2_0 n_2_1 n_2_2) (.slice A_2_3 n_2_4 n_2_5) (.int .i64 k0)
          clear hNo
          have hNo := Row4.noLimb h_7_0 (by intro v e; cases e) (by intro v e; cases e) (by intro v e; cases e) (by intro v e; cases e)
          replace h_2_0 := QQ.fillR4 h_2_0 hNo (.bool (sg (oTop r1))) (.slice A_5_0 n_5_1 n_5_2) (.slice A_5_3 n_5_4 n_5_5) (.int .i64 k1)
          replace h_5_0 := QQ.fillR4 h_5_0 hNo (.bool (sg (oTop r1))) (.slice A_5_0 n_5_1 n_5_2) (.slice A_5_3 n_5_4 n_5_5) (.int .i64 k1)
          replace k_6 := ((((k_6.set ne_7_6 0 (.bool (sg (oTop r1)))).set ne_7_6 1 (.slice A_5_0 n_5_1 n_5_2)).set ne_7_6 2 (.slice A_5_3 n_5_4 n_5_5)).set ne_7_6 3 (.int .i64 k1))
          have k_7 := Row4.fill h_7_0 (.bool (sg (oTop r1))) (.slice A_5_0 n_5_1 n_5_2) (.slice A_5_3 n_5_4 n_5_5) (.int .i64 k1)
          replace bS := below_fill4 bS h_7_1 (.bool (sg (oTop r1))) (.slice A_5_0 n_5_1 n_5_2) (.slice A_5_3 n_5_4 n_5_5) (.int .i64 k1)
          clear hNo
          try dsimp only
          rw [ez_2, ez_5, ez_6, ez_7]
          refine wpAny_ready (rs := [8]) (by kernel_rfl) (by simp) (AllReady.cons rfl (fun KC hK => ?_) AllReady.nil)
          go_simp
          refine hK _ _ ?_
          clear hK KC
          refine wpAny_ready (rs := [9]) (by kernel_rfl) (by simp) (AllReady.cons rfl (fun KC hK => ?_) AllReady.nil)
          go_simp
          refine hK _ _ ?_
          clear hK KC
          refine wpAny_done (by kernel_rfl) ?_ _
          generalize (((((((wr.setCell ⟨n_6_0, 0, none⟩ (.bool (sg (oTop r0)))).setCell ⟨n_6_0, 1, none⟩ (.slice A_2_0 n_2_1 n_2_2)).setCell ⟨n_6_0, 2, none⟩ (.slice A_2_3 n_2_4 n_2_5)).setCell ⟨n_6_0, 3, none⟩ (.int .i64 k0)).setCell ⟨n_7_0, 0, none⟩ (.bool (sg (oTop r1)))).setCell ⟨n_7_0, 1, none⟩ (.slice A_5_0 n_5_1 n_5_2)).setCell ⟨n_7_0, 2, none⟩ (.slice A_5_3 n_5_4 n_5_5)).setCell ⟨n_7_0, 3, none⟩ (.int .i64 k1) = w12 at *
          clear hS v0_0 y0_0 v0_1 y0_1 v0_2 y0_2 v0_3 y0_3 v1_0 y1_0 v1_1 y1_1 v1_2 y1_2 v1_3 y1_3 ez_2 ez_5 ez_6 ez_7 h_6_0 h_6_1 h_7_0 h_7_1
          have bn := bS
          clear bS
          obtain ⟨q_gx, A_gx, n_gx, c_gx, B_gx, m_gx, d_gx, eg⟩ : ∃ q A n c B m d, (q, A, n, c, B, m, d) = (n_6_0, A_2_0, n_2_1, n_2_2, A_2_3, n_2_4, n_2_5) := ⟨_, _, _, _, _, _, _, rfl⟩
          injection eg with e1 eg; injection eg with e2 eg; injection eg with e3 eg; injection eg with e4 eg; injection eg with e5 eg; injection eg with e6 e7
          subst e1 e2 e3 e4 e5 e6 e7
          have h_gx := h_2_0
          have h_rgx := k_6
          clear h_2_0 k_6
          obtain ⟨q_gy, A_gy, n_gy, c_gy, B_gy, m_gy, d_gy, eg⟩ : ∃ q A n c B m d, (q, A, n, c, B, m, d) = (n_7_0, A_5_0, n_5_1, n_5_2, A_5_3, n_5_4, n_5_5) := ⟨_, _, _, _, _, _, _, rfl⟩
          injection eg with e1 eg; injection eg with e2 eg; injection eg with e3 eg; injection eg with e4 eg; injection eg with e5 eg; injection eg with e6 e7
          subst e1 e2 e3 e4 e5 e6 e7
          have h_gy := h_5_0
          have h_rgy := k_7
          clear h_5_0 k_7
          replace h_a := h_a.below bn
          replace h_ra := h_ra.below bn
          replace h_p := h_p.below bn
          replace h_rp := h_rp.below bn
          replace h_x := h_x.below bn
          replace h_rx := h_rx.below bn
          replace h_y := h_y.below bn
          replace h_ry := h_ry.below bn
          replace bw := below_two bw bn
          clear bn
          have c_x0 := h_rx.c0
          have c_x1 := h_rx.c1
          have c_x2 := h_rx.c2
          have c_gx0 := h_rgx.c0
          have c_gx1 := h_rgx.c1
          have c_gx2 := h_rgx.c2
          have c_gx3 := h_rgx.c3
          go_wp2_with fail
          clear c_x0 c_x1 c_x2 c_gx0 c_gx1 c_gx2 c_gx3
          refine (keepRat_c h_x h_gx (by decide) (by decide) true (keepQ rfl)).mono ?_
          rintro e w13 ⟨rfl, bn⟩
          replace h_a := h_a.below bn
          replace h_ra := h_ra.below bn
          replace h_p := h_p.below bn
          replace h_rp := h_rp.below bn
          replace h_x := h_x.below bn
          replace h_rx := h_rx.below bn
          replace h_y := h_y.below bn
          replace h_ry := h_ry.below bn
          replace h_gx := h_gx.below bn
          replace h_rgx := h_rgx.below bn
          replace h_gy := h_gy.below bn
          replace h_rgy := h_rgy.below bn
          replace bw := below_two bw bn
          clear bn
          have c_gx0 := h_rgx.c0
          have c_gx1 := h_rgx.c1
          have c_gx2 := h_rgx.c2
          have c_gx3 := h_rgx.c3
          have c_y0 := h_ry.c0
          have c_y1 := h_ry.c1
          have c_y2 := h_ry.c2
          have c_gy0 := h_rgy.c0
          have c_gy1 := h_rgy.c1
          have c_gy2 := h_rgy.c2
          have c_gy3 := h_rgy.c3
          go_wp2_with fail
          clear c_gx0 c_gx1 c_gx2 c_gx3 c_y0 c_y1 c_y2 c_gy0 c_gy1 c_gy2 c_gy3
          refine (keepRat_c h_y h_gy (by decide) (by decide) true (keepQ rfl)).mono ?_
          rintro e w14 ⟨rfl, bn⟩
          replace h_a := h_a.below bn
          replace h_ra := h_ra.below bn
          replace h_p := h_p.below bn
          replace h_rp := h_rp.below bn
          replace h_x := h_x.below bn
          replace h_rx := h_rx.below bn
          replace h_y := h_y.below bn
          replace h_ry := h_ry.below bn
          replace h_gx := h_gx.below bn
          replace h_rgx := h_rgx.below bn
          replace h_gy := h_gy.below bn
          replace h_rgy := h_rgy.below bn
          replace bw := below_two bw bn
          clear bn
          have c_gy0 := h_rgy.c0
          have c_gy1 := h_rgy.c1
          have c_gy2 := h_rgy.c2
          have c_gy3 := h_rgy.c3
          have c_p0 := h_rp.c0
          have c_p1 := h_rp.c1
          have c_p2 := h_rp.c2
          have c_a0 := h_ra.c0
          have c_a1 := h_ra.c1
          have c_a2 := h_ra.c2
          go_wp2_with fail
          clear c_gy0 c_gy1 c_gy2 c_gy3 c_p0 c_p1 c_p2 c_a0 c_a1 c_a2
          refine (keepRat_c h_p h_a (by decide) (by decide) true (keep_self3 _ _ _)).mono ?_
          rintro e w15 ⟨rfl, bn⟩
          replace h_a := h_a.below bn
          replace h_ra := h_ra.below bn
          replace h_p := h_p.below bn
          replace h_rp := h_rp.below bn
          replace h_x := h_x.below bn
          replace h_rx := h_rx.below bn
          replace h_y := h_y.below bn
          replace h_ry := h_ry.below bn
          replace h_gx := h_gx.below bn
          replace h_rgx := h_rgx.below bn
          replace h_gy := h_gy.below bn
          replace h_rgy := h_rgy.below bn
          replace bw := below_two bw bn
          clear bn
          go_wp2_with fail
          refine (wakes_any _).mono ?_
          rintro e w16 ⟨rfl, bn⟩
          replace h_a := h_a.below bn
          replace h_ra := h_ra.below bn
          replace h_p := h_p.below bn
          replace h_rp := h_rp.below bn
          replace h_x := h_x.below bn
          replace h_rx := h_rx.below bn
          replace h_y := h_y.below bn
          replace h_ry := h_ry.below bn
          replace h_gx := h_gx.below bn
          replace h_rgx := h_rgx.below bn
          replace h_gy := h_gy.below bn
          replace h_rgy := h_rgy.below bn
          replace bw := below_two bw bn
          clear bn
          go_wp2
          go_ret
          exact ⟨rfl, bw⟩
    · have e4 : v_n ≤ 3 := by omega
      clear e1
      by_cases e2 : v_n < -3
      · by_cases e3 : -128 ≤ v_n
        · skip
          have e5 : v_n ≤ 128 := by omega
          have h_ra := row3_new w 27 (.bool g_a) (.slice A_a n_a c_a) (.slice B_a m_a d_a)
          have bn := below_new w (.cells #[Value.bool g_a, Value.slice A_a n_a c_a, Value.slice B_a m_a d_a] 27)
          replace h_a := h_a.below bn
          replace bw := below_two bw bn
          clear bn
          go_enter Try.func3, Try.ntmps3
          go_wp2_with fail
          generalize w.alloc (.cells #[Value.bool g_a, Value.slice A_a n_a c_a, Value.slice B_a m_a d_a] 27) = wP at *
          obtain ⟨q_a, eg⟩ : ∃ g, g = w.heap.size := ⟨_, rfl⟩
          rw [← eg] at h_ra ⊢
          clear eg
          refine (qlong_c g_a A_a B_a n_a c_a m_a d_a false T_a.out _).mono ?_
          rintro e w17 ⟨rfl, bn⟩
          replace h_a := h_a.below bn
          replace h_ra := h_ra.below bn
          replace bw := below_two bw bn
          clear bn
          have c_a0 := h_ra.c0
          have c_a1 := h_ra.c1
          have c_a2 := h_ra.c2
          go_wp2_with fail
          clear c_a0 c_a1 c_a2
          refine (wakes_any _).mono ?_
          rintro e w18 ⟨rfl, bn⟩
          replace h_a := h_a.below bn
          replace h_ra := h_ra.below bn
          replace bw := below_two bw bn
          clear bn
          go_wp2
          go_ret
          exact ⟨rfl, bw⟩
        · skip
          have e5 : v_n < -128 := by omega
          have e6 : v_n ≤ 128 := by omega
          clear e3
          have h_ra := row3_new w 27 (.bool g_a) (.slice A_a n_a c_a) (.slice B_a m_a d_a)
          have bn := below_new w (.cells #[Value.bool g_a, Value.slice A_a n_a c_a, Value.slice B_a m_a d_a] 27)
          replace h_a := h_a.below bn
          replace bw := below_two bw bn
          clear bn
          go_enter Try.func3, Try.ntmps3
          go_wp2_with fail
          generalize w.alloc (.cells #[Value.bool g_a, Value.slice A_a n_a c_a, Value.slice B_a m_a d_a] 27) = wP at *
          obtain ⟨q_a, eg⟩ : ∃ g, g = w.heap.size := ⟨_, rfl⟩
          rw [← eg] at h_ra ⊢
          clear eg
          refine (qlong_c g_a A_a B_a n_a c_a m_a d_a false T_a.out _).mono ?_
          rintro e w19 ⟨rfl, bn⟩
          replace h_a := h_a.below bn
          replace h_ra := h_ra.below bn
          replace bw := below_two bw bn
          clear bn
          have c_a0 := h_ra.c0
          have c_a1 := h_ra.c1
          have c_a2 := h_ra.c2
          go_wp2_with fail
          clear c_a0 c_a1 c_a2
          refine (ownRat_c h_a (by decide)).mono ?_
          rintro e w20 ⟨A_p, n_p, c_p, B_p, m_p, d_p, rfl, h_p, bn⟩
          replace h_a := h_a.below bn
          replace h_ra := h_ra.below bn
          replace bw := below_two bw bn
          clear bn
          have h_rp := row3_new w20 27 (.bool g_a) (.slice A_p n_p c_p) (.slice B_p m_p d_p)
          have bn := below_new w20 (.cells #[Value.bool g_a, Value.slice A_p n_p c_p, Value.slice B_p m_p d_p] 27)
          replace h_a := h_a.below bn
          replace h_ra := h_ra.below bn
          replace h_p := h_p.below bn
          replace bw := below_two bw bn
          clear bn
          have c_p0 := h_rp.c0
          have c_p1 := h_rp.c1
          have c_p2 := h_rp.c2
          go_wp2_with fail
          clear c_p0 c_p1 c_p2
          generalize w20.alloc (.cells #[Value.bool g_a, Value.slice A_p n_p c_p, Value.slice B_p m_p d_p] 27) = w21 at *
          obtain ⟨q_p, eg⟩ : ∃ g, g = w20.heap.size := ⟨_, rfl⟩
          rw [← eg] at h_rp ⊢
          clear eg
          refine (pOf_c h_p (by decide) v_n _ _ H0.out).mono ?_
          rintro e w22 ⟨A_x, n_x, c_x, B_x, m_x, d_x, rfl, h_x, bn⟩
          replace h_a := h_a.below bn
          replace h_ra := h_ra.below bn
          replace h_p := h_p.below bn
          replace h_rp := h_rp.below bn
          replace bw := below_two bw bn
          clear bn
          have h_rx := row3_new w22 27 (.bool (sg (oTop r0))) (.slice A_x n_x c_x) (.slice B_x m_x d_x)
          have bn := below_new w22 (.cells #[Value.bool (sg (oTop r0)), Value.slice A_x n_x c_x, Value.slice B_x m_x d_x] 27)
          replace h_a := h_a.below bn
          replace h_ra := h_ra.below bn
          replace h_p := h_p.below bn
          replace h_rp := h_rp.below bn
          replace h_x := h_x.below bn
          replace bw := below_two bw bn
          clear bn
          have c_p0 := h_rp.c0
          have c_p1 := h_rp.c1
          have c_p2 := h_rp.c2
          go_wp2_with fail
          clear c_p0 c_p1 c_p2
          generalize w22.alloc (.cells #[Value.bool (sg (oTop r0)), Value.slice A_x n_x c_x, Value.slice B_x m_x d_x] 27) = w23 at *
          obtain ⟨q_x, eg⟩ : ∃ g, g = w22.heap.size := ⟨_, rfl⟩
          rw [← eg] at h_rx ⊢
          clear eg
          refine (pScale_c h_p (by decide) v_m _ _ H1.out).mono ?_
          rintro e w24 ⟨A_y, n_y, c_y, B_y, m_y, d_y, rfl, h_y, bn⟩
          replace h_a := h_a.below bn
          replace h_ra := h_ra.below bn
          replace h_p := h_p.below bn
          replace h_rp := h_rp.below bn
          replace h_x := h_x.below bn
          replace h_rx := h_rx.below bn
          replace bw := below_two bw bn
          clear bn
          have h_ry := row3_new w24 27 (.bool (sg (oTop r1))) (.slice A_y n_y c_y) (.slice B_y m_y d_y)
          have bn := below_new w24 (.cells #[Value.bool (sg (oTop r1)), Value.slice A_y n_y c_y, Value.slice B_y m_y d_y] 27)
          replace h_a := h_a.below bn
          replace h_ra := h_ra.below bn
          replace h_p := h_p.below bn
          replace h_rp := h_rp.below bn
          replace h_x := h_x.below bn
          replace h_rx := h_rx.below bn
          replace h_y := h_y.below bn
          replace bw := below_two bw bn
          clear bn
          go_wp2
          generalize w24.alloc (.cells #[Value.bool (sg (oTop r1)), Value.slice A_y n_y c_y, Value.slice B_y m_y d_y] 27) = w25 at *
          obtain ⟨q_y, eg⟩ : ∃ g, g = w24.heap.size := ⟨_, rfl⟩
          rw [← eg] at h_ry ⊢
          clear eg
          generalize w25 = wS at *
          refine region_freed 8 2 6 [60, 61, 62, 63, 64, 65, 12, 13] ?aF31 (fun wx => Below wS.heap.size wS wx) (fun k vv wx => match k with
              | 0 => vv = .agg #[.bool g_a, .slice A_a n_a c_a, .slice B_a m_a d_a]
              | 1 => vv = .int .i64 v_n
              | 2 => ∃ (e0 : Option Addr) (e1 : Nat) (e2 : Nat) (e3 : Option Addr) (e4 : Nat) (e5 : Nat), vv = .agg #[.bool (sg (oTop r0)), .slice e0 e1 e2, .slice e3 e4 e5, .int .i64 k0] ∧ QT wx e0 e1 e2 e3 e4 e5 r0
              | 3 => vv = .agg #[.bool g_a, .slice A_a n_a c_a, .slice B_a m_a d_a]
              | 4 => vv = .int .i64 v_m
              | 5 => ∃ (e0 : Option Addr) (e1 : Nat) (e2 : Nat) (e3 : Option Addr) (e4 : Nat) (e5 : Nat), vv = .agg #[.bool (sg (oTop r1)), .slice e0 e1 e2, .slice e3 e4 e5, .int .i64 k1] ∧ QT wx e0 e1 e2 e3 e4 e5 r1
              | 6 => ∃ (e0 : Nat), vv = .pointer (some ⟨e0, 0, none⟩) ∧ Row4 wx e0 35 (.bool false) (.slice none 0 0) (.slice none 0 0) (.int .i64 0) ∧ Over wS e0 wx
              | _ => ∃ (e0 : Nat), vv = .pointer (some ⟨e0, 0, none⟩) ∧ Row4 wx e0 35 (.bool false) (.slice none 0 0) (.slice none 0 0) (.int .i64 0) ∧ Over wS e0 wx)
            (fun k => k == 6 || k == 7) (by kernel_rfl) ?haF31 rfl (by kernel_rfl) (by kernel_rfl) (fun _ _ _ _ _ h => h) ?hSb31 ?hPb31 ?hS31 ?hop31 ?hfin31
          case haF31 =>
            intro vals
            simp only [fillAll, List.getElem?_cons_zero, List.getElem?_cons_succ, Act.put, List.setIfInBounds_toArray, List.set_cons_zero, List.set_cons_succ]
            exact rfl
          case hSb31 => exact fun wx w2 hb hS => below_two hS hb
          case hPb31 =>
            intro k v wa wb hb h
            match k, h with
            | 0, h => exact h
            | 1, h => exact h
            | 2, ⟨e0, e1, e2, e3, e4, e5, h1, g0⟩ => exact ⟨e0, e1, e2, e3, e4, e5, h1, g0.below hb⟩
            | 3, h => exact h
            | 4, h => exact h
            | 5, ⟨e0, e1, e2, e3, e4, e5, h1, g0⟩ => exact ⟨e0, e1, e2, e3, e4, e5, h1, g0.below hb⟩
            | 6, ⟨e0, h1, g0, g1⟩ => exact ⟨e0, h1, g0.below hb, g1.below hb⟩
            | _ + 7, ⟨e0, h1, g0, g1⟩ => exact ⟨e0, h1, g0.below hb, g1.below hb⟩
          case hS31 => exact (Below.refl _ _).drew
          case hop31 =>
            refine .cons (k := 0) (.plain rfl ?_) (.cons (k := 1) (.plain rfl ?_) (.cons (k := 2) (.plain rfl ?_) (.cons (k := 3) (.plain rfl ?_) (.cons (k := 4) (.plain rfl ?_) (.cons (k := 5) (.plain rfl ?_) (.cons (k := 6) (.plain rfl ?_) (.cons (k := 7) (.plain rfl ?_) (.nil))))))))
            all_goals intro vals wr hS hd KC hK
            all_goals (show Oper.wp _ _ _ _ _ _; dsimp only)
            · have z0 := (h_ra.below hS).c0
              have z1 := (h_ra.below hS).c1
              have z2 := (h_ra.below hS).c2
              go_simp
              refine hK _ _ rfl (Below.refl _ _) (by first | rfl | simp) (fun h => by cases h)
            · go_simp
              refine hK _ _ rfl (Below.refl _ _) (by first | rfl | simp) (fun h => by cases h)
            · have d0 : vals 0 = _ := hd 0 (by decide +kernel)
              have d1 : vals 1 = _ := hd 1 (by decide +kernel)
              rw [d0, d1]
              go_simp
              go_at_call 13
              with_reducible refine (refPOf_c (h_a.below hS) (by decide) v_n _ _ H0.out).mono ?_
              rintro e w2 ⟨r0, r1, r2, r3, r4, r5, rfl, f0, bn_r⟩
              refine hK _ _ rfl bn_r ⟨_, _, _, _, _, _, rfl, f0⟩ (fun h => by cases h)
            · have z0 := (h_ra.below hS).c0
              have z1 := (h_ra.below hS).c1
              have z2 := (h_ra.below hS).c2
              go_simp
              refine hK _ _ rfl (Below.refl _ _) (by first | rfl | simp) (fun h => by cases h)
            · go_simp
              refine hK _ _ rfl (Below.refl _ _) (by first | rfl | simp) (fun h => by cases h)
            · have d3 : vals 3 = _ := hd 3 (by decide +kernel)
              have d4 : vals 4 = _ := hd 4 (by decide +kernel)
              rw [d3, d4]
              go_simp
              go_at_call 14
              with_reducible refine (refPScale_c (h_a.below hS) (by decide) v_m _ _ H1.out).mono ?_
              rintro e w2 ⟨r0, r1, r2, r3, r4, r5, rfl, f0, bn_r⟩
              refine hK _ _ rfl bn_r ⟨_, _, _, _, _, _, rfl, f0⟩ (fun h => by cases h)
            · go_simp
              refine hK _ _ rfl (below_new _ _) ⟨_, rfl, row4_new wr _ _ _ _ _ , hS.size⟩ (fun _ => ⟨_, rfl, Nat.le_refl _, by rw [World.size_alloc]; omega⟩)
            · go_simp
              refine hK _ _ rfl (below_new _ _) ⟨_, rfl, row4_new wr _ _ _ _ _ , hS.size⟩ (fun _ => ⟨_, rfl, Nat.le_refl _, by rw [World.size_alloc]; omega⟩)
          case hfin31 =>
            intro vals wr hS hP hne
            obtain ⟨A_2_0, n_2_1, n_2_2, A_2_3, n_2_4, n_2_5, ez_2, h_2_0⟩ := hP 2 (by decide)
            obtain ⟨A_5_0, n_5_1, n_5_2, A_5_3, n_5_4, n_5_5, ez_5, h_5_0⟩ := hP 5 (by decide)
            obtain ⟨n_6_0, ez_6, h_6_0, h_6_1⟩ := hP 6 (by decide)
            obtain ⟨n_7_0, ez_7, h_7_0, h_7_1⟩ := hP 7 (by decide)
            have ne_6_7 : n_6_0 ≠ n_7_0 := hne 6 7 (by decide) (by decide) (by decide) rfl rfl _ _ ez_6 ez_7
            have ne_7_6 : n_7_0 ≠ n_6_0 := hne 7 6 (by decide) (by decide) (by decide) rfl rfl _ _ ez_7 ez_6
            have v0_0 := Row4.c0 h_6_0
            have v0_1 := Row4.c1 h_6_0
            have v0_2 := Row4.c2 h_6_0
            have v0_3 := Row4.c3 h_6_0
            have y0_0 := Row4.free h_6_0 0
            have y0_1 := Row4.free h_6_0 1
            have y0_2 := Row4.free h_6_0 2
            have y0_3 := Row4.free h_6_0 3
            have v1_0 := Row4.c0 h_7_0
            have v1_1 := Row4.c1 h_7_0
            have v1_2 := Row4.c2 h_7_0
            have v1_3 := Row4.c3 h_7_0
            have y1_0 := Row4.free h_7_0 0
            have y1_1 := Row4.free h_7_0 1
            have y1_2 := Row4.free h_7_0 2
            have y1_3 := Row4.free h_7_0 3
            have bS := hS
            have hNo := Row4.noLimb h_6_0 (by intro v e; cases e) (by intro v e; cases e) (by intro v e; cases e) (by intro v e; cases e)
            replace h_2_0 := QQ.fillR4 h_2_0 hNo (.bool (sg (oTop r0))) (.slice A_2_0 n_2_1 n_2_2) (.slice A_2_3 n_2_4 n_2_5) (.int .i64 k0)
            replace h_5_0 := QQ.fillR4 h_5_0 hNo (.bool (sg (oTop r0))) (.slice A_2_0 n_2_1 n_2_2) (.slice A_2_3 n_2_4 n_2_5) (.int .i64 k0)
            replace h_7_0 := ((((h_7_0.set ne_6_7 0 (.bool (sg (oTop r0)))).set ne_6_7 1 (.slice A_2_0 n_2_1 n_2_2)).set ne_6_7 2 (.slice A_2_3 n_2_4 n_2_5)).set ne_6_7 3 (.int .i64 k0))
            have k_6 := Row4.fill h_6_0 (.bool (sg (oTop r0))) (.slice A_2_0 n_2_1 n_2_2) (.slice A_2_3 n_2_4 n_2_5) (.int .i64 k0)
            replace bS := below_fill4 bS h_6_1 (.bool (sg (oTop r0))) (.slice A_2_0 n_2_1 n_2_2) (.slice A_2_3 n_2_4 n_2_5) (.int .i64 k0)
            clear hNo
            have hNo := Row4.noLimb h_7_0 (by intro v e; cases e) (by intro v e; cases e) (by intro v e; cases e) (by intro v e; cases e)
            replace h_2_0 := QQ.fillR4 h_2_0 hNo (.bool (sg (oTop r1))) (.slice A_5_0 n_5_1 n_5_2) (.slice A_5_3 n_5_4 n_5_5) (.int .i64 k1)
            replace h_5_0 := QQ.fillR4 h_5_0 hNo (.bool (sg (oTop r1))) (.slice A_5_0 n_5_1 n_5_2) (.slice A_5_3 n_5_4 n_5_5) (.int .i64 k1)
            replace k_6 := ((((k_6.set ne_7_6 0 (.bool (sg (oTop r1)))).set ne_7_6 1 (.slice A_5_0 n_5_1 n_5_2)).set ne_7_6 2 (.slice A_5_3 n_5_4 n_5_5)).set ne_7_6 3 (.int .i64 k1))
            have k_7 := Row4.fill h_7_0 (.bool (sg (oTop r1))) (.slice A_5_0 n_5_1 n_5_2) (.slice A_5_3 n_5_4 n_5_5) (.int .i64 k1)
            replace bS := below_fill4 bS h_7_1 (.bool (sg (oTop r1))) (.slice A_5_0 n_5_1 n_5_2) (.slice A_5_3 n_5_4 n_5_5) (.int .i64 k1)
            clear hNo
            try dsimp only
            rw [ez_2, ez_5, ez_6, ez_7]
            refine wpAny_ready (rs := [8]) (by kernel_rfl) (by simp) (AllReady.cons rfl (fun KC hK => ?_) AllReady.nil)
            go_simp
            refine hK _ _ ?_
            clear hK KC
            refine wpAny_ready (rs := [9]) (by kernel_rfl) (by simp) (AllReady.cons rfl (fun KC hK => ?_) AllReady.nil)
            go_simp
            refine hK _ _ ?_
            clear hK KC
            refine wpAny_done (by kernel_rfl) ?_ _
            generalize (((((((wr.setCell ⟨n_6_0, 0, none⟩ (.bool (sg (oTop r0)))).setCell ⟨n_6_0, 1, none⟩ (.slice A_2_0 n_2_1 n_2_2)).setCell ⟨n_6_0, 2, none⟩ (.slice A_2_3 n_2_4 n_2_5)).setCell ⟨n_6_0, 3, none⟩ (.int .i64 k0)).setCell ⟨n_7_0, 0, none⟩ (.bool (sg (oTop r1)))).setCell ⟨n_7_0, 1, none⟩ (.slice A_5_0 n_5_1 n_5_2)).setCell ⟨n_7_0, 2, none⟩ (.slice A_5_3 n_5_4 n_5_5)).setCell ⟨n_7_0, 3, none⟩ (.int .i64 k1) = w26 at *
            clear hS v0_0 y0_0 v0_1 y0_1 v0_2 y0_2 v0_3 y0_3 v1_0 y1_0 v1_1 y1_1 v1_2 y1_2 v1_3 y1_3 ez_2 ez_5 ez_6 ez_7 h_6_0 h_6_1 h_7_0 h_7_1
            have bn := bS
            clear bS
            obtain ⟨q_gx, A_gx, n_gx, c_gx, B_gx, m_gx, d_gx, eg⟩ : ∃ q A n c B m d, (q, A, n, c, B, m, d) = (n_6_0, A_2_0, n_2_1, n_2_2, A_2_3, n_2_4, n_2_5) := ⟨_, _, _, _, _, _, _, rfl⟩
            injection eg with e1 eg; injection eg with e2 eg; injection eg with e3 eg; injection eg with e4 eg; injection eg with e5 eg; injection eg with e6 e7
            subst e1 e2 e3 e4 e5 e6 e7
            have h_gx := h_2_0
            have h_rgx := k_6
            clear h_2_0 k_6
            obtain ⟨q_gy, A_gy, n_gy, c_gy, B_gy, m_gy, d_gy, eg⟩ : ∃ q A n c B m d, (q, A, n, c, B, m, d) = (n_7_0, A_5_0, n_5_1, n_5_2, A_5_3, n_5_4, n_5_5) := ⟨_, _, _, _, _, _, _, rfl⟩
            injection eg with e1 eg; injection eg with e2 eg; injection eg with e3 eg; injection eg with e4 eg; injection eg with e5 eg; injection eg with e6 e7
            subst e1 e2 e3 e4 e5 e6 e7
            have h_gy := h_5_0
            have h_rgy := k_7
            clear h_5_0 k_7
            replace h_a := h_a.below bn
            replace h_ra := h_ra.below bn
            replace h_p := h_p.below bn
            replace h_rp := h_rp.below bn
            replace h_x := h_x.below bn
            replace h_rx := h_rx.below bn
            replace h_y := h_y.below bn
            replace h_ry := h_ry.below bn
            replace bw := below_two bw bn
            clear bn
            have c_x0 := h_rx.c0
            have c_x1 := h_rx.c1
            have c_x2 := h_rx.c2
            have c_gx0 := h_rgx.c0
            have c_gx1 := h_rgx.c1
            have c_gx2 := h_rgx.c2
            have c_gx3 := h_rgx.c3
            go_wp2_with fail
            clear c_x0 c_x1 c_x2 c_gx0 c_gx1 c_gx2 c_gx3
            refine (keepRat_c h_x h_gx (by decide) (by decide) true (keepQ rfl)).mono ?_
            rintro e w27 ⟨rfl, bn⟩
            replace h_a := h_a.below bn
            replace h_ra := h_ra.below bn
            replace h_p := h_p.below bn
            replace h_rp := h_rp.below bn
            replace h_x := h_x.below bn
            replace h_rx := h_rx.below bn
            replace h_y := h_y.below bn
            replace h_ry := h_ry.below bn
            replace h_gx := h_gx.below bn
            replace h_rgx := h_rgx.below bn
            replace h_gy := h_gy.below bn
            replace h_rgy := h_rgy.below bn
            replace bw := below_two bw bn
            clear bn
            have c_gx0 := h_rgx.c0
            have c_gx1 := h_rgx.c1
            have c_gx2 := h_rgx.c2
            have c_gx3 := h_rgx.c3
            have c_y0 := h_ry.c0
            have c_y1 := h_ry.c1
            have c_y2 := h_ry.c2
            have c_gy0 := h_rgy.c0
            have c_gy1 := h_rgy.c1
            have c_gy2 := h_rgy.c2
            have c_gy3 := h_rgy.c3
            go_wp2_with fail
            clear c_gx0 c_gx1 c_gx2 c_gx3 c_y0 c_y1 c_y2 c_gy0 c_gy1 c_gy2 c_gy3
            refine (keepRat_c h_y h_gy (by decide) (by decide) true (keepQ rfl)).mono ?_
            rintro e w28 ⟨rfl, bn⟩
            replace h_a := h_a.below bn
            replace h_ra := h_ra.below bn
            replace h_p := h_p.below bn
            replace h_rp := h_rp.below bn
            replace h_x := h_x.below bn
            replace h_rx := h_rx.below bn
            replace h_y := h_y.below bn
            replace h_ry := h_ry.below bn
            replace h_gx := h_gx.below bn
            replace h_rgx := h_rgx.below bn
            replace h_gy := h_gy.below bn
            replace h_rgy := h_rgy.below bn
            replace bw := below_two bw bn
            clear bn
            have c_gy0 := h_rgy.c0
            have c_gy1 := h_rgy.c1
            have c_gy2 := h_rgy.c2
            have c_gy3 := h_rgy.c3
            have c_p0 := h_rp.c0
            have c_p1 := h_rp.c1
            have c_p2 := h_rp.c2
            have c_a0 := h_ra.c0
            have c_a1 := h_ra.c1
            have c_a2 := h_ra.c2
            go_wp2_with fail
            clear c_gy0 c_gy1 c_gy2 c_gy3 c_p0 c_p1 c_p2 c_a0 c_a1 c_a2
            refine (keepRat_c h_p h_a (by decide) (by decide) true (keep_self3 _ _ _)).mono ?_
            rintro e w29 ⟨rfl, bn⟩
            replace h_a := h_a.below bn
            replace h_ra := h_ra.below bn
            replace h_p := h_p.below bn
            replace h_rp := h_rp.below bn
            replace h_x := h_x.below bn
            replace h_rx := h_rx.below bn
            replace h_y := h_y.below bn
            replace h_ry := h_ry.below bn
            replace h_gx := h_gx.below bn
            replace h_rgx := h_rgx.below bn
            replace h_gy := h_gy.below bn
            replace h_rgy := h_rgy.below bn
            replace bw := below_two bw bn
            clear bn
            go_wp2_with fail
            refine (wakes_any _).mono ?_
            rintro e w30 ⟨rfl, bn⟩
            replace h_a := h_a.below bn
            replace h_ra := h_ra.below bn
            replace h_p := h_p.below bn
            replace h_rp := h_rp.below bn
            replace h_x := h_x.below bn
            replace h_rx := h_rx.below bn
            replace h_y := h_y.below bn
            replace h_ry := h_ry.below bn
            replace h_gx := h_gx.below bn
            replace h_rgx := h_rgx.below bn
            replace h_gy := h_gy.below bn
            replace h_rgy := h_rgy.below bn
            replace bw := below_two bw bn
            clear bn
            go_wp2
            go_ret
            exact ⟨rfl, bw⟩
      · skip
        have e3 : -3 ≤ v_n := by omega
        clear e2
        have h_ra := row3_new w 27 (.bool g_a) (.slice A_a n_a c_a) (.slice B_a m_a d_a)
        have bn := below_new w (.cells #[Value.bool g_a, Value.slice A_a n_a c_a, Value.slice B_a m_a d_a] 27)
        replace h_a := h_a.below bn
        replace bw := below_two bw bn
        clear bn
        go_enter Try.func3, Try.ntmps3
        go_wp2_with fail
        generalize w.alloc (.cells #[Value.bool g_a, Value.slice A_a n_a c_a, Value.slice B_a m_a d_a] 27) = wP at *
        obtain ⟨q_a, eg⟩ : ∃ g, g = w.heap.size := ⟨_, rfl⟩
        rw [← eg] at h_ra ⊢
        clear eg
        refine (qlong_c g_a A_a B_a n_a c_a m_a d_a false T_a.out _).mono ?_
        rintro e w31 ⟨rfl, bn⟩
        replace h_a := h_a.below bn
        replace h_ra := h_ra.below bn
        replace bw := below_two bw bn
        clear bn
        have c_a0 := h_ra.c0
        have c_a1 := h_ra.c1
        have c_a2 := h_ra.c2
        go_wp2_with fail
        clear c_a0 c_a1 c_a2
        refine (ownRat_c h_a (by decide)).mono ?_
        rintro e w32 ⟨A_p, n_p, c_p, B_p, m_p, d_p, rfl, h_p, bn⟩
        replace h_a := h_a.below bn
        replace h_ra := h_ra.below bn
        replace bw := below_two bw bn
        clear bn
        have h_rp := row3_new w32 27 (.bool g_a) (.slice A_p n_p c_p) (.slice B_p m_p d_p)
        have bn := below_new w32 (.cells #[Value.bool g_a, Value.slice A_p n_p c_p, Value.slice B_p m_p d_p] 27)
        replace h_a := h_a.below bn
        replace h_ra := h_ra.below bn
        replace h_p := h_p.below bn
        replace bw := below_two bw bn
        clear bn
        have c_p0 := h_rp.c0
        have c_p1 := h_rp.c1
        have c_p2 := h_rp.c2
        go_wp2_with fail
        clear c_p0 c_p1 c_p2
        generalize w32.alloc (.cells #[Value.bool g_a, Value.slice A_p n_p c_p, Value.slice B_p m_p d_p] 27) = w33 at *
        obtain ⟨q_p, eg⟩ : ∃ g, g = w32.heap.size := ⟨_, rfl⟩
        rw [← eg] at h_rp ⊢
        clear eg
        refine (pOf_c h_p (by decide) v_n _ _ H0.out).mono ?_
        rintro e w34 ⟨A_x, n_x, c_x, B_x, m_x, d_x, rfl, h_x, bn⟩
        replace h_a := h_a.below bn
        replace h_ra := h_ra.below bn
        replace h_p := h_p.below bn
        replace h_rp := h_rp.below bn
        replace bw := below_two bw bn
        clear bn
        have h_rx := row3_new w34 27 (.bool (sg (oTop r0))) (.slice A_x n_x c_x) (.slice B_x m_x d_x)
        have bn := below_new w34 (.cells #[Value.bool (sg (oTop r0)), Value.slice A_x n_x c_x, Value.slice B_x m_x d_x] 27)
        replace h_a := h_a.below bn
        replace h_ra := h_ra.below bn
        replace h_p := h_p.below bn
        replace h_rp := h_rp.below bn
        replace h_x := h_x.below bn
        replace bw := below_two bw bn
        clear bn
        have c_p0 := h_rp.c0
        have c_p1 := h_rp.c1
        have c_p2 := h_rp.c2
        go_wp2_with fail
        clear c_p0 c_p1 c_p2
        generalize w34.alloc (.cells #[Value.bool (sg (oTop r0)), Value.slice A_x n_x c_x, Value.slice B_x m_x d_x] 27) = w35 at *
        obtain ⟨q_x, eg⟩ : ∃ g, g = w34.heap.size := ⟨_, rfl⟩
        rw [← eg] at h_rx ⊢
        clear eg
        refine (pScale_c h_p (by decide) v_m _ _ H1.out).mono ?_
        rintro e w36 ⟨A_y, n_y, c_y, B_y, m_y, d_y, rfl, h_y, bn⟩
        replace h_a := h_a.below bn
        replace h_ra := h_ra.below bn
        replace h_p := h_p.below bn
        replace h_rp := h_rp.below bn
        replace h_x := h_x.below bn
        replace h_rx := h_rx.below bn
        replace bw := below_two bw bn
        clear bn
        have h_ry := row3_new w36 27 (.bool (sg (oTop r1))) (.slice A_y n_y c_y) (.slice B_y m_y d_y)
        have bn := below_new w36 (.cells #[Value.bool (sg (oTop r1)), Value.slice A_y n_y c_y, Value.slice B_y m_y d_y] 27)
        replace h_a := h_a.below bn
        replace h_ra := h_ra.below bn
        replace h_p := h_p.below bn
        replace h_rp := h_rp.below bn
        replace h_x := h_x.below bn
        replace h_rx := h_rx.below bn
        replace h_y := h_y.below bn
        replace bw := below_two bw bn
        clear bn
        go_wp2
        generalize w36.alloc (.cells #[Value.bool (sg (oTop r1)), Value.slice A_y n_y c_y, Value.slice B_y m_y d_y] 27) = w37 at *
        obtain ⟨q_y, eg⟩ : ∃ g, g = w36.heap.size := ⟨_, rfl⟩
        rw [← eg] at h_ry ⊢
        clear eg
        generalize w37 = wS at *
        refine region_freed 8 2 6 [60, 61, 62, 63, 64, 65, 12, 13] ?aF32 (fun wx => Below wS.heap.size wS wx) (fun k vv wx => match k with
            | 0 => vv = .agg #[.bool g_a, .slice A_a n_a c_a, .slice B_a m_a d_a]
            | 1 => vv = .int .i64 v_n
            | 2 => ∃ (e0 : Option Addr) (e1 : Nat) (e2 : Nat) (e3 : Option Addr) (e4 : Nat) (e5 : Nat), vv = .agg #[.bool (sg (oTop r0)), .slice e0 e1 e2, .slice e3 e4 e5, .int .i64 k0] ∧ QT wx e0 e1 e2 e3 e4 e5 r0
            | 3 => vv = .agg #[.bool g_a, .slice A_a n_a c_a, .slice B_a m_a d_a]
            | 4 => vv = .int .i64 v_m
            | 5 => ∃ (e0 : Option Addr) (e1 : Nat) (e2 : Nat) (e3 : Option Addr) (e4 : Nat) (e5 : Nat), vv = .agg #[.bool (sg (oTop r1)), .slice e0 e1 e2, .slice e3 e4 e5, .int .i64 k1] ∧ QT wx e0 e1 e2 e3 e4 e5 r1
            | 6 => ∃ (e0 : Nat), vv = .pointer (some ⟨e0, 0, none⟩) ∧ Row4 wx e0 35 (.bool false) (.slice none 0 0) (.slice none 0 0) (.int .i64 0) ∧ Over wS e0 wx
            | _ => ∃ (e0 : Nat), vv = .pointer (some ⟨e0, 0, none⟩) ∧ Row4 wx e0 35 (.bool false) (.slice none 0 0) (.slice none 0 0) (.int .i64 0) ∧ Over wS e0 wx)
          (fun k => k == 6 || k == 7) (by kernel_rfl) ?haF32 rfl (by kernel_rfl) (by kernel_rfl) (fun _ _ _ _ _ h => h) ?hSb32 ?hPb32 ?hS32 ?hop32 ?hfin32
        case haF32 =>
          intro vals
          simp only [fillAll, List.getElem?_cons_zero, List.getElem?_cons_succ, Act.put, List.setIfInBounds_toArray, List.set_cons_zero, List.set_cons_succ]
          exact rfl
        case hSb32 => exact fun wx w2 hb hS => below_two hS hb
        case hPb32 =>
          intro k v wa wb hb h
          match k, h with
          | 0, h => exact h
          | 1, h => exact h
          | 2, ⟨e0, e1, e2, e3, e4, e5, h1, g0⟩ => exact ⟨e0, e1, e2, e3, e4, e5, h1, g0.below hb⟩
          | 3, h => exact h
          | 4, h => exact h
          | 5, ⟨e0, e1, e2, e3, e4, e5, h1, g0⟩ => exact ⟨e0, e1, e2, e3, e4, e5, h1, g0.below hb⟩
          | 6, ⟨e0, h1, g0, g1⟩ => exact ⟨e0, h1, g0.below hb, g1.below hb⟩
          | _ + 7, ⟨e0, h1, g0, g1⟩ => exact ⟨e0, h1, g0.below hb, g1.below hb⟩
        case hS32 => exact (Below.refl _ _).drew
        case hop32 =>
          refine .cons (k := 0) (.plain rfl ?_) (.cons (k := 1) (.plain rfl ?_) (.cons (k := 2) (.plain rfl ?_) (.cons (k := 3) (.plain rfl ?_) (.cons (k := 4) (.plain rfl ?_) (.cons (k := 5) (.plain rfl ?_) (.cons (k := 6) (.plain rfl ?_) (.cons (k := 7) (.plain rfl ?_) (.nil))))))))
          all_goals intro vals wr hS hd KC hK
          all_goals (show Oper.wp _ _ _ _ _ _; dsimp only)
          · have z0 := (h_ra.below hS).c0
            have z1 := (h_ra.below hS).c1
            have z2 := (h_ra.below hS).c2
            go_simp
            refine hK _ _ rfl (Below.refl _ _) (by first | rfl | simp) (fun h => by cases h)
          · go_simp
            refine hK _ _ rfl (Below.refl _ _) (by first | rfl | simp) (fun h => by cases h)
          · have d0 : vals 0 = _ := hd 0 (by decide +kernel)
            have d1 : vals 1 = _ := hd 1 (by decide +kernel)
            rw [d0, d1]
            go_simp
            go_at_call 13
            with_reducible refine (refPOf_c (h_a.below hS) (by decide) v_n _ _ H0.out).mono ?_
            rintro e w2 ⟨r0, r1, r2, r3, r4, r5, rfl, f0, bn_r⟩
            refine hK _ _ rfl bn_r ⟨_, _, _, _, _, _, rfl, f0⟩ (fun h => by cases h)
          · have z0 := (h_ra.below hS).c0
            have z1 := (h_ra.below hS).c1
            have z2 := (h_ra.below hS).c2
            go_simp
            refine hK _ _ rfl (Below.refl _ _) (by first | rfl | simp) (fun h => by cases h)
          · go_simp
            refine hK _ _ rfl (Below.refl _ _) (by first | rfl | simp) (fun h => by cases h)
          · have d3 : vals 3 = _ := hd 3 (by decide +kernel)
            have d4 : vals 4 = _ := hd 4 (by decide +kernel)
            rw [d3, d4]
            go_simp
            go_at_call 14
            with_reducible refine (refPScale_c (h_a.below hS) (by decide) v_m _ _ H1.out).mono ?_
            rintro e w2 ⟨r0, r1, r2, r3, r4, r5, rfl, f0, bn_r⟩
            refine hK _ _ rfl bn_r ⟨_, _, _, _, _, _, rfl, f0⟩ (fun h => by cases h)
          · go_simp
            refine hK _ _ rfl (below_new _ _) ⟨_, rfl, row4_new wr _ _ _ _ _ , hS.size⟩ (fun _ => ⟨_, rfl, Nat.le_refl _, by rw [World.size_alloc]; omega⟩)
          · go_simp
            refine hK _ _ rfl (below_new _ _) ⟨_, rfl, row4_new wr _ _ _ _ _ , hS.size⟩ (fun _ => ⟨_, rfl, Nat.le_refl _, by rw [World.size_alloc]; omega⟩)
        case hfin32 =>
          intro vals wr hS hP hne
          obtain ⟨A_2_0, n_2_1, n_2_2, A_2_3, n_2_4, n_2_5, ez_2, h_2_0⟩ := hP 2 (by decide)
          obtain ⟨A_5_0, n_5_1, n_5_2, A_5_3, n_5_4, n_5_5, ez_5, h_5_0⟩ := hP 5 (by decide)
          obtain ⟨n_6_0, ez_6, h_6_0, h_6_1⟩ := hP 6 (by decide)
          obtain ⟨n_7_0, ez_7, h_7_0, h_7_1⟩ := hP 7 (by decide)
          have ne_6_7 : n_6_0 ≠ n_7_0 := hne 6 7 (by decide) (by decide) (by decide) rfl rfl _ _ ez_6 ez_7
          have ne_7_6 : n_7_0 ≠ n_6_0 := hne 7 6 (by decide) (by decide) (by decide) rfl rfl _ _ ez_7 ez_6
          have v0_0 := Row4.c0 h_6_0
          have v0_1 := Row4.c1 h_6_0
          have v0_2 := Row4.c2 h_6_0
          have v0_3 := Row4.c3 h_6_0
          have y0_0 := Row4.free h_6_0 0
          have y0_1 := Row4.free h_6_0 1
          have y0_2 := Row4.free h_6_0 2
          have y0_3 := Row4.free h_6_0 3
          have v1_0 := Row4.c0 h_7_0
          have v1_1 := Row4.c1 h_7_0
          have v1_2 := Row4.c2 h_7_0
          have v1_3 := Row4.c3 h_7_0
          have y1_0 := Row4.free h_7_0 0
          have y1_1 := Row4.free h_7_0 1
          have y1_2 := Row4.free h_7_0 2
          have y1_3 := Row4.free h_7_0 3
          have bS := hS
          have hNo := Row4.noLimb h_6_0 (by intro v e; cases e) (by intro v e; cases e) (by intro v e; cases e) (by intro v e; cases e)
          replace h_2_0 := QQ.fillR4 h_2_0 hNo (.bool (sg (oTop r0))) (.slice A_2_0 n_2_1 n_2_2) (.slice A_2_3 n_2_4 n_2_5) (.int .i64 k0)
          replace h_5_0 := QQ.fillR4 h_5_0 hNo (.bool (sg (oTop r0))) (.slice A_2_0 n_2_1 n_2_2) (.slice A_2_3 n_2_4 n_2_5) (.int .i64 k0)
          replace h_7_0 := ((((h_7_0.set ne_6_7 0 (.bool (sg (oTop r0)))).set ne_6_7 1 (.slice A_2_0 n_2_1 n_2_2)).set ne_6_7 2 (.slice A_2_3 n_2_4 n_2_5)).set ne_6_7 3 (.int .i64 k0))
          have k_6 := Row4.fill h_6_0 (.bool (sg (oTop r0))) (.slice A_2_0 n_2_1 n_2_2) (.slice A_2_3 n_2_4 n_2_5) (.int .i64 k0)
          replace bS := below_fill4 bS h_6_1 (.bool (sg (oTop r0))) (.slice A_2_0 n_2_1 n_2_2) (.slice A_2_3 n_2_4 n_2_5) (.int .i64 k0)
          clear hNo
          have hNo := Row4.noLimb h_7_0 (by intro v e; cases e) (by intro v e; cases e) (by intro v e; cases e) (by intro v e; cases e)
          replace h_2_0 := QQ.fillR4 h_2_0 hNo (.bool (sg (oTop r1))) (.slice A_5_0 n_5_1 n_5_2) (.slice A_5_3 n_5_4 n_5_5) (.int .i64 k1)
          replace h_5_0 := QQ.fillR4 h_5_0 hNo (.bool (sg (oTop r1))) (.slice A_5_0 n_5_1 n_5_2) (.slice A_5_3 n_5_4 n_5_5) (.int .i64 k1)
          replace k_6 := ((((k_6.set ne_7_6 0 (.bool (sg (oTop r1)))).set ne_7_6 1 (.slice A_5_0 n_5_1 n_5_2)).set ne_7_6 2 (.slice A_5_3 n_5_4 n_5_5)).set ne_7_6 3 (.int .i64 k1))
          have k_7 := Row4.fill h_7_0 (.bool (sg (oTop r1))) (.slice A_5_0 n_5_1 n_5_2) (.slice A_5_3 n_5_4 n_5_5) (.int .i64 k1)
          replace bS := below_fill4 bS h_7_1 (.bool (sg (oTop r1))) (.slice A_5_0 n_5_1 n_5_2) (.slice A_5_3 n_5_4 n_5_5) (.int .i64 k1)
          clear hNo
          try dsimp only
          rw [ez_2, ez_5, ez_6, ez_7]
          refine wpAny_ready (rs := [8]) (by kernel_rfl) (by simp) (AllReady.cons rfl (fun KC hK => ?_) AllReady.nil)
          go_simp
          refine hK _ _ ?_
          clear hK KC
          refine wpAny_ready (rs := [9]) (by kernel_rfl) (by simp) (AllReady.cons rfl (fun KC hK => ?_) AllReady.nil)
          go_simp
          refine hK _ _ ?_
          clear hK KC
          refine wpAny_done (by kernel_rfl) ?_ _
          generalize (((((((wr.setCell ⟨n_6_0, 0, none⟩ (.bool (sg (oTop r0)))).setCell ⟨n_6_0, 1, none⟩ (.slice A_2_0 n_2_1 n_2_2)).setCell ⟨n_6_0, 2, none⟩ (.slice A_2_3 n_2_4 n_2_5)).setCell ⟨n_6_0, 3, none⟩ (.int .i64 k0)).setCell ⟨n_7_0, 0, none⟩ (.bool (sg (oTop r1)))).setCell ⟨n_7_0, 1, none⟩ (.slice A_5_0 n_5_1 n_5_2)).setCell ⟨n_7_0, 2, none⟩ (.slice A_5_3 n_5_4 n_5_5)).setCell ⟨n_7_0, 3, none⟩ (.int .i64 k1) = w38 at *
          clear hS v0_0 y0_0 v0_1 y0_1 v0_2 y0_2 v0_3 y0_3 v1_0 y1_0 v1_1 y1_1 v1_2 y1_2 v1_3 y1_3 ez_2 ez_5 ez_6 ez_7 h_6_0 h_6_1 h_7_0 h_7_1
          have bn := bS
          clear bS
          obtain ⟨q_gx, A_gx, n_gx, c_gx, B_gx, m_gx, d_gx, eg⟩ : ∃ q A n c B m d, (q, A, n, c, B, m, d) = (n_6_0, A_2_0, n_2_1, n_2_2, A_2_3, n_2_4, n_2_5) := ⟨_, _, _, _, _, _, _, rfl⟩
          injection eg with e1 eg; injection eg with e2 eg; injection eg with e3 eg; injection eg with e4 eg; injection eg with e5 eg; injection eg with e6 e7
          subst e1 e2 e3 e4 e5 e6 e7
          have h_gx := h_2_0
          have h_rgx := k_6
          clear h_2_0 k_6
          obtain ⟨q_gy, A_gy, n_gy, c_gy, B_gy, m_gy, d_gy, eg⟩ : ∃ q A n c B m d, (q, A, n, c, B, m, d) = (n_7_0, A_5_0, n_5_1, n_5_2, A_5_3, n_5_4, n_5_5) := ⟨_, _, _, _, _, _, _, rfl⟩
          injection eg with e1 eg; injection eg with e2 eg; injection eg with e3 eg; injection eg with e4 eg; injection eg with e5 eg; injection eg with e6 e7
          subst e1 e2 e3 e4 e5 e6 e7
          have h_gy := h_5_0
          have h_rgy := k_7
          clear h_5_0 k_7
          replace h_a := h_a.below bn
          replace h_ra := h_ra.below bn
          replace h_p := h_p.below bn
          replace h_rp := h_rp.below bn
          replace h_x := h_x.below bn
          replace h_rx := h_rx.below bn
          replace h_y := h_y.below bn
          replace h_ry := h_ry.below bn
          replace bw := below_two bw bn
          clear bn
          have c_x0 := h_rx.c0
          have c_x1 := h_rx.c1
          have c_x2 := h_rx.c2
          have c_gx0 := h_rgx.c0
          have c_gx1 := h_rgx.c1
          have c_gx2 := h_rgx.c2
          have c_gx3 := h_rgx.c3
          go_wp2_with fail
          clear c_x0 c_x1 c_x2 c_gx0 c_gx1 c_gx2 c_gx3
          refine (keepRat_c h_x h_gx (by decide) (by decide) true (keepQ rfl)).mono ?_
          rintro e w39 ⟨rfl, bn⟩
          replace h_a := h_a.below bn
          replace h_ra := h_ra.below bn
          replace h_p := h_p.below bn
          replace h_rp := h_rp.below bn
          replace h_x := h_x.below bn
          replace h_rx := h_rx.below bn
          replace h_y := h_y.below bn
          replace h_ry := h_ry.below bn
          replace h_gx := h_gx.below bn
          replace h_rgx := h_rgx.below bn
          replace h_gy := h_gy.below bn
          replace h_rgy := h_rgy.below bn
          replace bw := below_two bw bn
          clear bn
          have c_gx0 := h_rgx.c0
          have c_gx1 := h_rgx.c1
          have c_gx2 := h_rgx.c2
          have c_gx3 := h_rgx.c3
          have c_y0 := h_ry.c0
          have c_y1 := h_ry.c1
          have c_y2 := h_ry.c2
          have c_gy0 := h_rgy.c0
          have c_gy1 := h_rgy.c1
          have c_gy2 := h_rgy.c2
          have c_gy3 := h_rgy.c3
          go_wp2_with fail
          clear c_gx0 c_gx1 c_gx2 c_gx3 c_y0 c_y1 c_y2 c_gy0 c_gy1 c_gy2 c_gy3
          refine (keepRat_c h_y h_gy (by decide) (by decide) true (keepQ rfl)).mono ?_
          rintro e w40 ⟨rfl, bn⟩
          replace h_a := h_a.below bn
          replace h_ra := h_ra.below bn
          replace h_p := h_p.below bn
          replace h_rp := h_rp.below bn
          replace h_x := h_x.below bn
          replace h_rx := h_rx.below bn
          replace h_y := h_y.below bn
          replace h_ry := h_ry.below bn
          replace h_gx := h_gx.below bn
          replace h_rgx := h_rgx.below bn
          replace h_gy := h_gy.below bn
          replace h_rgy := h_rgy.below bn
          replace bw := below_two bw bn
          clear bn
          have c_gy0 := h_rgy.c0
          have c_gy1 := h_rgy.c1
          have c_gy2 := h_rgy.c2
          have c_gy3 := h_rgy.c3
          have c_p0 := h_rp.c0
          have c_p1 := h_rp.c1
          have c_p2 := h_rp.c2
          have c_a0 := h_ra.c0
          have c_a1 := h_ra.c1
          have c_a2 := h_ra.c2
          go_wp2_with fail
          clear c_gy0 c_gy1 c_gy2 c_gy3 c_p0 c_p1 c_p2 c_a0 c_a1 c_a2
          refine (keepRat_c h_p h_a (by decide) (by decide) true (keep_self3 _ _ _)).mono ?_
          rintro e w41 ⟨rfl, bn⟩
          replace h_a := h_a.below bn
          replace h_ra := h_ra.below bn
          replace h_p := h_p.below bn
          replace h_rp := h_rp.below bn
          replace h_x := h_x.below bn
          replace h_rx := h_rx.below bn
          replace h_y := h_y.below bn
          replace h_ry := h_ry.below bn
          replace h_gx := h_gx.below bn
          replace h_rgx := h_rgx.below bn
          replace h_gy := h_gy.below bn
          replace h_rgy := h_rgy.below bn
          replace bw := below_two bw bn
          clear bn
          go_wp2_with fail
          refine (wakes_any _).mono ?_
          rintro e w42 ⟨rfl, bn⟩
          replace h_a := h_a.below bn
          replace h_ra := h_ra.below bn
          replace h_p := h_p.below bn
          replace h_rp := h_rp.below bn
          replace h_x := h_x.below bn
          replace h_rx := h_rx.below bn
          replace h_y := h_y.below bn
          replace h_ry := h_ry.below bn
          replace h_gx := h_gx.below bn
          replace h_rgx := h_rgx.below bn
          replace h_gy := h_gy.below bn
          replace h_rgy := h_rgy.below bn
          replace bw := below_two bw bn
          clear bn
          go_wp2
          go_ret
          exact ⟨rfl, bw⟩
  · have q2 : (n_a : Int) ≤ 8 := by omega
    clear q1
    by_cases q3 : 8 < m_a
    · have q4 : (8 : Int) < m_a := by omega
      clear q3
      by_cases e1 : 3 < v_n
      · by_cases e2 : v_n ≤ 128
        · skip
          have e3 : -128 ≤ v_n := by omega
          have h_ra := row3_new w 27 (.bool g_a) (.slice A_a n_a c_a) (.slice B_a m_a d_a)
          have bn := below_new w (.cells #[Value.bool g_a, Value.slice A_a n_a c_a, Value.slice B_a m_a d_a] 27)
          replace h_a := h_a.below bn
          replace bw := below_two bw bn
          clear bn
          go_enter Try.func3, Try.ntmps3
          go_wp2_with fail
          generalize w.alloc (.cells #[Value.bool g_a, Value.slice A_a n_a c_a, Value.slice B_a m_a d_a] 27) = wP at *
          obtain ⟨q_a, eg⟩ : ∃ g, g = w.heap.size := ⟨_, rfl⟩
          rw [← eg] at h_ra ⊢
          clear eg
          refine (qlong_c g_a A_a B_a n_a c_a m_a d_a false T_a.out _).mono ?_
          rintro e w43 ⟨rfl, bn⟩
          replace h_a := h_a.below bn
          replace h_ra := h_ra.below bn
          replace bw := below_two bw bn
          clear bn
          have c_a0 := h_ra.c0
          have c_a1 := h_ra.c1
          have c_a2 := h_ra.c2
          go_wp2_with fail
          clear c_a0 c_a1 c_a2
          refine (wakes_any _).mono ?_
          rintro e w44 ⟨rfl, bn⟩
          replace h_a := h_a.below bn
          replace h_ra := h_ra.below bn
          replace bw := below_two bw bn
          clear bn
          go_wp2
          go_ret
          exact ⟨rfl, bw⟩
        · skip
          have e3 : 128 < v_n := by omega
          clear e2
          have h_ra := row3_new w 27 (.bool g_a) (.slice A_a n_a c_a) (.slice B_a m_a d_a)
          have bn := below_new w (.cells #[Value.bool g_a, Value.slice A_a n_a c_a, Value.slice B_a m_a d_a] 27)
          replace h_a := h_a.below bn
          replace bw := below_two bw bn
          clear bn
          go_enter Try.func3, Try.ntmps3
          go_wp2_with fail
          generalize w.alloc (.cells #[Value.bool g_a, Value.slice A_a n_a c_a, Value.slice B_a m_a d_a] 27) = wP at *
          obtain ⟨q_a, eg⟩ : ∃ g, g = w.heap.size := ⟨_, rfl⟩
          rw [← eg] at h_ra ⊢
          clear eg
          refine (qlong_c g_a A_a B_a n_a c_a m_a d_a false T_a.out _).mono ?_
          rintro e w45 ⟨rfl, bn⟩
          replace h_a := h_a.below bn
          replace h_ra := h_ra.below bn
          replace bw := below_two bw bn
          clear bn
          have c_a0 := h_ra.c0
          have c_a1 := h_ra.c1
          have c_a2 := h_ra.c2
          go_wp2_with fail
          clear c_a0 c_a1 c_a2
          refine (ownRat_c h_a (by decide)).mono ?_
          rintro e w46 ⟨A_p, n_p, c_p, B_p, m_p, d_p, rfl, h_p, bn⟩
          replace h_a := h_a.below bn
          replace h_ra := h_ra.below bn
          replace bw := below_two bw bn
          clear bn
          have h_rp := row3_new w46 27 (.bool g_a) (.slice A_p n_p c_p) (.slice B_p m_p d_p)
          have bn := below_new w46 (.cells #[Value.bool g_a, Value.slice A_p n_p c_p, Value.slice B_p m_p d_p] 27)
          replace h_a := h_a.below bn
          replace h_ra := h_ra.below bn
          replace h_p := h_p.below bn
          replace bw := below_two bw bn
          clear bn
          have c_p0 := h_rp.c0
          have c_p1 := h_rp.c1
          have c_p2 := h_rp.c2
          go_wp2_with fail
          clear c_p0 c_p1 c_p2
          generalize w46.alloc (.cells #[Value.bool g_a, Value.slice A_p n_p c_p, Value.slice B_p m_p d_p] 27) = w47 at *
          obtain ⟨q_p, eg⟩ : ∃ g, g = w46.heap.size := ⟨_, rfl⟩
          rw [← eg] at h_rp ⊢
          clear eg
          refine (pOf_c h_p (by decide) v_n _ _ H0.out).mono ?_
          rintro e w48 ⟨A_x, n_x, c_x, B_x, m_x, d_x, rfl, h_x, bn⟩
          replace h_a := h_a.below bn
          replace h_ra := h_ra.below bn
          replace h_p := h_p.below bn
          replace h_rp := h_rp.below bn
          replace bw := below_two bw bn
          clear bn
          have h_rx := row3_new w48 27 (.bool (sg (oTop r0))) (.slice A_x n_x c_x) (.slice B_x m_x d_x)
          have bn := below_new w48 (.cells #[Value.bool (sg (oTop r0)), Value.slice A_x n_x c_x, Value.slice B_x m_x d_x] 27)
          replace h_a := h_a.below bn
          replace h_ra := h_ra.below bn
          replace h_p := h_p.below bn
          replace h_rp := h_rp.below bn
          replace h_x := h_x.below bn
          replace bw := below_two bw bn
          clear bn
          have c_p0 := h_rp.c0
          have c_p1 := h_rp.c1
          have c_p2 := h_rp.c2
          go_wp2_with fail
          clear c_p0 c_p1 c_p2
          generalize w48.alloc (.cells #[Value.bool (sg (oTop r0)), Value.slice A_x n_x c_x, Value.slice B_x m_x d_x] 27) = w49 at *
          obtain ⟨q_x, eg⟩ : ∃ g, g = w48.heap.size := ⟨_, rfl⟩
          rw [← eg] at h_rx ⊢
          clear eg
          refine (pScale_c h_p (by decide) v_m _ _ H1.out).mono ?_
          rintro e w50 ⟨A_y, n_y, c_y, B_y, m_y, d_y, rfl, h_y, bn⟩
          replace h_a := h_a.below bn
          replace h_ra := h_ra.below bn
          replace h_p := h_p.below bn
          replace h_rp := h_rp.below bn
          replace h_x := h_x.below bn
          replace h_rx := h_rx.below bn
          replace bw := below_two bw bn
          clear bn
          have h_ry := row3_new w50 27 (.bool (sg (oTop r1))) (.slice A_y n_y c_y) (.slice B_y m_y d_y)
          have bn := below_new w50 (.cells #[Value.bool (sg (oTop r1)), Value.slice A_y n_y c_y, Value.slice B_y m_y d_y] 27)
          replace h_a := h_a.below bn
          replace h_ra := h_ra.below bn
          replace h_p := h_p.below bn
          replace h_rp := h_rp.below bn
          replace h_x := h_x.below bn
          replace h_rx := h_rx.below bn
          replace h_y := h_y.below bn
          replace bw := below_two bw bn
          clear bn
          go_wp2
          generalize w50.alloc (.cells #[Value.bool (sg (oTop r1)), Value.slice A_y n_y c_y, Value.slice B_y m_y d_y] 27) = w51 at *
          obtain ⟨q_y, eg⟩ : ∃ g, g = w50.heap.size := ⟨_, rfl⟩
          rw [← eg] at h_ry ⊢
          clear eg
          generalize w51 = wS at *
          refine region_freed 8 2 6 [60, 61, 62, 63, 64, 65, 12, 13] ?aF33 (fun wx => Below wS.heap.size wS wx) (fun k vv wx => match k with
              | 0 => vv = .agg #[.bool g_a, .slice A_a n_a c_a, .slice B_a m_a d_a]
              | 1 => vv = .int .i64 v_n
              | 2 => ∃ (e0 : Option Addr) (e1 : Nat) (e2 : Nat) (e3 : Option Addr) (e4 : Nat) (e5 : Nat), vv = .agg #[.bool (sg (oTop r0)), .slice e0 e1 e2, .slice e3 e4 e5, .int .i64 k0] ∧ QT wx e0 e1 e2 e3 e4 e5 r0
              | 3 => vv = .agg #[.bool g_a, .slice A_a n_a c_a, .slice B_a m_a d_a]
              | 4 => vv = .int .i64 v_m
              | 5 => ∃ (e0 : Option Addr) (e1 : Nat) (e2 : Nat) (e3 : Option Addr) (e4 : Nat) (e5 : Nat), vv = .agg #[.bool (sg (oTop r1)), .slice e0 e1 e2, .slice e3 e4 e5, .int .i64 k1] ∧ QT wx e0 e1 e2 e3 e4 e5 r1
              | 6 => ∃ (e0 : Nat), vv = .pointer (some ⟨e0, 0, none⟩) ∧ Row4 wx e0 35 (.bool false) (.slice none 0 0) (.slice none 0 0) (.int .i64 0) ∧ Over wS e0 wx
              | _ => ∃ (e0 : Nat), vv = .pointer (some ⟨e0, 0, none⟩) ∧ Row4 wx e0 35 (.bool false) (.slice none 0 0) (.slice none 0 0) (.int .i64 0) ∧ Over wS e0 wx)
            (fun k => k == 6 || k == 7) (by kernel_rfl) ?haF33 rfl (by kernel_rfl) (by kernel_rfl) (fun _ _ _ _ _ h => h) ?hSb33 ?hPb33 ?hS33 ?hop33 ?hfin33
          case haF33 =>
            intro vals
            simp only [fillAll, List.getElem?_cons_zero, List.getElem?_cons_succ, Act.put, List.setIfInBounds_toArray, List.set_cons_zero, List.set_cons_succ]
            exact rfl
          case hSb33 => exact fun wx w2 hb hS => below_two hS hb
          case hPb33 =>
            intro k v wa wb hb h
            match k, h with
            | 0, h => exact h
            | 1, h => exact h
            | 2, ⟨e0, e1, e2, e3, e4, e5, h1, g0⟩ => exact ⟨e0, e1, e2, e3, e4, e5, h1, g0.below hb⟩
            | 3, h => exact h
            | 4, h => exact h
            | 5, ⟨e0, e1, e2, e3, e4, e5, h1, g0⟩ => exact ⟨e0, e1, e2, e3, e4, e5, h1, g0.below hb⟩
            | 6, ⟨e0, h1, g0, g1⟩ => exact ⟨e0, h1, g0.below hb, g1.below hb⟩
            | _ + 7, ⟨e0, h1, g0, g1⟩ => exact ⟨e0, h1, g0.below hb, g1.below hb⟩
          case hS33 => exact (Below.refl _ _).drew
          case hop33 =>
            refine .cons (k := 0) (.plain rfl ?_) (.cons (k := 1) (.plain rfl ?_) (.cons (k := 2) (.plain rfl ?_) (.cons (k := 3) (.plain rfl ?_) (.cons (k := 4) (.plain rfl ?_) (.cons (k := 5) (.plain rfl ?_) (.cons (k := 6) (.plain rfl ?_) (.cons (k := 7) (.plain rfl ?_) (.nil))))))))
            all_goals intro vals wr hS hd KC hK
            all_goals (show Oper.wp _ _ _ _ _ _; dsimp only)
            · have z0 := (h_ra.below hS).c0
              have z1 := (h_ra.below hS).c1
              have z2 := (h_ra.below hS).c2
              go_simp
              refine hK _ _ rfl (Below.refl _ _) (by first | rfl | simp) (fun h => by cases h)
            · go_simp
              refine hK _ _ rfl (Below.refl _ _) (by first | rfl | simp) (fun h => by cases h)
            · have d0 : vals 0 = _ := hd 0 (by decide +kernel)
              have d1 : vals 1 = _ := hd 1 (by decide +kernel)
              rw [d0, d1]
              go_simp
              go_at_call 13
              with_reducible refine (refPOf_c (h_a.below hS) (by decide) v_n _ _ H0.out).mono ?_
              rintro e w2 ⟨r0, r1, r2, r3, r4, r5, rfl, f0, bn_r⟩
              refine hK _ _ rfl bn_r ⟨_, _, _, _, _, _, rfl, f0⟩ (fun h => by cases h)
            · have z0 := (h_ra.below hS).c0
              have z1 := (h_ra.below hS).c1
              have z2 := (h_ra.below hS).c2
              go_simp
              refine hK _ _ rfl (Below.refl _ _) (by first | rfl | simp) (fun h => by cases h)
            · go_simp
              refine hK _ _ rfl (Below.refl _ _) (by first | rfl | simp) (fun h => by cases h)
            · have d3 : vals 3 = _ := hd 3 (by decide +kernel)
              have d4 : vals 4 = _ := hd 4 (by decide +kernel)
              rw [d3, d4]
              go_simp
              go_at_call 14
              with_reducible refine (refPScale_c (h_a.below hS) (by decide) v_m _ _ H1.out).mono ?_
              rintro e w2 ⟨r0, r1, r2, r3, r4, r5, rfl, f0, bn_r⟩
              refine hK _ _ rfl bn_r ⟨_, _, _, _, _, _, rfl, f0⟩ (fun h => by cases h)
            · go_simp
              refine hK _ _ rfl (below_new _ _) ⟨_, rfl, row4_new wr _ _ _ _ _ , hS.size⟩ (fun _ => ⟨_, rfl, Nat.le_refl _, by rw [World.size_alloc]; omega⟩)
            · go_simp
              refine hK _ _ rfl (below_new _ _) ⟨_, rfl, row4_new wr _ _ _ _ _ , hS.size⟩ (fun _ => ⟨_, rfl, Nat.le_refl _, by rw [World.size_alloc]; omega⟩)
          case hfin33 =>
            intro vals wr hS hP hne
            obtain ⟨A_2_0, n_2_1, n_2_2, A_2_3, n_2_4, n_2_5, ez_2, h_2_0⟩ := hP 2 (by decide)
            obtain ⟨A_5_0, n_5_1, n_5_2, A_5_3, n_5_4, n_5_5, ez_5, h_5_0⟩ := hP 5 (by decide)
            obtain ⟨n_6_0, ez_6, h_6_0, h_6_1⟩ := hP 6 (by decide)
            obtain ⟨n_7_0, ez_7, h_7_0, h_7_1⟩ := hP 7 (by decide)
            have ne_6_7 : n_6_0 ≠ n_7_0 := hne 6 7 (by decide) (by decide) (by decide) rfl rfl _ _ ez_6 ez_7
            have ne_7_6 : n_7_0 ≠ n_6_0 := hne 7 6 (by decide) (by decide) (by decide) rfl rfl _ _ ez_7 ez_6
            have v0_0 := Row4.c0 h_6_0
            have v0_1 := Row4.c1 h_6_0
            have v0_2 := Row4.c2 h_6_0
            have v0_3 := Row4.c3 h_6_0
            have y0_0 := Row4.free h_6_0 0
            have y0_1 := Row4.free h_6_0 1
            have y0_2 := Row4.free h_6_0 2
            have y0_3 := Row4.free h_6_0 3
            have v1_0 := Row4.c0 h_7_0
            have v1_1 := Row4.c1 h_7_0
            have v1_2 := Row4.c2 h_7_0
            have v1_3 := Row4.c3 h_7_0
            have y1_0 := Row4.free h_7_0 0
            have y1_1 := Row4.free h_7_0 1
            have y1_2 := Row4.free h_7_0 2
            have y1_3 := Row4.free h_7_0 3
            have bS := hS
            have hNo := Row4.noLimb h_6_0 (by intro v e; cases e) (by intro v e; cases e) (by intro v e; cases e) (by intro v e; cases e)
            replace h_2_0 := QQ.fillR4 h_2_0 hNo (.bool (sg (oTop r0))) (.slice A_2_0 n_2_1 n_2_2) (.slice A_2_3 n_2_4 n_2_5) (.int .i64 k0)
            replace h_5_0 := QQ.fillR4 h_5_0 hNo (.bool (sg (oTop r0))) (.slice A_2_0 n_2_1 n_2_2) (.slice A_2_3 n_2_4 n_2_5) (.int .i64 k0)
            replace h_7_0 := ((((h_7_0.set ne_6_7 0 (.bool (sg (oTop r0)))).set ne_6_7 1 (.slice A_2_0 n_2_1 n_2_2)).set ne_6_7 2 (.slice A_2_3 n_2_4 n_2_5)).set ne_6_7 3 (.int .i64 k0))
            have k_6 := Row4.fill h_6_0 (.bool (sg (oTop r0))) (.slice A_2_0 n_2_1 n_2_2) (.slice A_2_3 n_2_4 n_2_5) (.int .i64 k0)
            replace bS := below_fill4 bS h_6_1 (.bool (sg (oTop r0))) (.slice A_2_0 n_2_1 n_2_2) (.slice A_2_3 n_2_4 n_2_5) (.int .i64 k0)
            clear hNo
            have hNo := Row4.noLimb h_7_0 (by intro v e; cases e) (by intro v e; cases e) (by intro v e; cases e) (by intro v e; cases e)
            replace h_2_0 := QQ.fillR4 h_2_0 hNo (.bool (sg (oTop r1))) (.slice A_5_0 n_5_1 n_5_2) (.slice A_5_3 n_5_4 n_5_5) (.int .i64 k1)
            replace h_5_0 := QQ.fillR4 h_5_0 hNo (.bool (sg (oTop r1))) (.slice A_5_0 n_5_1 n_5_2) (.slice A_5_3 n_5_4 n_5_5) (.int .i64 k1)
            replace k_6 := ((((k_6.set ne_7_6 0 (.bool (sg (oTop r1)))).set ne_7_6 1 (.slice A_5_0 n_5_1 n_5_2)).set ne_7_6 2 (.slice A_5_3 n_5_4 n_5_5)).set ne_7_6 3 (.int .i64 k1))
            have k_7 := Row4.fill h_7_0 (.bool (sg (oTop r1))) (.slice A_5_0 n_5_1 n_5_2) (.slice A_5_3 n_5_4 n_5_5) (.int .i64 k1)
            replace bS := below_fill4 bS h_7_1 (.bool (sg (oTop r1))) (.slice A_5_0 n_5_1 n_5_2) (.slice A_5_3 n_5_4 n_5_5) (.int .i64 k1)
            clear hNo
            try dsimp only
            rw [ez_2, ez_5, ez_6, ez_7]
            refine wpAny_ready (rs := [8]) (by kernel_rfl) (by simp) (AllReady.cons rfl (fun KC hK => ?_) AllReady.nil)
            go_simp
            refine hK _ _ ?_
            clear hK KC
            refine wpAny_ready (rs := [9]) (by kernel_rfl) (by simp) (AllReady.cons rfl (fun KC hK => ?_) AllReady.nil)
            go_simp
            refine hK _ _ ?_
            clear hK KC
            refine wpAny_done (by kernel_rfl) ?_ _
            generalize (((((((wr.setCell ⟨n_6_0, 0, none⟩ (.bool (sg (oTop r0)))).setCell ⟨n_6_0, 1, none⟩ (.slice A_2_0 n_2_1 n_2_2)).setCell ⟨n_6_0, 2, none⟩ (.slice A_2_3 n_2_4 n_2_5)).setCell ⟨n_6_0, 3, none⟩ (.int .i64 k0)).setCell ⟨n_7_0, 0, none⟩ (.bool (sg (oTop r1)))).setCell ⟨n_7_0, 1, none⟩ (.slice A_5_0 n_5_1 n_5_2)).setCell ⟨n_7_0, 2, none⟩ (.slice A_5_3 n_5_4 n_5_5)).setCell ⟨n_7_0, 3, none⟩ (.int .i64 k1) = w52 at *
            clear hS v0_0 y0_0 v0_1 y0_1 v0_2 y0_2 v0_3 y0_3 v1_0 y1_0 v1_1 y1_1 v1_2 y1_2 v1_3 y1_3 ez_2 ez_5 ez_6 ez_7 h_6_0 h_6_1 h_7_0 h_7_1
            have bn := bS
            clear bS
            obtain ⟨q_gx, A_gx, n_gx, c_gx, B_gx, m_gx, d_gx, eg⟩ : ∃ q A n c B m d, (q, A, n, c, B, m, d) = (n_6_0, A_2_0, n_2_1, n_2_2, A_2_3, n_2_4, n_2_5) := ⟨_, _, _, _, _, _, _, rfl⟩
            injection eg with e1 eg; injection eg with e2 eg; injection eg with e3 eg; injection eg with e4 eg; injection eg with e5 eg; injection eg with e6 e7
            subst e1 e2 e3 e4 e5 e6 e7
            have h_gx := h_2_0
            have h_rgx := k_6
            clear h_2_0 k_6
            obtain ⟨q_gy, A_gy, n_gy, c_gy, B_gy, m_gy, d_gy, eg⟩ : ∃ q A n c B m d, (q, A, n, c, B, m, d) = (n_7_0, A_5_0, n_5_1, n_5_2, A_5_3, n_5_4, n_5_5) := ⟨_, _, _, _, _, _, _, rfl⟩
            injection eg with e1 eg; injection eg with e2 eg; injection eg with e3 eg; injection eg with e4 eg; injection eg with e5 eg; injection eg with e6 e7
            subst e1 e2 e3 e4 e5 e6 e7
            have h_gy := h_5_0
            have h_rgy := k_7
            clear h_5_0 k_7
            replace h_a := h_a.below bn
            replace h_ra := h_ra.below bn
            replace h_p := h_p.below bn
            replace h_rp := h_rp.below bn
            replace h_x := h_x.below bn
            replace h_rx := h_rx.below bn
            replace h_y := h_y.below bn
            replace h_ry := h_ry.below bn
            replace bw := below_two bw bn
            clear bn
            have c_x0 := h_rx.c0
            have c_x1 := h_rx.c1
            have c_x2 := h_rx.c2
            have c_gx0 := h_rgx.c0
            have c_gx1 := h_rgx.c1
            have c_gx2 := h_rgx.c2
            have c_gx3 := h_rgx.c3
            go_wp2_with fail
            clear c_x0 c_x1 c_x2 c_gx0 c_gx1 c_gx2 c_gx3
            refine (keepRat_c h_x h_gx (by decide) (by decide) true (keepQ rfl)).mono ?_
            rintro e w53 ⟨rfl, bn⟩
            replace h_a := h_a.below bn
            replace h_ra := h_ra.below bn
            replace h_p := h_p.below bn
            replace h_rp := h_rp.below bn
            replace h_x := h_x.below bn
            replace h_rx := h_rx.below bn
            replace h_y := h_y.below bn
            replace h_ry := h_ry.below bn
            replace h_gx := h_gx.below bn
            replace h_rgx := h_rgx.below bn
            replace h_gy := h_gy.below bn
            replace h_rgy := h_rgy.below bn
            replace bw := below_two bw bn
            clear bn
            have c_gx0 := h_rgx.c0
            have c_gx1 := h_rgx.c1
            have c_gx2 := h_rgx.c2
            have c_gx3 := h_rgx.c3
            have c_y0 := h_ry.c0
            have c_y1 := h_ry.c1
            have c_y2 := h_ry.c2
            have c_gy0 := h_rgy.c0
            have c_gy1 := h_rgy.c1
            have c_gy2 := h_rgy.c2
            have c_gy3 := h_rgy.c3
            go_wp2_with fail
            clear c_gx0 c_gx1 c_gx2 c_gx3 c_y0 c_y1 c_y2 c_gy0 c_gy1 c_gy2 c_gy3
            refine (keepRat_c h_y h_gy (by decide) (by decide) true (keepQ rfl)).mono ?_
            rintro e w54 ⟨rfl, bn⟩
            replace h_a := h_a.below bn
            replace h_ra := h_ra.below bn
            replace h_p := h_p.below bn
            replace h_rp := h_rp.below bn
            replace h_x := h_x.below bn
            replace h_rx := h_rx.below bn
            replace h_y := h_y.below bn
            replace h_ry := h_ry.below bn
            replace h_gx := h_gx.below bn
            replace h_rgx := h_rgx.below bn
            replace h_gy := h_gy.below bn
            replace h_rgy := h_rgy.below bn
            replace bw := below_two bw bn
            clear bn
            have c_gy0 := h_rgy.c0
            have c_gy1 := h_rgy.c1
            have c_gy2 := h_rgy.c2
            have c_gy3 := h_rgy.c3
            have c_p0 := h_rp.c0
            have c_p1 := h_rp.c1
            have c_p2 := h_rp.c2
            have c_a0 := h_ra.c0
            have c_a1 := h_ra.c1
            have c_a2 := h_ra.c2
            go_wp2_with fail
            clear c_gy0 c_gy1 c_gy2 c_gy3 c_p0 c_p1 c_p2 c_a0 c_a1 c_a2
            refine (keepRat_c h_p h_a (by decide) (by decide) true (keep_self3 _ _ _)).mono ?_
            rintro e w55 ⟨rfl, bn⟩
            replace h_a := h_a.below bn
            replace h_ra := h_ra.below bn
            replace h_p := h_p.below bn
            replace h_rp := h_rp.below bn
            replace h_x := h_x.below bn
            replace h_rx := h_rx.below bn
            replace h_y := h_y.below bn
            replace h_ry := h_ry.below bn
            replace h_gx := h_gx.below bn
            replace h_rgx := h_rgx.below bn
            replace h_gy := h_gy.below bn
            replace h_rgy := h_rgy.below bn
            replace bw := below_two bw bn
            clear bn
            go_wp2_with fail
            refine (wakes_any _).mono ?_
            rintro e w56 ⟨rfl, bn⟩
            replace h_a := h_a.below bn
            replace h_ra := h_ra.below bn
            replace h_p := h_p.below bn
            replace h_rp := h_rp.below bn
            replace h_x := h_x.below bn
            replace h_rx := h_rx.below bn
            replace h_y := h_y.below bn
            replace h_ry := h_ry.below bn
            replace h_gx := h_gx.below bn
            replace h_rgx := h_rgx.below bn
            replace h_gy := h_gy.below bn
            replace h_rgy := h_rgy.below bn
            replace bw := below_two bw bn
            clear bn
            go_wp2
            go_ret
            exact ⟨rfl, bw⟩
      · have e4 : v_n ≤ 3 := by omega
        clear e1
        by_cases e2 : v_n < -3
        · by_cases e3 : -128 ≤ v_n
          · skip
            have e5 : v_n ≤ 128 := by omega
            have h_ra := row3_new w 27 (.bool g_a) (.slice A_a n_a c_a) (.slice B_a m_a d_a)
            have bn := below_new w (.cells #[Value.bool g_a, Value.slice A_a n_a c_a, Value.slice B_a m_a d_a] 27)
            replace h_a := h_a.below bn
            replace bw := below_two bw bn
            clear bn
            go_enter Try.func3, Try.ntmps3
            go_wp2_with fail
            generalize w.alloc (.cells #[Value.bool g_a, Value.slice A_a n_a c_a, Value.slice B_a m_a d_a] 27) = wP at *
            obtain ⟨q_a, eg⟩ : ∃ g, g = w.heap.size := ⟨_, rfl⟩
            rw [← eg] at h_ra ⊢
            clear eg
            refine (qlong_c g_a A_a B_a n_a c_a m_a d_a false T_a.out _).mono ?_
            rintro e w57 ⟨rfl, bn⟩
            replace h_a := h_a.below bn
            replace h_ra := h_ra.below bn
            replace bw := below_two bw bn
            clear bn
            have c_a0 := h_ra.c0
            have c_a1 := h_ra.c1
            have c_a2 := h_ra.c2
            go_wp2_with fail
            clear c_a0 c_a1 c_a2
            refine (wakes_any _).mono ?_
            rintro e w58 ⟨rfl, bn⟩
            replace h_a := h_a.below bn
            replace h_ra := h_ra.below bn
            replace bw := below_two bw bn
            clear bn
            go_wp2
            go_ret
            exact ⟨rfl, bw⟩
          · skip
            have e5 : v_n < -128 := by omega
            have e6 : v_n ≤ 128 := by omega
            clear e3
            have h_ra := row3_new w 27 (.bool g_a) (.slice A_a n_a c_a) (.slice B_a m_a d_a)
            have bn := below_new w (.cells #[Value.bool g_a, Value.slice A_a n_a c_a, Value.slice B_a m_a d_a] 27)
            replace h_a := h_a.below bn
            replace bw := below_two bw bn
            clear bn
            go_enter Try.func3, Try.ntmps3
            go_wp2_with fail
            generalize w.alloc (.cells #[Value.bool g_a, Value.slice A_a n_a c_a, Value.slice B_a m_a d_a] 27) = wP at *
            obtain ⟨q_a, eg⟩ : ∃ g, g = w.heap.size := ⟨_, rfl⟩
            rw [← eg] at h_ra ⊢
            clear eg
            refine (qlong_c g_a A_a B_a n_a c_a m_a d_a false T_a.out _).mono ?_
            rintro e w59 ⟨rfl, bn⟩
            replace h_a := h_a.below bn
            replace h_ra := h_ra.below bn
            replace bw := below_two bw bn
            clear bn
            have c_a0 := h_ra.c0
            have c_a1 := h_ra.c1
            have c_a2 := h_ra.c2
            go_wp2_with fail
            clear c_a0 c_a1 c_a2
            refine (ownRat_c h_a (by decide)).mono ?_
            rintro e w60 ⟨A_p, n_p, c_p, B_p, m_p, d_p, rfl, h_p, bn⟩
            replace h_a := h_a.below bn
            replace h_ra := h_ra.below bn
            replace bw := below_two bw bn
            clear bn
            have h_rp := row3_new w60 27 (.bool g_a) (.slice A_p n_p c_p) (.slice B_p m_p d_p)
            have bn := below_new w60 (.cells #[Value.bool g_a, Value.slice A_p n_p c_p, Value.slice B_p m_p d_p] 27)
            replace h_a := h_a.below bn
            replace h_ra := h_ra.below bn
            replace h_p := h_p.below bn
            replace bw := below_two bw bn
            clear bn
            have c_p0 := h_rp.c0
            have c_p1 := h_rp.c1
            have c_p2 := h_rp.c2
            go_wp2_with fail
            clear c_p0 c_p1 c_p2
            generalize w60.alloc (.cells #[Value.bool g_a, Value.slice A_p n_p c_p, Value.slice B_p m_p d_p] 27) = w61 at *
            obtain ⟨q_p, eg⟩ : ∃ g, g = w60.heap.size := ⟨_, rfl⟩
            rw [← eg] at h_rp ⊢
            clear eg
            refine (pOf_c h_p (by decide) v_n _ _ H0.out).mono ?_
            rintro e w62 ⟨A_x, n_x, c_x, B_x, m_x, d_x, rfl, h_x, bn⟩
            replace h_a := h_a.below bn
            replace h_ra := h_ra.below bn
            replace h_p := h_p.below bn
            replace h_rp := h_rp.below bn
            replace bw := below_two bw bn
            clear bn
            have h_rx := row3_new w62 27 (.bool (sg (oTop r0))) (.slice A_x n_x c_x) (.slice B_x m_x d_x)
            have bn := below_new w62 (.cells #[Value.bool (sg (oTop r0)), Value.slice A_x n_x c_x, Value.slice B_x m_x d_x] 27)
            replace h_a := h_a.below bn
            replace h_ra := h_ra.below bn
            replace h_p := h_p.below bn
            replace h_rp := h_rp.below bn
            replace h_x := h_x.below bn
            replace bw := below_two bw bn
            clear bn
            have c_p0 := h_rp.c0
            have c_p1 := h_rp.c1
            have c_p2 := h_rp.c2
            go_wp2_with fail
            clear c_p0 c_p1 c_p2
            generalize w62.alloc (.cells #[Value.bool (sg (oTop r0)), Value.slice A_x n_x c_x, Value.slice B_x m_x d_x] 27) = w63 at *
            obtain ⟨q_x, eg⟩ : ∃ g, g = w62.heap.size := ⟨_, rfl⟩
            rw [← eg] at h_rx ⊢
            clear eg
            refine (pScale_c h_p (by decide) v_m _ _ H1.out).mono ?_
            rintro e w64 ⟨A_y, n_y, c_y, B_y, m_y, d_y, rfl, h_y, bn⟩
            replace h_a := h_a.below bn
            replace h_ra := h_ra.below bn
            replace h_p := h_p.below bn
            replace h_rp := h_rp.below bn
            replace h_x := h_x.below bn
            replace h_rx := h_rx.below bn
            replace bw := below_two bw bn
            clear bn
            have h_ry := row3_new w64 27 (.bool (sg (oTop r1))) (.slice A_y n_y c_y) (.slice B_y m_y d_y)
            have bn := below_new w64 (.cells #[Value.bool (sg (oTop r1)), Value.slice A_y n_y c_y, Value.slice B_y m_y d_y] 27)
            replace h_a := h_a.below bn
            replace h_ra := h_ra.below bn
            replace h_p := h_p.below bn
            replace h_rp := h_rp.below bn
            replace h_x := h_x.below bn
            replace h_rx := h_rx.below bn
            replace h_y := h_y.below bn
            replace bw := below_two bw bn
            clear bn
            go_wp2
            generalize w64.alloc (.cells #[Value.bool (sg (oTop r1)), Value.slice A_y n_y c_y, Value.slice B_y m_y d_y] 27) = w65 at *
            obtain ⟨q_y, eg⟩ : ∃ g, g = w64.heap.size := ⟨_, rfl⟩
            rw [← eg] at h_ry ⊢
            clear eg
            generalize w65 = wS at *
            refine region_freed 8 2 6 [60, 61, 62, 63, 64, 65, 12, 13] ?aF34 (fun wx => Below wS.heap.size wS wx) (fun k vv wx => match k with
                | 0 => vv = .agg #[.bool g_a, .slice A_a n_a c_a, .slice B_a m_a d_a]
                | 1 => vv = .int .i64 v_n
                | 2 => ∃ (e0 : Option Addr) (e1 : Nat) (e2 : Nat) (e3 : Option Addr) (e4 : Nat) (e5 : Nat), vv = .agg #[.bool (sg (oTop r0)), .slice e0 e1 e2, .slice e3 e4 e5, .int .i64 k0] ∧ QT wx e0 e1 e2 e3 e4 e5 r0
                | 3 => vv = .agg #[.bool g_a, .slice A_a n_a c_a, .slice B_a m_a d_a]
                | 4 => vv = .int .i64 v_m
                | 5 => ∃ (e0 : Option Addr) (e1 : Nat) (e2 : Nat) (e3 : Option Addr) (e4 : Nat) (e5 : Nat), vv = .agg #[.bool (sg (oTop r1)), .slice e0 e1 e2, .slice e3 e4 e5, .int .i64 k1] ∧ QT wx e0 e1 e2 e3 e4 e5 r1
                | 6 => ∃ (e0 : Nat), vv = .pointer (some ⟨e0, 0, none⟩) ∧ Row4 wx e0 35 (.bool false) (.slice none 0 0) (.slice none 0 0) (.int .i64 0) ∧ Over wS e0 wx
                | _ => ∃ (e0 : Nat), vv = .pointer (some ⟨e0, 0, none⟩) ∧ Row4 wx e0 35 (.bool false) (.slice none 0 0) (.slice none 0 0) (.int .i64 0) ∧ Over wS e0 wx)
              (fun k => k == 6 || k == 7) (by kernel_rfl) ?haF34 rfl (by kernel_rfl) (by kernel_rfl) (fun _ _ _ _ _ h => h) ?hSb34 ?hPb34 ?hS34 ?hop34 ?hfin34
            case haF34 =>
              intro vals
              simp only [fillAll, List.getElem?_cons_zero, List.getElem?_cons_succ, Act.put, List.setIfInBounds_toArray, List.set_cons_zero, List.set_cons_succ]
              exact rfl
            case hSb34 => exact fun wx w2 hb hS => below_two hS hb
            case hPb34 =>
              intro k v wa wb hb h
              match k, h with
              | 0, h => exact h
              | 1, h => exact h
              | 2, ⟨e0, e1, e2, e3, e4, e5, h1, g0⟩ => exact ⟨e0, e1, e2, e3, e4, e5, h1, g0.below hb⟩
              | 3, h => exact h
              | 4, h => exact h
              | 5, ⟨e0, e1, e2, e3, e4, e5, h1, g0⟩ => exact ⟨e0, e1, e2, e3, e4, e5, h1, g0.below hb⟩
              | 6, ⟨e0, h1, g0, g1⟩ => exact ⟨e0, h1, g0.below hb, g1.below hb⟩
              | _ + 7, ⟨e0, h1, g0, g1⟩ => exact ⟨e0, h1, g0.below hb, g1.below hb⟩
            case hS34 => exact (Below.refl _ _).drew
            case hop34 =>
              refine .cons (k := 0) (.plain rfl ?_) (.cons (k := 1) (.plain rfl ?_) (.cons (k := 2) (.plain rfl ?_) (.cons (k := 3) (.plain rfl ?_) (.cons (k := 4) (.plain rfl ?_) (.cons (k := 5) (.plain rfl ?_) (.cons (k := 6) (.plain rfl ?_) (.cons (k := 7) (.plain rfl ?_) (.nil))))))))
              all_goals intro vals wr hS hd KC hK
              all_goals (show Oper.wp _ _ _ _ _ _; dsimp only)
              · have z0 := (h_ra.below hS).c0
                have z1 := (h_ra.below hS).c1
                have z2 := (h_ra.below hS).c2
                go_simp
                refine hK _ _ rfl (Below.refl _ _) (by first | rfl | simp) (fun h => by cases h)
              · go_simp
                refine hK _ _ rfl (Below.refl _ _) (by first | rfl | simp) (fun h => by cases h)
              · have d0 : vals 0 = _ := hd 0 (by decide +kernel)
                have d1 : vals 1 = _ := hd 1 (by decide +kernel)
                rw [d0, d1]
                go_simp
                go_at_call 13
                with_reducible refine (refPOf_c (h_a.below hS) (by decide) v_n _ _ H0.out).mono ?_
                rintro e w2 ⟨r0, r1, r2, r3, r4, r5, rfl, f0, bn_r⟩
                refine hK _ _ rfl bn_r ⟨_, _, _, _, _, _, rfl, f0⟩ (fun h => by cases h)
              · have z0 := (h_ra.below hS).c0
                have z1 := (h_ra.below hS).c1
                have z2 := (h_ra.below hS).c2
                go_simp
                refine hK _ _ rfl (Below.refl _ _) (by first | rfl | simp) (fun h => by cases h)
              · go_simp
                refine hK _ _ rfl (Below.refl _ _) (by first | rfl | simp) (fun h => by cases h)
              · have d3 : vals 3 = _ := hd 3 (by decide +kernel)
                have d4 : vals 4 = _ := hd 4 (by decide +kernel)
                rw [d3, d4]
                go_simp
                go_at_call 14
                with_reducible refine (refPScale_c (h_a.below hS) (by decide) v_m _ _ H1.out).mono ?_
                rintro e w2 ⟨r0, r1, r2, r3, r4, r5, rfl, f0, bn_r⟩
                refine hK _ _ rfl bn_r ⟨_, _, _, _, _, _, rfl, f0⟩ (fun h => by cases h)
              · go_simp
                refine hK _ _ rfl (below_new _ _) ⟨_, rfl, row4_new wr _ _ _ _ _ , hS.size⟩ (fun _ => ⟨_, rfl, Nat.le_refl _, by rw [World.size_alloc]; omega⟩)
              · go_simp
                refine hK _ _ rfl (below_new _ _) ⟨_, rfl, row4_new wr _ _ _ _ _ , hS.size⟩ (fun _ => ⟨_, rfl, Nat.le_refl _, by rw [World.size_alloc]; omega⟩)
            case hfin34 =>
              intro vals wr hS hP hne
              obtain ⟨A_2_0, n_2_1, n_2_2, A_2_3, n_2_4, n_2_5, ez_2, h_2_0⟩ := hP 2 (by decide)
              obtain ⟨A_5_0, n_5_1, n_5_2, A_5_3, n_5_4, n_5_5, ez_5, h_5_0⟩ := hP 5 (by decide)
              obtain ⟨n_6_0, ez_6, h_6_0, h_6_1⟩ := hP 6 (by decide)
              obtain ⟨n_7_0, ez_7, h_7_0, h_7_1⟩ := hP 7 (by decide)
              have ne_6_7 : n_6_0 ≠ n_7_0 := hne 6 7 (by decide) (by decide) (by decide) rfl rfl _ _ ez_6 ez_7
              have ne_7_6 : n_7_0 ≠ n_6_0 := hne 7 6 (by decide) (by decide) (by decide) rfl rfl _ _ ez_7 ez_6
              have v0_0 := Row4.c0 h_6_0
              have v0_1 := Row4.c1 h_6_0
              have v0_2 := Row4.c2 h_6_0
              have v0_3 := Row4.c3 h_6_0
              have y0_0 := Row4.free h_6_0 0
              have y0_1 := Row4.free h_6_0 1
              have y0_2 := Row4.free h_6_0 2
              have y0_3 := Row4.free h_6_0 3
              have v1_0 := Row4.c0 h_7_0
              have v1_1 := Row4.c1 h_7_0
              have v1_2 := Row4.c2 h_7_0
              have v1_3 := Row4.c3 h_7_0
              have y1_0 := Row4.free h_7_0 0
              have y1_1 := Row4.free h_7_0 1
              have y1_2 := Row4.free h_7_0 2
              have y1_3 := Row4.free h_7_0 3
              have bS := hS
              have hNo := Row4.noLimb h_6_0 (by intro v e; cases e) (by intro v e; cases e) (by intro v e; cases e) (by intro v e; cases e)
              replace h_2_0 := QQ.fillR4 h_2_0 hNo (.bool (sg (oTop r0))) (.slice A_2_0 n_2_1 n_2_2) (.slice A_2_3 n_2_4 n_2_5) (.int .i64 k0)
              replace h_5_0 := QQ.fillR4 h_5_0 hNo (.bool (sg (oTop r0))) (.slice A_2_0 n_2_1 n_2_2) (.slice A_2_3 n_2_4 n_2_5) (.int .i64 k0)
              replace h_7_0 := ((((h_7_0.set ne_6_7 0 (.bool (sg (oTop r0)))).set ne_6_7 1 (.slice A_2_0 n_2_1 n_2_2)).set ne_6_7 2 (.slice A_2_3 n_2_4 n_2_5)).set ne_6_7 3 (.int .i64 k0))
              have k_6 := Row4.fill h_6_0 (.bool (sg (oTop r0))) (.slice A_2_0 n_2_1 n_2_2) (.slice A_2_3 n_2_4 n_2_5) (.int .i64 k0)
              replace bS := below_fill4 bS h_6_1 (.bool (sg (oTop r0))) (.slice A_2_0 n_2_1 n_2_2) (.slice A_2_3 n_2_4 n_2_5) (.int .i64 k0)
              clear hNo
              have hNo := Row4.noLimb h_7_0 (by intro v e; cases e) (by intro v e; cases e) (by intro v e; cases e) (by intro v e; cases e)
              replace h_2_0 := QQ.fillR4 h_2_0 hNo (.bool (sg (oTop r1))) (.slice A_5_0 n_5_1 n_5_2) (.slice A_5_3 n_5_4 n_5_5) (.int .i64 k1)
              replace h_5_0 := QQ.fillR4 h_5_0 hNo (.bool (sg (oTop r1))) (.slice A_5_0 n_5_1 n_5_2) (.slice A_5_3 n_5_4 n_5_5) (.int .i64 k1)
              replace k_6 := ((((k_6.set ne_7_6 0 (.bool (sg (oTop r1)))).set ne_7_6 1 (.slice A_5_0 n_5_1 n_5_2)).set ne_7_6 2 (.slice A_5_3 n_5_4 n_5_5)).set ne_7_6 3 (.int .i64 k1))
              have k_7 := Row4.fill h_7_0 (.bool (sg (oTop r1))) (.slice A_5_0 n_5_1 n_5_2) (.slice A_5_3 n_5_4 n_5_5) (.int .i64 k1)
              replace bS := below_fill4 bS h_7_1 (.bool (sg (oTop r1))) (.slice A_5_0 n_5_1 n_5_2) (.slice A_5_3 n_5_4 n_5_5) (.int .i64 k1)
              clear hNo
              try dsimp only
              rw [ez_2, ez_5, ez_6, ez_7]
              refine wpAny_ready (rs := [8]) (by kernel_rfl) (by simp) (AllReady.cons rfl (fun KC hK => ?_) AllReady.nil)
              go_simp
              refine hK _ _ ?_
              clear hK KC
              refine wpAny_ready (rs := [9]) (by kernel_rfl) (by simp) (AllReady.cons rfl (fun KC hK => ?_) AllReady.nil)
              go_simp
              refine hK _ _ ?_
              clear hK KC
              refine wpAny_done (by kernel_rfl) ?_ _
              generalize (((((((wr.setCell ⟨n_6_0, 0, none⟩ (.bool (sg (oTop r0)))).setCell ⟨n_6_0, 1, none⟩ (.slice A_2_0 n_2_1 n_2_2)).setCell ⟨n_6_0, 2, none⟩ (.slice A_2_3 n_2_4 n_2_5)).setCell ⟨n_6_0, 3, none⟩ (.int .i64 k0)).setCell ⟨n_7_0, 0, none⟩ (.bool (sg (oTop r1)))).setCell ⟨n_7_0, 1, none⟩ (.slice A_5_0 n_5_1 n_5_2)).setCell ⟨n_7_0, 2, none⟩ (.slice A_5_3 n_5_4 n_5_5)).setCell ⟨n_7_0, 3, none⟩ (.int .i64 k1) = w66 at *
              clear hS v0_0 y0_0 v0_1 y0_1 v0_2 y0_2 v0_3 y0_3 v1_0 y1_0 v1_1 y1_1 v1_2 y1_2 v1_3 y1_3 ez_2 ez_5 ez_6 ez_7 h_6_0 h_6_1 h_7_0 h_7_1
              have bn := bS
              clear bS
              obtain ⟨q_gx, A_gx, n_gx, c_gx, B_gx, m_gx, d_gx, eg⟩ : ∃ q A n c B m d, (q, A, n, c, B, m, d) = (n_6_0, A_2_0, n_2_1, n_2_2, A_2_3, n_2_4, n_2_5) := ⟨_, _, _, _, _, _, _, rfl⟩
              injection eg with e1 eg; injection eg with e2 eg; injection eg with e3 eg; injection eg with e4 eg; injection eg with e5 eg; injection eg with e6 e7
              subst e1 e2 e3 e4 e5 e6 e7
              have h_gx := h_2_0
              have h_rgx := k_6
              clear h_2_0 k_6
              obtain ⟨q_gy, A_gy, n_gy, c_gy, B_gy, m_gy, d_gy, eg⟩ : ∃ q A n c B m d, (q, A, n, c, B, m, d) = (n_7_0, A_5_0, n_5_1, n_5_2, A_5_3, n_5_4, n_5_5) := ⟨_, _, _, _, _, _, _, rfl⟩
              injection eg with e1 eg; injection eg with e2 eg; injection eg with e3 eg; injection eg with e4 eg; injection eg with e5 eg; injection eg with e6 e7
              subst e1 e2 e3 e4 e5 e6 e7
              have h_gy := h_5_0
              have h_rgy := k_7
              clear h_5_0 k_7
              replace h_a := h_a.below bn
              replace h_ra := h_ra.below bn
              replace h_p := h_p.below bn
              replace h_rp := h_rp.below bn
              replace h_x := h_x.below bn
              replace h_rx := h_rx.below bn
              replace h_y := h_y.below bn
              replace h_ry := h_ry.below bn
              replace bw := below_two bw bn
              clear bn
              have c_x0 := h_rx.c0
              have c_x1 := h_rx.c1
              have c_x2 := h_rx.c2
              have c_gx0 := h_rgx.c0
              have c_gx1 := h_rgx.c1
              have c_gx2 := h_rgx.c2
              have c_gx3 := h_rgx.c3
              go_wp2_with fail
              clear c_x0 c_x1 c_x2 c_gx0 c_gx1 c_gx2 c_gx3
              refine (keepRat_c h_x h_gx (by decide) (by decide) true (keepQ rfl)).mono ?_
              rintro e w67 ⟨rfl, bn⟩
              replace h_a := h_a.below bn
              replace h_ra := h_ra.below bn
              replace h_p := h_p.below bn
              replace h_rp := h_rp.below bn
              replace h_x := h_x.below bn
              replace h_rx := h_rx.below bn
              replace h_y := h_y.below bn
              replace h_ry := h_ry.below bn
              replace h_gx := h_gx.below bn
              replace h_rgx := h_rgx.below bn
              replace h_gy := h_gy.below bn
              replace h_rgy := h_rgy.below bn
              replace bw := below_two bw bn
              clear bn
              have c_gx0 := h_rgx.c0
              have c_gx1 := h_rgx.c1
              have c_gx2 := h_rgx.c2
              have c_gx3 := h_rgx.c3
              have c_y0 := h_ry.c0
              have c_y1 := h_ry.c1
              have c_y2 := h_ry.c2
              have c_gy0 := h_rgy.c0
              have c_gy1 := h_rgy.c1
              have c_gy2 := h_rgy.c2
              have c_gy3 := h_rgy.c3
              go_wp2_with fail
              clear c_gx0 c_gx1 c_gx2 c_gx3 c_y0 c_y1 c_y2 c_gy0 c_gy1 c_gy2 c_gy3
              refine (keepRat_c h_y h_gy (by decide) (by decide) true (keepQ rfl)).mono ?_
              rintro e w68 ⟨rfl, bn⟩
              replace h_a := h_a.below bn
              replace h_ra := h_ra.below bn
              replace h_p := h_p.below bn
              replace h_rp := h_rp.below bn
              replace h_x := h_x.below bn
              replace h_rx := h_rx.below bn
              replace h_y := h_y.below bn
              replace h_ry := h_ry.below bn
              replace h_gx := h_gx.below bn
              replace h_rgx := h_rgx.below bn
              replace h_gy := h_gy.below bn
              replace h_rgy := h_rgy.below bn
              replace bw := below_two bw bn
              clear bn
              have c_gy0 := h_rgy.c0
              have c_gy1 := h_rgy.c1
              have c_gy2 := h_rgy.c2
              have c_gy3 := h_rgy.c3
              have c_p0 := h_rp.c0
              have c_p1 := h_rp.c1
              have c_p2 := h_rp.c2
              have c_a0 := h_ra.c0
              have c_a1 := h_ra.c1
              have c_a2 := h_ra.c2
              go_wp2_with fail
              clear c_gy0 c_gy1 c_gy2 c_gy3 c_p0 c_p1 c_p2 c_a0 c_a1 c_a2
              refine (keepRat_c h_p h_a (by decide) (by decide) true (keep_self3 _ _ _)).mono ?_
              rintro e w69 ⟨rfl, bn⟩
              replace h_a := h_a.below bn
              replace h_ra := h_ra.below bn
              replace h_p := h_p.below bn
              replace h_rp := h_rp.below bn
              replace h_x := h_x.below bn
              replace h_rx := h_rx.below bn
              replace h_y := h_y.below bn
              replace h_ry := h_ry.below bn
              replace h_gx := h_gx.below bn
              replace h_rgx := h_rgx.below bn
              replace h_gy := h_gy.below bn
              replace h_rgy := h_rgy.below bn
              replace bw := below_two bw bn
              clear bn
              go_wp2_with fail
              refine (wakes_any _).mono ?_
              rintro e w70 ⟨rfl, bn⟩
              replace h_a := h_a.below bn
              replace h_ra := h_ra.below bn
              replace h_p := h_p.below bn
              replace h_rp := h_rp.below bn
              replace h_x := h_x.below bn
              replace h_rx := h_rx.below bn
              replace h_y := h_y.below bn
              replace h_ry := h_ry.below bn
              replace h_gx := h_gx.below bn
              replace h_rgx := h_rgx.below bn
              replace h_gy := h_gy.below bn
              replace h_rgy := h_rgy.below bn
              replace bw := below_two bw bn
              clear bn
              go_wp2
              go_ret
              exact ⟨rfl, bw⟩
        · skip
          have e3 : -3 ≤ v_n := by omega
          clear e2
          have h_ra := row3_new w 27 (.bool g_a) (.slice A_a n_a c_a) (.slice B_a m_a d_a)
          have bn := below_new w (.cells #[Value.bool g_a, Value.slice A_a n_a c_a, Value.slice B_a m_a d_a] 27)
          replace h_a := h_a.below bn
          replace bw := below_two bw bn
          clear bn
          go_enter Try.func3, Try.ntmps3
          go_wp2_with fail
          generalize w.alloc (.cells #[Value.bool g_a, Value.slice A_a n_a c_a, Value.slice B_a m_a d_a] 27) = wP at *
          obtain ⟨q_a, eg⟩ : ∃ g, g = w.heap.size := ⟨_, rfl⟩
          rw [← eg] at h_ra ⊢
          clear eg
          refine (qlong_c g_a A_a B_a n_a c_a m_a d_a false T_a.out _).mono ?_
          rintro e w71 ⟨rfl, bn⟩
          replace h_a := h_a.below bn
          replace h_ra := h_ra.below bn
          replace bw := below_two bw bn
          clear bn
          have c_a0 := h_ra.c0
          have c_a1 := h_ra.c1
          have c_a2 := h_ra.c2
          go_wp2_with fail
          clear c_a0 c_a1 c_a2
          refine (ownRat_c h_a (by decide)).mono ?_
          rintro e w72 ⟨A_p, n_p, c_p, B_p, m_p, d_p, rfl, h_p, bn⟩
          replace h_a := h_a.below bn
          replace h_ra := h_ra.below bn
          replace bw := below_two bw bn
          clear bn
          have h_rp := row3_new w72 27 (.bool g_a) (.slice A_p n_p c_p) (.slice B_p m_p d_p)
          have bn := below_new w72 (.cells #[Value.bool g_a, Value.slice A_p n_p c_p, Value.slice B_p m_p d_p] 27)
          replace h_a := h_a.below bn
          replace h_ra := h_ra.below bn
          replace h_p := h_p.below bn
          replace bw := below_two bw bn
          clear bn
          have c_p0 := h_rp.c0
          have c_p1 := h_rp.c1
          have c_p2 := h_rp.c2
          go_wp2_with fail
          clear c_p0 c_p1 c_p2
          generalize w72.alloc (.cells #[Value.bool g_a, Value.slice A_p n_p c_p, Value.slice B_p m_p d_p] 27) = w73 at *
          obtain ⟨q_p, eg⟩ : ∃ g, g = w72.heap.size := ⟨_, rfl⟩
          rw [← eg] at h_rp ⊢
          clear eg
          refine (pOf_c h_p (by decide) v_n _ _ H0.out).mono ?_
          rintro e w74 ⟨A_x, n_x, c_x, B_x, m_x, d_x, rfl, h_x, bn⟩
          replace h_a := h_a.below bn
          replace h_ra := h_ra.below bn
          replace h_p := h_p.below bn
          replace h_rp := h_rp.below bn
          replace bw := below_two bw bn
          clear bn
          have h_rx := row3_new w74 27 (.bool (sg (oTop r0))) (.slice A_x n_x c_x) (.slice B_x m_x d_x)
          have bn := below_new w74 (.cells #[Value.bool (sg (oTop r0)), Value.slice A_x n_x c_x, Value.slice B_x m_x d_x] 27)
          replace h_a := h_a.below bn
          replace h_ra := h_ra.below bn
          replace h_p := h_p.below bn
          replace h_rp := h_rp.below bn
          replace h_x := h_x.below bn
          replace bw := below_two bw bn
          clear bn
          have c_p0 := h_rp.c0
          have c_p1 := h_rp.c1
          have c_p2 := h_rp.c2
          go_wp2_with fail
          clear c_p0 c_p1 c_p2
          generalize w74.alloc (.cells #[Value.bool (sg (oTop r0)), Value.slice A_x n_x c_x, Value.slice B_x m_x d_x] 27) = w75 at *
          obtain ⟨q_x, eg⟩ : ∃ g, g = w74.heap.size := ⟨_, rfl⟩
          rw [← eg] at h_rx ⊢
          clear eg
          refine (pScale_c h_p (by decide) v_m _ _ H1.out).mono ?_
          rintro e w76 ⟨A_y, n_y, c_y, B_y, m_y, d_y, rfl, h_y, bn⟩
          replace h_a := h_a.below bn
          replace h_ra := h_ra.below bn
          replace h_p := h_p.below bn
          replace h_rp := h_rp.below bn
          replace h_x := h_x.below bn
          replace h_rx := h_rx.below bn
          replace bw := below_two bw bn
          clear bn
          have h_ry := row3_new w76 27 (.bool (sg (oTop r1))) (.slice A_y n_y c_y) (.slice B_y m_y d_y)
          have bn := below_new w76 (.cells #[Value.bool (sg (oTop r1)), Value.slice A_y n_y c_y, Value.slice B_y m_y d_y] 27)
          replace h_a := h_a.below bn
          replace h_ra := h_ra.below bn
          replace h_p := h_p.below bn
          replace h_rp := h_rp.below bn
          replace h_x := h_x.below bn
          replace h_rx := h_rx.below bn
          replace h_y := h_y.below bn
          replace bw := below_two bw bn
          clear bn
          go_wp2
          generalize w76.alloc (.cells #[Value.bool (sg (oTop r1)), Value.slice A_y n_y c_y, Value.slice B_y m_y d_y] 27) = w77 at *
          obtain ⟨q_y, eg⟩ : ∃ g, g = w76.heap.size := ⟨_, rfl⟩
          rw [← eg] at h_ry ⊢
          clear eg
          generalize w77 = wS at *
          refine region_freed 8 2 6 [60, 61, 62, 63, 64, 65, 12, 13] ?aF35 (fun wx => Below wS.heap.size wS wx) (fun k vv wx => match k with
              | 0 => vv = .agg #[.bool g_a, .slice A_a n_a c_a, .slice B_a m_a d_a]
              | 1 => vv = .int .i64 v_n
              | 2 => ∃ (e0 : Option Addr) (e1 : Nat) (e2 : Nat) (e3 : Option Addr) (e4 : Nat) (e5 : Nat), vv = .agg #[.bool (sg (oTop r0)), .slice e0 e1 e2, .slice e3 e4 e5, .int .i64 k0] ∧ QT wx e0 e1 e2 e3 e4 e5 r0
              | 3 => vv = .agg #[.bool g_a, .slice A_a n_a c_a, .slice B_a m_a d_a]
              | 4 => vv = .int .i64 v_m
              | 5 => ∃ (e0 : Option Addr) (e1 : Nat) (e2 : Nat) (e3 : Option Addr) (e4 : Nat) (e5 : Nat), vv = .agg #[.bool (sg (oTop r1)), .slice e0 e1 e2, .slice e3 e4 e5, .int .i64 k1] ∧ QT wx e0 e1 e2 e3 e4 e5 r1
              | 6 => ∃ (e0 : Nat), vv = .pointer (some ⟨e0, 0, none⟩) ∧ Row4 wx e0 35 (.bool false) (.slice none 0 0) (.slice none 0 0) (.int .i64 0) ∧ Over wS e0 wx
              | _ => ∃ (e0 : Nat), vv = .pointer (some ⟨e0, 0, none⟩) ∧ Row4 wx e0 35 (.bool false) (.slice none 0 0) (.slice none 0 0) (.int .i64 0) ∧ Over wS e0 wx)
            (fun k => k == 6 || k == 7) (by kernel_rfl) ?haF35 rfl (by kernel_rfl) (by kernel_rfl) (fun _ _ _ _ _ h => h) ?hSb35 ?hPb35 ?hS35 ?hop35 ?hfin35
          case haF35 =>
            intro vals
            simp only [fillAll, List.getElem?_cons_zero, List.getElem?_cons_succ, Act.put, List.setIfInBounds_toArray, List.set_cons_zero, List.set_cons_succ]
            exact rfl
          case hSb35 => exact fun wx w2 hb hS => below_two hS hb
          case hPb35 =>
            intro k v wa wb hb h
            match k, h with
            | 0, h => exact h
            | 1, h => exact h
            | 2, ⟨e0, e1, e2, e3, e4, e5, h1, g0⟩ => exact ⟨e0, e1, e2, e3, e4, e5, h1, g0.below hb⟩
            | 3, h => exact h
            | 4, h => exact h
            | 5, ⟨e0, e1, e2, e3, e4, e5, h1, g0⟩ => exact ⟨e0, e1, e2, e3, e4, e5, h1, g0.below hb⟩
            | 6, ⟨e0, h1, g0, g1⟩ => exact ⟨e0, h1, g0.below hb, g1.below hb⟩
            | _ + 7, ⟨e0, h1, g0, g1⟩ => exact ⟨e0, h1, g0.below hb, g1.below hb⟩
          case hS35 => exact (Below.refl _ _).drew
          case hop35 =>
            refine .cons (k := 0) (.plain rfl ?_) (.cons (k := 1) (.plain rfl ?_) (.cons (k := 2) (.plain rfl ?_) (.cons (k := 3) (.plain rfl ?_) (.cons (k := 4) (.plain rfl ?_) (.cons (k := 5) (.plain rfl ?_) (.cons (k := 6) (.plain rfl ?_) (.cons (k := 7) (.plain rfl ?_) (.nil))))))))
            all_goals intro vals wr hS hd KC hK
            all_goals (show Oper.wp _ _ _ _ _ _; dsimp only)
            · have z0 := (h_ra.below hS).c0
              have z1 := (h_ra.below hS).c1
              have z2 := (h_ra.below hS).c2
              go_simp
              refine hK _ _ rfl (Below.refl _ _) (by first | rfl | simp) (fun h => by cases h)
            · go_simp
              refine hK _ _ rfl (Below.refl _ _) (by first | rfl | simp) (fun h => by cases h)
            · have d0 : vals 0 = _ := hd 0 (by decide +kernel)
              have d1 : vals 1 = _ := hd 1 (by decide +kernel)
              rw [d0, d1]
              go_simp
              go_at_call 13
              with_reducible refine (refPOf_c (h_a.below hS) (by decide) v_n _ _ H0.out).mono ?_
              rintro e w2 ⟨r0, r1, r2, r3, r4, r5, rfl, f0, bn_r⟩
              refine hK _ _ rfl bn_r ⟨_, _, _, _, _, _, rfl, f0⟩ (fun h => by cases h)
            · have z0 := (h_ra.below hS).c0
              have z1 := (h_ra.below hS).c1
              have z2 := (h_ra.below hS).c2
              go_simp
              refine hK _ _ rfl (Below.refl _ _) (by first | rfl | simp) (fun h => by cases h)
            · go_simp
              refine hK _ _ rfl (Below.refl _ _) (by first | rfl | simp) (fun h => by cases h)
            · have d3 : vals 3 = _ := hd 3 (by decide +kernel)
              have d4 : vals 4 = _ := hd 4 (by decide +kernel)
              rw [d3, d4]
              go_simp
              go_at_call 14
              with_reducible refine (refPScale_c (h_a.below hS) (by decide) v_m _ _ H1.out).mono ?_
              rintro e w2 ⟨r0, r1, r2, r3, r4, r5, rfl, f0, bn_r⟩
              refine hK _ _ rfl bn_r ⟨_, _, _, _, _, _, rfl, f0⟩ (fun h => by cases h)
            · go_simp
              refine hK _ _ rfl (below_new _ _) ⟨_, rfl, row4_new wr _ _ _ _ _ , hS.size⟩ (fun _ => ⟨_, rfl, Nat.le_refl _, by rw [World.size_alloc]; omega⟩)
            · go_simp
              refine hK _ _ rfl (below_new _ _) ⟨_, rfl, row4_new wr _ _ _ _ _ , hS.size⟩ (fun _ => ⟨_, rfl, Nat.le_refl _, by rw [World.size_alloc]; omega⟩)
          case hfin35 =>
            intro vals wr hS hP hne
            obtain ⟨A_2_0, n_2_1, n_2_2, A_2_3, n_2_4, n_2_5, ez_2, h_2_0⟩ := hP 2 (by decide)
            obtain ⟨A_5_0, n_5_1, n_5_2, A_5_3, n_5_4, n_5_5, ez_5, h_5_0⟩ := hP 5 (by decide)
            obtain ⟨n_6_0, ez_6, h_6_0, h_6_1⟩ := hP 6 (by decide)
            obtain ⟨n_7_0, ez_7, h_7_0, h_7_1⟩ := hP 7 (by decide)
            have ne_6_7 : n_6_0 ≠ n_7_0 := hne 6 7 (by decide) (by decide) (by decide) rfl rfl _ _ ez_6 ez_7
            have ne_7_6 : n_7_0 ≠ n_6_0 := hne 7 6 (by decide) (by decide) (by decide) rfl rfl _ _ ez_7 ez_6
            have v0_0 := Row4.c0 h_6_0
            have v0_1 := Row4.c1 h_6_0
            have v0_2 := Row4.c2 h_6_0
            have v0_3 := Row4.c3 h_6_0
            have y0_0 := Row4.free h_6_0 0
            have y0_1 := Row4.free h_6_0 1
            have y0_2 := Row4.free h_6_0 2
            have y0_3 := Row4.free h_6_0 3
            have v1_0 := Row4.c0 h_7_0
            have v1_1 := Row4.c1 h_7_0
            have v1_2 := Row4.c2 h_7_0
            have v1_3 := Row4.c3 h_7_0
            have y1_0 := Row4.free h_7_0 0
            have y1_1 := Row4.free h_7_0 1
            have y1_2 := Row4.free h_7_0 2
            have y1_3 := Row4.free h_7_0 3
            have bS := hS
            have hNo := Row4.noLimb h_6_0 (by intro v e; cases e) (by intro v e; cases e) (by intro v e; cases e) (by intro v e; cases e)
            replace h_2_0 := QQ.fillR4 h_2_0 hNo (.bool (sg (oTop r0))) (.slice A_2_0 n_2_1 n_2_2) (.slice A_2_3 n_2_4 n_2_5) (.int .i64 k0)
            replace h_5_0 := QQ.fillR4 h_5_0 hNo (.bool (sg (oTop r0))) (.slice A_2_0 n_2_1 n_2_2) (.slice A_2_3 n_2_4 n_2_5) (.int .i64 k0)
            replace h_7_0 := ((((h_7_0.set ne_6_7 0 (.bool (sg (oTop r0)))).set ne_6_7 1 (.slice A_2_0 n_2_1 n_2_2)).set ne_6_7 2 (.slice A_2_3 n_2_4 n_2_5)).set ne_6_7 3 (.int .i64 k0))
            have k_6 := Row4.fill h_6_0 (.bool (sg (oTop r0))) (.slice A_2_0 n_2_1 n_2_2) (.slice A_2_3 n_2_4 n_2_5) (.int .i64 k0)
            replace bS := below_fill4 bS h_6_1 (.bool (sg (oTop r0))) (.slice A_2_0 n_2_1 n_2_2) (.slice A_2_3 n_2_4 n_2_5) (.int .i64 k0)
            clear hNo
            have hNo := Row4.noLimb h_7_0 (by intro v e; cases e) (by intro v e; cases e) (by intro v e; cases e) (by intro v e; cases e)
            replace h_2_0 := QQ.fillR4 h_2_0 hNo (.bool (sg (oTop r1))) (.slice A_5_0 n_5_1 n_5_2) (.slice A_5_3 n_5_4 n_5_5) (.int .i64 k1)
            replace h_5_0 := QQ.fillR4 h_5_0 hNo (.bool (sg (oTop r1))) (.slice A_5_0 n_5_1 n_5_2) (.slice A_5_3 n_5_4 n_5_5) (.int .i64 k1)
            replace k_6 := ((((k_6.set ne_7_6 0 (.bool (sg (oTop r1)))).set ne_7_6 1 (.slice A_5_0 n_5_1 n_5_2)).set ne_7_6 2 (.slice A_5_3 n_5_4 n_5_5)).set ne_7_6 3 (.int .i64 k1))
            have k_7 := Row4.fill h_7_0 (.bool (sg (oTop r1))) (.slice A_5_0 n_5_1 n_5_2) (.slice A_5_3 n_5_4 n_5_5) (.int .i64 k1)
            replace bS := below_fill4 bS h_7_1 (.bool (sg (oTop r1))) (.slice A_5_0 n_5_1 n_5_2) (.slice A_5_3 n_5_4 n_5_5) (.int .i64 k1)
            clear hNo
            try dsimp only
            rw [ez_2, ez_5, ez_6, ez_7]
            refine wpAny_ready (rs := [8]) (by kernel_rfl) (by simp) (AllReady.cons rfl (fun KC hK => ?_) AllReady.nil)
            go_simp
            refine hK _ _ ?_
            clear hK KC
            refine wpAny_ready (rs := [9]) (by kernel_rfl) (by simp) (AllReady.cons rfl (fun KC hK => ?_) AllReady.nil)
            go_simp
            refine hK _ _ ?_
            clear hK KC
            refine wpAny_done (by kernel_rfl) ?_ _
            generalize (((((((wr.setCell ⟨n_6_0, 0, none⟩ (.bool (sg (oTop r0)))).setCell ⟨n_6_0, 1, none⟩ (.slice A_2_0 n_2_1 n_2_2)).setCell ⟨n_6_0, 2, none⟩ (.slice A_2_3 n_2_4 n_2_5)).setCell ⟨n_6_0, 3, none⟩ (.int .i64 k0)).setCell ⟨n_7_0, 0, none⟩ (.bool (sg (oTop r1)))).setCell ⟨n_7_0, 1, none⟩ (.slice A_5_0 n_5_1 n_5_2)).setCell ⟨n_7_0, 2, none⟩ (.slice A_5_3 n_5_4 n_5_5)).setCell ⟨n_7_0, 3, none⟩ (.int .i64 k1) = w78 at *
            clear hS v0_0 y0_0 v0_1 y0_1 v0_2 y0_2 v0_3 y0_3 v1_0 y1_0 v1_1 y1_1 v1_2 y1_2 v1_3 y1_3 ez_2 ez_5 ez_6 ez_7 h_6_0 h_6_1 h_7_0 h_7_1
            have bn := bS
            clear bS
            obtain ⟨q_gx, A_gx, n_gx, c_gx, B_gx, m_gx, d_gx, eg⟩ : ∃ q A n c B m d, (q, A, n, c, B, m, d) = (n_6_0, A_2_0, n_2_1, n_2_2, A_2_3, n_2_4, n_2_5) := ⟨_, _, _, _, _, _, _, rfl⟩
            injection eg with e1 eg; injection eg with e2 eg; injection eg with e3 eg; injection eg with e4 eg; injection eg with e5 eg; injection eg with e6 e7
            subst e1 e2 e3 e4 e5 e6 e7
            have h_gx := h_2_0
            have h_rgx := k_6
            clear h_2_0 k_6
            obtain ⟨q_gy, A_gy, n_gy, c_gy, B_gy, m_gy, d_gy, eg⟩ : ∃ q A n c B m d, (q, A, n, c, B, m, d) = (n_7_0, A_5_0, n_5_1, n_5_2, A_5_3, n_5_4, n_5_5) := ⟨_, _, _, _, _, _, _, rfl⟩
            injection eg with e1 eg; injection eg with e2 eg; injection eg with e3 eg; injection eg with e4 eg; injection eg with e5 eg; injection eg with e6 e7
            subst e1 e2 e3 e4 e5 e6 e7
            have h_gy := h_5_0
            have h_rgy := k_7
            clear h_5_0 k_7
            replace h_a := h_a.below bn
            replace h_ra := h_ra.below bn
            replace h_p := h_p.below bn
            replace h_rp := h_rp.below bn
            replace h_x := h_x.below bn
            replace h_rx := h_rx.below bn
            replace h_y := h_y.below bn
            replace h_ry := h_ry.below bn
            replace bw := below_two bw bn
            clear bn
            have c_x0 := h_rx.c0
            have c_x1 := h_rx.c1
            have c_x2 := h_rx.c2
            have c_gx0 := h_rgx.c0
            have c_gx1 := h_rgx.c1
            have c_gx2 := h_rgx.c2
            have c_gx3 := h_rgx.c3
            go_wp2_with fail
            clear c_x0 c_x1 c_x2 c_gx0 c_gx1 c_gx2 c_gx3
            refine (keepRat_c h_x h_gx (by decide) (by decide) true (keepQ rfl)).mono ?_
            rintro e w79 ⟨rfl, bn⟩
            replace h_a := h_a.below bn
            replace h_ra := h_ra.below bn
            replace h_p := h_p.below bn
            replace h_rp := h_rp.below bn
            replace h_x := h_x.below bn
            replace h_rx := h_rx.below bn
            replace h_y := h_y.below bn
            replace h_ry := h_ry.below bn
            replace h_gx := h_gx.below bn
            replace h_rgx := h_rgx.below bn
            replace h_gy := h_gy.below bn
            replace h_rgy := h_rgy.below bn
            replace bw := below_two bw bn
            clear bn
            have c_gx0 := h_rgx.c0
            have c_gx1 := h_rgx.c1
            have c_gx2 := h_rgx.c2
            have c_gx3 := h_rgx.c3
            have c_y0 := h_ry.c0
            have c_y1 := h_ry.c1
            have c_y2 := h_ry.c2
            have c_gy0 := h_rgy.c0
            have c_gy1 := h_rgy.c1
            have c_gy2 := h_rgy.c2
            have c_gy3 := h_rgy.c3
            go_wp2_with fail
            clear c_gx0 c_gx1 c_gx2 c_gx3 c_y0 c_y1 c_y2 c_gy0 c_gy1 c_gy2 c_gy3
            refine (keepRat_c h_y h_gy (by decide) (by decide) true (keepQ rfl)).mono ?_
            rintro e w80 ⟨rfl, bn⟩
            replace h_a := h_a.below bn
            replace h_ra := h_ra.below bn
            replace h_p := h_p.below bn
            replace h_rp := h_rp.below bn
            replace h_x := h_x.below bn
            replace h_rx := h_rx.below bn
            replace h_y := h_y.below bn
            replace h_ry := h_ry.below bn
            replace h_gx := h_gx.below bn
            replace h_rgx := h_rgx.below bn
            replace h_gy := h_gy.below bn
            replace h_rgy := h_rgy.below bn
            replace bw := below_two bw bn
            clear bn
            have c_gy0 := h_rgy.c0
            have c_gy1 := h_rgy.c1
            have c_gy2 := h_rgy.c2
            have c_gy3 := h_rgy.c3
            have c_p0 := h_rp.c0
            have c_p1 := h_rp.c1
            have c_p2 := h_rp.c2
            have c_a0 := h_ra.c0
            have c_a1 := h_ra.c1
            have c_a2 := h_ra.c2
            go_wp2_with fail
            clear c_gy0 c_gy1 c_gy2 c_gy3 c_p0 c_p1 c_p2 c_a0 c_a1 c_a2
            refine (keepRat_c h_p h_a (by decide) (by decide) true (keep_self3 _ _ _)).mono ?_
            rintro e w81 ⟨rfl, bn⟩
            replace h_a := h_a.below bn
            replace h_ra := h_ra.below bn
            replace h_p := h_p.below bn
            replace h_rp := h_rp.below bn
            replace h_x := h_x.below bn
            replace h_rx := h_rx.below bn
            replace h_y := h_y.below bn
            replace h_ry := h_ry.below bn
            replace h_gx := h_gx.below bn
            replace h_rgx := h_rgx.below bn
            replace h_gy := h_gy.below bn
            replace h_rgy := h_rgy.below bn
            replace bw := below_two bw bn
            clear bn
            go_wp2_with fail
            refine (wakes_any _).mono ?_
            rintro e w82 ⟨rfl, bn⟩
            replace h_a := h_a.below bn
            replace h_ra := h_ra.below bn
            replace h_p := h_p.below bn
            replace h_rp := h_rp.below bn
            replace h_x := h_x.below bn
            replace h_rx := h_rx.below bn
            replace h_y := h_y.below bn
            replace h_ry := h_ry.below bn
            replace h_gx := h_gx.below bn
            replace h_rgx := h_rgx.below bn
            replace h_gy := h_gy.below bn
            replace h_rgy := h_rgy.below bn
            replace bw := below_two bw bn
            clear bn
            go_wp2
            go_ret
            exact ⟨rfl, bw⟩
    · have q4 : (m_a : Int) ≤ 8 := by omega
      clear q3
      have h_ra := row3_new w 27 (.bool g_a) (.slice A_a n_a c_a) (.slice B_a m_a d_a)
      have bn := below_new w (.cells #[Value.bool g_a, Value.slice A_a n_a c_a, Value.slice B_a m_a d_a] 27)
      replace h_a := h_a.below bn
      replace bw := below_two bw bn
      clear bn
      go_enter Try.func3, Try.ntmps3
      go_wp2_with fail
      generalize w.alloc (.cells #[Value.bool g_a, Value.slice A_a n_a c_a, Value.slice B_a m_a d_a] 27) = wP at *
      obtain ⟨q_a, eg⟩ : ∃ g, g = w.heap.size := ⟨_, rfl⟩
      rw [← eg] at h_ra ⊢
      clear eg
      refine (qlong_c g_a A_a B_a n_a c_a m_a d_a false T_a.out _).mono ?_
      rintro e w83 ⟨rfl, bn⟩
      replace h_a := h_a.below bn
      replace h_ra := h_ra.below bn
      replace bw := below_two bw bn
      clear bn
      have c_a0 := h_ra.c0
      have c_a1 := h_ra.c1
      have c_a2 := h_ra.c2
      go_wp2_with fail
      clear c_a0 c_a1 c_a2
      refine (ownRat_c h_a (by decide)).mono ?_
      rintro e w84 ⟨A_p, n_p, c_p, B_p, m_p, d_p, rfl, h_p, bn⟩
      replace h_a := h_a.below bn
      replace h_ra := h_ra.below bn
      replace bw := below_two bw bn
      clear bn
      have h_rp := row3_new w84 27 (.bool g_a) (.slice A_p n_p c_p) (.slice B_p m_p d_p)
      have bn := below_new w84 (.cells #[Value.bool g_a, Value.slice A_p n_p c_p, Value.slice B_p m_p d_p] 27)
      replace h_a := h_a.below bn
      replace h_ra := h_ra.below bn
      replace h_p := h_p.below bn
      replace bw := below_two bw bn
      clear bn
      have c_p0 := h_rp.c0
      have c_p1 := h_rp.c1
      have c_p2 := h_rp.c2
      go_wp2_with fail
      clear c_p0 c_p1 c_p2
      generalize w84.alloc (.cells #[Value.bool g_a, Value.slice A_p n_p c_p, Value.slice B_p m_p d_p] 27) = w85 at *
      obtain ⟨q_p, eg⟩ : ∃ g, g = w84.heap.size := ⟨_, rfl⟩
      rw [← eg] at h_rp ⊢
      clear eg
      refine (pOf_c h_p (by decide) v_n _ _ H0.out).mono ?_
      rintro e w86 ⟨A_x, n_x, c_x, B_x, m_x, d_x, rfl, h_x, bn⟩
      replace h_a := h_a.below bn
      replace h_ra := h_ra.below bn
      replace h_p := h_p.below bn
      replace h_rp := h_rp.below bn
      replace bw := below_two bw bn
      clear bn
      have h_rx := row3_new w86 27 (.bool (sg (oTop r0))) (.slice A_x n_x c_x) (.slice B_x m_x d_x)
      have bn := below_new w86 (.cells #[Value.bool (sg (oTop r0)), Value.slice A_x n_x c_x, Value.slice B_x m_x d_x] 27)
      replace h_a := h_a.below bn
      replace h_ra := h_ra.below bn
      replace h_p := h_p.below bn
      replace h_rp := h_rp.below bn
      replace h_x := h_x.below bn
      replace bw := below_two bw bn
      clear bn
      have c_p0 := h_rp.c0
      have c_p1 := h_rp.c1
      have c_p2 := h_rp.c2
      go_wp2_with fail
      clear c_p0 c_p1 c_p2
      generalize w86.alloc (.cells #[Value.bool (sg (oTop r0)), Value.slice A_x n_x c_x, Value.slice B_x m_x d_x] 27) = w87 at *
      obtain ⟨q_x, eg⟩ : ∃ g, g = w86.heap.size := ⟨_, rfl⟩
      rw [← eg] at h_rx ⊢
      clear eg
      refine (pScale_c h_p (by decide) v_m _ _ H1.out).mono ?_
      rintro e w88 ⟨A_y, n_y, c_y, B_y, m_y, d_y, rfl, h_y, bn⟩
      replace h_a := h_a.below bn
      replace h_ra := h_ra.below bn
      replace h_p := h_p.below bn
      replace h_rp := h_rp.below bn
      replace h_x := h_x.below bn
      replace h_rx := h_rx.below bn
      replace bw := below_two bw bn
      clear bn
      have h_ry := row3_new w88 27 (.bool (sg (oTop r1))) (.slice A_y n_y c_y) (.slice B_y m_y d_y)
      have bn := below_new w88 (.cells #[Value.bool (sg (oTop r1)), Value.slice A_y n_y c_y, Value.slice B_y m_y d_y] 27)
      replace h_a := h_a.below bn
      replace h_ra := h_ra.below bn
      replace h_p := h_p.below bn
      replace h_rp := h_rp.below bn
      replace h_x := h_x.below bn
      replace h_rx := h_rx.below bn
      replace h_y := h_y.below bn
      replace bw := below_two bw bn
      clear bn
      go_wp2
      generalize w88.alloc (.cells #[Value.bool (sg (oTop r1)), Value.slice A_y n_y c_y, Value.slice B_y m_y d_y] 27) = w89 at *
      obtain ⟨q_y, eg⟩ : ∃ g, g = w88.heap.size := ⟨_, rfl⟩
      rw [← eg] at h_ry ⊢
      clear eg
      generalize w89 = wS at *
      refine region_freed 8 2 6 [60, 61, 62, 63, 64, 65, 12, 13] ?aF36 (fun wx => Below wS.heap.size wS wx) (fun k vv wx => match k with
          | 0 => vv = .agg #[.bool g_a, .slice A_a n_a c_a, .slice B_a m_a d_a]
          | 1 => vv = .int .i64 v_n
          | 2 => ∃ (e0 : Option Addr) (e1 : Nat) (e2 : Nat) (e3 : Option Addr) (e4 : Nat) (e5 : Nat), vv = .agg #[.bool (sg (oTop r0)), .slice e0 e1 e2, .slice e3 e4 e5, .int .i64 k0] ∧ QT wx e0 e1 e2 e3 e4 e5 r0
          | 3 => vv = .agg #[.bool g_a, .slice A_a n_a c_a, .slice B_a m_a d_a]
          | 4 => vv = .int .i64 v_m
          | 5 => ∃ (e0 : Option Addr) (e1 : Nat) (e2 : Nat) (e3 : Option Addr) (e4 : Nat) (e5 : Nat), vv = .agg #[.bool (sg (oTop r1)), .slice e0 e1 e2, .slice e3 e4 e5, .int .i64 k1] ∧ QT wx e0 e1 e2 e3 e4 e5 r1
          | 6 => ∃ (e0 : Nat), vv = .pointer (some ⟨e0, 0, none⟩) ∧ Row4 wx e0 35 (.bool false) (.slice none 0 0) (.slice none 0 0) (.int .i64 0) ∧ Over wS e0 wx
          | _ => ∃ (e0 : Nat), vv = .pointer (some ⟨e0, 0, none⟩) ∧ Row4 wx e0 35 (.bool false) (.slice none 0 0) (.slice none 0 0) (.int .i64 0) ∧ Over wS e0 wx)
        (fun k => k == 6 || k == 7) (by kernel_rfl) ?haF36 rfl (by kernel_rfl) (by kernel_rfl) (fun _ _ _ _ _ h => h) ?hSb36 ?hPb36 ?hS36 ?hop36 ?hfin36
      case haF36 =>
        intro vals
        simp only [fillAll, List.getElem?_cons_zero, List.getElem?_cons_succ, Act.put, List.setIfInBounds_toArray, List.set_cons_zero, List.set_cons_succ]
        exact rfl
      case hSb36 => exact fun wx w2 hb hS => below_two hS hb
      case hPb36 =>
        intro k v wa wb hb h
        match k, h with
        | 0, h => exact h
        | 1, h => exact h
        | 2, ⟨e0, e1, e2, e3, e4, e5, h1, g0⟩ => exact ⟨e0, e1, e2, e3, e4, e5, h1, g0.below hb⟩
        | 3, h => exact h
        | 4, h => exact h
        | 5, ⟨e0, e1, e2, e3, e4, e5, h1, g0⟩ => exact ⟨e0, e1, e2, e3, e4, e5, h1, g0.below hb⟩
        | 6, ⟨e0, h1, g0, g1⟩ => exact ⟨e0, h1, g0.below hb, g1.below hb⟩
        | _ + 7, ⟨e0, h1, g0, g1⟩ => exact ⟨e0, h1, g0.below hb, g1.below hb⟩
      case hS36 => exact (Below.refl _ _).drew
      case hop36 =>
        refine .cons (k := 0) (.plain rfl ?_) (.cons (k := 1) (.plain rfl ?_) (.cons (k := 2) (.plain rfl ?_) (.cons (k := 3) (.plain rfl ?_) (.cons (k := 4) (.plain rfl ?_) (.cons (k := 5) (.plain rfl ?_) (.cons (k := 6) (.plain rfl ?_) (.cons (k := 7) (.plain rfl ?_) (.nil))))))))
        all_goals intro vals wr hS hd KC hK
        all_goals (show Oper.wp _ _ _ _ _ _; dsimp only)
        · have z0 := (h_ra.below hS).c0
          have z1 := (h_ra.below hS).c1
          have z2 := (h_ra.below hS).c2
          go_simp
          refine hK _ _ rfl (Below.refl _ _) (by first | rfl | simp) (fun h => by cases h)
        · go_simp
          refine hK _ _ rfl (Below.refl _ _) (by first | rfl | simp) (fun h => by cases h)
        · have d0 : vals 0 = _ := hd 0 (by decide +kernel)
          have d1 : vals 1 = _ := hd 1 (by decide +kernel)
          rw [d0, d1]
          go_simp
          go_at_call 13
          with_reducible refine (refPOf_c (h_a.below hS) (by decide) v_n _ _ H0.out).mono ?_
          rintro e w2 ⟨r0, r1, r2, r3, r4, r5, rfl, f0, bn_r⟩
          refine hK _ _ rfl bn_r ⟨_, _, _, _, _, _, rfl, f0⟩ (fun h => by cases h)
        · have z0 := (h_ra.below hS).c0
          have z1 := (h_ra.below hS).c1
          have z2 := (h_ra.below hS).c2
          go_simp
          refine hK _ _ rfl (Below.refl _ _) (by first | rfl | simp) (fun h => by cases h)
        · go_simp
          refine hK _ _ rfl (Below.refl _ _) (by first | rfl | simp) (fun h => by cases h)
        · have d3 : vals 3 = _ := hd 3 (by decide +kernel)
          have d4 : vals 4 = _ := hd 4 (by decide +kernel)
          rw [d3, d4]
          go_simp
          go_at_call 14
          with_reducible refine (refPScale_c (h_a.below hS) (by decide) v_m _ _ H1.out).mono ?_
          rintro e w2 ⟨r0, r1, r2, r3, r4, r5, rfl, f0, bn_r⟩
          refine hK _ _ rfl bn_r ⟨_, _, _, _, _, _, rfl, f0⟩ (fun h => by cases h)
        · go_simp
          refine hK _ _ rfl (below_new _ _) ⟨_, rfl, row4_new wr _ _ _ _ _ , hS.size⟩ (fun _ => ⟨_, rfl, Nat.le_refl _, by rw [World.size_alloc]; omega⟩)
        · go_simp
          refine hK _ _ rfl (below_new _ _) ⟨_, rfl, row4_new wr _ _ _ _ _ , hS.size⟩ (fun _ => ⟨_, rfl, Nat.le_refl _, by rw [World.size_alloc]; omega⟩)
      case hfin36 =>
        intro vals wr hS hP hne
        obtain ⟨A_2_0, n_2_1, n_2_2, A_2_3, n_2_4, n_2_5, ez_2, h_2_0⟩ := hP 2 (by decide)
        obtain ⟨A_5_0, n_5_1, n_5_2, A_5_3, n_5_4, n_5_5, ez_5, h_5_0⟩ := hP 5 (by decide)
        obtain ⟨n_6_0, ez_6, h_6_0, h_6_1⟩ := hP 6 (by decide)
        obtain ⟨n_7_0, ez_7, h_7_0, h_7_1⟩ := hP 7 (by decide)
        have ne_6_7 : n_6_0 ≠ n_7_0 := hne 6 7 (by decide) (by decide) (by decide) rfl rfl _ _ ez_6 ez_7
        have ne_7_6 : n_7_0 ≠ n_6_0 := hne 7 6 (by decide) (by decide) (by decide) rfl rfl _ _ ez_7 ez_6
        have v0_0 := Row4.c0 h_6_0
        have v0_1 := Row4.c1 h_6_0
        have v0_2 := Row4.c2 h_6_0
        have v0_3 := Row4.c3 h_6_0
        have y0_0 := Row4.free h_6_0 0
        have y0_1 := Row4.free h_6_0 1
        have y0_2 := Row4.free h_6_0 2
        have y0_3 := Row4.free h_6_0 3
        have v1_0 := Row4.c0 h_7_0
        have v1_1 := Row4.c1 h_7_0
        have v1_2 := Row4.c2 h_7_0
        have v1_3 := Row4.c3 h_7_0
        have y1_0 := Row4.free h_7_0 0
        have y1_1 := Row4.free h_7_0 1
        have y1_2 := Row4.free h_7_0 2
        have y1_3 := Row4.free h_7_0 3
        have bS := hS
        have hNo := Row4.noLimb h_6_0 (by intro v e; cases e) (by intro v e; cases e) (by intro v e; cases e) (by intro v e; cases e)
        replace h_2_0 := QQ.fillR4 h_2_0 hNo (.bool (sg (oTop r0))) (.slice A_2_0 n_2_1 n_2_2) (.slice A_2_3 n_2_4 n_2_5) (.int .i64 k0)
        replace h_5_0 := QQ.fillR4 h_5_0 hNo (.bool (sg (oTop r0))) (.slice A_2_0 n_2_1 n_2_2) (.slice A_2_3 n_2_4 n_2_5) (.int .i64 k0)
        replace h_7_0 := ((((h_7_0.set ne_6_7 0 (.bool (sg (oTop r0)))).set ne_6_7 1 (.slice A_2_0 n_2_1 n_2_2)).set ne_6_7 2 (.slice A_2_3 n_2_4 n_2_5)).set ne_6_7 3 (.int .i64 k0))
        have k_6 := Row4.fill h_6_0 (.bool (sg (oTop r0))) (.slice A_2_0 n_2_1 n_2_2) (.slice A_2_3 n_2_4 n_2_5) (.int .i64 k0)
        replace bS := below_fill4 bS h_6_1 (.bool (sg (oTop r0))) (.slice A_2_0 n_2_1 n_2_2) (.slice A_2_3 n_2_4 n_2_5) (.int .i64 k0)
        clear hNo
        have hNo := Row4.noLimb h_7_0 (by intro v e; cases e) (by intro v e; cases e) (by intro v e; cases e) (by intro v e; cases e)
        replace h_2_0 := QQ.fillR4 h_2_0 hNo (.bool (sg (oTop r1))) (.slice A_5_0 n_5_1 n_5_2) (.slice A_5_3 n_5_4 n_5_5) (.int .i64 k1)
        replace h_5_0 := QQ.fillR4 h_5_0 hNo (.bool (sg (oTop r1))) (.slice A_5_0 n_5_1 n_5_2) (.slice A_5_3 n_5_4 n_5_5) (.int .i64 k1)
        replace k_6 := ((((k_6.set ne_7_6 0 (.bool (sg (oTop r1)))).set ne_7_6 1 (.slice A_5_0 n_5_1 n_5_2)).set ne_7_6 2 (.slice A_5_3 n_5_4 n_5_5)).set ne_7_6 3 (.int .i64 k1))
        have k_7 := Row4.fill h_7_0 (.bool (sg (oTop r1))) (.slice A_5_0 n_5_1 n_5_2) (.slice A_5_3 n_5_4 n_5_5) (.int .i64 k1)
        replace bS := below_fill4 bS h_7_1 (.bool (sg (oTop r1))) (.slice A_5_0 n_5_1 n_5_2) (.slice A_5_3 n_5_4 n_5_5) (.int .i64 k1)
        clear hNo
        try dsimp only
        rw [ez_2, ez_5, ez_6, ez_7]
        refine wpAny_ready (rs := [8]) (by kernel_rfl) (by simp) (AllReady.cons rfl (fun KC hK => ?_) AllReady.nil)
        go_simp
        refine hK _ _ ?_
        clear hK KC
        refine wpAny_ready (rs := [9]) (by kernel_rfl) (by simp) (AllReady.cons rfl (fun KC hK => ?_) AllReady.nil)
        go_simp
        refine hK _ _ ?_
        clear hK KC
        refine wpAny_done (by kernel_rfl) ?_ _
        generalize (((((((wr.setCell ⟨n_6_0, 0, none⟩ (.bool (sg (oTop r0)))).setCell ⟨n_6_0, 1, none⟩ (.slice A_2_0 n_2_1 n_2_2)).setCell ⟨n_6_0, 2, none⟩ (.slice A_2_3 n_2_4 n_2_5)).setCell ⟨n_6_0, 3, none⟩ (.int .i64 k0)).setCell ⟨n_7_0, 0, none⟩ (.bool (sg (oTop r1)))).setCell ⟨n_7_0, 1, none⟩ (.slice A_5_0 n_5_1 n_5_2)).setCell ⟨n_7_0, 2, none⟩ (.slice A_5_3 n_5_4 n_5_5)).setCell ⟨n_7_0, 3, none⟩ (.int .i64 k1) = w90 at *
        clear hS v0_0 y0_0 v0_1 y0_1 v0_2 y0_2 v0_3 y0_3 v1_0 y1_0 v1_1 y1_1 v1_2 y1_2 v1_3 y1_3 ez_2 ez_5 ez_6 ez_7 h_6_0 h_6_1 h_7_0 h_7_1
        have bn := bS
        clear bS
        obtain ⟨q_gx, A_gx, n_gx, c_gx, B_gx, m_gx, d_gx, eg⟩ : ∃ q A n c B m d, (q, A, n, c, B, m, d) = (n_6_0, A_2_0, n_2_1, n_2_2, A_2_3, n_2_4, n_2_5) := ⟨_, _, _, _, _, _, _, rfl⟩
        injection eg with e1 eg; injection eg with e2 eg; injection eg with e3 eg; injection eg with e4 eg; injection eg with e5 eg; injection eg with e6 e7
        subst e1 e2 e3 e4 e5 e6 e7
        have h_gx := h_2_0
        have h_rgx := k_6
        clear h_2_0 k_6
        obtain ⟨q_gy, A_gy, n_gy, c_gy, B_gy, m_gy, d_gy, eg⟩ : ∃ q A n c B m d, (q, A, n, c, B, m, d) = (n_7_0, A_5_0, n_5_1, n_5_2, A_5_3, n_5_4, n_5_5) := ⟨_, _, _, _, _, _, _, rfl⟩
        injection eg with e1 eg; injection eg with e2 eg; injection eg with e3 eg; injection eg with e4 eg; injection eg with e5 eg; injection eg with e6 e7
        subst e1 e2 e3 e4 e5 e6 e7
        have h_gy := h_5_0
        have h_rgy := k_7
        clear h_5_0 k_7
        replace h_a := h_a.below bn
        replace h_ra := h_ra.below bn
        replace h_p := h_p.below bn
        replace h_rp := h_rp.below bn
        replace h_x := h_x.below bn
        replace h_rx := h_rx.below bn
        replace h_y := h_y.below bn
        replace h_ry := h_ry.below bn
        replace bw := below_two bw bn
        clear bn
        have c_x0 := h_rx.c0
        have c_x1 := h_rx.c1
        have c_x2 := h_rx.c2
        have c_gx0 := h_rgx.c0
        have c_gx1 := h_rgx.c1
        have c_gx2 := h_rgx.c2
        have c_gx3 := h_rgx.c3
        go_wp2_with fail
        clear c_x0 c_x1 c_x2 c_gx0 c_gx1 c_gx2 c_gx3
        refine (keepRat_c h_x h_gx (by decide) (by decide) true (keepQ rfl)).mono ?_
        rintro e w91 ⟨rfl, bn⟩
        replace h_a := h_a.below bn
        replace h_ra := h_ra.below bn
        replace h_p := h_p.below bn
        replace h_rp := h_rp.below bn
        replace h_x := h_x.below bn
        replace h_rx := h_rx.below bn
        replace h_y := h_y.below bn
        replace h_ry := h_ry.below bn
        replace h_gx := h_gx.below bn
        replace h_rgx := h_rgx.below bn
        replace h_gy := h_gy.below bn
        replace h_rgy := h_rgy.below bn
        replace bw := below_two bw bn
        clear bn
        have c_gx0 := h_rgx.c0
        have c_gx1 := h_rgx.c1
        have c_gx2 := h_rgx.c2
        have c_gx3 := h_rgx.c3
        have c_y0 := h_ry.c0
        have c_y1 := h_ry.c1
        have c_y2 := h_ry.c2
        have c_gy0 := h_rgy.c0
        have c_gy1 := h_rgy.c1
        have c_gy2 := h_rgy.c2
        have c_gy3 := h_rgy.c3
        go_wp2_with fail
        clear c_gx0 c_gx1 c_gx2 c_gx3 c_y0 c_y1 c_y2 c_gy0 c_gy1 c_gy2 c_gy3
        refine (keepRat_c h_y h_gy (by decide) (by decide) true (keepQ rfl)).mono ?_
        rintro e w92 ⟨rfl, bn⟩
        replace h_a := h_a.below bn
        replace h_ra := h_ra.below bn
        replace h_p := h_p.below bn
        replace h_rp := h_rp.below bn
        replace h_x := h_x.below bn
        replace h_rx := h_rx.below bn
        replace h_y := h_y.below bn
        replace h_ry := h_ry.below bn
        replace h_gx := h_gx.below bn
        replace h_rgx := h_rgx.below bn
        replace h_gy := h_gy.below bn
        replace h_rgy := h_rgy.below bn
        replace bw := below_two bw bn
        clear bn
        have c_gy0 := h_rgy.c0
        have c_gy1 := h_rgy.c1
        have c_gy2 := h_rgy.c2
        have c_gy3 := h_rgy.c3
        have c_p0 := h_rp.c0
        have c_p1 := h_rp.c1
        have c_p2 := h_rp.c2
        have c_a0 := h_ra.c0
        have c_a1 := h_ra.c1
        have c_a2 := h_ra.c2
        go_wp2_with fail
        clear c_gy0 c_gy1 c_gy2 c_gy3 c_p0 c_p1 c_p2 c_a0 c_a1 c_a2
        refine (keepRat_c h_p h_a (by decide) (by decide) true (keep_self3 _ _ _)).mono ?_
        rintro e w93 ⟨rfl, bn⟩
        replace h_a := h_a.below bn
        replace h_ra := h_ra.below bn
        replace h_p := h_p.below bn
        replace h_rp := h_rp.below bn
        replace h_x := h_x.below bn
        replace h_rx := h_rx.below bn
        replace h_y := h_y.below bn
        replace h_ry := h_ry.below bn
        replace h_gx := h_gx.below bn
        replace h_rgx := h_rgx.below bn
        replace h_gy := h_gy.below bn
        replace h_rgy := h_rgy.below bn
        replace bw := below_two bw bn
        clear bn
        go_wp2_with fail
        refine (wakes_any _).mono ?_
        rintro e w94 ⟨rfl, bn⟩
        replace h_a := h_a.below bn
        replace h_ra := h_ra.below bn
        replace h_p := h_p.below bn
        replace h_rp := h_rp.below bn
        replace h_x := h_x.below bn
        replace h_rx := h_rx.below bn
        replace h_y := h_y.below bn
        replace h_ry := h_ry.below bn
        replace h_gx := h_gx.below bn
        replace h_rgx := h_rgx.below bn
        replace h_gy := h_gy.below bn
        replace h_rgy := h_rgy.below bn
        replace bw := below_two bw bn
        clear bn
        go_wp2
        go_ret
        exact ⟨rfl, bw⟩

set_option maxRecDepth 100000 in
theorem lifted (os : Os) (started : os.Started) (H : Type) (enc : TypeId × Value → H) :
    ReturnsInHanded {} Try.checked os 3 .any (Rows.powerTellsSpec.pre6 enc Try.prog Try.f3 Rows.powerTellsRow.domain false) (Rows.powerTellsSpec.post enc Try.prog Try.f3 false true false false) := by
  refine returnsInHanded_of_change (C := Try.checked) own started (by kernel_rfl) Try.func3
    (ChangeSpec.witness6 (enc := enc) (C := Try.checked) false ⟨#[], #[.agg #[.bool false, .slice none 0 0, .slice none 0 0], .int .i64 0, .int .i64 0], []⟩ 8 (by kernel_rfl) (by kernel_rfl) (by kernel_rfl) (by kernel_rfl)) ?_
  intro W base args ds gs before hval0 hW hcnd _
  have hval : ∀ (j : Nat) t v, Try.f3.params[j]? = some t → args[j]? = some v → Value.okWide Try.prog W .any base t v := hval0
  have hW' := hW
  obtain ⟨p, q, hA0, hV, rfl, hfz, hnd⟩ := hW
  have hA : DataW.TrodAll enc Try.prog W 0 (fun _ => true) true Try.f3.params.toList args.toList ds p := hA0
  rw [Try.params3] at hA hval
  obtain ⟨v0, vs0, d0, ds0, p0, q0, hargs, rfl, rfl, h0, r0⟩ := trodAll_cons hA
  obtain ⟨v1, vs1, d1, ds1, p1, q1, rfl, rfl, rfl, h1, r1⟩ := trodAll_cons r0
  obtain ⟨v2, vs2, d2, ds2, p2, q2, rfl, rfl, rfl, h2, r2⟩ := trodAll_cons r1
  obtain ⟨rfl, rfl, rfl⟩ := trodAll_nil r2
  obtain rfl : args = #[v0, v1, v2] := by cases args; simp_all
  obtain ⟨rfl, rfl⟩ := trodVars_none hV
  obtain ⟨b0, a0, len0, cap0, z0, e0, lem0, dap0, y0, rfl, i0, hc0, hm0, k0, kc0, km0⟩ := open_rat (hval 0 27 v0 rfl rfl) h0
  obtain ⟨a1, rfl, rfl, rfl, w1⟩ := open_int Try.underlying3 (hval 1 3 v1 rfl rfl) h1
  obtain ⟨a2, rfl, rfl, rfl, w2⟩ := open_int Try.underlying3 (hval 2 3 v2 rfl rfl) h2
  clear hA0 hval0
  refine (walk b0 a0 len0 cap0 z0 e0 lem0 dap0 y0 a1 a2 W i0 hc0 hm0 k0 kc0 km0 w1 w2).mono fun e W' ⟨he, bel⟩ => ?_
  subst he
  exact ⟨_, rfl, _, _, _, [], _, [], hW', trodAll_mk1 (shut_bool Try.underlying4 _), (trodAll_cons_mk (Below.trod laidOut (by kernel_rfl) (of_decide_eq_true (by kernel_rfl)) h0 bel (places_lt h0)) (trodAll_cons_mk (shut_int Try.underlying3 w1) (trodAll_cons_mk (shut_int Try.underlying3 w2) trodAll_mk0))), rfl, bel.frame _, fun h => by cases h⟩

theorem over : Rows.powerTellsRow.holds Try.pinned (OpenSpec.ofChange Rows.powerTellsSpec) :=
  OpenClaim.holds_of_wide 3 Try.f3 rfl rfl rfl rfl rfl rfl rfl ⟨rfl, rfl, rfl, rfl, rfl⟩ rfl rfl rfl rfl rfl (by kernel_rfl) Try.func3 (by kernel_rfl)
    (of_decide_eq_true (by kernel_rfl)) (by unfold Func.isWrapper; first | (rw [if_pos (by decide +kernel)]; kernel_rfl) | (rw [if_neg (by decide +kernel)]; exact ⟨rfl, rfl⟩))
    (fun os started H enc _ => lifted os started H enc)

theorem proved : Rows.PowerTellsSaid := over

end Go.Proofs.Ytmifgblbicnimaa.lawPowerTells
